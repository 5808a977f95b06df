/- Bytes of a packet. No condition. -/
import Derived.Test.YtgpjelcihmbiiaaVLc
namespace Go.Proofs.Ytgpjelcihmbiiaa
open Go.RowKit
set_option linter.unusedVariables false
set_option linter.unusedSimpArgs false
set_option maxRecDepth 100000

theorem run_newL3 (w : World) : (Instr.alloc 96 true (.tuple #[])).run Try.prog w = .ok (.pointer (some ⟨w.heap.size, 0, none⟩)) (w.alloc (.cells ([.slice none 0 0, .int .u32 0, .int .u32 0] : List Value).toArray 96)) := by kernel_rfl
theorem run_newL4 (w : World) : (Instr.alloc 98 true (.tuple #[])).run Try.prog w = .ok (.pointer (some ⟨w.heap.size, 0, none⟩)) (w.alloc (.cells ([.slice none 0 0, .int .u32 0, .int .u32 0, .int .i64 0] : List Value).toArray 98)) := by kernel_rfl
theorem run_newL7 (w : World) : (Instr.alloc 100 true (.tuple #[])).run Try.prog w = .ok (.pointer (some ⟨w.heap.size, 0, none⟩)) (w.alloc (.cells ([.slice none 0 0, .int .u32 0, .int .u32 0, .int .i64 0, .int .u32 0, .int .u32 0, .int .i64 0] : List Value).toArray 100)) := by kernel_rfl
set_option maxHeartbeats 4000000 in
theorem layers_is (src dst ttl ent vni mark : Int) (f : FL) (xs : List Int) (fa : Option Addr) (fc : Nat) (w : World) :
    Calls Try.prog 58 #[PL.v ⟨src, dst, ttl, ent, vni, mark, f⟩, .slice fa xs.length fc] w fun e w' => e = .returned (.agg #[.slice fa xs.length fc, .int .u32 mark, .int .u32 vni, .int .i64 ent, .int .u32 src, .int .u32 dst, .int .i64 ttl]) ∧ Below w.heap.size w w' := by
  unfold PL.v
  generalize xs.length = n
  go_enter Try.func58, Try.ntmps58
  go_wp2_with (first
    | (refine at_box rfl 55 _ rfl (PL.cs ⟨src, dst, ttl, ent, vni, mark, f⟩) rfl ?_; rintro w1 H1 k1 s1)
    | (refine at_new rfl 100 [.slice none 0 0, .int .u32 0, .int .u32 0, .int .i64 0, .int .u32 0, .int .u32 0, .int .i64 0] rfl run_newL7 ?_; rintro w2 R2 k2 s2; rw [s1] at R2; have H2 := H1.below k2 H1.lt; have b2 := k1.trans (k2.mono k1.size); have SS := Lib.hid s2; have l2 := R2.lt; have c4 := H2.cell 4 (v := .int .u32 vni) rfl; have c5 := H2.cell 5 (v := .int .u32 mark) rfl; clear k1 k2 H1 s2; try go_simp)
    | (refine at_bld rfl 94 _ rfl [.slice fa n fc] (by kernel_rfl) ?_)
    | (refine at_bld rfl 96 _ rfl [.slice fa n fc, .int .u32 mark, .int .u32 vni] (by kernel_rfl) ?_)
    | (refine at_new rfl 96 [.slice none 0 0, .int .u32 0, .int .u32 0] rfl run_newL3 ?_; rintro w3 X3 k3 s3; have b3 := b2.trans (k3.mono b2.size); have H3 := H2.below k3 H2.lt; have R3 := R2.below k3 R2.lt; have FB := b2.size; clear b2 H2 R2 k3 s3 c4 c5; try go_simp)
    | (refine at_put rfl 96 _ _ rfl rfl w2.heap.size rfl [.slice fa n fc, .int .u32 mark, .int .u32 vni] rfl X3 rfl szL3 (by simp [Value.oneCell']) ?_; rintro w4 g4; have X4 := g4.blk; have b4 := g4.below b3 FB; have H4 := g4.but.blk H3 H3.lt (show w.heap.size ≠ w2.heap.size by omega); have R4 := g4.but.blk R3 R3.lt (show w.heap.size + 1 ≠ w2.heap.size by omega); have l4 := X4.lt; have c3 := H4.cell 3 (v := .int .i64 ent) rfl; clear b3 H3 R3 X3 g4)
    | (refine at_mid rfl 96 _ rfl w2.heap.size 0 rfl X4 [.slice fa n fc, .int .u32 mark, .int .u32 vni] rfl _ Try.underlying96 rfl szL3 ?_)
    | (refine at_bld rfl 98 _ rfl [.slice fa n fc, .int .u32 mark, .int .u32 vni, .int .i64 ent] (by kernel_rfl) ?_)
    | (refine at_new rfl 98 [.slice none 0 0, .int .u32 0, .int .u32 0, .int .i64 0] rfl run_newL4 ?_; rintro w5 Y5 k5 s5; have b5 := b4.trans (k5.mono b4.size); have H5 := H4.below k5 H4.lt; have R5 := R4.below k5 R4.lt; have FB4 := b4.size; clear b4 H4 R4 X4 k5 s5 c3; try go_simp)
    | (refine at_put rfl 98 _ _ rfl rfl w4.heap.size rfl [.slice fa n fc, .int .u32 mark, .int .u32 vni, .int .i64 ent] rfl Y5 rfl szL4 (by simp [Value.oneCell']) ?_; rintro w6 g6; have Y6 := g6.blk; have b6 := g6.below b5 FB4; have H6 := g6.but.blk H5 H5.lt (show w.heap.size ≠ w4.heap.size by omega); have R6 := g6.but.blk R5 R5.lt (show w.heap.size + 1 ≠ w4.heap.size by omega); have c0 := H6.cell 0 (v := .int .u32 src) rfl; have c1 := H6.cell 1 (v := .int .u32 dst) rfl; have c2 := H6.cell 2 (v := .int .i64 ttl) rfl; clear b5 H5 R5 Y5 g6)
    | (refine at_mid rfl 98 _ rfl w4.heap.size 0 rfl Y6 [.slice fa n fc, .int .u32 mark, .int .u32 vni, .int .i64 ent] rfl _ Try.underlying98 rfl szL4 ?_)
    | (refine at_bld rfl 100 _ rfl [.slice fa n fc, .int .u32 mark, .int .u32 vni, .int .i64 ent, .int .u32 src, .int .u32 dst, .int .i64 ttl] (by kernel_rfl) ?_)
    | (refine at_put rfl 100 _ _ rfl rfl (w.heap.size + 1) rfl [.slice fa n fc, .int .u32 mark, .int .u32 vni, .int .i64 ent, .int .u32 src, .int .u32 dst, .int .i64 ttl] rfl R6 rfl szL7 (by simp [Value.oneCell']) ?_; rintro w7 g7; have R7 := g7.blk; have b7 := g7.below b6 (Nat.le_succ _); clear b6 H6 R6 Y6 g7 c0 c1 c2))
  exact bodyPost_ret (results_cell_row (by rfl) _ _ (w.heap.size + 1) _ _ _ _ rfl R7 Try.underlying100 rfl szL7) rfl ⟨rfl, b7⟩
theorem enc_short {f : FL} (hf : f.Ok) (hc : f.chk = 0) : f.enc.length ≤ 50 := by
  have h := (dec_enc hf hc).2.2.1
  unfold szOf at h
  split at h
  · omega
  · split at h
    · omega
    · split at h <;> omega
theorem vbytes_bad (p : PL) (hc : p.chk ≠ 0) (w : World) : Calls Try.prog 30 #[p.v] w fun e w' => e = .returned (.tuple #[.slice none 0 0, .int .i64 p.chk]) ∧ Below w.heap.size w w' := by
  have hC := fun w => vcheck_is p w
  have A : (p.chk != 0) = true := by simpa using hc
  generalize p.chk = y at hC A ⊢
  clear hc
  unfold PL.v at hC ⊢
  go_enter Try.func30, Try.ntmps30
  go_wp2_with (first
    | (refine at_box rfl 55 _ rfl (PL.cs p) rfl ?_; rintro w1 H1 k1 s1)
    | (refine at_mid rfl 55 _ rfl w.heap.size 0 rfl H1 (PL.cs p) rfl _ Try.underlying55 rfl szP ?_)
    | (go_at_call 32; refine (hC w1).mono ?_; rintro e w2 ⟨rfl, k2⟩; have b2 := k1.trans (k2.mono k1.size); clear k1 k2 H1 hC))
  go_ret2
  exact ⟨rfl, b2⟩
set_option maxHeartbeats 2000000 in
theorem vbytes_ok (p : PL) (hp : p.Ok) (hc : p.chk = 0) (w : World) : Calls Try.prog 30 #[p.v] w fun e w' => ∃ v, e = .returned (.tuple #[v, .int .i64 0]) ∧ DatB w.heap.size w' v p.enc ∧ Below w.heap.size w w' := by
  have hC := fun w => vcheck_is p w
  rw [hc] at hC
  obtain ⟨hh, hfc⟩ := pchk_zero hc
  have hb := hd_true hh
  have HB := fun w => bytes_ok p.f hp.f hfc w
  have hle := enc_short hp.f hfc
  have q1 := hp.src; have q2 := hp.dst; have q3 := hp.vni; have q4 := hp.mark
  obtain ⟨src, dst, ttl, ent, vni, mark, f⟩ := p
  dsimp only at *
  have LY := fun fa fc w => layers_is src dst ttl ent vni mark f f.enc fa fc w
  have AI := fun fa fc w h => aip_is f.enc (by omega) fa fc mark vni ent src dst ttl q4.1 (by omega) q3.1 (by omega) (by omega) (by omega) q1.1 q1.2 q2.1 q2.2 (by omega) (by omega) w h
  unfold PL.enc PL.hdr
  dsimp only
  generalize f.enc = xs at *
  generalize rh ((xs.length + 36 : Nat) : Int) ttl 17 src dst (sumI (rh ((xs.length + 36 : Nat) : Int) ttl 17 src dst 0)) ++ (udB ent xs.length ++ (vxB mark vni ++ xs)) = E at *
  clear hc hh hfc hb hle q1 q2 q3 q4 hp
  unfold PL.v at hC LY ⊢
  unfold FL.v at HB
  go_enter Try.func30, Try.ntmps30
  go_wp2_with (first
    | (refine at_box rfl 55 _ rfl (PL.cs ⟨src, dst, ttl, ent, vni, mark, f⟩) rfl ?_; rintro w1 H1 k1 s1)
    | (refine at_mid rfl 55 _ rfl w.heap.size 0 rfl H1 (PL.cs ⟨src, dst, ttl, ent, vni, mark, f⟩) rfl _ Try.underlying55 rfl szP ?_)
    | (go_at_call 32; refine (hC w1).mono ?_; rintro e w2 ⟨rfl, k2⟩; have b2 := k1.trans (k2.mono k1.size); have H2 := H1.below k2 H1.lt; clear k1 k2 H1 hC)
    | (refine at_mid rfl 36 _ rfl w.heap.size 6 rfl H2 (FL.cs f) rfl _ Try.underlying36 rfl szF ?_))
  go_at_call 16
  refine (HB w2).mono ?_
  rintro e w3 ⟨fv, rfl, d3, k3⟩
  have b3 := b2.trans (k3.mono b2.size)
  have H3 := H2.below k3 H2.lt
  obtain ⟨fa, fc, rfl⟩ := d3.dat.shape
  clear k3 b2 H2 HB
  go_wp2_with (refine at_mid rfl 55 _ rfl w.heap.size 0 rfl H3 (PL.cs ⟨src, dst, ttl, ent, vni, mark, f⟩) rfl _ Try.underlying55 rfl szP ?_)
  go_at_call 58
  refine (LY fa fc w3).mono ?_
  rintro e w4 ⟨rfl, k4⟩
  have b4 := b3.trans (k4.mono b3.size)
  have d4 := d3.dat.seg.below k4
  clear d3 k4 b3 H3 LY
  go_wp2_with fail
  go_at_call 59
  refine (AI fa fc w4 d4).mono ?_
  rintro e w5 ⟨v, rfl, d5, k5⟩
  go_wp2
  go_ret2
  exact ⟨v, rfl, World.ownsRow.mono d5 b4.size, b4.trans (k5.mono b4.size)⟩
end Go.Proofs.Ytgpjelcihmbiiaa
