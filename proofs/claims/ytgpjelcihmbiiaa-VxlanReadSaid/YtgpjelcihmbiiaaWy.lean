/- Why a packet is not valid: the reference. No condition. The reference of layer 8: Bytes. No condition. The reference of layer 8: Read of what has no frame. No condition. The reference of layer 8: Read. No condition. VxlanRead: the law's walk. No condition. VxlanRead: whatever the input, the law returns true. No condition. -/
import Derived.Test.YtgpjelcihmbiiaaVCk
import Derived.Test.YtgpjelcihmbiiaaWq
import Derived.Test.YtgpjelcihmbiiaaVLd
import Derived.Test.YtgpjelcihmbiiaaVSk
import Derived.Test.YtgpjelcihmbiiaaVMt
import Derived.Test.YtgpjelcihmbiiaaWx
import Derived.Test.YtgpjelcihmbiiaaVLv
import Derived.Test.YtgpjelcihmbiiaaPLv
import Derived.Test.YtgpjelcihmbiiaaVOp
namespace Go.Proofs.Ytgpjelcihmbiiaa
open Go.RowKit
set_option linter.unusedVariables false
set_option linter.unusedSimpArgs false
set_option maxRecDepth 100000

set_option maxHeartbeats 2000000 in
theorem rvck0 (src dst ttl ent vni mark : Int) (f : FL) (h0 : ttl < 0) (w : World) : Calls Try.prog 35 #[PL.v ⟨src, dst, ttl, ent, vni, mark, f⟩] w fun e w' => e = .returned (.int .i64 2) ∧ Below w.heap.size w w' := by
  have q0 : decide (ttl < 0) = true := by simpa using h0
  clear h0
  unfold PL.v
  go_enter Try.func35, Try.ntmps35
  go_wp2_with (first
    | (refine at_box rfl 55 _ rfl (PL.cs ⟨src, dst, ttl, ent, vni, mark, f⟩) rfl ?_; rintro w1 H1 k1 s1; have c2 := H1.cell 2 (v := .int .i64 ttl) rfl; have c3 := H1.cell 3 (v := .int .i64 ent) rfl; have c4 := H1.cell 4 (v := .int .u32 vni) rfl; have c5 := H1.cell 5 (v := .int .u32 mark) rfl))
  go_ret
  exact ⟨rfl, k1⟩
set_option maxHeartbeats 2000000 in
theorem rvck1 (src dst ttl ent vni mark : Int) (f : FL) (h0 : ¬ ttl < 0) (h1 : 255 < ttl) (w : World) : Calls Try.prog 35 #[PL.v ⟨src, dst, ttl, ent, vni, mark, f⟩] w fun e w' => e = .returned (.int .i64 2) ∧ Below w.heap.size w w' := by
  have q0 : decide (ttl < 0) = false := by simpa using h0
  have q1 : decide (255 < ttl) = true := by simpa using h1
  clear h0 h1
  unfold PL.v
  go_enter Try.func35, Try.ntmps35
  go_wp2_with (first
    | (refine at_box rfl 55 _ rfl (PL.cs ⟨src, dst, ttl, ent, vni, mark, f⟩) rfl ?_; rintro w1 H1 k1 s1; have c2 := H1.cell 2 (v := .int .i64 ttl) rfl; have c3 := H1.cell 3 (v := .int .i64 ent) rfl; have c4 := H1.cell 4 (v := .int .u32 vni) rfl; have c5 := H1.cell 5 (v := .int .u32 mark) rfl))
  go_ret
  exact ⟨rfl, k1⟩
set_option maxHeartbeats 2000000 in
theorem rvck2 (src dst ttl ent vni mark : Int) (f : FL) (h0 : ¬ ttl < 0) (h1 : ¬ 255 < ttl) (h2 : ent < 0) (w : World) : Calls Try.prog 35 #[PL.v ⟨src, dst, ttl, ent, vni, mark, f⟩] w fun e w' => e = .returned (.int .i64 2) ∧ Below w.heap.size w w' := by
  have q0 : decide (ttl < 0) = false := by simpa using h0
  have q1 : decide (255 < ttl) = false := by simpa using h1
  have q2 : decide (ent < 0) = true := by simpa using h2
  clear h0 h1 h2
  unfold PL.v
  go_enter Try.func35, Try.ntmps35
  go_wp2_with (first
    | (refine at_box rfl 55 _ rfl (PL.cs ⟨src, dst, ttl, ent, vni, mark, f⟩) rfl ?_; rintro w1 H1 k1 s1; have c2 := H1.cell 2 (v := .int .i64 ttl) rfl; have c3 := H1.cell 3 (v := .int .i64 ent) rfl; have c4 := H1.cell 4 (v := .int .u32 vni) rfl; have c5 := H1.cell 5 (v := .int .u32 mark) rfl))
  go_ret
  exact ⟨rfl, k1⟩
set_option maxHeartbeats 2000000 in
theorem rvck3 (src dst ttl ent vni mark : Int) (f : FL) (h0 : ¬ ttl < 0) (h1 : ¬ 255 < ttl) (h2 : ¬ ent < 0) (h3 : 65535 < ent) (w : World) : Calls Try.prog 35 #[PL.v ⟨src, dst, ttl, ent, vni, mark, f⟩] w fun e w' => e = .returned (.int .i64 2) ∧ Below w.heap.size w w' := by
  have q0 : decide (ttl < 0) = false := by simpa using h0
  have q1 : decide (255 < ttl) = false := by simpa using h1
  have q2 : decide (ent < 0) = false := by simpa using h2
  have q3 : decide (65535 < ent) = true := by simpa using h3
  clear h0 h1 h2 h3
  unfold PL.v
  go_enter Try.func35, Try.ntmps35
  go_wp2_with (first
    | (refine at_box rfl 55 _ rfl (PL.cs ⟨src, dst, ttl, ent, vni, mark, f⟩) rfl ?_; rintro w1 H1 k1 s1; have c2 := H1.cell 2 (v := .int .i64 ttl) rfl; have c3 := H1.cell 3 (v := .int .i64 ent) rfl; have c4 := H1.cell 4 (v := .int .u32 vni) rfl; have c5 := H1.cell 5 (v := .int .u32 mark) rfl))
  go_ret
  exact ⟨rfl, k1⟩
set_option maxHeartbeats 2000000 in
theorem rvck4 (src dst ttl ent vni mark : Int) (f : FL) (h0 : ¬ ttl < 0) (h1 : ¬ 255 < ttl) (h2 : ¬ ent < 0) (h3 : ¬ 65535 < ent) (h4 : 16777215 < vni) (w : World) : Calls Try.prog 35 #[PL.v ⟨src, dst, ttl, ent, vni, mark, f⟩] w fun e w' => e = .returned (.int .i64 2) ∧ Below w.heap.size w w' := by
  have q0 : decide (ttl < 0) = false := by simpa using h0
  have q1 : decide (255 < ttl) = false := by simpa using h1
  have q2 : decide (ent < 0) = false := by simpa using h2
  have q3 : decide (65535 < ent) = false := by simpa using h3
  have q4 : decide (16777215 < vni) = true := by simpa using h4
  clear h0 h1 h2 h3 h4
  unfold PL.v
  go_enter Try.func35, Try.ntmps35
  go_wp2_with (first
    | (refine at_box rfl 55 _ rfl (PL.cs ⟨src, dst, ttl, ent, vni, mark, f⟩) rfl ?_; rintro w1 H1 k1 s1; have c2 := H1.cell 2 (v := .int .i64 ttl) rfl; have c3 := H1.cell 3 (v := .int .i64 ent) rfl; have c4 := H1.cell 4 (v := .int .u32 vni) rfl; have c5 := H1.cell 5 (v := .int .u32 mark) rfl))
  go_ret
  exact ⟨rfl, k1⟩
set_option maxHeartbeats 2000000 in
theorem rvck5 (src dst ttl ent vni mark : Int) (f : FL) (h0 : ¬ ttl < 0) (h1 : ¬ 255 < ttl) (h2 : ¬ ent < 0) (h3 : ¬ 65535 < ent) (h4 : ¬ 16777215 < vni) (h5 : 16777215 < mark) (w : World) : Calls Try.prog 35 #[PL.v ⟨src, dst, ttl, ent, vni, mark, f⟩] w fun e w' => e = .returned (.int .i64 2) ∧ Below w.heap.size w w' := by
  have q0 : decide (ttl < 0) = false := by simpa using h0
  have q1 : decide (255 < ttl) = false := by simpa using h1
  have q2 : decide (ent < 0) = false := by simpa using h2
  have q3 : decide (65535 < ent) = false := by simpa using h3
  have q4 : decide (16777215 < vni) = false := by simpa using h4
  have q5 : decide (16777215 < mark) = true := by simpa using h5
  clear h0 h1 h2 h3 h4 h5
  unfold PL.v
  go_enter Try.func35, Try.ntmps35
  go_wp2_with (first
    | (refine at_box rfl 55 _ rfl (PL.cs ⟨src, dst, ttl, ent, vni, mark, f⟩) rfl ?_; rintro w1 H1 k1 s1; have c2 := H1.cell 2 (v := .int .i64 ttl) rfl; have c3 := H1.cell 3 (v := .int .i64 ent) rfl; have c4 := H1.cell 4 (v := .int .u32 vni) rfl; have c5 := H1.cell 5 (v := .int .u32 mark) rfl))
  go_ret
  exact ⟨rfl, k1⟩
set_option maxHeartbeats 2000000 in
theorem rvck6 (src dst ttl ent vni mark : Int) (f : FL) (hf : 0 ≤ f.s ∧ f.s < 18446744073709551616) (h0 : ¬ ttl < 0) (h1 : ¬ 255 < ttl) (h2 : ¬ ent < 0) (h3 : ¬ 65535 < ent) (h4 : ¬ 16777215 < vni) (h5 : ¬ 16777215 < mark) (w : World) : Calls Try.prog 35 #[PL.v ⟨src, dst, ttl, ent, vni, mark, f⟩] w fun e w' => e = .returned (.int .i64 f.chk) ∧ Below w.heap.size w w' := by
  have HC := fun w => rcheck_is f hf w
  generalize f.chk = y at *
  unfold FL.v at HC
  clear hf
  have q0 : decide (ttl < 0) = false := by simpa using h0
  have q1 : decide (255 < ttl) = false := by simpa using h1
  have q2 : decide (ent < 0) = false := by simpa using h2
  have q3 : decide (65535 < ent) = false := by simpa using h3
  have q4 : decide (16777215 < vni) = false := by simpa using h4
  have q5 : decide (16777215 < mark) = false := by simpa using h5
  clear h0 h1 h2 h3 h4 h5
  unfold PL.v
  go_enter Try.func35, Try.ntmps35
  go_wp2_with (first
    | (refine at_box rfl 55 _ rfl (PL.cs ⟨src, dst, ttl, ent, vni, mark, f⟩) rfl ?_; rintro w1 H1 k1 s1; have c2 := H1.cell 2 (v := .int .i64 ttl) rfl; have c3 := H1.cell 3 (v := .int .i64 ent) rfl; have c4 := H1.cell 4 (v := .int .u32 vni) rfl; have c5 := H1.cell 5 (v := .int .u32 mark) rfl)
    | (refine at_mid rfl 36 _ rfl w.heap.size 6 rfl H1 (FL.cs f) rfl _ Try.underlying36 rfl szF ?_))
  go_at_call 23
  refine (HC w1).mono ?_
  rintro e w2 ⟨rfl, k2⟩
  have b2 := k1.trans (k2.mono k1.size)
  clear k1 k2 c2 c3 c4 c5 H1
  go_wp2
  go_ret
  exact ⟨rfl, b2⟩
theorem rvcheck_is (p : PL) (hf : 0 ≤ p.f.s ∧ p.f.s < 18446744073709551616) (w : World) : Calls Try.prog 35 #[p.v] w fun e w' => e = .returned (.int .i64 p.chk) ∧ Below w.heap.size w w' := by
  obtain ⟨src, dst, ttl, ent, vni, mark, f⟩ := p
  by_cases h0 : ttl < 0
  · rw [vchk_two (by simp [up]; omega)]
    exact rvck0 _ _ _ _ _ _ _ h0 w
  by_cases h1 : 255 < ttl
  · rw [vchk_two (by simp [up]; omega)]
    exact rvck1 _ _ _ _ _ _ _ h0 h1 w
  by_cases h2 : ent < 0
  · rw [vchk_two (by simp [up]; omega)]
    exact rvck2 _ _ _ _ _ _ _ h0 h1 h2 w
  by_cases h3 : 65535 < ent
  · rw [vchk_two (by simp [up]; omega)]
    exact rvck3 _ _ _ _ _ _ _ h0 h1 h2 h3 w
  by_cases h4 : 16777215 < vni
  · rw [vchk_two (by simp; omega)]
    exact rvck4 _ _ _ _ _ _ _ h0 h1 h2 h3 h4 w
  by_cases h5 : 16777215 < mark
  · rw [vchk_two (by simp; omega)]
    exact rvck5 _ _ _ _ _ _ _ h0 h1 h2 h3 h4 h5 w
  rw [vchk_in (by simp [up]; omega) (by simp [up]; omega) (by simp; omega) (by simp; omega)]
  exact rvck6 _ _ _ _ _ _ _ hf h0 h1 h2 h3 h4 h5 w
end Go.Proofs.Ytgpjelcihmbiiaa
namespace Go.Proofs.Ytgpjelcihmbiiaa
open Go.RowKit Go.Sort
set_option linter.unusedVariables false
set_option linter.unusedSimpArgs false
set_option maxRecDepth 100000

theorem run_l008 (w : World) : (Instr.buildSlice 23 3 #[(0, .int .u8 0), (1, .int .u8 0), (2, .int .u8 8)]).run Try.prog w = .ok (.slice (some ⟨w.heap.size, 0, none⟩) 3 3) (w.alloc (.cells (([0, 0, 8] : List Int).map (Value.int .u8)).toArray 5)) := by kernel_rfl
theorem at_l008 {ops : Array Oper} {rest : List Oper} {o : Oper} {a : Act} {w : World} {Q : Exit → Act → World → Prop} (hgd : o.guard = none) (ho : o.op = .buildSlice 23 3 #[(0, .const (.int .u8 0)), (1, .const (.int .u8 0)), (2, .const (.int .u8 8))])
    (h : ∀ w', DatB w.heap.size w' (.slice (some ⟨w.heap.size, 0, none⟩) 3 3) [0, 0, 8] → Below w.heap.size w w' → wpList Try.prog ops Q rest (a.put o.dst (.slice (some ⟨w.heap.size, 0, none⟩) 3 3)) w') : wpList Try.prog ops Q (o :: rest) a w :=
  wpList_plain hgd fun _ hK => by
    have ec : ∀ k, a.eval (.const (.int .u8 k)) = .int .u8 k := fun _ => rfl
    unfold Oper.wp execOp
    simp only [ho, List.map_toArray, List.map_cons, List.map_nil, ec, Sem.run_bind, run_l008, Result.andThen_ok, Sem.run_pure]
    exact hK _ _ (h _ (datB_lit _ w [0, 0, 8] (Nat.le_refl _) (by simp)) ((Below.refl _ w).alloc (Nat.le_refl _) _))
theorem wu64 (x : Int) : IntKind.u64.wrap x = x % 18446744073709551616 := by simp [IntKind.wrap, IntKind.bits, IntKind.signed]
theorem len16 (n : Nat) (h : n ≤ 1000) : IntKind.u64.wrap (wrap64 ((n : Int) + 16)) = ((n + 16 : Nat) : Int) := by
  rw [wu64]
  unfold wrap64
  omega
theorem vrbytes_bad (p : PL) (hf : p.f.Ok) (hc : p.chk ≠ 0) (w : World) : Calls Try.prog 34 #[p.v] w fun e w' => e = .returned (.tuple #[.slice none 0 0, .int .i64 p.chk]) ∧ Below w.heap.size w w' := by
  have hC := fun w => rvcheck_is p hf.s w
  have A : (p.chk != 0) = true := by simpa using hc
  generalize p.chk = y at hC A ⊢
  clear hc hf
  unfold PL.v at hC ⊢
  go_enter Try.func34, Try.ntmps34
  go_wp2_with (first
    | (refine at_box rfl 55 _ rfl (PL.cs p) rfl ?_; rintro w1 H1 k1 s1)
    | (refine at_mid rfl 55 _ rfl w.heap.size 0 rfl H1 (PL.cs p) rfl _ Try.underlying55 rfl szP ?_)
    | (go_at_call 35; refine (hC w1).mono ?_; rintro e w2 ⟨rfl, k2⟩; have b2 := k1.trans (k2.mono k1.size); clear k1 k2 H1 hC))
  go_ret2
  exact ⟨rfl, b2⟩
set_option maxHeartbeats 4000000 in
theorem vrbytes_ok (p : PL) (hp : p.Ok) (hc : p.chk = 0) (w : World) : Calls Try.prog 34 #[p.v] w fun e w' => ∃ v, e = .returned (.tuple #[v, .int .i64 0]) ∧ DatB w.heap.size w' v p.enc ∧ Below w.heap.size w w' := by
  have hC := fun w => rvcheck_is p hp.f.s w
  rw [hc] at hC
  obtain ⟨hh, hfc⟩ := pchk_zero hc
  have hb := hd_true hh
  have HB := fun w => rbytes_ok p.f hp.f hfc w
  have hle := enc_short hp.f hfc
  have q1 := hp.src; have q2 := hp.dst; have q3 := hp.vni; have q4 := hp.mark
  obtain ⟨src, dst, ttl, ent, vni, mark, f⟩ := p
  dsimp only at *
  have HD := fun w => rheader_is ((f.enc.length + 36 : Nat) : Int) ttl 17 src dst (by omega) (by omega) hb.1 (by omega) (by decide) (by decide) q1.1 q1.2 q2.1 q2.2 (rh_oct _ _ _ _ _ _) w
  have HL0 := Lib.hid (rh_length ((f.enc.length + 36 : Nat) : Int) ttl 17 src dst (sumI (rh ((f.enc.length + 36 : Nat) : Int) ttl 17 src dst 0)))
  have HP : Hid (∀ T : List Int, T = rh ((f.enc.length + 36 : Nat) : Int) ttl 17 src dst (sumI (rh ((f.enc.length + 36 : Nat) : Int) ttl 17 src dst 0)) ++ enc 2 (ent : Int).toNat ++ enc 2 (4789 : Int).toNat ++ enc 2 ((f.enc.length + 16 : Nat) : Int).toNat ++ [0, 0, 8] ++ enc 3 (mark : Int).toNat ++ enc 3 (vni : Int).toNat ++ [0] ++ f.enc → T = PL.enc ⟨src, dst, ttl, ent, vni, mark, f⟩) := Lib.hid (fun T hT => by
    rw [hT, Int.toNat_natCast]
    unfold PL.enc PL.hdr udB vxB
    rw [show ([0, 0, 8] : List Int) = enc 2 0 ++ enc 1 8 by decide, show ([0] : List Int) = enc 1 0 by decide]
    simp only [List.append_assoc]
    rfl)
  have r1 : ent % 18446744073709551616 = ent := by omega
  have r3 : (f.enc.length : Int) + 36 = ((f.enc.length + 36 : Nat) : Int) := by omega
  generalize PL.enc ⟨src, dst, ttl, ent, vni, mark, f⟩ = E at *
  generalize rh ((f.enc.length + 36 : Nat) : Int) ttl 17 src dst (sumI (rh ((f.enc.length + 36 : Nat) : Int) ttl 17 src dst 0)) = R at *
  generalize f.enc = xs at *
  obtain ⟨N, hN⟩ : ∃ N : Int, ((xs.length + 16 : Nat) : Int) = N := ⟨_, rfl⟩
  obtain ⟨M, hM⟩ : ∃ M : Int, ((xs.length + 36 : Nat) : Int) = M := ⟨_, rfl⟩
  rw [hN] at HP
  rw [hM] at r3 HD
  have n0 : 0 ≤ N := by omega
  have r4 : wrap64 M = M := by unfold wrap64; omega
  have n1 : N < 18446744073709551616 := by omega
  have HXL := Lib.hid hle
  have r5 : IntKind.u64.wrap (wrap64 ((xs.length : Int) + 16)) = N := by rw [len16 _ (by omega)]; exact hN
  have R5 := Lib.hid r5
  clear r5
  clear hc hh hfc hN hM hp hle
  unfold PL.v at hC ⊢
  unfold FL.v at HB
  go_enter Try.func34, Try.ntmps34
  go_wp2_with (first
    | (refine at_box rfl 55 _ rfl (PL.cs ⟨src, dst, ttl, ent, vni, mark, f⟩) rfl ?_; rintro w1 H1 k1 s1)
    | (refine at_mid rfl 55 _ rfl w.heap.size 0 rfl H1 (PL.cs ⟨src, dst, ttl, ent, vni, mark, f⟩) rfl _ Try.underlying55 rfl szP ?_)
    | (go_at_call 35; refine (hC w1).mono ?_; rintro e w2 ⟨rfl, k2⟩; have b2 := k1.trans (k2.mono k1.size); have H2 := H1.below k2 H1.lt; clear k1 k2 H1 hC)
    | (refine at_mid rfl 36 _ rfl w.heap.size 6 rfl H2 (FL.cs f) rfl _ Try.underlying36 rfl szF ?_))
  go_at_call 22
  refine (HB w2).mono ?_
  rintro e w3 ⟨iv, rfl, d3, k3⟩
  have b3 := b2.trans (k3.mono b2.size)
  have H3 := H2.below k3 H2.lt
  obtain ⟨ia, ic, rfl⟩ := d3.dat.shape
  have c0 := H3.cell 0 (v := .int .u32 src) rfl
  have c1 := H3.cell 1 (v := .int .u32 dst) rfl
  have c2 := H3.cell 2 (v := .int .i64 ttl) rfl
  have I3 := d3.dat
  clear k3 b2 H2 HB d3
  go_wp2_with fail
  go_at_call 52
  refine (HD w3).mono ?_
  rintro e w4 ⟨v4, rfl, D4, E4⟩
  clear c0 c1 c2 HD
  have x4 := H3.below E4 H3.lt
  have c3 := x4.cell 3 (v := .int .i64 ent) rfl
  go_wp2_with fail
  go_at_call 51
  refine (rput_is w3.heap.size R (by simp [enc_length, HL0.out] <;> omega) v4 ent 2 (by omega) (by omega) (by decide) w4 E4.size D4).mono ?_
  rintro r w5 ⟨v5, rfl, D5, e5, -⟩
  have E5 := E4.trans e5
  clear D4 e5
  go_wp2_with fail
  go_at_call 51
  refine (rput_is w3.heap.size _ (by simp [enc_length, HL0.out] <;> omega) v5 4789 2 (by decide) (by decide) (by decide) w5 E5.size D5).mono ?_
  rintro r w6 ⟨v6, rfl, D6, e6, -⟩
  have E6 := E5.trans e6
  clear D5 e6
  clear c3 x4
  have r5 := R5.out
  go_wp2_with fail
  clear r5
  go_at_call 51
  refine (rput_is w3.heap.size _ (by simp [enc_length, HL0.out] <;> omega) v6 N 2 n0 n1 (by decide) w6 E6.size D6).mono ?_
  rintro r w7 ⟨v7, rfl, D7, e7, -⟩
  have E7 := E6.trans e7
  clear D6 e7
  go_wp2_with (first
    | (refine at_l008 rfl rfl ?_; rintro w8 L8 k8)
    | (refine at_app rfl (.tmp 40) (.tmp 41) rfl _ _ rfl rfl w3.heap.size _ _ (D7.below k8) L8.dat (Nat.le_trans E7.size k8.size) (by simp [enc_length, HL0.out] <;> omega) ?_; rintro w9 v9 D9 k9 z9; have E9 := (E7.trans (k8.mono E7.size)).trans k9; clear D7 L8 k8 k9 z9))
  refine wp_region_selB w3.heap.size [0, 1, 2, 3, 5, 6, 7] 3 rfl (by kernel_rfl) (by kernel_rfl) (by kernel_rfl) (by kernel_rfl) (fun _ d _ _ _ h => by cases d <;> exact h) ?_
  intro V hV
  have eV : Below w3.heap.size w3 V := E9.trans (by subst hV; exact (Below.refl _ _).drew)
  have DV := D9.below (show Below w9.heap.size w9 V by subst hV; exact (Below.refl _ _).drew)
  have XV := H3.below eV H3.lt
  have r4 : ∀ q : Beh w3.heap.size V, q.w.cell? ⟨w.heap.size, 4, none⟩ = some (.int .u32 vni) := fun q => Blk.cell (Blk.below XV q.h H3.lt) 4 rfl
  have r5 : ∀ q : Beh w3.heap.size V, q.w.cell? ⟨w.heap.size, 5, none⟩ = some (.int .u32 mark) := fun q => Blk.cell (Blk.below XV q.h H3.lt) 5 rfl
  clear hV
  simp only [pickOps, List.filterMap_cons, List.filterMap_nil, List.getElem?_cons_zero, List.getElem?_cons_succ, Option.map_some, List.map_cons, List.map_nil]
  repeat (go_big_quiet_step (fail))
  refine wpQuiet_nil ?_
  clear r4 r5 XV D9
  refine wpAnyH_one (k := 4) (by kernel_rfl) rfl (fun K hQ => ?_)
  go_simp
  refine (rput_is w3.heap.size _ (by simp [enc_length, HL0.out] <;> omega) v9 mark 3 q4.1 (by omega) (by decide) V eV.size DV).mono ?_
  rintro r w10 ⟨v10, rfl, D10, g10, -⟩
  refine hQ _ _ ⟨⟨_, g10⟩, rfl⟩ ?_
  clear hQ K
  refine wpAnyH_one (k := 8) (by kernel_rfl) rfl (fun K hQ => ?_)
  go_simp
  refine (rput_is w3.heap.size _ (by simp [enc_length, HL0.out] <;> omega) v10 vni 3 q3.1 (by omega) (by decide) w10 (eV.trans g10).size D10).mono ?_
  rintro r w11 ⟨v11, rfl, D11, g11, -⟩
  have g := g10.trans g11
  refine hQ _ _ ⟨⟨_, g⟩, rfl⟩ ?_
  clear hQ K
  refine wpAnyH_one (k := 9) (by kernel_rfl) rfl (fun K hQ => ?_)
  go_simp
  refine hQ _ _ ⟨⟨_, g⟩, rfl⟩ ?_
  clear hQ K
  refine wpAnyH_done (by kernel_rfl) ?_ 0
  have E11 := eV.trans g
  clear DV D10 g10 g11 g eV
  go_wp2_with (first
    | (refine at_lit1 rfl (.const (.int .u8 0)) rfl 0 rfl ?_; rintro w12 u12 L12 k12)
    | (refine at_app rfl (.tmp 52) (.tmp 53) rfl _ _ rfl rfl w3.heap.size _ _ (D11.below k12) L12 (Nat.le_trans E11.size k12.size) (by simp [enc_length, HL0.out] <;> omega) ?_; rintro w13 v13 D13 k13 z13; have E13 := (E11.trans (k12.mono E11.size)).trans k13; clear D11 L12 k12 k13 z13)
    | (refine at_app rfl (.tmp 54) (.tmp 55) rfl _ _ rfl rfl w3.heap.size _ _ D13 (I3.below E13) E13.size (by have := HXL.out; simp [enc_length, HL0.out] <;> omega) ?_; rintro w14 v14 D14 k14 z14; have E14 := E13.trans k14; clear D13 k14 z14))
  go_ret2
  refine ⟨_, rfl, ?_, b3.trans (E14.mono b3.size)⟩
  have := World.ownsRow.mono D14 b3.size
  rw [← HP.out _ rfl]
  exact this
end Go.Proofs.Ytgpjelcihmbiiaa
namespace Go.Proofs.Ytgpjelcihmbiiaa
open Go.RowKit Go.Sort
set_option linter.unusedVariables false
set_option linter.unusedSimpArgs false
set_option maxRecDepth 100000

theorem wu32 (x : Int) (h : 0 ≤ x ∧ x < 4294967296) : IntKind.u32.wrap x = x := by
  simp [IntKind.wrap, IntKind.bits, IntKind.signed]
  omega
theorem wi64 (x : Int) (h : 0 ≤ x ∧ x < 65536) : IntKind.i64.wrap x = x := by
  simp [IntKind.wrap, IntKind.bits, IntKind.signed]
  omega
set_option maxHeartbeats 4000000 in
theorem vs_short (xs : List Int) (ho : Oct xs) (hl : xs.length ≤ 1000000) (h : xs.length < 36) (v : Value) (w : World) (hv : Seg w v xs) : Calls Try.prog 39 #[v] w fun r w' => r = .returned (.tuple #[PL.v P0, .agg (flt 4 (xs.length : Int)).toArray]) ∧ Below w.heap.size w w' := by
  have hlen : (xs.length : Int) < 36 := by omega
  have HV := Lib.hid hv
  obtain ⟨va, vc, rfl, -⟩ := id hv
  clear hv
  unfold PL.v
  go_enter Try.func39, Try.ntmps39
  go_wp2_with (first
    | (refine at_new rfl 55 P0.cs rfl run_newPk ?_; rintro w1 H1 k1 s1)
    | (refine at_new rfl 38 FZ rfl run_newFt ?_; rintro w2 G2 k2 s2; rw [s1] at G2; have H2 := H1.below k2 H1.lt; have b2 := k1.trans (k2.mono k1.size); have SS := Lib.hid s2; have l2 := G2.lt; clear k1 k2 H1 s2; try go_simp)
    | (refine at_bld rfl 55 _ rfl P0.cs (by kernel_rfl) ?_)
    | (refine at_bld rfl 38 _ rfl (flt 4 (xs.length : Int)) (by kernel_rfl) ?_)
    | (refine at_put rfl 55 _ _ rfl rfl w.heap.size rfl (PL.cs P0) rfl H2 rfl szP (pcs_one _) ?_; rintro w8 g8; have H8 := g8.blk; have G8 := g8.but.blk G2 G2.lt (show w.heap.size + 1 ≠ w.heap.size by omega); have b8 := g8.below b2 (Nat.le_refl _); clear H2 G2 b2 g8)
    | (refine at_put rfl 38 _ _ rfl rfl (w.heap.size + 1) rfl (flt 4 (xs.length : Int)) rfl G8 rfl szFt (flt_one _ _) ?_; rintro w9 g9; have G9 := g9.blk; have H9 := g9.but.blk H8 H8.lt (show w.heap.size ≠ w.heap.size + 1 by omega); have b9 := g9.below b8 (Nat.le_succ _); clear H8 G8 b8 g9))
  exact bodyPost_ret (results_rows (by rfl) _ _ w.heap.size (w.heap.size + 1) _ _ (PL.cs P0).toArray (flt 4 (xs.length : Int)).toArray _ _ _ _ rfl H9 Try.underlying55 rfl szP rfl G9 Try.underlying38 rfl szFt) rfl ⟨rfl, b9⟩
set_option maxHeartbeats 4000000 in
theorem vs_t9 (xs : List Int) (ho : Oct xs) (hl : xs.length ≤ 1000000) (h : 36 ≤ xs.length) (h9 : xs.getD 9 0 ≠ 17) (v : Value) (w : World) (hv : Seg w v xs) : Calls Try.prog 39 #[v] w fun r w' => r = .returned (.tuple #[PL.v P0, .agg (flt 6 9).toArray]) ∧ Below w.heap.size w w' := by
  have hlen : ¬ (xs.length : Int) < 36 := by omega
  have hl9 : (9 : Int) < xs.length := by omega
  have hl8 : (8 : Int) < xs.length := by omega
  obtain ⟨y, hy⟩ : ∃ y, xs.getD 9 0 = y := ⟨_, rfl⟩
  rw [hy] at h9
  have hq : (y != 17) = true := by simpa using h9
  have HY := Lib.hid hy
  clear hy h9
  have HV := Lib.hid hv
  obtain ⟨va, vc, rfl, -⟩ := id hv
  obtain ⟨bb, oo, rfl, -⟩ := Seg.some hv (by omega)
  clear hv
  unfold PL.v
  go_enter Try.func39, Try.ntmps39
  go_upto_region 1 with (first
    | (refine at_new rfl 55 P0.cs rfl run_newPk ?_; rintro w1 H1 k1 s1)
    | (refine at_new rfl 38 FZ rfl run_newFt ?_; rintro w2 G2 k2 s2; rw [s1] at G2; have H2 := H1.below k2 H1.lt; have b2 := k1.trans (k2.mono k1.size); have SS := Lib.hid s2; have l2 := G2.lt; clear k1 k2 H1 s2; try go_simp))
  have c9 : w2.cell? ⟨bb, oo + 9, none⟩ = some (.int .u8 y) := by
    obtain ⟨b', o', e, -, -, hx⟩ := Seg.some (HV.out.below b2) (by omega)
    cases e
    rw [← HY.out]
    exact hx 9 (by omega)
  go_wp2_with (first
    | (refine at_bld rfl 55 _ rfl P0.cs (by kernel_rfl) ?_)
    | (refine at_bld rfl 38 _ rfl (flt 6 9) (by kernel_rfl) ?_)
    | (refine at_put rfl 55 _ _ rfl rfl w.heap.size rfl (PL.cs P0) rfl H2 rfl szP (pcs_one _) ?_; rintro w8 g8; have H8 := g8.blk; have G8 := g8.but.blk G2 G2.lt (show w.heap.size + 1 ≠ w.heap.size by omega); have b8 := g8.below b2 (Nat.le_refl _); clear H2 G2 b2 g8)
    | (refine at_put rfl 38 _ _ rfl rfl (w.heap.size + 1) rfl (flt 6 9) rfl G8 rfl szFt (flt_one _ _) ?_; rintro w9 g9; have G9 := g9.blk; have H9 := g9.but.blk H8 H8.lt (show w.heap.size ≠ w.heap.size + 1 by omega); have b9 := g9.below b8 (Nat.le_succ _); clear H8 G8 b8 g9))
  exact bodyPost_ret (results_rows (by rfl) _ _ w.heap.size (w.heap.size + 1) _ _ (PL.cs P0).toArray (flt 6 9).toArray _ _ _ _ rfl H9 Try.underlying55 rfl szP rfl G9 Try.underlying38 rfl szFt) rfl ⟨rfl, b9⟩
set_option maxHeartbeats 4000000 in
theorem vs_t22 (xs : List Int) (ho : Oct xs) (hl : xs.length ≤ 1000000) (h : 36 ≤ xs.length) (h9 : xs.getD 9 0 = 17) (hp : pn xs ≠ 4789) (v : Value) (w : World) (hv : Seg w v xs) : Calls Try.prog 39 #[v] w fun r w' => r = .returned (.tuple #[PL.v P0, .agg (flt 6 22).toArray]) ∧ Below w.heap.size w w' := by
  have hlen : ¬ (xs.length : Int) < 36 := by omega
  have hl9 : (9 : Int) < xs.length := by omega
  have hl8 : (8 : Int) < xs.length := by omega
  have T22 := fun w' (h : Seg w' v xs) => take_is xs v w' h ho hl 22 2 (by decide) (by omega)
  have z22 : 0 ≤ tk xs 22 2 ∧ tk xs 22 2 < 65536 := by have := tk_lt ho 22 2 (by omega); simpa using this
  have e22 : tk xs 22 2 = pn xs := tk_two ho 22 (by omega)
  have hq : (tk xs 22 2 != 4789) = true := by rw [e22]; simpa using hp
  generalize tk xs 22 2 = Y at *
  have H9 := Lib.hid h9
  clear h9 hp e22
  have HV := Lib.hid hv
  obtain ⟨va, vc, rfl, -⟩ := id hv
  obtain ⟨bb, oo, rfl, -⟩ := Seg.some hv (by omega)
  clear hv
  unfold PL.v
  go_enter Try.func39, Try.ntmps39
  go_upto_region 1 with (first
    | (refine at_new rfl 55 P0.cs rfl run_newPk ?_; rintro w1 H1 k1 s1)
    | (refine at_new rfl 38 FZ rfl run_newFt ?_; rintro w2 G2 k2 s2; rw [s1] at G2; have H2 := H1.below k2 H1.lt; have b2 := k1.trans (k2.mono k1.size); have SS := Lib.hid s2; have l2 := G2.lt; clear k1 k2 H1 s2; try go_simp))
  have c9 : w2.cell? ⟨bb, oo + 9, none⟩ = some (.int .u8 17) := by
    obtain ⟨b', o', e, -, -, hx⟩ := Seg.some (HV.out.below b2) (by omega)
    cases e
    rw [← H9.out]
    exact hx 9 (by omega)
  go_wp2_with fail
  go_at_call 54
  refine (T22 w2 (HV.out.below b2)).mono ?_
  rintro e w' ⟨rfl, hw⟩
  obtain rfl := hw.symm
  clear c9
  go_wp2_with (first
    | (refine at_bld rfl 55 _ rfl P0.cs (by kernel_rfl) ?_)
    | (refine at_bld rfl 38 _ rfl (flt 6 22) (by kernel_rfl) ?_)
    | (refine at_put rfl 55 _ _ rfl rfl w.heap.size rfl (PL.cs P0) rfl H2 rfl szP (pcs_one _) ?_; rintro w8 g8; have H8 := g8.blk; have G8 := g8.but.blk G2 G2.lt (show w.heap.size + 1 ≠ w.heap.size by omega); have b8 := g8.below b2 (Nat.le_refl _); clear H2 G2 b2 g8)
    | (refine at_put rfl 38 _ _ rfl rfl (w.heap.size + 1) rfl (flt 6 22) rfl G8 rfl szFt (flt_one _ _) ?_; rintro w9 g9; have G9 := g9.blk; have H9 := g9.but.blk H8 H8.lt (show w.heap.size ≠ w.heap.size + 1 by omega); have b9 := g9.below b8 (Nat.le_succ _); clear H8 G8 b8 g9))
  exact bodyPost_ret (results_rows (by rfl) _ _ w.heap.size (w.heap.size + 1) _ _ (PL.cs P0).toArray (flt 6 22).toArray _ _ _ _ rfl H9 Try.underlying55 rfl szP rfl G9 Try.underlying38 rfl szFt) rfl ⟨rfl, b9⟩
set_option maxHeartbeats 4000000 in
theorem vs_frame (xs : List Int) (ho : Oct xs) (hl : xs.length ≤ 1000000) (hz : hfE xs = 0) (hx : rdX (xs.drop 36) ≠ 0) (v : Value) (w : World) (hv : Seg w v xs) : Calls Try.prog 39 #[v] w fun r w' => r = .returned (.tuple #[PL.v P0, .agg (flt (rdX (xs.drop 36)) (fA (xs.drop 36))).toArray]) ∧ Below w.heap.size w w' := by
  obtain ⟨h, h9, hp, -⟩ := hfE_zero hz
  have hlen : ¬ (xs.length : Int) < 36 := by omega
  have hl9 : (9 : Int) < xs.length := by omega
  have hl8 : (8 : Int) < xs.length := by omega
  have T22 := fun w' (h : Seg w' v xs) => take_is xs v w' h ho hl 22 2 (by decide) (by omega)
  have z22 : 0 ≤ tk xs 22 2 ∧ tk xs 22 2 < 65536 := by have := tk_lt ho 22 2 (by omega); simpa using this
  have e22 : tk xs 22 2 = 4789 := (tk_two ho 22 (by omega)).trans hp
  rw [e22] at T22
  clear z22 e22
  have hld : (xs.drop 36).length ≤ 1000000 := by simp; omega
  have HR := fun v w h => rread_is (xs.drop 36) (ho.drop 36) hld v w h
  unfold Reads FL.v at HR
  have hA := rdA_le (xs.drop 36)
  have hfa : fA (xs.drop 36) = rdA (xs.drop 36) + 36 := by unfold fA; rw [if_neg hx]
  rw [hfa]
  have hne : (rdX (xs.drop 36) != 0) = true := by simpa using hx
  have hr36 : wrap64 (rdA (xs.drop 36) + 36) = rdA (xs.drop 36) + 36 := by unfold wrap64; omega
  generalize rdF (xs.drop 36) = F at *
  generalize rdX (xs.drop 36) = e at *
  generalize rdA (xs.drop 36) = a at *
  have H9 := Lib.hid h9
  rw [← hr36]
  clear hx hz h9 hp hfa hA hld hr36
  have HV := Lib.hid hv
  obtain ⟨va, vc, rfl, -⟩ := id hv
  obtain ⟨bb, oo, rfl, -⟩ := Seg.some hv (by omega)
  clear hv
  unfold PL.v
  go_enter Try.func39, Try.ntmps39
  go_upto_region 1 with (first
    | (refine at_new rfl 55 P0.cs rfl run_newPk ?_; rintro w1 H1 k1 s1)
    | (refine at_new rfl 38 FZ rfl run_newFt ?_; rintro w2 G2 k2 s2; rw [s1] at G2; have H2 := H1.below k2 H1.lt; have b2 := k1.trans (k2.mono k1.size); have SS := Lib.hid s2; have l2 := G2.lt; clear k1 k2 H1 s2; try go_simp))
  have c9 : w2.cell? ⟨bb, oo + 9, none⟩ = some (.int .u8 17) := by
    obtain ⟨b', o', e, -, -, hx⟩ := Seg.some (HV.out.below b2) (by omega)
    cases e
    rw [← H9.out]
    exact hx 9 (by omega)
  go_wp2_with fail
  go_at_call 54
  refine (T22 w2 (HV.out.below b2)).mono ?_
  rintro e w' ⟨rfl, hw⟩
  obtain rfl := hw.symm
  clear c9 T22
  obtain ⟨sv, hsr, hss⟩ := slice_lo (HV.out.below b2) 36 (by omega)
  rw [show ((36 : Nat) : Int) = 36 from rfl] at hsr
  go_wp2_with (refine at_sliceL rfl 23 under_b _ _ rfl (.slice (some ⟨bb, oo, none⟩) xs.length vc) (.int .i64 36) sv rfl rfl hsr ?_)
  go_at_call 26
  refine (HR _ w2 hss).mono ?_
  rintro r w6 ⟨rfl, k6⟩
  have b6 := b2.trans (k6.mono b2.size)
  have H6 := H2.below k6 H2.lt
  have G6 := G2.below k6 G2.lt
  have l6 := G6.lt
  clear b2 H2 G2 k6 HR hsr hss
  go_upto_region 9 with (first
    | (refine at_new rfl 36 F0.cs rfl run_newFr ?_; rintro w7 X7 k7 s7; have b7 := b6.trans (k7.mono b6.size); have H7 := H6.below k7 H6.lt; have G7 := G6.below k7 G6.lt; have FB6 := b6.size; clear b6 H6 G6 k7; try go_simp)
    | (refine at_new rfl 38 FZ rfl run_newFt ?_; rintro w8 T8 k8 s8; rw [s7] at T8; have b8 := b7.trans (k8.mono b7.size); have H8 := H7.below k8 H7.lt; have G8 := G7.below k8 G7.lt; have X8 := X7.below k8 X7.lt; have S8 := Lib.hid s8; clear b7 H7 G7 X7 k8 s8; try go_simp)
    | (refine at_put rfl 36 _ _ rfl rfl w6.heap.size rfl (FL.cs F) rfl X8 rfl szF (cs_one _) ?_; rintro w9 g9; have X9 := g9.blk; have b9 := g9.below b8 FB6; have H9 := g9.but.blk H8 H8.lt (show w.heap.size ≠ w6.heap.size by omega); have G9 := g9.but.blk G8 G8.lt (show w.heap.size + 1 ≠ w6.heap.size by omega); have T9 := g9.but.blk T8 T8.lt (show w6.heap.size + 1 ≠ w6.heap.size by omega); clear b8 H8 G8 T8 X8 g9)
    | (refine at_put rfl 38 _ _ rfl rfl (w6.heap.size + 1) rfl (flt e a) rfl T9 rfl szFt (flt_one _ _) ?_; rintro w10 g10; have T10 := g10.blk; have b10 := g10.below b9 (Nat.le_succ_of_le FB6); have H10 := g10.but.blk H9 H9.lt (show w.heap.size ≠ w6.heap.size + 1 by omega); have G10 := g10.but.blk G9 G9.lt (show w.heap.size + 1 ≠ w6.heap.size + 1 by omega); have X10 := g10.but.blk X9 X9.lt (show w6.heap.size ≠ w6.heap.size + 1 by omega); have c0 := T10.cell 0 (v := .int .i64 e) rfl; clear b9 H9 G9 T9 X9 g10))
  clear c0
  refine wp_region_selG (w6.heap.size + 1) [0, 1, 2, 3, 4, 5, 6] 2 rfl (by kernel_rfl) (by kernel_rfl) (by kernel_rfl) (by kernel_rfl) (fun _ d _ _ _ h => by cases d <;> exact h) ?_
  intro V hV
  have d0 : Below w10.heap.size w10 V := by subst hV; exact (Below.refl _ _).drew
  have TV : Blk V (w6.heap.size + 1) 38 (flt e a) := T10.below d0 T10.lt
  have HV' := H10.below d0 H10.lt
  have GV := G10.below d0 G10.lt
  have bV := b10.trans (d0.mono b10.size)
  have r0 : ∀ q : Same1 (w6.heap.size + 1) V, q.w.cell? ⟨w6.heap.size + 1, 0, none⟩ = some (.int .i64 e) := fun q => Blk.cell (q.h.trans TV) 0 rfl
  have r1 : ∀ q : Same1 (w6.heap.size + 1) V, q.w.cell? ⟨w6.heap.size + 1, 1, none⟩ = some (.int .i64 a) := fun q => Blk.cell (q.h.trans TV) 1 rfl
  clear hV
  simp only [pickOps, List.filterMap_cons, List.filterMap_nil, List.getElem?_cons_zero, List.getElem?_cons_succ, Option.map_some, List.map_cons, List.map_nil]
  repeat (first | (go_big_quiet_want; refine q_bld 55 _ rfl P0.cs (by kernel_rfl) ?_; go_simp; go_big_quiet_on) | (go_big_quiet_want; refine q_bld 38 _ rfl (flt e (wrap64 (a + 36))) (by kernel_rfl) ?_; go_simp; go_big_quiet_on) | go_big_quiet_step (fail))
  refine wpQuiet_nil ?_
  clear r0 r1
  refine wpAnyH_one (k := 7) (by kernel_rfl) rfl (fun K hQ => ?_)
  refine if_true_prop (by kernel_rfl) ?_
  refine wp_put 55 _ _ rfl rfl w.heap.size rfl P0.cs rfl HV' rfl szP (pcs_one _) ?_
  rintro x1 g1
  have h1 := g1.blk
  have t1 := g1.but.blk TV TV.lt (show w6.heap.size + 1 ≠ w.heap.size by omega)
  have y1 := g1.but.blk GV GV.lt (show w.heap.size + 1 ≠ w.heap.size by omega)
  have p1 := g1.below bV (Nat.le_refl _)
  refine hQ _ _ ⟨⟨_, t1.trans TV.symm⟩, rfl⟩ ?_
  clear hQ K
  refine wpAnyH_one (k := 8) (by kernel_rfl) rfl (fun K hQ => ?_)
  refine if_true_prop (by kernel_rfl) ?_
  refine wp_put 38 _ _ rfl rfl (w.heap.size + 1) rfl (flt e (wrap64 (a + 36))) rfl y1 rfl szFt (flt_one _ _) ?_
  rintro x2 g2
  have y2 := g2.blk
  have h2 := g2.but.blk h1 h1.lt (show w.heap.size ≠ w.heap.size + 1 by omega)
  have t2 := g2.but.blk t1 t1.lt (show w6.heap.size + 1 ≠ w.heap.size + 1 by omega)
  have p2 := g2.below p1 (Nat.le_succ _)
  refine hQ _ _ ⟨⟨_, t2.trans TV.symm⟩, rfl⟩ ?_
  clear hQ K
  refine wpAnyH_done (by kernel_rfl) ?_ 0
  clear TV HV' GV bV t1 t2 h1 y1 p1 g1 g2 d0
  go_wp2
  exact bodyPost_ret (results_rows (by rfl) _ _ w.heap.size (w.heap.size + 1) _ _ (PL.cs P0).toArray (flt e (wrap64 (a + 36))).toArray _ _ _ _ rfl h2 Try.underlying55 rfl szP rfl y2 Try.underlying38 rfl szFt) rfl ⟨rfl, p2⟩
end Go.Proofs.Ytgpjelcihmbiiaa
namespace Go.Proofs.Ytgpjelcihmbiiaa
open Go.RowKit Go.Sort
set_option linter.unusedVariables false
set_option linter.unusedSimpArgs false
set_option maxRecDepth 100000

set_option maxHeartbeats 4000000 in
theorem vs_bad1 (xs : List Int) (ho : Oct xs) (hl : xs.length ≤ 1000000) (hz : hfE xs = 0) (hx : rdX (xs.drop 36) = 0) (hc : (vP xs).chk ≠ 0) (v : Value) (w : World) (hv : Seg w v xs) : Calls Try.prog 39 #[v] w fun r w' => r = .returned (.tuple #[PL.v P0, .agg (flt 3 0).toArray]) ∧ Below w.heap.size w w' := by
  obtain ⟨h, h9, hp, -⟩ := hfE_zero hz
  have hlen : ¬ (xs.length : Int) < 36 := by omega
  have hl9 : (9 : Int) < xs.length := by omega
  have hl8 : (8 : Int) < xs.length := by omega
  have T22 := fun w' (h : Seg w' v xs) => take_is xs v w' h ho hl 22 2 (by decide) (by omega)
  have z22 : 0 ≤ tk xs 22 2 ∧ tk xs 22 2 < 65536 := by have := tk_lt ho 22 2 (by omega); simpa using this
  have e22 : tk xs 22 2 = 4789 := (tk_two ho 22 (by omega)).trans hp
  rw [e22] at T22
  clear z22 e22
  have hld : (xs.drop 36).length ≤ 1000000 := by simp; omega
  have HR := fun v w h => rread_is (xs.drop 36) (ho.drop 36) hld v w h
  unfold Reads FL.v at HR
  have hA := rdA_le (xs.drop 36)
  have T12 := fun w' (h : Seg w' v xs) => take_is xs v w' h ho hl 12 4 (by decide) (by omega)
  have z12 : 0 ≤ tk xs 12 4 ∧ tk xs 12 4 < 4294967296 := by have := tk_lt ho 12 4 (by omega); simpa using this
  have T16 := fun w' (h : Seg w' v xs) => take_is xs v w' h ho hl 16 4 (by decide) (by omega)
  have z16 : 0 ≤ tk xs 16 4 ∧ tk xs 16 4 < 4294967296 := by have := tk_lt ho 16 4 (by omega); simpa using this
  have T20 := fun w' (h : Seg w' v xs) => take_is xs v w' h ho hl 20 2 (by decide) (by omega)
  have z20 : 0 ≤ tk xs 20 2 ∧ tk xs 20 2 < 65536 := by have := tk_lt ho 20 2 (by omega); simpa using this
  have T32 := fun w' (h : Seg w' v xs) => take_is xs v w' h ho hl 32 3 (by decide) (by omega)
  have z32 : 0 ≤ tk xs 32 3 ∧ tk xs 32 3 < 16777216 := by have := tk_lt ho 32 3 (by omega); simpa using this
  have T29 := fun w' (h : Seg w' v xs) => take_is xs v w' h ho hl 29 3 (by decide) (by omega)
  have z29 : 0 ≤ tk xs 29 3 ∧ tk xs 29 3 < 16777216 := by have := tk_lt ho 29 3 (by omega); simpa using this
  have hok := vP_ok ho h
  rw [hx] at HR
  have e8 : tk xs 8 1 = xs.getD 8 0 := tk_one ho 8 (by omega)
  have z8 := ho.getD 8
  have HB := fun w => vrbytes_bad _ hok.f hc w
  have hne : ((vP xs).chk != 0) = true := by simpa using hc
  generalize (vP xs).chk = Y at HB hne
  unfold vP at HB
  rw [e8] at HB
  have HX0 : Hid (xs ≠ []) := Lib.hid (fun q => by rw [q] at h; exact absurd h (by decide))
  generalize rdF (xs.drop 36) = F at *
  generalize rdA (xs.drop 36) = a at *
  generalize tk xs 12 4 = src at *
  generalize tk xs 16 4 = dst at *
  generalize tk xs 20 2 = ent at *
  generalize tk xs 32 3 = vni at *
  generalize tk xs 29 3 = mark at *
  obtain ⟨ttl, htt⟩ : ∃ ttl, xs.getD 8 0 = ttl := ⟨_, rfl⟩
  rw [htt] at HB z8
  have H8 := Lib.hid htt
  have H9 := Lib.hid h9
  unfold PL.v at HB
  clear hx hz h9 hp hA hld hok e8 htt hc
  have HV := Lib.hid hv
  obtain ⟨va, vc, rfl, -⟩ := id hv
  obtain ⟨bb, oo, rfl, -⟩ := Seg.some hv (by omega)
  clear hv
  unfold PL.v
  go_enter Try.func39, Try.ntmps39
  go_upto_region 1 with (first
    | (refine at_new rfl 55 P0.cs rfl run_newPk ?_; rintro w1 H1 k1 s1)
    | (refine at_new rfl 38 FZ rfl run_newFt ?_; rintro w2 G2 k2 s2; rw [s1] at G2; have H2 := H1.below k2 H1.lt; have b2 := k1.trans (k2.mono k1.size); have SS := Lib.hid s2; have l2 := G2.lt; clear k1 k2 H1 s2; try go_simp))
  have c9 : w2.cell? ⟨bb, oo + 9, none⟩ = some (.int .u8 17) := by
    obtain ⟨b', o', e, -, -, hx⟩ := Seg.some (HV.out.below b2) (by omega)
    cases e
    rw [← H9.out]
    exact hx 9 (by omega)
  go_wp2_with fail
  go_at_call 54
  refine (T22 w2 (HV.out.below b2)).mono ?_
  rintro e w' ⟨rfl, hw⟩
  obtain rfl := hw.symm
  clear c9 T22
  obtain ⟨sv, hsr, hss⟩ := slice_lo (HV.out.below b2) 36 (by omega)
  rw [show ((36 : Nat) : Int) = 36 from rfl] at hsr
  go_wp2_with (refine at_sliceL rfl 23 under_b _ _ rfl (.slice (some ⟨bb, oo, none⟩) xs.length vc) (.int .i64 36) sv rfl rfl hsr ?_)
  go_at_call 26
  refine (HR _ w2 hss).mono ?_
  rintro r w6 ⟨rfl, k6⟩
  have b6 := b2.trans (k6.mono b2.size)
  have H6 := H2.below k6 H2.lt
  have G6 := G2.below k6 G2.lt
  have l6 := G6.lt
  clear b2 H2 G2 k6 HR hsr hss
  go_upto_region 10 with (first
    | (refine at_new rfl 36 F0.cs rfl run_newFr ?_; rintro w7 X7 k7 s7; have b7 := b6.trans (k7.mono b6.size); have H7 := H6.below k7 H6.lt; have G7 := G6.below k7 G6.lt; have FB6 := b6.size; clear b6 H6 G6 k7; try go_simp)
    | (refine at_new rfl 38 FZ rfl run_newFt ?_; rintro w8 T8 k8 s8; rw [s7] at T8; have b8 := b7.trans (k8.mono b7.size); have H8 := H7.below k8 H7.lt; have G8 := G7.below k8 G7.lt; have X8 := X7.below k8 X7.lt; have S8 := Lib.hid s8; clear b7 H7 G7 X7 k8 s8; try go_simp)
    | (refine at_put rfl 36 _ _ rfl rfl w6.heap.size rfl (FL.cs F) rfl X8 rfl szF (cs_one _) ?_; rintro w9 g9; have X9 := g9.blk; have b9 := g9.below b8 FB6; have H9 := g9.but.blk H8 H8.lt (show w.heap.size ≠ w6.heap.size by omega); have G9 := g9.but.blk G8 G8.lt (show w.heap.size + 1 ≠ w6.heap.size by omega); have T9 := g9.but.blk T8 T8.lt (show w6.heap.size + 1 ≠ w6.heap.size by omega); clear b8 H8 G8 T8 X8 g9)
    | (refine at_put rfl 38 _ _ rfl rfl (w6.heap.size + 1) rfl (flt 0 a) rfl T9 rfl szFt (flt_one _ _) ?_; rintro w10 g10; have T10 := g10.blk; have b10 := g10.below b9 (Nat.le_succ_of_le FB6); have H10 := g10.but.blk H9 H9.lt (show w.heap.size ≠ w6.heap.size + 1 by omega); have G10 := g10.but.blk G9 G9.lt (show w.heap.size + 1 ≠ w6.heap.size + 1 by omega); have X10 := g10.but.blk X9 X9.lt (show w6.heap.size ≠ w6.heap.size + 1 by omega); have c0 := T10.cell 0 (v := .int .i64 0) rfl; clear b9 H9 G9 T9 X9 g10))
  clear c0 T10
  have hV0 : Below w10.heap.size w10 ({ w10 with drawn := w10.drawn + 1 } : World) := (Below.refl _ _).drew
  obtain ⟨V, hVe⟩ : ∃ V : World, ({ w10 with drawn := w10.drawn + 1 } : World) = V := ⟨_, rfl⟩
  rw [hVe] at hV0
  have hVs : V.heap.size = w10.heap.size := by rw [← hVe]
  obtain ⟨U, hUe⟩ : ∃ U : World, V.alloc (.cells P0.cs.toArray 55) = U := ⟨_, rfl⟩
  have kU : Below w10.heap.size V U := by rw [← hUe]; exact (Below.refl _ V).alloc (by omega) _
  have hUs : U.heap.size = w10.heap.size + 1 := by rw [← hUe]; simp [hVs]
  have BU : Blk U w10.heap.size 55 P0.cs := by rw [← hUe, ← hVs]; exact Blk.new V _ _
  have hU0 : Below w10.heap.size w10 U := hV0.trans kU
  have XV := X10.below hV0 X10.lt
  have XU := X10.below hU0 X10.lt
  have hS : ∀ w', w' = V ∨ w' = U → Seg w' (.slice (some ⟨bb, oo, none⟩) xs.length vc) xs ∧ Blk w' w6.heap.size 36 (FL.cs F) := by
    rintro w' (rfl | rfl)
    · exact ⟨HV.out.below (b10.trans (hV0.mono b10.size)), XV⟩
    · exact ⟨HV.out.below (b10.trans (hU0.mono b10.size)), XU⟩
  have hc8 : ∀ w', w' = V ∨ w' = U → w'.cell? ⟨bb, oo + 8, none⟩ = some (.int .u8 ttl) := fun w' h' => by
    obtain ⟨b', o', e, -, -, hx⟩ := Seg.some (hS w' h').1 (by omega)
    cases e
    rw [← H8.out]
    exact hx 8 (by omega)
  obtain ⟨TT, G, hT, hG, gN⟩ := family (fun w' => w'.cell? ⟨bb, oo + 8, none⟩ = some (.int .u8 ttl)) V (hc8 V (.inl rfl))
  refine wp_region_multi (BoxC V U (fun w' => Wrote w10.heap.size 55 U w' (PL.cs ⟨src, dst, ttl, ent, vni, mark, F⟩)) 21) (by kernel_rfl) (by kernel_rfl) (by rw [hVe]; exact boxC_start) ?_
  have HS := Lib.hid hS; have HC8 := Lib.hid hc8; have HG := Lib.hid hG
  clear hS hc8 hG
  refine multi_calm (G := G) (fun L w' hr hC => HG.out _ (HC8.out w' (boxC_two hr (by decide) hC))) (fun L w' hr hC => boxC_keep hr (by decide) hC) (fun K hK => ?_)
  go_simp
  refine hK _ ?_
  clear hK K
  refine multi_call 54 #[.slice (some ⟨bb, oo, none⟩) xs.length vc, .int .i64 12, .int .i64 4] (.int .u64 src) (by first | rfl | go_simp) (fun w' => by first | rfl | go_simp) (fun L w' hr hC => ?_) ?_
  · exact (T12 w' (HS.out w' (boxC_two hr (by decide) hC)).1).mono fun e w'' ⟨h1, h2⟩ => ⟨h1, by subst h2; exact boxC_keep hr (by decide) hC⟩
  try dsimp only
  refine multi_calm (G := G) (fun L w' hr hC => HG.out _ (HC8.out w' (boxC_two hr (by decide) hC))) (fun L w' hr hC => boxC_keep hr (by decide) hC) (fun K hK => ?_)
  go_simp
  refine hK _ ?_
  clear hK K
  refine multi_calm (G := G) (fun L w' hr hC => HG.out _ (HC8.out w' (boxC_two hr (by decide) hC))) (fun L w' hr hC => boxC_keep hr (by decide) hC) (fun K hK => ?_)
  go_simp
  refine hK _ ?_
  clear hK K
  refine multi_call 54 #[.slice (some ⟨bb, oo, none⟩) xs.length vc, .int .i64 16, .int .i64 4] (.int .u64 dst) (by first | rfl | go_simp) (fun w' => by first | rfl | go_simp) (fun L w' hr hC => ?_) ?_
  · exact (T16 w' (HS.out w' (boxC_two hr (by decide) hC)).1).mono fun e w'' ⟨h1, h2⟩ => ⟨h1, by subst h2; exact boxC_keep hr (by decide) hC⟩
  try dsimp only
  refine multi_calm (G := G) (fun L w' hr hC => HG.out _ (HC8.out w' (boxC_two hr (by decide) hC))) (fun L w' hr hC => boxC_keep hr (by decide) hC) (fun K hK => ?_)
  go_simp
  refine hK _ ?_
  clear hK K
  refine multi_calm (G := G) (fun L w' hr hC => HG.out _ (HC8.out w' (boxC_two hr (by decide) hC))) (fun L w' hr hC => boxC_keep hr (by decide) hC) (fun K hK => ?_)
  go_simp
  refine hK _ ?_
  clear hK K
  refine multi_calm (G := G) (fun L w' hr hC => HG.out _ (HC8.out w' (boxC_two hr (by decide) hC))) (fun L w' hr hC => boxC_keep hr (by decide) hC) (fun K hK => ?_)
  go_simp
  refine hK _ ?_
  clear hK K
  refine multi_calm (G := G) (fun L w' hr hC => HG.out _ (HC8.out w' (boxC_two hr (by decide) hC))) (fun L w' hr hC => boxC_keep hr (by decide) hC) (fun K hK => ?_)
  go_simp
  refine hK _ ?_
  clear hK K
  refine multi_calm (G := G) (fun L w' hr hC => HG.out _ (HC8.out w' (boxC_two hr (by decide) hC))) (fun L w' hr hC => boxC_keep hr (by decide) hC) (fun K hK => ?_)
  go_simp
  refine hK _ ?_
  clear hK K
  refine multi_calm (G := G) (fun L w' hr hC => HG.out _ (HC8.out w' (boxC_two hr (by decide) hC))) (fun L w' hr hC => boxC_keep hr (by decide) hC) (fun K hK => ?_)
  go_simp
  refine hK _ ?_
  clear hK K
  refine multi_call 54 #[.slice (some ⟨bb, oo, none⟩) xs.length vc, .int .i64 20, .int .i64 2] (.int .u64 ent) (by first | rfl | go_simp) (fun w' => by first | rfl | go_simp) (fun L w' hr hC => ?_) ?_
  · exact (T20 w' (HS.out w' (boxC_two hr (by decide) hC)).1).mono fun e w'' ⟨h1, h2⟩ => ⟨h1, by subst h2; exact boxC_keep hr (by decide) hC⟩
  try dsimp only
  refine multi_calm (G := G) (fun L w' hr hC => HG.out _ (HC8.out w' (boxC_two hr (by decide) hC))) (fun L w' hr hC => boxC_keep hr (by decide) hC) (fun K hK => ?_)
  go_simp
  refine hK _ ?_
  clear hK K
  refine multi_calm (G := G) (fun L w' hr hC => HG.out _ (HC8.out w' (boxC_two hr (by decide) hC))) (fun L w' hr hC => boxC_keep hr (by decide) hC) (fun K hK => ?_)
  go_simp
  refine hK _ ?_
  clear hK K
  refine multi_call 54 #[.slice (some ⟨bb, oo, none⟩) xs.length vc, .int .i64 32, .int .i64 3] (.int .u64 vni) (by first | rfl | go_simp) (fun w' => by first | rfl | go_simp) (fun L w' hr hC => ?_) ?_
  · exact (T32 w' (HS.out w' (boxC_two hr (by decide) hC)).1).mono fun e w'' ⟨h1, h2⟩ => ⟨h1, by subst h2; exact boxC_keep hr (by decide) hC⟩
  try dsimp only
  refine multi_calm (G := G) (fun L w' hr hC => HG.out _ (HC8.out w' (boxC_two hr (by decide) hC))) (fun L w' hr hC => boxC_keep hr (by decide) hC) (fun K hK => ?_)
  go_simp
  refine hK _ ?_
  clear hK K
  refine multi_calm (G := G) (fun L w' hr hC => HG.out _ (HC8.out w' (boxC_two hr (by decide) hC))) (fun L w' hr hC => boxC_keep hr (by decide) hC) (fun K hK => ?_)
  go_simp
  refine hK _ ?_
  clear hK K
  refine multi_call 54 #[.slice (some ⟨bb, oo, none⟩) xs.length vc, .int .i64 29, .int .i64 3] (.int .u64 mark) (by first | rfl | go_simp) (fun w' => by first | rfl | go_simp) (fun L w' hr hC => ?_) ?_
  · exact (T29 w' (HS.out w' (boxC_two hr (by decide) hC)).1).mono fun e w'' ⟨h1, h2⟩ => ⟨h1, by subst h2; exact boxC_keep hr (by decide) hC⟩
  try dsimp only
  refine multi_calm (G := G) (fun L w' hr hC => HG.out _ (HC8.out w' (boxC_two hr (by decide) hC))) (fun L w' hr hC => boxC_keep hr (by decide) hC) (fun K hK => ?_)
  go_simp
  refine hK _ ?_
  clear hK K
  refine multi_row (by first | rfl | go_simp) 36 (.tmp 4) rfl w6.heap.size 0 rfl (FL.cs F) _ Try.underlying36 rfl szF (fun L w' hr hC => ⟨(HS.out w' (boxC_two hr (by decide) hC)).2.range 0 (FL.cs F) rfl, boxC_keep hr (by decide) hC⟩) ?_
  try dsimp only
  rw [wu32 src z12, wu32 dst z16, wi64 ttl ⟨z8.1, by omega⟩, wi64 ent z20, wu32 vni ⟨z32.1, by omega⟩, wu32 mark ⟨z29.1, by omega⟩]
  refine multi_bld (by first | rfl | go_simp) 55 _ rfl (PL.cs ⟨src, dst, ttl, ent, vni, mark, F⟩) (by kernel_rfl) (fun L w' hr hC => boxC_keep hr (by decide) hC) ?_
  try dsimp only
  refine multi_new (by first | rfl | go_simp) 55 P0.cs rfl run_newPk w10.heap.size (fun L w' hr hC => by obtain ⟨rfl, q⟩ := boxC_new hr hC; exact ⟨hVs, by rw [hUe]; exact q⟩) ?_
  try dsimp only
  refine multi_put (by first | rfl | go_simp) 55 _ _ rfl w10.heap.size rfl (PL.cs ⟨src, dst, ttl, ent, vni, mark, F⟩) rfl szP (pcs_one _) P0.cs rfl (fun L w' hr hC => by obtain ⟨rfl, q⟩ := boxC_put hr (by kernel_rfl) hC; exact ⟨BU, q⟩) ?_
  try dsimp only
  refine multi_nil ?_
  intro L w11 hL hC
  have g11 := boxC_end (n := 21) rfl (by kernel_rfl) hL hC
  have U11 := g11.blk
  have k11 : Below w10.heap.size w10 w11 := g11.below hU0 (Nat.le_refl _)
  have b11 := b10.trans (k11.mono b10.size)
  have H11 := H10.below k11 H10.lt
  have G11 := G10.below k11 G10.lt
  have l11 := G11.lt
  clear g11 hL hC gN HS HC8 HG BU XV XU kU hU0 hV0 hVs hUs hVe hUe k11 b10 H10 G10 X10 hT
  go_wp2_with (refine at_mid rfl 55 _ rfl w10.heap.size 0 rfl U11 (PL.cs ⟨src, dst, ttl, ent, vni, mark, F⟩) rfl _ Try.underlying55 rfl szP ?_)
  go_at_call 34
  refine (HB w11).mono ?_
  rintro r w15 ⟨rfl, k15⟩
  have b15 := b11.trans (k15.mono b11.size)
  have H15 := H11.below k15 H11.lt
  have G15 := G11.below k15 G11.lt
  have U15 := U11.below k15 U11.lt
  clear b11 H11 G11 U11 k15 HB
  go_wp2_with (first
    | (refine at_bld rfl 55 _ rfl P0.cs (by kernel_rfl) ?_)
    | (refine at_bld rfl 38 _ rfl (flt 3 0) (by kernel_rfl) ?_)
    | (refine at_put rfl 55 _ _ rfl rfl w.heap.size rfl (PL.cs P0) rfl H15 rfl szP (pcs_one _) ?_; rintro w8 g8; have H8 := g8.blk; have G8 := g8.but.blk G15 G15.lt (show w.heap.size + 1 ≠ w.heap.size by omega); have b8 := g8.below b15 (Nat.le_refl _); clear H15 G15 b15 g8)
    | (refine at_put rfl 38 _ _ rfl rfl (w.heap.size + 1) rfl (flt 3 0) rfl G8 rfl szFt (flt_one _ _) ?_; rintro w9 g9; have G9 := g9.blk; have H9 := g9.but.blk H8 H8.lt (show w.heap.size ≠ w.heap.size + 1 by omega); have b9 := g9.below b8 (Nat.le_succ _); clear H8 G8 b8 g9))
  exact bodyPost_ret (results_rows (by rfl) _ _ w.heap.size (w.heap.size + 1) _ _ (PL.cs P0).toArray (flt 3 0).toArray _ _ _ _ rfl H9 Try.underlying55 rfl szP rfl G9 Try.underlying38 rfl szFt) rfl ⟨rfl, b9⟩
set_option maxHeartbeats 4000000 in
theorem vs_bad2 (xs : List Int) (ho : Oct xs) (hl : xs.length ≤ 1000000) (hz : hfE xs = 0) (hx : rdX (xs.drop 36) = 0) (hc : (vP xs).chk = 0) (heq : (vP xs).enc ≠ xs) (v : Value) (w : World) (hv : Seg w v xs) : Calls Try.prog 39 #[v] w fun r w' => r = .returned (.tuple #[PL.v P0, .agg (flt 3 0).toArray]) ∧ Below w.heap.size w w' := by
  obtain ⟨h, h9, hp, -⟩ := hfE_zero hz
  have hlen : ¬ (xs.length : Int) < 36 := by omega
  have hl9 : (9 : Int) < xs.length := by omega
  have hl8 : (8 : Int) < xs.length := by omega
  have T22 := fun w' (h : Seg w' v xs) => take_is xs v w' h ho hl 22 2 (by decide) (by omega)
  have z22 : 0 ≤ tk xs 22 2 ∧ tk xs 22 2 < 65536 := by have := tk_lt ho 22 2 (by omega); simpa using this
  have e22 : tk xs 22 2 = 4789 := (tk_two ho 22 (by omega)).trans hp
  rw [e22] at T22
  clear z22 e22
  have hld : (xs.drop 36).length ≤ 1000000 := by simp; omega
  have HR := fun v w h => rread_is (xs.drop 36) (ho.drop 36) hld v w h
  unfold Reads FL.v at HR
  have hA := rdA_le (xs.drop 36)
  have T12 := fun w' (h : Seg w' v xs) => take_is xs v w' h ho hl 12 4 (by decide) (by omega)
  have z12 : 0 ≤ tk xs 12 4 ∧ tk xs 12 4 < 4294967296 := by have := tk_lt ho 12 4 (by omega); simpa using this
  have T16 := fun w' (h : Seg w' v xs) => take_is xs v w' h ho hl 16 4 (by decide) (by omega)
  have z16 : 0 ≤ tk xs 16 4 ∧ tk xs 16 4 < 4294967296 := by have := tk_lt ho 16 4 (by omega); simpa using this
  have T20 := fun w' (h : Seg w' v xs) => take_is xs v w' h ho hl 20 2 (by decide) (by omega)
  have z20 : 0 ≤ tk xs 20 2 ∧ tk xs 20 2 < 65536 := by have := tk_lt ho 20 2 (by omega); simpa using this
  have T32 := fun w' (h : Seg w' v xs) => take_is xs v w' h ho hl 32 3 (by decide) (by omega)
  have z32 : 0 ≤ tk xs 32 3 ∧ tk xs 32 3 < 16777216 := by have := tk_lt ho 32 3 (by omega); simpa using this
  have T29 := fun w' (h : Seg w' v xs) => take_is xs v w' h ho hl 29 3 (by decide) (by omega)
  have z29 : 0 ≤ tk xs 29 3 ∧ tk xs 29 3 < 16777216 := by have := tk_lt ho 29 3 (by omega); simpa using this
  have hok := vP_ok ho h
  rw [hx] at HR
  have e8 : tk xs 8 1 = xs.getD 8 0 := tk_one ho 8 (by omega)
  have z8 := ho.getD 8
  have HB := fun w => vrbytes_ok _ hok hc w
  have HQ : ((strOfNums (vP xs).enc).toList == (strOfNums xs).toList) = false := by rw [str_eq (penc_oct _) ho]; simpa using heq
  have HNE := Lib.hid (show (vP xs).enc ≠ [] from fun q => by have := penc_length (vP xs); rw [q] at this; simp at this; omega)
  generalize (vP xs).enc = Z at HB HQ HNE
  unfold vP at HB
  rw [e8] at HB
  have HX0 : Hid (xs ≠ []) := Lib.hid (fun q => by rw [q] at h; exact absurd h (by decide))
  generalize rdF (xs.drop 36) = F at *
  generalize rdA (xs.drop 36) = a at *
  generalize tk xs 12 4 = src at *
  generalize tk xs 16 4 = dst at *
  generalize tk xs 20 2 = ent at *
  generalize tk xs 32 3 = vni at *
  generalize tk xs 29 3 = mark at *
  obtain ⟨ttl, htt⟩ : ∃ ttl, xs.getD 8 0 = ttl := ⟨_, rfl⟩
  rw [htt] at HB z8
  have H8 := Lib.hid htt
  have H9 := Lib.hid h9
  unfold PL.v at HB
  clear hx hz h9 hp hA hld hok e8 htt hc heq
  have HV := Lib.hid hv
  obtain ⟨va, vc, rfl, -⟩ := id hv
  obtain ⟨bb, oo, rfl, -⟩ := Seg.some hv (by omega)
  clear hv
  unfold PL.v
  go_enter Try.func39, Try.ntmps39
  go_upto_region 1 with (first
    | (refine at_new rfl 55 P0.cs rfl run_newPk ?_; rintro w1 H1 k1 s1)
    | (refine at_new rfl 38 FZ rfl run_newFt ?_; rintro w2 G2 k2 s2; rw [s1] at G2; have H2 := H1.below k2 H1.lt; have b2 := k1.trans (k2.mono k1.size); have SS := Lib.hid s2; have l2 := G2.lt; clear k1 k2 H1 s2; try go_simp))
  have c9 : w2.cell? ⟨bb, oo + 9, none⟩ = some (.int .u8 17) := by
    obtain ⟨b', o', e, -, -, hx⟩ := Seg.some (HV.out.below b2) (by omega)
    cases e
    rw [← H9.out]
    exact hx 9 (by omega)
  go_wp2_with fail
  go_at_call 54
  refine (T22 w2 (HV.out.below b2)).mono ?_
  rintro e w' ⟨rfl, hw⟩
  obtain rfl := hw.symm
  clear c9 T22
  obtain ⟨sv, hsr, hss⟩ := slice_lo (HV.out.below b2) 36 (by omega)
  rw [show ((36 : Nat) : Int) = 36 from rfl] at hsr
  go_wp2_with (refine at_sliceL rfl 23 under_b _ _ rfl (.slice (some ⟨bb, oo, none⟩) xs.length vc) (.int .i64 36) sv rfl rfl hsr ?_)
  go_at_call 26
  refine (HR _ w2 hss).mono ?_
  rintro r w6 ⟨rfl, k6⟩
  have b6 := b2.trans (k6.mono b2.size)
  have H6 := H2.below k6 H2.lt
  have G6 := G2.below k6 G2.lt
  have l6 := G6.lt
  clear b2 H2 G2 k6 HR hsr hss
  go_upto_region 10 with (first
    | (refine at_new rfl 36 F0.cs rfl run_newFr ?_; rintro w7 X7 k7 s7; have b7 := b6.trans (k7.mono b6.size); have H7 := H6.below k7 H6.lt; have G7 := G6.below k7 G6.lt; have FB6 := b6.size; clear b6 H6 G6 k7; try go_simp)
    | (refine at_new rfl 38 FZ rfl run_newFt ?_; rintro w8 T8 k8 s8; rw [s7] at T8; have b8 := b7.trans (k8.mono b7.size); have H8 := H7.below k8 H7.lt; have G8 := G7.below k8 G7.lt; have X8 := X7.below k8 X7.lt; have S8 := Lib.hid s8; clear b7 H7 G7 X7 k8 s8; try go_simp)
    | (refine at_put rfl 36 _ _ rfl rfl w6.heap.size rfl (FL.cs F) rfl X8 rfl szF (cs_one _) ?_; rintro w9 g9; have X9 := g9.blk; have b9 := g9.below b8 FB6; have H9 := g9.but.blk H8 H8.lt (show w.heap.size ≠ w6.heap.size by omega); have G9 := g9.but.blk G8 G8.lt (show w.heap.size + 1 ≠ w6.heap.size by omega); have T9 := g9.but.blk T8 T8.lt (show w6.heap.size + 1 ≠ w6.heap.size by omega); clear b8 H8 G8 T8 X8 g9)
    | (refine at_put rfl 38 _ _ rfl rfl (w6.heap.size + 1) rfl (flt 0 a) rfl T9 rfl szFt (flt_one _ _) ?_; rintro w10 g10; have T10 := g10.blk; have b10 := g10.below b9 (Nat.le_succ_of_le FB6); have H10 := g10.but.blk H9 H9.lt (show w.heap.size ≠ w6.heap.size + 1 by omega); have G10 := g10.but.blk G9 G9.lt (show w.heap.size + 1 ≠ w6.heap.size + 1 by omega); have X10 := g10.but.blk X9 X9.lt (show w6.heap.size ≠ w6.heap.size + 1 by omega); have c0 := T10.cell 0 (v := .int .i64 0) rfl; clear b9 H9 G9 T9 X9 g10))
  clear c0 T10
  have hV0 : Below w10.heap.size w10 ({ w10 with drawn := w10.drawn + 1 } : World) := (Below.refl _ _).drew
  obtain ⟨V, hVe⟩ : ∃ V : World, ({ w10 with drawn := w10.drawn + 1 } : World) = V := ⟨_, rfl⟩
  rw [hVe] at hV0
  have hVs : V.heap.size = w10.heap.size := by rw [← hVe]
  obtain ⟨U, hUe⟩ : ∃ U : World, V.alloc (.cells P0.cs.toArray 55) = U := ⟨_, rfl⟩
  have kU : Below w10.heap.size V U := by rw [← hUe]; exact (Below.refl _ V).alloc (by omega) _
  have hUs : U.heap.size = w10.heap.size + 1 := by rw [← hUe]; simp [hVs]
  have BU : Blk U w10.heap.size 55 P0.cs := by rw [← hUe, ← hVs]; exact Blk.new V _ _
  have hU0 : Below w10.heap.size w10 U := hV0.trans kU
  have XV := X10.below hV0 X10.lt
  have XU := X10.below hU0 X10.lt
  have hS : ∀ w', w' = V ∨ w' = U → Seg w' (.slice (some ⟨bb, oo, none⟩) xs.length vc) xs ∧ Blk w' w6.heap.size 36 (FL.cs F) := by
    rintro w' (rfl | rfl)
    · exact ⟨HV.out.below (b10.trans (hV0.mono b10.size)), XV⟩
    · exact ⟨HV.out.below (b10.trans (hU0.mono b10.size)), XU⟩
  have hc8 : ∀ w', w' = V ∨ w' = U → w'.cell? ⟨bb, oo + 8, none⟩ = some (.int .u8 ttl) := fun w' h' => by
    obtain ⟨b', o', e, -, -, hx⟩ := Seg.some (hS w' h').1 (by omega)
    cases e
    rw [← H8.out]
    exact hx 8 (by omega)
  obtain ⟨TT, G, hT, hG, gN⟩ := family (fun w' => w'.cell? ⟨bb, oo + 8, none⟩ = some (.int .u8 ttl)) V (hc8 V (.inl rfl))
  refine wp_region_multi (BoxC V U (fun w' => Wrote w10.heap.size 55 U w' (PL.cs ⟨src, dst, ttl, ent, vni, mark, F⟩)) 21) (by kernel_rfl) (by kernel_rfl) (by rw [hVe]; exact boxC_start) ?_
  have HS := Lib.hid hS; have HC8 := Lib.hid hc8; have HG := Lib.hid hG
  clear hS hc8 hG
  refine multi_calm (G := G) (fun L w' hr hC => HG.out _ (HC8.out w' (boxC_two hr (by decide) hC))) (fun L w' hr hC => boxC_keep hr (by decide) hC) (fun K hK => ?_)
  go_simp
  refine hK _ ?_
  clear hK K
  refine multi_call 54 #[.slice (some ⟨bb, oo, none⟩) xs.length vc, .int .i64 12, .int .i64 4] (.int .u64 src) (by first | rfl | go_simp) (fun w' => by first | rfl | go_simp) (fun L w' hr hC => ?_) ?_
  · exact (T12 w' (HS.out w' (boxC_two hr (by decide) hC)).1).mono fun e w'' ⟨h1, h2⟩ => ⟨h1, by subst h2; exact boxC_keep hr (by decide) hC⟩
  try dsimp only
  refine multi_calm (G := G) (fun L w' hr hC => HG.out _ (HC8.out w' (boxC_two hr (by decide) hC))) (fun L w' hr hC => boxC_keep hr (by decide) hC) (fun K hK => ?_)
  go_simp
  refine hK _ ?_
  clear hK K
  refine multi_calm (G := G) (fun L w' hr hC => HG.out _ (HC8.out w' (boxC_two hr (by decide) hC))) (fun L w' hr hC => boxC_keep hr (by decide) hC) (fun K hK => ?_)
  go_simp
  refine hK _ ?_
  clear hK K
  refine multi_call 54 #[.slice (some ⟨bb, oo, none⟩) xs.length vc, .int .i64 16, .int .i64 4] (.int .u64 dst) (by first | rfl | go_simp) (fun w' => by first | rfl | go_simp) (fun L w' hr hC => ?_) ?_
  · exact (T16 w' (HS.out w' (boxC_two hr (by decide) hC)).1).mono fun e w'' ⟨h1, h2⟩ => ⟨h1, by subst h2; exact boxC_keep hr (by decide) hC⟩
  try dsimp only
  refine multi_calm (G := G) (fun L w' hr hC => HG.out _ (HC8.out w' (boxC_two hr (by decide) hC))) (fun L w' hr hC => boxC_keep hr (by decide) hC) (fun K hK => ?_)
  go_simp
  refine hK _ ?_
  clear hK K
  refine multi_calm (G := G) (fun L w' hr hC => HG.out _ (HC8.out w' (boxC_two hr (by decide) hC))) (fun L w' hr hC => boxC_keep hr (by decide) hC) (fun K hK => ?_)
  go_simp
  refine hK _ ?_
  clear hK K
  refine multi_calm (G := G) (fun L w' hr hC => HG.out _ (HC8.out w' (boxC_two hr (by decide) hC))) (fun L w' hr hC => boxC_keep hr (by decide) hC) (fun K hK => ?_)
  go_simp
  refine hK _ ?_
  clear hK K
  refine multi_calm (G := G) (fun L w' hr hC => HG.out _ (HC8.out w' (boxC_two hr (by decide) hC))) (fun L w' hr hC => boxC_keep hr (by decide) hC) (fun K hK => ?_)
  go_simp
  refine hK _ ?_
  clear hK K
  refine multi_calm (G := G) (fun L w' hr hC => HG.out _ (HC8.out w' (boxC_two hr (by decide) hC))) (fun L w' hr hC => boxC_keep hr (by decide) hC) (fun K hK => ?_)
  go_simp
  refine hK _ ?_
  clear hK K
  refine multi_calm (G := G) (fun L w' hr hC => HG.out _ (HC8.out w' (boxC_two hr (by decide) hC))) (fun L w' hr hC => boxC_keep hr (by decide) hC) (fun K hK => ?_)
  go_simp
  refine hK _ ?_
  clear hK K
  refine multi_call 54 #[.slice (some ⟨bb, oo, none⟩) xs.length vc, .int .i64 20, .int .i64 2] (.int .u64 ent) (by first | rfl | go_simp) (fun w' => by first | rfl | go_simp) (fun L w' hr hC => ?_) ?_
  · exact (T20 w' (HS.out w' (boxC_two hr (by decide) hC)).1).mono fun e w'' ⟨h1, h2⟩ => ⟨h1, by subst h2; exact boxC_keep hr (by decide) hC⟩
  try dsimp only
  refine multi_calm (G := G) (fun L w' hr hC => HG.out _ (HC8.out w' (boxC_two hr (by decide) hC))) (fun L w' hr hC => boxC_keep hr (by decide) hC) (fun K hK => ?_)
  go_simp
  refine hK _ ?_
  clear hK K
  refine multi_calm (G := G) (fun L w' hr hC => HG.out _ (HC8.out w' (boxC_two hr (by decide) hC))) (fun L w' hr hC => boxC_keep hr (by decide) hC) (fun K hK => ?_)
  go_simp
  refine hK _ ?_
  clear hK K
  refine multi_call 54 #[.slice (some ⟨bb, oo, none⟩) xs.length vc, .int .i64 32, .int .i64 3] (.int .u64 vni) (by first | rfl | go_simp) (fun w' => by first | rfl | go_simp) (fun L w' hr hC => ?_) ?_
  · exact (T32 w' (HS.out w' (boxC_two hr (by decide) hC)).1).mono fun e w'' ⟨h1, h2⟩ => ⟨h1, by subst h2; exact boxC_keep hr (by decide) hC⟩
  try dsimp only
  refine multi_calm (G := G) (fun L w' hr hC => HG.out _ (HC8.out w' (boxC_two hr (by decide) hC))) (fun L w' hr hC => boxC_keep hr (by decide) hC) (fun K hK => ?_)
  go_simp
  refine hK _ ?_
  clear hK K
  refine multi_calm (G := G) (fun L w' hr hC => HG.out _ (HC8.out w' (boxC_two hr (by decide) hC))) (fun L w' hr hC => boxC_keep hr (by decide) hC) (fun K hK => ?_)
  go_simp
  refine hK _ ?_
  clear hK K
  refine multi_call 54 #[.slice (some ⟨bb, oo, none⟩) xs.length vc, .int .i64 29, .int .i64 3] (.int .u64 mark) (by first | rfl | go_simp) (fun w' => by first | rfl | go_simp) (fun L w' hr hC => ?_) ?_
  · exact (T29 w' (HS.out w' (boxC_two hr (by decide) hC)).1).mono fun e w'' ⟨h1, h2⟩ => ⟨h1, by subst h2; exact boxC_keep hr (by decide) hC⟩
  try dsimp only
  refine multi_calm (G := G) (fun L w' hr hC => HG.out _ (HC8.out w' (boxC_two hr (by decide) hC))) (fun L w' hr hC => boxC_keep hr (by decide) hC) (fun K hK => ?_)
  go_simp
  refine hK _ ?_
  clear hK K
  refine multi_row (by first | rfl | go_simp) 36 (.tmp 4) rfl w6.heap.size 0 rfl (FL.cs F) _ Try.underlying36 rfl szF (fun L w' hr hC => ⟨(HS.out w' (boxC_two hr (by decide) hC)).2.range 0 (FL.cs F) rfl, boxC_keep hr (by decide) hC⟩) ?_
  try dsimp only
  rw [wu32 src z12, wu32 dst z16, wi64 ttl ⟨z8.1, by omega⟩, wi64 ent z20, wu32 vni ⟨z32.1, by omega⟩, wu32 mark ⟨z29.1, by omega⟩]
  refine multi_bld (by first | rfl | go_simp) 55 _ rfl (PL.cs ⟨src, dst, ttl, ent, vni, mark, F⟩) (by kernel_rfl) (fun L w' hr hC => boxC_keep hr (by decide) hC) ?_
  try dsimp only
  refine multi_new (by first | rfl | go_simp) 55 P0.cs rfl run_newPk w10.heap.size (fun L w' hr hC => by obtain ⟨rfl, q⟩ := boxC_new hr hC; exact ⟨hVs, by rw [hUe]; exact q⟩) ?_
  try dsimp only
  refine multi_put (by first | rfl | go_simp) 55 _ _ rfl w10.heap.size rfl (PL.cs ⟨src, dst, ttl, ent, vni, mark, F⟩) rfl szP (pcs_one _) P0.cs rfl (fun L w' hr hC => by obtain ⟨rfl, q⟩ := boxC_put hr (by kernel_rfl) hC; exact ⟨BU, q⟩) ?_
  try dsimp only
  refine multi_nil ?_
  intro L w11 hL hC
  have g11 := boxC_end (n := 21) rfl (by kernel_rfl) hL hC
  have U11 := g11.blk
  have k11 : Below w10.heap.size w10 w11 := g11.below hU0 (Nat.le_refl _)
  have b11 := b10.trans (k11.mono b10.size)
  have H11 := H10.below k11 H10.lt
  have G11 := G10.below k11 G10.lt
  have l11 := G11.lt
  clear g11 hL hC gN HS HC8 HG BU XV XU kU hU0 hV0 hVs hUs hVe hUe k11 b10 H10 G10 X10 hT
  go_wp2_with (refine at_mid rfl 55 _ rfl w10.heap.size 0 rfl U11 (PL.cs ⟨src, dst, ttl, ent, vni, mark, F⟩) rfl _ Try.underlying55 rfl szP ?_)
  go_at_call 34
  refine (HB w11).mono ?_
  rintro r w15 ⟨u, rfl, d15, k15⟩
  have b15 := b11.trans (k15.mono b11.size)
  have H15 := H11.below k15 H11.lt
  have G15 := G11.below k15 G11.lt
  have U15 := U11.below k15 U11.lt
  clear b11 H11 G11 U11 k15 HB
  have hs1 := seg_string d15.dat.seg HNE.out
  have hs2 := seg_string (HV.out.below b15) HX0.out
  obtain ⟨ua, uc, rfl⟩ := d15.dat.shape
  clear d15
  generalize strOfNums Z = str1 at *
  generalize strOfNums xs = str2 at *
  go_wp2_with (first
    | (refine at_bld rfl 55 _ rfl P0.cs (by kernel_rfl) ?_)
    | (refine at_bld rfl 38 _ rfl (flt 3 0) (by kernel_rfl) ?_)
    | (refine at_put rfl 55 _ _ rfl rfl w.heap.size rfl (PL.cs P0) rfl H15 rfl szP (pcs_one _) ?_; rintro w8 g8; have H8 := g8.blk; have G8 := g8.but.blk G15 G15.lt (show w.heap.size + 1 ≠ w.heap.size by omega); have b8 := g8.below b15 (Nat.le_refl _); clear H15 G15 b15 g8)
    | (refine at_put rfl 38 _ _ rfl rfl (w.heap.size + 1) rfl (flt 3 0) rfl G8 rfl szFt (flt_one _ _) ?_; rintro w9 g9; have G9 := g9.blk; have H9 := g9.but.blk H8 H8.lt (show w.heap.size ≠ w.heap.size + 1 by omega); have b9 := g9.below b8 (Nat.le_succ _); clear H8 G8 b8 g9))
  exact bodyPost_ret (results_rows (by rfl) _ _ w.heap.size (w.heap.size + 1) _ _ (PL.cs P0).toArray (flt 3 0).toArray _ _ _ _ rfl H9 Try.underlying55 rfl szP rfl G9 Try.underlying38 rfl szFt) rfl ⟨rfl, b9⟩
set_option maxHeartbeats 4000000 in
theorem vs_ok (xs : List Int) (ho : Oct xs) (hl : xs.length ≤ 1000000) (hz : hfE xs = 0) (hx : rdX (xs.drop 36) = 0) (hc : (vP xs).chk = 0) (heq : (vP xs).enc = xs) (v : Value) (w : World) (hv : Seg w v xs) : Calls Try.prog 39 #[v] w fun r w' => r = .returned (.tuple #[PL.v (vP xs), .agg (flt 0 0).toArray]) ∧ Below w.heap.size w w' := by
  obtain ⟨h, h9, hp, -⟩ := hfE_zero hz
  have hlen : ¬ (xs.length : Int) < 36 := by omega
  have hl9 : (9 : Int) < xs.length := by omega
  have hl8 : (8 : Int) < xs.length := by omega
  have T22 := fun w' (h : Seg w' v xs) => take_is xs v w' h ho hl 22 2 (by decide) (by omega)
  have z22 : 0 ≤ tk xs 22 2 ∧ tk xs 22 2 < 65536 := by have := tk_lt ho 22 2 (by omega); simpa using this
  have e22 : tk xs 22 2 = 4789 := (tk_two ho 22 (by omega)).trans hp
  rw [e22] at T22
  clear z22 e22
  have hld : (xs.drop 36).length ≤ 1000000 := by simp; omega
  have HR := fun v w h => rread_is (xs.drop 36) (ho.drop 36) hld v w h
  unfold Reads FL.v at HR
  have hA := rdA_le (xs.drop 36)
  have T12 := fun w' (h : Seg w' v xs) => take_is xs v w' h ho hl 12 4 (by decide) (by omega)
  have z12 : 0 ≤ tk xs 12 4 ∧ tk xs 12 4 < 4294967296 := by have := tk_lt ho 12 4 (by omega); simpa using this
  have T16 := fun w' (h : Seg w' v xs) => take_is xs v w' h ho hl 16 4 (by decide) (by omega)
  have z16 : 0 ≤ tk xs 16 4 ∧ tk xs 16 4 < 4294967296 := by have := tk_lt ho 16 4 (by omega); simpa using this
  have T20 := fun w' (h : Seg w' v xs) => take_is xs v w' h ho hl 20 2 (by decide) (by omega)
  have z20 : 0 ≤ tk xs 20 2 ∧ tk xs 20 2 < 65536 := by have := tk_lt ho 20 2 (by omega); simpa using this
  have T32 := fun w' (h : Seg w' v xs) => take_is xs v w' h ho hl 32 3 (by decide) (by omega)
  have z32 : 0 ≤ tk xs 32 3 ∧ tk xs 32 3 < 16777216 := by have := tk_lt ho 32 3 (by omega); simpa using this
  have T29 := fun w' (h : Seg w' v xs) => take_is xs v w' h ho hl 29 3 (by decide) (by omega)
  have z29 : 0 ≤ tk xs 29 3 ∧ tk xs 29 3 < 16777216 := by have := tk_lt ho 29 3 (by omega); simpa using this
  have hok := vP_ok ho h
  rw [hx] at HR
  have e8 : tk xs 8 1 = xs.getD 8 0 := tk_one ho 8 (by omega)
  have z8 := ho.getD 8
  have HB := fun w => vrbytes_ok _ hok hc w
  have HQ : ((strOfNums (vP xs).enc).toList == (strOfNums xs).toList) = true := by rw [str_eq (penc_oct _) ho]; simpa using heq
  have HNE := Lib.hid (show (vP xs).enc ≠ [] from fun q => by have := penc_length (vP xs); rw [q] at this; simp at this; omega)
  generalize (vP xs).enc = Z at HB HQ HNE
  unfold vP at HB
  rw [e8] at HB
  unfold vP
  rw [e8]
  have HX0 : Hid (xs ≠ []) := Lib.hid (fun q => by rw [q] at h; exact absurd h (by decide))
  generalize rdF (xs.drop 36) = F at *
  generalize rdA (xs.drop 36) = a at *
  generalize tk xs 12 4 = src at *
  generalize tk xs 16 4 = dst at *
  generalize tk xs 20 2 = ent at *
  generalize tk xs 32 3 = vni at *
  generalize tk xs 29 3 = mark at *
  obtain ⟨ttl, htt⟩ : ∃ ttl, xs.getD 8 0 = ttl := ⟨_, rfl⟩
  rw [htt] at HB z8 ⊢
  have H8 := Lib.hid htt
  have H9 := Lib.hid h9
  unfold PL.v at HB
  clear hx hz h9 hp hA hld hok e8 htt hc heq
  have HV := Lib.hid hv
  obtain ⟨va, vc, rfl, -⟩ := id hv
  obtain ⟨bb, oo, rfl, -⟩ := Seg.some hv (by omega)
  clear hv
  unfold PL.v
  go_enter Try.func39, Try.ntmps39
  go_upto_region 1 with (first
    | (refine at_new rfl 55 P0.cs rfl run_newPk ?_; rintro w1 H1 k1 s1)
    | (refine at_new rfl 38 FZ rfl run_newFt ?_; rintro w2 G2 k2 s2; rw [s1] at G2; have H2 := H1.below k2 H1.lt; have b2 := k1.trans (k2.mono k1.size); have SS := Lib.hid s2; have l2 := G2.lt; clear k1 k2 H1 s2; try go_simp))
  have c9 : w2.cell? ⟨bb, oo + 9, none⟩ = some (.int .u8 17) := by
    obtain ⟨b', o', e, -, -, hx⟩ := Seg.some (HV.out.below b2) (by omega)
    cases e
    rw [← H9.out]
    exact hx 9 (by omega)
  go_wp2_with fail
  go_at_call 54
  refine (T22 w2 (HV.out.below b2)).mono ?_
  rintro e w' ⟨rfl, hw⟩
  obtain rfl := hw.symm
  clear c9 T22
  obtain ⟨sv, hsr, hss⟩ := slice_lo (HV.out.below b2) 36 (by omega)
  rw [show ((36 : Nat) : Int) = 36 from rfl] at hsr
  go_wp2_with (refine at_sliceL rfl 23 under_b _ _ rfl (.slice (some ⟨bb, oo, none⟩) xs.length vc) (.int .i64 36) sv rfl rfl hsr ?_)
  go_at_call 26
  refine (HR _ w2 hss).mono ?_
  rintro r w6 ⟨rfl, k6⟩
  have b6 := b2.trans (k6.mono b2.size)
  have H6 := H2.below k6 H2.lt
  have G6 := G2.below k6 G2.lt
  have l6 := G6.lt
  clear b2 H2 G2 k6 HR hsr hss
  go_upto_region 10 with (first
    | (refine at_new rfl 36 F0.cs rfl run_newFr ?_; rintro w7 X7 k7 s7; have b7 := b6.trans (k7.mono b6.size); have H7 := H6.below k7 H6.lt; have G7 := G6.below k7 G6.lt; have FB6 := b6.size; clear b6 H6 G6 k7; try go_simp)
    | (refine at_new rfl 38 FZ rfl run_newFt ?_; rintro w8 T8 k8 s8; rw [s7] at T8; have b8 := b7.trans (k8.mono b7.size); have H8 := H7.below k8 H7.lt; have G8 := G7.below k8 G7.lt; have X8 := X7.below k8 X7.lt; have S8 := Lib.hid s8; clear b7 H7 G7 X7 k8 s8; try go_simp)
    | (refine at_put rfl 36 _ _ rfl rfl w6.heap.size rfl (FL.cs F) rfl X8 rfl szF (cs_one _) ?_; rintro w9 g9; have X9 := g9.blk; have b9 := g9.below b8 FB6; have H9 := g9.but.blk H8 H8.lt (show w.heap.size ≠ w6.heap.size by omega); have G9 := g9.but.blk G8 G8.lt (show w.heap.size + 1 ≠ w6.heap.size by omega); have T9 := g9.but.blk T8 T8.lt (show w6.heap.size + 1 ≠ w6.heap.size by omega); clear b8 H8 G8 T8 X8 g9)
    | (refine at_put rfl 38 _ _ rfl rfl (w6.heap.size + 1) rfl (flt 0 a) rfl T9 rfl szFt (flt_one _ _) ?_; rintro w10 g10; have T10 := g10.blk; have b10 := g10.below b9 (Nat.le_succ_of_le FB6); have H10 := g10.but.blk H9 H9.lt (show w.heap.size ≠ w6.heap.size + 1 by omega); have G10 := g10.but.blk G9 G9.lt (show w.heap.size + 1 ≠ w6.heap.size + 1 by omega); have X10 := g10.but.blk X9 X9.lt (show w6.heap.size ≠ w6.heap.size + 1 by omega); have c0 := T10.cell 0 (v := .int .i64 0) rfl; clear b9 H9 G9 T9 X9 g10))
  clear c0 T10
  have hV0 : Below w10.heap.size w10 ({ w10 with drawn := w10.drawn + 1 } : World) := (Below.refl _ _).drew
  obtain ⟨V, hVe⟩ : ∃ V : World, ({ w10 with drawn := w10.drawn + 1 } : World) = V := ⟨_, rfl⟩
  rw [hVe] at hV0
  have hVs : V.heap.size = w10.heap.size := by rw [← hVe]
  obtain ⟨U, hUe⟩ : ∃ U : World, V.alloc (.cells P0.cs.toArray 55) = U := ⟨_, rfl⟩
  have kU : Below w10.heap.size V U := by rw [← hUe]; exact (Below.refl _ V).alloc (by omega) _
  have hUs : U.heap.size = w10.heap.size + 1 := by rw [← hUe]; simp [hVs]
  have BU : Blk U w10.heap.size 55 P0.cs := by rw [← hUe, ← hVs]; exact Blk.new V _ _
  have hU0 : Below w10.heap.size w10 U := hV0.trans kU
  have XV := X10.below hV0 X10.lt
  have XU := X10.below hU0 X10.lt
  have hS : ∀ w', w' = V ∨ w' = U → Seg w' (.slice (some ⟨bb, oo, none⟩) xs.length vc) xs ∧ Blk w' w6.heap.size 36 (FL.cs F) := by
    rintro w' (rfl | rfl)
    · exact ⟨HV.out.below (b10.trans (hV0.mono b10.size)), XV⟩
    · exact ⟨HV.out.below (b10.trans (hU0.mono b10.size)), XU⟩
  have hc8 : ∀ w', w' = V ∨ w' = U → w'.cell? ⟨bb, oo + 8, none⟩ = some (.int .u8 ttl) := fun w' h' => by
    obtain ⟨b', o', e, -, -, hx⟩ := Seg.some (hS w' h').1 (by omega)
    cases e
    rw [← H8.out]
    exact hx 8 (by omega)
  obtain ⟨TT, G, hT, hG, gN⟩ := family (fun w' => w'.cell? ⟨bb, oo + 8, none⟩ = some (.int .u8 ttl)) V (hc8 V (.inl rfl))
  refine wp_region_multi (BoxC V U (fun w' => Wrote w10.heap.size 55 U w' (PL.cs ⟨src, dst, ttl, ent, vni, mark, F⟩)) 21) (by kernel_rfl) (by kernel_rfl) (by rw [hVe]; exact boxC_start) ?_
  have HS := Lib.hid hS; have HC8 := Lib.hid hc8; have HG := Lib.hid hG
  clear hS hc8 hG
  refine multi_calm (G := G) (fun L w' hr hC => HG.out _ (HC8.out w' (boxC_two hr (by decide) hC))) (fun L w' hr hC => boxC_keep hr (by decide) hC) (fun K hK => ?_)
  go_simp
  refine hK _ ?_
  clear hK K
  refine multi_call 54 #[.slice (some ⟨bb, oo, none⟩) xs.length vc, .int .i64 12, .int .i64 4] (.int .u64 src) (by first | rfl | go_simp) (fun w' => by first | rfl | go_simp) (fun L w' hr hC => ?_) ?_
  · exact (T12 w' (HS.out w' (boxC_two hr (by decide) hC)).1).mono fun e w'' ⟨h1, h2⟩ => ⟨h1, by subst h2; exact boxC_keep hr (by decide) hC⟩
  try dsimp only
  refine multi_calm (G := G) (fun L w' hr hC => HG.out _ (HC8.out w' (boxC_two hr (by decide) hC))) (fun L w' hr hC => boxC_keep hr (by decide) hC) (fun K hK => ?_)
  go_simp
  refine hK _ ?_
  clear hK K
  refine multi_calm (G := G) (fun L w' hr hC => HG.out _ (HC8.out w' (boxC_two hr (by decide) hC))) (fun L w' hr hC => boxC_keep hr (by decide) hC) (fun K hK => ?_)
  go_simp
  refine hK _ ?_
  clear hK K
  refine multi_call 54 #[.slice (some ⟨bb, oo, none⟩) xs.length vc, .int .i64 16, .int .i64 4] (.int .u64 dst) (by first | rfl | go_simp) (fun w' => by first | rfl | go_simp) (fun L w' hr hC => ?_) ?_
  · exact (T16 w' (HS.out w' (boxC_two hr (by decide) hC)).1).mono fun e w'' ⟨h1, h2⟩ => ⟨h1, by subst h2; exact boxC_keep hr (by decide) hC⟩
  try dsimp only
  refine multi_calm (G := G) (fun L w' hr hC => HG.out _ (HC8.out w' (boxC_two hr (by decide) hC))) (fun L w' hr hC => boxC_keep hr (by decide) hC) (fun K hK => ?_)
  go_simp
  refine hK _ ?_
  clear hK K
  refine multi_calm (G := G) (fun L w' hr hC => HG.out _ (HC8.out w' (boxC_two hr (by decide) hC))) (fun L w' hr hC => boxC_keep hr (by decide) hC) (fun K hK => ?_)
  go_simp
  refine hK _ ?_
  clear hK K
  refine multi_calm (G := G) (fun L w' hr hC => HG.out _ (HC8.out w' (boxC_two hr (by decide) hC))) (fun L w' hr hC => boxC_keep hr (by decide) hC) (fun K hK => ?_)
  go_simp
  refine hK _ ?_
  clear hK K
  refine multi_calm (G := G) (fun L w' hr hC => HG.out _ (HC8.out w' (boxC_two hr (by decide) hC))) (fun L w' hr hC => boxC_keep hr (by decide) hC) (fun K hK => ?_)
  go_simp
  refine hK _ ?_
  clear hK K
  refine multi_calm (G := G) (fun L w' hr hC => HG.out _ (HC8.out w' (boxC_two hr (by decide) hC))) (fun L w' hr hC => boxC_keep hr (by decide) hC) (fun K hK => ?_)
  go_simp
  refine hK _ ?_
  clear hK K
  refine multi_calm (G := G) (fun L w' hr hC => HG.out _ (HC8.out w' (boxC_two hr (by decide) hC))) (fun L w' hr hC => boxC_keep hr (by decide) hC) (fun K hK => ?_)
  go_simp
  refine hK _ ?_
  clear hK K
  refine multi_call 54 #[.slice (some ⟨bb, oo, none⟩) xs.length vc, .int .i64 20, .int .i64 2] (.int .u64 ent) (by first | rfl | go_simp) (fun w' => by first | rfl | go_simp) (fun L w' hr hC => ?_) ?_
  · exact (T20 w' (HS.out w' (boxC_two hr (by decide) hC)).1).mono fun e w'' ⟨h1, h2⟩ => ⟨h1, by subst h2; exact boxC_keep hr (by decide) hC⟩
  try dsimp only
  refine multi_calm (G := G) (fun L w' hr hC => HG.out _ (HC8.out w' (boxC_two hr (by decide) hC))) (fun L w' hr hC => boxC_keep hr (by decide) hC) (fun K hK => ?_)
  go_simp
  refine hK _ ?_
  clear hK K
  refine multi_calm (G := G) (fun L w' hr hC => HG.out _ (HC8.out w' (boxC_two hr (by decide) hC))) (fun L w' hr hC => boxC_keep hr (by decide) hC) (fun K hK => ?_)
  go_simp
  refine hK _ ?_
  clear hK K
  refine multi_call 54 #[.slice (some ⟨bb, oo, none⟩) xs.length vc, .int .i64 32, .int .i64 3] (.int .u64 vni) (by first | rfl | go_simp) (fun w' => by first | rfl | go_simp) (fun L w' hr hC => ?_) ?_
  · exact (T32 w' (HS.out w' (boxC_two hr (by decide) hC)).1).mono fun e w'' ⟨h1, h2⟩ => ⟨h1, by subst h2; exact boxC_keep hr (by decide) hC⟩
  try dsimp only
  refine multi_calm (G := G) (fun L w' hr hC => HG.out _ (HC8.out w' (boxC_two hr (by decide) hC))) (fun L w' hr hC => boxC_keep hr (by decide) hC) (fun K hK => ?_)
  go_simp
  refine hK _ ?_
  clear hK K
  refine multi_calm (G := G) (fun L w' hr hC => HG.out _ (HC8.out w' (boxC_two hr (by decide) hC))) (fun L w' hr hC => boxC_keep hr (by decide) hC) (fun K hK => ?_)
  go_simp
  refine hK _ ?_
  clear hK K
  refine multi_call 54 #[.slice (some ⟨bb, oo, none⟩) xs.length vc, .int .i64 29, .int .i64 3] (.int .u64 mark) (by first | rfl | go_simp) (fun w' => by first | rfl | go_simp) (fun L w' hr hC => ?_) ?_
  · exact (T29 w' (HS.out w' (boxC_two hr (by decide) hC)).1).mono fun e w'' ⟨h1, h2⟩ => ⟨h1, by subst h2; exact boxC_keep hr (by decide) hC⟩
  try dsimp only
  refine multi_calm (G := G) (fun L w' hr hC => HG.out _ (HC8.out w' (boxC_two hr (by decide) hC))) (fun L w' hr hC => boxC_keep hr (by decide) hC) (fun K hK => ?_)
  go_simp
  refine hK _ ?_
  clear hK K
  refine multi_row (by first | rfl | go_simp) 36 (.tmp 4) rfl w6.heap.size 0 rfl (FL.cs F) _ Try.underlying36 rfl szF (fun L w' hr hC => ⟨(HS.out w' (boxC_two hr (by decide) hC)).2.range 0 (FL.cs F) rfl, boxC_keep hr (by decide) hC⟩) ?_
  try dsimp only
  rw [wu32 src z12, wu32 dst z16, wi64 ttl ⟨z8.1, by omega⟩, wi64 ent z20, wu32 vni ⟨z32.1, by omega⟩, wu32 mark ⟨z29.1, by omega⟩]
  refine multi_bld (by first | rfl | go_simp) 55 _ rfl (PL.cs ⟨src, dst, ttl, ent, vni, mark, F⟩) (by kernel_rfl) (fun L w' hr hC => boxC_keep hr (by decide) hC) ?_
  try dsimp only
  refine multi_new (by first | rfl | go_simp) 55 P0.cs rfl run_newPk w10.heap.size (fun L w' hr hC => by obtain ⟨rfl, q⟩ := boxC_new hr hC; exact ⟨hVs, by rw [hUe]; exact q⟩) ?_
  try dsimp only
  refine multi_put (by first | rfl | go_simp) 55 _ _ rfl w10.heap.size rfl (PL.cs ⟨src, dst, ttl, ent, vni, mark, F⟩) rfl szP (pcs_one _) P0.cs rfl (fun L w' hr hC => by obtain ⟨rfl, q⟩ := boxC_put hr (by kernel_rfl) hC; exact ⟨BU, q⟩) ?_
  try dsimp only
  refine multi_nil ?_
  intro L w11 hL hC
  have g11 := boxC_end (n := 21) rfl (by kernel_rfl) hL hC
  have U11 := g11.blk
  have k11 : Below w10.heap.size w10 w11 := g11.below hU0 (Nat.le_refl _)
  have b11 := b10.trans (k11.mono b10.size)
  have H11 := H10.below k11 H10.lt
  have G11 := G10.below k11 G10.lt
  have l11 := G11.lt
  clear g11 hL hC gN HS HC8 HG BU XV XU kU hU0 hV0 hVs hUs hVe hUe k11 b10 H10 G10 X10 hT
  go_wp2_with (refine at_mid rfl 55 _ rfl w10.heap.size 0 rfl U11 (PL.cs ⟨src, dst, ttl, ent, vni, mark, F⟩) rfl _ Try.underlying55 rfl szP ?_)
  go_at_call 34
  refine (HB w11).mono ?_
  rintro r w15 ⟨u, rfl, d15, k15⟩
  have b15 := b11.trans (k15.mono b11.size)
  have H15 := H11.below k15 H11.lt
  have G15 := G11.below k15 G11.lt
  have U15 := U11.below k15 U11.lt
  clear b11 H11 G11 U11 k15 HB
  have hs1 := seg_string d15.dat.seg HNE.out
  have hs2 := seg_string (HV.out.below b15) HX0.out
  obtain ⟨ua, uc, rfl⟩ := d15.dat.shape
  clear d15
  generalize strOfNums Z = str1 at *
  generalize strOfNums xs = str2 at *
  go_wp2_with (first
    | (refine at_mid rfl 55 _ rfl w10.heap.size 0 rfl U15 (PL.cs ⟨src, dst, ttl, ent, vni, mark, F⟩) rfl _ Try.underlying55 rfl szP ?_)
    | (refine at_bld rfl 55 _ rfl P0.cs (by kernel_rfl) ?_)
    | (refine at_bld rfl 38 _ rfl (flt 0 0) (by kernel_rfl) ?_)
    | (refine at_put rfl 55 _ _ rfl rfl w.heap.size rfl (PL.cs ⟨src, dst, ttl, ent, vni, mark, F⟩) rfl H15 rfl szP (pcs_one _) ?_; rintro w8 g8; have H8 := g8.blk; have G8 := g8.but.blk G15 G15.lt (show w.heap.size + 1 ≠ w.heap.size by omega); have b8 := g8.below b15 (Nat.le_refl _); clear H15 G15 b15 g8)
    | (refine at_put rfl 38 _ _ rfl rfl (w.heap.size + 1) rfl (flt 0 0) rfl G8 rfl szFt (flt_one _ _) ?_; rintro w9 g9; have G9 := g9.blk; have H9 := g9.but.blk H8 H8.lt (show w.heap.size ≠ w.heap.size + 1 by omega); have b9 := g9.below b8 (Nat.le_succ _); clear H8 G8 b8 g9))
  exact bodyPost_ret (results_rows (by rfl) _ _ w.heap.size (w.heap.size + 1) _ _ (PL.cs ⟨src, dst, ttl, ent, vni, mark, F⟩).toArray (flt 0 0).toArray _ _ _ _ rfl H9 Try.underlying55 rfl szP rfl G9 Try.underlying38 rfl szFt) rfl ⟨rfl, b9⟩
theorem vs_head (xs : List Int) (ho : Oct xs) (hl : xs.length ≤ 1000000) (h : hfE xs ≠ 0) (v : Value) (w : World) (hv : Seg w v xs) : Calls Try.prog 39 #[v] w fun r w' => r = .returned (.tuple #[PL.v P0, .agg (flt (hfE xs) (hfA xs)).toArray]) ∧ Below w.heap.size w w' := by
  unfold hfE at h
  unfold hfE hfA
  by_cases h1 : xs.length < 36
  · rw [if_pos h1, if_pos h1]
    exact vs_short xs ho hl h1 v w hv
  rw [if_neg h1] at h
  rw [if_neg h1, if_neg h1]
  by_cases h2 : xs.getD 9 0 ≠ 17
  · rw [if_pos h2, if_pos h2]
    exact vs_t9 xs ho hl (by omega) h2 v w hv
  rw [if_neg h2] at h
  rw [if_neg h2, if_neg h2]
  by_cases h3 : pn xs ≠ 4789
  · rw [if_pos h3, if_pos h3]
    exact vs_t22 xs ho hl (by omega) (by omega) h3 v w hv
  rw [if_neg h3] at h
  exact absurd rfl h
theorem vrread_is (xs : List Int) (ho : Oct xs) (hl : xs.length ≤ 1000000) (v : Value) (w : World) (hv : Seg w v xs) : VReads 39 xs v w := by
  unfold VReads
  by_cases h : hfE xs = 0
  · by_cases hx : rdX (xs.drop 36) = 0
    · by_cases hc : (vP xs).chk = 0
      · by_cases he : (vP xs).enc = xs
        · have hp : Pack xs := ⟨h, hx, hc, he⟩
          rw [show vQ xs = vP xs by unfold vQ; rw [if_pos hp], show vE xs = 0 by unfold vE; rw [if_neg (by simpa using h), if_neg (by simpa using hx), if_pos hp], show vA xs = 0 by unfold vA; rw [if_neg (by simpa using h), if_neg (by simpa using hx)]]
          exact vs_ok xs ho hl h hx hc he v w hv
        · have hp : ¬ Pack xs := fun q => he q.2.2.2
          rw [show vQ xs = P0 by unfold vQ; rw [if_neg hp], show vE xs = 3 by unfold vE; rw [if_neg (by simpa using h), if_neg (by simpa using hx), if_neg hp], show vA xs = 0 by unfold vA; rw [if_neg (by simpa using h), if_neg (by simpa using hx)]]
          exact vs_bad2 xs ho hl h hx hc he v w hv
      · have hp : ¬ Pack xs := fun q => hc q.2.2.1
        rw [show vQ xs = P0 by unfold vQ; rw [if_neg hp], show vE xs = 3 by unfold vE; rw [if_neg (by simpa using h), if_neg (by simpa using hx), if_neg hp], show vA xs = 0 by unfold vA; rw [if_neg (by simpa using h), if_neg (by simpa using hx)]]
        exact vs_bad1 xs ho hl h hx hc v w hv
    · have hp : ¬ Pack xs := fun q => hx q.2.1
      rw [show vQ xs = P0 by unfold vQ; rw [if_neg hp], show vE xs = rdX (xs.drop 36) by unfold vE; rw [if_neg (by simpa using h), if_pos hx], show vA xs = fA (xs.drop 36) by unfold vA; rw [if_neg (by simpa using h), if_pos hx]]
      exact vs_frame xs ho hl h hx v w hv
  · have hp : ¬ Pack xs := fun q => h q.1
    rw [show vQ xs = P0 by unfold vQ; rw [if_neg hp], show vE xs = hfE xs by unfold vE; rw [if_pos h], show vA xs = hfA xs by unfold vA; rw [if_pos h]]
    exact vs_head xs ho hl h v w hv
end Go.Proofs.Ytgpjelcihmbiiaa
namespace Go.Proofs.Ytgpjelcihmbiiaa
open Go.RowKit
set_option linter.unusedVariables false
set_option linter.unusedSimpArgs false
set_option maxRecDepth 100000

set_option maxHeartbeats 2000000 in
theorem vyread_is (xs : List Int) (ho : Oct xs) (v : Value) (w : World) (hv : Seg w v xs) : Calls Try.prog 11 #[v] w fun r w' => r = .returned (.bool true) ∧ Below w.heap.size w w' := by
  obtain ⟨va, vc, rfl, -⟩ := id hv
  by_cases hl : 300 < xs.length
  · have hl' : (300 : Int) < xs.length := by omega
    clear hv
    go_enter Try.func11, Try.ntmps11
    go_wp2_with (go_at_call 28; refine (vlives_is w).mono ?_; rintro e w2 ⟨rfl, b2⟩)
    go_ret
    exact ⟨rfl, b2⟩
  have hl' : ¬ (300 : Int) < xs.length := by omega
  have hR := fun v w h => vread_is xs ho (by omega) v w h
  have hQ := fun v w h => vrread_is xs ho (by omega) v w h
  have hE := fun w => eqlP (vQ xs) (vQ xs) w
  have hT : ∀ w, (binOp .eql 38 (.agg (flt (vE xs) (vA xs)).toArray) (.agg (flt (vE xs) (vA xs)).toArray)).run Try.prog w = .ok (.bool true) w := fun w => by simpa using eqlT (vE xs) (vA xs) (vE xs) (vA xs) w
  rw [show (vQ xs).eqb (vQ xs) = true from (peqb_iff _ _).2 rfl] at hE
  have HL := Lib.hid hl
  have HV := Lib.hid hv
  unfold VReads PL.v at hR hQ
  unfold PL.v at hE
  generalize vQ xs = F at *
  generalize vE xs = e at *
  generalize vA xs = a at *
  clear hl hv
  go_enter Try.func11, Try.ntmps11
  go_wp2_with (go_at_call 28; refine (vlives_is w).mono ?_; rintro e w2 ⟨rfl, b2⟩)
  go_at_call 18
  refine (own_is w2 _ xs (HV.out.below b2) (by have := HL.out; omega)).mono ?_
  rintro e w3 ⟨ov, rfl, d3, k3⟩
  have b3 := b2.trans (k3.mono b2.size)
  clear k3 b2
  obtain ⟨oa, oc, rfl⟩ := d3.dat.shape
  go_wp2_with fail
  go_at_call 29
  refine (hR _ w3 d3.dat.seg).mono ?_
  rintro e w4 ⟨rfl, k4⟩
  have b4 := b3.trans (k4.mono b3.size)
  clear k4 b3 d3 hR
  go_wp2_with (first
    | (refine at_new rfl 55 P0.cs rfl run_newPk ?_; rintro w5 X5 k5 s5; have FB4 := b4.size; have b5 := b4.trans (k5.mono b4.size); clear k5 b4; try go_simp)
    | (refine at_new rfl 38 FZ rfl run_newFt ?_; rintro w6 Y6 k6 s6; rw [s5] at Y6; have X6 := X5.below k6 X5.lt; have b6 := b5.trans (k6.mono b5.size); have S6 := Lib.hid s6; clear k6 b5 X5 s6; try go_simp)
    | (refine at_put rfl 55 _ _ rfl rfl w4.heap.size rfl (PL.cs F) rfl X6 rfl szP (pcs_one _) ?_; rintro w7 g7; have X7 := g7.blk; have Y7 := g7.but.blk Y6 Y6.lt (show w4.heap.size + 1 ≠ w4.heap.size by omega); have b7 := g7.below b6 (show w.heap.size ≤ w4.heap.size by omega); clear g7 X6 Y6 b6)
    | (refine at_put rfl 38 _ _ rfl rfl (w4.heap.size + 1) rfl (flt e a) rfl Y7 rfl szFt (flt_one _ _) ?_; rintro w8 g8; have Y8 := g8.blk; have X8 := g8.but.blk X7 X7.lt (show w4.heap.size ≠ w4.heap.size + 1 by omega); have b8 := g8.below b7 (show w.heap.size ≤ w4.heap.size + 1 by omega); clear g8 X7 Y7 b7))
  go_at_call 39
  refine (hQ _ w8 (HV.out.below b8)).mono ?_
  rintro e w9 ⟨rfl, k9⟩
  have b9 := b8.trans (k9.mono b8.size)
  have X9 := X8.below k9 X8.lt
  have Y9 := Y8.below k9 Y8.lt
  have lX := X9.lt
  have lY := Y9.lt
  clear k9 b8 hQ X8 Y8
  go_wp2_with (first
    | (refine at_new rfl 55 P0.cs rfl run_newPk ?_; rintro w10 Z10 k10 s10; have FB9 := b9.size; have b10 := b9.trans (k10.mono b9.size); have X10 := X9.below k10 lX; have Y10 := Y9.below k10 lY; clear k10 b9 X9 Y9; try go_simp)
    | (refine at_new rfl 38 FZ rfl run_newFt ?_; rintro w11 V11 k11 s11; rw [s10] at V11; have Z11 := Z10.below k11 Z10.lt; have X11 := X10.below k11 X10.lt; have Y11 := Y10.below k11 Y10.lt; have b11 := b10.trans (k11.mono b10.size); have S11 := Lib.hid s11; clear k11 b10 X10 Y10 Z10 s11; try go_simp)
    | (refine at_put rfl 55 _ _ rfl rfl w9.heap.size rfl (PL.cs F) rfl Z11 rfl szP (pcs_one _) ?_; rintro w12 g12; have Z12 := g12.blk; have V12 := g12.but.blk V11 V11.lt (show w9.heap.size + 1 ≠ w9.heap.size by omega); have X12 := g12.but.blk X11 X11.lt (show w4.heap.size ≠ w9.heap.size by omega); have Y12 := g12.but.blk Y11 Y11.lt (show w4.heap.size + 1 ≠ w9.heap.size by omega); have b12 := g12.below b11 (show w.heap.size ≤ w9.heap.size by omega); clear g12 X11 Y11 Z11 V11 b11)
    | (refine at_put rfl 38 _ _ rfl rfl (w9.heap.size + 1) rfl (flt e a) rfl V12 rfl szFt (flt_one _ _) ?_; rintro w13 g13; have V13 := g13.blk; have Z13 := g13.but.blk Z12 Z12.lt (show w9.heap.size ≠ w9.heap.size + 1 by omega); have X13 := g13.but.blk X12 X12.lt (show w4.heap.size ≠ w9.heap.size + 1 by omega); have Y13 := g13.but.blk Y12 Y12.lt (show w4.heap.size + 1 ≠ w9.heap.size + 1 by omega); have b13 := g13.below b12 (show w.heap.size ≤ w9.heap.size + 1 by omega); clear g13 X12 Y12 Z12 V12 b12)
    | (refine at_mid (by kernel_rfl) 55 _ rfl w4.heap.size 0 rfl X13 (PL.cs F) rfl _ Try.underlying55 rfl szP ?_)
    | (refine at_mid (by kernel_rfl) 55 _ rfl w9.heap.size 0 rfl Z13 (PL.cs F) rfl _ Try.underlying55 rfl szP ?_)
    | (refine at_mid (by kernel_rfl) 38 _ rfl (w4.heap.size + 1) 0 rfl Y13 (flt e a) rfl _ Try.underlying38 rfl szFt ?_)
    | (refine at_mid (by kernel_rfl) 38 _ rfl (w9.heap.size + 1) 0 rfl V13 (flt e a) rfl _ Try.underlying38 rfl szFt ?_)
    | (refine at_cmp (by kernel_rfl) .eql 38 _ _ rfl (.agg (flt e a).toArray) (.agg (flt e a).toArray) rfl rfl true (by kernel_rfl) (hT _) ?_)
    | (refine at_cmp (by kernel_rfl) .eql 55 _ _ rfl (.agg F.cs.toArray) (.agg F.cs.toArray) rfl rfl true (by kernel_rfl) (hE _) ?_))
  go_ret
  exact ⟨rfl, b13⟩
end Go.Proofs.Ytgpjelcihmbiiaa
namespace Go.Proofs.Ytgpjelcihmbiiaa.vxlanRead
open Go.RowKit Go.ChangeShapes Go.WideShapes Go.ChangeAt
set_option linter.unusedVariables false
set_option maxRecDepth 100000

theorem lifted (os : Os) (started : os.Started) (H : Type) (enc : TypeId × Value → H) :
    ReturnsInHanded {} Try.checked os 11 .any (Rows.vxlanReadSpec.pre6 enc Try.prog Try.f11 Rows.vxlanReadRow.domain false) (Rows.vxlanReadSpec.post enc Try.prog Try.f11 false true false false) := by
  refine returnsInHanded_of_change (C := Try.checked) own started (by kernel_rfl) Try.func11
    (ChangeSpec.witness6 (enc := enc) (C := Try.checked) false ⟨#[], #[.slice none 0 0], []⟩ 8 (by kernel_rfl) (by kernel_rfl) (by kernel_rfl) (by kernel_rfl)) ?_
  intro W base args ds gs before hval0 hW hcnd _
  have hval : ∀ (j : Nat) t v, Try.f11.params[j]? = some t → args[j]? = some v → Value.okWide Try.prog W .any base t v := hval0
  have hW' := hW
  obtain ⟨p, q, hA0, hV, rfl, hfz, hnd⟩ := hW
  have hA : DataW.TrodAll enc Try.prog W 0 (fun _ => true) true Try.f11.params.toList args.toList ds p := hA0
  rw [Try.params11] at hA hval
  obtain ⟨v0, vs0, d0, ds0, p0, q0, hargs, rfl, rfl, h0, r0⟩ := trodAll_cons hA
  obtain ⟨rfl, rfl, rfl⟩ := trodAll_nil r0
  obtain rfl : args = #[v0] := by cases args; simp_all
  obtain ⟨rfl, rfl⟩ := trodVars_none hV
  have lt0 : ∀ x ∈ p0, x.block < W.heap.size := by obtain ⟨m, hm⟩ := h0; exact DataW.trod_lt m _ _ _ hm
  obtain ⟨xs0, s0, oc0⟩ := open_bytes (hval 0 23 v0 rfl rfl) h0
  clear hA0 hval0
  refine (vyread_is xs0 oc0 v0 W s0).mono fun e W' ⟨he, bel⟩ => ?_
  subst he
  exact ⟨_, rfl, _, _, _, [], _, [], hW', trodAll_mk1 (shut_bool Try.underlying4 _), (trodAll_cons_mk (Below.trod laidOut (by kernel_rfl) (of_decide_eq_true (by kernel_rfl)) h0 bel lt0) trodAll_mk0), rfl, bel.frame _, fun h => by cases h⟩

theorem over : Rows.vxlanReadRow.holds Try.pinned (OpenSpec.ofChange Rows.vxlanReadSpec) :=
  OpenClaim.holds_of_wide 11 Try.f11 rfl rfl rfl rfl rfl rfl rfl ⟨rfl, rfl, rfl, rfl, rfl⟩ rfl rfl rfl rfl rfl (by kernel_rfl) Try.func11 (by kernel_rfl)
    (of_decide_eq_true (by kernel_rfl)) (by unfold Func.isWrapper; first | (rw [if_pos (by decide +kernel)]; kernel_rfl) | (rw [if_neg (by decide +kernel)]; exact ⟨rfl, rfl⟩))
    (fun os started H enc _ => lifted os started H enc)

/-- The statement. -/
theorem proved : Rows.VxlanReadSaid := over
#print axioms proved
end Go.Proofs.Ytgpjelcihmbiiaa.vxlanRead
