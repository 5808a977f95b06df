/- The encoding of a frame. No condition. -/
import Derived.Test.YtgpjelcihmbiiaaPWi
namespace Go.Proofs.Ytgpjelcihmbiiaa
open Go.RowKit
set_option linter.unusedVariables false
set_option linter.unusedSimpArgs false
set_option maxRecDepth 100000

theorem arB_length (f : FL) : f.arB.length = 30 := by simp [FL.arB, enc_length]
theorem ipB_length (f : FL) : f.ipB.length = 22 + f.ptB.length := by simp [FL.ipB, enc_length, hdB_length]; omega
theorem ptB_length (f : FL) : f.ptB.length = if pt f.pr = true then 8 else 0 := by unfold FL.ptB; split <;> simp [enc_length]
/-- What a frame that is valid is like. -/
theorem chk_zero {f : FL} (h : f.chk = 0) : f.s ≤ 281474976710655 ∧ f.d ≤ 281474976710655 ∧ mc f.s = false ∧ ((f.k = 0 ∧ f.eqa F0 = true ∧ f.eqh F0 = true) ∨ (f.k = 1 ∧ f.eqh F0 = true ∧ f.achk = 0) ∨ (f.k = 2 ∧ f.eqa F0 = true ∧ f.hchk = 0)) := by
  unfold FL.chk at h
  by_cases h0 : 281474976710655 < f.s ∨ 281474976710655 < f.d
  · rw [if_pos h0] at h; cases h
  rw [if_neg h0] at h
  by_cases h1 : mc f.s = true
  · rw [if_pos h1] at h; cases h
  rw [if_neg h1] at h
  by_cases h2 : f.kn = false
  · rw [if_pos h2] at h; cases h
  rw [if_neg h2] at h
  by_cases h3 : (f.k ≠ 1 ∧ f.eqa F0 = false) ∨ (f.k ≠ 2 ∧ f.eqh F0 = false)
  · rw [if_pos h3] at h; cases h
  rw [if_neg h3] at h
  refine ⟨by omega, by omega, by simpa using h1, ?_⟩
  have hk' : ¬f.k = 0 → ¬f.k = 1 → f.k = 2 := by simpa [FL.kn] using h2
  have hk : f.k = 0 ∨ f.k = 1 ∨ f.k = 2 := by omega
  have ha : f.k ≠ 1 → f.eqa F0 = true := fun q => by
    cases e : f.eqa F0
    · exact absurd (.inl ⟨q, e⟩) h3
    · rfl
  have hh : f.k ≠ 2 → f.eqh F0 = true := fun q => by
    cases e : f.eqh F0
    · exact absurd (.inr ⟨q, e⟩) h3
    · rfl
  rcases hk with q | q | q
  · exact .inl ⟨q, ha (by omega), hh (by omega)⟩
  · rw [if_pos q] at h
    exact .inr (.inl ⟨q, hh (by omega), h⟩)
  · rw [if_neg (by omega), if_pos q] at h
    exact .inr (.inr ⟨q, ha (by omega), h⟩)
theorem bytes_bad (f : FL) (hc : f.chk ≠ 0) (w : World) : Calls Try.prog 16 #[f.v] w fun e w' => e = .returned (.tuple #[.slice none 0 0, .int .i64 f.chk]) ∧ Below w.heap.size w w' := by
  have hC := fun w => check_is f w
  have A : (f.chk != 0) = true := by simpa using hc
  generalize f.chk = y at hC A ⊢
  clear hc
  obtain ⟨s, d, k, op, sm, si, tm, ti, hs, hd, tt, pr, sp, dp, x⟩ := f
  unfold FL.v FL.cs at hC ⊢
  dsimp only at hC ⊢
  go_enter Try.func16, Try.ntmps16
  go_wp2_with (first | (refine at_box rfl _ _ rfl [.int .u64 s, .int .u64 d, .int .i64 k, .int .i64 op, .int .u64 sm, .int .u32 si, .int .u64 tm, .int .u32 ti, .int .u32 hs, .int .u32 hd, .int .i64 tt, .int .i64 pr, .int .i64 sp, .int .i64 dp, .int .u64 x] rfl ?_; rintro w1 H1 k1 s1) | (refine at_mid rfl 36 _ rfl w.heap.size 0 rfl H1 [.int .u64 s, .int .u64 d, .int .i64 k, .int .i64 op, .int .u64 sm, .int .u32 si, .int .u64 tm, .int .u32 ti, .int .u32 hs, .int .u32 hd, .int .i64 tt, .int .i64 pr, .int .i64 sp, .int .i64 dp, .int .u64 x] rfl _ Try.underlying36 rfl szF ?_) | (go_at_call 19; refine (hC w1).mono ?_; rintro e w2 ⟨rfl, k2⟩; have b2 := k1.trans (k2.mono k1.size); clear k1 k2 H1 hC))
  go_ret2
  exact ⟨rfl, b2⟩
set_option maxHeartbeats 2000000 in
theorem bytes_0 (s d op sm si tm ti hs hd tt pr sp dp x : Int) (hf : FL.Ok ⟨s, d, 0, op, sm, si, tm, ti, hs, hd, tt, pr, sp, dp, x⟩) (hc : FL.chk ⟨s, d, 0, op, sm, si, tm, ti, hs, hd, tt, pr, sp, dp, x⟩ = 0)  (w : World) : Calls Try.prog 16 #[.agg #[.int .u64 s, .int .u64 d, .int .i64 0, .int .i64 op, .int .u64 sm, .int .u32 si, .int .u64 tm, .int .u32 ti, .int .u32 hs, .int .u32 hd, .int .i64 tt, .int .i64 pr, .int .i64 sp, .int .i64 dp, .int .u64 x]] w fun e w' => ∃ v, e = .returned (.tuple #[v, .int .i64 0]) ∧ DatB w.heap.size w' v (FL.enc ⟨s, d, 0, op, sm, si, tm, ti, hs, hd, tt, pr, sp, dp, x⟩) ∧ Below w.heap.size w w' := by
  have hC := fun w => check_is ⟨s, d, 0, op, sm, si, tm, ti, hs, hd, tt, pr, sp, dp, x⟩ w
  rw [hc] at hC
  obtain ⟨z1, z2, -, z3⟩ := chk_zero hc
  have q1 := hf.s
  have q2 := hf.d
  have q3 := hf.x
  have hH := fun w => headerOf_is ⟨s, d, 0, op, sm, si, tm, ti, hs, hd, tt, pr, sp, dp, x⟩ w
  rw [show FL.kn ⟨s, d, 0, op, sm, si, tm, ti, hs, hd, tt, pr, sp, dp, x⟩ = true from rfl, show FL.hv ⟨s, d, 0, op, sm, si, tm, ti, hs, hd, tt, pr, sp, dp, x⟩ = Value.iface 106 (.agg #[]) from rfl] at hH
  have HW := Lib.hid (fun (b : Nat) (W : WS) (w : World) (h : Wtr w b W) (hl : W.xs.length + 2 ≤ W.lim) => dataW h hl)
  have HL := Lib.hid (enc_length 2 34997)
  have hme : ∀ j w, Sem.run Try.prog (method (j + 1) 106 (.agg #[]) "leafmesh/packet.write") w = .ok (118, (.agg #[])) w := fun j w => by kernel_rfl
  have hcf : ∀ p w, Sem.run Try.prog (callFunc 118 #[(.agg #[]), p]) w = .ok (.enter 118 #[(.agg #[]), p]) w := fun p w => by kernel_rfl
  have hM : FL.mid ⟨s, d, 0, op, sm, si, tm, ti, hs, hd, tt, pr, sp, dp, x⟩ = (Go.Proofs.Ytgpjelcihmbiiaa.enc 2 34997) := rfl
  unfold FL.enc
  rw [hM]
  clear hM z3 hc hf
  unfold FL.v FL.cs at hC hH
  dsimp only at *
  generalize (Go.Proofs.Ytgpjelcihmbiiaa.enc 2 34997) = P at HW HL ⊢
  go_enter Try.func16, Try.ntmps16
  go_wp2_with (first | (refine at_box rfl _ _ rfl [.int .u64 s, .int .u64 d, .int .i64 0, .int .i64 op, .int .u64 sm, .int .u32 si, .int .u64 tm, .int .u32 ti, .int .u32 hs, .int .u32 hd, .int .i64 tt, .int .i64 pr, .int .i64 sp, .int .i64 dp, .int .u64 x] rfl ?_; rintro w1 H1 k1 s1) | (refine at_mid rfl 36 _ rfl w.heap.size 0 rfl H1 [.int .u64 s, .int .u64 d, .int .i64 0, .int .i64 op, .int .u64 sm, .int .u32 si, .int .u64 tm, .int .u32 ti, .int .u32 hs, .int .u32 hd, .int .i64 tt, .int .i64 pr, .int .i64 sp, .int .i64 dp, .int .u64 x] rfl _ Try.underlying36 rfl szF ?_) | (go_at_call 19; refine (hC w1).mono ?_; rintro e w2 ⟨rfl, k2⟩; have b2 := k1.trans (k2.mono k1.size); have H2 := H1.below k2 H1.lt; clear k1 k2 H1 hC) | (refine at_mid rfl 36 _ rfl w.heap.size 0 rfl H2 [.int .u64 s, .int .u64 d, .int .i64 0, .int .i64 op, .int .u64 sm, .int .u32 si, .int .u64 tm, .int .u32 ti, .int .u32 hs, .int .u32 hd, .int .i64 tt, .int .i64 pr, .int .i64 sp, .int .i64 dp, .int .u64 x] rfl _ Try.underlying36 rfl szF ?_) | (go_at_call 40; refine (hH w2).mono ?_; rintro e w3 ⟨rfl, k3⟩; have b3 := b2.trans (k3.mono b2.size); have H3 := H2.below k3 H2.lt; clear k3 b2 H2 hH))
  go_at_call 41
  refine (wr_New w3 50 (by decide)).mono ?_
  rintro e w4 ⟨b, rfl, m, W4, hbb, -, -, k4⟩
  have b4 := b3.trans (k4.mono b3.size)
  have H4 := H3.below k4 H3.lt
  have hB : w.heap.size ≤ b := Nat.le_trans b3.size hbb
  clear b3 H3 k4 hbb s1
  have S4 := Wr.start W4
  have B0 := W4.1
  have D0 := W4.2.1
  have c4 := Blk.cell H4 1 (v := .int .u64 d) rfl
  go_wp2_with fail
  go_at_call 42
  refine (put_U48 S4 d q2.1 (by omega) (by simp)).mono ?_
  rintro e w5 ⟨rfl, v5, S5⟩
  have x5 := S5.keep H4 B0 D0 (by decide) (by decide)
  have c5 := Blk.cell x5 0 (v := .int .u64 s) rfl
  clear c4 S4
  go_wp2_with fail
  go_at_call 42
  refine (put_U48 S5 s q1.1 (by omega) (by simp [enc_length])).mono ?_
  rintro e w6 ⟨rfl, v6, S6⟩
  have x6 := S6.keep H4 B0 D0 (by decide) (by decide)
  clear c5 S5 x5
  go_wp2_with fail
  go_at_call 118
  refine (HW.out b _ w6 S6.wtr (by simp [enc_length])).mono ?_
  rintro e w7 ⟨rfl, v7, T7⟩
  have S7 := S6.step T7
  have x7 := S7.keep H4 B0 D0 (by decide) (by decide)
  have c7 := Blk.cell x7 14 (v := .int .u64 x) rfl
  clear S6 x6 T7
  go_wp2_with fail
  go_at_call 43
  refine (put_U64 S7 x q3.1 q3.2 (by simp [enc_length, HL.out])).mono ?_
  rintro e w8 ⟨rfl, v8, S8⟩
  clear c7 S7 x7 hme hcf
  have b8 : Below w.heap.size w w8 := S8.base b4 hB (fun g hg => by simp [Value.ownBlock] at hg) b4.size
  go_wp2_with fail
  go_at_call 44
  refine (out_new w8 b _ S8.wtr).mono ?_
  rintro e w9 ⟨v, rfl, hd9, k9⟩
  go_wp2
  go_ret2
  refine ⟨v, rfl, ?_, b8.trans (k9.mono b8.size)⟩
  have := World.ownsRow.mono hd9 b8.size
  simpa [DatB, List.append_assoc] using this
set_option maxHeartbeats 2000000 in
theorem bytes_1 (s d op sm si tm ti hs hd tt pr sp dp x : Int) (hf : FL.Ok ⟨s, d, 1, op, sm, si, tm, ti, hs, hd, tt, pr, sp, dp, x⟩) (hc : FL.chk ⟨s, d, 1, op, sm, si, tm, ti, hs, hd, tt, pr, sp, dp, x⟩ = 0)  (w : World) : Calls Try.prog 16 #[.agg #[.int .u64 s, .int .u64 d, .int .i64 1, .int .i64 op, .int .u64 sm, .int .u32 si, .int .u64 tm, .int .u32 ti, .int .u32 hs, .int .u32 hd, .int .i64 tt, .int .i64 pr, .int .i64 sp, .int .i64 dp, .int .u64 x]] w fun e w' => ∃ v, e = .returned (.tuple #[v, .int .i64 0]) ∧ DatB w.heap.size w' v (FL.enc ⟨s, d, 1, op, sm, si, tm, ti, hs, hd, tt, pr, sp, dp, x⟩) ∧ Below w.heap.size w w' := by
  have hC := fun w => check_is ⟨s, d, 1, op, sm, si, tm, ti, hs, hd, tt, pr, sp, dp, x⟩ w
  rw [hc] at hC
  obtain ⟨z1, z2, -, z3⟩ := chk_zero hc
  have q1 := hf.s
  have q2 := hf.d
  have q3 := hf.x
  have hH := fun w => headerOf_is ⟨s, d, 1, op, sm, si, tm, ti, hs, hd, tt, pr, sp, dp, x⟩ w
  rw [show FL.kn ⟨s, d, 1, op, sm, si, tm, ti, hs, hd, tt, pr, sp, dp, x⟩ = true from rfl, show FL.hv ⟨s, d, 1, op, sm, si, tm, ti, hs, hd, tt, pr, sp, dp, x⟩ = Value.iface 108 (.agg #[.int .i64 op, .int .u64 sm, .int .u32 si, .int .u64 tm, .int .u32 ti]) from rfl] at hH
  have z4 : FL.achk ⟨s, d, 1, op, sm, si, tm, ti, hs, hd, tt, pr, sp, dp, x⟩ = 0 := by rcases z3 with ⟨q, -⟩ | ⟨-, -, q⟩ | ⟨q, -⟩ <;> first | exact q | (simp at q)
  have HW := Lib.hid (fun (b : Nat) (W : WS) (w : World) (h : Wtr w b W) (hl : W.xs.length + 30 ≤ W.lim) => arpW ⟨s, d, 1, op, sm, si, tm, ti, hs, hd, tt, pr, sp, dp, x⟩ hf z4 h hl)
  have HL := Lib.hid (arB_length ⟨s, d, 1, op, sm, si, tm, ti, hs, hd, tt, pr, sp, dp, x⟩)
  unfold FL.ar at HW
  clear z4
  have hme : ∀ j w, Sem.run Try.prog (method (j + 1) 108 (.agg #[.int .i64 op, .int .u64 sm, .int .u32 si, .int .u64 tm, .int .u32 ti]) "leafmesh/packet.write") w = .ok (120, (.agg #[.int .i64 op, .int .u64 sm, .int .u32 si, .int .u64 tm, .int .u32 ti])) w := fun j w => by kernel_rfl
  have hcf : ∀ p w, Sem.run Try.prog (callFunc 120 #[(.agg #[.int .i64 op, .int .u64 sm, .int .u32 si, .int .u64 tm, .int .u32 ti]), p]) w = .ok (.enter 120 #[(.agg #[.int .i64 op, .int .u64 sm, .int .u32 si, .int .u64 tm, .int .u32 ti]), p]) w := fun p w => by kernel_rfl
  have hM : FL.mid ⟨s, d, 1, op, sm, si, tm, ti, hs, hd, tt, pr, sp, dp, x⟩ = (FL.arB ⟨s, d, 1, op, sm, si, tm, ti, hs, hd, tt, pr, sp, dp, x⟩) := rfl
  unfold FL.enc
  rw [hM]
  clear hM z3 hc hf
  unfold FL.v FL.cs at hC hH
  dsimp only at *
  generalize (FL.arB ⟨s, d, 1, op, sm, si, tm, ti, hs, hd, tt, pr, sp, dp, x⟩) = P at HW HL ⊢
  go_enter Try.func16, Try.ntmps16
  go_wp2_with (first | (refine at_box rfl _ _ rfl [.int .u64 s, .int .u64 d, .int .i64 1, .int .i64 op, .int .u64 sm, .int .u32 si, .int .u64 tm, .int .u32 ti, .int .u32 hs, .int .u32 hd, .int .i64 tt, .int .i64 pr, .int .i64 sp, .int .i64 dp, .int .u64 x] rfl ?_; rintro w1 H1 k1 s1) | (refine at_mid rfl 36 _ rfl w.heap.size 0 rfl H1 [.int .u64 s, .int .u64 d, .int .i64 1, .int .i64 op, .int .u64 sm, .int .u32 si, .int .u64 tm, .int .u32 ti, .int .u32 hs, .int .u32 hd, .int .i64 tt, .int .i64 pr, .int .i64 sp, .int .i64 dp, .int .u64 x] rfl _ Try.underlying36 rfl szF ?_) | (go_at_call 19; refine (hC w1).mono ?_; rintro e w2 ⟨rfl, k2⟩; have b2 := k1.trans (k2.mono k1.size); have H2 := H1.below k2 H1.lt; clear k1 k2 H1 hC) | (refine at_mid rfl 36 _ rfl w.heap.size 0 rfl H2 [.int .u64 s, .int .u64 d, .int .i64 1, .int .i64 op, .int .u64 sm, .int .u32 si, .int .u64 tm, .int .u32 ti, .int .u32 hs, .int .u32 hd, .int .i64 tt, .int .i64 pr, .int .i64 sp, .int .i64 dp, .int .u64 x] rfl _ Try.underlying36 rfl szF ?_) | (go_at_call 40; refine (hH w2).mono ?_; rintro e w3 ⟨rfl, k3⟩; have b3 := b2.trans (k3.mono b2.size); have H3 := H2.below k3 H2.lt; clear k3 b2 H2 hH))
  go_at_call 41
  refine (wr_New w3 50 (by decide)).mono ?_
  rintro e w4 ⟨b, rfl, m, W4, hbb, -, -, k4⟩
  have b4 := b3.trans (k4.mono b3.size)
  have H4 := H3.below k4 H3.lt
  have hB : w.heap.size ≤ b := Nat.le_trans b3.size hbb
  clear b3 H3 k4 hbb s1
  have S4 := Wr.start W4
  have B0 := W4.1
  have D0 := W4.2.1
  have c4 := Blk.cell H4 1 (v := .int .u64 d) rfl
  go_wp2_with fail
  go_at_call 42
  refine (put_U48 S4 d q2.1 (by omega) (by simp)).mono ?_
  rintro e w5 ⟨rfl, v5, S5⟩
  have x5 := S5.keep H4 B0 D0 (by decide) (by decide)
  have c5 := Blk.cell x5 0 (v := .int .u64 s) rfl
  clear c4 S4
  go_wp2_with fail
  go_at_call 42
  refine (put_U48 S5 s q1.1 (by omega) (by simp [enc_length])).mono ?_
  rintro e w6 ⟨rfl, v6, S6⟩
  have x6 := S6.keep H4 B0 D0 (by decide) (by decide)
  clear c5 S5 x5
  go_wp2_with fail
  go_at_call 120
  refine (HW.out b _ w6 S6.wtr (by simp [enc_length])).mono ?_
  rintro e w7 ⟨rfl, v7, T7⟩
  have S7 := S6.step T7
  have x7 := S7.keep H4 B0 D0 (by decide) (by decide)
  have c7 := Blk.cell x7 14 (v := .int .u64 x) rfl
  clear S6 x6 T7
  go_wp2_with fail
  go_at_call 43
  refine (put_U64 S7 x q3.1 q3.2 (by simp [enc_length, HL.out])).mono ?_
  rintro e w8 ⟨rfl, v8, S8⟩
  clear c7 S7 x7 hme hcf
  have b8 : Below w.heap.size w w8 := S8.base b4 hB (fun g hg => by simp [Value.ownBlock] at hg) b4.size
  go_wp2_with fail
  go_at_call 44
  refine (out_new w8 b _ S8.wtr).mono ?_
  rintro e w9 ⟨v, rfl, hd9, k9⟩
  go_wp2
  go_ret2
  refine ⟨v, rfl, ?_, b8.trans (k9.mono b8.size)⟩
  have := World.ownsRow.mono hd9 b8.size
  simpa [DatB, List.append_assoc] using this
set_option maxHeartbeats 2000000 in
theorem bytes_2n (s d op sm si tm ti hs hd tt pr sp dp x : Int) (hf : FL.Ok ⟨s, d, 2, op, sm, si, tm, ti, hs, hd, tt, pr, sp, dp, x⟩) (hc : FL.chk ⟨s, d, 2, op, sm, si, tm, ti, hs, hd, tt, pr, sp, dp, x⟩ = 0) (hp : pt pr = false) (w : World) : Calls Try.prog 16 #[.agg #[.int .u64 s, .int .u64 d, .int .i64 2, .int .i64 op, .int .u64 sm, .int .u32 si, .int .u64 tm, .int .u32 ti, .int .u32 hs, .int .u32 hd, .int .i64 tt, .int .i64 pr, .int .i64 sp, .int .i64 dp, .int .u64 x]] w fun e w' => ∃ v, e = .returned (.tuple #[v, .int .i64 0]) ∧ DatB w.heap.size w' v (FL.enc ⟨s, d, 2, op, sm, si, tm, ti, hs, hd, tt, pr, sp, dp, x⟩) ∧ Below w.heap.size w w' := by
  have hC := fun w => check_is ⟨s, d, 2, op, sm, si, tm, ti, hs, hd, tt, pr, sp, dp, x⟩ w
  rw [hc] at hC
  obtain ⟨z1, z2, -, z3⟩ := chk_zero hc
  have q1 := hf.s
  have q2 := hf.d
  have q3 := hf.x
  have hH := fun w => headerOf_is ⟨s, d, 2, op, sm, si, tm, ti, hs, hd, tt, pr, sp, dp, x⟩ w
  rw [show FL.kn ⟨s, d, 2, op, sm, si, tm, ti, hs, hd, tt, pr, sp, dp, x⟩ = true from rfl, show FL.hv ⟨s, d, 2, op, sm, si, tm, ti, hs, hd, tt, pr, sp, dp, x⟩ = Value.iface 110 (.agg #[.int .u32 hs, .int .u32 hd, .int .i64 tt, .int .i64 pr, .int .i64 sp, .int .i64 dp]) from rfl] at hH
  have z4 : FL.hchk ⟨s, d, 2, op, sm, si, tm, ti, hs, hd, tt, pr, sp, dp, x⟩ = 0 := by rcases z3 with ⟨q, -⟩ | ⟨q, -⟩ | ⟨-, -, q⟩ <;> first | exact q | (simp at q)
  have HW := Lib.hid (fun (b : Nat) (W : WS) (w : World) (h : Wtr w b W) (hl : W.xs.length + 22 ≤ W.lim) => ipW_no ⟨s, d, 2, op, sm, si, tm, ti, hs, hd, tt, pr, sp, dp, x⟩ hf z4 hp h hl)
  have HL := Lib.hid (show (FL.ipB ⟨s, d, 2, op, sm, si, tm, ti, hs, hd, tt, pr, sp, dp, x⟩).length = 22 by rw [ipB_length, ptB_length]; simp [hp])
  unfold FL.ip at HW
  clear z4 hp
  have hme : ∀ j w, Sem.run Try.prog (method (j + 1) 110 (.agg #[.int .u32 hs, .int .u32 hd, .int .i64 tt, .int .i64 pr, .int .i64 sp, .int .i64 dp]) "leafmesh/packet.write") w = .ok (123, (.agg #[.int .u32 hs, .int .u32 hd, .int .i64 tt, .int .i64 pr, .int .i64 sp, .int .i64 dp])) w := fun j w => by kernel_rfl
  have hcf : ∀ p w, Sem.run Try.prog (callFunc 123 #[(.agg #[.int .u32 hs, .int .u32 hd, .int .i64 tt, .int .i64 pr, .int .i64 sp, .int .i64 dp]), p]) w = .ok (.enter 123 #[(.agg #[.int .u32 hs, .int .u32 hd, .int .i64 tt, .int .i64 pr, .int .i64 sp, .int .i64 dp]), p]) w := fun p w => by kernel_rfl
  have hM : FL.mid ⟨s, d, 2, op, sm, si, tm, ti, hs, hd, tt, pr, sp, dp, x⟩ = (FL.ipB ⟨s, d, 2, op, sm, si, tm, ti, hs, hd, tt, pr, sp, dp, x⟩) := rfl
  unfold FL.enc
  rw [hM]
  clear hM z3 hc hf
  unfold FL.v FL.cs at hC hH
  dsimp only at *
  generalize (FL.ipB ⟨s, d, 2, op, sm, si, tm, ti, hs, hd, tt, pr, sp, dp, x⟩) = P at HW HL ⊢
  go_enter Try.func16, Try.ntmps16
  go_wp2_with (first | (refine at_box rfl _ _ rfl [.int .u64 s, .int .u64 d, .int .i64 2, .int .i64 op, .int .u64 sm, .int .u32 si, .int .u64 tm, .int .u32 ti, .int .u32 hs, .int .u32 hd, .int .i64 tt, .int .i64 pr, .int .i64 sp, .int .i64 dp, .int .u64 x] rfl ?_; rintro w1 H1 k1 s1) | (refine at_mid rfl 36 _ rfl w.heap.size 0 rfl H1 [.int .u64 s, .int .u64 d, .int .i64 2, .int .i64 op, .int .u64 sm, .int .u32 si, .int .u64 tm, .int .u32 ti, .int .u32 hs, .int .u32 hd, .int .i64 tt, .int .i64 pr, .int .i64 sp, .int .i64 dp, .int .u64 x] rfl _ Try.underlying36 rfl szF ?_) | (go_at_call 19; refine (hC w1).mono ?_; rintro e w2 ⟨rfl, k2⟩; have b2 := k1.trans (k2.mono k1.size); have H2 := H1.below k2 H1.lt; clear k1 k2 H1 hC) | (refine at_mid rfl 36 _ rfl w.heap.size 0 rfl H2 [.int .u64 s, .int .u64 d, .int .i64 2, .int .i64 op, .int .u64 sm, .int .u32 si, .int .u64 tm, .int .u32 ti, .int .u32 hs, .int .u32 hd, .int .i64 tt, .int .i64 pr, .int .i64 sp, .int .i64 dp, .int .u64 x] rfl _ Try.underlying36 rfl szF ?_) | (go_at_call 40; refine (hH w2).mono ?_; rintro e w3 ⟨rfl, k3⟩; have b3 := b2.trans (k3.mono b2.size); have H3 := H2.below k3 H2.lt; clear k3 b2 H2 hH))
  go_at_call 41
  refine (wr_New w3 50 (by decide)).mono ?_
  rintro e w4 ⟨b, rfl, m, W4, hbb, -, -, k4⟩
  have b4 := b3.trans (k4.mono b3.size)
  have H4 := H3.below k4 H3.lt
  have hB : w.heap.size ≤ b := Nat.le_trans b3.size hbb
  clear b3 H3 k4 hbb s1
  have S4 := Wr.start W4
  have B0 := W4.1
  have D0 := W4.2.1
  have c4 := Blk.cell H4 1 (v := .int .u64 d) rfl
  go_wp2_with fail
  go_at_call 42
  refine (put_U48 S4 d q2.1 (by omega) (by simp)).mono ?_
  rintro e w5 ⟨rfl, v5, S5⟩
  have x5 := S5.keep H4 B0 D0 (by decide) (by decide)
  have c5 := Blk.cell x5 0 (v := .int .u64 s) rfl
  clear c4 S4
  go_wp2_with fail
  go_at_call 42
  refine (put_U48 S5 s q1.1 (by omega) (by simp [enc_length])).mono ?_
  rintro e w6 ⟨rfl, v6, S6⟩
  have x6 := S6.keep H4 B0 D0 (by decide) (by decide)
  clear c5 S5 x5
  go_wp2_with fail
  go_at_call 123
  refine (HW.out b _ w6 S6.wtr (by simp [enc_length])).mono ?_
  rintro e w7 ⟨rfl, v7, T7⟩
  have S7 := S6.step T7
  have x7 := S7.keep H4 B0 D0 (by decide) (by decide)
  have c7 := Blk.cell x7 14 (v := .int .u64 x) rfl
  clear S6 x6 T7
  go_wp2_with fail
  go_at_call 43
  refine (put_U64 S7 x q3.1 q3.2 (by simp [enc_length, HL.out])).mono ?_
  rintro e w8 ⟨rfl, v8, S8⟩
  clear c7 S7 x7 hme hcf
  have b8 : Below w.heap.size w w8 := S8.base b4 hB (fun g hg => by simp [Value.ownBlock] at hg) b4.size
  go_wp2_with fail
  go_at_call 44
  refine (out_new w8 b _ S8.wtr).mono ?_
  rintro e w9 ⟨v, rfl, hd9, k9⟩
  go_wp2
  go_ret2
  refine ⟨v, rfl, ?_, b8.trans (k9.mono b8.size)⟩
  have := World.ownsRow.mono hd9 b8.size
  simpa [DatB, List.append_assoc] using this
set_option maxHeartbeats 2000000 in
theorem bytes_2y (s d op sm si tm ti hs hd tt pr sp dp x : Int) (hf : FL.Ok ⟨s, d, 2, op, sm, si, tm, ti, hs, hd, tt, pr, sp, dp, x⟩) (hc : FL.chk ⟨s, d, 2, op, sm, si, tm, ti, hs, hd, tt, pr, sp, dp, x⟩ = 0) (hp : pt pr = true) (w : World) : Calls Try.prog 16 #[.agg #[.int .u64 s, .int .u64 d, .int .i64 2, .int .i64 op, .int .u64 sm, .int .u32 si, .int .u64 tm, .int .u32 ti, .int .u32 hs, .int .u32 hd, .int .i64 tt, .int .i64 pr, .int .i64 sp, .int .i64 dp, .int .u64 x]] w fun e w' => ∃ v, e = .returned (.tuple #[v, .int .i64 0]) ∧ DatB w.heap.size w' v (FL.enc ⟨s, d, 2, op, sm, si, tm, ti, hs, hd, tt, pr, sp, dp, x⟩) ∧ Below w.heap.size w w' := by
  have hC := fun w => check_is ⟨s, d, 2, op, sm, si, tm, ti, hs, hd, tt, pr, sp, dp, x⟩ w
  rw [hc] at hC
  obtain ⟨z1, z2, -, z3⟩ := chk_zero hc
  have q1 := hf.s
  have q2 := hf.d
  have q3 := hf.x
  have hH := fun w => headerOf_is ⟨s, d, 2, op, sm, si, tm, ti, hs, hd, tt, pr, sp, dp, x⟩ w
  rw [show FL.kn ⟨s, d, 2, op, sm, si, tm, ti, hs, hd, tt, pr, sp, dp, x⟩ = true from rfl, show FL.hv ⟨s, d, 2, op, sm, si, tm, ti, hs, hd, tt, pr, sp, dp, x⟩ = Value.iface 110 (.agg #[.int .u32 hs, .int .u32 hd, .int .i64 tt, .int .i64 pr, .int .i64 sp, .int .i64 dp]) from rfl] at hH
  have z4 : FL.hchk ⟨s, d, 2, op, sm, si, tm, ti, hs, hd, tt, pr, sp, dp, x⟩ = 0 := by rcases z3 with ⟨q, -⟩ | ⟨q, -⟩ | ⟨-, -, q⟩ <;> first | exact q | (simp at q)
  have HW := Lib.hid (fun (b : Nat) (W : WS) (w : World) (h : Wtr w b W) (hl : W.xs.length + 38 ≤ W.lim) => ipW_yes ⟨s, d, 2, op, sm, si, tm, ti, hs, hd, tt, pr, sp, dp, x⟩ hf z4 hp h hl)
  have HL := Lib.hid (show (FL.ipB ⟨s, d, 2, op, sm, si, tm, ti, hs, hd, tt, pr, sp, dp, x⟩).length = 30 by rw [ipB_length, ptB_length]; simp [hp])
  unfold FL.ip at HW
  clear z4 hp
  have hme : ∀ j w, Sem.run Try.prog (method (j + 1) 110 (.agg #[.int .u32 hs, .int .u32 hd, .int .i64 tt, .int .i64 pr, .int .i64 sp, .int .i64 dp]) "leafmesh/packet.write") w = .ok (123, (.agg #[.int .u32 hs, .int .u32 hd, .int .i64 tt, .int .i64 pr, .int .i64 sp, .int .i64 dp])) w := fun j w => by kernel_rfl
  have hcf : ∀ p w, Sem.run Try.prog (callFunc 123 #[(.agg #[.int .u32 hs, .int .u32 hd, .int .i64 tt, .int .i64 pr, .int .i64 sp, .int .i64 dp]), p]) w = .ok (.enter 123 #[(.agg #[.int .u32 hs, .int .u32 hd, .int .i64 tt, .int .i64 pr, .int .i64 sp, .int .i64 dp]), p]) w := fun p w => by kernel_rfl
  have hM : FL.mid ⟨s, d, 2, op, sm, si, tm, ti, hs, hd, tt, pr, sp, dp, x⟩ = (FL.ipB ⟨s, d, 2, op, sm, si, tm, ti, hs, hd, tt, pr, sp, dp, x⟩) := rfl
  unfold FL.enc
  rw [hM]
  clear hM z3 hc hf
  unfold FL.v FL.cs at hC hH
  dsimp only at *
  generalize (FL.ipB ⟨s, d, 2, op, sm, si, tm, ti, hs, hd, tt, pr, sp, dp, x⟩) = P at HW HL ⊢
  go_enter Try.func16, Try.ntmps16
  go_wp2_with (first | (refine at_box rfl _ _ rfl [.int .u64 s, .int .u64 d, .int .i64 2, .int .i64 op, .int .u64 sm, .int .u32 si, .int .u64 tm, .int .u32 ti, .int .u32 hs, .int .u32 hd, .int .i64 tt, .int .i64 pr, .int .i64 sp, .int .i64 dp, .int .u64 x] rfl ?_; rintro w1 H1 k1 s1) | (refine at_mid rfl 36 _ rfl w.heap.size 0 rfl H1 [.int .u64 s, .int .u64 d, .int .i64 2, .int .i64 op, .int .u64 sm, .int .u32 si, .int .u64 tm, .int .u32 ti, .int .u32 hs, .int .u32 hd, .int .i64 tt, .int .i64 pr, .int .i64 sp, .int .i64 dp, .int .u64 x] rfl _ Try.underlying36 rfl szF ?_) | (go_at_call 19; refine (hC w1).mono ?_; rintro e w2 ⟨rfl, k2⟩; have b2 := k1.trans (k2.mono k1.size); have H2 := H1.below k2 H1.lt; clear k1 k2 H1 hC) | (refine at_mid rfl 36 _ rfl w.heap.size 0 rfl H2 [.int .u64 s, .int .u64 d, .int .i64 2, .int .i64 op, .int .u64 sm, .int .u32 si, .int .u64 tm, .int .u32 ti, .int .u32 hs, .int .u32 hd, .int .i64 tt, .int .i64 pr, .int .i64 sp, .int .i64 dp, .int .u64 x] rfl _ Try.underlying36 rfl szF ?_) | (go_at_call 40; refine (hH w2).mono ?_; rintro e w3 ⟨rfl, k3⟩; have b3 := b2.trans (k3.mono b2.size); have H3 := H2.below k3 H2.lt; clear k3 b2 H2 hH))
  go_at_call 41
  refine (wr_New w3 50 (by decide)).mono ?_
  rintro e w4 ⟨b, rfl, m, W4, hbb, -, -, k4⟩
  have b4 := b3.trans (k4.mono b3.size)
  have H4 := H3.below k4 H3.lt
  have hB : w.heap.size ≤ b := Nat.le_trans b3.size hbb
  clear b3 H3 k4 hbb s1
  have S4 := Wr.start W4
  have B0 := W4.1
  have D0 := W4.2.1
  have c4 := Blk.cell H4 1 (v := .int .u64 d) rfl
  go_wp2_with fail
  go_at_call 42
  refine (put_U48 S4 d q2.1 (by omega) (by simp)).mono ?_
  rintro e w5 ⟨rfl, v5, S5⟩
  have x5 := S5.keep H4 B0 D0 (by decide) (by decide)
  have c5 := Blk.cell x5 0 (v := .int .u64 s) rfl
  clear c4 S4
  go_wp2_with fail
  go_at_call 42
  refine (put_U48 S5 s q1.1 (by omega) (by simp [enc_length])).mono ?_
  rintro e w6 ⟨rfl, v6, S6⟩
  have x6 := S6.keep H4 B0 D0 (by decide) (by decide)
  clear c5 S5 x5
  go_wp2_with fail
  go_at_call 123
  refine (HW.out b _ w6 S6.wtr (by simp [enc_length])).mono ?_
  rintro e w7 ⟨rfl, v7, T7⟩
  have S7 := S6.step T7
  have x7 := S7.keep H4 B0 D0 (by decide) (by decide)
  have c7 := Blk.cell x7 14 (v := .int .u64 x) rfl
  clear S6 x6 T7
  go_wp2_with fail
  go_at_call 43
  refine (put_U64 S7 x q3.1 q3.2 (by simp [enc_length, HL.out])).mono ?_
  rintro e w8 ⟨rfl, v8, S8⟩
  clear c7 S7 x7 hme hcf
  have b8 : Below w.heap.size w w8 := S8.base b4 hB (fun g hg => by simp [Value.ownBlock] at hg) b4.size
  go_wp2_with fail
  go_at_call 44
  refine (out_new w8 b _ S8.wtr).mono ?_
  rintro e w9 ⟨v, rfl, hd9, k9⟩
  go_wp2
  go_ret2
  refine ⟨v, rfl, ?_, b8.trans (k9.mono b8.size)⟩
  have := World.ownsRow.mono hd9 b8.size
  simpa [DatB, List.append_assoc] using this
theorem bytes_ok (f : FL) (hf : f.Ok) (hc : f.chk = 0) (w : World) : Calls Try.prog 16 #[f.v] w fun e w' => ∃ v, e = .returned (.tuple #[v, .int .i64 0]) ∧ DatB w.heap.size w' v f.enc ∧ Below w.heap.size w w' := by
  have h := (chk_zero hc).2.2.2
  obtain ⟨s, d, k, op, sm, si, tm, ti, hs, hd, tt, pr, sp, dp, x⟩ := f
  unfold FL.v FL.cs
  dsimp only at h ⊢
  rcases h with ⟨rfl, -⟩ | ⟨rfl, -⟩ | ⟨rfl, -⟩
  · exact bytes_0 s d op sm si tm ti hs hd tt pr sp dp x hf hc w
  · exact bytes_1 s d op sm si tm ti hs hd tt pr sp dp x hf hc w
  · cases hp : pt pr
    · exact bytes_2n s d op sm si tm ti hs hd tt pr sp dp x hf hc hp w
    · exact bytes_2y s d op sm si tm ti hs hd tt pr sp dp x hf hc hp w
end Go.Proofs.Ytgpjelcihmbiiaa
