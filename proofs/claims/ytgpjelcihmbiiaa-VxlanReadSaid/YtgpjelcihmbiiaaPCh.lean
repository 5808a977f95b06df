/- The header of a frame; why a frame is not valid. No condition. -/
import Derived.Test.YtgpjelcihmbiiaaPCk
namespace Go.Proofs.Ytgpjelcihmbiiaa
open Go.RowKit
set_option linter.unusedVariables false
set_option linter.unusedSimpArgs false
set_option maxRecDepth 100000

/-- The header of a frame, as an interface value. -/
def FL.hv (f : FL) : Value := if f.k = 0 then .iface 106 (.agg #[]) else if f.k = 1 then .iface 108 (.agg f.ar.toArray) else if f.k = 2 then .iface 110 (.agg f.ip.toArray) else .nilIface
def FL.kn (f : FL) : Bool := (f.k == 0) || ((f.k == 1) || (f.k == 2))
theorem headerOf_is (f : FL) (w : World) : Calls Try.prog 40 #[f.v] w fun e w' => e = .returned (.tuple #[f.hv, .bool f.kn]) ∧ Below w.heap.size w w' := by
  obtain ⟨s, d, k, op, sm, si, tm, ti, hs, hd, tt, pr, sp, dp, x⟩ := f
  by_cases h0 : k = 0
  · subst h0
    unfold FL.v FL.hv FL.cs FL.kn FL.ar FL.ip
    dsimp only
    go_enter Try.func40, Try.ntmps40
    go_wp2_with (first | (refine at_box rfl _ _ rfl [.int .u64 s, .int .u64 d, .int .i64 0, .int .i64 op, .int .u64 sm, .int .u32 si, .int .u64 tm, .int .u32 ti, .int .u32 hs, .int .u32 hd, .int .i64 tt, .int .i64 pr, .int .i64 sp, .int .i64 dp, .int .u64 x] rfl ?_; rintro w1 H1 k1 s1; have c2 := H1.cell 2 (v := .int .i64 0) rfl))
    go_ret2
    exact ⟨rfl, k1⟩
  by_cases h1 : k = 1
  · subst h1
    unfold FL.v FL.hv FL.cs FL.kn FL.ar FL.ip
    dsimp only
    go_enter Try.func40, Try.ntmps40
    go_wp2_with (first | (refine at_box rfl _ _ rfl [.int .u64 s, .int .u64 d, .int .i64 1, .int .i64 op, .int .u64 sm, .int .u32 si, .int .u64 tm, .int .u32 ti, .int .u32 hs, .int .u32 hd, .int .i64 tt, .int .i64 pr, .int .i64 sp, .int .i64 dp, .int .u64 x] rfl ?_; rintro w1 H1 k1 s1; have c2 := H1.cell 2 (v := .int .i64 1) rfl) | (refine at_mid rfl 34 _ rfl w.heap.size 3 rfl H1 [.int .i64 op, .int .u64 sm, .int .u32 si, .int .u64 tm, .int .u32 ti] rfl _ Try.underlying34 rfl szA ?_))
    go_ret2
    exact ⟨rfl, k1⟩
  by_cases h2 : k = 2
  · subst h2
    unfold FL.v FL.hv FL.cs FL.kn FL.ar FL.ip
    dsimp only
    go_enter Try.func40, Try.ntmps40
    go_wp2_with (first | (refine at_box rfl _ _ rfl [.int .u64 s, .int .u64 d, .int .i64 2, .int .i64 op, .int .u64 sm, .int .u32 si, .int .u64 tm, .int .u32 ti, .int .u32 hs, .int .u32 hd, .int .i64 tt, .int .i64 pr, .int .i64 sp, .int .i64 dp, .int .u64 x] rfl ?_; rintro w1 H1 k1 s1; have c2 := H1.cell 2 (v := .int .i64 2) rfl) | (refine at_mid rfl 32 _ rfl w.heap.size 8 rfl H1 [.int .u32 hs, .int .u32 hd, .int .i64 tt, .int .i64 pr, .int .i64 sp, .int .i64 dp] rfl _ Try.underlying32 rfl szH ?_))
    go_ret2
    exact ⟨rfl, k1⟩
  have b0 : (k == 0) = false := by simpa using h0
  have b1 : (k == 1) = false := by simpa using h1
  have b2 : (k == 2) = false := by simpa using h2
  unfold FL.v FL.hv FL.cs FL.kn FL.ar FL.ip
  dsimp only
  rw [if_neg h0, if_neg h1, if_neg h2, b0, b1, b2]
  go_enter Try.func40, Try.ntmps40
  go_wp2_with (first | (refine at_box rfl _ _ rfl [.int .u64 s, .int .u64 d, .int .i64 k, .int .i64 op, .int .u64 sm, .int .u32 si, .int .u64 tm, .int .u32 ti, .int .u32 hs, .int .u32 hd, .int .i64 tt, .int .i64 pr, .int .i64 sp, .int .i64 dp, .int .u64 x] rfl ?_; rintro w1 H1 k1 s1; have c2 := H1.cell 2 (v := .int .i64 k) rfl))
  go_ret2
  exact ⟨rfl, k1⟩
/-- Why a frame is not valid. -/
def FL.chk (f : FL) : Int := if 281474976710655 < f.s ∨ 281474976710655 < f.d then 2 else if mc f.s = true then 3 else if f.kn = false then 6 else if (f.k ≠ 1 ∧ f.eqa F0 = false) ∨ (f.k ≠ 2 ∧ f.eqh F0 = false) then 3 else if f.k = 1 then f.achk else if f.k = 2 then f.hchk else 0
set_option maxHeartbeats 1000000 in
theorem chk_s (s d k op sm si tm ti hs hd tt pr sp dp x : Int) (h0 : 281474976710655 < s) (w : World) : Calls Try.prog 19 #[.agg #[.int .u64 s, .int .u64 d, .int .i64 k, .int .i64 op, .int .u64 sm, .int .u32 si, .int .u64 tm, .int .u32 ti, .int .u32 hs, .int .u32 hd, .int .i64 tt, .int .i64 pr, .int .i64 sp, .int .i64 dp, .int .u64 x]] w fun e w' => e = .returned (.int .i64 2) ∧ Below w.heap.size w w' := by
  have hH := fun w => headerOf_is ⟨s, d, k, op, sm, si, tm, ti, hs, hd, tt, pr, sp, dp, x⟩ w
  unfold FL.v FL.cs FL.hv FL.kn FL.ar FL.ip at hH
  dsimp only at hH
  generalize hv : (if k = 0 then Value.iface 106 (.agg #[]) else if k = 1 then Value.iface 108 (.agg #[.int .i64 op, .int .u64 sm, .int .u32 si, .int .u64 tm, .int .u32 ti]) else if k = 2 then Value.iface 110 (.agg #[.int .u32 hs, .int .u32 hd, .int .i64 tt, .int .i64 pr, .int .i64 sp, .int .i64 dp]) else Value.nilIface) = V at hH
  generalize ((k == 0) || ((k == 1) || (k == 2))) = B at hH
  clear hv
  have q0 : decide ((281474976710655 : Int) < s) = true := by simpa using h0
  go_enter Try.func19, Try.ntmps19
  go_wp2_with (first | (refine at_box rfl _ _ rfl [.int .u64 s, .int .u64 d, .int .i64 k, .int .i64 op, .int .u64 sm, .int .u32 si, .int .u64 tm, .int .u32 ti, .int .u32 hs, .int .u32 hd, .int .i64 tt, .int .i64 pr, .int .i64 sp, .int .i64 dp, .int .u64 x] rfl ?_; rintro w1 H1 k1 s1) | (refine at_mid rfl 36 _ rfl w.heap.size 0 rfl H1 [.int .u64 s, .int .u64 d, .int .i64 k, .int .i64 op, .int .u64 sm, .int .u32 si, .int .u64 tm, .int .u32 ti, .int .u32 hs, .int .u32 hd, .int .i64 tt, .int .i64 pr, .int .i64 sp, .int .i64 dp, .int .u64 x] rfl _ Try.underlying36 rfl szF ?_) | (go_at_call 40; refine (hH w1).mono ?_; rintro e w2 ⟨rfl, k2⟩; have H2 := H1.below k2 H1.lt; have b2 := k1.trans (k2.mono k1.size); clear H1 k2; have c0 := H2.cell 0 (v := .int .u64 s) rfl; have c1 := H2.cell 1 (v := .int .u64 d) rfl; have c2 := H2.cell 2 (v := .int .i64 k) rfl))
  go_ret
  exact ⟨rfl, b2⟩
set_option maxHeartbeats 1000000 in
theorem chk_d (s d k op sm si tm ti hs hd tt pr sp dp x : Int) (h0 : s ≤ 281474976710655) (h1 : 281474976710655 < d) (w : World) : Calls Try.prog 19 #[.agg #[.int .u64 s, .int .u64 d, .int .i64 k, .int .i64 op, .int .u64 sm, .int .u32 si, .int .u64 tm, .int .u32 ti, .int .u32 hs, .int .u32 hd, .int .i64 tt, .int .i64 pr, .int .i64 sp, .int .i64 dp, .int .u64 x]] w fun e w' => e = .returned (.int .i64 2) ∧ Below w.heap.size w w' := by
  have hH := fun w => headerOf_is ⟨s, d, k, op, sm, si, tm, ti, hs, hd, tt, pr, sp, dp, x⟩ w
  unfold FL.v FL.cs FL.hv FL.kn FL.ar FL.ip at hH
  dsimp only at hH
  generalize hv : (if k = 0 then Value.iface 106 (.agg #[]) else if k = 1 then Value.iface 108 (.agg #[.int .i64 op, .int .u64 sm, .int .u32 si, .int .u64 tm, .int .u32 ti]) else if k = 2 then Value.iface 110 (.agg #[.int .u32 hs, .int .u32 hd, .int .i64 tt, .int .i64 pr, .int .i64 sp, .int .i64 dp]) else Value.nilIface) = V at hH
  generalize ((k == 0) || ((k == 1) || (k == 2))) = B at hH
  clear hv
  have q0 : decide ((281474976710655 : Int) < s) = false := by simpa using h0
  have q1 : decide ((281474976710655 : Int) < d) = true := by simpa using h1
  go_enter Try.func19, Try.ntmps19
  go_wp2_with (first | (refine at_box rfl _ _ rfl [.int .u64 s, .int .u64 d, .int .i64 k, .int .i64 op, .int .u64 sm, .int .u32 si, .int .u64 tm, .int .u32 ti, .int .u32 hs, .int .u32 hd, .int .i64 tt, .int .i64 pr, .int .i64 sp, .int .i64 dp, .int .u64 x] rfl ?_; rintro w1 H1 k1 s1) | (refine at_mid rfl 36 _ rfl w.heap.size 0 rfl H1 [.int .u64 s, .int .u64 d, .int .i64 k, .int .i64 op, .int .u64 sm, .int .u32 si, .int .u64 tm, .int .u32 ti, .int .u32 hs, .int .u32 hd, .int .i64 tt, .int .i64 pr, .int .i64 sp, .int .i64 dp, .int .u64 x] rfl _ Try.underlying36 rfl szF ?_) | (go_at_call 40; refine (hH w1).mono ?_; rintro e w2 ⟨rfl, k2⟩; have H2 := H1.below k2 H1.lt; have b2 := k1.trans (k2.mono k1.size); clear H1 k2; have c0 := H2.cell 0 (v := .int .u64 s) rfl; have c1 := H2.cell 1 (v := .int .u64 d) rfl; have c2 := H2.cell 2 (v := .int .i64 k) rfl))
  go_ret
  exact ⟨rfl, b2⟩
set_option maxHeartbeats 1000000 in
theorem chk_m (s d k op sm si tm ti hs hd tt pr sp dp x : Int) (h0 : s ≤ 281474976710655) (h1 : d ≤ 281474976710655) (h2 : mc s = true) (w : World) : Calls Try.prog 19 #[.agg #[.int .u64 s, .int .u64 d, .int .i64 k, .int .i64 op, .int .u64 sm, .int .u32 si, .int .u64 tm, .int .u32 ti, .int .u32 hs, .int .u32 hd, .int .i64 tt, .int .i64 pr, .int .i64 sp, .int .i64 dp, .int .u64 x]] w fun e w' => e = .returned (.int .i64 3) ∧ Below w.heap.size w w' := by
  have hH := fun w => headerOf_is ⟨s, d, k, op, sm, si, tm, ti, hs, hd, tt, pr, sp, dp, x⟩ w
  unfold FL.v FL.cs FL.hv FL.kn FL.ar FL.ip at hH
  dsimp only at hH
  generalize hv : (if k = 0 then Value.iface 106 (.agg #[]) else if k = 1 then Value.iface 108 (.agg #[.int .i64 op, .int .u64 sm, .int .u32 si, .int .u64 tm, .int .u32 ti]) else if k = 2 then Value.iface 110 (.agg #[.int .u32 hs, .int .u32 hd, .int .i64 tt, .int .i64 pr, .int .i64 sp, .int .i64 dp]) else Value.nilIface) = V at hH
  generalize ((k == 0) || ((k == 1) || (k == 2))) = B at hH
  clear hv
  have q0 : decide ((281474976710655 : Int) < s) = false := by simpa using h0
  have q1 : decide ((281474976710655 : Int) < d) = false := by simpa using h1
  have hM := fun w => mc_is s w
  rw [h2] at hM
  go_enter Try.func19, Try.ntmps19
  go_wp2_with (first | (refine at_box rfl _ _ rfl [.int .u64 s, .int .u64 d, .int .i64 k, .int .i64 op, .int .u64 sm, .int .u32 si, .int .u64 tm, .int .u32 ti, .int .u32 hs, .int .u32 hd, .int .i64 tt, .int .i64 pr, .int .i64 sp, .int .i64 dp, .int .u64 x] rfl ?_; rintro w1 H1 k1 s1) | (refine at_mid rfl 36 _ rfl w.heap.size 0 rfl H1 [.int .u64 s, .int .u64 d, .int .i64 k, .int .i64 op, .int .u64 sm, .int .u32 si, .int .u64 tm, .int .u32 ti, .int .u32 hs, .int .u32 hd, .int .i64 tt, .int .i64 pr, .int .i64 sp, .int .i64 dp, .int .u64 x] rfl _ Try.underlying36 rfl szF ?_) | (go_at_call 40; refine (hH w1).mono ?_; rintro e w2 ⟨rfl, k2⟩; have H2 := H1.below k2 H1.lt; have b2 := k1.trans (k2.mono k1.size); clear H1 k2; have c0 := H2.cell 0 (v := .int .u64 s) rfl; have c1 := H2.cell 1 (v := .int .u64 d) rfl; have c2 := H2.cell 2 (v := .int .i64 k) rfl) | (go_at_call 49; refine (hM _).mono ?_; rintro e w' ⟨rfl, hw⟩; obtain rfl := hw.symm))
  go_ret
  exact ⟨rfl, b2⟩
set_option maxHeartbeats 1000000 in
theorem chk_k (s d k op sm si tm ti hs hd tt pr sp dp x : Int) (h0 : s ≤ 281474976710655) (h1 : d ≤ 281474976710655) (h2 : mc s = false) (h3 : k ≠ 0) (h4 : k ≠ 1) (h5 : k ≠ 2) (w : World) : Calls Try.prog 19 #[.agg #[.int .u64 s, .int .u64 d, .int .i64 k, .int .i64 op, .int .u64 sm, .int .u32 si, .int .u64 tm, .int .u32 ti, .int .u32 hs, .int .u32 hd, .int .i64 tt, .int .i64 pr, .int .i64 sp, .int .i64 dp, .int .u64 x]] w fun e w' => e = .returned (.int .i64 6) ∧ Below w.heap.size w w' := by
  have hH := fun w => headerOf_is ⟨s, d, k, op, sm, si, tm, ti, hs, hd, tt, pr, sp, dp, x⟩ w
  unfold FL.v FL.cs FL.hv FL.kn FL.ar FL.ip at hH
  dsimp only at hH
  have b0 : (k == 0) = false := by simpa using h3
  have b1 : (k == 1) = false := by simpa using h4
  have b2 : (k == 2) = false := by simpa using h5
  rw [if_neg h3, if_neg h4, if_neg h5, b0, b1, b2] at hH
  clear b0 b1 b2
  have q0 : decide ((281474976710655 : Int) < s) = false := by simpa using h0
  have q1 : decide ((281474976710655 : Int) < d) = false := by simpa using h1
  have hM := fun w => mc_is s w
  rw [h2] at hM
  go_enter Try.func19, Try.ntmps19
  go_wp2_with (first | (refine at_box rfl _ _ rfl [.int .u64 s, .int .u64 d, .int .i64 k, .int .i64 op, .int .u64 sm, .int .u32 si, .int .u64 tm, .int .u32 ti, .int .u32 hs, .int .u32 hd, .int .i64 tt, .int .i64 pr, .int .i64 sp, .int .i64 dp, .int .u64 x] rfl ?_; rintro w1 H1 k1 s1) | (refine at_mid rfl 36 _ rfl w.heap.size 0 rfl H1 [.int .u64 s, .int .u64 d, .int .i64 k, .int .i64 op, .int .u64 sm, .int .u32 si, .int .u64 tm, .int .u32 ti, .int .u32 hs, .int .u32 hd, .int .i64 tt, .int .i64 pr, .int .i64 sp, .int .i64 dp, .int .u64 x] rfl _ Try.underlying36 rfl szF ?_) | (go_at_call 40; refine (hH w1).mono ?_; rintro e w2 ⟨rfl, k2⟩; have H2 := H1.below k2 H1.lt; have b2 := k1.trans (k2.mono k1.size); clear H1 k2; have c0 := H2.cell 0 (v := .int .u64 s) rfl; have c1 := H2.cell 1 (v := .int .u64 d) rfl; have c2 := H2.cell 2 (v := .int .i64 k) rfl) | (go_at_call 49; refine (hM _).mono ?_; rintro e w' ⟨rfl, hw⟩; obtain rfl := hw.symm))
  go_ret
  exact ⟨rfl, b2⟩
set_option maxHeartbeats 1000000 in
theorem chk_a0 (s d op sm si tm ti hs hd tt pr sp dp x : Int) (h0 : s ≤ 281474976710655) (h1 : d ≤ 281474976710655) (h2 : mc s = false) (h3 : FL.eqa ⟨s, d, 0, op, sm, si, tm, ti, hs, hd, tt, pr, sp, dp, x⟩ F0 = false) (w : World) : Calls Try.prog 19 #[.agg #[.int .u64 s, .int .u64 d, .int .i64 0, .int .i64 op, .int .u64 sm, .int .u32 si, .int .u64 tm, .int .u32 ti, .int .u32 hs, .int .u32 hd, .int .i64 tt, .int .i64 pr, .int .i64 sp, .int .i64 dp, .int .u64 x]] w fun e w' => e = .returned (.int .i64 3) ∧ Below w.heap.size w w' := by
  have hH := fun w => headerOf_is ⟨s, d, 0, op, sm, si, tm, ti, hs, hd, tt, pr, sp, dp, x⟩ w
  unfold FL.v FL.cs FL.hv FL.kn FL.ar FL.ip at hH
  dsimp only at hH
  have q0 : decide ((281474976710655 : Int) < s) = false := by simpa using h0
  have q1 : decide ((281474976710655 : Int) < d) = false := by simpa using h1
  have hM := fun w => mc_is s w
  rw [h2] at hM
  rw [show (if (0:Int) = 0 then Value.iface 106 (.agg #[]) else if (0:Int) = 1 then Value.iface 108 (.agg #[.int .i64 op, .int .u64 sm, .int .u32 si, .int .u64 tm, .int .u32 ti]) else if (0:Int) = 2 then Value.iface 110 (.agg #[.int .u32 hs, .int .u32 hd, .int .i64 tt, .int .i64 pr, .int .i64 sp, .int .i64 dp]) else Value.nilIface) = Value.iface 106 (.agg #[]) from rfl, show (((0 : Int) == 0) || (((0 : Int) == 1) || ((0 : Int) == 2))) = true from rfl] at hH
  have EA := fun w => neqA ⟨s, d, 0, op, sm, si, tm, ti, hs, hd, tt, pr, sp, dp, x⟩ F0 w
  rw [h3] at EA
  go_enter Try.func19, Try.ntmps19
  go_wp2_with (first | (refine at_box rfl _ _ rfl [.int .u64 s, .int .u64 d, .int .i64 0, .int .i64 op, .int .u64 sm, .int .u32 si, .int .u64 tm, .int .u32 ti, .int .u32 hs, .int .u32 hd, .int .i64 tt, .int .i64 pr, .int .i64 sp, .int .i64 dp, .int .u64 x] rfl ?_; rintro w1 H1 k1 s1) | (refine at_mid rfl 36 _ rfl w.heap.size 0 rfl H1 [.int .u64 s, .int .u64 d, .int .i64 0, .int .i64 op, .int .u64 sm, .int .u32 si, .int .u64 tm, .int .u32 ti, .int .u32 hs, .int .u32 hd, .int .i64 tt, .int .i64 pr, .int .i64 sp, .int .i64 dp, .int .u64 x] rfl _ Try.underlying36 rfl szF ?_) | (go_at_call 40; refine (hH w1).mono ?_; rintro e w2 ⟨rfl, k2⟩; have H2 := H1.below k2 H1.lt; have b2 := k1.trans (k2.mono k1.size); clear H1 k2; have c0 := H2.cell 0 (v := .int .u64 s) rfl; have c1 := H2.cell 1 (v := .int .u64 d) rfl; have c2 := H2.cell 2 (v := .int .i64 0) rfl) | (go_at_call 49; refine (hM _).mono ?_; rintro e w' ⟨rfl, hw⟩; obtain rfl := hw.symm) | (refine at_mid (by kernel_rfl) 34 _ rfl w.heap.size 3 rfl H2 [.int .i64 op, .int .u64 sm, .int .u32 si, .int .u64 tm, .int .u32 ti] rfl _ Try.underlying34 rfl szA ?_) | (refine at_cmp (by kernel_rfl) .neq 34 _ _ rfl (.agg #[.int .i64 op, .int .u64 sm, .int .u32 si, .int .u64 tm, .int .u32 ti]) (.agg F0.ar.toArray) rfl rfl true (by kernel_rfl) (EA _) ?_))
  go_ret
  exact ⟨rfl, b2⟩
set_option maxHeartbeats 1000000 in
theorem chk_h0 (s d op sm si tm ti hs hd tt pr sp dp x : Int) (h0 : s ≤ 281474976710655) (h1 : d ≤ 281474976710655) (h2 : mc s = false) (h3 : FL.eqa ⟨s, d, 0, op, sm, si, tm, ti, hs, hd, tt, pr, sp, dp, x⟩ F0 = true) (h4 : FL.eqh ⟨s, d, 0, op, sm, si, tm, ti, hs, hd, tt, pr, sp, dp, x⟩ F0 = false) (w : World) : Calls Try.prog 19 #[.agg #[.int .u64 s, .int .u64 d, .int .i64 0, .int .i64 op, .int .u64 sm, .int .u32 si, .int .u64 tm, .int .u32 ti, .int .u32 hs, .int .u32 hd, .int .i64 tt, .int .i64 pr, .int .i64 sp, .int .i64 dp, .int .u64 x]] w fun e w' => e = .returned (.int .i64 3) ∧ Below w.heap.size w w' := by
  have hH := fun w => headerOf_is ⟨s, d, 0, op, sm, si, tm, ti, hs, hd, tt, pr, sp, dp, x⟩ w
  unfold FL.v FL.cs FL.hv FL.kn FL.ar FL.ip at hH
  dsimp only at hH
  have q0 : decide ((281474976710655 : Int) < s) = false := by simpa using h0
  have q1 : decide ((281474976710655 : Int) < d) = false := by simpa using h1
  have hM := fun w => mc_is s w
  rw [h2] at hM
  rw [show (if (0:Int) = 0 then Value.iface 106 (.agg #[]) else if (0:Int) = 1 then Value.iface 108 (.agg #[.int .i64 op, .int .u64 sm, .int .u32 si, .int .u64 tm, .int .u32 ti]) else if (0:Int) = 2 then Value.iface 110 (.agg #[.int .u32 hs, .int .u32 hd, .int .i64 tt, .int .i64 pr, .int .i64 sp, .int .i64 dp]) else Value.nilIface) = Value.iface 106 (.agg #[]) from rfl, show (((0 : Int) == 0) || (((0 : Int) == 1) || ((0 : Int) == 2))) = true from rfl] at hH
  have EA := fun w => neqA ⟨s, d, 0, op, sm, si, tm, ti, hs, hd, tt, pr, sp, dp, x⟩ F0 w
  rw [h3] at EA
  have EH := fun w => neqH ⟨s, d, 0, op, sm, si, tm, ti, hs, hd, tt, pr, sp, dp, x⟩ F0 w
  rw [h4] at EH
  go_enter Try.func19, Try.ntmps19
  go_wp2_with (first | (refine at_box rfl _ _ rfl [.int .u64 s, .int .u64 d, .int .i64 0, .int .i64 op, .int .u64 sm, .int .u32 si, .int .u64 tm, .int .u32 ti, .int .u32 hs, .int .u32 hd, .int .i64 tt, .int .i64 pr, .int .i64 sp, .int .i64 dp, .int .u64 x] rfl ?_; rintro w1 H1 k1 s1) | (refine at_mid rfl 36 _ rfl w.heap.size 0 rfl H1 [.int .u64 s, .int .u64 d, .int .i64 0, .int .i64 op, .int .u64 sm, .int .u32 si, .int .u64 tm, .int .u32 ti, .int .u32 hs, .int .u32 hd, .int .i64 tt, .int .i64 pr, .int .i64 sp, .int .i64 dp, .int .u64 x] rfl _ Try.underlying36 rfl szF ?_) | (go_at_call 40; refine (hH w1).mono ?_; rintro e w2 ⟨rfl, k2⟩; have H2 := H1.below k2 H1.lt; have b2 := k1.trans (k2.mono k1.size); clear H1 k2; have c0 := H2.cell 0 (v := .int .u64 s) rfl; have c1 := H2.cell 1 (v := .int .u64 d) rfl; have c2 := H2.cell 2 (v := .int .i64 0) rfl) | (go_at_call 49; refine (hM _).mono ?_; rintro e w' ⟨rfl, hw⟩; obtain rfl := hw.symm) | (refine at_mid (by kernel_rfl) 34 _ rfl w.heap.size 3 rfl H2 [.int .i64 op, .int .u64 sm, .int .u32 si, .int .u64 tm, .int .u32 ti] rfl _ Try.underlying34 rfl szA ?_) | (refine at_cmp (by kernel_rfl) .neq 34 _ _ rfl (.agg #[.int .i64 op, .int .u64 sm, .int .u32 si, .int .u64 tm, .int .u32 ti]) (.agg F0.ar.toArray) rfl rfl false (by kernel_rfl) (EA _) ?_) | (refine at_mid (by kernel_rfl) 32 _ rfl w.heap.size 8 rfl H2 [.int .u32 hs, .int .u32 hd, .int .i64 tt, .int .i64 pr, .int .i64 sp, .int .i64 dp] rfl _ Try.underlying32 rfl szH ?_) | (refine at_cmp (by kernel_rfl) .neq 32 _ _ rfl (.agg #[.int .u32 hs, .int .u32 hd, .int .i64 tt, .int .i64 pr, .int .i64 sp, .int .i64 dp]) (.agg F0.ip.toArray) rfl rfl true (by kernel_rfl) (EH _) ?_))
  go_ret
  exact ⟨rfl, b2⟩
set_option maxHeartbeats 1000000 in
theorem chk_ok0 (s d op sm si tm ti hs hd tt pr sp dp x : Int) (h0 : s ≤ 281474976710655) (h1 : d ≤ 281474976710655) (h2 : mc s = false) (h3 : FL.eqa ⟨s, d, 0, op, sm, si, tm, ti, hs, hd, tt, pr, sp, dp, x⟩ F0 = true) (h4 : FL.eqh ⟨s, d, 0, op, sm, si, tm, ti, hs, hd, tt, pr, sp, dp, x⟩ F0 = true) (w : World) : Calls Try.prog 19 #[.agg #[.int .u64 s, .int .u64 d, .int .i64 0, .int .i64 op, .int .u64 sm, .int .u32 si, .int .u64 tm, .int .u32 ti, .int .u32 hs, .int .u32 hd, .int .i64 tt, .int .i64 pr, .int .i64 sp, .int .i64 dp, .int .u64 x]] w fun e w' => e = .returned (.int .i64 0) ∧ Below w.heap.size w w' := by
  have hH := fun w => headerOf_is ⟨s, d, 0, op, sm, si, tm, ti, hs, hd, tt, pr, sp, dp, x⟩ w
  unfold FL.v FL.cs FL.hv FL.kn FL.ar FL.ip at hH
  dsimp only at hH
  have q0 : decide ((281474976710655 : Int) < s) = false := by simpa using h0
  have q1 : decide ((281474976710655 : Int) < d) = false := by simpa using h1
  have hM := fun w => mc_is s w
  rw [h2] at hM
  rw [show (if (0:Int) = 0 then Value.iface 106 (.agg #[]) else if (0:Int) = 1 then Value.iface 108 (.agg #[.int .i64 op, .int .u64 sm, .int .u32 si, .int .u64 tm, .int .u32 ti]) else if (0:Int) = 2 then Value.iface 110 (.agg #[.int .u32 hs, .int .u32 hd, .int .i64 tt, .int .i64 pr, .int .i64 sp, .int .i64 dp]) else Value.nilIface) = Value.iface 106 (.agg #[]) from rfl, show (((0 : Int) == 0) || (((0 : Int) == 1) || ((0 : Int) == 2))) = true from rfl] at hH
  have EA := fun w => neqA ⟨s, d, 0, op, sm, si, tm, ti, hs, hd, tt, pr, sp, dp, x⟩ F0 w
  rw [h3] at EA
  have EH := fun w => neqH ⟨s, d, 0, op, sm, si, tm, ti, hs, hd, tt, pr, sp, dp, x⟩ F0 w
  rw [h4] at EH
  have hC := fun w => dchk_is w
  have hme : ∀ j w, Sem.run Try.prog (method (j + 1) 106 (.agg #[]) "leafmesh/packet.check") w = .ok (117, (.agg #[])) w := fun j w => by kernel_rfl
  have hcf : ∀ w, Sem.run Try.prog (callFunc 117 #[(.agg #[])]) w = .ok (.enter 117 #[(.agg #[])]) w := fun w => by kernel_rfl
  go_enter Try.func19, Try.ntmps19
  go_wp2_with (first | (refine at_box rfl _ _ rfl [.int .u64 s, .int .u64 d, .int .i64 0, .int .i64 op, .int .u64 sm, .int .u32 si, .int .u64 tm, .int .u32 ti, .int .u32 hs, .int .u32 hd, .int .i64 tt, .int .i64 pr, .int .i64 sp, .int .i64 dp, .int .u64 x] rfl ?_; rintro w1 H1 k1 s1) | (refine at_mid rfl 36 _ rfl w.heap.size 0 rfl H1 [.int .u64 s, .int .u64 d, .int .i64 0, .int .i64 op, .int .u64 sm, .int .u32 si, .int .u64 tm, .int .u32 ti, .int .u32 hs, .int .u32 hd, .int .i64 tt, .int .i64 pr, .int .i64 sp, .int .i64 dp, .int .u64 x] rfl _ Try.underlying36 rfl szF ?_) | (go_at_call 40; refine (hH w1).mono ?_; rintro e w2 ⟨rfl, k2⟩; have H2 := H1.below k2 H1.lt; have b2 := k1.trans (k2.mono k1.size); clear H1 k2; have c0 := H2.cell 0 (v := .int .u64 s) rfl; have c1 := H2.cell 1 (v := .int .u64 d) rfl; have c2 := H2.cell 2 (v := .int .i64 0) rfl) | (go_at_call 49; refine (hM _).mono ?_; rintro e w' ⟨rfl, hw⟩; obtain rfl := hw.symm) | (refine at_mid (by kernel_rfl) 34 _ rfl w.heap.size 3 rfl H2 [.int .i64 op, .int .u64 sm, .int .u32 si, .int .u64 tm, .int .u32 ti] rfl _ Try.underlying34 rfl szA ?_) | (refine at_cmp (by kernel_rfl) .neq 34 _ _ rfl (.agg #[.int .i64 op, .int .u64 sm, .int .u32 si, .int .u64 tm, .int .u32 ti]) (.agg F0.ar.toArray) rfl rfl false (by kernel_rfl) (EA _) ?_) | (refine at_mid (by kernel_rfl) 32 _ rfl w.heap.size 8 rfl H2 [.int .u32 hs, .int .u32 hd, .int .i64 tt, .int .i64 pr, .int .i64 sp, .int .i64 dp] rfl _ Try.underlying32 rfl szH ?_) | (refine at_cmp (by kernel_rfl) .neq 32 _ _ rfl (.agg #[.int .u32 hs, .int .u32 hd, .int .i64 tt, .int .i64 pr, .int .i64 sp, .int .i64 dp]) (.agg F0.ip.toArray) rfl rfl false (by kernel_rfl) (EH _) ?_))
  go_at_call 117
  refine (hC w2).mono ?_
  rintro e w3 ⟨rfl, k3⟩
  go_wp2
  go_ret
  exact ⟨rfl, b2.trans (k3.mono b2.size)⟩
set_option maxHeartbeats 1000000 in
theorem chk_h1 (s d op sm si tm ti hs hd tt pr sp dp x : Int) (h0 : s ≤ 281474976710655) (h1 : d ≤ 281474976710655) (h2 : mc s = false) (h4 : FL.eqh ⟨s, d, 1, op, sm, si, tm, ti, hs, hd, tt, pr, sp, dp, x⟩ F0 = false) (w : World) : Calls Try.prog 19 #[.agg #[.int .u64 s, .int .u64 d, .int .i64 1, .int .i64 op, .int .u64 sm, .int .u32 si, .int .u64 tm, .int .u32 ti, .int .u32 hs, .int .u32 hd, .int .i64 tt, .int .i64 pr, .int .i64 sp, .int .i64 dp, .int .u64 x]] w fun e w' => e = .returned (.int .i64 3) ∧ Below w.heap.size w w' := by
  have hH := fun w => headerOf_is ⟨s, d, 1, op, sm, si, tm, ti, hs, hd, tt, pr, sp, dp, x⟩ w
  unfold FL.v FL.cs FL.hv FL.kn FL.ar FL.ip at hH
  dsimp only at hH
  have q0 : decide ((281474976710655 : Int) < s) = false := by simpa using h0
  have q1 : decide ((281474976710655 : Int) < d) = false := by simpa using h1
  have hM := fun w => mc_is s w
  rw [h2] at hM
  rw [show (if (1:Int) = 0 then Value.iface 106 (.agg #[]) else if (1:Int) = 1 then Value.iface 108 (.agg #[.int .i64 op, .int .u64 sm, .int .u32 si, .int .u64 tm, .int .u32 ti]) else if (1:Int) = 2 then Value.iface 110 (.agg #[.int .u32 hs, .int .u32 hd, .int .i64 tt, .int .i64 pr, .int .i64 sp, .int .i64 dp]) else Value.nilIface) = Value.iface 108 (.agg #[.int .i64 op, .int .u64 sm, .int .u32 si, .int .u64 tm, .int .u32 ti]) from rfl, show (((1 : Int) == 0) || (((1 : Int) == 1) || ((1 : Int) == 2))) = true from rfl] at hH
  have EH := fun w => neqH ⟨s, d, 1, op, sm, si, tm, ti, hs, hd, tt, pr, sp, dp, x⟩ F0 w
  rw [h4] at EH
  go_enter Try.func19, Try.ntmps19
  go_wp2_with (first | (refine at_box rfl _ _ rfl [.int .u64 s, .int .u64 d, .int .i64 1, .int .i64 op, .int .u64 sm, .int .u32 si, .int .u64 tm, .int .u32 ti, .int .u32 hs, .int .u32 hd, .int .i64 tt, .int .i64 pr, .int .i64 sp, .int .i64 dp, .int .u64 x] rfl ?_; rintro w1 H1 k1 s1) | (refine at_mid rfl 36 _ rfl w.heap.size 0 rfl H1 [.int .u64 s, .int .u64 d, .int .i64 1, .int .i64 op, .int .u64 sm, .int .u32 si, .int .u64 tm, .int .u32 ti, .int .u32 hs, .int .u32 hd, .int .i64 tt, .int .i64 pr, .int .i64 sp, .int .i64 dp, .int .u64 x] rfl _ Try.underlying36 rfl szF ?_) | (go_at_call 40; refine (hH w1).mono ?_; rintro e w2 ⟨rfl, k2⟩; have H2 := H1.below k2 H1.lt; have b2 := k1.trans (k2.mono k1.size); clear H1 k2; have c0 := H2.cell 0 (v := .int .u64 s) rfl; have c1 := H2.cell 1 (v := .int .u64 d) rfl; have c2 := H2.cell 2 (v := .int .i64 1) rfl) | (go_at_call 49; refine (hM _).mono ?_; rintro e w' ⟨rfl, hw⟩; obtain rfl := hw.symm) | (refine at_mid (by kernel_rfl) 32 _ rfl w.heap.size 8 rfl H2 [.int .u32 hs, .int .u32 hd, .int .i64 tt, .int .i64 pr, .int .i64 sp, .int .i64 dp] rfl _ Try.underlying32 rfl szH ?_) | (refine at_cmp (by kernel_rfl) .neq 32 _ _ rfl (.agg #[.int .u32 hs, .int .u32 hd, .int .i64 tt, .int .i64 pr, .int .i64 sp, .int .i64 dp]) (.agg F0.ip.toArray) rfl rfl true (by kernel_rfl) (EH _) ?_))
  go_ret
  exact ⟨rfl, b2⟩
set_option maxHeartbeats 1000000 in
theorem chk_ok1 (s d op sm si tm ti hs hd tt pr sp dp x : Int) (h0 : s ≤ 281474976710655) (h1 : d ≤ 281474976710655) (h2 : mc s = false) (h4 : FL.eqh ⟨s, d, 1, op, sm, si, tm, ti, hs, hd, tt, pr, sp, dp, x⟩ F0 = true) (w : World) : Calls Try.prog 19 #[.agg #[.int .u64 s, .int .u64 d, .int .i64 1, .int .i64 op, .int .u64 sm, .int .u32 si, .int .u64 tm, .int .u32 ti, .int .u32 hs, .int .u32 hd, .int .i64 tt, .int .i64 pr, .int .i64 sp, .int .i64 dp, .int .u64 x]] w fun e w' => e = .returned (.int .i64 (FL.achk ⟨s, d, 1, op, sm, si, tm, ti, hs, hd, tt, pr, sp, dp, x⟩)) ∧ Below w.heap.size w w' := by
  have hH := fun w => headerOf_is ⟨s, d, 1, op, sm, si, tm, ti, hs, hd, tt, pr, sp, dp, x⟩ w
  unfold FL.v FL.cs FL.hv FL.kn FL.ar FL.ip at hH
  dsimp only at hH
  have q0 : decide ((281474976710655 : Int) < s) = false := by simpa using h0
  have q1 : decide ((281474976710655 : Int) < d) = false := by simpa using h1
  have hM := fun w => mc_is s w
  rw [h2] at hM
  rw [show (if (1:Int) = 0 then Value.iface 106 (.agg #[]) else if (1:Int) = 1 then Value.iface 108 (.agg #[.int .i64 op, .int .u64 sm, .int .u32 si, .int .u64 tm, .int .u32 ti]) else if (1:Int) = 2 then Value.iface 110 (.agg #[.int .u32 hs, .int .u32 hd, .int .i64 tt, .int .i64 pr, .int .i64 sp, .int .i64 dp]) else Value.nilIface) = Value.iface 108 (.agg #[.int .i64 op, .int .u64 sm, .int .u32 si, .int .u64 tm, .int .u32 ti]) from rfl, show (((1 : Int) == 0) || (((1 : Int) == 1) || ((1 : Int) == 2))) = true from rfl] at hH
  have EH := fun w => neqH ⟨s, d, 1, op, sm, si, tm, ti, hs, hd, tt, pr, sp, dp, x⟩ F0 w
  rw [h4] at EH
  have hC := fun w => achk_is ⟨s, d, 1, op, sm, si, tm, ti, hs, hd, tt, pr, sp, dp, x⟩ w
  generalize FL.achk ⟨s, d, 1, op, sm, si, tm, ti, hs, hd, tt, pr, sp, dp, x⟩ = R at hC ⊢
  unfold FL.ar at hC
  dsimp only at hC
  have hme : ∀ j w, Sem.run Try.prog (method (j + 1) 108 (.agg #[.int .i64 op, .int .u64 sm, .int .u32 si, .int .u64 tm, .int .u32 ti]) "leafmesh/packet.check") w = .ok (119, (.agg #[.int .i64 op, .int .u64 sm, .int .u32 si, .int .u64 tm, .int .u32 ti])) w := fun j w => by kernel_rfl
  have hcf : ∀ w, Sem.run Try.prog (callFunc 119 #[(.agg #[.int .i64 op, .int .u64 sm, .int .u32 si, .int .u64 tm, .int .u32 ti])]) w = .ok (.enter 119 #[(.agg #[.int .i64 op, .int .u64 sm, .int .u32 si, .int .u64 tm, .int .u32 ti])]) w := fun w => by kernel_rfl
  go_enter Try.func19, Try.ntmps19
  go_wp2_with (first | (refine at_box rfl _ _ rfl [.int .u64 s, .int .u64 d, .int .i64 1, .int .i64 op, .int .u64 sm, .int .u32 si, .int .u64 tm, .int .u32 ti, .int .u32 hs, .int .u32 hd, .int .i64 tt, .int .i64 pr, .int .i64 sp, .int .i64 dp, .int .u64 x] rfl ?_; rintro w1 H1 k1 s1) | (refine at_mid rfl 36 _ rfl w.heap.size 0 rfl H1 [.int .u64 s, .int .u64 d, .int .i64 1, .int .i64 op, .int .u64 sm, .int .u32 si, .int .u64 tm, .int .u32 ti, .int .u32 hs, .int .u32 hd, .int .i64 tt, .int .i64 pr, .int .i64 sp, .int .i64 dp, .int .u64 x] rfl _ Try.underlying36 rfl szF ?_) | (go_at_call 40; refine (hH w1).mono ?_; rintro e w2 ⟨rfl, k2⟩; have H2 := H1.below k2 H1.lt; have b2 := k1.trans (k2.mono k1.size); clear H1 k2; have c0 := H2.cell 0 (v := .int .u64 s) rfl; have c1 := H2.cell 1 (v := .int .u64 d) rfl; have c2 := H2.cell 2 (v := .int .i64 1) rfl) | (go_at_call 49; refine (hM _).mono ?_; rintro e w' ⟨rfl, hw⟩; obtain rfl := hw.symm) | (refine at_mid (by kernel_rfl) 32 _ rfl w.heap.size 8 rfl H2 [.int .u32 hs, .int .u32 hd, .int .i64 tt, .int .i64 pr, .int .i64 sp, .int .i64 dp] rfl _ Try.underlying32 rfl szH ?_) | (refine at_cmp (by kernel_rfl) .neq 32 _ _ rfl (.agg #[.int .u32 hs, .int .u32 hd, .int .i64 tt, .int .i64 pr, .int .i64 sp, .int .i64 dp]) (.agg F0.ip.toArray) rfl rfl false (by kernel_rfl) (EH _) ?_))
  go_at_call 119
  refine (hC w2).mono ?_
  rintro e w3 ⟨rfl, k3⟩
  go_wp2
  go_ret
  exact ⟨rfl, b2.trans (k3.mono b2.size)⟩
set_option maxHeartbeats 1000000 in
theorem chk_a2 (s d op sm si tm ti hs hd tt pr sp dp x : Int) (h0 : s ≤ 281474976710655) (h1 : d ≤ 281474976710655) (h2 : mc s = false) (h3 : FL.eqa ⟨s, d, 2, op, sm, si, tm, ti, hs, hd, tt, pr, sp, dp, x⟩ F0 = false) (w : World) : Calls Try.prog 19 #[.agg #[.int .u64 s, .int .u64 d, .int .i64 2, .int .i64 op, .int .u64 sm, .int .u32 si, .int .u64 tm, .int .u32 ti, .int .u32 hs, .int .u32 hd, .int .i64 tt, .int .i64 pr, .int .i64 sp, .int .i64 dp, .int .u64 x]] w fun e w' => e = .returned (.int .i64 3) ∧ Below w.heap.size w w' := by
  have hH := fun w => headerOf_is ⟨s, d, 2, op, sm, si, tm, ti, hs, hd, tt, pr, sp, dp, x⟩ w
  unfold FL.v FL.cs FL.hv FL.kn FL.ar FL.ip at hH
  dsimp only at hH
  have q0 : decide ((281474976710655 : Int) < s) = false := by simpa using h0
  have q1 : decide ((281474976710655 : Int) < d) = false := by simpa using h1
  have hM := fun w => mc_is s w
  rw [h2] at hM
  rw [show (if (2:Int) = 0 then Value.iface 106 (.agg #[]) else if (2:Int) = 1 then Value.iface 108 (.agg #[.int .i64 op, .int .u64 sm, .int .u32 si, .int .u64 tm, .int .u32 ti]) else if (2:Int) = 2 then Value.iface 110 (.agg #[.int .u32 hs, .int .u32 hd, .int .i64 tt, .int .i64 pr, .int .i64 sp, .int .i64 dp]) else Value.nilIface) = Value.iface 110 (.agg #[.int .u32 hs, .int .u32 hd, .int .i64 tt, .int .i64 pr, .int .i64 sp, .int .i64 dp]) from rfl, show (((2 : Int) == 0) || (((2 : Int) == 1) || ((2 : Int) == 2))) = true from rfl] at hH
  have EA := fun w => neqA ⟨s, d, 2, op, sm, si, tm, ti, hs, hd, tt, pr, sp, dp, x⟩ F0 w
  rw [h3] at EA
  go_enter Try.func19, Try.ntmps19
  go_wp2_with (first | (refine at_box rfl _ _ rfl [.int .u64 s, .int .u64 d, .int .i64 2, .int .i64 op, .int .u64 sm, .int .u32 si, .int .u64 tm, .int .u32 ti, .int .u32 hs, .int .u32 hd, .int .i64 tt, .int .i64 pr, .int .i64 sp, .int .i64 dp, .int .u64 x] rfl ?_; rintro w1 H1 k1 s1) | (refine at_mid rfl 36 _ rfl w.heap.size 0 rfl H1 [.int .u64 s, .int .u64 d, .int .i64 2, .int .i64 op, .int .u64 sm, .int .u32 si, .int .u64 tm, .int .u32 ti, .int .u32 hs, .int .u32 hd, .int .i64 tt, .int .i64 pr, .int .i64 sp, .int .i64 dp, .int .u64 x] rfl _ Try.underlying36 rfl szF ?_) | (go_at_call 40; refine (hH w1).mono ?_; rintro e w2 ⟨rfl, k2⟩; have H2 := H1.below k2 H1.lt; have b2 := k1.trans (k2.mono k1.size); clear H1 k2; have c0 := H2.cell 0 (v := .int .u64 s) rfl; have c1 := H2.cell 1 (v := .int .u64 d) rfl; have c2 := H2.cell 2 (v := .int .i64 2) rfl) | (go_at_call 49; refine (hM _).mono ?_; rintro e w' ⟨rfl, hw⟩; obtain rfl := hw.symm) | (refine at_mid (by kernel_rfl) 34 _ rfl w.heap.size 3 rfl H2 [.int .i64 op, .int .u64 sm, .int .u32 si, .int .u64 tm, .int .u32 ti] rfl _ Try.underlying34 rfl szA ?_) | (refine at_cmp (by kernel_rfl) .neq 34 _ _ rfl (.agg #[.int .i64 op, .int .u64 sm, .int .u32 si, .int .u64 tm, .int .u32 ti]) (.agg F0.ar.toArray) rfl rfl true (by kernel_rfl) (EA _) ?_))
  go_ret
  exact ⟨rfl, b2⟩
set_option maxHeartbeats 1000000 in
theorem chk_ok2 (s d op sm si tm ti hs hd tt pr sp dp x : Int) (h0 : s ≤ 281474976710655) (h1 : d ≤ 281474976710655) (h2 : mc s = false) (h3 : FL.eqa ⟨s, d, 2, op, sm, si, tm, ti, hs, hd, tt, pr, sp, dp, x⟩ F0 = true) (w : World) : Calls Try.prog 19 #[.agg #[.int .u64 s, .int .u64 d, .int .i64 2, .int .i64 op, .int .u64 sm, .int .u32 si, .int .u64 tm, .int .u32 ti, .int .u32 hs, .int .u32 hd, .int .i64 tt, .int .i64 pr, .int .i64 sp, .int .i64 dp, .int .u64 x]] w fun e w' => e = .returned (.int .i64 (FL.hchk ⟨s, d, 2, op, sm, si, tm, ti, hs, hd, tt, pr, sp, dp, x⟩)) ∧ Below w.heap.size w w' := by
  have hH := fun w => headerOf_is ⟨s, d, 2, op, sm, si, tm, ti, hs, hd, tt, pr, sp, dp, x⟩ w
  unfold FL.v FL.cs FL.hv FL.kn FL.ar FL.ip at hH
  dsimp only at hH
  have q0 : decide ((281474976710655 : Int) < s) = false := by simpa using h0
  have q1 : decide ((281474976710655 : Int) < d) = false := by simpa using h1
  have hM := fun w => mc_is s w
  rw [h2] at hM
  rw [show (if (2:Int) = 0 then Value.iface 106 (.agg #[]) else if (2:Int) = 1 then Value.iface 108 (.agg #[.int .i64 op, .int .u64 sm, .int .u32 si, .int .u64 tm, .int .u32 ti]) else if (2:Int) = 2 then Value.iface 110 (.agg #[.int .u32 hs, .int .u32 hd, .int .i64 tt, .int .i64 pr, .int .i64 sp, .int .i64 dp]) else Value.nilIface) = Value.iface 110 (.agg #[.int .u32 hs, .int .u32 hd, .int .i64 tt, .int .i64 pr, .int .i64 sp, .int .i64 dp]) from rfl, show (((2 : Int) == 0) || (((2 : Int) == 1) || ((2 : Int) == 2))) = true from rfl] at hH
  have EA := fun w => neqA ⟨s, d, 2, op, sm, si, tm, ti, hs, hd, tt, pr, sp, dp, x⟩ F0 w
  rw [h3] at EA
  have hC := fun w => hchk_is ⟨s, d, 2, op, sm, si, tm, ti, hs, hd, tt, pr, sp, dp, x⟩ w
  generalize FL.hchk ⟨s, d, 2, op, sm, si, tm, ti, hs, hd, tt, pr, sp, dp, x⟩ = R at hC ⊢
  unfold FL.ip at hC
  dsimp only at hC
  have hme : ∀ j w, Sem.run Try.prog (method (j + 1) 110 (.agg #[.int .u32 hs, .int .u32 hd, .int .i64 tt, .int .i64 pr, .int .i64 sp, .int .i64 dp]) "leafmesh/packet.check") w = .ok (121, (.agg #[.int .u32 hs, .int .u32 hd, .int .i64 tt, .int .i64 pr, .int .i64 sp, .int .i64 dp])) w := fun j w => by kernel_rfl
  have hcf : ∀ w, Sem.run Try.prog (callFunc 121 #[(.agg #[.int .u32 hs, .int .u32 hd, .int .i64 tt, .int .i64 pr, .int .i64 sp, .int .i64 dp])]) w = .ok (.enter 121 #[(.agg #[.int .u32 hs, .int .u32 hd, .int .i64 tt, .int .i64 pr, .int .i64 sp, .int .i64 dp])]) w := fun w => by kernel_rfl
  go_enter Try.func19, Try.ntmps19
  go_wp2_with (first | (refine at_box rfl _ _ rfl [.int .u64 s, .int .u64 d, .int .i64 2, .int .i64 op, .int .u64 sm, .int .u32 si, .int .u64 tm, .int .u32 ti, .int .u32 hs, .int .u32 hd, .int .i64 tt, .int .i64 pr, .int .i64 sp, .int .i64 dp, .int .u64 x] rfl ?_; rintro w1 H1 k1 s1) | (refine at_mid rfl 36 _ rfl w.heap.size 0 rfl H1 [.int .u64 s, .int .u64 d, .int .i64 2, .int .i64 op, .int .u64 sm, .int .u32 si, .int .u64 tm, .int .u32 ti, .int .u32 hs, .int .u32 hd, .int .i64 tt, .int .i64 pr, .int .i64 sp, .int .i64 dp, .int .u64 x] rfl _ Try.underlying36 rfl szF ?_) | (go_at_call 40; refine (hH w1).mono ?_; rintro e w2 ⟨rfl, k2⟩; have H2 := H1.below k2 H1.lt; have b2 := k1.trans (k2.mono k1.size); clear H1 k2; have c0 := H2.cell 0 (v := .int .u64 s) rfl; have c1 := H2.cell 1 (v := .int .u64 d) rfl; have c2 := H2.cell 2 (v := .int .i64 2) rfl) | (go_at_call 49; refine (hM _).mono ?_; rintro e w' ⟨rfl, hw⟩; obtain rfl := hw.symm) | (refine at_mid (by kernel_rfl) 34 _ rfl w.heap.size 3 rfl H2 [.int .i64 op, .int .u64 sm, .int .u32 si, .int .u64 tm, .int .u32 ti] rfl _ Try.underlying34 rfl szA ?_) | (refine at_cmp (by kernel_rfl) .neq 34 _ _ rfl (.agg #[.int .i64 op, .int .u64 sm, .int .u32 si, .int .u64 tm, .int .u32 ti]) (.agg F0.ar.toArray) rfl rfl false (by kernel_rfl) (EA _) ?_))
  go_at_call 121
  refine (hC w2).mono ?_
  rintro e w3 ⟨rfl, k3⟩
  go_wp2
  go_ret
  exact ⟨rfl, b2.trans (k3.mono b2.size)⟩
theorem check_is (f : FL) (w : World) : Calls Try.prog 19 #[f.v] w fun e w' => e = .returned (.int .i64 f.chk) ∧ Below w.heap.size w w' := by
  obtain ⟨s, d, k, op, sm, si, tm, ti, hs, hd, tt, pr, sp, dp, x⟩ := f
  unfold FL.v FL.cs FL.chk
  simp only [FL.kn]
  by_cases h0 : 281474976710655 < s
  · rw [if_pos (.inl h0)]; exact chk_s s d k op sm si tm ti hs hd tt pr sp dp x h0 w
  by_cases h1 : 281474976710655 < d
  · rw [if_pos (.inr h1)]; exact chk_d s d k op sm si tm ti hs hd tt pr sp dp x (by omega) h1 w
  rw [if_neg (by omega)]
  cases h2 : mc s
  · rw [if_neg (by simp)]
    by_cases k0 : k = 0
    · subst k0
      rw [if_neg (by decide)]
      cases h3 : FL.eqa ⟨s, d, 0, op, sm, si, tm, ti, hs, hd, tt, pr, sp, dp, x⟩ F0
      · rw [if_pos (by simp)]; exact chk_a0 s d op sm si tm ti hs hd tt pr sp dp x (by omega) (by omega) h2 h3 w
      cases h4 : FL.eqh ⟨s, d, 0, op, sm, si, tm, ti, hs, hd, tt, pr, sp, dp, x⟩ F0
      · rw [if_pos (by simp)]; exact chk_h0 s d op sm si tm ti hs hd tt pr sp dp x (by omega) (by omega) h2 h3 h4 w
      rw [if_neg (by simp), if_neg (by decide), if_neg (by decide)]
      exact chk_ok0 s d op sm si tm ti hs hd tt pr sp dp x (by omega) (by omega) h2 h3 h4 w
    by_cases k1 : k = 1
    · subst k1
      rw [if_neg (by decide)]
      cases h4 : FL.eqh ⟨s, d, 1, op, sm, si, tm, ti, hs, hd, tt, pr, sp, dp, x⟩ F0
      · rw [if_pos (by simp)]; exact chk_h1 s d op sm si tm ti hs hd tt pr sp dp x (by omega) (by omega) h2 h4 w
      rw [if_neg (by simp), if_pos rfl]
      exact chk_ok1 s d op sm si tm ti hs hd tt pr sp dp x (by omega) (by omega) h2 h4 w
    by_cases k2 : k = 2
    · subst k2
      rw [if_neg (by decide)]
      cases h3 : FL.eqa ⟨s, d, 2, op, sm, si, tm, ti, hs, hd, tt, pr, sp, dp, x⟩ F0
      · rw [if_pos (by simp)]; exact chk_a2 s d op sm si tm ti hs hd tt pr sp dp x (by omega) (by omega) h2 h3 w
      rw [if_neg (by simp), if_neg (by decide), if_pos rfl]
      exact chk_ok2 s d op sm si tm ti hs hd tt pr sp dp x (by omega) (by omega) h2 h3 w
    rw [if_pos (by simp [k0, k1, k2])]
    exact chk_k s d k op sm si tm ti hs hd tt pr sp dp x (by omega) (by omega) h2 k0 k1 k2 w
  · rw [if_pos rfl]; exact chk_m s d k op sm si tm ti hs hd tt pr sp dp x (by omega) (by omega) h2 w
end Go.Proofs.Ytgpjelcihmbiiaa
