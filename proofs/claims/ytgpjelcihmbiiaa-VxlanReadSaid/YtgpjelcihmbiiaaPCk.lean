/- Why a frame is not valid: Ported, the checks of the headers, Check. No condition. -/
import Derived.Test.YtgpjelcihmbiiaaPKt
namespace Go.Proofs.Ytgpjelcihmbiiaa
open Go.RowKit
set_option linter.unusedVariables false
set_option linter.unusedSimpArgs false
set_option maxRecDepth 100000

/-- Whether a protocol has ports. -/
def pt (p : Int) : Bool := (p == 6) || (p == 17)
theorem ported_is (p : Int) (w : World) : Calls Try.prog 21 #[.int .i64 p] w fun e w' => e = .returned (.bool (pt p)) ∧ w' = w := by
  by_cases h : p = 6
  · subst h
    go_enter Try.func21, Try.ntmps21
    go_wp2
    go_ret
    exact ⟨rfl, rfl⟩
  · have b6 : (p == 6) = false := by simpa using h
    by_cases h2 : p = 17
    · subst h2
      go_enter Try.func21, Try.ntmps21
      go_wp2
      go_ret
      exact ⟨rfl, rfl⟩
    · have b17 : (p == 17) = false := by simpa using h2
      have e : pt p = false := by simp [pt, b6, b17]
      rw [e]
      go_enter Try.func21, Try.ntmps21
      go_wp2
      go_ret
      exact ⟨rfl, rfl⟩
def up (m n : Int) : Bool := decide (0 ≤ n) && decide (n ≤ m)
theorem upTo_is (m n : Int) (w : World) : Calls Try.prog 124 #[.int .i64 m, .int .i64 n] w fun e w' => e = .returned (.bool (up m n)) ∧ w' = w := by
  by_cases h : 0 ≤ n
  · have b0 : decide (0 ≤ n) = true := by simpa using h
    have e : up m n = decide (n ≤ m) := by simp [up, h]
    rw [e]
    go_enter Try.func124, Try.ntmps124
    go_wp2
    go_ret
    exact ⟨rfl, rfl⟩
  · have b0 : decide (0 ≤ n) = false := by simpa using h
    have e : up m n = false := by simp [up, h]
    rw [e]
    go_enter Try.func124, Try.ntmps124
    go_wp2
    go_ret
    exact ⟨rfl, rfl⟩
def MX : Int := 281474976710655
theorem vmac_is (m : Int) (w : World) : Calls Try.prog 70 #[.int .u64 m] w fun e w' => e = .returned (.bool (decide (m ≤ 281474976710655))) ∧ w' = w := by
  go_enter Try.func70, Try.ntmps70
  go_wp2
  go_ret
  exact ⟨rfl, rfl⟩
/-- Whether a hardware address is a group's. -/
def mc (m : Int) : Bool := decide (m ≤ 281474976710655) && (bits .and .u64 m 1099511627776 != 0)
theorem mc_is (m : Int) (w : World) : Calls Try.prog 49 #[.int .u64 m] w fun e w' => e = .returned (.bool (mc m)) ∧ w' = w := by
  have hv := fun w => vmac_is m w
  by_cases h : m ≤ 281474976710655
  · have b : decide (m ≤ 281474976710655) = true := by simpa using h
    have e : mc m = (bits .and .u64 m 1099511627776 != 0) := by simp [mc, h]
    rw [e]
    rw [b] at hv
    go_enter Try.func49, Try.ntmps49
    go_wp2_with (go_at_call 70; refine (hv _).mono ?_; rintro e w' ⟨rfl, hw⟩; obtain rfl := hw.symm)
    go_ret
    exact ⟨rfl, rfl⟩
  · have b : decide (m ≤ 281474976710655) = false := by simpa using h
    have e : mc m = false := by simp [mc, h]
    rw [e]
    rw [b] at hv
    go_enter Try.func49, Try.ntmps49
    go_wp2_with (go_at_call 70; refine (hv _).mono ?_; rintro e w' ⟨rfl, hw⟩; obtain rfl := hw.symm)
    go_ret
    exact ⟨rfl, rfl⟩
theorem dchk_is (w : World) : Calls Try.prog 117 #[.agg #[]] w fun e w' => e = .returned (.int .i64 0) ∧ Below w.heap.size w w' := by
  go_enter Try.func117, Try.ntmps117
  go_wp2_with (refine at_box rfl _ _ rfl [] rfl ?_; rintro w1 H1 k1 s1)
  go_ret
  exact ⟨rfl, k1⟩
def FL.achk (f : FL) : Int := if ¬ (f.op = 1 ∨ f.op = 2) ∨ 281474976710655 < f.sm ∨ 281474976710655 < f.tm then 2 else 0
theorem achk_op (op sm si tm ti : Int) (h1 : (op == 1) = false) (h2 : (op == 2) = false) (w : World) : Calls Try.prog 119 #[.agg #[.int .i64 op, .int .u64 sm, .int .u32 si, .int .u64 tm, .int .u32 ti]] w fun e w' => e = .returned (.int .i64 2) ∧ Below w.heap.size w w' := by
  go_enter Try.func119, Try.ntmps119
  go_wp2_with (refine at_box rfl _ _ rfl [.int .i64 op, .int .u64 sm, .int .u32 si, .int .u64 tm, .int .u32 ti] rfl ?_; rintro w1 H1 k1 s1; have c0 := H1.cell 0 (v := .int .i64 op) rfl; have c1 := H1.cell 1 (v := .int .u64 sm) rfl; have c3 := H1.cell 3 (v := .int .u64 tm) rfl; clear H1)
  go_ret
  exact ⟨rfl, k1⟩
theorem achk_sm1 (op sm si tm ti : Int) (h : 281474976710655 < sm) (w : World) : Calls Try.prog 119 #[.agg #[.int .i64 1, .int .u64 sm, .int .u32 si, .int .u64 tm, .int .u32 ti]] w fun e w' => e = .returned (.int .i64 2) ∧ Below w.heap.size w w' := by
  have q0 : decide ((281474976710655 : Int) < sm) = true := by simpa using h
  go_enter Try.func119, Try.ntmps119
  go_wp2_with (refine at_box rfl _ _ rfl [.int .i64 1, .int .u64 sm, .int .u32 si, .int .u64 tm, .int .u32 ti] rfl ?_; rintro w1 H1 k1 s1; have c0 := H1.cell 0 (v := .int .i64 1) rfl; have c1 := H1.cell 1 (v := .int .u64 sm) rfl; have c3 := H1.cell 3 (v := .int .u64 tm) rfl; clear H1)
  go_ret
  exact ⟨rfl, k1⟩
theorem achk_tm1 (op sm si tm ti : Int) (h : sm ≤ 281474976710655) (h2 : 281474976710655 < tm) (w : World) : Calls Try.prog 119 #[.agg #[.int .i64 1, .int .u64 sm, .int .u32 si, .int .u64 tm, .int .u32 ti]] w fun e w' => e = .returned (.int .i64 2) ∧ Below w.heap.size w w' := by
  have q0 : decide ((281474976710655 : Int) < sm) = false := by simpa using h
  have q1 : decide ((281474976710655 : Int) < tm) = true := by simpa using h2
  go_enter Try.func119, Try.ntmps119
  go_wp2_with (refine at_box rfl _ _ rfl [.int .i64 1, .int .u64 sm, .int .u32 si, .int .u64 tm, .int .u32 ti] rfl ?_; rintro w1 H1 k1 s1; have c0 := H1.cell 0 (v := .int .i64 1) rfl; have c1 := H1.cell 1 (v := .int .u64 sm) rfl; have c3 := H1.cell 3 (v := .int .u64 tm) rfl; clear H1)
  go_ret
  exact ⟨rfl, k1⟩
theorem achk_ok1 (op sm si tm ti : Int) (h : sm ≤ 281474976710655) (h2 : tm ≤ 281474976710655) (w : World) : Calls Try.prog 119 #[.agg #[.int .i64 1, .int .u64 sm, .int .u32 si, .int .u64 tm, .int .u32 ti]] w fun e w' => e = .returned (.int .i64 0) ∧ Below w.heap.size w w' := by
  have q0 : decide ((281474976710655 : Int) < sm) = false := by simpa using h
  have q1 : decide ((281474976710655 : Int) < tm) = false := by simpa using h2
  go_enter Try.func119, Try.ntmps119
  go_wp2_with (refine at_box rfl _ _ rfl [.int .i64 1, .int .u64 sm, .int .u32 si, .int .u64 tm, .int .u32 ti] rfl ?_; rintro w1 H1 k1 s1; have c0 := H1.cell 0 (v := .int .i64 1) rfl; have c1 := H1.cell 1 (v := .int .u64 sm) rfl; have c3 := H1.cell 3 (v := .int .u64 tm) rfl; clear H1)
  go_ret
  exact ⟨rfl, k1⟩
theorem achk_sm2 (op sm si tm ti : Int) (h : 281474976710655 < sm) (w : World) : Calls Try.prog 119 #[.agg #[.int .i64 2, .int .u64 sm, .int .u32 si, .int .u64 tm, .int .u32 ti]] w fun e w' => e = .returned (.int .i64 2) ∧ Below w.heap.size w w' := by
  have q0 : decide ((281474976710655 : Int) < sm) = true := by simpa using h
  go_enter Try.func119, Try.ntmps119
  go_wp2_with (refine at_box rfl _ _ rfl [.int .i64 2, .int .u64 sm, .int .u32 si, .int .u64 tm, .int .u32 ti] rfl ?_; rintro w1 H1 k1 s1; have c0 := H1.cell 0 (v := .int .i64 2) rfl; have c1 := H1.cell 1 (v := .int .u64 sm) rfl; have c3 := H1.cell 3 (v := .int .u64 tm) rfl; clear H1)
  go_ret
  exact ⟨rfl, k1⟩
theorem achk_tm2 (op sm si tm ti : Int) (h : sm ≤ 281474976710655) (h2 : 281474976710655 < tm) (w : World) : Calls Try.prog 119 #[.agg #[.int .i64 2, .int .u64 sm, .int .u32 si, .int .u64 tm, .int .u32 ti]] w fun e w' => e = .returned (.int .i64 2) ∧ Below w.heap.size w w' := by
  have q0 : decide ((281474976710655 : Int) < sm) = false := by simpa using h
  have q1 : decide ((281474976710655 : Int) < tm) = true := by simpa using h2
  go_enter Try.func119, Try.ntmps119
  go_wp2_with (refine at_box rfl _ _ rfl [.int .i64 2, .int .u64 sm, .int .u32 si, .int .u64 tm, .int .u32 ti] rfl ?_; rintro w1 H1 k1 s1; have c0 := H1.cell 0 (v := .int .i64 2) rfl; have c1 := H1.cell 1 (v := .int .u64 sm) rfl; have c3 := H1.cell 3 (v := .int .u64 tm) rfl; clear H1)
  go_ret
  exact ⟨rfl, k1⟩
theorem achk_ok2 (op sm si tm ti : Int) (h : sm ≤ 281474976710655) (h2 : tm ≤ 281474976710655) (w : World) : Calls Try.prog 119 #[.agg #[.int .i64 2, .int .u64 sm, .int .u32 si, .int .u64 tm, .int .u32 ti]] w fun e w' => e = .returned (.int .i64 0) ∧ Below w.heap.size w w' := by
  have q0 : decide ((281474976710655 : Int) < sm) = false := by simpa using h
  have q1 : decide ((281474976710655 : Int) < tm) = false := by simpa using h2
  go_enter Try.func119, Try.ntmps119
  go_wp2_with (refine at_box rfl _ _ rfl [.int .i64 2, .int .u64 sm, .int .u32 si, .int .u64 tm, .int .u32 ti] rfl ?_; rintro w1 H1 k1 s1; have c0 := H1.cell 0 (v := .int .i64 2) rfl; have c1 := H1.cell 1 (v := .int .u64 sm) rfl; have c3 := H1.cell 3 (v := .int .u64 tm) rfl; clear H1)
  go_ret
  exact ⟨rfl, k1⟩
theorem achk_is (f : FL) (w : World) : Calls Try.prog 119 #[.agg f.ar.toArray] w fun e w' => e = .returned (.int .i64 f.achk) ∧ Below w.heap.size w w' := by
  obtain ⟨s, d, k, op, sm, si, tm, ti, hs, hd, tt, pr, sp, dp, x⟩ := f
  unfold FL.ar FL.achk
  dsimp only
  by_cases h1 : op = 1
  · subst h1
    by_cases h2 : 281474976710655 < sm
    · rw [if_pos (by simp [h2])]; exact achk_sm1 1 sm si tm ti h2 w
    · by_cases h3 : 281474976710655 < tm
      · rw [if_pos (by simp [h3])]; exact achk_tm1 1 sm si tm ti (by omega) h3 w
      · rw [if_neg (by simp [h2, h3])]; exact achk_ok1 1 sm si tm ti (by omega) (by omega) w
  · by_cases h1' : op = 2
    · subst h1'
      by_cases h2 : 281474976710655 < sm
      · rw [if_pos (by simp [h2])]; exact achk_sm2 2 sm si tm ti h2 w
      · by_cases h3 : 281474976710655 < tm
        · rw [if_pos (by simp [h3])]; exact achk_tm2 2 sm si tm ti (by omega) h3 w
        · rw [if_neg (by simp [h2, h3])]; exact achk_ok2 2 sm si tm ti (by omega) (by omega) w
    · rw [if_pos (by simp [h1, h1'])]; exact achk_op op sm si tm ti (by simpa using h1) (by simpa using h1') w
def FL.hchk (f : FL) : Int := if up 255 f.tt = false ∨ up 255 f.pr = false ∨ up 65535 f.sp = false ∨ up 65535 f.dp = false then 2 else if pt f.pr = false ∧ (f.sp ≠ 0 ∨ f.dp ≠ 0) then 3 else 0
set_option maxHeartbeats 1000000 in
theorem hchk_0 (hs hd tt pr sp dp : Int) (u0 : up 255 tt = false) (w : World) : Calls Try.prog 121 #[.agg #[.int .u32 hs, .int .u32 hd, .int .i64 tt, .int .i64 pr, .int .i64 sp, .int .i64 dp]] w fun e w' => e = .returned (.int .i64 2) ∧ Below w.heap.size w w' := by
  have U0 := fun w => upTo_is 255 tt w
  rw [u0] at U0
  go_enter Try.func121, Try.ntmps121
  go_wp2_with (first | (refine at_box rfl _ _ rfl [.int .u32 hs, .int .u32 hd, .int .i64 tt, .int .i64 pr, .int .i64 sp, .int .i64 dp] rfl ?_; rintro w1 H1 k1 s1; have c2 := H1.cell 2 (v := .int .i64 tt) rfl; have c3 := H1.cell 3 (v := .int .i64 pr) rfl; have c4 := H1.cell 4 (v := .int .i64 sp) rfl; have c5 := H1.cell 5 (v := .int .i64 dp) rfl; clear H1) | (go_at_call 124; with_reducible refine (U0 _).mono ?_; rintro e w' ⟨rfl, hw⟩; obtain rfl := hw.symm))
  go_ret
  exact ⟨rfl, k1⟩
set_option maxHeartbeats 1000000 in
theorem hchk_1 (hs hd tt pr sp dp : Int) (u0 : up 255 tt = true) (u1 : up 255 pr = false) (w : World) : Calls Try.prog 121 #[.agg #[.int .u32 hs, .int .u32 hd, .int .i64 tt, .int .i64 pr, .int .i64 sp, .int .i64 dp]] w fun e w' => e = .returned (.int .i64 2) ∧ Below w.heap.size w w' := by
  have U0 := fun w => upTo_is 255 tt w
  rw [u0] at U0
  have U1 := fun w => upTo_is 255 pr w
  rw [u1] at U1
  go_enter Try.func121, Try.ntmps121
  go_wp2_with (first | (refine at_box rfl _ _ rfl [.int .u32 hs, .int .u32 hd, .int .i64 tt, .int .i64 pr, .int .i64 sp, .int .i64 dp] rfl ?_; rintro w1 H1 k1 s1; have c2 := H1.cell 2 (v := .int .i64 tt) rfl; have c3 := H1.cell 3 (v := .int .i64 pr) rfl; have c4 := H1.cell 4 (v := .int .i64 sp) rfl; have c5 := H1.cell 5 (v := .int .i64 dp) rfl; clear H1) | (go_at_call 124; with_reducible refine (U0 _).mono ?_; rintro e w' ⟨rfl, hw⟩; obtain rfl := hw.symm) | (go_at_call 124; with_reducible refine (U1 _).mono ?_; rintro e w' ⟨rfl, hw⟩; obtain rfl := hw.symm))
  go_ret
  exact ⟨rfl, k1⟩
set_option maxHeartbeats 1000000 in
theorem hchk_2 (hs hd tt pr sp dp : Int) (u0 : up 255 tt = true) (u1 : up 255 pr = true) (u2 : up 65535 sp = false) (w : World) : Calls Try.prog 121 #[.agg #[.int .u32 hs, .int .u32 hd, .int .i64 tt, .int .i64 pr, .int .i64 sp, .int .i64 dp]] w fun e w' => e = .returned (.int .i64 2) ∧ Below w.heap.size w w' := by
  have U0 := fun w => upTo_is 255 tt w
  rw [u0] at U0
  have U1 := fun w => upTo_is 255 pr w
  rw [u1] at U1
  have U2 := fun w => upTo_is 65535 sp w
  rw [u2] at U2
  go_enter Try.func121, Try.ntmps121
  go_wp2_with (first | (refine at_box rfl _ _ rfl [.int .u32 hs, .int .u32 hd, .int .i64 tt, .int .i64 pr, .int .i64 sp, .int .i64 dp] rfl ?_; rintro w1 H1 k1 s1; have c2 := H1.cell 2 (v := .int .i64 tt) rfl; have c3 := H1.cell 3 (v := .int .i64 pr) rfl; have c4 := H1.cell 4 (v := .int .i64 sp) rfl; have c5 := H1.cell 5 (v := .int .i64 dp) rfl; clear H1) | (go_at_call 124; with_reducible refine (U0 _).mono ?_; rintro e w' ⟨rfl, hw⟩; obtain rfl := hw.symm) | (go_at_call 124; with_reducible refine (U1 _).mono ?_; rintro e w' ⟨rfl, hw⟩; obtain rfl := hw.symm) | (go_at_call 124; with_reducible refine (U2 _).mono ?_; rintro e w' ⟨rfl, hw⟩; obtain rfl := hw.symm))
  go_ret
  exact ⟨rfl, k1⟩
set_option maxHeartbeats 1000000 in
theorem hchk_3 (hs hd tt pr sp dp : Int) (u0 : up 255 tt = true) (u1 : up 255 pr = true) (u2 : up 65535 sp = true) (u3 : up 65535 dp = false) (w : World) : Calls Try.prog 121 #[.agg #[.int .u32 hs, .int .u32 hd, .int .i64 tt, .int .i64 pr, .int .i64 sp, .int .i64 dp]] w fun e w' => e = .returned (.int .i64 2) ∧ Below w.heap.size w w' := by
  have U0 := fun w => upTo_is 255 tt w
  rw [u0] at U0
  have U1 := fun w => upTo_is 255 pr w
  rw [u1] at U1
  have U2 := fun w => upTo_is 65535 sp w
  rw [u2] at U2
  have U3 := fun w => upTo_is 65535 dp w
  rw [u3] at U3
  go_enter Try.func121, Try.ntmps121
  go_wp2_with (first | (refine at_box rfl _ _ rfl [.int .u32 hs, .int .u32 hd, .int .i64 tt, .int .i64 pr, .int .i64 sp, .int .i64 dp] rfl ?_; rintro w1 H1 k1 s1; have c2 := H1.cell 2 (v := .int .i64 tt) rfl; have c3 := H1.cell 3 (v := .int .i64 pr) rfl; have c4 := H1.cell 4 (v := .int .i64 sp) rfl; have c5 := H1.cell 5 (v := .int .i64 dp) rfl; clear H1) | (go_at_call 124; with_reducible refine (U0 _).mono ?_; rintro e w' ⟨rfl, hw⟩; obtain rfl := hw.symm) | (go_at_call 124; with_reducible refine (U1 _).mono ?_; rintro e w' ⟨rfl, hw⟩; obtain rfl := hw.symm) | (go_at_call 124; with_reducible refine (U2 _).mono ?_; rintro e w' ⟨rfl, hw⟩; obtain rfl := hw.symm) | (go_at_call 124; with_reducible refine (U3 _).mono ?_; rintro e w' ⟨rfl, hw⟩; obtain rfl := hw.symm))
  go_ret
  exact ⟨rfl, k1⟩
set_option maxHeartbeats 1000000 in
theorem hchk_pt (hs hd tt pr sp dp : Int) (u0 : up 255 tt = true) (u1 : up 255 pr = true) (u2 : up 65535 sp = true) (u3 : up 65535 dp = true) (hp : pt pr = true) (w : World) : Calls Try.prog 121 #[.agg #[.int .u32 hs, .int .u32 hd, .int .i64 tt, .int .i64 pr, .int .i64 sp, .int .i64 dp]] w fun e w' => e = .returned (.int .i64 0) ∧ Below w.heap.size w w' := by
  have U0 := fun w => upTo_is 255 tt w
  rw [u0] at U0
  have U1 := fun w => upTo_is 255 pr w
  rw [u1] at U1
  have U2 := fun w => upTo_is 65535 sp w
  rw [u2] at U2
  have U3 := fun w => upTo_is 65535 dp w
  rw [u3] at U3
  have HP := fun w => ported_is pr w
  rw [hp] at HP
  go_enter Try.func121, Try.ntmps121
  go_upto_region 3 with (first | (refine at_box rfl _ _ rfl [.int .u32 hs, .int .u32 hd, .int .i64 tt, .int .i64 pr, .int .i64 sp, .int .i64 dp] rfl ?_; rintro w1 H1 k1 s1; have c2 := H1.cell 2 (v := .int .i64 tt) rfl; have c3 := H1.cell 3 (v := .int .i64 pr) rfl; have c4 := H1.cell 4 (v := .int .i64 sp) rfl; have c5 := H1.cell 5 (v := .int .i64 dp) rfl; clear H1) | (go_at_call 124; with_reducible refine (U0 _).mono ?_; rintro e w' ⟨rfl, hw⟩; obtain rfl := hw.symm) | (go_at_call 124; with_reducible refine (U1 _).mono ?_; rintro e w' ⟨rfl, hw⟩; obtain rfl := hw.symm) | (go_at_call 124; with_reducible refine (U2 _).mono ?_; rintro e w' ⟨rfl, hw⟩; obtain rfl := hw.symm) | (go_at_call 124; with_reducible refine (U3 _).mono ?_; rintro e w' ⟨rfl, hw⟩; obtain rfl := hw.symm))
  refine wp_region_lit ?_
  repeat (first | (go_at_call 21; refine (HP _).mono ?_; rintro e w' ⟨rfl, hw⟩; obtain rfl := hw.symm) | go_skip | go_guarded | go_step | go_upon)
  go_wp2
  go_ret
  exact ⟨rfl, k1⟩
set_option maxHeartbeats 1000000 in
theorem hchk_sp (hs hd tt pr sp dp : Int) (u0 : up 255 tt = true) (u1 : up 255 pr = true) (u2 : up 65535 sp = true) (u3 : up 65535 dp = true) (hp : pt pr = false) (h4 : (sp != 0) = true) (w : World) : Calls Try.prog 121 #[.agg #[.int .u32 hs, .int .u32 hd, .int .i64 tt, .int .i64 pr, .int .i64 sp, .int .i64 dp]] w fun e w' => e = .returned (.int .i64 3) ∧ Below w.heap.size w w' := by
  have U0 := fun w => upTo_is 255 tt w
  rw [u0] at U0
  have U1 := fun w => upTo_is 255 pr w
  rw [u1] at U1
  have U2 := fun w => upTo_is 65535 sp w
  rw [u2] at U2
  have U3 := fun w => upTo_is 65535 dp w
  rw [u3] at U3
  have HP := fun w => ported_is pr w
  rw [hp] at HP
  go_enter Try.func121, Try.ntmps121
  go_wp2_with (first | (refine at_box rfl _ _ rfl [.int .u32 hs, .int .u32 hd, .int .i64 tt, .int .i64 pr, .int .i64 sp, .int .i64 dp] rfl ?_; rintro w1 H1 k1 s1; have c2 := H1.cell 2 (v := .int .i64 tt) rfl; have c3 := H1.cell 3 (v := .int .i64 pr) rfl; have c4 := H1.cell 4 (v := .int .i64 sp) rfl; have c5 := H1.cell 5 (v := .int .i64 dp) rfl; clear H1) | (go_at_call 124; with_reducible refine (U0 _).mono ?_; rintro e w' ⟨rfl, hw⟩; obtain rfl := hw.symm) | (go_at_call 124; with_reducible refine (U1 _).mono ?_; rintro e w' ⟨rfl, hw⟩; obtain rfl := hw.symm) | (go_at_call 124; with_reducible refine (U2 _).mono ?_; rintro e w' ⟨rfl, hw⟩; obtain rfl := hw.symm) | (go_at_call 124; with_reducible refine (U3 _).mono ?_; rintro e w' ⟨rfl, hw⟩; obtain rfl := hw.symm) | (go_at_call 21; refine (HP _).mono ?_; rintro e w' ⟨rfl, hw⟩; obtain rfl := hw.symm))
  go_ret
  exact ⟨rfl, k1⟩
set_option maxHeartbeats 1000000 in
theorem hchk_dp (hs hd tt pr sp dp : Int) (u0 : up 255 tt = true) (u1 : up 255 pr = true) (u2 : up 65535 sp = true) (u3 : up 65535 dp = true) (hp : pt pr = false) (h4 : (sp != 0) = false) (h5 : (dp != 0) = true) (w : World) : Calls Try.prog 121 #[.agg #[.int .u32 hs, .int .u32 hd, .int .i64 tt, .int .i64 pr, .int .i64 sp, .int .i64 dp]] w fun e w' => e = .returned (.int .i64 3) ∧ Below w.heap.size w w' := by
  have U0 := fun w => upTo_is 255 tt w
  rw [u0] at U0
  have U1 := fun w => upTo_is 255 pr w
  rw [u1] at U1
  have U2 := fun w => upTo_is 65535 sp w
  rw [u2] at U2
  have U3 := fun w => upTo_is 65535 dp w
  rw [u3] at U3
  have HP := fun w => ported_is pr w
  rw [hp] at HP
  go_enter Try.func121, Try.ntmps121
  go_wp2_with (first | (refine at_box rfl _ _ rfl [.int .u32 hs, .int .u32 hd, .int .i64 tt, .int .i64 pr, .int .i64 sp, .int .i64 dp] rfl ?_; rintro w1 H1 k1 s1; have c2 := H1.cell 2 (v := .int .i64 tt) rfl; have c3 := H1.cell 3 (v := .int .i64 pr) rfl; have c4 := H1.cell 4 (v := .int .i64 sp) rfl; have c5 := H1.cell 5 (v := .int .i64 dp) rfl; clear H1) | (go_at_call 124; with_reducible refine (U0 _).mono ?_; rintro e w' ⟨rfl, hw⟩; obtain rfl := hw.symm) | (go_at_call 124; with_reducible refine (U1 _).mono ?_; rintro e w' ⟨rfl, hw⟩; obtain rfl := hw.symm) | (go_at_call 124; with_reducible refine (U2 _).mono ?_; rintro e w' ⟨rfl, hw⟩; obtain rfl := hw.symm) | (go_at_call 124; with_reducible refine (U3 _).mono ?_; rintro e w' ⟨rfl, hw⟩; obtain rfl := hw.symm) | (go_at_call 21; refine (HP _).mono ?_; rintro e w' ⟨rfl, hw⟩; obtain rfl := hw.symm))
  go_ret
  exact ⟨rfl, k1⟩
set_option maxHeartbeats 1000000 in
theorem hchk_ok (hs hd tt pr sp dp : Int) (u0 : up 255 tt = true) (u1 : up 255 pr = true) (u2 : up 65535 sp = true) (u3 : up 65535 dp = true) (hp : pt pr = false) (h4 : (sp != 0) = false) (h5 : (dp != 0) = false) (w : World) : Calls Try.prog 121 #[.agg #[.int .u32 hs, .int .u32 hd, .int .i64 tt, .int .i64 pr, .int .i64 sp, .int .i64 dp]] w fun e w' => e = .returned (.int .i64 0) ∧ Below w.heap.size w w' := by
  have U0 := fun w => upTo_is 255 tt w
  rw [u0] at U0
  have U1 := fun w => upTo_is 255 pr w
  rw [u1] at U1
  have U2 := fun w => upTo_is 65535 sp w
  rw [u2] at U2
  have U3 := fun w => upTo_is 65535 dp w
  rw [u3] at U3
  have HP := fun w => ported_is pr w
  rw [hp] at HP
  go_enter Try.func121, Try.ntmps121
  go_wp2_with (first | (refine at_box rfl _ _ rfl [.int .u32 hs, .int .u32 hd, .int .i64 tt, .int .i64 pr, .int .i64 sp, .int .i64 dp] rfl ?_; rintro w1 H1 k1 s1; have c2 := H1.cell 2 (v := .int .i64 tt) rfl; have c3 := H1.cell 3 (v := .int .i64 pr) rfl; have c4 := H1.cell 4 (v := .int .i64 sp) rfl; have c5 := H1.cell 5 (v := .int .i64 dp) rfl; clear H1) | (go_at_call 124; with_reducible refine (U0 _).mono ?_; rintro e w' ⟨rfl, hw⟩; obtain rfl := hw.symm) | (go_at_call 124; with_reducible refine (U1 _).mono ?_; rintro e w' ⟨rfl, hw⟩; obtain rfl := hw.symm) | (go_at_call 124; with_reducible refine (U2 _).mono ?_; rintro e w' ⟨rfl, hw⟩; obtain rfl := hw.symm) | (go_at_call 124; with_reducible refine (U3 _).mono ?_; rintro e w' ⟨rfl, hw⟩; obtain rfl := hw.symm) | (go_at_call 21; refine (HP _).mono ?_; rintro e w' ⟨rfl, hw⟩; obtain rfl := hw.symm))
  go_ret
  exact ⟨rfl, k1⟩
theorem hchk_is (f : FL) (w : World) : Calls Try.prog 121 #[.agg f.ip.toArray] w fun e w' => e = .returned (.int .i64 f.hchk) ∧ Below w.heap.size w w' := by
  obtain ⟨s, d, k, op, sm, si, tm, ti, hs, hd, tt, pr, sp, dp, x⟩ := f
  unfold FL.ip FL.hchk
  dsimp only
  cases u0 : up 255 tt
  · rw [if_pos (by simp)]; exact hchk_0 hs hd tt pr sp dp u0 w
  cases u1 : up 255 pr
  · rw [if_pos (by simp)]; exact hchk_1 hs hd tt pr sp dp u0 u1 w
  cases u2 : up 65535 sp
  · rw [if_pos (by simp)]; exact hchk_2 hs hd tt pr sp dp u0 u1 u2 w
  cases u3 : up 65535 dp
  · rw [if_pos (by simp)]; exact hchk_3 hs hd tt pr sp dp u0 u1 u2 u3 w
  rw [if_neg (by simp)]
  cases hp : pt pr
  · by_cases h4 : sp = 0
    · by_cases h5 : dp = 0
      · rw [if_neg (by simp [h4, h5])]; exact hchk_ok hs hd tt pr sp dp u0 u1 u2 u3 hp (by simpa using h4) (by simpa using h5) w
      · rw [if_pos (by simp [h5])]; exact hchk_dp hs hd tt pr sp dp u0 u1 u2 u3 hp (by simpa using h4) (by simpa using h5) w
    · rw [if_pos (by simp [h4])]; exact hchk_sp hs hd tt pr sp dp u0 u1 u2 u3 hp (by simpa using h4) w
  · rw [if_neg (by simp)]; exact hchk_pt hs hd tt pr sp dp u0 u1 u2 u3 hp w
end Go.Proofs.Ytgpjelcihmbiiaa
