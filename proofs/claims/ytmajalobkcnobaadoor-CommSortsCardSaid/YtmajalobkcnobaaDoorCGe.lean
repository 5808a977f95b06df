/- The getters. No condition. -/
import Derived.Test.YtmajalobkcnobaaDoorCFi
namespace Go.Proofs.YtmajalobkcnobaaDoor
open Go.RowKit Go.Sort
set_option linter.unusedVariables false
set_option linter.unusedSimpArgs false
set_option maxRecDepth 100000

theorem EncapOf_is (E : List (Nat → Int)) (hE : E.length ≤ 1000000) (hO : ∀ e ∈ E, O8 e) (v : Value) (w : World) (hv : CSeg w v E) (hK : KI w) : Calls Tryd.prog 30 #[v] w fun r w' => r = .returned (encapV (fk 2 E)) ∧ Below w.heap.size w w' := by
  have hc := first_encap 2 E hE hO v w hv hK
  cases hf : fk 2 E with
  | none =>
    rw [hf] at hc
    clear hf
    simp only [encapV] at hc ⊢
    go_enter Tryd.func30, Tryd.ntmps30
    go_wp2_with (go_at_call 63; refine hc.mono ?_; rintro r w1 ⟨rfl, hb⟩)
    go_ret2
    exact ⟨rfl, hb⟩
  | some e =>
    rw [hf] at hc
    clear hf
    simp only [encapV] at hc ⊢
    generalize ct e 6 = n at hc ⊢
    generalize n % 65536 = q at hc ⊢
    go_enter Tryd.func30, Tryd.ntmps30
    go_wp2_with (go_at_call 63; refine hc.mono ?_; rintro r w1 ⟨rfl, hb⟩)
    go_ret2
    exact ⟨rfl, hb⟩

theorem ImportOf_is (E : List (Nat → Int)) (hE : E.length ≤ 1000000) (hO : ∀ e ∈ E, O8 e) (v : Value) (w : World) (hv : CSeg w v E) (hK : KI w) : Calls Tryd.prog 34 #[v] w fun r w' => r = .returned (addrV (fk 5 E)) ∧ Below w.heap.size w w' := by
  have hc := first_addr 5 E hE hO v w hv hK
  cases hf : fk 5 E with
  | none =>
    rw [hf] at hc
    clear hf
    simp only [addrV] at hc ⊢
    go_enter Tryd.func34, Tryd.ntmps34
    go_wp2_with (go_at_call 66; refine hc.mono ?_; rintro r w1 ⟨rfl, hb⟩)
    go_ret2
    exact ⟨rfl, hb⟩
  | some e =>
    rw [hf] at hc
    clear hf
    simp only [addrV] at hc ⊢
    generalize ct e 6 = n at hc ⊢
    skip
    go_enter Tryd.func34, Tryd.ntmps34
    go_wp2_with (go_at_call 66; refine hc.mono ?_; rintro r w1 ⟨rfl, hb⟩)
    go_ret2
    exact ⟨rfl, hb⟩

theorem RouterOf_is (E : List (Nat → Int)) (hE : E.length ≤ 1000000) (hO : ∀ e ∈ E, O8 e) (v : Value) (w : World) (hv : CSeg w v E) (hK : KI w) : Calls Tryd.prog 36 #[v] w fun r w' => r = .returned (addrV (fk 6 E)) ∧ Below w.heap.size w w' := by
  have hc := first_addr 6 E hE hO v w hv hK
  cases hf : fk 6 E with
  | none =>
    rw [hf] at hc
    clear hf
    simp only [addrV] at hc ⊢
    go_enter Tryd.func36, Tryd.ntmps36
    go_wp2_with (go_at_call 66; refine hc.mono ?_; rintro r w1 ⟨rfl, hb⟩)
    go_ret2
    exact ⟨rfl, hb⟩
  | some e =>
    rw [hf] at hc
    clear hf
    simp only [addrV] at hc ⊢
    generalize ct e 6 = n at hc ⊢
    skip
    go_enter Tryd.func36, Tryd.ntmps36
    go_wp2_with (go_at_call 66; refine hc.mono ?_; rintro r w1 ⟨rfl, hb⟩)
    go_ret2
    exact ⟨rfl, hb⟩

def mobV3 : Option (Nat → Int) → Value
  | none => .tuple #[.bool false, .int .u32 0, .bool false]
  | some e => .tuple #[.bool (fg (ct e 6)), .int .u32 (ct e 6 % 4294967296), .bool true]
set_option maxHeartbeats 1000000 in
theorem MobilityOf_is (E : List (Nat → Int)) (hE : E.length ≤ 1000000) (hO : ∀ e ∈ E, O8 e) (v : Value) (w : World) (hv : CSeg w v E) (hK : KI w) : Calls Tryd.prog 16 #[v] w fun r w' => r = .returned (mobV3 (fk 3 E)) ∧ Below w.heap.size w w' := by
  have hc := first_mob 3 E hE hO v w hv hK
  have key : ∃ x y b, mobV (fk 3 E) = .tuple #[.agg #[x, y], .bool b] ∧ mobV3 (fk 3 E) = .tuple #[x, y, .bool b] ∧ ∃ p q, x = .bool p ∧ y = .int .u32 q := by
    cases fk 3 E with
    | none => exact ⟨_, _, _, rfl, rfl, ⟨_, _, rfl, rfl⟩⟩
    | some e => exact ⟨_, _, _, rfl, rfl, ⟨_, _, rfl, rfl⟩⟩
  obtain ⟨x, y, b, e1, e2, wf⟩ := key
  rw [e1] at hc
  rw [e2]
  clear e1 e2
  obtain ⟨p, q, rfl, rfl⟩ := wf
  go_enter Tryd.func16, Tryd.ntmps16
  go_wp2_with (go_at_call 52; refine hc.mono ?_; rintro r w1 ⟨rfl, hb⟩)
  have S := (((St.start w).below hb).box2 (.bool p) (.int .u32 q) 67)
  refine wp_region_qs S (by kernel_rfl) (by kernel_rfl) ?_
  intro kc
  simp only [CellsAt, and_true] at kc
  repeat (go_big_quiet_step (fail))
  refine wpQuiet_nil ?_
  intro w' S'
  go_wp2
  exact bodyPost_ret (results_tmp3 (by rfl) _ _ _) rfl ⟨rfl, S'.2⟩

def labV3 : Option (Nat → Int) → Value
  | none => .tuple #[.bool false, .int .u32 0, .bool false]
  | some e => .tuple #[.bool (fg (ct e 6)), .int .u32 (ct e 6 % 16777216), .bool true]
set_option maxHeartbeats 1000000 in
theorem LabelOf_is (E : List (Nat → Int)) (hE : E.length ≤ 1000000) (hO : ∀ e ∈ E, O8 e) (v : Value) (w : World) (hv : CSeg w v E) (hK : KI w) : Calls Tryd.prog 17 #[v] w fun r w' => r = .returned (labV3 (fk 4 E)) ∧ Below w.heap.size w w' := by
  have hc := first_lab 4 E hE hO v w hv hK
  have key : ∃ x y b, labV (fk 4 E) = .tuple #[.agg #[x, y], .bool b] ∧ labV3 (fk 4 E) = .tuple #[x, y, .bool b] ∧ ∃ p q, x = .bool p ∧ y = .int .u32 q := by
    cases fk 4 E with
    | none => exact ⟨_, _, _, rfl, rfl, ⟨_, _, rfl, rfl⟩⟩
    | some e => exact ⟨_, _, _, rfl, rfl, ⟨_, _, rfl, rfl⟩⟩
  obtain ⟨x, y, b, e1, e2, wf⟩ := key
  rw [e1] at hc
  rw [e2]
  clear e1 e2
  obtain ⟨p, q, rfl, rfl⟩ := wf
  go_enter Tryd.func17, Tryd.ntmps17
  go_wp2_with (go_at_call 52; refine hc.mono ?_; rintro r w1 ⟨rfl, hb⟩)
  have S := (((St.start w).below hb).box2 (.bool p) (.int .u32 q) 67)
  refine wp_region_qs S (by kernel_rfl) (by kernel_rfl) ?_
  intro kc
  simp only [CellsAt, and_true] at kc
  repeat (go_big_quiet_step (fail))
  refine wpQuiet_nil ?_
  intro w' S'
  go_wp2
  exact bodyPost_ret (results_tmp3 (by rfl) _ _ _) rfl ⟨rfl, S'.2⟩

def elV3 : Option (Nat → Int) → Value
  | none => .tuple #[.int .i64 0, .int .i64 0, .bool false]
  | some e => .tuple #[.int .i64 (ct e 6 / 1099511627776 % 32), .int .i64 (ct e 6 % 65536), .bool true]
set_option maxHeartbeats 1000000 in
theorem ElectionOf_is (E : List (Nat → Int)) (hE : E.length ≤ 1000000) (hO : ∀ e ∈ E, O8 e) (v : Value) (w : World) (hv : CSeg w v E) (hK : KI w) : Calls Tryd.prog 38 #[v] w fun r w' => r = .returned (elV3 (fk 7 E)) ∧ Below w.heap.size w w' := by
  have hc := first_el 7 E hE hO v w hv hK
  have key : ∃ x y b, elV (fk 7 E) = .tuple #[.agg #[x, y], .bool b] ∧ elV3 (fk 7 E) = .tuple #[x, y, .bool b] ∧ ∃ p q, x = .int .i64 p ∧ y = .int .i64 q := by
    cases fk 7 E with
    | none => exact ⟨_, _, _, rfl, rfl, ⟨_, _, rfl, rfl⟩⟩
    | some e => exact ⟨_, _, _, rfl, rfl, ⟨_, _, rfl, rfl⟩⟩
  obtain ⟨x, y, b, e1, e2, wf⟩ := key
  rw [e1] at hc
  rw [e2]
  clear e1 e2
  obtain ⟨p, q, rfl, rfl⟩ := wf
  go_enter Tryd.func38, Tryd.ntmps38
  go_wp2_with (go_at_call 68; refine hc.mono ?_; rintro r w1 ⟨rfl, hb⟩)
  have S := (((St.start w).below hb).box2 (.int .i64 p) (.int .i64 q) 87)
  refine wp_region_qs S (by kernel_rfl) (by kernel_rfl) ?_
  intro kc
  simp only [CellsAt, and_true] at kc
  repeat (go_big_quiet_step (fail))
  refine wpQuiet_nil ?_
  intro w' S'
  go_wp2
  exact bodyPost_ret (results_tmp3 (by rfl) _ _ _) rfl ⟨rfl, S'.2⟩
end Go.Proofs.YtmajalobkcnobaaDoor
