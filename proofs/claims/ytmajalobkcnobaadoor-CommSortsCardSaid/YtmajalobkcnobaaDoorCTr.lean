/- The constructors of communities: the program's functions and the reference's. No condition. -/
import Derived.Test.YtmajalobkcnobaaDoorCBld
namespace Go.Proofs.YtmajalobkcnobaaDoor
open Go.RowKit Go.Sort
set_option linter.unusedVariables false
set_option linter.unusedSimpArgs false
set_option maxRecDepth 100000

theorem or_add (a y : Int) (b : Nat) (ha : 0 ≤ a) (h1 : a * 2 ^ b < 18446744073709551616) (h2 : 0 ≤ y) (h3 : y < 2 ^ b) (hb : b ≤ 63) : bits .or .u64 (a * 2 ^ b) y = a * 2 ^ b + y := by
  have hp : (0 : Int) ≤ a * 2 ^ b := Int.mul_nonneg ha (Int.pow_nonneg (by decide))
  have hq : (2 : Int) ^ b ≤ 2 ^ 63 := by
    have := Nat.pow_le_pow_right (n := 2) (by decide) hb
    exact_mod_cast this
  rw [u64_or _ _ hp (by omega) h2 (by omega)]
  have e1 : (a * 2 ^ b).toNat = 2 ^ b * a.toNat := by
    rw [Int.toNat_mul ha (Int.pow_nonneg (by decide)), Nat.mul_comm]
    congr 1
  have hy : y.toNat < 2 ^ b := by
    have : ((2 ^ b : Nat) : Int) = (2 : Int) ^ b := by push_cast; rfl
    omega
  have e2 := Nat.two_pow_add_eq_or_of_lt (i := b) (b := y.toNat) hy a.toNat
  rw [e1, ← e2]
  push_cast
  rw [Int.toNat_of_nonneg ha, Int.toNat_of_nonneg h2, Int.mul_comm]

theorem results_row_tmp {P : Program} {fn : Func} {p u : Tmp} {ty : TypeId} (h : fn.results = #[.cell p ty, .tmp u]) (tmps : Array Value) (w : World) (g : Nat) (t : TypeId) (cs : Array Value) (fr : Nat × Nat) (d : TypeDesc)
    (hp : tmps.getD p undef = .pointer (some ⟨g, 0, none⟩)) (hg : w.heap[g]? = some (.cells cs t fr))
    (hu : P.underlying ty = some d) (hd : (match d with | .struct _ | .array _ _ => true | _ => false) = true) (hi : (P.info? ty).map (·.size) = some cs.size) :
    (results fn tmps).run P w = .ok (.tuple #[.agg cs, tmps.getD u undef]) w := by
  rw [results_cell_tmp h, hp]
  simp [asAddr, run_loadVar_row w g t ty cs fr d hg hu hd hi, Result.andThen]
/-- The cell of a result, as it is at first. -/
theorem res_cell {w w1 : World} (hb : Below (w.alloc (.cells #[.int .u8 0, .int .u8 0, .int .u8 0, .int .u8 0, .int .u8 0, .int .u8 0, .int .u8 0, .int .u8 0] 24)).heap.size (w.alloc (.cells #[.int .u8 0, .int .u8 0, .int .u8 0, .int .u8 0, .int .u8 0, .int .u8 0, .int .u8 0, .int .u8 0] 24)) w1) : w1.heap[w.heap.size]? = some (.cells #[.int .u8 0, .int .u8 0, .int .u8 0, .int .u8 0, .int .u8 0, .int .u8 0, .int .u8 0, .int .u8 0] 24 (0, 0)) :=
  (hb.block w.heap.size (by simp)).trans (heap_alloc_last w _)
theorem res_bel {w w1 : World} (hb : Below (w.alloc (.cells #[.int .u8 0, .int .u8 0, .int .u8 0, .int .u8 0, .int .u8 0, .int .u8 0, .int .u8 0, .int .u8 0] 24)).heap.size (w.alloc (.cells #[.int .u8 0, .int .u8 0, .int .u8 0, .int .u8 0, .int .u8 0, .int .u8 0, .int .u8 0, .int .u8 0] 24)) w1) (cs : Array Value) : Below w.heap.size w (w1.setRow w.heap.size cs) :=
  below_setRow (((Below.refl _ _).alloc (Nat.le_refl _) _).trans (hb.mono (by simp))) (Nat.le_refl _) cs

set_option maxHeartbeats 2000000 in
theorem target_is (a n : Int) (ha : 0 ≤ a) (ha1 : a < 65536) (h0 : 0 ≤ n) (h1 : n < 4294967296) (w : World) (hK : KI w) :
    Calls Tryd.prog 25 #[.int .u16 a, .int .u32 n] w fun r w' => r = .returned (.agg #[.int .u8 (mk 0 2 (a * 4294967296 + n) 0), .int .u8 (mk 0 2 (a * 4294967296 + n) 1), .int .u8 (mk 0 2 (a * 4294967296 + n) 2), .int .u8 (mk 0 2 (a * 4294967296 + n) 3), .int .u8 (mk 0 2 (a * 4294967296 + n) 4), .int .u8 (mk 0 2 (a * 4294967296 + n) 5), .int .u8 (mk 0 2 (a * 4294967296 + n) 6), .int .u8 (mk 0 2 (a * 4294967296 + n) 7)]) ∧ Below w.heap.size w w' := by
  have ho : bits .or .u64 (a * 4294967296) n = a * 4294967296 + n := or_add a n 32 ha (by omega) h0 (by omega) (by decide)
  have b1 := (Below.refl w.heap.size w).alloc (Nat.le_refl _) (.cells #[.int .u8 0, .int .u8 0, .int .u8 0, .int .u8 0, .int .u8 0, .int .u8 0, .int .u8 0, .int .u8 0] 24)
  have hk1 := hK.below b1 hK.lt
  go_enter Tryd.func25, Tryd.ntmps25
  go_wp2_with fail
  go_at_call 48
  refine (build_is 1 (by decide) (a * 4294967296 + n) (by omega) (by omega) _ hk1).mono ?_
  rintro r w1 ⟨rfl, hb⟩
  rename_i Q1 K1 q1 K0 q0
  dsimp only
  refine q0 _ _ ?_
  refine wpList_store_row rfl 24 (.tmp 4) (.tmp 11) rfl w.heap.size #[.int .u8 (mk 0 2 (a * 4294967296 + n) 0), .int .u8 (mk 0 2 (a * 4294967296 + n) 1), .int .u8 (mk 0 2 (a * 4294967296 + n) 2), .int .u8 (mk 0 2 (a * 4294967296 + n) 3), .int .u8 (mk 0 2 (a * 4294967296 + n) 4), .int .u8 (mk 0 2 (a * 4294967296 + n) 5), .int .u8 (mk 0 2 (a * 4294967296 + n) 6), .int .u8 (mk 0 2 (a * 4294967296 + n) 7)] rfl rfl 24 _ (res_cell hb) (by kernel_rfl) rfl (by kernel_rfl) ?_
  have HR := Lib.hid (setRow_heap _ w.heap.size _ #[.int .u8 (mk 0 2 (a * 4294967296 + n) 0), .int .u8 (mk 0 2 (a * 4294967296 + n) 1), .int .u8 (mk 0 2 (a * 4294967296 + n) 2), .int .u8 (mk 0 2 (a * 4294967296 + n) 3), .int .u8 (mk 0 2 (a * 4294967296 + n) 4), .int .u8 (mk 0 2 (a * 4294967296 + n) 5), .int .u8 (mk 0 2 (a * 4294967296 + n) 6), .int .u8 (mk 0 2 (a * 4294967296 + n) 7)] _ _ (res_cell hb))
  have HB := res_bel hb #[.int .u8 (mk 0 2 (a * 4294967296 + n) 0), .int .u8 (mk 0 2 (a * 4294967296 + n) 1), .int .u8 (mk 0 2 (a * 4294967296 + n) 2), .int .u8 (mk 0 2 (a * 4294967296 + n) 3), .int .u8 (mk 0 2 (a * 4294967296 + n) 4), .int .u8 (mk 0 2 (a * 4294967296 + n) 5), .int .u8 (mk 0 2 (a * 4294967296 + n) 6), .int .u8 (mk 0 2 (a * 4294967296 + n) 7)]
  generalize w1.setRow w.heap.size #[.int .u8 (mk 0 2 (a * 4294967296 + n) 0), .int .u8 (mk 0 2 (a * 4294967296 + n) 1), .int .u8 (mk 0 2 (a * 4294967296 + n) 2), .int .u8 (mk 0 2 (a * 4294967296 + n) 3), .int .u8 (mk 0 2 (a * 4294967296 + n) 4), .int .u8 (mk 0 2 (a * 4294967296 + n) 5), .int .u8 (mk 0 2 (a * 4294967296 + n) 6), .int .u8 (mk 0 2 (a * 4294967296 + n) 7)] = V at HR HB ⊢
  clear hb q0 K0
  go_wp2
  exact bodyPost_ret (results_cell_row (by rfl) _ _ w.heap.size _ _ _ _ rfl HR.out Tryd.underlying24 rfl (by kernel_rfl)) rfl ⟨rfl, HB⟩

set_option maxHeartbeats 2000000 in
theorem rtarget_is (a n : Int) (ha : 0 ≤ a) (ha1 : a < 65536) (h0 : 0 ≤ n) (h1 : n < 4294967296) (w : World) :
    Calls Tryd.prog 26 #[.int .u16 a, .int .u32 n] w fun r w' => r = .returned (.agg #[.int .u8 (mk 0 2 (a * 4294967296 + n) 0), .int .u8 (mk 0 2 (a * 4294967296 + n) 1), .int .u8 (mk 0 2 (a * 4294967296 + n) 2), .int .u8 (mk 0 2 (a * 4294967296 + n) 3), .int .u8 (mk 0 2 (a * 4294967296 + n) 4), .int .u8 (mk 0 2 (a * 4294967296 + n) 5), .int .u8 (mk 0 2 (a * 4294967296 + n) 6), .int .u8 (mk 0 2 (a * 4294967296 + n) 7)]) ∧ Below w.heap.size w w' := by
  go_enter Tryd.func26, Tryd.ntmps26
  go_wp2_with fail
  go_at_call 61
  refine (made_is 0 2 (a * 4294967296 + n) (by omega) (by omega) _).mono ?_
  rintro r w1 ⟨rfl, hb⟩
  rename_i Q1 K1 q1 K0 q0
  dsimp only
  refine q0 _ _ ?_
  refine wpList_store_row rfl 24 (.tmp 4) (.tmp 11) rfl w.heap.size #[.int .u8 (mk 0 2 (a * 4294967296 + n) 0), .int .u8 (mk 0 2 (a * 4294967296 + n) 1), .int .u8 (mk 0 2 (a * 4294967296 + n) 2), .int .u8 (mk 0 2 (a * 4294967296 + n) 3), .int .u8 (mk 0 2 (a * 4294967296 + n) 4), .int .u8 (mk 0 2 (a * 4294967296 + n) 5), .int .u8 (mk 0 2 (a * 4294967296 + n) 6), .int .u8 (mk 0 2 (a * 4294967296 + n) 7)] rfl rfl 24 _ (res_cell hb) (by kernel_rfl) rfl (by kernel_rfl) ?_
  have HR := Lib.hid (setRow_heap _ w.heap.size _ #[.int .u8 (mk 0 2 (a * 4294967296 + n) 0), .int .u8 (mk 0 2 (a * 4294967296 + n) 1), .int .u8 (mk 0 2 (a * 4294967296 + n) 2), .int .u8 (mk 0 2 (a * 4294967296 + n) 3), .int .u8 (mk 0 2 (a * 4294967296 + n) 4), .int .u8 (mk 0 2 (a * 4294967296 + n) 5), .int .u8 (mk 0 2 (a * 4294967296 + n) 6), .int .u8 (mk 0 2 (a * 4294967296 + n) 7)] _ _ (res_cell hb))
  have HB := res_bel hb #[.int .u8 (mk 0 2 (a * 4294967296 + n) 0), .int .u8 (mk 0 2 (a * 4294967296 + n) 1), .int .u8 (mk 0 2 (a * 4294967296 + n) 2), .int .u8 (mk 0 2 (a * 4294967296 + n) 3), .int .u8 (mk 0 2 (a * 4294967296 + n) 4), .int .u8 (mk 0 2 (a * 4294967296 + n) 5), .int .u8 (mk 0 2 (a * 4294967296 + n) 6), .int .u8 (mk 0 2 (a * 4294967296 + n) 7)]
  generalize w1.setRow w.heap.size #[.int .u8 (mk 0 2 (a * 4294967296 + n) 0), .int .u8 (mk 0 2 (a * 4294967296 + n) 1), .int .u8 (mk 0 2 (a * 4294967296 + n) 2), .int .u8 (mk 0 2 (a * 4294967296 + n) 3), .int .u8 (mk 0 2 (a * 4294967296 + n) 4), .int .u8 (mk 0 2 (a * 4294967296 + n) 5), .int .u8 (mk 0 2 (a * 4294967296 + n) 6), .int .u8 (mk 0 2 (a * 4294967296 + n) 7)] = V at HR HB ⊢
  clear hb q0 K0
  go_wp2
  exact bodyPost_ret (results_cell_row (by rfl) _ _ w.heap.size _ _ _ _ rfl HR.out Tryd.underlying24 rfl (by kernel_rfl)) rfl ⟨rfl, HB⟩

def fl (b : Bool) : Int := if b = true then 1099511627776 else 0
theorem fl_bd (b : Bool) : 0 ≤ fl b ∧ fl b ≤ 1099511627776 := by cases b <;> decide
theorem fl_or (b : Bool) (n : Int) (h0 : 0 ≤ n) (h1 : n < 4294967296) : bits .or .u64 (fl b) n = fl b + n := by
  cases b
  · have e : fl false = 0 * 2 ^ 40 := by decide
    rw [e]
    exact or_add 0 n 40 (by decide) (by decide) h0 (by omega) (by decide)
  · have e : fl true = 1 * 2 ^ 40 := by decide
    rw [e]
    exact or_add 1 n 40 (by decide) (by decide) h0 (by omega) (by decide)

theorem flag_is (b : Bool) (w : World) : Calls Tryd.prog 49 #[.bool b] w fun r w' => r = .returned (.int .u64 (fl b)) ∧ w = w' := by
  cases b
  all_goals
    go_enter Tryd.func49, Tryd.ntmps49
    go_wp2
    go_ret
    exact ⟨rfl, rfl⟩

theorem rflag_is (b : Bool) (w : World) : Calls Tryd.prog 62 #[.bool b] w fun r w' => r = .returned (.int .u64 (fl b)) ∧ w = w' := by
  cases b
  all_goals
    go_enter Tryd.func62, Tryd.ntmps62
    go_wp2
    go_ret
    exact ⟨rfl, rfl⟩

def wi (n g : Int) : Bool := decide (0 ≤ n) && decide (n ≤ g)
theorem within_is (n g : Int) (w : World) : Calls Tryd.prog 50 #[.int .i64 n, .int .i64 g] w fun r w' => r = .returned (.bool (wi n g)) ∧ w = w' := by
  by_cases h0 : 0 ≤ n
  · have e : wi n g = decide (n ≤ g) := by simp [wi, h0]
    rw [e]
    clear e
    go_enter Tryd.func50, Tryd.ntmps50
    go_wp2
    go_ret
    exact ⟨rfl, rfl⟩
  · have e : wi n g = false := by simp [wi, h0]
    rw [e]
    clear e
    go_enter Tryd.func50, Tryd.ntmps50
    go_wp2
    go_ret
    exact ⟨rfl, rfl⟩
theorem within_yes (n g : Int) (h0 : 0 ≤ n) (h1 : n ≤ g) (w : World) : Calls Tryd.prog 50 #[.int .i64 n, .int .i64 g] w fun r w' => r = .returned (.bool true) ∧ w = w' := by
  have e : wi n g = true := by simp [wi, h0, h1]
  rw [← e]; exact within_is n g w
theorem within_no (n g : Int) (h : n < 0 ∨ g < n) (w : World) : Calls Tryd.prog 50 #[.int .i64 n, .int .i64 g] w fun r w' => r = .returned (.bool false) ∧ w = w' := by
  have e : wi n g = false := by simp [wi]; omega
  rw [← e]; exact within_is n g w

set_option maxHeartbeats 2000000 in
theorem mobility_is (b : Bool) (n : Int) (h0 : 0 ≤ n) (h1 : n < 4294967296) (w : World) (hK : KI w) :
    Calls Tryd.prog 15 #[.bool b, .int .u32 n] w fun r w' => r = .returned (.agg #[.int .u8 (mk 6 0 (fl b + n) 0), .int .u8 (mk 6 0 (fl b + n) 1), .int .u8 (mk 6 0 (fl b + n) 2), .int .u8 (mk 6 0 (fl b + n) 3), .int .u8 (mk 6 0 (fl b + n) 4), .int .u8 (mk 6 0 (fl b + n) 5), .int .u8 (mk 6 0 (fl b + n) 6), .int .u8 (mk 6 0 (fl b + n) 7)]) ∧ Below w.heap.size w w' := by
  have ho := fl_or b n h0 (by omega)
  have hfb := fl_bd b
  obtain ⟨g0, g1⟩ := hfb
  have b1 := (Below.refl w.heap.size w).alloc (Nat.le_refl _) (.cells #[.int .u8 0, .int .u8 0, .int .u8 0, .int .u8 0, .int .u8 0, .int .u8 0, .int .u8 0, .int .u8 0] 24)
  have hk1 := hK.below b1 hK.lt
  go_enter Tryd.func15, Tryd.ntmps15
  go_wp2_with (go_at_call 49; refine (flag_is _ _).mono ?_; rintro r w0 ⟨rfl, rfl⟩)
  go_at_call 48
  refine (build_is 3 (by decide) (fl b + n) (by omega) (by omega) _ hk1).mono ?_
  rintro r w1 ⟨rfl, hb⟩
  rename_i Q1 K1 q1 K0 q0
  dsimp only
  refine q0 _ _ ?_
  refine wpList_store_row rfl 24 (.tmp 4) (.tmp 10) rfl w.heap.size #[.int .u8 (mk 6 0 (fl b + n) 0), .int .u8 (mk 6 0 (fl b + n) 1), .int .u8 (mk 6 0 (fl b + n) 2), .int .u8 (mk 6 0 (fl b + n) 3), .int .u8 (mk 6 0 (fl b + n) 4), .int .u8 (mk 6 0 (fl b + n) 5), .int .u8 (mk 6 0 (fl b + n) 6), .int .u8 (mk 6 0 (fl b + n) 7)] rfl rfl 24 _ (res_cell hb) (by kernel_rfl) rfl (by kernel_rfl) ?_
  have HR := Lib.hid (setRow_heap _ w.heap.size _ #[.int .u8 (mk 6 0 (fl b + n) 0), .int .u8 (mk 6 0 (fl b + n) 1), .int .u8 (mk 6 0 (fl b + n) 2), .int .u8 (mk 6 0 (fl b + n) 3), .int .u8 (mk 6 0 (fl b + n) 4), .int .u8 (mk 6 0 (fl b + n) 5), .int .u8 (mk 6 0 (fl b + n) 6), .int .u8 (mk 6 0 (fl b + n) 7)] _ _ (res_cell hb))
  have HB := res_bel hb #[.int .u8 (mk 6 0 (fl b + n) 0), .int .u8 (mk 6 0 (fl b + n) 1), .int .u8 (mk 6 0 (fl b + n) 2), .int .u8 (mk 6 0 (fl b + n) 3), .int .u8 (mk 6 0 (fl b + n) 4), .int .u8 (mk 6 0 (fl b + n) 5), .int .u8 (mk 6 0 (fl b + n) 6), .int .u8 (mk 6 0 (fl b + n) 7)]
  generalize w1.setRow w.heap.size #[.int .u8 (mk 6 0 (fl b + n) 0), .int .u8 (mk 6 0 (fl b + n) 1), .int .u8 (mk 6 0 (fl b + n) 2), .int .u8 (mk 6 0 (fl b + n) 3), .int .u8 (mk 6 0 (fl b + n) 4), .int .u8 (mk 6 0 (fl b + n) 5), .int .u8 (mk 6 0 (fl b + n) 6), .int .u8 (mk 6 0 (fl b + n) 7)] = V at HR HB ⊢
  clear hb q0 K0
  go_wp2
  exact bodyPost_ret (results_cell_row (by rfl) _ _ w.heap.size _ _ _ _ rfl HR.out Tryd.underlying24 rfl (by kernel_rfl)) rfl ⟨rfl, HB⟩

set_option maxHeartbeats 2000000 in
theorem rmobility_is (b : Bool) (n : Int) (h0 : 0 ≤ n) (h1 : n < 4294967296) (w : World) :
    Calls Tryd.prog 27 #[.bool b, .int .u32 n] w fun r w' => r = .returned (.agg #[.int .u8 (mk 6 0 (fl b + n) 0), .int .u8 (mk 6 0 (fl b + n) 1), .int .u8 (mk 6 0 (fl b + n) 2), .int .u8 (mk 6 0 (fl b + n) 3), .int .u8 (mk 6 0 (fl b + n) 4), .int .u8 (mk 6 0 (fl b + n) 5), .int .u8 (mk 6 0 (fl b + n) 6), .int .u8 (mk 6 0 (fl b + n) 7)]) ∧ Below w.heap.size w w' := by
  obtain ⟨g0, g1⟩ := fl_bd b
  go_enter Tryd.func27, Tryd.ntmps27
  go_wp2_with (go_at_call 62; refine (rflag_is _ _).mono ?_; rintro r w0 ⟨rfl, rfl⟩)
  go_at_call 61
  refine (made_is 6 0 (fl b + n) (by omega) (by omega) _).mono ?_
  rintro r w1 ⟨rfl, hb⟩
  rename_i Q1 K1 q1 K0 q0
  dsimp only
  refine q0 _ _ ?_
  refine wpList_store_row rfl 24 (.tmp 4) (.tmp 10) rfl w.heap.size #[.int .u8 (mk 6 0 (fl b + n) 0), .int .u8 (mk 6 0 (fl b + n) 1), .int .u8 (mk 6 0 (fl b + n) 2), .int .u8 (mk 6 0 (fl b + n) 3), .int .u8 (mk 6 0 (fl b + n) 4), .int .u8 (mk 6 0 (fl b + n) 5), .int .u8 (mk 6 0 (fl b + n) 6), .int .u8 (mk 6 0 (fl b + n) 7)] rfl rfl 24 _ (res_cell hb) (by kernel_rfl) rfl (by kernel_rfl) ?_
  have HR := Lib.hid (setRow_heap _ w.heap.size _ #[.int .u8 (mk 6 0 (fl b + n) 0), .int .u8 (mk 6 0 (fl b + n) 1), .int .u8 (mk 6 0 (fl b + n) 2), .int .u8 (mk 6 0 (fl b + n) 3), .int .u8 (mk 6 0 (fl b + n) 4), .int .u8 (mk 6 0 (fl b + n) 5), .int .u8 (mk 6 0 (fl b + n) 6), .int .u8 (mk 6 0 (fl b + n) 7)] _ _ (res_cell hb))
  have HB := res_bel hb #[.int .u8 (mk 6 0 (fl b + n) 0), .int .u8 (mk 6 0 (fl b + n) 1), .int .u8 (mk 6 0 (fl b + n) 2), .int .u8 (mk 6 0 (fl b + n) 3), .int .u8 (mk 6 0 (fl b + n) 4), .int .u8 (mk 6 0 (fl b + n) 5), .int .u8 (mk 6 0 (fl b + n) 6), .int .u8 (mk 6 0 (fl b + n) 7)]
  generalize w1.setRow w.heap.size #[.int .u8 (mk 6 0 (fl b + n) 0), .int .u8 (mk 6 0 (fl b + n) 1), .int .u8 (mk 6 0 (fl b + n) 2), .int .u8 (mk 6 0 (fl b + n) 3), .int .u8 (mk 6 0 (fl b + n) 4), .int .u8 (mk 6 0 (fl b + n) 5), .int .u8 (mk 6 0 (fl b + n) 6), .int .u8 (mk 6 0 (fl b + n) 7)] = V at HR HB ⊢
  clear hb q0 K0
  go_wp2
  exact bodyPost_ret (results_cell_row (by rfl) _ _ w.heap.size _ _ _ _ rfl HR.out Tryd.underlying24 rfl (by kernel_rfl)) rfl ⟨rfl, HB⟩

set_option maxHeartbeats 2000000 in
theorem label_is (b : Bool) (n : Int) (h0 : 0 ≤ n) (h1 : n ≤ 16777215) (w : World) (hK : KI w) :
    Calls Tryd.prog 10 #[.bool b, .int .u32 n] w fun r w' => r = .returned (.tuple #[.agg #[.int .u8 (mk 6 1 (fl b + n) 0), .int .u8 (mk 6 1 (fl b + n) 1), .int .u8 (mk 6 1 (fl b + n) 2), .int .u8 (mk 6 1 (fl b + n) 3), .int .u8 (mk 6 1 (fl b + n) 4), .int .u8 (mk 6 1 (fl b + n) 5), .int .u8 (mk 6 1 (fl b + n) 6), .int .u8 (mk 6 1 (fl b + n) 7)], .int .i64 0]) ∧ Below w.heap.size w w' := by
  have ho := fl_or b n h0 (by omega)
  have hfb := fl_bd b
  obtain ⟨g0, g1⟩ := hfb
  have b1 := (Below.refl w.heap.size w).alloc (Nat.le_refl _) (.cells #[.int .u8 0, .int .u8 0, .int .u8 0, .int .u8 0, .int .u8 0, .int .u8 0, .int .u8 0, .int .u8 0] 24)
  have hk1 := hK.below b1 hK.lt
  go_enter Tryd.func10, Tryd.ntmps10
  go_wp2_with (go_at_call 49; refine (flag_is _ _).mono ?_; rintro r w0 ⟨rfl, rfl⟩)
  go_at_call 48
  refine (build_is 4 (by decide) (fl b + n) (by omega) (by omega) _ hk1).mono ?_
  rintro r w1 ⟨rfl, hb⟩
  rename_i Q1 K1 q1 K0 q0
  dsimp only
  refine q0 _ _ ?_
  refine wpList_store_row rfl 24 (.tmp 4) (.tmp 14) rfl w.heap.size #[.int .u8 (mk 6 1 (fl b + n) 0), .int .u8 (mk 6 1 (fl b + n) 1), .int .u8 (mk 6 1 (fl b + n) 2), .int .u8 (mk 6 1 (fl b + n) 3), .int .u8 (mk 6 1 (fl b + n) 4), .int .u8 (mk 6 1 (fl b + n) 5), .int .u8 (mk 6 1 (fl b + n) 6), .int .u8 (mk 6 1 (fl b + n) 7)] rfl rfl 24 _ (res_cell hb) (by kernel_rfl) rfl (by kernel_rfl) ?_
  have HR := Lib.hid (setRow_heap _ w.heap.size _ #[.int .u8 (mk 6 1 (fl b + n) 0), .int .u8 (mk 6 1 (fl b + n) 1), .int .u8 (mk 6 1 (fl b + n) 2), .int .u8 (mk 6 1 (fl b + n) 3), .int .u8 (mk 6 1 (fl b + n) 4), .int .u8 (mk 6 1 (fl b + n) 5), .int .u8 (mk 6 1 (fl b + n) 6), .int .u8 (mk 6 1 (fl b + n) 7)] _ _ (res_cell hb))
  have HB := res_bel hb #[.int .u8 (mk 6 1 (fl b + n) 0), .int .u8 (mk 6 1 (fl b + n) 1), .int .u8 (mk 6 1 (fl b + n) 2), .int .u8 (mk 6 1 (fl b + n) 3), .int .u8 (mk 6 1 (fl b + n) 4), .int .u8 (mk 6 1 (fl b + n) 5), .int .u8 (mk 6 1 (fl b + n) 6), .int .u8 (mk 6 1 (fl b + n) 7)]
  generalize w1.setRow w.heap.size #[.int .u8 (mk 6 1 (fl b + n) 0), .int .u8 (mk 6 1 (fl b + n) 1), .int .u8 (mk 6 1 (fl b + n) 2), .int .u8 (mk 6 1 (fl b + n) 3), .int .u8 (mk 6 1 (fl b + n) 4), .int .u8 (mk 6 1 (fl b + n) 5), .int .u8 (mk 6 1 (fl b + n) 6), .int .u8 (mk 6 1 (fl b + n) 7)] = V at HR HB ⊢
  clear hb q0 K0
  go_wp2
  exact bodyPost_ret (results_row_tmp (by rfl) _ _ w.heap.size _ _ _ _ rfl HR.out Tryd.underlying24 rfl (by kernel_rfl)) rfl ⟨rfl, HB⟩

set_option maxHeartbeats 2000000 in
theorem rlabel_is (b : Bool) (n : Int) (h0 : 0 ≤ n) (h1 : n ≤ 16777215) (w : World) :
    Calls Tryd.prog 21 #[.bool b, .int .u32 n] w fun r w' => r = .returned (.tuple #[.agg #[.int .u8 (mk 6 1 (fl b + n) 0), .int .u8 (mk 6 1 (fl b + n) 1), .int .u8 (mk 6 1 (fl b + n) 2), .int .u8 (mk 6 1 (fl b + n) 3), .int .u8 (mk 6 1 (fl b + n) 4), .int .u8 (mk 6 1 (fl b + n) 5), .int .u8 (mk 6 1 (fl b + n) 6), .int .u8 (mk 6 1 (fl b + n) 7)], .int .i64 0]) ∧ Below w.heap.size w w' := by
  obtain ⟨g0, g1⟩ := fl_bd b
  go_enter Tryd.func21, Tryd.ntmps21
  go_wp2_with (go_at_call 62; refine (rflag_is _ _).mono ?_; rintro r w0 ⟨rfl, rfl⟩)
  go_at_call 61
  refine (made_is 6 1 (fl b + n) (by omega) (by omega) _).mono ?_
  rintro r w1 ⟨rfl, hb⟩
  rename_i Q1 K1 q1 K0 q0
  dsimp only
  refine q0 _ _ ?_
  refine wpList_store_row rfl 24 (.tmp 4) (.tmp 14) rfl w.heap.size #[.int .u8 (mk 6 1 (fl b + n) 0), .int .u8 (mk 6 1 (fl b + n) 1), .int .u8 (mk 6 1 (fl b + n) 2), .int .u8 (mk 6 1 (fl b + n) 3), .int .u8 (mk 6 1 (fl b + n) 4), .int .u8 (mk 6 1 (fl b + n) 5), .int .u8 (mk 6 1 (fl b + n) 6), .int .u8 (mk 6 1 (fl b + n) 7)] rfl rfl 24 _ (res_cell hb) (by kernel_rfl) rfl (by kernel_rfl) ?_
  have HR := Lib.hid (setRow_heap _ w.heap.size _ #[.int .u8 (mk 6 1 (fl b + n) 0), .int .u8 (mk 6 1 (fl b + n) 1), .int .u8 (mk 6 1 (fl b + n) 2), .int .u8 (mk 6 1 (fl b + n) 3), .int .u8 (mk 6 1 (fl b + n) 4), .int .u8 (mk 6 1 (fl b + n) 5), .int .u8 (mk 6 1 (fl b + n) 6), .int .u8 (mk 6 1 (fl b + n) 7)] _ _ (res_cell hb))
  have HB := res_bel hb #[.int .u8 (mk 6 1 (fl b + n) 0), .int .u8 (mk 6 1 (fl b + n) 1), .int .u8 (mk 6 1 (fl b + n) 2), .int .u8 (mk 6 1 (fl b + n) 3), .int .u8 (mk 6 1 (fl b + n) 4), .int .u8 (mk 6 1 (fl b + n) 5), .int .u8 (mk 6 1 (fl b + n) 6), .int .u8 (mk 6 1 (fl b + n) 7)]
  generalize w1.setRow w.heap.size #[.int .u8 (mk 6 1 (fl b + n) 0), .int .u8 (mk 6 1 (fl b + n) 1), .int .u8 (mk 6 1 (fl b + n) 2), .int .u8 (mk 6 1 (fl b + n) 3), .int .u8 (mk 6 1 (fl b + n) 4), .int .u8 (mk 6 1 (fl b + n) 5), .int .u8 (mk 6 1 (fl b + n) 6), .int .u8 (mk 6 1 (fl b + n) 7)] = V at HR HB ⊢
  clear hb q0 K0
  go_wp2
  exact bodyPost_ret (results_row_tmp (by rfl) _ _ w.heap.size _ _ _ _ rfl HR.out Tryd.underlying24 rfl (by kernel_rfl)) rfl ⟨rfl, HB⟩

set_option maxHeartbeats 2000000 in
theorem label_no (b : Bool) (n : Int) (h1 : 16777215 < n) (w : World) :
    Calls Tryd.prog 10 #[.bool b, .int .u32 n] w fun r w' => r = .returned (.tuple #[.agg #[.int .u8 0, .int .u8 0, .int .u8 0, .int .u8 0, .int .u8 0, .int .u8 0, .int .u8 0, .int .u8 0], .int .i64 2]) ∧ Below w.heap.size w w' := by
  go_enter Tryd.func10, Tryd.ntmps10
  go_wp2
  refine bodyPost_ret (v := .tuple #[.agg #[.int .u8 0, .int .u8 0, .int .u8 0, .int .u8 0, .int .u8 0, .int .u8 0, .int .u8 0, .int .u8 0], .int .i64 2]) (by simp [results, Tryd.results10, go_sem]) rfl ⟨rfl, ?_⟩
  exact (Below.refl _ _).alloc (Nat.le_refl _) _

set_option maxHeartbeats 2000000 in
theorem rlabel_no (b : Bool) (n : Int) (h1 : 16777215 < n) (w : World) :
    Calls Tryd.prog 21 #[.bool b, .int .u32 n] w fun r w' => r = .returned (.tuple #[.agg #[.int .u8 0, .int .u8 0, .int .u8 0, .int .u8 0, .int .u8 0, .int .u8 0, .int .u8 0, .int .u8 0], .int .i64 2]) ∧ Below w.heap.size w w' := by
  go_enter Tryd.func21, Tryd.ntmps21
  go_wp2
  refine bodyPost_ret (v := .tuple #[.agg #[.int .u8 0, .int .u8 0, .int .u8 0, .int .u8 0, .int .u8 0, .int .u8 0, .int .u8 0, .int .u8 0], .int .i64 2]) (by simp [results, Tryd.results21, go_sem]) rfl ⟨rfl, ?_⟩
  exact (Below.refl _ _).alloc (Nat.le_refl _) _

set_option maxHeartbeats 2000000 in
theorem encap_is (n : Int) (h0 : 0 ≤ n) (h1 : n ≤ 65535) (w : World) (hK : KI w) :
    Calls Tryd.prog 11 #[.int .i64 n] w fun r w' => r = .returned (.tuple #[.agg #[.int .u8 (mk 3 12 n 0), .int .u8 (mk 3 12 n 1), .int .u8 (mk 3 12 n 2), .int .u8 (mk 3 12 n 3), .int .u8 (mk 3 12 n 4), .int .u8 (mk 3 12 n 5), .int .u8 (mk 3 12 n 6), .int .u8 (mk 3 12 n 7)], .int .i64 0]) ∧ Below w.heap.size w w' := by
  have b1 := (Below.refl w.heap.size w).alloc (Nat.le_refl _) (.cells #[.int .u8 0, .int .u8 0, .int .u8 0, .int .u8 0, .int .u8 0, .int .u8 0, .int .u8 0, .int .u8 0] 24)
  have hk1 := hK.below b1 hK.lt
  go_enter Tryd.func11, Tryd.ntmps11
  go_wp2_with (go_at_call 50; refine (within_yes _ _ (by omega) (by omega) _).mono ?_; rintro r w0 ⟨rfl, rfl⟩)
  go_at_call 48
  refine (build_is 2 (by decide) (n) (by omega) (by omega) _ hk1).mono ?_
  rintro r w1 ⟨rfl, hb⟩
  rename_i Q1 K1 q1 K0 q0
  dsimp only
  refine q0 _ _ ?_
  refine wpList_store_row rfl 24 (.tmp 2) (.tmp 10) rfl w.heap.size #[.int .u8 (mk 3 12 n 0), .int .u8 (mk 3 12 n 1), .int .u8 (mk 3 12 n 2), .int .u8 (mk 3 12 n 3), .int .u8 (mk 3 12 n 4), .int .u8 (mk 3 12 n 5), .int .u8 (mk 3 12 n 6), .int .u8 (mk 3 12 n 7)] rfl rfl 24 _ (res_cell hb) (by kernel_rfl) rfl (by kernel_rfl) ?_
  have HR := Lib.hid (setRow_heap _ w.heap.size _ #[.int .u8 (mk 3 12 n 0), .int .u8 (mk 3 12 n 1), .int .u8 (mk 3 12 n 2), .int .u8 (mk 3 12 n 3), .int .u8 (mk 3 12 n 4), .int .u8 (mk 3 12 n 5), .int .u8 (mk 3 12 n 6), .int .u8 (mk 3 12 n 7)] _ _ (res_cell hb))
  have HB := res_bel hb #[.int .u8 (mk 3 12 n 0), .int .u8 (mk 3 12 n 1), .int .u8 (mk 3 12 n 2), .int .u8 (mk 3 12 n 3), .int .u8 (mk 3 12 n 4), .int .u8 (mk 3 12 n 5), .int .u8 (mk 3 12 n 6), .int .u8 (mk 3 12 n 7)]
  generalize w1.setRow w.heap.size #[.int .u8 (mk 3 12 n 0), .int .u8 (mk 3 12 n 1), .int .u8 (mk 3 12 n 2), .int .u8 (mk 3 12 n 3), .int .u8 (mk 3 12 n 4), .int .u8 (mk 3 12 n 5), .int .u8 (mk 3 12 n 6), .int .u8 (mk 3 12 n 7)] = V at HR HB ⊢
  clear hb q0 K0
  go_wp2
  exact bodyPost_ret (results_row_tmp (by rfl) _ _ w.heap.size _ _ _ _ rfl HR.out Tryd.underlying24 rfl (by kernel_rfl)) rfl ⟨rfl, HB⟩

set_option maxHeartbeats 2000000 in
theorem rencap_is (n : Int) (h0 : 0 ≤ n) (h1 : n ≤ 65535) (w : World) :
    Calls Tryd.prog 20 #[.int .i64 n] w fun r w' => r = .returned (.tuple #[.agg #[.int .u8 (mk 3 12 n 0), .int .u8 (mk 3 12 n 1), .int .u8 (mk 3 12 n 2), .int .u8 (mk 3 12 n 3), .int .u8 (mk 3 12 n 4), .int .u8 (mk 3 12 n 5), .int .u8 (mk 3 12 n 6), .int .u8 (mk 3 12 n 7)], .int .i64 0]) ∧ Below w.heap.size w w' := by
  go_enter Tryd.func20, Tryd.ntmps20
  go_wp2_with fail
  go_at_call 61
  refine (made_is 3 12 (n) (by omega) (by omega) _).mono ?_
  rintro r w1 ⟨rfl, hb⟩
  rename_i Q1 K1 q1 K0 q0
  dsimp only
  refine q0 _ _ ?_
  refine wpList_store_row rfl 24 (.tmp 2) (.tmp 13) rfl w.heap.size #[.int .u8 (mk 3 12 n 0), .int .u8 (mk 3 12 n 1), .int .u8 (mk 3 12 n 2), .int .u8 (mk 3 12 n 3), .int .u8 (mk 3 12 n 4), .int .u8 (mk 3 12 n 5), .int .u8 (mk 3 12 n 6), .int .u8 (mk 3 12 n 7)] rfl rfl 24 _ (res_cell hb) (by kernel_rfl) rfl (by kernel_rfl) ?_
  have HR := Lib.hid (setRow_heap _ w.heap.size _ #[.int .u8 (mk 3 12 n 0), .int .u8 (mk 3 12 n 1), .int .u8 (mk 3 12 n 2), .int .u8 (mk 3 12 n 3), .int .u8 (mk 3 12 n 4), .int .u8 (mk 3 12 n 5), .int .u8 (mk 3 12 n 6), .int .u8 (mk 3 12 n 7)] _ _ (res_cell hb))
  have HB := res_bel hb #[.int .u8 (mk 3 12 n 0), .int .u8 (mk 3 12 n 1), .int .u8 (mk 3 12 n 2), .int .u8 (mk 3 12 n 3), .int .u8 (mk 3 12 n 4), .int .u8 (mk 3 12 n 5), .int .u8 (mk 3 12 n 6), .int .u8 (mk 3 12 n 7)]
  generalize w1.setRow w.heap.size #[.int .u8 (mk 3 12 n 0), .int .u8 (mk 3 12 n 1), .int .u8 (mk 3 12 n 2), .int .u8 (mk 3 12 n 3), .int .u8 (mk 3 12 n 4), .int .u8 (mk 3 12 n 5), .int .u8 (mk 3 12 n 6), .int .u8 (mk 3 12 n 7)] = V at HR HB ⊢
  clear hb q0 K0
  go_wp2
  exact bodyPost_ret (results_row_tmp (by rfl) _ _ w.heap.size _ _ _ _ rfl HR.out Tryd.underlying24 rfl (by kernel_rfl)) rfl ⟨rfl, HB⟩

set_option maxHeartbeats 2000000 in
theorem encap_no (n : Int) (h : n < 0 ∨ 65535 < n) (w : World) :
    Calls Tryd.prog 11 #[.int .i64 n] w fun r w' => r = .returned (.tuple #[.agg #[.int .u8 0, .int .u8 0, .int .u8 0, .int .u8 0, .int .u8 0, .int .u8 0, .int .u8 0, .int .u8 0], .int .i64 2]) ∧ Below w.heap.size w w' := by
  have HN := Lib.hid h
  clear h
  go_enter Tryd.func11, Tryd.ntmps11
  go_wp2_with (go_at_call 50; refine (within_no _ _ HN.out _).mono ?_; rintro r w0 ⟨rfl, rfl⟩)
  refine bodyPost_ret (v := .tuple #[.agg #[.int .u8 0, .int .u8 0, .int .u8 0, .int .u8 0, .int .u8 0, .int .u8 0, .int .u8 0, .int .u8 0], .int .i64 2]) (by simp [results, Tryd.results11, go_sem]) rfl ⟨rfl, ?_⟩
  exact (Below.refl _ _).alloc (Nat.le_refl _) _

set_option maxHeartbeats 2000000 in
theorem rencap_lo (n : Int) (h : n < 0) (w : World) :
    Calls Tryd.prog 20 #[.int .i64 n] w fun r w' => r = .returned (.tuple #[.agg #[.int .u8 0, .int .u8 0, .int .u8 0, .int .u8 0, .int .u8 0, .int .u8 0, .int .u8 0, .int .u8 0], .int .i64 2]) ∧ Below w.heap.size w w' := by
  go_enter Tryd.func20, Tryd.ntmps20
  go_wp2
  refine bodyPost_ret (v := .tuple #[.agg #[.int .u8 0, .int .u8 0, .int .u8 0, .int .u8 0, .int .u8 0, .int .u8 0, .int .u8 0, .int .u8 0], .int .i64 2]) (by simp [results, Tryd.results20, go_sem]) rfl ⟨rfl, ?_⟩
  exact (Below.refl _ _).alloc (Nat.le_refl _) _

set_option maxHeartbeats 2000000 in
theorem rencap_hi (n : Int) (h0 : 0 ≤ n) (h : 65535 < n) (w : World) :
    Calls Tryd.prog 20 #[.int .i64 n] w fun r w' => r = .returned (.tuple #[.agg #[.int .u8 0, .int .u8 0, .int .u8 0, .int .u8 0, .int .u8 0, .int .u8 0, .int .u8 0, .int .u8 0], .int .i64 2]) ∧ Below w.heap.size w w' := by
  go_enter Tryd.func20, Tryd.ntmps20
  go_wp2
  refine bodyPost_ret (v := .tuple #[.agg #[.int .u8 0, .int .u8 0, .int .u8 0, .int .u8 0, .int .u8 0, .int .u8 0, .int .u8 0, .int .u8 0], .int .i64 2]) (by simp [results, Tryd.results20, go_sem]) rfl ⟨rfl, ?_⟩
  exact (Below.refl _ _).alloc (Nat.le_refl _) _

set_option maxHeartbeats 2000000 in
theorem hardware_is (k : Nat) (hk : k < 8) (m : Int) (h0 : 0 ≤ m) (h1 : m ≤ 281474976710655) (w : World) (hK : KI w) :
    Calls Tryd.prog 51 #[.int .i64 k, .int .u64 m] w fun r w' => r = .returned (.tuple #[.agg #[.int .u8 (mk (khi k) (klo k) m 0), .int .u8 (mk (khi k) (klo k) m 1), .int .u8 (mk (khi k) (klo k) m 2), .int .u8 (mk (khi k) (klo k) m 3), .int .u8 (mk (khi k) (klo k) m 4), .int .u8 (mk (khi k) (klo k) m 5), .int .u8 (mk (khi k) (klo k) m 6), .int .u8 (mk (khi k) (klo k) m 7)], .int .i64 0]) ∧ Below w.heap.size w w' := by
  have b1 := (Below.refl w.heap.size w).alloc (Nat.le_refl _) (.cells #[.int .u8 0, .int .u8 0, .int .u8 0, .int .u8 0, .int .u8 0, .int .u8 0, .int .u8 0, .int .u8 0] 24)
  have hk1 := hK.below b1 hK.lt
  go_enter Tryd.func51, Tryd.ntmps51
  go_wp2_with fail
  go_at_call 48
  refine (build_is k hk (m) (by omega) (by omega) _ hk1).mono ?_
  rintro r w1 ⟨rfl, hb⟩
  rename_i Q1 K1 q1 K0 q0
  dsimp only
  refine q0 _ _ ?_
  refine wpList_store_row rfl 24 (.tmp 4) (.tmp 11) rfl w.heap.size #[.int .u8 (mk (khi k) (klo k) m 0), .int .u8 (mk (khi k) (klo k) m 1), .int .u8 (mk (khi k) (klo k) m 2), .int .u8 (mk (khi k) (klo k) m 3), .int .u8 (mk (khi k) (klo k) m 4), .int .u8 (mk (khi k) (klo k) m 5), .int .u8 (mk (khi k) (klo k) m 6), .int .u8 (mk (khi k) (klo k) m 7)] rfl rfl 24 _ (res_cell hb) (by kernel_rfl) rfl (by kernel_rfl) ?_
  have HR := Lib.hid (setRow_heap _ w.heap.size _ #[.int .u8 (mk (khi k) (klo k) m 0), .int .u8 (mk (khi k) (klo k) m 1), .int .u8 (mk (khi k) (klo k) m 2), .int .u8 (mk (khi k) (klo k) m 3), .int .u8 (mk (khi k) (klo k) m 4), .int .u8 (mk (khi k) (klo k) m 5), .int .u8 (mk (khi k) (klo k) m 6), .int .u8 (mk (khi k) (klo k) m 7)] _ _ (res_cell hb))
  have HB := res_bel hb #[.int .u8 (mk (khi k) (klo k) m 0), .int .u8 (mk (khi k) (klo k) m 1), .int .u8 (mk (khi k) (klo k) m 2), .int .u8 (mk (khi k) (klo k) m 3), .int .u8 (mk (khi k) (klo k) m 4), .int .u8 (mk (khi k) (klo k) m 5), .int .u8 (mk (khi k) (klo k) m 6), .int .u8 (mk (khi k) (klo k) m 7)]
  generalize w1.setRow w.heap.size #[.int .u8 (mk (khi k) (klo k) m 0), .int .u8 (mk (khi k) (klo k) m 1), .int .u8 (mk (khi k) (klo k) m 2), .int .u8 (mk (khi k) (klo k) m 3), .int .u8 (mk (khi k) (klo k) m 4), .int .u8 (mk (khi k) (klo k) m 5), .int .u8 (mk (khi k) (klo k) m 6), .int .u8 (mk (khi k) (klo k) m 7)] = V at HR HB ⊢
  clear hb q0 K0
  go_wp2
  exact bodyPost_ret (results_row_tmp (by rfl) _ _ w.heap.size _ _ _ _ rfl HR.out Tryd.underlying24 rfl (by kernel_rfl)) rfl ⟨rfl, HB⟩

set_option maxHeartbeats 2000000 in
theorem hardware_no (k m : Int) (h1 : 281474976710655 < m) (w : World) :
    Calls Tryd.prog 51 #[.int .i64 k, .int .u64 m] w fun r w' => r = .returned (.tuple #[.agg #[.int .u8 0, .int .u8 0, .int .u8 0, .int .u8 0, .int .u8 0, .int .u8 0, .int .u8 0, .int .u8 0], .int .i64 2]) ∧ Below w.heap.size w w' := by
  go_enter Tryd.func51, Tryd.ntmps51
  go_wp2
  refine bodyPost_ret (v := .tuple #[.agg #[.int .u8 0, .int .u8 0, .int .u8 0, .int .u8 0, .int .u8 0, .int .u8 0, .int .u8 0, .int .u8 0], .int .i64 2]) (by simp [results, Tryd.results51, go_sem]) rfl ⟨rfl, ?_⟩
  exact (Below.refl _ _).alloc (Nat.le_refl _) _

set_option maxHeartbeats 2000000 in
theorem rimport_is (m : Int) (h0 : 0 ≤ m) (h1 : m ≤ 281474976710655) (w : World) :
    Calls Tryd.prog 22 #[.int .u64 m] w fun r w' => r = .returned (.tuple #[.agg #[.int .u8 (mk 6 2 m 0), .int .u8 (mk 6 2 m 1), .int .u8 (mk 6 2 m 2), .int .u8 (mk 6 2 m 3), .int .u8 (mk 6 2 m 4), .int .u8 (mk 6 2 m 5), .int .u8 (mk 6 2 m 6), .int .u8 (mk 6 2 m 7)], .int .i64 0]) ∧ Below w.heap.size w w' := by
  go_enter Tryd.func22, Tryd.ntmps22
  go_wp2_with fail
  go_at_call 61
  refine (made_is 6 2 (m) (by omega) (by omega) _).mono ?_
  rintro r w1 ⟨rfl, hb⟩
  rename_i Q1 K1 q1 K0 q0
  dsimp only
  refine q0 _ _ ?_
  refine wpList_store_row rfl 24 (.tmp 2) (.tmp 8) rfl w.heap.size #[.int .u8 (mk 6 2 m 0), .int .u8 (mk 6 2 m 1), .int .u8 (mk 6 2 m 2), .int .u8 (mk 6 2 m 3), .int .u8 (mk 6 2 m 4), .int .u8 (mk 6 2 m 5), .int .u8 (mk 6 2 m 6), .int .u8 (mk 6 2 m 7)] rfl rfl 24 _ (res_cell hb) (by kernel_rfl) rfl (by kernel_rfl) ?_
  have HR := Lib.hid (setRow_heap _ w.heap.size _ #[.int .u8 (mk 6 2 m 0), .int .u8 (mk 6 2 m 1), .int .u8 (mk 6 2 m 2), .int .u8 (mk 6 2 m 3), .int .u8 (mk 6 2 m 4), .int .u8 (mk 6 2 m 5), .int .u8 (mk 6 2 m 6), .int .u8 (mk 6 2 m 7)] _ _ (res_cell hb))
  have HB := res_bel hb #[.int .u8 (mk 6 2 m 0), .int .u8 (mk 6 2 m 1), .int .u8 (mk 6 2 m 2), .int .u8 (mk 6 2 m 3), .int .u8 (mk 6 2 m 4), .int .u8 (mk 6 2 m 5), .int .u8 (mk 6 2 m 6), .int .u8 (mk 6 2 m 7)]
  generalize w1.setRow w.heap.size #[.int .u8 (mk 6 2 m 0), .int .u8 (mk 6 2 m 1), .int .u8 (mk 6 2 m 2), .int .u8 (mk 6 2 m 3), .int .u8 (mk 6 2 m 4), .int .u8 (mk 6 2 m 5), .int .u8 (mk 6 2 m 6), .int .u8 (mk 6 2 m 7)] = V at HR HB ⊢
  clear hb q0 K0
  go_wp2
  exact bodyPost_ret (results_row_tmp (by rfl) _ _ w.heap.size _ _ _ _ rfl HR.out Tryd.underlying24 rfl (by kernel_rfl)) rfl ⟨rfl, HB⟩

set_option maxHeartbeats 2000000 in
theorem rrouter_is (m : Int) (h0 : 0 ≤ m) (h1 : m ≤ 281474976710655) (w : World) :
    Calls Tryd.prog 23 #[.int .u64 m] w fun r w' => r = .returned (.tuple #[.agg #[.int .u8 (mk 6 3 m 0), .int .u8 (mk 6 3 m 1), .int .u8 (mk 6 3 m 2), .int .u8 (mk 6 3 m 3), .int .u8 (mk 6 3 m 4), .int .u8 (mk 6 3 m 5), .int .u8 (mk 6 3 m 6), .int .u8 (mk 6 3 m 7)], .int .i64 0]) ∧ Below w.heap.size w w' := by
  go_enter Tryd.func23, Tryd.ntmps23
  go_wp2_with fail
  go_at_call 61
  refine (made_is 6 3 (m) (by omega) (by omega) _).mono ?_
  rintro r w1 ⟨rfl, hb⟩
  rename_i Q1 K1 q1 K0 q0
  dsimp only
  refine q0 _ _ ?_
  refine wpList_store_row rfl 24 (.tmp 2) (.tmp 8) rfl w.heap.size #[.int .u8 (mk 6 3 m 0), .int .u8 (mk 6 3 m 1), .int .u8 (mk 6 3 m 2), .int .u8 (mk 6 3 m 3), .int .u8 (mk 6 3 m 4), .int .u8 (mk 6 3 m 5), .int .u8 (mk 6 3 m 6), .int .u8 (mk 6 3 m 7)] rfl rfl 24 _ (res_cell hb) (by kernel_rfl) rfl (by kernel_rfl) ?_
  have HR := Lib.hid (setRow_heap _ w.heap.size _ #[.int .u8 (mk 6 3 m 0), .int .u8 (mk 6 3 m 1), .int .u8 (mk 6 3 m 2), .int .u8 (mk 6 3 m 3), .int .u8 (mk 6 3 m 4), .int .u8 (mk 6 3 m 5), .int .u8 (mk 6 3 m 6), .int .u8 (mk 6 3 m 7)] _ _ (res_cell hb))
  have HB := res_bel hb #[.int .u8 (mk 6 3 m 0), .int .u8 (mk 6 3 m 1), .int .u8 (mk 6 3 m 2), .int .u8 (mk 6 3 m 3), .int .u8 (mk 6 3 m 4), .int .u8 (mk 6 3 m 5), .int .u8 (mk 6 3 m 6), .int .u8 (mk 6 3 m 7)]
  generalize w1.setRow w.heap.size #[.int .u8 (mk 6 3 m 0), .int .u8 (mk 6 3 m 1), .int .u8 (mk 6 3 m 2), .int .u8 (mk 6 3 m 3), .int .u8 (mk 6 3 m 4), .int .u8 (mk 6 3 m 5), .int .u8 (mk 6 3 m 6), .int .u8 (mk 6 3 m 7)] = V at HR HB ⊢
  clear hb q0 K0
  go_wp2
  exact bodyPost_ret (results_row_tmp (by rfl) _ _ w.heap.size _ _ _ _ rfl HR.out Tryd.underlying24 rfl (by kernel_rfl)) rfl ⟨rfl, HB⟩

set_option maxHeartbeats 2000000 in
theorem rimport_no (m : Int) (h1 : 281474976710655 < m) (w : World) :
    Calls Tryd.prog 22 #[.int .u64 m] w fun r w' => r = .returned (.tuple #[.agg #[.int .u8 0, .int .u8 0, .int .u8 0, .int .u8 0, .int .u8 0, .int .u8 0, .int .u8 0, .int .u8 0], .int .i64 2]) ∧ Below w.heap.size w w' := by
  go_enter Tryd.func22, Tryd.ntmps22
  go_wp2
  refine bodyPost_ret (v := .tuple #[.agg #[.int .u8 0, .int .u8 0, .int .u8 0, .int .u8 0, .int .u8 0, .int .u8 0, .int .u8 0, .int .u8 0], .int .i64 2]) (by simp [results, Tryd.results22, go_sem]) rfl ⟨rfl, ?_⟩
  exact (Below.refl _ _).alloc (Nat.le_refl _) _

set_option maxHeartbeats 2000000 in
theorem rrouter_no (m : Int) (h1 : 281474976710655 < m) (w : World) :
    Calls Tryd.prog 23 #[.int .u64 m] w fun r w' => r = .returned (.tuple #[.agg #[.int .u8 0, .int .u8 0, .int .u8 0, .int .u8 0, .int .u8 0, .int .u8 0, .int .u8 0, .int .u8 0], .int .i64 2]) ∧ Below w.heap.size w w' := by
  go_enter Tryd.func23, Tryd.ntmps23
  go_wp2
  refine bodyPost_ret (v := .tuple #[.agg #[.int .u8 0, .int .u8 0, .int .u8 0, .int .u8 0, .int .u8 0, .int .u8 0, .int .u8 0, .int .u8 0], .int .i64 2]) (by simp [results, Tryd.results23, go_sem]) rfl ⟨rfl, ?_⟩
  exact (Below.refl _ _).alloc (Nat.le_refl _) _

set_option maxHeartbeats 2000000 in
theorem election_is (a p : Int) (a0 : 0 ≤ a) (a1 : a ≤ 31) (h0 : 0 ≤ p) (h1 : p ≤ 65535) (w : World) (hK : KI w) :
    Calls Tryd.prog 14 #[.int .i64 a, .int .i64 p] w fun r w' => r = .returned (.tuple #[.agg #[.int .u8 (mk 6 6 (a * 1099511627776 + p) 0), .int .u8 (mk 6 6 (a * 1099511627776 + p) 1), .int .u8 (mk 6 6 (a * 1099511627776 + p) 2), .int .u8 (mk 6 6 (a * 1099511627776 + p) 3), .int .u8 (mk 6 6 (a * 1099511627776 + p) 4), .int .u8 (mk 6 6 (a * 1099511627776 + p) 5), .int .u8 (mk 6 6 (a * 1099511627776 + p) 6), .int .u8 (mk 6 6 (a * 1099511627776 + p) 7)], .int .i64 0]) ∧ Below w.heap.size w w' := by
  have ho : bits .or .u64 (a * 1099511627776) p = a * 1099511627776 + p := or_add a p 40 a0 (by omega) h0 (by omega) (by decide)
  have b1 := (Below.refl w.heap.size w).alloc (Nat.le_refl _) (.cells #[.int .u8 0, .int .u8 0, .int .u8 0, .int .u8 0, .int .u8 0, .int .u8 0, .int .u8 0, .int .u8 0] 24)
  have hk1 := hK.below b1 hK.lt
  go_enter Tryd.func14, Tryd.ntmps14
  go_wp2_with (go_at_call 50; refine (within_yes _ _ (by omega) (by omega) _).mono ?_; rintro r w0 ⟨rfl, rfl⟩)
  go_at_call 48
  refine (build_is 7 (by decide) (a * 1099511627776 + p) (by omega) (by omega) _ hk1).mono ?_
  rintro r w1 ⟨rfl, hb⟩
  rename_i Q1 K1 q1 K0 q0
  dsimp only
  refine q0 _ _ ?_
  refine wpList_store_row rfl 24 (.tmp 4) (.tmp 21) rfl w.heap.size #[.int .u8 (mk 6 6 (a * 1099511627776 + p) 0), .int .u8 (mk 6 6 (a * 1099511627776 + p) 1), .int .u8 (mk 6 6 (a * 1099511627776 + p) 2), .int .u8 (mk 6 6 (a * 1099511627776 + p) 3), .int .u8 (mk 6 6 (a * 1099511627776 + p) 4), .int .u8 (mk 6 6 (a * 1099511627776 + p) 5), .int .u8 (mk 6 6 (a * 1099511627776 + p) 6), .int .u8 (mk 6 6 (a * 1099511627776 + p) 7)] rfl rfl 24 _ (res_cell hb) (by kernel_rfl) rfl (by kernel_rfl) ?_
  have HR := Lib.hid (setRow_heap _ w.heap.size _ #[.int .u8 (mk 6 6 (a * 1099511627776 + p) 0), .int .u8 (mk 6 6 (a * 1099511627776 + p) 1), .int .u8 (mk 6 6 (a * 1099511627776 + p) 2), .int .u8 (mk 6 6 (a * 1099511627776 + p) 3), .int .u8 (mk 6 6 (a * 1099511627776 + p) 4), .int .u8 (mk 6 6 (a * 1099511627776 + p) 5), .int .u8 (mk 6 6 (a * 1099511627776 + p) 6), .int .u8 (mk 6 6 (a * 1099511627776 + p) 7)] _ _ (res_cell hb))
  have HB := res_bel hb #[.int .u8 (mk 6 6 (a * 1099511627776 + p) 0), .int .u8 (mk 6 6 (a * 1099511627776 + p) 1), .int .u8 (mk 6 6 (a * 1099511627776 + p) 2), .int .u8 (mk 6 6 (a * 1099511627776 + p) 3), .int .u8 (mk 6 6 (a * 1099511627776 + p) 4), .int .u8 (mk 6 6 (a * 1099511627776 + p) 5), .int .u8 (mk 6 6 (a * 1099511627776 + p) 6), .int .u8 (mk 6 6 (a * 1099511627776 + p) 7)]
  generalize w1.setRow w.heap.size #[.int .u8 (mk 6 6 (a * 1099511627776 + p) 0), .int .u8 (mk 6 6 (a * 1099511627776 + p) 1), .int .u8 (mk 6 6 (a * 1099511627776 + p) 2), .int .u8 (mk 6 6 (a * 1099511627776 + p) 3), .int .u8 (mk 6 6 (a * 1099511627776 + p) 4), .int .u8 (mk 6 6 (a * 1099511627776 + p) 5), .int .u8 (mk 6 6 (a * 1099511627776 + p) 6), .int .u8 (mk 6 6 (a * 1099511627776 + p) 7)] = V at HR HB ⊢
  clear hb q0 K0
  go_wp2
  exact bodyPost_ret (results_row_tmp (by rfl) _ _ w.heap.size _ _ _ _ rfl HR.out Tryd.underlying24 rfl (by kernel_rfl)) rfl ⟨rfl, HB⟩

set_option maxHeartbeats 2000000 in
theorem relection_is (a p : Int) (a0 : 0 ≤ a) (a1 : a ≤ 31) (h0 : 0 ≤ p) (h1 : p ≤ 65535) (w : World) :
    Calls Tryd.prog 24 #[.int .i64 a, .int .i64 p] w fun r w' => r = .returned (.tuple #[.agg #[.int .u8 (mk 6 6 (a * 1099511627776 + p) 0), .int .u8 (mk 6 6 (a * 1099511627776 + p) 1), .int .u8 (mk 6 6 (a * 1099511627776 + p) 2), .int .u8 (mk 6 6 (a * 1099511627776 + p) 3), .int .u8 (mk 6 6 (a * 1099511627776 + p) 4), .int .u8 (mk 6 6 (a * 1099511627776 + p) 5), .int .u8 (mk 6 6 (a * 1099511627776 + p) 6), .int .u8 (mk 6 6 (a * 1099511627776 + p) 7)], .int .i64 0]) ∧ Below w.heap.size w w' := by
  go_enter Tryd.func24, Tryd.ntmps24
  go_wp2_with fail
  go_at_call 61
  refine (made_is 6 6 (a * 1099511627776 + p) (by omega) (by omega) _).mono ?_
  rintro r w1 ⟨rfl, hb⟩
  rename_i Q1 K1 q1 K0 q0
  dsimp only
  refine q0 _ _ ?_
  refine wpList_store_row rfl 24 (.tmp 4) (.tmp 27) rfl w.heap.size #[.int .u8 (mk 6 6 (a * 1099511627776 + p) 0), .int .u8 (mk 6 6 (a * 1099511627776 + p) 1), .int .u8 (mk 6 6 (a * 1099511627776 + p) 2), .int .u8 (mk 6 6 (a * 1099511627776 + p) 3), .int .u8 (mk 6 6 (a * 1099511627776 + p) 4), .int .u8 (mk 6 6 (a * 1099511627776 + p) 5), .int .u8 (mk 6 6 (a * 1099511627776 + p) 6), .int .u8 (mk 6 6 (a * 1099511627776 + p) 7)] rfl rfl 24 _ (res_cell hb) (by kernel_rfl) rfl (by kernel_rfl) ?_
  have HR := Lib.hid (setRow_heap _ w.heap.size _ #[.int .u8 (mk 6 6 (a * 1099511627776 + p) 0), .int .u8 (mk 6 6 (a * 1099511627776 + p) 1), .int .u8 (mk 6 6 (a * 1099511627776 + p) 2), .int .u8 (mk 6 6 (a * 1099511627776 + p) 3), .int .u8 (mk 6 6 (a * 1099511627776 + p) 4), .int .u8 (mk 6 6 (a * 1099511627776 + p) 5), .int .u8 (mk 6 6 (a * 1099511627776 + p) 6), .int .u8 (mk 6 6 (a * 1099511627776 + p) 7)] _ _ (res_cell hb))
  have HB := res_bel hb #[.int .u8 (mk 6 6 (a * 1099511627776 + p) 0), .int .u8 (mk 6 6 (a * 1099511627776 + p) 1), .int .u8 (mk 6 6 (a * 1099511627776 + p) 2), .int .u8 (mk 6 6 (a * 1099511627776 + p) 3), .int .u8 (mk 6 6 (a * 1099511627776 + p) 4), .int .u8 (mk 6 6 (a * 1099511627776 + p) 5), .int .u8 (mk 6 6 (a * 1099511627776 + p) 6), .int .u8 (mk 6 6 (a * 1099511627776 + p) 7)]
  generalize w1.setRow w.heap.size #[.int .u8 (mk 6 6 (a * 1099511627776 + p) 0), .int .u8 (mk 6 6 (a * 1099511627776 + p) 1), .int .u8 (mk 6 6 (a * 1099511627776 + p) 2), .int .u8 (mk 6 6 (a * 1099511627776 + p) 3), .int .u8 (mk 6 6 (a * 1099511627776 + p) 4), .int .u8 (mk 6 6 (a * 1099511627776 + p) 5), .int .u8 (mk 6 6 (a * 1099511627776 + p) 6), .int .u8 (mk 6 6 (a * 1099511627776 + p) 7)] = V at HR HB ⊢
  clear hb q0 K0
  go_wp2
  exact bodyPost_ret (results_row_tmp (by rfl) _ _ w.heap.size _ _ _ _ rfl HR.out Tryd.underlying24 rfl (by kernel_rfl)) rfl ⟨rfl, HB⟩

set_option maxHeartbeats 2000000 in
theorem election_alg (a p : Int) (h : a < 0 ∨ 31 < a) (w : World) :
    Calls Tryd.prog 14 #[.int .i64 a, .int .i64 p] w fun r w' => r = .returned (.tuple #[.agg #[.int .u8 0, .int .u8 0, .int .u8 0, .int .u8 0, .int .u8 0, .int .u8 0, .int .u8 0, .int .u8 0], .int .i64 2]) ∧ Below w.heap.size w w' := by
  have HN := Lib.hid h
  clear h
  go_enter Tryd.func14, Tryd.ntmps14
  go_wp2_with (go_at_call 50; refine (within_no _ _ HN.out _).mono ?_; rintro r w0 ⟨rfl, rfl⟩)
  refine bodyPost_ret (v := .tuple #[.agg #[.int .u8 0, .int .u8 0, .int .u8 0, .int .u8 0, .int .u8 0, .int .u8 0, .int .u8 0, .int .u8 0], .int .i64 2]) (by simp [results, Tryd.results14, go_sem]) rfl ⟨rfl, ?_⟩
  exact (Below.refl _ _).alloc (Nat.le_refl _) _

set_option maxHeartbeats 2000000 in
theorem election_pref (a p : Int) (a0 : 0 ≤ a) (a1 : a ≤ 31) (h : p < 0 ∨ 65535 < p) (w : World) :
    Calls Tryd.prog 14 #[.int .i64 a, .int .i64 p] w fun r w' => r = .returned (.tuple #[.agg #[.int .u8 0, .int .u8 0, .int .u8 0, .int .u8 0, .int .u8 0, .int .u8 0, .int .u8 0, .int .u8 0], .int .i64 2]) ∧ Below w.heap.size w w' := by
  have HN := Lib.hid h
  clear h
  go_enter Tryd.func14, Tryd.ntmps14
  go_wp2_with (go_at_call 50; (first | (with_reducible refine (within_yes a 31 a0 a1 _).mono ?_) | (with_reducible refine (within_no p 65535 HN.out _).mono ?_)); rintro r w0 ⟨rfl, rfl⟩)
  refine bodyPost_ret (v := .tuple #[.agg #[.int .u8 0, .int .u8 0, .int .u8 0, .int .u8 0, .int .u8 0, .int .u8 0, .int .u8 0, .int .u8 0], .int .i64 2]) (by simp [results, Tryd.results14, go_sem]) rfl ⟨rfl, ?_⟩
  exact (Below.refl _ _).alloc (Nat.le_refl _) _

set_option maxHeartbeats 2000000 in
theorem relection_no1 (a p : Int) (h : a < 0) (w : World) :
    Calls Tryd.prog 24 #[.int .i64 a, .int .i64 p] w fun r w' => r = .returned (.tuple #[.agg #[.int .u8 0, .int .u8 0, .int .u8 0, .int .u8 0, .int .u8 0, .int .u8 0, .int .u8 0, .int .u8 0], .int .i64 2]) ∧ Below w.heap.size w w' := by
  go_enter Tryd.func24, Tryd.ntmps24
  go_wp2
  refine bodyPost_ret (v := .tuple #[.agg #[.int .u8 0, .int .u8 0, .int .u8 0, .int .u8 0, .int .u8 0, .int .u8 0, .int .u8 0, .int .u8 0], .int .i64 2]) (by simp [results, Tryd.results24, go_sem]) rfl ⟨rfl, ?_⟩
  exact (Below.refl _ _).alloc (Nat.le_refl _) _

set_option maxHeartbeats 2000000 in
theorem relection_no2 (a p : Int) (a0 : 0 ≤ a) (h : 31 < a) (w : World) :
    Calls Tryd.prog 24 #[.int .i64 a, .int .i64 p] w fun r w' => r = .returned (.tuple #[.agg #[.int .u8 0, .int .u8 0, .int .u8 0, .int .u8 0, .int .u8 0, .int .u8 0, .int .u8 0, .int .u8 0], .int .i64 2]) ∧ Below w.heap.size w w' := by
  go_enter Tryd.func24, Tryd.ntmps24
  go_wp2
  refine bodyPost_ret (v := .tuple #[.agg #[.int .u8 0, .int .u8 0, .int .u8 0, .int .u8 0, .int .u8 0, .int .u8 0, .int .u8 0, .int .u8 0], .int .i64 2]) (by simp [results, Tryd.results24, go_sem]) rfl ⟨rfl, ?_⟩
  exact (Below.refl _ _).alloc (Nat.le_refl _) _

set_option maxHeartbeats 2000000 in
theorem relection_no3 (a p : Int) (a0 : 0 ≤ a) (a1 : a ≤ 31) (h : p < 0) (w : World) :
    Calls Tryd.prog 24 #[.int .i64 a, .int .i64 p] w fun r w' => r = .returned (.tuple #[.agg #[.int .u8 0, .int .u8 0, .int .u8 0, .int .u8 0, .int .u8 0, .int .u8 0, .int .u8 0, .int .u8 0], .int .i64 2]) ∧ Below w.heap.size w w' := by
  go_enter Tryd.func24, Tryd.ntmps24
  go_wp2
  refine bodyPost_ret (v := .tuple #[.agg #[.int .u8 0, .int .u8 0, .int .u8 0, .int .u8 0, .int .u8 0, .int .u8 0, .int .u8 0, .int .u8 0], .int .i64 2]) (by simp [results, Tryd.results24, go_sem]) rfl ⟨rfl, ?_⟩
  exact (Below.refl _ _).alloc (Nat.le_refl _) _

set_option maxHeartbeats 2000000 in
theorem relection_no4 (a p : Int) (a0 : 0 ≤ a) (a1 : a ≤ 31) (h0 : 0 ≤ p) (h : 65535 < p) (w : World) :
    Calls Tryd.prog 24 #[.int .i64 a, .int .i64 p] w fun r w' => r = .returned (.tuple #[.agg #[.int .u8 0, .int .u8 0, .int .u8 0, .int .u8 0, .int .u8 0, .int .u8 0, .int .u8 0, .int .u8 0], .int .i64 2]) ∧ Below w.heap.size w w' := by
  go_enter Tryd.func24, Tryd.ntmps24
  go_wp2
  refine bodyPost_ret (v := .tuple #[.agg #[.int .u8 0, .int .u8 0, .int .u8 0, .int .u8 0, .int .u8 0, .int .u8 0, .int .u8 0, .int .u8 0], .int .i64 2]) (by simp [results, Tryd.results24, go_sem]) rfl ⟨rfl, ?_⟩
  exact (Below.refl _ _).alloc (Nat.le_refl _) _
end Go.Proofs.YtmajalobkcnobaaDoor
