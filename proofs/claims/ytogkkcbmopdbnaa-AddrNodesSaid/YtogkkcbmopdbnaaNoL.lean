/- AddrNodes returns true, whatever the input: the cases. No condition. -/
import Derived.Test.YtogkkcbmopdbnaaNod
import Derived.Test.YtogkkcbmopdbnaaCov
import Derived.Test.YtogkkcbmopdbnaaReg
namespace Go.Proofs.Ytogkkcbmopdbnaa
open Go.RowKit Go.Sort
set_option linter.unusedVariables false

theorem same_no (a b : Nat) (x y : Int) (hxy : (x != y) = true) (w : World) (h0 : w.cell? ⟨a, 0, none⟩ = some (.int .u8 x)) (h1 : w.cell? ⟨b, 0, none⟩ = some (.int .u8 y)) :
    Calls Try.prog 19 #[.slice (some ⟨a, 0, none⟩) 10 10, .slice (some ⟨b, 0, none⟩) 10 10] w fun e w' => e = .returned (.bool false) ∧ Below w.heap.size w w' := by
  go_enter Try.func19, Try.ntmps19
  go_wp2
  refine wp_loop_rounds 1 ?_
  rw [rounds_succ]
  go_wp2
  go_quiet (fail)
  go_wp2
  go_ret
  exact ⟨rfl, ⟨rfl, rfl, rfl, Nat.le_refl _, fun _ _ => rfl⟩⟩

def sgB (k : Int) (j : Nat) : Int := if 0 ≤ k ∧ k < 64 then segB (k + 1) j else 0
def sgE (k : Int) : Int := if 0 ≤ k ∧ k < 64 then 0 else 2
theorem segment_any (k : Int) (w : World) :
    Calls Try.prog 14 #[.int .i64 k] w fun r W' => r = .returned (.tuple #[.agg #[.int .u8 (sgB k 0), .int .u8 (sgB k 1), .int .u8 (sgB k 2), .int .u8 (sgB k 3), .int .u8 (sgB k 4), .int .u8 (sgB k 5), .int .u8 (sgB k 6), .int .u8 (sgB k 7), .int .u8 (sgB k 8), .int .u8 (sgB k 9)], .int .i64 (sgE k)]) ∧ Below w.heap.size w W' := by
  by_cases h : 0 ≤ k ∧ k < 64
  · have := segment_yes k h.1 h.2 w
    simpa [sgB, sgE, h] using this
  · have := segment_no k (by omega) w
    simpa [sgB, sgE, h] using this
def lbA (k : Int) : Int := if 0 ≤ k ∧ k < 32 then 184483841 + k else 0
def lbE (k : Int) : Int := if 0 ≤ k ∧ k < 32 then 0 else 2
theorem loop_any (k : Int) (w : World) :
    Calls Try.prog 12 #[.int .i64 k] w fun e w' => e = .returned (.tuple #[.int .u32 (lbA k), .int .i64 (lbE k)]) ∧ w = w' := by
  by_cases h : 0 ≤ k ∧ k < 32
  · have := loop_yes k h.1 h.2 w
    simpa [lbA, lbE, h] using this
  · have := loop_no k (by omega) w
    simpa [lbA, lbE, h] using this

theorem wit_seg : ∀ n : Nat, n < 64 → wit (segB ((n : Int) + 1)) = n + 1 := by decide +kernel
theorem segB_bd (n : Int) : ∀ j, j < 10 → 0 ≤ segB (n + 1) j ∧ segB (n + 1) j < 256 := by
  intro j _
  unfold segB byt
  split
  · omega
  · split <;> omega
theorem eq_refl (e : Nat → Int) : eqE e e = true := (eqE_iff e e).2 fun _ _ => rfl
theorem eq_seg {n k : Int} (h0 : 0 ≤ n) (h1 : n < 64) (g0 : 0 ≤ k) (g1 : k < 64) : eqE (segB (n + 1)) (segB (k + 1)) = decide (n = k) := by
  rw [Bool.eq_iff_iff, eqE_iff, decide_eq_true_eq]
  constructor
  · intro h
    have := h 9 (by decide)
    simp [segB, byt] at this
    omega
  · rintro rfl _ _
    rfl
theorem own_seg (n : Int) (h0 : 0 ≤ n) (h1 : n < 64) (w : World) :
    Calls Try.prog 18 #[.agg #[.int .u8 (segB (n + 1) 0), .int .u8 (segB (n + 1) 1), .int .u8 (segB (n + 1) 2), .int .u8 (segB (n + 1) 3), .int .u8 (segB (n + 1) 4), .int .u8 (segB (n + 1) 5), .int .u8 (segB (n + 1) 6), .int .u8 (segB (n + 1) 7), .int .u8 (segB (n + 1) 8), .int .u8 (segB (n + 1) 9)]] w fun r w' => r = .returned (.tuple #[.int .i64 n, .bool true]) ∧ Below w.heap.size w w' := by
  have hw : wit (segB (n + 1)) = n + 1 := by
    have := wit_seg n.toNat (by omega)
    rwa [Int.toNat_of_nonneg h0] at this
  have := esiSegment_is (segB (n + 1)) (segB_bd n) (by omega) (by omega) true (by rw [hw]; exact eq_refl _) w
  rw [hw] at this
  simpa [show n + 1 - 1 = n by omega] using this

set_option maxRecDepth 100000 in
set_option maxHeartbeats 1000000 in
theorem nodesLaw_A (n m : Int) (h : n < 0) (w : World) :
    Calls Try.prog 5 #[.int .i64 n, .int .i64 m] w fun e w' => e = .returned (.bool true) ∧ Below w.heap.size w w' := by
  have S := St.start w
  have hz := run_eqE (fun _ => 0) (fun _ => 0)
  rw [eq_refl] at hz
  have HN : Hid (n < 0 ∨ 32 ≤ n) := by unfold Hid; omega
  have HS : Hid (n < 0 ∨ 64 ≤ n) := by unfold Hid; omega
  go_enter Try.func5, Try.ntmps5
  go_wp2_with (first
    | (go_at_call 6; refine (lives_any _).mono ?_; rintro x w1 ⟨rfl, rfl⟩)
    | (go_at_call 12; (with_reducible refine (loop_no n HN.out _).mono ?_); rintro x w1 ⟨rfl, rfl⟩)
    | (go_at_call 12; (with_reducible refine (loop_any m _).mono ?_); rintro x w1 ⟨rfl, rfl⟩)
    | (go_at_call 13; (with_reducible refine (rmac_no n HN.out _).mono ?_); rintro x w1 ⟨rfl, rfl⟩)
    | (go_at_call 14; (with_reducible refine (segment_no n HS.out _).mono ?_); rintro x wA ⟨rfl, hb⟩; (try clear k z); replace S := (by first | exact S.below hb | exact (S.box10 (fun _ => 0) 34).below hb | exact (S.box10 (segB (n + 1)) 34).below hb | exact (S.box10 (sgB m) 34).below hb); clear hb; have k := S.cells; have z := S.lts; simp only [Cells, Lts, and_true] at k z)
    | (go_at_call 14; (with_reducible refine (segment_any m _).mono ?_); rintro x wB ⟨rfl, hb⟩; (try clear k z); replace S := (by first | exact S.below hb | exact (S.box10 (fun _ => 0) 34).below hb | exact (S.box10 (segB (n + 1)) 34).below hb | exact (S.box10 (sgB m) 34).below hb); clear hb; have k := S.cells; have z := S.lts; simp only [Cells, Lts, and_true] at k z))
  go_ret
  exact ⟨rfl, (S.box10 (sgB m) 34).2⟩


set_option maxRecDepth 100000 in
set_option maxHeartbeats 1000000 in
theorem nodesLaw_B (n m : Int) (h1 : 64 ≤ n) (w : World) :
    Calls Try.prog 5 #[.int .i64 n, .int .i64 m] w fun e w' => e = .returned (.bool true) ∧ Below w.heap.size w w' := by
  have S := St.start w
  have hz := run_eqE (fun _ => 0) (fun _ => 0)
  rw [eq_refl] at hz
  have HN : Hid (n < 0 ∨ 32 ≤ n) := by unfold Hid; omega
  have HS : Hid (n < 0 ∨ 64 ≤ n) := by unfold Hid; omega
  have h2 : 0 ≤ n := by omega
  go_enter Try.func5, Try.ntmps5
  go_wp2_with (first
    | (go_at_call 6; refine (lives_any _).mono ?_; rintro x w1 ⟨rfl, rfl⟩)
    | (go_at_call 12; (with_reducible refine (loop_no n HN.out _).mono ?_); rintro x w1 ⟨rfl, rfl⟩)
    | (go_at_call 12; (with_reducible refine (loop_any m _).mono ?_); rintro x w1 ⟨rfl, rfl⟩)
    | (go_at_call 13; (with_reducible refine (rmac_no n HN.out _).mono ?_); rintro x w1 ⟨rfl, rfl⟩)
    | (go_at_call 14; (with_reducible refine (segment_no n HS.out _).mono ?_); rintro x wA ⟨rfl, hb⟩; (try clear k z); replace S := (by first | exact S.below hb | exact (S.box10 (fun _ => 0) 34).below hb | exact (S.box10 (segB (n + 1)) 34).below hb | exact (S.box10 (sgB m) 34).below hb); clear hb; have k := S.cells; have z := S.lts; simp only [Cells, Lts, and_true] at k z)
    | (go_at_call 14; (with_reducible refine (segment_any m _).mono ?_); rintro x wB ⟨rfl, hb⟩; (try clear k z); replace S := (by first | exact S.below hb | exact (S.box10 (fun _ => 0) 34).below hb | exact (S.box10 (segB (n + 1)) 34).below hb | exact (S.box10 (sgB m) 34).below hb); clear hb; have k := S.cells; have z := S.lts; simp only [Cells, Lts, and_true] at k z))
  go_ret
  exact ⟨rfl, (S.box10 (sgB m) 34).2⟩

end Go.Proofs.Ytogkkcbmopdbnaa
