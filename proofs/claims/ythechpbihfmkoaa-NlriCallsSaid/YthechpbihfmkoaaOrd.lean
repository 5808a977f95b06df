/- ComparePrefix returns the order by address, then by length; it makes at most new memory. No condition. -/
import Derived.Test.YthechpbihfmkoaaCmp
namespace Go.Proofs.Ythechpbihfmkoaa
open Go.RowKit
set_option linter.unusedVariables false
set_option maxRecDepth 100000

def orI (x y : Int) : Int := if x ≠ 0 then x else y
theorem or_yes (b : Nat) (x y : Int) (hx : (x != 0) = true) (w : World) (h0 : w.cell? ⟨b, 0, none⟩ = some (.int .i64 x)) (h1 : w.cell? ⟨b, 1, none⟩ = some (.int .i64 y)) :
    Calls Try.prog 40 #[.slice (some ⟨b, 0, none⟩) 2 2] w fun e w' => e = .returned (.int .i64 x) ∧ w = w' := by
  go_enter Try.func40, Try.ntmps40
  go_wp2
  go_rounds 1
  all_goals (go_ret; exact ⟨rfl, rfl⟩)
theorem or_no (b : Nat) (x y : Int) (hx : (x != 0) = false) (hy : (y != 0) = true) (w : World) (h0 : w.cell? ⟨b, 0, none⟩ = some (.int .i64 x)) (h1 : w.cell? ⟨b, 1, none⟩ = some (.int .i64 y)) :
    Calls Try.prog 40 #[.slice (some ⟨b, 0, none⟩) 2 2] w fun e w' => e = .returned (.int .i64 y) ∧ w = w' := by
  go_enter Try.func40, Try.ntmps40
  go_wp2
  go_rounds 2
  all_goals (go_ret; exact ⟨rfl, rfl⟩)
theorem or_none (b : Nat) (x y : Int) (hx : (x != 0) = false) (hy : (y != 0) = false) (w : World) (h0 : w.cell? ⟨b, 0, none⟩ = some (.int .i64 x)) (h1 : w.cell? ⟨b, 1, none⟩ = some (.int .i64 y)) :
    Calls Try.prog 40 #[.slice (some ⟨b, 0, none⟩) 2 2] w fun e w' => e = .returned (.int .i64 0) ∧ w = w' := by
  go_enter Try.func40, Try.ntmps40
  go_wp2
  go_rounds 3
  all_goals (go_ret; exact ⟨rfl, rfl⟩)
theorem or_any (b : Nat) (x y : Int) (w : World) (h0 : w.cell? ⟨b, 0, none⟩ = some (.int .i64 x)) (h1 : w.cell? ⟨b, 1, none⟩ = some (.int .i64 y)) :
    Calls Try.prog 40 #[.slice (some ⟨b, 0, none⟩) 2 2] w fun e w' => e = .returned (.int .i64 (orI x y)) ∧ w = w' := by
  by_cases hx : x = 0
  · by_cases hy : y = 0
    · have := or_none b x y (by simp [hx]) (by simp [hy]) w h0 h1
      rwa [show orI x y = 0 by simp [orI, hx, hy]]
    · have := or_no b x y (by simp [hx]) (by simp [hy]) w h0 h1
      rwa [show orI x y = y by simp [orI, hx]]
  · have := or_yes b x y (by simp [hx]) w h0 h1
    rwa [show orI x y = x by simp [orI, hx]]

def cmpP (a n b m : Int) : Int := orI (sg a b) (sg n m)
set_option maxHeartbeats 1000000 in
theorem comparePrefix_any (a n b m : Int) (w : World) :
    Calls Try.prog 48 #[.agg #[.int .u32 a, .int .i64 n], .agg #[.int .u32 b, .int .i64 m]] w fun e w' => e = .returned (.int .i64 (cmpP a n b m)) ∧ Below w.heap.size w w' := by
  have S := ((St.start w).box2 (.int .u32 a) (.int .i64 n) 34).box2 (.int .u32 b) (.int .i64 m) 34
  simp only [World.size_alloc] at S
  go_enter Try.func48, Try.ntmps48
  go_wp2_with fail
  refine wp_region_tail S 10 (by kernel_rfl) (by kernel_rfl) ?_
  intro W1 S1 k z
  simp only [Cells, Lts, and_true] at k z
  simp only [List.take_succ_cons, List.take_zero, List.drop_succ_cons, List.drop_zero]
  still_step
  still_step
  still_step
  still_step
  still_call ((cmpIP_any a b _).mono fun e w' h => ⟨h.1, h.2.symm⟩)
  still_step
  still_step
  still_step
  still_step
  still_call ((cmpInt_any n m _).mono fun e w' h => ⟨h.1, h.2.symm⟩)
  refine wpStill_nil ?_
  have k1 := cell2_new W1 (.int .i64 (sg a b)) (.int .i64 (sg n m)) 3
  go_wp2_with (go_at_call 40; refine (or_any _ (sg a b) (sg n m) _ k1.1 k1.2).mono ?_; rintro e w' ⟨rfl, rfl⟩)
  go_ret
  exact ⟨rfl, (S1.alloc _).2⟩
end Go.Proofs.Ythechpbihfmkoaa
