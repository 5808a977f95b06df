/- Plain numbers: both comparisons are total orders. No condition. -/
import Derived.Test.YthechpbihfmkoaaOrd
import Derived.Test.YthechpbihfmkoaaEqe
namespace Go.Proofs.Ythechpbihfmkoaa
open Go.RowKit

theorem sg_anti (x y : Int) : sg y x = -sg x y := by unfold sg; split <;> split <;> (try split) <;> omega
theorem sg_range (x y : Int) : -1 ≤ sg x y ∧ sg x y ≤ 1 := by unfold sg; split <;> (try split) <;> omega
theorem sg_zero {x y : Int} : sg x y = 0 ↔ x = y := by unfold sg; split <;> (try split) <;> omega
theorem sg_le {x y : Int} : sg x y ≤ 0 ↔ x ≤ y := by unfold sg; split <;> (try split) <;> omega
theorem sg_ne {x y : Int} (h : x ≠ y) : sg x y ≠ 0 := fun e => h (sg_zero.1 e)

theorem cmpP_eq (a n b m : Int) : cmpP a n b m = if a = b then sg n m else sg a b := by
  unfold cmpP orI
  by_cases h : a = b
  · rw [if_pos h, if_neg (by rw [sg_zero.2 h]; decide)]
  · rw [if_neg h, if_pos (sg_ne h)]
theorem cmpP_anti (a n b m : Int) : cmpP b m a n = -cmpP a n b m := by
  rw [cmpP_eq, cmpP_eq]
  by_cases h : a = b
  · rw [if_pos h, if_pos h.symm, sg_anti]
  · rw [if_neg h, if_neg (fun e => h e.symm), sg_anti]
theorem cmpP_range (a n b m : Int) : -1 ≤ cmpP a n b m ∧ cmpP a n b m ≤ 1 := by
  rw [cmpP_eq]
  split <;> exact sg_range _ _
theorem cmpP_zero {a n b m : Int} : cmpP a n b m = 0 ↔ a = b ∧ n = m := by
  rw [cmpP_eq]
  by_cases h : a = b
  · rw [if_pos h, sg_zero]; exact ⟨fun e => ⟨h, e⟩, fun e => e.2⟩
  · rw [if_neg h, sg_zero]; exact ⟨fun e => absurd e h, fun e => absurd e.1 h⟩
theorem cmpP_trans {a n b m c l : Int} (h1 : cmpP a n b m ≤ 0) (h2 : cmpP b m c l ≤ 0) : cmpP a n c l ≤ 0 := by
  rw [cmpP_eq] at *
  by_cases e1 : a = b
  · by_cases e2 : b = c
    · rw [if_pos e1] at h1
      rw [if_pos e2] at h2
      rw [if_pos (e1.trans e2)]
      have := sg_le.1 h1; have := sg_le.1 h2
      exact sg_le.2 (by omega)
    · rw [if_neg e2] at h2
      rw [if_neg (by omega)]
      have := sg_le.1 h2
      exact sg_le.2 (by omega)
  · rw [if_neg e1] at h1
    have k1 := sg_le.1 h1
    by_cases e2 : b = c
    · rw [if_neg (by omega)]
      exact sg_le.2 (by omega)
    · rw [if_neg e2] at h2
      have k2 := sg_le.1 h2
      rw [if_neg (by omega)]
      exact sg_le.2 (by omega)

theorem cmpFrom_anti (e f : Nat → Int) : ∀ n i, cmpFrom f e i n = -cmpFrom e f i n
  | 0, _ => rfl
  | n + 1, i => by
    unfold cmpFrom
    by_cases h : e i = f i
    · rw [if_pos h, if_pos h.symm]; exact cmpFrom_anti e f n (i + 1)
    · rw [if_neg h, if_neg (fun q => h q.symm)]; exact sg_anti _ _
theorem cmpFrom_range (e f : Nat → Int) : ∀ n i, -1 ≤ cmpFrom e f i n ∧ cmpFrom e f i n ≤ 1
  | 0, _ => by unfold cmpFrom; omega
  | n + 1, i => by
    unfold cmpFrom
    split
    · exact cmpFrom_range e f n (i + 1)
    · exact sg_range _ _
theorem cmpFrom_zero (e f : Nat → Int) : ∀ n i, cmpFrom e f i n = 0 → ∀ j, i ≤ j → j < i + n → e j = f j
  | 0, _, _, _, _, _ => by omega
  | n + 1, i, h, j, h1, h2 => by
    unfold cmpFrom at h
    by_cases q : e i = f i
    · rw [if_pos q] at h
      by_cases hij : i = j
      · subst hij; exact q
      · exact cmpFrom_zero e f n (i + 1) h j (by omega) (by omega)
    · rw [if_neg q] at h
      exact absurd (sg_zero.1 h) q
theorem cmpFrom_trans (e f g : Nat → Int) : ∀ n i, cmpFrom e f i n ≤ 0 → cmpFrom f g i n ≤ 0 → cmpFrom e g i n ≤ 0
  | 0, _, _, _ => Int.le_refl _
  | n + 1, i, h1, h2 => by
    unfold cmpFrom at *
    by_cases q1 : e i = f i
    · rw [if_pos q1] at h1
      by_cases q2 : f i = g i
      · rw [if_pos q2] at h2
        rw [if_pos (q1.trans q2)]
        exact cmpFrom_trans e f g n (i + 1) h1 h2
      · rw [if_neg q2] at h2
        rw [if_neg (by omega)]
        have := sg_le.1 h2
        exact sg_le.2 (by omega)
    · rw [if_neg q1] at h1
      have k1 := sg_le.1 h1
      by_cases q2 : f i = g i
      · rw [if_neg (by omega)]
        exact sg_le.2 (by omega)
      · rw [if_neg q2] at h2
        have k2 := sg_le.1 h2
        rw [if_neg (by omega)]
        exact sg_le.2 (by omega)
theorem cmpE_eqE (e f : Nat → Int) : eqE e f = (cmpE e f == 0) := by
  rw [Bool.eq_iff_iff, eqE_iff, beq_iff_eq]
  constructor
  · intro h; exact cmpFrom_eq e f 10 0 fun j _ hj => h j (by omega)
  · intro h j hj; exact cmpFrom_zero e f 10 0 h j (Nat.zero_le _) (by omega)
end Go.Proofs.Ythechpbihfmkoaa
