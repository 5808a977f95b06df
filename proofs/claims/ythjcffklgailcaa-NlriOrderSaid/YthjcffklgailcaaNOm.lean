/- The order of the keys: the mathematics. No condition. -/
import Derived.Test.YthjcffklgailcaaNCp
import Derived.Test.YthjcffklgailcaaNEq
import Derived.Test.YthjcffklgailcaaOrM
namespace Go.Proofs.Ythjcffklgailcaa
open Go.RowKit Go.Sort
set_option linter.unusedVariables false

theorem orL_zero {x : Int} {r : List Int} : orL (x :: r) = 0 ↔ x = 0 ∧ orL r = 0 := by
  by_cases h : x = 0
  · subst h; simp [orL]
  · simp [orL, h]
theorem orL_range : ∀ {xs : List Int}, (∀ x ∈ xs, -1 ≤ x ∧ x ≤ 1) → -1 ≤ orL xs ∧ orL xs ≤ 1
  | [], _ => by decide
  | x :: r, h => by
    by_cases h0 : x = 0
    · subst h0
      simp only [orL, ne_eq, not_true_eq_false, if_false]
      exact orL_range fun y hy => h y (List.mem_cons_of_mem _ hy)
    · simp only [orL, if_pos h0]
      exact h x (List.mem_cons_self ..)
theorem orL_neg : ∀ (xs : List Int), orL (xs.map fun x => -x) = -orL xs
  | [] => rfl
  | x :: r => by
    by_cases h0 : x = 0
    · subst h0
      simp only [List.map_cons, Int.neg_zero, orL, ne_eq, not_true_eq_false, if_false]
      exact orL_neg r
    · have : -x ≠ 0 := by omega
      simp only [List.map_cons, orL, if_pos h0, if_pos this]
/-- Three comparisons. -/
def Tr (x y z : Int) : Prop := x ≤ 0 → y ≤ 0 → z ≤ 0 ∧ (z = 0 → x = 0 ∧ y = 0)
inductive Tr3 : List Int → List Int → List Int → Prop
  | nil : Tr3 [] [] []
  | cons {x y z : Int} {xs ys zs : List Int} : Tr x y z → Tr3 xs ys zs → Tr3 (x :: xs) (y :: ys) (z :: zs)
theorem orL_head {x : Int} {r : List Int} (h : orL (x :: r) ≤ 0) : x ≤ 0 := by
  by_cases h0 : x = 0
  · omega
  · simp only [orL, ne_eq, h0, not_false_eq_true, if_true] at h
    exact h
theorem orL_trans {xs ys zs : List Int} (h : Tr3 xs ys zs) : orL xs ≤ 0 → orL ys ≤ 0 → orL zs ≤ 0 := by
  induction h with
  | nil => intro _ _; decide
  | @cons x y z xs ys zs t _ ih =>
    intro h1 h2
    obtain ⟨h3, h4⟩ := t (orL_head h1) (orL_head h2)
    by_cases hz : z = 0
    · obtain ⟨rfl, rfl⟩ := h4 hz
      subst hz
      simp only [orL, ne_eq, not_true_eq_false, if_false] at h1 h2 ⊢
      exact ih h1 h2
    · simp only [orL, ne_eq, hz, not_false_eq_true, if_true]
      exact h3
theorem tr_sg (x y z : Int) : Tr (sg x y) (sg y z) (sg x z) := by
  intro h1 h2
  rw [sg_le] at h1 h2
  refine ⟨sg_le.2 (by omega), fun h => ?_⟩
  rw [sg_zero] at h
  exact ⟨sg_zero.2 (by omega), sg_zero.2 (by omega)⟩
theorem tr_P (a n b m c l : Int) : Tr (cmpP a n b m) (cmpP b m c l) (cmpP a n c l) := by
  intro h1 h2
  refine ⟨cmpP_trans h1 h2, fun h => ?_⟩
  obtain ⟨rfl, rfl⟩ := cmpP_zero.1 h
  have := cmpP_anti a n b m
  omega
theorem cmpE_refl (e : Nat → Int) : cmpE e e = 0 := by
  have h := cmpE_eqE e e
  have : eqE e e = true := (eqE_iff e e).2 fun _ _ => rfl
  rw [this] at h
  simpa using h.symm
theorem cmpE_zero {e f : Nat → Int} : cmpE e f = 0 ↔ ∀ j, j < 10 → e j = f j := by
  rw [← eqE_iff, cmpE_eqE, beq_iff_eq]
theorem tr_from (e f g : Nat → Int) : ∀ n i, Tr (cmpFrom e f i n) (cmpFrom f g i n) (cmpFrom e g i n)
  | 0, _ => fun _ _ => ⟨Int.le_refl _, fun _ => ⟨rfl, rfl⟩⟩
  | n + 1, i => fun h1 h2 => by
    refine ⟨cmpFrom_trans e f g (n + 1) i h1 h2, fun h => ?_⟩
    unfold cmpFrom at *
    by_cases q1 : e i = f i
    · rw [if_pos q1] at h1 ⊢
      by_cases q2 : f i = g i
      · rw [if_pos q2] at h2 ⊢
        rw [if_pos (q1.trans q2)] at h
        exact (tr_from e f g n (i + 1) h1 h2).2 h
      · rw [if_neg (by omega)] at h
        have := sg_zero.1 h
        omega
    · rw [if_neg q1] at h1
      have k1 := sg_le.1 h1
      by_cases q3 : e i = g i
      · rw [if_neg (by omega)] at h2
        have k2 := sg_le.1 h2
        omega
      · rw [if_neg q3] at h
        exact absurd (sg_zero.1 h) q3
theorem tr_E (e f g : Nat → Int) : Tr (cmpE e f) (cmpE f g) (cmpE e g) := tr_from e f g 10 0

theorem signs_tr (a b c : NL) : Tr3 (signs a b) (signs b c) (signs a c) :=
  .cons (tr_sg _ _ _) (.cons (tr_sg _ _ _) (.cons (tr_E _ _ _) (.cons (tr_sg _ _ _) (.cons (tr_sg _ _ _) (.cons (tr_sg _ _ _) (.cons (tr_sg _ _ _) (.cons (tr_P _ _ _ _ _ _) (.cons (tr_sg _ _ _) .nil))))))))
theorem signs_range (a b : NL) : ∀ x ∈ signs a b, -1 ≤ x ∧ x ≤ 1 := by
  intro x hx
  simp only [signs, List.mem_cons, List.not_mem_nil, or_false] at hx
  rcases hx with rfl | rfl | rfl | rfl | rfl | rfl | rfl | rfl | rfl
  · exact sg_range _ _
  · exact sg_range _ _
  · exact cmpFrom_range _ _ _ _
  · exact sg_range _ _
  · exact sg_range _ _
  · exact sg_range _ _
  · exact sg_range _ _
  · exact cmpP_range _ _ _ _
  · exact sg_range _ _
theorem signs_anti (a b : NL) : signs b a = (signs a b).map fun x => -x := by
  simp only [signs, List.map_cons, List.map_nil]
  rw [sg_anti a.k b.k, sg_anti a.rd b.rd, sg_anti a.t b.t, sg_anti a.m b.m, sg_anti (bit a.h) (bit b.h), sg_anti a.ip b.ip, cmpP_anti a.pi a.pn b.pi b.pn, sg_anti a.g b.g, show cmpE b.e a.e = -cmpE a.e b.e from cmpFrom_anti _ _ _ _]
theorem bit_inj {p q : Bool} : bit p = bit q ↔ p = q := by cases p <;> cases q <;> decide
theorem signs_zero (a b : NL) (h1 : a.l = b.l) (h2 : a.l2 = b.l2) : orL (signs a b) = 0 ↔ a.eqb b = true := by
  simp only [signs, orL_zero, sg_zero, bit_inj, cmpP_zero, NL.eqb, Bool.and_eq_true, beq_iff_eq, cmpE_eqE]
  constructor
  · rintro ⟨g1, g2, g3, g4, g5, g6, g7, ⟨g8, g9⟩, g10, -⟩
    exact ⟨g1, g2, g3, g4, g5, g7, g6, ⟨g8, g9⟩, g10, h1, h2, trivial⟩
  · rintro ⟨g1, g2, g3, g4, g5, g7, g6, ⟨g8, g9⟩, g10, -, -, -⟩
    exact ⟨g1, g2, g3, g4, g5, g6, g7, ⟨g8, g9⟩, g10, rfl⟩

theorem NL.cmp_range (a b : NL) : -1 ≤ a.cmp b ∧ a.cmp b ≤ 1 := orL_range (signs_range _ _)
theorem NL.cmp_anti (a b : NL) : b.cmp a = -a.cmp b := by
  unfold NL.cmp
  rw [signs_anti, orL_neg]
theorem NL.cmp_trans {a b c : NL} (h1 : a.cmp b ≤ 0) (h2 : b.cmp c ≤ 0) : a.cmp c ≤ 0 := orL_trans (signs_tr _ _ _) h1 h2
theorem NL.cmp_zero (a b : NL) : (a.cmp b == 0) = a.key.eqb b.key := by
  rw [Bool.eq_iff_iff, beq_iff_eq]
  exact signs_zero _ _ rfl rfl
theorem NL.eqb_refl (a : NL) : a.eqb a = true := by
  simp only [NL.eqb, beq_self_eq_true, Bool.and_true, Bool.true_and, cmpE_eqE, cmpE_refl]
theorem NL.key_key (a : NL) : a.key.key = a.key := by
  obtain ⟨k, rd, e, t, m, ip, h, pi, pn, g, l, l2⟩ := a
  simp only [NL.key, NL.mk.injEq, true_and, and_true]
  constructor
  · split <;> rfl
  · split <;> rfl
theorem NL.key_label (a : NL) (x : Int) : NL.key { a with l := x, l2 := x } = a.key := rfl
theorem NL.cmp_of_key {a b : NL} (h : a.key = b.key) : a.cmp b = 0 := by
  have := NL.cmp_zero a b
  rw [h, NL.eqb_refl] at this
  simpa using this
end Go.Proofs.Ythjcffklgailcaa
