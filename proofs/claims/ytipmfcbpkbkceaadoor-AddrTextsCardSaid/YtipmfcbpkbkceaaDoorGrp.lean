/- Groups with a separator between them, cut apart and joined. No condition. -/
import Derived.Test.YtipmfcbpkbkceaaDoorRbs
namespace Go.Proofs.YtipmfcbpkbkceaaDoor
open Go.RowKit Go.Shelf
set_option linter.unusedVariables false
set_option linter.unusedSimpArgs false

/-- The texts with the separator between them. -/
def jn (c : UInt8) : List (List UInt8) → List UInt8
  | [] => []
  | [g] => g
  | g :: r => g ++ c :: jn c r
theorem index_hit1 (c : UInt8) : ∀ (g t : List UInt8), c ∉ g → Lib.index (g ++ c :: t) [c] = g.length
  | [], t, _ => by simp [Lib.index]
  | b :: g, t, h => by
    have hb : ¬ (c == b) = true := fun e => h (by simp at e; simp [e])
    have ih := index_hit1 c g t (fun e => h (List.mem_cons_of_mem _ e))
    rw [List.cons_append, Lib.index, ih]
    simp [List.isPrefixOf, hb]
theorem index_miss1 (c : UInt8) : ∀ (g : List UInt8), c ∉ g → Lib.index g [c] = -1
  | [], _ => by simp [Lib.index]
  | b :: g, h => by
    have hb : ¬ (c == b) = true := fun e => h (by simp at e; simp [e])
    have ih := index_miss1 c g (fun e => h (List.mem_cons_of_mem _ e))
    rw [Lib.index, ih]
    simp [List.isPrefixOf, hb]
theorem cut_hit1 (c : UInt8) (g t : List UInt8) (h : c ∉ g) : Lib.cut (g ++ c :: t) [c] = (g, t, true) := by
  unfold Lib.cut
  rw [index_hit1 c g t h, if_pos (by omega)]
  simp
theorem cut_miss1 (c : UInt8) (g : List UInt8) (h : c ∉ g) : Lib.cut g [c] = (g, [], false) := by
  unfold Lib.cut
  rw [index_miss1 c g h, if_neg (by omega)]
/-- Every list has the separator or has not. -/
theorem cut_cases (c : UInt8) : ∀ (s : List UInt8), c ∉ s ∨ ∃ g t, s = g ++ c :: t ∧ c ∉ g
  | [] => .inl (by simp)
  | b :: s => by
    by_cases hb : b = c
    · exact .inr ⟨[], s, by rw [hb]; rfl, by simp⟩
    · rcases cut_cases c s with h | ⟨g, t, rfl, h⟩
      · exact .inl (by simp [h, Ne.symm hb])
      · exact .inr ⟨b :: g, t, rfl, by simp [h, Ne.symm hb]⟩
/-- The texts of the groups, joined, are read as the groups. -/
theorem groups_of (c : UInt8) (rd : ByteArray → Option Nat) (tx : Nat → List UInt8) (hr : ∀ b, b < 256 → rd ⟨(tx b).toArray⟩ = some b) (hc : ∀ b, b < 256 → c ∉ tx b) :
    ∀ (l : List Nat), l ≠ [] → (∀ b ∈ l, b < 256) → groups c rd l.length (jn c (l.map tx)) = some l
  | [], h, _ => absurd rfl h
  | [b], _, hb => by
    have h1 := hb b (by simp)
    show groups c rd (0 + 1) (tx b) = _
    rw [groups, cut_miss1 c _ (hc b h1)]
    simp [hr b h1]
  | b :: b' :: l, _, hb => by
    have h1 := hb b (by simp)
    have ih := groups_of c rd tx hr hc (b' :: l) (by simp) (fun x hx => hb x (List.mem_cons_of_mem _ hx))
    show groups c rd ((b' :: l).length + 1) (tx b ++ c :: jn c ((b' :: l).map tx)) = _
    rw [groups, cut_hit1 c _ _ (hc b h1)]
    simp only [hr b h1, ih]
    simp
/-- What is read as groups is the join of texts that are read as them. -/
theorem groups_back (c : UInt8) (rd : ByteArray → Option Nat) : ∀ (n : Nat) (s : List UInt8) (l : List Nat), groups c rd n s = some l →
    ∃ gs, s = jn c gs ∧ gs.length = n ∧ gs ≠ [] ∧ gs.map (fun g => rd ⟨g.toArray⟩) = l.map some
  | 0, s, l, h => by simp [groups] at h
  | n + 1, s, l, h => by
    rcases cut_cases c s with hs | ⟨g, t, rfl, hg⟩
    · rw [groups, cut_miss1 c s hs] at h
      simp only at h
      cases hrd : rd ⟨s.toArray⟩ with
      | none => simp [hrd] at h
      | some b =>
        simp only [hrd] at h
        by_cases hn : n = 0
        · simp [hn] at h
          subst h
          exact ⟨[s], rfl, by simp [hn], by simp, by simp [hrd]⟩
        · simp [hn] at h
    · rw [groups, cut_hit1 c g t hg] at h
      simp only at h
      cases hrd : rd ⟨g.toArray⟩ with
      | none => simp [hrd] at h
      | some b =>
        simp only [hrd] at h
        by_cases hn : n = 0
        · simp [hn] at h
        · simp only [hn, if_true, if_false, Option.map_eq_some_iff] at h
          obtain ⟨l', hl', rfl⟩ := h
          obtain ⟨gs, rfl, hlen, hne, hm⟩ := groups_back c rd n t l' hl'
          refine ⟨g :: gs, ?_, by simp [hlen], by simp, by simp [hrd, hm]⟩
          cases gs with
          | nil => exact absurd rfl hne
          | cons x r => rfl
theorem dec_reads : ∀ b, b < 256 → decRd ⟨(Lib.decDigits b).toArray⟩ = some b := by decide +kernel
theorem dec_plain : ∀ b, b < 256 → (46 : UInt8) ∉ Lib.decDigits b := by decide +kernel
end Go.Proofs.YtipmfcbpkbkceaaDoor
