/- What Read answers to octets that are cut. No condition. -/
import Derived.Test.YthechpbihfmkoaaNMc
namespace Go.Proofs.Ythechpbihfmkoaa
open Go.RowKit Go.Sort
set_option linter.unusedVariables false
set_option linter.unusedSimpArgs false
set_option maxRecDepth 100000

theorem next_bad {R : RS} {k : Int} (h : ¬ R.ok k) : (R.next k).er ≠ 0 := by
  unfold RS.next RS.fail
  rw [if_neg h]
  by_cases q : R.er = 0
  · rw [if_pos ⟨q, by decide⟩]
    show (4 : Int) ≠ 0
    decide
  · rw [if_neg (fun c => q c.1)]
    exact q
theorem next_bad' {R : RS} {k : Int} (h : R.er ≠ 0) : (R.next k).er ≠ 0 := next_bad fun c => h c.1
/-- A proper beginning of the code of a route is short. -/
theorem short_code (n : NL) (k : Nat) (hk : k < n.code.length) : rrF (n.code.take k) ≠ 0 := by
  unfold rrF rrA
  rcases Nat.lt_or_ge k 2 with q | q
  · have hl : (n.code.take k).length = k := by rw [List.length_take]; omega
    generalize n.code.take k = xs at *
    match xs, hl with
    | [], _ => exact next_bad' (next_bad' (next_bad (fun c => by have := c.2.2; simp at this)))
    | [x], _ =>
      have e : RS.next ⟨0, 0, [x], 0, 0⟩ 1 = ⟨0, 1, [x], 0, 0⟩ := by
        unfold RS.next
        rw [if_pos ⟨rfl, by decide, by simp⟩]
        rfl
      rw [e]
      exact next_bad' (next_bad (fun c => by have := c.2.2; simp at this))
    | x :: y :: zs, h => simp at h; omega
  · obtain ⟨j, rfl⟩ : ∃ j, k = j + 2 := ⟨k - 2, by omega⟩
    have e : n.code.take (j + 2) = [n.k] ++ ([(n.val.length : Int)] ++ (n.val.take j)) := by
      rw [code_cons, List.append_nil]
      rfl
    rw [e]
    rw [code_len] at hk
    have a0 := at_start ([n.k] ++ ([(n.val.length : Int)] ++ (n.val.take j)))
    have a1 := a0.next 1 rfl
    have a2 := a1.next 1 rfl
    have hS : rrS ([n.k] ++ ([(n.val.length : Int)] ++ (n.val.take j))) = n.val.length := by
      unfold rrS
      rw [a1.part 1 rfl, be_one]
      rfl
    rw [hS]
    refine next_bad fun c => ?_
    have h1 := c.2.2
    have h2 := congrArg List.length a2.2.2
    rw [List.length_drop, List.length_take] at h2
    have h3 := a2.2.1
    omega
theorem short_e (n : NL) (k : Nat) (hk : k < n.code.length) : rrE (n.code.take k) = 4 := by
  unfold rrE
  rw [if_pos (short_code n k hk)]
/-- Where a piece ends that is cut. -/
theorem piece_cut (P : List Int) (n : NL) (k : Nat) (h0 : 0 < k) (hk : k < n.code.length) : pEnd (P ++ n.code.take k) P.length = (P ++ n.code.take k).length := by
  unfold pEnd
  split
  · rfl
  · rename_i h
    have hl : (P ++ n.code.take k).length = P.length + k := by rw [List.length_append, List.length_take]; omega
    rw [hl] at h ⊢
    have e : (P ++ n.code.take k).getD (P.length + 1) 0 = n.val.length := by
      obtain ⟨j, rfl⟩ : ∃ j, k = j + 2 := ⟨k - 2, by omega⟩
      rw [List.getD_eq_getElem?_getD, List.getElem?_append_right (by omega), show P.length + 1 - P.length = 1 from by omega, code_cons]
      rfl
    rw [e, Int.toNat_natCast]
    rw [code_len] at hk
    omega
/-- What Read answers to the codes of some routes and a beginning of one more. -/
theorem reads_cut {lo : Nat} {M : List NL} {n : NL} {k : Nat} {w : World} {V : Value} {E A : Int} (hM : ∀ n ∈ M, Good n) (hn : M.length ≤ 4095) (h0 : 0 < k) (hk : k < n.code.length) (h : ReadsTo lo (codes M ++ n.code.take k) w V E A) : E = 4 ∧ A = ((codes M).length : Nat) ∧ V = .slice none 0 0 := by
  have ho : ∀ j, j ≤ M.length → ofs (codes M ++ n.code.take k) j = (codes (M.take j)).length := ofs_codes M _
  have hp : ∀ j m, M[j]? = some m → px (codes M ++ n.code.take k) j = m.code := fun j m hm => px_codes M _ j m hm
  have hl : (codes M ++ n.code.take k).length = (codes M).length + k := by rw [List.length_append, List.length_take]; omega
  have hend : ofs (codes M ++ n.code.take k) M.length = (codes M).length := by rw [ho _ (Nat.le_refl _), List.take_length]
  have hend1 : ofs (codes M ++ n.code.take k) (M.length + 1) = (codes M).length + k := by
    show pEnd _ (ofs _ M.length) = _
    rw [hend, piece_cut _ n k h0 hk, hl]
  have hpx : px (codes M ++ n.code.take k) M.length = n.code.take k := by
    unfold px
    rw [hend1, hend, List.drop_left, show (codes M).length + k - (codes M).length = k from by omega, List.take_of_length_le (by rw [List.length_take]; omega)]
  have hg : ∀ j, j < M.length → ge (codes M ++ n.code.take k) j = 0 := fun j hj => by
    have h1 : M[j]? = some (M.getD j NL.zero) := by rw [List.getD_eq_getElem?_getD, List.getElem?_eq_getElem hj]; rfl
    unfold ge
    rw [hp j _ h1]
    exact (code_good (hM _ (List.mem_of_getElem? h1))).1
  have hbad : ge (codes M ++ n.code.take k) M.length = 4 := by
    unfold ge
    rw [hpx]
    exact short_e n k hk
  rcases h with ⟨m, h1, h2, h3, h4, rfl, rfl, h5, h6⟩ | ⟨m, h1, h2, h3, h4, h5, h6, h7⟩
  · rcases Nat.lt_or_ge M.length m with q | q
    · have := h3 _ q
      omega
    · have e := ho m q
      have hle : (codes (M.take m)).length ≤ (codes M).length := by
        have : codes M = codes (M.take m) ++ codes (M.drop m) := by rw [← codes_append, List.take_append_drop]
        rw [this, List.length_append]
        omega
      omega
  · have hm : m = M.length := by
      rcases Nat.lt_trichotomy m M.length with q | q | q
      · rw [if_neg (by omega), hg m q] at h4
        exact absurd h4 h5
      · exact q
      · have := h2 _ q
        omega
    subst hm
    rw [if_neg (by omega), hbad] at h4
    rw [hend] at h6
    exact ⟨h4, h6, h7⟩
/-- A route that Read accepts is good, and its code is its piece. -/
theorem piece_good {xs : List Int} (ho : Oct xs) (j : Nat) (h : ge xs j = 0) : Good (gr xs j) ∧ (gr xs j).code = px xs j := by
  have hE : rrE (px xs j) = 0 := h
  have e : gr xs j = rrN (px xs j) := by
    unfold gr rrO
    rw [if_pos hE]
  have hN := rrN_ok (px_oct ho j)
  rw [e]
  unfold rrE at hE
  split at hE
  · cases hE
  · split at hE
    · cases hE
    · split at hE
      · rename_i q
        exact ⟨⟨hN, q.1⟩, q.2⟩
      · cases hE
theorem codes_grs {xs : List Int} (ho : Oct xs) : ∀ m, (∀ j, j < m → ge xs j = 0) → codes ((List.range m).map (gr xs)) = xs.take (ofs xs m)
  | 0, _ => rfl
  | m + 1, h => by
    rw [List.range_succ, List.map_append, codes_append, codes_grs ho m fun j hj => h j (by omega)]
    show _ ++ codes [gr xs m] = _
    rw [codes_one, (piece_good ho m (h m (by omega))).2]
    unfold px
    have := ofs_step xs m
    rw [show xs.take (ofs xs (m + 1)) = xs.take (ofs xs m + (ofs xs (m + 1) - ofs xs m)) from by congr 1; omega, List.take_add]
/-- What Read answers, to octets that it accepts: routes whose codes they are; else where a fault is. -/
theorem reads_only {lo : Nat} {xs : List Int} (ho : Oct xs) (hx : xs.length ≤ 400) {w : World} {V : Value} {E A : Int} (h : ReadsTo lo xs w V E A) :
    (∃ L, (∀ n ∈ L, Good n) ∧ L.length ≤ 400 ∧ codes L = xs ∧ E = 0 ∧ A = 0 ∧ NuN lo w V L) ∨ (E ≠ 0 ∧ 0 ≤ A ∧ A < xs.length ∧ V = .slice none 0 0) := by
  rcases h with ⟨m, h1, h2, h3, h4, rfl, rfl, h5, h6⟩ | ⟨m, h1, h2, h3, h4, h5, h6, h7⟩
  · refine .inl ⟨(List.range m).map (gr xs), ?_, ?_, ?_, rfl, rfl, h5⟩
    · intro n hn
      obtain ⟨j, hj, rfl⟩ := List.mem_map.1 hn
      exact (piece_good ho j (h3 j (List.mem_range.1 hj))).1
    · rw [List.length_map, List.length_range]
      have := ofs_ge xs m h2
      have := ofs_le xs m
      omega
    · rw [codes_grs ho m h3, List.take_of_length_le h1]
  · have := h1 m (by omega)
    exact .inr ⟨h5, by omega, by omega, h7⟩
/-- Where octets of codes are cut: between two routes or inside of one. -/
theorem codes_cut (L : List NL) : ∀ c, c ≤ (codes L).length → (∃ j, j ≤ L.length ∧ c = (codes (L.take j)).length ∧ (codes L).take c = codes (L.take j)) ∨ (∃ j n k, L[j]? = some n ∧ 0 < k ∧ k < n.code.length ∧ c = (codes (L.take j)).length + k ∧ (codes L).take c = codes (L.take j) ++ n.code.take k) := by
  induction L with
  | nil => intro c hc; exact .inl ⟨0, Nat.le_refl _, by simpa [codes] using hc, by simp [codes]⟩
  | cons n L ih =>
    intro c hc
    have e : codes (n :: L) = n.code ++ codes L := rfl
    rw [e] at hc ⊢
    rw [List.length_append] at hc
    rcases Nat.eq_zero_or_pos c with q | q
    · subst q
      exact .inl ⟨0, Nat.zero_le _, rfl, rfl⟩
    rcases Nat.lt_or_ge c n.code.length with r | r
    · refine .inr ⟨0, n, c, rfl, q, r, by simp [codes], ?_⟩
      rw [List.take_append_of_le_length (by omega)]
      rfl
    · obtain ⟨d, rfl⟩ : ∃ d, c = n.code.length + d := ⟨c - n.code.length, by omega⟩
      rw [List.take_length_add_append]
      rcases ih d (by omega) with ⟨j, h1, h2, h3⟩ | ⟨j, m, k, h1, h2, h3, h4, h5⟩
      · refine .inl ⟨j + 1, by simpa using h1, ?_, ?_⟩
        · rw [show codes ((n :: L).take (j + 1)) = n.code ++ codes (L.take j) from rfl, List.length_append, ← h2]
        · rw [h3]; rfl
      · refine .inr ⟨j + 1, m, k, h1, h2, h3, ?_, ?_⟩
        · rw [show codes ((n :: L).take (j + 1)) = n.code ++ codes (L.take j) from rfl, List.length_append]
          omega
        · rw [h5, ← List.append_assoc]; rfl
end Go.Proofs.Ythechpbihfmkoaa
