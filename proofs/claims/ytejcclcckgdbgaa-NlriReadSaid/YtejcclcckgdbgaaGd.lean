/- What Read answers to octets that are cut. No condition. The reference of layer 4: what the pieces of octets are, in the words of the program's Read. No condition. -/
import Derived.Test.YtejcclcckgdbgaaNMc
import Derived.Test.YtejcclcckgdbgaaNVa
import Derived.Test.YtejcclcckgdbgaaNVc
namespace Go.Proofs.Ytejcclcckgdbgaa
open Go.RowKit Go.Sort
set_option linter.unusedVariables false
set_option linter.unusedSimpArgs false
set_option maxRecDepth 100000

theorem next_bad {R : RS} {k : Int} (h : ¬ R.ok k) : (R.next k).er ≠ 0 := by
  unfold RS.next RS.fail
  rw [if_neg h]
  by_cases q : R.er = 0
  · rw [if_pos ⟨q, by decide⟩]
    show (4 : Int) ≠ 0
    decide
  · rw [if_neg (fun c => q c.1)]
    exact q
theorem next_bad' {R : RS} {k : Int} (h : R.er ≠ 0) : (R.next k).er ≠ 0 := next_bad fun c => h c.1
/-- A proper beginning of the code of a route is short. -/
theorem short_code (n : NL) (k : Nat) (hk : k < n.code.length) : rrF (n.code.take k) ≠ 0 := by
  unfold rrF rrA
  rcases Nat.lt_or_ge k 2 with q | q
  · have hl : (n.code.take k).length = k := by rw [List.length_take]; omega
    generalize n.code.take k = xs at *
    match xs, hl with
    | [], _ => exact next_bad' (next_bad' (next_bad (fun c => by have := c.2.2; simp at this)))
    | [x], _ =>
      have e : RS.next ⟨0, 0, [x], 0, 0⟩ 1 = ⟨0, 1, [x], 0, 0⟩ := by
        unfold RS.next
        rw [if_pos ⟨rfl, by decide, by simp⟩]
        rfl
      rw [e]
      exact next_bad' (next_bad (fun c => by have := c.2.2; simp at this))
    | x :: y :: zs, h => simp at h; omega
  · obtain ⟨j, rfl⟩ : ∃ j, k = j + 2 := ⟨k - 2, by omega⟩
    have e : n.code.take (j + 2) = [n.k] ++ ([(n.val.length : Int)] ++ (n.val.take j)) := by
      rw [code_cons, List.append_nil]
      rfl
    rw [e]
    rw [code_len] at hk
    have a0 := at_start ([n.k] ++ ([(n.val.length : Int)] ++ (n.val.take j)))
    have a1 := a0.next 1 rfl
    have a2 := a1.next 1 rfl
    have hS : rrS ([n.k] ++ ([(n.val.length : Int)] ++ (n.val.take j))) = n.val.length := by
      unfold rrS
      rw [a1.part 1 rfl, be_one]
      rfl
    rw [hS]
    refine next_bad fun c => ?_
    have h1 := c.2.2
    have h2 := congrArg List.length a2.2.2
    rw [List.length_drop, List.length_take] at h2
    have h3 := a2.2.1
    omega
theorem short_e (n : NL) (k : Nat) (hk : k < n.code.length) : rrE (n.code.take k) = 4 := by
  unfold rrE
  rw [if_pos (short_code n k hk)]
/-- Where a piece ends that is cut. -/
theorem piece_cut (P : List Int) (n : NL) (k : Nat) (h0 : 0 < k) (hk : k < n.code.length) : pEnd (P ++ n.code.take k) P.length = (P ++ n.code.take k).length := by
  unfold pEnd
  split
  · rfl
  · rename_i h
    have hl : (P ++ n.code.take k).length = P.length + k := by rw [List.length_append, List.length_take]; omega
    rw [hl] at h ⊢
    have e : (P ++ n.code.take k).getD (P.length + 1) 0 = n.val.length := by
      obtain ⟨j, rfl⟩ : ∃ j, k = j + 2 := ⟨k - 2, by omega⟩
      rw [List.getD_eq_getElem?_getD, List.getElem?_append_right (by omega), show P.length + 1 - P.length = 1 from by omega, code_cons]
      rfl
    rw [e, Int.toNat_natCast]
    rw [code_len] at hk
    omega
/-- What Read answers to the codes of some routes and a beginning of one more. -/
theorem reads_cut {lo : Nat} {M : List NL} {n : NL} {k : Nat} {w : World} {V : Value} {E A : Int} (hM : ∀ n ∈ M, Good n) (hn : M.length ≤ 4095) (h0 : 0 < k) (hk : k < n.code.length) (h : ReadsTo lo (codes M ++ n.code.take k) w V E A) : E = 4 ∧ A = ((codes M).length : Nat) ∧ V = .slice none 0 0 := by
  have ho : ∀ j, j ≤ M.length → ofs (codes M ++ n.code.take k) j = (codes (M.take j)).length := ofs_codes M _
  have hp : ∀ j m, M[j]? = some m → px (codes M ++ n.code.take k) j = m.code := fun j m hm => px_codes M _ j m hm
  have hl : (codes M ++ n.code.take k).length = (codes M).length + k := by rw [List.length_append, List.length_take]; omega
  have hend : ofs (codes M ++ n.code.take k) M.length = (codes M).length := by rw [ho _ (Nat.le_refl _), List.take_length]
  have hend1 : ofs (codes M ++ n.code.take k) (M.length + 1) = (codes M).length + k := by
    show pEnd _ (ofs _ M.length) = _
    rw [hend, piece_cut _ n k h0 hk, hl]
  have hpx : px (codes M ++ n.code.take k) M.length = n.code.take k := by
    unfold px
    rw [hend1, hend, List.drop_left, show (codes M).length + k - (codes M).length = k from by omega, List.take_of_length_le (by rw [List.length_take]; omega)]
  have hg : ∀ j, j < M.length → ge (codes M ++ n.code.take k) j = 0 := fun j hj => by
    have h1 : M[j]? = some (M.getD j NL.zero) := by rw [List.getD_eq_getElem?_getD, List.getElem?_eq_getElem hj]; rfl
    unfold ge
    rw [hp j _ h1]
    exact (code_good (hM _ (List.mem_of_getElem? h1))).1
  have hbad : ge (codes M ++ n.code.take k) M.length = 4 := by
    unfold ge
    rw [hpx]
    exact short_e n k hk
  rcases h with ⟨m, h1, h2, h3, h4, rfl, rfl, h5, h6⟩ | ⟨m, h1, h2, h3, h4, h5, h6, h7⟩
  · rcases Nat.lt_or_ge M.length m with q | q
    · have := h3 _ q
      omega
    · have e := ho m q
      have hle : (codes (M.take m)).length ≤ (codes M).length := by
        have : codes M = codes (M.take m) ++ codes (M.drop m) := by rw [← codes_append, List.take_append_drop]
        rw [this, List.length_append]
        omega
      omega
  · have hm : m = M.length := by
      rcases Nat.lt_trichotomy m M.length with q | q | q
      · rw [if_neg (by omega), hg m q] at h4
        exact absurd h4 h5
      · exact q
      · have := h2 _ q
        omega
    subst hm
    rw [if_neg (by omega), hbad] at h4
    rw [hend] at h6
    exact ⟨h4, h6, h7⟩
/-- A route that Read accepts is good, and its code is its piece. -/
theorem piece_good {xs : List Int} (ho : Oct xs) (j : Nat) (h : ge xs j = 0) : Good (gr xs j) ∧ (gr xs j).code = px xs j := by
  have hE : rrE (px xs j) = 0 := h
  have e : gr xs j = rrN (px xs j) := by
    unfold gr rrO
    rw [if_pos hE]
  have hN := rrN_ok (px_oct ho j)
  rw [e]
  unfold rrE at hE
  split at hE
  · cases hE
  · split at hE
    · cases hE
    · split at hE
      · rename_i q
        exact ⟨⟨hN, q.1⟩, q.2⟩
      · cases hE
theorem codes_grs {xs : List Int} (ho : Oct xs) : ∀ m, (∀ j, j < m → ge xs j = 0) → codes ((List.range m).map (gr xs)) = xs.take (ofs xs m)
  | 0, _ => rfl
  | m + 1, h => by
    rw [List.range_succ, List.map_append, codes_append, codes_grs ho m fun j hj => h j (by omega)]
    show _ ++ codes [gr xs m] = _
    rw [codes_one, (piece_good ho m (h m (by omega))).2]
    unfold px
    have := ofs_step xs m
    rw [show xs.take (ofs xs (m + 1)) = xs.take (ofs xs m + (ofs xs (m + 1) - ofs xs m)) from by congr 1; omega, List.take_add]
/-- What Read answers, to octets that it accepts: routes whose codes they are; else where a fault is. -/
theorem reads_only {lo : Nat} {xs : List Int} (ho : Oct xs) (hx : xs.length ≤ 400) {w : World} {V : Value} {E A : Int} (h : ReadsTo lo xs w V E A) :
    (∃ L, (∀ n ∈ L, Good n) ∧ L.length ≤ 400 ∧ codes L = xs ∧ E = 0 ∧ A = 0 ∧ NuN lo w V L) ∨ (E ≠ 0 ∧ 0 ≤ A ∧ A < xs.length ∧ V = .slice none 0 0) := by
  rcases h with ⟨m, h1, h2, h3, h4, rfl, rfl, h5, h6⟩ | ⟨m, h1, h2, h3, h4, h5, h6, h7⟩
  · refine .inl ⟨(List.range m).map (gr xs), ?_, ?_, ?_, rfl, rfl, h5⟩
    · intro n hn
      obtain ⟨j, hj, rfl⟩ := List.mem_map.1 hn
      exact (piece_good ho j (h3 j (List.mem_range.1 hj))).1
    · rw [List.length_map, List.length_range]
      have := ofs_ge xs m h2
      have := ofs_le xs m
      omega
    · rw [codes_grs ho m h3, List.take_of_length_le h1]
  · have := h1 m (by omega)
    exact .inr ⟨h5, by omega, by omega, h7⟩
/-- Where octets of codes are cut: between two routes or inside of one. -/
theorem codes_cut (L : List NL) : ∀ c, c ≤ (codes L).length → (∃ j, j ≤ L.length ∧ c = (codes (L.take j)).length ∧ (codes L).take c = codes (L.take j)) ∨ (∃ j n k, L[j]? = some n ∧ 0 < k ∧ k < n.code.length ∧ c = (codes (L.take j)).length + k ∧ (codes L).take c = codes (L.take j) ++ n.code.take k) := by
  induction L with
  | nil => intro c hc; exact .inl ⟨0, Nat.le_refl _, by simpa [codes] using hc, by simp [codes]⟩
  | cons n L ih =>
    intro c hc
    have e : codes (n :: L) = n.code ++ codes L := rfl
    rw [e] at hc ⊢
    rw [List.length_append] at hc
    rcases Nat.eq_zero_or_pos c with q | q
    · subst q
      exact .inl ⟨0, Nat.zero_le _, rfl, rfl⟩
    rcases Nat.lt_or_ge c n.code.length with r | r
    · refine .inr ⟨0, n, c, rfl, q, r, by simp [codes], ?_⟩
      rw [List.take_append_of_le_length (by omega)]
      rfl
    · obtain ⟨d, rfl⟩ : ∃ d, c = n.code.length + d := ⟨c - n.code.length, by omega⟩
      rw [List.take_length_add_append]
      rcases ih d (by omega) with ⟨j, h1, h2, h3⟩ | ⟨j, m, k, h1, h2, h3, h4, h5⟩
      · refine .inl ⟨j + 1, by simpa using h1, ?_, ?_⟩
        · rw [show codes ((n :: L).take (j + 1)) = n.code ++ codes (L.take j) from rfl, List.length_append, ← h2]
        · rw [h3]; rfl
      · refine .inr ⟨j + 1, m, k, h1, h2, h3, ?_, ?_⟩
        · rw [show codes ((n :: L).take (j + 1)) = n.code ++ codes (L.take j) from rfl, List.length_append]
          omega
        · rw [h5, ← List.append_assoc]; rfl
end Go.Proofs.Ytejcclcckgdbgaa
namespace Go.Proofs.Ytejcclcckgdbgaa
open Go.RowKit Go.Sort
set_option linter.unusedVariables false
set_option linter.unusedSimpArgs false
set_option maxRecDepth 100000

theorem rrF_one (x : Int) : rrF [x] ≠ 0 := by
  unfold rrF rrA
  have e : RS.next ⟨0, 0, [x], 0, 0⟩ 1 = ⟨0, 1, [x], 0, 0⟩ := by
    unfold RS.next
    rw [if_pos ⟨rfl, by decide, by simp⟩]
    rfl
  rw [e]
  exact next_bad' (next_bad (fun c => by have := c.2.2; simp at this))
theorem rrF_two (k s : Int) (zs : List Int) : (s.toNat ≤ zs.length → rrF (k :: s :: zs) = 0) ∧ (zs.length < s.toNat → rrF (k :: s :: zs) ≠ 0) ∧ rrK (k :: s :: zs) = k.toNat := by
  have a0 := at_start ([k] ++ ([s] ++ zs))
  have a1 := a0.next 1 rfl
  have a2 := a1.next 1 rfl
  have hS : rrS ([k] ++ ([s] ++ zs)) = s.toNat := by
    unfold rrS
    rw [a1.part 1 rfl, be_one]
  have hd := congrArg List.length a2.2.2
  rw [List.length_drop] at hd
  have hle := a2.2.1
  refine ⟨fun h => ?_, fun h => ?_, ?_⟩
  · show rrF ([k] ++ ([s] ++ zs)) = 0
    unfold rrF rrA
    rw [hS]
    have ok : ((RS.next ⟨0, 0, [k] ++ ([s] ++ zs), 0, 0⟩ 1).next 1).ok (s.toNat : Nat) := ⟨a2.1, by omega, by omega⟩
    unfold RS.next at ok ⊢
    rw [if_pos ok]
    exact ok.1
  · show rrF ([k] ++ ([s] ++ zs)) ≠ 0
    unfold rrF rrA
    rw [hS]
    refine next_bad fun c => ?_
    have := c.2.2
    omega
  · show rrK ([k] ++ ([s] ++ zs)) = k.toNat
    unfold rrK
    rw [a0.part 1 rfl, be_one]

/-- The octets of a route: a kind, a size and a value. -/
theorem Vals.piece {k : Nat} {s : Int} {zs : List Int} {n : NL} (h : Vals k zs n) (hs : s = zs.length) (ho : Oct (((k : Nat) : Int) :: s :: zs)) (h1 : 1 ≤ k) (h5 : k ≤ 5) :
    (n.chk = 0 ∧ n.code = ((k : Nat) : Int) :: s :: zs ∧ rrE (((k : Nat) : Int) :: s :: zs) = 0 ∧ (rrO (((k : Nat) : Int) :: s :: zs)).cs = n.cs) ∨ (¬ (n.chk = 0 ∧ n.code = ((k : Nat) : Int) :: s :: zs) ∧ rrE (((k : Nat) : Int) :: s :: zs) = 3) := by
  subst hs
  obtain ⟨f1, -, f3⟩ := rrF_two (k : Nat) ((zs.length : Nat) : Int) zs
  have f0 := f1 (by simp)
  by_cases hg : n.chk = 0 ∧ n.code = ((k : Nat) : Int) :: (zs.length : Int) :: zs
  · have hG : Good n := ⟨h.1, hg.1⟩
    have := code_good hG
    rw [hg.2] at this
    exact .inl ⟨hg.1, hg.2, this.1, this.2⟩
  · refine .inr ⟨hg, ?_⟩
    unfold rrE
    rw [if_neg (by omega)]
    have hl : lay ((rrK (((k : Nat) : Int) :: (zs.length : Int) :: zs) : Nat) : Int) ≠ none := by
      rw [f3, Int.toNat_natCast]
      obtain rfl | rfl | rfl | rfl | rfl : k = 1 ∨ k = 2 ∨ k = 3 ∨ k = 4 ∨ k = 5 := by omega
      all_goals (first | decide | (simp [lay]))
    rw [if_neg hl, if_neg]
    rintro ⟨c1, c2⟩
    have hG : Good (rrN (((k : Nat) : Int) :: (zs.length : Int) :: zs)) := ⟨rrN_ok ho, c1⟩
    obtain ⟨m, hm⟩ : ∃ m, m = rrN (((k : Nat) : Int) :: (zs.length : Int) :: zs) := ⟨_, rfl⟩
    rw [← hm] at hG c1 c2
    have e1 : m.k = (k : Nat) := by
      have := congrArg List.head? c2
      simpa [NL.code] using this
    have e2 : m.val = zs := by
      have := congrArg (List.drop 2) c2
      simpa [NL.code] using this
    have hcs := h.2.2 m hG e1 e2
    obtain ⟨t1, t2, -⟩ := alike hcs
    exact hg ⟨t2.trans c1, t1.trans c2⟩
theorem other_kind {k : Nat} {s : Int} {zs : List Int} (hs : s = zs.length) (h : ¬ (1 ≤ k ∧ k ≤ 5)) : rrE (((k : Nat) : Int) :: s :: zs) = 6 := by
  subst hs
  obtain ⟨f1, -, f3⟩ := rrF_two (k : Nat) ((zs.length : Nat) : Int) zs
  have f0 := f1 (by simp)
  unfold rrE
  rw [if_neg (by omega), f3, Int.toNat_natCast, if_pos (lay_some k (by omega) (by omega) (by omega) (by omega) (by omega))]

/-- What stands at an offset. -/
theorem at_two {xs : List Int} {a : Nat} (h : a + 2 ≤ xs.length) : xs.drop a = xs.getD a 0 :: xs.getD (a + 1) 0 :: xs.drop (a + 2) := by
  rw [List.drop_eq_getElem_cons (show a < xs.length by omega), List.drop_eq_getElem_cons (show a + 1 < xs.length by omega)]
  simp [List.getD_eq_getElem?_getD, List.getElem?_eq_getElem (show a < xs.length by omega), List.getElem?_eq_getElem (show a + 1 < xs.length by omega)]
theorem ge_none {xs : List Int} {m : Nat} (hlt : ofs xs m < xs.length) (h : xs.length < ofs xs m + 2) : ge xs m = 4 := by
  have e : px xs m = [xs.getD (ofs xs m) 0] := by
    unfold px
    rw [show ofs xs (m + 1) = pEnd xs (ofs xs m) from rfl]
    unfold pEnd
    rw [if_pos (by omega), show xs.length - ofs xs m = 1 by omega, List.drop_eq_getElem_cons hlt, List.take_succ_cons, List.take_zero]
    simp [List.getD_eq_getElem?_getD, List.getElem?_eq_getElem hlt]
  unfold ge rrE
  rw [e, if_pos (rrF_one _)]
theorem ge_cut {xs : List Int} {m : Nat} (h2 : ofs xs m + 2 ≤ xs.length) (h : xs.length < ofs xs m + 2 + (xs.getD (ofs xs m + 1) 0).toNat) : ge xs m = 4 := by
  have e : px xs m = xs.getD (ofs xs m) 0 :: xs.getD (ofs xs m + 1) 0 :: xs.drop (ofs xs m + 2) := by
    unfold px
    rw [show ofs xs (m + 1) = pEnd xs (ofs xs m) from rfl]
    unfold pEnd
    rw [if_neg (by omega), Nat.min_eq_left (by omega), List.take_of_length_le (by rw [List.length_drop]; exact Nat.le_refl _), at_two h2]
  unfold ge rrE
  rw [e, if_pos ((rrF_two _ _ _).2.1 (by rw [List.length_drop]; omega))]
theorem px_full {xs : List Int} {m : Nat} (h : ofs xs m + 2 + (xs.getD (ofs xs m + 1) 0).toNat ≤ xs.length) :
    px xs m = xs.getD (ofs xs m) 0 :: xs.getD (ofs xs m + 1) 0 :: (xs.drop (ofs xs m + 2)).take (xs.getD (ofs xs m + 1) 0).toNat ∧ ofs xs (m + 1) = ofs xs m + 2 + (xs.getD (ofs xs m + 1) 0).toNat := by
  have e1 : ofs xs (m + 1) = ofs xs m + 2 + (xs.getD (ofs xs m + 1) 0).toNat := by
    rw [show ofs xs (m + 1) = pEnd xs (ofs xs m) from rfl]
    unfold pEnd
    rw [if_neg (by omega), Nat.min_eq_right (by omega)]
  refine ⟨?_, e1⟩
  unfold px
  rw [e1, at_two (by omega), show ofs xs m + 2 + (xs.getD (ofs xs m + 1) 0).toNat - ofs xs m = (xs.getD (ofs xs m + 1) 0).toNat + 2 by omega]
  rfl

/-- The value of any kind. -/
theorem value_is (k : Nat) (h1 : 1 ≤ k) (h5 : k ≤ 5) (xs : List Int) (ho : Oct xs) (hl : xs.length ≤ 1000) (v : Value) (w : World) (hs : Seg w v xs) :
    Calls Try.prog 53 #[.int .i64 k, v] w fun r w' => ∃ n : NL, r = .returned n.v ∧ Vals k xs n ∧ Below w.heap.size w w' := by
  obtain rfl | rfl | rfl | rfl | rfl : k = 1 ∨ k = 2 ∨ k = 3 ∨ k = 4 ∨ k = 5 := by omega
  all_goals by_cases h18 : 18 ≤ xs.length
  · exact val_1L xs ho hl h18 v w hs
  · exact val_1S xs ho hl h18 v w hs
  · exact val_2L xs ho hl h18 v w hs
  · exact val_2S xs ho hl h18 v w hs
  · exact val_3 xs ho hl v w hs
  · exact val_3 xs ho hl v w hs
  · exact val_4L xs ho hl h18 v w hs
  · exact val_4S xs ho hl h18 v w hs
  · exact val_5L xs ho hl h18 v w hs
  · exact val_5S xs ho hl h18 v w hs

/-- What the reference's Read answers. -/
def RefTo (lo : Nat) (xs : List Int) (w : World) (V : Value) (E A : Int) : Prop :=
  (∃ m, xs.length ≤ ofs xs m ∧ (∀ j, j < m → ofs xs j < xs.length) ∧ (∀ j, j < m → ge xs j = 0) ∧ E = 0 ∧ A = 0 ∧ NuN lo w V ((List.range m).map (gr xs))) ∨
  (∃ m, (∀ j, j < m + 1 → ofs xs j < xs.length) ∧ (∀ j, j < m → ge xs j = 0) ∧ E = ge xs m ∧ E ≠ 0 ∧ A = (ofs xs m : Nat) ∧ V = .slice none 0 0)
theorem NSeg.nil (w : World) : NSeg w (.slice none 0 0) [] := ⟨none, 0, rfl, Nat.le_refl _, fun i n h => by simp at h⟩
/-- Both answer the same. -/
theorem reads_same {lo lo' : Nat} {xs : List Int} (hl : xs.length ≤ 400) {w w' : World} {V V' : Value} {E A E' A' : Int} (h : ReadsTo lo xs w V E A) (h' : RefTo lo' xs w' V' E' A') :
    E = E' ∧ A = A' ∧ ∃ L, L.length ≤ 400 ∧ NSeg w V L ∧ NSeg w' V' L := by
  rcases h with ⟨m, h1, h2, h3, h4, rfl, rfl, h5, h6⟩ | ⟨m, h1, h2, h3, h4, h5, h6, h7⟩
  · rcases h' with ⟨n, g1, g2, g3, rfl, rfl, g4⟩ | ⟨n, g1, g2, g3, g4, g5, g6⟩
    · have hmn : m = n := by
        rcases Nat.lt_trichotomy m n with q | q | q
        · have := g2 m q; omega
        · exact q
        · have := h2 n q; omega
      subst hmn
      refine ⟨rfl, rfl, _, ?_, h5.seg, g4.seg⟩
      rw [List.length_map, List.length_range]
      have := ofs_ge xs m h2
      have := ofs_le xs m
      omega
    · exfalso
      rcases Nat.lt_or_ge n m with q | q
      · have := h3 n q; omega
      · have := g1 m (by omega); omega
  · have hm : m ≠ 4096 := fun e => by
      have := ofs_ge xs m fun j hj => h1 j (by omega)
      have := ofs_le xs m
      omega
    rw [if_neg hm] at h4
    rcases h' with ⟨n, g1, g2, g3, rfl, rfl, g4⟩ | ⟨n, g1, g2, g3, g4, g5, g6⟩
    · exfalso
      rcases Nat.lt_or_ge m n with q | q
      · have := g3 m q; omega
      · have := h1 n (by omega); omega
    · have hmn : m = n := by
        rcases Nat.lt_trichotomy m n with q | q | q
        · have := g2 m q; omega
        · exact q
        · have := h2 n q; omega
      subst hmn h7 g6
      exact ⟨h4.trans g3.symm, h6.trans g5.symm, [], by simp, NSeg.nil _, NSeg.nil _⟩
end Go.Proofs.Ytejcclcckgdbgaa
