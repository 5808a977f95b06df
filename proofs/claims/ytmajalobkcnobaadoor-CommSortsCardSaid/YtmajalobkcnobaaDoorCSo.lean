/- Sort of communities: the mathematics. No condition. -/
import Derived.Test.YtmajalobkcnobaaDoorCCn
namespace Go.Proofs.YtmajalobkcnobaaDoor
open Go.RowKit Go.Sort Go.Shelf Go.Lib
set_option linter.unusedVariables false
set_option linter.unusedSimpArgs false
set_option maxRecDepth 100000

theorem u8_inj (a b : Int) (ha : 0 ≤ a ∧ a < 256) (hb : 0 ≤ b ∧ b < 256) (h : UInt8.ofNat a.toNat = UInt8.ofNat b.toNat) : a = b := by
  have h2 := congrArg UInt8.toNat h
  rw [UInt8.toNat_ofNat', UInt8.toNat_ofNat'] at h2
  omega
theorem cb_eq {e f : Nat → Int} (he : O8 e) (hf : O8 f) : cb e = cb f ↔ eqC e f = true := by
  rw [eqC_iff]
  constructor
  · intro h j hj
    simp only [cb, Lib.bytesOf, List.map_cons, List.map_nil, List.cons.injEq, and_true] at h
    obtain ⟨h0, h1, h2, h3, h4, h5, h6, h7⟩ := h
    apply u8_inj _ _ (he j hj) (hf j hj)
    rcases j with _ | _ | _ | _ | _ | _ | _ | _ | j
    all_goals first | assumption | omega
  · intro h
    simp only [cb, h 0 (by omega), h 1 (by omega), h 2 (by omega), h 3 (by omega), h 4 (by omega), h 5 (by omega), h 6 (by omega), h 7 (by omega)]
theorem tri {x y : List UInt8} (h1 : ¬ y < x) (h2 : x ≠ y) : x < y := by
  by_cases h : x < y
  · exact h
  · exact absurd (List.le_antisymm (List.not_lt.1 h1) (List.not_lt.1 h)) h2

/-- S is strictly ascending, and of F's elements. -/
structure SetOf (F S : List (Nat → Int)) : Prop where
  asc : (S.map cb).Pairwise (fun x y => x < y)
  mem : ∀ l, l ∈ S.map cb ↔ l ∈ F.map cb
  sub : ∀ e, e ∈ S → e ∈ F
  len : S.length ≤ F.length
theorem asc_one : ∀ (S T : List (List UInt8)), S.Pairwise (fun x y => x < y) → T.Pairwise (fun x y => x < y) → (∀ l, l ∈ S ↔ l ∈ T) → S = T
  | [], [], _, _, _ => rfl
  | [], y :: T, _, _, h => by simpa using (h y).2 (by simp)
  | x :: S, [], _, _, h => by simpa using (h x).1 (by simp)
  | x :: S, y :: T, hS, hT, h => by
    obtain ⟨s1, s2⟩ := List.pairwise_cons.1 hS
    obtain ⟨t1, t2⟩ := List.pairwise_cons.1 hT
    have hxy : x = y := by
      rcases List.mem_cons.1 ((h x).1 (by simp)) with e | e
      · exact e
      · rcases List.mem_cons.1 ((h y).2 (by simp)) with e' | e'
        · exact e'.symm
        · exact absurd (List.lt_trans (t1 x e) (s1 y e')) (List.lt_irrefl _)
    subst hxy
    congr 1
    refine asc_one S T s2 t2 fun l => ⟨fun hl => ?_, fun hl => ?_⟩
    · rcases List.mem_cons.1 ((h l).1 (List.mem_cons_of_mem _ hl)) with e | e
      · subst e
        exact absurd (s1 _ hl) (List.lt_irrefl _)
      · exact e
    · rcases List.mem_cons.1 ((h l).2 (List.mem_cons_of_mem _ hl)) with e | e
      · subst e
        exact absurd (t1 _ hl) (List.lt_irrefl _)
      · exact e
theorem SetOf.one {F F' S S' : List (Nat → Int)} (h : SetOf F S) (h' : SetOf F' S') (k : ∀ l, l ∈ F.map cb ↔ l ∈ F'.map cb) : S.map cb = S'.map cb :=
  asc_one _ _ h.asc h'.asc fun l => (h.mem l).trans ((k l).trans (h'.mem l).symm)

theorem kept_set {F : List (Nat → Int)} {d : Array (Nat → Int)} (hO : ∀ e ∈ F, O8 e) (hp : PermIn 0 F.toArray.size F.toArray d) (hs : SortedIn (ltOf cmpC) 0 F.toArray.size d) : d.size = F.length ∧ SetOf F (kept (fun i => d[i]!) d.size) := by
  obtain ⟨h1, -, h3⟩ := hp
  have h1' : d.size = F.length := by simpa using h1
  have hperm : d.toList.Perm F := by
    rw [← h1] at h3
    have e1 : d.extract 0 d.size = d := by simp
    rw [e1] at h3
    rw [h1] at h3
    simpa using h3
  refine ⟨h1', ?_⟩
  have hmem : ∀ i, i < d.size → d[i]! ∈ F := fun i hi => by
    rw [getElem!_pos d i hi]
    exact hperm.mem_iff.1 (by simp)
  have hno : ∀ i j, i < j → j < d.size → ¬ cb d[j]! < cb d[i]! := fun i j hij hj => by
    have := hs i j (Nat.zero_le _) hij (by rw [← h1]; exact hj)
    rw [lt_cmpC] at this
    simpa [ltStr] using this
  have sub : ∀ e, e ∈ kept (fun i => d[i]!) d.size → e ∈ F := fun e he => by
    obtain ⟨i, hi, rfl⟩ := List.mem_map.1 he
    have := List.mem_range.1 (List.mem_filter.1 hi).1
    exact hmem i this
  refine ⟨?_, fun l => ⟨fun hl => ?_, fun hl => ?_⟩, sub, by have := kept_le (fun i => d[i]!) d.size; omega⟩
  · unfold kept
    rw [List.map_map, List.pairwise_map]
    refine List.Pairwise.imp_of_mem ?_ (List.Pairwise.sublist List.filter_sublist List.pairwise_lt_range)
    intro i j hi hj hij
    obtain ⟨hj1, hj2⟩ := List.mem_filter.1 hj
    have hjd := List.mem_range.1 hj1
    obtain ⟨k, rfl⟩ : ∃ k, j = k + 1 := ⟨j - 1, by omega⟩
    rw [kp_next] at hj2
    have hne : cb d[k]! ≠ cb d[k + 1]! := fun e => by
      have := (cb_eq (hO _ (hmem (k + 1) hjd)) (hO _ (hmem k (by omega)))).1 e.symm
      rw [this] at hj2
      cases hj2
    have hlt : cb d[k]! < cb d[k + 1]! := tri (hno k (k + 1) (by omega) hjd) hne
    show cb d[i]! < cb d[k + 1]!
    by_cases hik : i = k
    · subst hik
      exact hlt
    · by_cases heq : cb d[i]! = cb d[k]!
      · rw [heq]
        exact hlt
      · exact List.lt_trans (tri (hno i k (by omega) (by omega)) heq) hlt
  · obtain ⟨e, he, rfl⟩ := List.mem_map.1 hl
    exact List.mem_map.2 ⟨e, sub e he, rfl⟩
  · obtain ⟨e, he, rfl⟩ := List.mem_map.1 hl
    have he' := hperm.mem_iff.2 he
    obtain ⟨i, hi, hei⟩ := List.getElem_of_mem he'
    have hid : i < d.size := by simpa using hi
    have key : ∀ i, i < d.size → ∃ j, j ≤ i ∧ kp (fun i => d[i]!) j = true ∧ cb d[j]! = cb d[i]! := by
      intro i
      induction i with
      | zero => exact fun _ => ⟨0, Nat.le_refl _, rfl, rfl⟩
      | succ i ih =>
        intro hi
        by_cases hk : kp (fun i => d[i]!) (i + 1) = true
        · exact ⟨i + 1, Nat.le_refl _, hk, rfl⟩
        · obtain ⟨j, h1, h2, h3⟩ := ih (by omega)
          refine ⟨j, by omega, h2, h3.trans ?_⟩
          rw [kp_next] at hk
          have : eqC d[i + 1]! d[i]! = true := by simpa using hk
          exact ((cb_eq (hO _ (hmem (i + 1) hi)) (hO _ (hmem i (by omega)))).2 this).symm
    obtain ⟨j, h1, h2, h3⟩ := key i hid
    refine List.mem_map.2 ⟨d[j]!, List.mem_map.2 ⟨j, List.mem_filter.2 ⟨List.mem_range.2 (by omega), h2⟩, rfl⟩, ?_⟩
    rw [h3, getElem!_pos d i hid, ← hei]
    simp
end Go.Proofs.YtmajalobkcnobaaDoor
