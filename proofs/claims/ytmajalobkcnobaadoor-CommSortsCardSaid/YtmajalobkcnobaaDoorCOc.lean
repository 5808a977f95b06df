/- Lists of communities that come in, opened. No condition. -/
import Derived.Test.YtmajalobkcnobaaDoorCOp
import Derived.Test.YtmajalobkcnobaaDoorCTg
namespace Go.Proofs.YtmajalobkcnobaaDoor
open Go.RowKit Go.ChangeShapes Go.WideShapes Go.ChangeAt Go.Joins
set_option linter.unusedVariables false
set_option linter.unusedSimpArgs false
set_option maxRecDepth 100000

theorem addr_of_cell {w : World} {a : Addr} {v : Value} (h : w.cell? a = some v) : a.spot = none := by
  unfold World.cell? at h
  split at h
  · split at h
    · cases h
    · rename_i hs
      cases hx : a.spot with
      | none => rfl
      | some s => simp [hx] at hs
  · cases h
theorem cells_at {w : World} {a : Addr} {cs : List Value} (h : w.cells? 0 a 8 = some cs) : cs.length = 8 ∧ ∀ j, j < 8 → ∃ u, cs[j]? = some u ∧ w.cell? (a.add j) = some u := by
  unfold World.cells? at h
  rw [if_pos (Nat.zero_le _)] at h
  exact ⟨by simpa using Lib.mapM_length h, fun j hj => Lib.mapM_at h j j (by simp [hj])⟩
theorem open_comms {H : Type} {enc : TypeId × Value → H} {w : World} {held : Bool} {v : Value} {d : DataW H} {p : List MemPlace}
    (hv : Value.okWide Tryd.prog w .any 0 35 v) (h : DataW.Trod enc Tryd.prog w 0 (fun _ => true) held 35 v d p) : ∃ E, CSeg w v E ∧ ∀ e ∈ E, O8 e := by
  obtain ⟨a, len, cap, rfl⟩ := okWide_slice Tryd.underlying35 hv
  obtain ⟨fuel, hf⟩ := h
  rcases DataW.trod_slice Tryd.underlying35 hf with ⟨hcs, -⟩ | ⟨a', len', cap', elems, rest, n, -, hcs, -, -, hlc, -, hel, hcell, -, -⟩
  · simp [Value.cells] at hcs
    obtain ⟨rfl, rfl, rfl⟩ := hcs
    exact ⟨[], ⟨none, 0, rfl, Nat.le_refl _, fun i e hi => by simp at hi⟩, fun e he => by simp at he⟩
  · simp [Value.cells] at hcs
    obtain ⟨rfl, rfl, rfl⟩ := hcs
    rw [cellsComm] at hcell
    have hspot : ∀ i, i < len → a'.spot = none := by
      intro i hi
      have h1 := hcell 0 (by omega)
      rw [List.getElem?_eq_getElem (by omega)] at h1
      obtain ⟨cs, hc, -⟩ := Option.bind_eq_some_iff.1 h1
      obtain ⟨u, -, hu⟩ := (cells_at hc).2 0 (by decide)
      have e0 : ∀ q : Addr, q.add 0 = q := fun q => by simp [Addr.add]
      rw [Nat.zero_mul, e0, e0] at hu
      exact addr_of_cell hu
    have key : ∀ i, i < len → ∃ e : Nat → Int, O8 e ∧ a'.spot = none ∧ a'.block < w.heap.size ∧ w.rangeAt a'.block (a'.off + i * 8) [.int .u8 (e 0), .int .u8 (e 1), .int .u8 (e 2), .int .u8 (e 3), .int .u8 (e 4), .int .u8 (e 5), .int .u8 (e 6), .int .u8 (e 7)] := by
      intro i hi
      have h1 := hcell i hi
      rw [List.getElem?_eq_getElem (by omega)] at h1
      obtain ⟨cs, hc, ht⟩ := Option.bind_eq_some_iff.1 h1
      have hs := hspot i hi
      obtain ⟨hl8, hat⟩ := cells_at hc
      obtain ⟨e, rfl, ho⟩ := comm_cells hl8 ht
      obtain ⟨b, o, s⟩ := a'
      simp only at hs
      subst hs
      refine ⟨e, ho, rfl, ?_, fun j u hj => ?_⟩
      · obtain ⟨u, -, hu⟩ := hat 0 (by decide)
        rw [Addr.add_mid, Addr.add_mid] at hu
        have hlt := block_lt_of_cell hu
        exact hlt
      · have hj8 : j < 8 := by
          rcases Nat.lt_or_ge j 8 with q | q
          · exact q
          · rw [List.getElem?_eq_none (by simpa using q)] at hj
            cases hj
        obtain ⟨u', h1, hu⟩ := hat j hj8
        rw [Addr.add_mid, Addr.add_mid] at hu
        obtain rfl := Option.some.inj (h1.symm.trans hj)
        exact hu
    have key2 : ∃ f : Nat → Nat → Int, ∀ i, i < len → O8 (f i) ∧ a'.spot = none ∧ a'.block < w.heap.size ∧ w.rangeAt a'.block (a'.off + i * 8) [.int .u8 ((f i) 0), .int .u8 ((f i) 1), .int .u8 ((f i) 2), .int .u8 ((f i) 3), .int .u8 ((f i) 4), .int .u8 ((f i) 5), .int .u8 ((f i) 6), .int .u8 ((f i) 7)] :=
      ⟨fun i => if hi : i < len then (key i hi).choose else fun _ => 0, fun i hi => by simp only [dif_pos hi]; exact (key i hi).choose_spec⟩
    obtain ⟨f, hf2⟩ := key2
    have hl : ((List.range len).map f).length = len := by simp
    refine ⟨(List.range len).map f, ⟨some a', cap, by rw [hl], by rw [hl]; exact hlc, fun i e hi => ?_⟩, fun e he => ?_⟩
    · have hil : i < len := by
        rcases Nat.lt_or_ge i len with q | q
        · exact q
        · rw [List.getElem?_eq_none (by rw [hl]; exact q)] at hi
          cases hi
      have : e = f i := by
        rw [List.getElem?_map, List.getElem?_range hil] at hi
        simpa using hi.symm
      subst this
      obtain ⟨-, hs, hb, hr⟩ := hf2 i hil
      refine ⟨a'.block, a'.off, ?_, hb, hr⟩
      obtain ⟨b, o, s⟩ := a'
      simp only at hs
      subst hs
      rfl
    · obtain ⟨i, hi, rfl⟩ := List.mem_map.1 he
      exact (hf2 i (List.mem_range.1 hi)).1
end Go.Proofs.YtmajalobkcnobaaDoor
