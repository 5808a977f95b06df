/- Arguments that are identifiers, opened. No condition. -/
import Derived.Test.YtipmfcbpkbkceaaDoorOpn
import Derived.Lib.SmallJoins
namespace Go.Proofs.YtipmfcbpkbkceaaDoor
set_option maxRecDepth 100000
open Go.RowKit Go.ChangeShapes Go.WideShapes Go.ChangeAt Go.Joins

theorem cellsESI : Tryd.prog.cellsOf 29 = 10 := by kernel_rfl
theorem cellsByte : Tryd.prog.cellsOf 5 = 1 := by kernel_rfl
theorem okWide_array {P : Program} {w : World} {r : Reach} {b0 : Nat} {t : TypeId} {v : Value} {n : Nat} {e : TypeId} (ht : P.underlying t = some (.array n e)) (h : Value.okWide P w r b0 t v) : ∃ cs, v = .agg cs ∧ cs.size = P.cellsOf t := by
  simp only [Value.okWide, ht] at h
  obtain ⟨cs, h1, h2, _⟩ := h
  exact ⟨cs, h1, h2⟩

/-- Ten cells, each a byte. -/
theorem ten {cs : Array Value} (hs : cs.size = 10) (e : Nat → Int) (h : ∀ i, i < 10 → cs[i]? = some (.int .u8 (e i))) : cs = #[.int .u8 (e 0), .int .u8 (e 1), .int .u8 (e 2), .int .u8 (e 3), .int .u8 (e 4), .int .u8 (e 5), .int .u8 (e 6), .int .u8 (e 7), .int .u8 (e 8), .int .u8 (e 9)] := by
  apply Array.ext_getElem?
  intro i
  by_cases hi : i < 10
  · rw [h i hi]
    rcases i with _ | _ | _ | _ | _ | _ | _ | _ | _ | _ | i
    all_goals first | rfl | omega
  · rw [Array.getElem?_eq_none (by omega), Array.getElem?_eq_none (by simp; omega)]

theorem open_esi {H : Type} {enc : TypeId × Value → H} {w : World} {r : Reach} {b0 base : Nat} {spare : Nat → Bool} {held : Bool} {v : Value} {d : DataW H} {p : List MemPlace}
    (hv : Value.okWide Tryd.prog w r b0 29 v) (h : DataW.Trod enc Tryd.prog w base spare held 29 v d p) :
    ∃ e : Nat → Int, v = .agg #[.int .u8 (e 0), .int .u8 (e 1), .int .u8 (e 2), .int .u8 (e 3), .int .u8 (e 4), .int .u8 (e 5), .int .u8 (e 6), .int .u8 (e 7), .int .u8 (e 8), .int .u8 (e 9)] ∧ ∀ i, i < 10 → (Lit.int .u8 (e i)).wf = true := by
  obtain ⟨cs, rfl, hs⟩ := okWide_array Tryd.underlying29 hv
  rw [cellsESI] at hs
  obtain ⟨fuel, hf⟩ := h
  obtain ⟨xs, m, _, _, _, hx, hi⟩ := DataW.trod_array Tryd.underlying29 hf
  rw [cellsByte] at hi
  have key : ∀ i, i < 10 → ∃ n : Int, cs[i]? = some (.int .u8 n) ∧ (Lit.int .u8 n).wf = true := by
    intro i h10
    have h1 := hi i h10
    rw [List.getElem?_eq_getElem (by omega)] at h1
    obtain ⟨n, e1, _, wn⟩ := DataW.trod_int Tryd.underlying5 h1
    refine ⟨n, ?_, wn⟩
    have e2 := congrArg (·[0]?) e1
    simpa [Value.cells] using e2
  have key2 : ∃ e : Nat → Int, ∀ i, i < 10 → cs[i]? = some (.int .u8 (e i)) ∧ (Lit.int .u8 (e i)).wf = true :=
    ⟨fun i => if h10 : i < 10 then (key i h10).choose else 0, fun i h10 => by simp only [dif_pos h10]; exact (key i h10).choose_spec⟩
  obtain ⟨e, he⟩ := key2
  exact ⟨e, congrArg Value.agg (ten hs e fun i h => (he i h).1), fun i h => (he i h).2⟩
end Go.Proofs.YtipmfcbpkbkceaaDoor
