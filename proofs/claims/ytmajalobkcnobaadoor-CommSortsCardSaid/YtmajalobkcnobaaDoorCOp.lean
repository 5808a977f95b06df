/- Arguments of the statements on communities, opened; the wrap with the listed variable. No condition. -/
import Derived.Test.YtmajalobkcnobaaDoorCKi
import Derived.Test.YtmajalobkcnobaaDoorTie
import Derived.Test.YtmajalobkcnobaaDoorCards
import Derived.Lib.SmallJoins
import Derived.ChangeOld
import Derived.ChangeSame
import Derived.Carry
import Derived.Stop.LaidErr
import Derived.Shelf.Vars
namespace Go.Proofs.YtmajalobkcnobaaDoor
open Go.RowKit Go.ChangeShapes Go.WideShapes Go.ChangeAt Go.Joins
set_option linter.unusedVariables false
set_option maxRecDepth 100000

theorem own : ownKnob Tryd.prog.godebug = none := by kernel_rfl
theorem laidOut : laidOutB Tryd.prog = true := by kernel_rfl
theorem cellsComm : Tryd.prog.cellsOf 24 = 8 := by kernel_rfl
theorem cellsByte : Tryd.prog.cellsOf 5 = 1 := by kernel_rfl
theorem okWide_array {P : Program} {w : World} {r : Reach} {b0 : Nat} {t : TypeId} {v : Value} {n : Nat} {e : TypeId} (ht : P.underlying t = some (.array n e)) (h : Value.okWide P w r b0 t v) : ∃ cs, v = .agg cs ∧ cs.size = P.cellsOf t := by
  simp only [Value.okWide, ht] at h
  obtain ⟨cs, h1, h2, _⟩ := h
  exact ⟨cs, h1, h2⟩
theorem eight {cs : Array Value} (hs : cs.size = 8) (e : Nat → Int) (h : ∀ i, i < 8 → cs[i]? = some (.int .u8 (e i))) : cs = #[.int .u8 (e 0), .int .u8 (e 1), .int .u8 (e 2), .int .u8 (e 3), .int .u8 (e 4), .int .u8 (e 5), .int .u8 (e 6), .int .u8 (e 7)] := by
  apply Array.ext_getElem?
  intro i
  by_cases hi : i < 8
  · rw [h i hi]
    rcases i with _ | _ | _ | _ | _ | _ | _ | _ | i
    all_goals first | rfl | omega
  · rw [Array.getElem?_eq_none (by omega), Array.getElem?_eq_none (by simp; omega)]
/-- Its bytes are octets. -/
def Oc8 (e : Nat → Int) : Prop := ∀ i, i < 8 → 0 ≤ e i ∧ e i < 256
/-- The cells of a community that reads so. -/
theorem comm_cells {H : Type} {enc : TypeId × Value → H} {w : World} {base : Nat} {spare : Nat → Bool} {held : Bool} {fuel : Nat} {cs : List Value} {x : DataW H × List MemPlace} (hs : cs.length = 8)
    (h : DataW.trod enc Tryd.prog w base spare held fuel 24 cs = some x) : ∃ e : Nat → Int, cs = [.int .u8 (e 0), .int .u8 (e 1), .int .u8 (e 2), .int .u8 (e 3), .int .u8 (e 4), .int .u8 (e 5), .int .u8 (e 6), .int .u8 (e 7)] ∧ Oc8 e := by
  obtain ⟨xs, m, _, _, _, hx, hi⟩ := DataW.trod_array Tryd.underlying24 (show DataW.trod _ _ _ _ _ _ _ _ _ = some (x.1, x.2) from h)
  rw [cellsByte] at hi
  have key : ∀ i, i < 8 → ∃ n : Int, cs[i]? = some (.int .u8 n) ∧ (Lit.int .u8 n).wf = true := by
    intro i h8
    have h1 := hi i h8
    rw [List.getElem?_eq_getElem (by omega)] at h1
    obtain ⟨n, e1, _, wn⟩ := DataW.trod_int Tryd.underlying5 h1
    refine ⟨n, ?_, wn⟩
    have e2 := congrArg (·[0]?) e1
    simpa [List.getElem?_take, List.getElem?_drop] using e2
  have key2 : ∃ e : Nat → Int, ∀ i, i < 8 → cs[i]? = some (.int .u8 (e i)) ∧ (Lit.int .u8 (e i)).wf = true :=
    ⟨fun i => if h8 : i < 8 then (key i h8).choose else 0, fun i h8 => by simp only [dif_pos h8]; exact (key i h8).choose_spec⟩
  obtain ⟨e, he⟩ := key2
  refine ⟨e, ?_, fun i h => ?_⟩
  · have := eight (cs := cs.toArray) (by simpa using hs) e fun i h => by simpa using (he i h).1
    have h2 := congrArg Array.toList this
    simpa using h2
  · have := bounds_u8 (he i h).2
    omega
theorem open_comm {H : Type} {enc : TypeId × Value → H} {w : World} {r : Reach} {b0 base : Nat} {spare : Nat → Bool} {held : Bool} {v : Value} {d : DataW H} {p : List MemPlace}
    (hv : Value.okWide Tryd.prog w r b0 24 v) (h : DataW.Trod enc Tryd.prog w base spare held 24 v d p) : ∃ e : Nat → Int, v = .agg #[.int .u8 (e 0), .int .u8 (e 1), .int .u8 (e 2), .int .u8 (e 3), .int .u8 (e 4), .int .u8 (e 5), .int .u8 (e 6), .int .u8 (e 7)] ∧ Oc8 e := by
  obtain ⟨cs, rfl, hs⟩ := okWide_array Tryd.underlying24 hv
  rw [cellsComm] at hs
  obtain ⟨fuel, hf⟩ := h
  obtain ⟨e, he, ho⟩ := comm_cells (cs := cs.toList) (by simpa using hs) hf
  refine ⟨e, ?_, ho⟩
  rw [← Array.toArray_toList (xs := cs), he]

/-- The wrap with the listed variables and the world's shape at once. -/
theorem wrap_and_shaped {H : Type} {enc : TypeId × Value → H} {C : Checked} {os : Os} {f : FuncId} {fn : Func} {s : ChangeSpec} {conds : List PathCond} {apart fresh handsOn again : Bool} {X : World → Array Value → Prop}
    (hX : ∀ (w w' : World) (args : Array Value), w.heap = w'.heap → X w args → X w' args)
    (own : ownKnob C.prog.godebug = none) (started : os.Started) (noInit : C.prog.inits.idxOf? f = none) (hfn : C.prog.funcs[f]? = some fn)
    (witness : ∃ (w : World) (tape : Tape) (i : Input), w.os = os ∧ (w.forCall tape i).Shaped C.prog ∧ i.vars = [] ∧ Input.okWide C.prog (w.forCall tape i) .any w.heap.size f i ∧
      ((s.pre enc C.prog fn conds apart (w.forCall tape i).memory i.args ∧ X (w.forCall tape i).memory i.args) ∧ sizedMet enc C.prog fn (OpenSpec.ofChange s) apart (w.forCall tape i).memory i.args) ∧ Assume.holds {} C.prog (lone (Frame.enter C.prog f i.args .normal) [] (w.forCall tape i)))
    (contract : ∀ (W : World) (base : Nat) (args : Array Value) (ds gs : List (DataW H)) (before : List MemPlace),
      (∀ (j : Nat) t v, fn.params[j]? = some t → args[j]? = some v → Value.okWide C.prog W .any base t v) →
      DataW.Whole enc C.prog fn.params.toList s.vars apart W args.toList ds gs before →
      (DataW.weightsEach C.prog (fn.params.toList ++ s.plain.varTypes C.prog) (ds ++ gs)).all (· ≤ reachBytes) = true → X W args → W.ShapedOpen C.prog →
      Calls C.prog f args W fun e W' => ∃ v, e = .returned v ∧ s.post enc C.prog fn apart fresh handsOn again W args v W') :
    ReturnsInHanded {} C os f .any (fun w args => (s.pre enc C.prog fn conds apart w args ∧ X w args) ∧ sizedMet enc C.prog fn (OpenSpec.ofChange s) apart w args) (s.post enc C.prog fn apart fresh handsOn again) := by
  refine returnsInHanded_of_calls own started noInit witness ?_
  intro w tape i _ hsh _ hok hpre hholds
  obtain ⟨_, _, _, fn', hfn', _, _, _, _, hval⟩ := hok
  obtain rfl : fn' = fn := Option.some.inj (hfn'.symm.trans hfn)
  obtain ⟨⟨⟨ds, gs, before, hw, hc⟩, hx⟩, hz⟩ := hpre
  refine (contract (w.forCall tape i) w.heap.size i.args ds gs before hval (DataW.Whole.of_heap (w' := w.forCall tape i) (by rfl) hw) (hz.weights hw) (hX _ _ _ (by rfl) hx) hsh).mono fun e W' ⟨v, he, hp⟩ => ?_
  subst he
  exact ChangeSpec.post_blind hp

end Go.Proofs.YtmajalobkcnobaaDoor
