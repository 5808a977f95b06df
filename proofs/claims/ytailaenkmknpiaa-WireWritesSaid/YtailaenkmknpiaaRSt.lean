/- A region that draws its order and whose writes wait one for the other: the world is a function of which of them have been. No condition. -/
import Derived.Test.YtailaenkmknpiaaWMx
import Derived.Test.YtailaenkmknpiaaRSel
namespace Go.Proofs.Ytailaenkmknpiaa
open Go.RowKit
set_option linter.unusedVariables false

/-- Whatever has been, all that it waits for has been. -/
def Closed (ops : Array Oper) (L : Array Bool) : Prop := ∀ j o, ops[j]? = some o → L.getD j false = true → ∀ e ∈ o.after, Region.binds .any e = true → L.getD e.on false = true
theorem Closed.dep {ops : Array Oper} {L : Array Bool} (h : Closed ops L) {j : Nat} {o : Oper} (hj : L.getD j false = true) (ho : ops[j]? = some o) {e : Edge} (he : e ∈ o.after) (hb : Region.binds .any e = true) : L.getD e.on false = true := h j o ho hj e he hb
theorem Closed.set {ops : Array Oper} {L : Array Bool} (h : Closed ops L) {k : Nat} (hk : k ∈ Region.ready .any ops L) : Closed ops (L.setIfInBounds k true) := fun j o ho hj e he hb => by
  have grow : ∀ i, L.getD i false = true → (L.setIfInBounds k true).getD i false = true := fun i hi => by
    by_cases hik : k = i
    · subst hik
      exact set_yes (ready_not hk).2
    · rw [getD_set_ne false hik]
      exact hi
  by_cases hjk : k = j
  · subst hjk
    exact grow _ (ready_dep hk ho he hb)
  · rw [getD_set_ne false hjk] at hj
    exact grow _ (h j o ho hj e he hb)
theorem Closed.start (ops : Array Oper) (n : Nat) : Closed ops (Array.replicate n false) := fun j o ho hj => by
  rw [show (Array.replicate n false).getD j false = false by simp [Array.getElem?_replicate]; split <;> rfl] at hj
  cases hj

/-- The world of the latest write that has been. -/
def stg : List (Nat × World) → World → Array Bool → World
  | [], W, _ => W
  | p :: r, W, L => if L.getD p.1 false = true then p.2 else stg r W L
theorem stg_ne {k : Nat} : ∀ (js : List (Nat × World)) (W : World) (L : Array Bool), (∀ p ∈ js, k ≠ p.1) → stg js W (L.setIfInBounds k true) = stg js W L
  | [], _, _, _ => rfl
  | p :: r, W, L, h => by
    unfold stg
    rw [getD_set_ne false (h p (by simp)), stg_ne r W L fun q hq => h q (List.mem_cons_of_mem _ hq)]
theorem stg_start (n : Nat) : ∀ (js : List (Nat × World)) (W : World), stg js W (Array.replicate n false) = W
  | [], _ => rfl
  | p :: r, W => by
    unfold stg
    rw [if_neg (by simp [Array.getElem?_replicate]; split <;> simp), stg_start n r W]
/-- Its worlds: those of which the write has been, and the first. -/
theorem stg_in {F : World → Prop} {W : World} {L : Array Bool} : ∀ (js : List (Nat × World)), F W → (∀ p ∈ js, L.getD p.1 false = true → F p.2) → F (stg js W L)
  | [], h, _ => h
  | p :: r, h, hp => by
    unfold stg
    split
    · next e => exact hp p (by simp) e
    · exact stg_in r h fun q hq => hp q (List.mem_cons_of_mem _ hq)

section
variable {P : Program} {ops : Array Oper} {f : Array Bool → World}
/-- Number k yields v whenever it may come up. -/
def StepS (P : Program) (ops : Array Oper) (f : Array Bool → World) (k : Nat) (o : Oper) (v : Value) (a : Act) : Prop :=
  (Region.wanted o (yielded ops a.tmps) = true ∧ ∀ L, k ∈ Region.ready .any ops L → Closed ops L → (execOp a.eval o).run P (f L) = .ok (.value v) (f (L.setIfInBounds k true)) ∨ (v = undef ∧ (execOp a.eval o).run P (f L) = .ok .skip (f (L.setIfInBounds k true)))) ∨
  (Region.wanted o (yielded ops a.tmps) = false ∧ v = undef ∧ ∀ L, k ∈ Region.ready .any ops L → f (L.setIfInBounds k true) = f L)
def wpStage (P : Program) (ops : Array Oper) (f : Array Bool → World) (Q : Act → Prop) : List Oper → Nat → Act → Prop
  | [], _, a => Q a
  | o :: l, k, a => ∃ v, StepS P ops f k o v a ∧ wpStage P ops f Q l (k + 1) (a.put o.dst v)
theorem multi_of_stage {Q Q' : Act → Prop} (hQ : ∀ a, Q a → Q' a) : ∀ (l : List Oper) (k : Nat) (a : Act), wpStage P ops f Q l k a → wpMulti P ops (fun L w => (L.size = ops.size ∧ Closed ops L) ∧ w = f L) Q' l k a
  | [], _, _, h => hQ _ h
  | o :: l, k, a, ⟨v, hs, h⟩ => ⟨v, by
      rcases hs with ⟨hw, hs⟩ | ⟨hw, hv, hs⟩
      · refine .inl ⟨hw, fun L w hr hC => ?_⟩
        obtain ⟨⟨hz, hc⟩, rfl⟩ := hC
        rcases hs L hr hc with e | ⟨hv, e⟩
        · rw [e]
          exact ⟨⟨⟨by simpa using hz, hc.set hr⟩, rfl⟩, rfl⟩
        · rw [e]
          exact ⟨⟨⟨by simpa using hz, hc.set hr⟩, rfl⟩, hv⟩
      · refine .inr ⟨hw, hv, fun L w hr hC => ?_⟩
        exact ⟨⟨by simpa using hC.1.1, hC.1.2.set hr⟩, hC.2.trans (hs L hr).symm⟩, multi_of_stage hQ l (k + 1) _ h⟩
/-- The rule: j is the last write, W the world behind it. -/
theorem wp_region_stage {id : Nat} {Q : Exit → Act → World → Prop} {a : Act} {w : World} {l : List Oper} (j : Nat) (W : World) (js : List (Nat × World)) (hj : j < l.toArray.size) (hm : P.follows .mixedOrders = true) (hB : Region.lexB .any l.toArray = true) (hb : backB l.toArray = true)
    (h : wpStage P l.toArray (stg ((j, W) :: js) w.drew) (fun a' => Q .normal a' W) l 0 a) : (Code.region id l.toArray true).wp P Q a w :=
  wp_region_multi (fun L w' => (L.size = l.toArray.size ∧ Closed l.toArray L) ∧ w' = stg ((j, W) :: js) w.drew L) hm hB ⟨⟨by simp, Closed.start _ _⟩, (stg_start _ _ _).symm⟩
    (multi_of_stage (fun a' hq L w' hr hC => by
      obtain ⟨⟨hz, hc⟩, rfl⟩ := hC
      unfold stg
      rw [if_pos (all_done hb hz hr j hj)]
      exact hq) l 0 a h)
/-- A step: an operation that reads. -/
theorem stage_calm {Q : Act → Prop} {o : Oper} {l : List Oper} {k : Nat} {a : Act} {js : List (Nat × World)} {W0 : World} (hk : ∀ p ∈ js, k ≠ p.1)
    (h : ∀ K : Act → Prop, (∀ a, wpStage P ops (stg js W0) Q l (k + 1) a → K a) → if Region.wanted o (yielded ops a.tmps) then calm P (fun x : { L : Array Bool // k ∈ Region.ready .any ops L ∧ Closed ops L } => stg js W0 x.1) o a K else K (a.put o.dst undef)) : wpStage P ops (stg js W0) Q (o :: l) k a := by
  have h' := h _ (fun _ q => q)
  by_cases hw : Region.wanted o (yielded ops a.tmps) = true
  · rw [if_pos hw] at h'
    obtain ⟨v, h1, h2⟩ := h'
    refine ⟨v, .inl ⟨hw, fun L hr hc => ?_⟩, h2⟩
    have h3 := h1 ⟨L, hr, hc⟩
    rw [stg_ne js W0 L hk]
    dsimp only at h3
    generalize (execOp a.eval o).run P (stg js W0 L) = r at h3
    cases r with
    | ok n w' =>
      cases n <;> simp only [calmUpon] at h3
      · obtain ⟨rfl, rfl⟩ := h3
        exact .inl rfl
      · obtain ⟨rfl, rfl⟩ := h3
        exact .inr ⟨rfl, rfl⟩
    | halt x w' => simp only [calmUpon] at h3
  · rw [if_neg hw] at h'
    exact ⟨undef, .inr ⟨by simpa using hw, rfl, fun L _ => stg_ne js W0 L hk⟩, h'⟩
/-- A step: a write that yields a value (or nothing). -/
theorem stage_write {Q : Act → Prop} {o : Oper} {l : List Oper} {k : Nat} {a : Act} {js : List (Nat × World)} {W0 : World} (v : Value) (hw : Region.wanted o (yielded ops a.tmps) = true)
    (hs : ∀ L, k ∈ Region.ready .any ops L → Closed ops L → (execOp a.eval o).run P (stg js W0 L) = .ok (.value v) (stg js W0 (L.setIfInBounds k true))) (h : wpStage P ops (stg js W0) Q l (k + 1) (a.put o.dst v)) : wpStage P ops (stg js W0) Q (o :: l) k a :=
  ⟨v, .inl ⟨hw, fun L hr hc => .inl (hs L hr hc)⟩, h⟩
theorem stage_skip {Q : Act → Prop} {o : Oper} {l : List Oper} {k : Nat} {a : Act} {js : List (Nat × World)} {W0 : World} (hw : Region.wanted o (yielded ops a.tmps) = true)
    (hs : ∀ L, k ∈ Region.ready .any ops L → Closed ops L → (execOp a.eval o).run P (stg js W0 L) = .ok .skip (stg js W0 (L.setIfInBounds k true))) (h : wpStage P ops (stg js W0) Q l (k + 1) (a.put o.dst undef)) : wpStage P ops (stg js W0) Q (o :: l) k a :=
  ⟨undef, .inl ⟨hw, fun L hr hc => .inr ⟨rfl, hs L hr hc⟩⟩, h⟩
theorem stage_nil {Q : Act → Prop} {k : Nat} {a : Act} (h : Q a) : wpStage P ops f Q [] k a := h
end
end Go.Proofs.Ytailaenkmknpiaa
