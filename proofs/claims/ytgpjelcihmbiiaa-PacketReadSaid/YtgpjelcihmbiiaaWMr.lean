/- A region that draws its order and whose calls write: one walk of the text's order serves every order, where the class of worlds says which operations have been. No condition. -/
import Derived.Test.YtgpjelcihmbiiaaWKit
import Derived.Deep.Quiet
namespace Go.Proofs.Ytgpjelcihmbiiaa
open Go.RowKit
set_option linter.unusedVariables false

/-- Carried out, the operation leaves v, and a world of the class D. -/
def turnsUpon (P : Program) (D : World → Prop) (v : Value) : Result Next → Prop
  | .ok (.value u) w' => D w' ∧ u = v
  | .ok .skip w' => D w' ∧ v = undef
  | .ok (.enter f args) w' => Calls P f args w' (fun e w'' => e = .returned v ∧ D w'')
  | _ => False

section
variable {P : Program} {ops : Array Oper} {C : Array Bool → World → Prop}

theorem wp_of_turns {o : Oper} {a : Act} {D : World → Prop} {v : Value} {K : Act → World → Prop} {Q : Exit → Act → World → Prop} {w : World} (h : turnsUpon P D v ((execOp a.eval o).run P w)) (hK : ∀ w', D w' → K (a.put o.dst v) w') : o.wp P a w K Q := by
  unfold Oper.wp
  generalize (execOp a.eval o).run P w = r at h
  cases r with
  | ok n w' =>
    cases n <;> simp only [turnsUpon] at h <;> simp only [Oper.upon]
    case value u =>
      obtain ⟨h1, rfl⟩ := h
      exact hK _ h1
    case skip =>
      obtain ⟨h1, rfl⟩ := h
      exact hK _ h1
    case enter f args =>
      exact h.mono fun e w'' ⟨he, hw⟩ => by
        subst he
        exact hK _ hw
  | halt x w' => simp only [turnsUpon] at h

/-- Operation number j yields v whenever it may come up, and it leaves a world in which it has been. -/
def Turns (P : Program) (ops : Array Oper) (C : Array Bool → World → Prop) (j : Nat) (o : Oper) (v : Value) (a : Act) : Prop :=
  (Region.wanted o (yielded ops a.tmps) = true ∧ ∀ L w, j ∈ Region.ready .any ops L → C L w → turnsUpon P (C (L.setIfInBounds j true)) v ((execOp a.eval o).run P w)) ∨
  (Region.wanted o (yielded ops a.tmps) = false ∧ v = undef ∧ ∀ L w, j ∈ Region.ready .any ops L → C L w → C (L.setIfInBounds j true) w)
theorem Turns.of_same {j : Nat} {o : Oper} {v : Value} {a a' : Act} (h : Turns P ops C j o v a) (he : execOp a'.eval o = execOp a.eval o)
    (hw : Region.wanted o (yielded ops a'.tmps) = Region.wanted o (yielded ops a.tmps)) : Turns P ops C j o v a' := by
  unfold Turns at *
  rw [he, hw]
  exact h

/-- Whatever order is picked from here on. -/
def wpM (P : Program) (ops : Array Oper) (C : Array Bool → World → Prop) (Q : Act → Prop) : Nat → Array Bool → Act → Prop
  | 0, L, a => Region.ready .any ops L = [] ∧ Q a
  | f + 1, L, a => (Region.ready .any ops L = [] → Q a) ∧ ∀ i ∈ Region.ready .any ops L, ∃ o v, ops[i]? = some o ∧ Turns P ops C i o v a ∧ wpM P ops C Q f (L.setIfInBounds i true) (a.put o.dst v)
theorem wpAny_of_M {Q : Act → Prop} {Q' : Exit → Act → World → Prop} (hQ : ∀ a L w, Region.ready .any ops L = [] → C L w → Q a → Q' .normal a w) : ∀ (f : Nat) (L : Array Bool) (a : Act) (w : World), C L w → wpM P ops C Q f L a → wpAny P .any ops Q' f L a w
  | 0, _, _, _, hw, h => ⟨h.1, hQ _ _ _ h.1 hw h.2⟩
  | f + 1, L, a, w, hw, h => ⟨fun h0 => hQ _ _ _ h0 hw (h.1 h0), fun i hi => by
      obtain ⟨o, v, ho, ht, hm⟩ := h.2 i hi
      unfold wpOp
      simp only [ho]
      rcases ht with ⟨hwt, ht⟩ | ⟨hwt, rfl, ht⟩
      · rw [if_pos hwt]
        exact .inl (wp_of_turns (ht L w hi hw) fun w' hw' => wpAny_of_M hQ f _ _ w' hw' hm)
      · rw [if_neg (by simp [hwt])]
        exact wpAny_of_M hQ f _ _ w (ht L w hi hw) hm⟩

theorem wpM_first {Q : Act → Prop} {i : Nat} {oi : Oper} {v : Value} (hi : ops[i]? = some oi) (hsel : ∀ (j : Nat) (o : Oper) cs b, ops[j]? = some o → o.op ≠ .select cs b) :
    ∀ (f : Nat) (L : Array Bool) (a : Act), (∀ j oj, ops[j]? = some oj → j ≠ i → L.getD j true = false → (∀ e ∈ oj.after, Region.binds .any e = true → e.on ≠ i) → oi.apart ops oj = true) →
      i ∈ Region.ready .any ops L → Turns P ops C i oi v a → wpM P ops C Q f (L.setIfInBounds i true) (a.put oi.dst v) → wpM P ops C Q (f + 1) L a := by
  intro f
  induction f with
  | zero =>
    intro L a _ hr ht H
    refine ⟨fun h => (by rw [h] at hr; cases hr), fun j hj => ?_⟩
    by_cases hji : j = i
    · subst hji
      exact ⟨oi, v, hi, ht, H⟩
    · have hm := ready_mono hj hji
      rw [H.1] at hm
      cases hm
  | succ f ih =>
    intro L a hfree hr ht H
    refine ⟨fun h => (by rw [h] at hr; cases hr), fun j hj => ?_⟩
    by_cases hji : j = i
    · subst hji
      exact ⟨oi, v, hi, ht, H⟩
    · obtain ⟨oj, u, hoj, htj, hm⟩ := H.2 j (ready_mono hj hji)
      obtain ⟨hjun, oj', hoj', hall⟩ := mem_ready.1 hj
      obtain rfl : oj' = oj := Option.some.inj (hoj'.symm.trans hoj)
      have hno : ∀ e ∈ oj'.after, Region.binds .any e = true → e.on ≠ i := fun e he hb heq => by
        have g1 := hall e he hb
        have g0 := (mem_ready.1 hr).1
        rw [heq] at g1
        rcases Nat.lt_or_ge i L.size with q | q
        · simp [q] at g0 g1
          rw [g0] at g1
          cases g1
        · simp [Array.getElem?_eq_none q] at g1
      obtain ⟨h1, h2, h3⟩ := Oper.apart_spec (hfree j oj' hoj hji hjun hno)
      have sj : ∀ cs b, oj'.op ≠ .select cs b := fun cs b => hsel j oj' cs b hoj
      have si : ∀ cs b, oi.op ≠ .select cs b := fun cs b => hsel i oi cs b hi
      have ta : Turns P ops C j oj' u a := htj.of_same (execOp_put oj' sj a oi.dst v h1).symm (wanted_put oj' a oi.dst v h1).symm
      have tb : Turns P ops C i oi v (a.put oj'.dst u) := ht.of_same (execOp_put oi si a oj'.dst u h3) (wanted_put oi a oj'.dst u h3)
      refine ⟨oj', u, hoj, ta, ih (L.setIfInBounds j true) (a.put oj'.dst u) (fun k ok hk hki hun hnk => ?_) (ready_mono hr (Ne.symm hji)) tb ?_⟩
      · refine hfree k ok hk hki ?_ hnk
        by_cases hjk : j = k
        · subst hjk
          exact hjun
        · rw [getD_set_ne true hjk] at hun
          exact hun
      · rw [Array.setIfInBounds_comm _ _ hji, ← Act.put_comm a v u h2]
        exact hm

/-- The walk in the text's order. -/
def wpMulti (P : Program) (ops : Array Oper) (C : Array Bool → World → Prop) (Q : Act → Prop) : List Oper → Nat → Act → Prop
  | [], _, a => Q a
  | o :: l, k, a => ∃ v, Turns P ops C k o v a ∧ wpMulti P ops C Q l (k + 1) (a.put o.dst v)
theorem wpM_lex {Q : Act → Prop} (hs : Region.noSelect ops = true) : ∀ (l : List Oper) (k : Nat) (L : Array Bool) (a : Act), (∀ j, l[j]? = ops[k + j]?) →
    Region.lexFrom .any ops l.length k L = true → wpMulti P ops C Q l k a → wpM P ops C Q l.length L a
  | [], _, _, _, _, hB, h => ⟨by simpa [Region.lexFrom] using hB, h⟩
  | o :: l, k, L, a, hl, hB, ⟨v, ht, h⟩ => by
    have h0 : ops[k]? = some o := by simpa using (hl 0).symm
    simp only [List.length_cons, Region.lexFrom, Bool.and_eq_true] at hB
    obtain ⟨⟨hr, hf⟩, hB'⟩ := hB
    exact wpM_first h0 (Region.noSelect_spec hs) l.length L a (Region.free_spec h0 hf) (by simpa using hr) ht
      (wpM_lex hs l (k + 1) _ _ (fun j => by have := hl (j + 1); simpa [Nat.add_assoc, Nat.add_comm 1 j] using this) hB' h)

theorem wp_region_multi {id : Nat} {Q : Exit → Act → World → Prop} {a : Act} {w : World} {l : List Oper} (C : Array Bool → World → Prop) (hm : P.follows .mixedOrders = true) (hB : Region.lexB .any l.toArray = true) (hC : C (Array.replicate l.length false) { w with drawn := w.drawn + 1 })
    (h : wpMulti P l.toArray C (fun a' => ∀ L w', Region.ready .any l.toArray L = [] → C L w' → Q .normal a' w') l 0 a) : (Code.region id l.toArray true).wp P Q a w := by
  simp only [Region.lexB, Bool.and_eq_true] at hB
  refine wp_region_any hm (wpAny_of_M (C := C) (Q := fun a' => ∀ L w', Region.ready .any l.toArray L = [] → C L w' → Q .normal a' w') (fun a L w' hr hw' h => h L w' hr hw') _ _ _ _ (by simpa using hC) ?_)
  have := wpM_lex (C := C) hB.1 l 0 (Array.replicate l.toArray.size false) a (by simp) (by simpa using hB.2) h
  simpa using this

/-- An operation that yields v and leaves the world alone. -/
@[go_sem] def calmUpon (w : World) (v : Value) : Result Next → Prop
  | .ok (.value u) w' => w' = w ∧ u = v
  | .ok .skip w' => w' = w ∧ v = undef
  | _ => False
/-- .. the same v in every world of a family. -/
@[go_sem] def calm (P : Program) {T : Type} (G : T → World) (o : Oper) (a : Act) (K : Act → Prop) : Prop := ∃ v, (∀ x, calmUpon (G x) v ((execOp a.eval o).run P (G x))) ∧ K (a.put o.dst v)
theorem turns_of_calm {D : World → Prop} {w : World} {v : Value} {r : Result Next} (h : calmUpon w v r) (hD : D w) : turnsUpon P D v r := by
  cases r with
  | ok n w' =>
    cases n <;> simp only [calmUpon] at h <;> simp only [turnsUpon]
    · exact ⟨h.1 ▸ hD, h.2⟩
    · exact ⟨h.1 ▸ hD, h.2⟩
  | halt x w' => simp only [calmUpon] at h
/-- A step of the walk: an operation that reads. -/
theorem multi_calm {Q : Act → Prop} {o : Oper} {l : List Oper} {k : Nat} {a : Act} {T : Type} {G : T → World} (hG : ∀ L w, k ∈ Region.ready .any ops L → C L w → ∃ x, w = G x) (hk : ∀ L w, k ∈ Region.ready .any ops L → C L w → C (L.setIfInBounds k true) w)
    (h : ∀ K : Act → Prop, (∀ a, wpMulti P ops C Q l (k + 1) a → K a) → if Region.wanted o (yielded ops a.tmps) then calm P G o a K else K (a.put o.dst undef)) : wpMulti P ops C Q (o :: l) k a := by
  have h' := h _ (fun _ q => q)
  by_cases hw : Region.wanted o (yielded ops a.tmps) = true
  · rw [if_pos hw] at h'
    obtain ⟨v, h1, h2⟩ := h'
    exact ⟨v, .inl ⟨hw, fun L w hr hc => by
      obtain ⟨x, rfl⟩ := hG L w hr hc
      exact turns_of_calm (h1 x) (hk L _ hr hc)⟩, h2⟩
  · rw [if_neg hw] at h'
    exact ⟨undef, .inr ⟨by simpa using hw, rfl, hk⟩, h'⟩
/-- A step of the walk: a call. -/
theorem multi_call {Q : Act → Prop} {o : Oper} {l : List Oper} {k : Nat} {a : Act} (f : FuncId) (args : Array Value) (v : Value) (hw : Region.wanted o (yielded ops a.tmps) = true) (ho : ∀ w, (execOp a.eval o).run P w = .ok (.enter f args) w)
    (hc : ∀ L w, k ∈ Region.ready .any ops L → C L w → Calls P f args w fun e w'' => e = .returned v ∧ C (L.setIfInBounds k true) w'') (h : wpMulti P ops C Q l (k + 1) (a.put o.dst v)) : wpMulti P ops C Q (o :: l) k a :=
  ⟨v, .inl ⟨hw, fun L w hr hC => by rw [ho w]; exact hc L w hr hC⟩, h⟩
/-- A step of the walk: whatever writes by itself (append). -/
theorem multi_write {Q : Act → Prop} {o : Oper} {l : List Oper} {k : Nat} {a : Act} (v : Value) (hw : Region.wanted o (yielded ops a.tmps) = true)
    (hc : ∀ L w, k ∈ Region.ready .any ops L → C L w → ∃ w'', (execOp a.eval o).run P w = .ok (.value v) w'' ∧ C (L.setIfInBounds k true) w'') (h : wpMulti P ops C Q l (k + 1) (a.put o.dst v)) : wpMulti P ops C Q (o :: l) k a :=
  ⟨v, .inl ⟨hw, fun L w hr hC => by
    obtain ⟨w'', e, hC'⟩ := hc L w hr hC
    rw [e]
    exact ⟨hC', rfl⟩⟩, h⟩
theorem multi_nil {Q : Act → Prop} {k : Nat} {a : Act} (h : Q a) : wpMulti P ops C Q [] k a := h
/-- Worlds of which something is known, as a family of which nothing else is. -/
theorem family (F : World → Prop) (w0 : World) (h0 : F w0) : ∃ (T : Type) (G : T → World), Nonempty T ∧ (∀ w, F w → ∃ x, w = G x) ∧ ∀ x, F (G x) :=
  ⟨{ w // F w }, Subtype.val, ⟨⟨w0, h0⟩⟩, fun w h => ⟨⟨w, h⟩, rfl⟩, fun x => x.2⟩
theorem ready_not {j : Nat} {L : Array Bool} (h : j ∈ Region.ready .any ops L) : L.getD j false = false ∧ j < L.size := by
  have h0 := (mem_ready.1 h).1
  rcases Nat.lt_or_ge j L.size with q | q
  · simp [q] at h0 ⊢
    exact h0
  · simp [Array.getElem?_eq_none q] at h0
theorem set_yes {j : Nat} {L : Array Bool} (h : j < L.size) : (L.setIfInBounds j true).getD j false = true := by simp [h]
theorem ready_dep {j : Nat} {L : Array Bool} {o : Oper} (h : j ∈ Region.ready .any ops L) (ho : ops[j]? = some o) {e : Edge} (he : e ∈ o.after) (hb : Region.binds .any e = true) : L.getD e.on false = true := by
  obtain ⟨_, o', ho', hall⟩ := mem_ready.1 h
  obtain rfl : o' = o := Option.some.inj (ho'.symm.trans ho)
  exact hall e he hb
end
end Go.Proofs.Ytgpjelcihmbiiaa
