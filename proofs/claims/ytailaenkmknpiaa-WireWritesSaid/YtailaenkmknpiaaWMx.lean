/- A region that draws its order, whose calls write and whose values hang on the order (two of them allocate): one walk of the text's order, in which the values of the named operations are variables, serves every order. No condition. -/
import Derived.Test.YtailaenkmknpiaaWMr
namespace Go.Proofs.Ytailaenkmknpiaa
open Go.RowKit
set_option linter.unusedVariables false

/-- What the named operations yielded. -/
abbrev Found := Nat → Value
def Found.set (x : Found) (i : Nat) (v : Value) : Found := fun j => if j = i then v else x j
theorem Found.set_at (x : Found) (i : Nat) (v : Value) : x.set i v i = v := by simp [Found.set]
theorem Found.set_ne (x : Found) {i j : Nat} (v : Value) (h : j ≠ i) : x.set i v j = x j := by simp [Found.set, h]

/-- Carried out without a call, the operation leaves v, and a world of the class D. -/
def leavesV (D : World → Prop) (v : Value) : Result Next → Prop
  | .ok (.value u) w' => D w' ∧ u = v
  | .ok .skip w' => D w' ∧ v = undef
  | _ => False
/-- Carried out, the operation leaves some value, and a world of which D speaks with it. -/
def leavesD (P : Program) (D : Value → World → Prop) : Result Next → Prop
  | .ok (.value u) w' => D u w'
  | .ok (.enter f args) w' => Calls P f args w' (fun e w'' => ∃ u, e = .returned u ∧ D u w'')
  | _ => False
theorem leavesV_one {D D' : World → Prop} {v v' : Value} {r : Result Next} (h : leavesV D v r) (h' : leavesV D' v' r) : v = v' := by
  cases r with
  | ok n w' =>
    cases n <;> simp only [leavesV] at h h'
    · exact h.2.symm.trans h'.2
    · exact h.2.trans h'.2.symm
  | halt x w' => simp only [leavesV] at h

section
variable {P : Program} {ops : Array Oper} {C : Found → Array Bool → World → Prop} {fr : Nat → Bool} {good : Nat → Value → Prop} {x : Found}

theorem wp_of_leavesV {o : Oper} {a : Act} {D : World → Prop} {v : Value} {K : Act → World → Prop} {Q : Exit → Act → World → Prop} {w : World} (h : leavesV D v ((execOp a.eval o).run P w)) (hK : ∀ w', D w' → K (a.put o.dst v) w') : o.wp P a w K Q := by
  unfold Oper.wp
  generalize (execOp a.eval o).run P w = r at h
  cases r with
  | ok n w' =>
    cases n <;> simp only [leavesV] at h <;> simp only [Oper.upon]
    case value u =>
      obtain ⟨h1, rfl⟩ := h
      exact hK _ h1
    case skip =>
      obtain ⟨h1, rfl⟩ := h
      exact hK _ h1
  | halt x w' => simp only [leavesV] at h
theorem wp_of_leavesD {o : Oper} {a : Act} {D : Value → World → Prop} {K : Act → World → Prop} {Q : Exit → Act → World → Prop} {w : World} (h : leavesD P D ((execOp a.eval o).run P w)) (hK : ∀ u w', D u w' → K (a.put o.dst u) w') : o.wp P a w K Q := by
  unfold Oper.wp
  generalize (execOp a.eval o).run P w = r at h
  cases r with
  | ok n w' =>
    cases n <;> simp only [leavesD] at h <;> simp only [Oper.upon]
    case value u => exact hK _ _ h
    case enter f args =>
      exact h.mono fun e w'' ⟨u, he, hw⟩ => by
        subst he
        exact hK _ _ hw
  | halt x w' => simp only [leavesD] at h

/-- Operation number i yields v: a named one what x says of it, every other one v whenever it may come up. -/
def Step (P : Program) (ops : Array Oper) (C : Found → Array Bool → World → Prop) (fr : Nat → Bool) (good : Nat → Value → Prop) (x : Found) (i : Nat) (o : Oper) (v : Value) (a : Act) : Prop :=
  (fr i = true ∧ v = x i ∧ Region.wanted o (yielded ops a.tmps) = true ∧ ∀ L w, i ∈ Region.ready .any ops L → C x L w → leavesD P (fun u w' => good i u ∧ C (x.set i u) (L.setIfInBounds i true) w') ((execOp a.eval o).run P w)) ∨
  (fr i = false ∧ Region.wanted o (yielded ops a.tmps) = true ∧ ∀ L w, i ∈ Region.ready .any ops L → C x L w → leavesV (C x (L.setIfInBounds i true)) v ((execOp a.eval o).run P w)) ∨
  (fr i = false ∧ Region.wanted o (yielded ops a.tmps) = false ∧ v = undef ∧ ∀ L w, i ∈ Region.ready .any ops L → C x L w → C x (L.setIfInBounds i true) w)
theorem Step.of_same {i : Nat} {o : Oper} {v : Value} {a a' : Act} (h : Step P ops C fr good x i o v a) (he : execOp a'.eval o = execOp a.eval o)
    (hw : Region.wanted o (yielded ops a'.tmps) = Region.wanted o (yielded ops a.tmps)) : Step P ops C fr good x i o v a' := by
  unfold Step at *
  rw [he, hw]
  exact h

/-- Whatever order is picked from here on, where the named operations yield what x says. -/
def wpX (P : Program) (ops : Array Oper) (C : Found → Array Bool → World → Prop) (fr : Nat → Bool) (good : Nat → Value → Prop) (x : Found) (Q : Act → Prop) : Nat → Array Bool → Act → Prop
  | 0, L, a => Region.ready .any ops L = [] ∧ Q a
  | f + 1, L, a => (Region.ready .any ops L = [] → Q a) ∧ ∀ i ∈ Region.ready .any ops L, ∃ o v, ops[i]? = some o ∧ Step P ops C fr good x i o v a ∧ wpX P ops C fr good x Q f (L.setIfInBounds i true) (a.put o.dst v)

/-- x and y say the same of the named operations that have been. -/
def Agree (fr : Nat → Bool) (L : Array Bool) (x y : Found) : Prop := ∀ j, fr j = true → L.getD j false = true → x j = y j
theorem ready_undone {i : Nat} {L : Array Bool} (h : i ∈ Region.ready .any ops L) : L.getD i false = false ∧ i < L.size := by
  have h0 := (mem_ready.1 h).1
  rcases Nat.lt_or_ge i L.size with q | q
  · simp [q] at h0 ⊢
    exact h0
  · simp [Array.getElem?_eq_none q] at h0
theorem Agree.less {i : Nat} {L : Array Bool} {x y : Found} (hi : i ∈ Region.ready .any ops L) (h : Agree fr (L.setIfInBounds i true) x y) : Agree fr L x y := fun j hj hL => h j hj (by
  have := (ready_undone hi).1
  have hne : i ≠ j := fun e => by subst e; rw [hL] at this; cases this
  rw [getD_set_ne false hne]
  exact hL)
theorem Agree.ofSet {i : Nat} {L : Array Bool} {x y : Found} {u : Value} (hi : i ∈ Region.ready .any ops L) (h : Agree fr (L.setIfInBounds i true) (x.set i u) y) : Agree fr L x y := fun j hj hL => by
  have := (ready_undone hi).1
  have hne : i ≠ j := fun e => by subst e; rw [hL] at this; cases this
  have h1 := h j hj (by rw [getD_set_ne false hne]; exact hL)
  rw [Found.set_ne _ _ (Ne.symm hne)] at h1
  exact h1

theorem wpAny_of_X {Q : Found → Act → Prop} {Q' : Exit → Act → World → Prop} (hloc : ∀ x y L w, Agree fr L x y → C x L w → C y L w)
    {n : Nat} (hQ : ∀ x a L w, L.size = n → (∀ j, fr j = true → good j (x j)) → Region.ready .any ops L = [] → C x L w → Q x a → Q' .normal a w) :
    ∀ (f : Nat) (L : Array Bool) (a : Act) (w : World) (x : Found), L.size = n → (∀ j, fr j = true → good j (x j)) → C x L w →
      (∀ y, (∀ j, fr j = true → good j (y j)) → Agree fr L x y → wpX P ops C fr good y (Q y) f L a) → wpAny P .any ops Q' f L a w
  | 0, L, a, w, x, hz, hg, hw, h => by
    have h0 := h x hg fun _ _ _ => rfl
    exact ⟨h0.1, hQ _ _ _ _ hz hg h0.1 hw h0.2⟩
  | f + 1, L, a, w, x, hz, hg, hw, h => ⟨fun h0 => hQ _ _ _ _ hz hg h0 hw ((h x hg fun _ _ _ => rfl).1 h0), fun i hi => by
      obtain ⟨o, v, ho, ht, hm⟩ := (h x hg fun _ _ _ => rfl).2 i hi
      unfold wpOp
      simp only [ho]
      rcases ht with ⟨hf, rfl, hwt, ht⟩ | ⟨hf, hwt, ht⟩ | ⟨hf, hwt, rfl, ht⟩
      · rw [if_pos hwt]
        refine .inl (wp_of_leavesD (ht L w hi hw) fun u w' hw' => wpAny_of_X hloc hQ f _ _ w' (x.set i u) (by simpa using hz) (fun j hj => ?_) hw'.2 fun y hy hag => ?_)
        · by_cases hji : j = i
          · subst hji
            rw [Found.set_at]
            exact hw'.1
          · rw [Found.set_ne _ _ hji]
            exact hg j hj
        · obtain ⟨o', v', ho', ht', hm'⟩ := (h y hy (Agree.ofSet hi hag)).2 i hi
          obtain rfl : o' = o := Option.some.inj (ho'.symm.trans ho)
          have hu : u = y i := by
            have := hag i hf (by simp [(ready_undone hi).2])
            rw [Found.set_at] at this
            exact this
          rcases ht' with ⟨_, rfl, _, _⟩ | ⟨hf', _⟩ | ⟨hf', _⟩
          · rw [hu]
            exact hm'
          · rw [hf] at hf'
            cases hf'
          · rw [hf] at hf'
            cases hf'
      · rw [if_pos hwt]
        refine .inl (wp_of_leavesV (ht L w hi hw) fun w' hw' => wpAny_of_X hloc hQ f _ _ w' x (by simpa using hz) hg hw' fun y hy hag => ?_)
        obtain ⟨o', v', ho', ht', hm'⟩ := (h y hy (Agree.less hi hag)).2 i hi
        obtain rfl : o' = o := Option.some.inj (ho'.symm.trans ho)
        rcases ht' with ⟨hf', _⟩ | ⟨_, _, ht'⟩ | ⟨_, hwt', _⟩
        · rw [hf] at hf'
          cases hf'
        · rw [leavesV_one (ht L w hi hw) (ht' L w hi (hloc _ _ _ _ (Agree.less hi hag) hw))]
          exact hm'
        · rw [hwt] at hwt'
          cases hwt'
      · rw [if_neg (by simp [hwt])]
        refine wpAny_of_X hloc hQ f _ _ w x (by simpa using hz) hg (ht L w hi hw) fun y hy hag => ?_
        obtain ⟨o', v', ho', ht', hm'⟩ := (h y hy (Agree.less hi hag)).2 i hi
        obtain rfl : o' = o := Option.some.inj (ho'.symm.trans ho)
        rcases ht' with ⟨hf', _⟩ | ⟨_, hwt', _⟩ | ⟨_, _, rfl, _⟩
        · rw [hf] at hf'
          cases hf'
        · rw [hwt] at hwt'
          cases hwt'
        · exact hm'⟩

theorem wpX_first {Q : Act → Prop} {i : Nat} {oi : Oper} {v : Value} (hi : ops[i]? = some oi) (hsel : ∀ (j : Nat) (o : Oper) cs b, ops[j]? = some o → o.op ≠ .select cs b) :
    ∀ (f : Nat) (L : Array Bool) (a : Act), (∀ j oj, ops[j]? = some oj → j ≠ i → L.getD j true = false → (∀ e ∈ oj.after, Region.binds .any e = true → e.on ≠ i) → oi.apart ops oj = true) →
      i ∈ Region.ready .any ops L → Step P ops C fr good x i oi v a → wpX P ops C fr good x Q f (L.setIfInBounds i true) (a.put oi.dst v) → wpX P ops C fr good x Q (f + 1) L a := by
  intro f
  induction f with
  | zero =>
    intro L a _ hr ht H
    refine ⟨fun h => (by rw [h] at hr; cases hr), fun j hj => ?_⟩
    by_cases hji : j = i
    · subst hji
      exact ⟨oi, v, hi, ht, H⟩
    · have hm := ready_mono hj hji
      rw [H.1] at hm
      cases hm
  | succ f ih =>
    intro L a hfree hr ht H
    refine ⟨fun h => (by rw [h] at hr; cases hr), fun j hj => ?_⟩
    by_cases hji : j = i
    · subst hji
      exact ⟨oi, v, hi, ht, H⟩
    · obtain ⟨oj, u, hoj, htj, hm⟩ := H.2 j (ready_mono hj hji)
      obtain ⟨hjun, oj', hoj', hall⟩ := mem_ready.1 hj
      obtain rfl : oj' = oj := Option.some.inj (hoj'.symm.trans hoj)
      have hno : ∀ e ∈ oj'.after, Region.binds .any e = true → e.on ≠ i := fun e he hb heq => by
        have g1 := hall e he hb
        have g0 := (mem_ready.1 hr).1
        rw [heq] at g1
        rcases Nat.lt_or_ge i L.size with q | q
        · simp [q] at g0 g1
          rw [g0] at g1
          cases g1
        · simp [Array.getElem?_eq_none q] at g1
      obtain ⟨h1, h2, h3⟩ := Oper.apart_spec (hfree j oj' hoj hji hjun hno)
      have sj : ∀ cs b, oj'.op ≠ .select cs b := fun cs b => hsel j oj' cs b hoj
      have si : ∀ cs b, oi.op ≠ .select cs b := fun cs b => hsel i oi cs b hi
      have ta : Step P ops C fr good x j oj' u a := htj.of_same (execOp_put oj' sj a oi.dst v h1).symm (wanted_put oj' a oi.dst v h1).symm
      have tb : Step P ops C fr good x i oi v (a.put oj'.dst u) := ht.of_same (execOp_put oi si a oj'.dst u h3) (wanted_put oi a oj'.dst u h3)
      refine ⟨oj', u, hoj, ta, ih (L.setIfInBounds j true) (a.put oj'.dst u) (fun k ok hk hki hun hnk => ?_) (ready_mono hr (Ne.symm hji)) tb ?_⟩
      · refine hfree k ok hk hki ?_ hnk
        by_cases hjk : j = k
        · subst hjk
          exact hjun
        · rw [getD_set_ne true hjk] at hun
          exact hun
      · rw [Array.setIfInBounds_comm _ _ hji, ← Act.put_comm a v u h2]
        exact hm

/-- The walk in the text's order. -/
def wpFree (P : Program) (ops : Array Oper) (C : Found → Array Bool → World → Prop) (fr : Nat → Bool) (good : Nat → Value → Prop) (x : Found) (Q : Act → Prop) : List Oper → Nat → Act → Prop
  | [], _, a => Q a
  | o :: l, k, a => ∃ v, Step P ops C fr good x k o v a ∧ wpFree P ops C fr good x Q l (k + 1) (a.put o.dst v)
theorem wpX_lex {Q : Act → Prop} (hs : Region.noSelect ops = true) : ∀ (l : List Oper) (k : Nat) (L : Array Bool) (a : Act), (∀ j, l[j]? = ops[k + j]?) →
    Region.lexFrom .any ops l.length k L = true → wpFree P ops C fr good x Q l k a → wpX P ops C fr good x Q l.length L a
  | [], _, _, _, _, hB, h => ⟨by simpa [Region.lexFrom] using hB, h⟩
  | o :: l, k, L, a, hl, hB, ⟨v, ht, h⟩ => by
    have h0 : ops[k]? = some o := by simpa using (hl 0).symm
    simp only [List.length_cons, Region.lexFrom, Bool.and_eq_true] at hB
    obtain ⟨⟨hr, hf⟩, hB'⟩ := hB
    exact wpX_first h0 (Region.noSelect_spec hs) l.length L a (Region.free_spec h0 hf) (by simpa using hr) ht
      (wpX_lex hs l (k + 1) _ _ (fun j => by have := hl (j + 1); simpa [Nat.add_assoc, Nat.add_comm 1 j] using this) hB' h)


/-- Every operation waits for earlier ones only. -/
def backB (ops : Array Oper) : Bool := (List.range ops.size).all fun j => match ops[j]? with
  | some o => o.after.all fun e => decide (e.on < j)
  | none => true
theorem all_done (hb : backB ops = true) {L : Array Bool} (hz : L.size = ops.size) (hr : Region.ready .any ops L = []) : ∀ j, j < ops.size → L.getD j false = true := by
  intro j
  induction j using Nat.strongRecOn with
  | ind j ih =>
    intro hj
    rcases hv : L.getD j false with _ | _
    · exfalso
      have hm : j ∈ Region.ready .any ops L := mem_ready.2 ⟨?_, ops[j], by simp [hj], fun e he hbd => ?_⟩
      · rw [hr] at hm
        cases hm
      · have hj' : j < L.size := by omega
        simp [hj'] at hv ⊢
        exact hv
      · have h1 := List.all_eq_true.1 hb j (List.mem_range.2 hj)
        simp only [Array.getElem?_eq_getElem hj] at h1
        have h2 : e.on < j := by
          have := Array.all_eq_true_iff_forall_mem.1 h1 e he
          simpa using this
        exact ih e.on h2 (by omega)
    · rfl
theorem wp_region_free {id : Nat} {Q : Exit → Act → World → Prop} {a : Act} {w : World} {l : List Oper} (C : Found → Array Bool → World → Prop) (fr : Nat → Bool) (good : Nat → Value → Prop) (hm : P.follows .mixedOrders = true) (hB : Region.lexB .any l.toArray = true) (hb : backB l.toArray = true)
    (hloc : ∀ x y L w, Agree fr L x y → C x L w → C y L w) (x0 : Found) (h0 : ∀ j, fr j = true → good j (x0 j)) (hC : C x0 (Array.replicate l.length false) { w with drawn := w.drawn + 1 })
    (h : ∀ x : Found, (∀ j, fr j = true → good j (x j)) → wpFree P l.toArray C fr good x (fun a' => ∀ L w', (∀ j, j < l.length → L.getD j false = true) → C x L w' → Q .normal a' w') l 0 a) : (Code.region id l.toArray true).wp P Q a w := by
  simp only [Region.lexB, Bool.and_eq_true] at hB
  refine wp_region_any hm (wpAny_of_X (C := C) (fr := fr) (good := good) (n := l.length) (Q := fun x a' => ∀ L w', (∀ j, j < l.length → L.getD j false = true) → C x L w' → Q .normal a' w') hloc (fun x a L w' hz _ hr hw' h => h L w' (fun j hj => all_done hb (by simpa using hz) hr j (by simpa using hj)) hw') _ _ _ _ x0 (by simp) h0 (by simpa using hC) fun y hy _ => ?_)
  have := wpX_lex (C := C) (fr := fr) (good := good) (x := y) hB.1 l 0 (Array.replicate l.toArray.size false) a (by simp) (by simpa using hB.2) (h y hy)
  simpa using this

/-- A step of the walk: an operation that reads. -/
theorem free_calm {Q : Act → Prop} {o : Oper} {l : List Oper} {k : Nat} {a : Act} {T : Type} {G : T → World} (hf : fr k = false) (hG : ∀ L w, k ∈ Region.ready .any ops L → C x L w → ∃ t, w = G t) (hk : ∀ L w, k ∈ Region.ready .any ops L → C x L w → C x (L.setIfInBounds k true) w)
    (h : ∀ K : Act → Prop, (∀ a, wpFree P ops C fr good x Q l (k + 1) a → K a) → if Region.wanted o (yielded ops a.tmps) then calm P G o a K else K (a.put o.dst undef)) : wpFree P ops C fr good x Q (o :: l) k a := by
  have h' := h _ (fun _ q => q)
  by_cases hw : Region.wanted o (yielded ops a.tmps) = true
  · rw [if_pos hw] at h'
    obtain ⟨v, h1, h2⟩ := h'
    refine ⟨v, .inr (.inl ⟨hf, hw, fun L w hr hc => ?_⟩), h2⟩
    obtain ⟨t, rfl⟩ := hG L w hr hc
    have h3 := h1 t
    generalize (execOp a.eval o).run P (G t) = r at h3
    cases r with
    | ok n w' =>
      cases n <;> simp only [calmUpon] at h3 <;> simp only [leavesV]
      · exact ⟨h3.1 ▸ hk L _ hr hc, h3.2⟩
      · exact ⟨h3.1 ▸ hk L _ hr hc, h3.2⟩
    | halt x w' => simp only [calmUpon] at h3
  · rw [if_neg hw] at h'
    exact ⟨undef, .inr (.inr ⟨hf, by simpa using hw, rfl, hk⟩), h'⟩
/-- A step of the walk: a call, named. -/
theorem free_call {Q : Act → Prop} {o : Oper} {l : List Oper} {k : Nat} {a : Act} (hf : fr k = true) (f : FuncId) (args : Array Value) (hw : Region.wanted o (yielded ops a.tmps) = true) (ho : ∀ w, (execOp a.eval o).run P w = .ok (.enter f args) w)
    (hc : ∀ L w, k ∈ Region.ready .any ops L → C x L w → Calls P f args w fun e w'' => ∃ u, e = .returned u ∧ good k u ∧ C (x.set k u) (L.setIfInBounds k true) w'') (h : wpFree P ops C fr good x Q l (k + 1) (a.put o.dst (x k))) : wpFree P ops C fr good x Q (o :: l) k a :=
  ⟨x k, .inl ⟨hf, rfl, hw, fun L w hr hC => by rw [ho w]; exact hc L w hr hC⟩, h⟩
/-- A step of the walk: whatever writes by itself (append, make), named. -/
theorem free_write {Q : Act → Prop} {o : Oper} {l : List Oper} {k : Nat} {a : Act} (hf : fr k = true) (hw : Region.wanted o (yielded ops a.tmps) = true)
    (hc : ∀ L w, k ∈ Region.ready .any ops L → C x L w → ∃ u w'', (execOp a.eval o).run P w = .ok (.value u) w'' ∧ good k u ∧ C (x.set k u) (L.setIfInBounds k true) w'') (h : wpFree P ops C fr good x Q l (k + 1) (a.put o.dst (x k))) : wpFree P ops C fr good x Q (o :: l) k a :=
  ⟨x k, .inl ⟨hf, rfl, hw, fun L w hr hC => by
    obtain ⟨u, w'', e, hC'⟩ := hc L w hr hC
    rw [e]
    exact hC'⟩, h⟩
/-- A step of the walk: whatever writes by itself and yields one value. -/
theorem free_put {Q : Act → Prop} {o : Oper} {l : List Oper} {k : Nat} {a : Act} (v : Value) (hf : fr k = false) (hw : Region.wanted o (yielded ops a.tmps) = true)
    (hc : ∀ L w, k ∈ Region.ready .any ops L → C x L w → ∃ w'', (execOp a.eval o).run P w = .ok (.value v) w'' ∧ C x (L.setIfInBounds k true) w'') (h : wpFree P ops C fr good x Q l (k + 1) (a.put o.dst v)) : wpFree P ops C fr good x Q (o :: l) k a :=
  ⟨v, .inr (.inl ⟨hf, hw, fun L w hr hC => by
    obtain ⟨w'', e, hC'⟩ := hc L w hr hC
    rw [e]
    exact ⟨hC', rfl⟩⟩), h⟩
theorem free_nil {Q : Act → Prop} {k : Nat} {a : Act} (h : Q a) : wpFree P ops C fr good x Q [] k a := h
end
end Go.Proofs.Ytailaenkmknpiaa
