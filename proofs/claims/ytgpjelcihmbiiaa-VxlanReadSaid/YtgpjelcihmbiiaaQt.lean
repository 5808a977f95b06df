/- Regions that draw their order: rules for calls that write, and for a tail that waits. No condition. -/
import Derived.Test.YtgpjelcihmbiiaaWKit
import Derived.Deep.Quiet
import Derived.StillTail
namespace Go.Proofs.Ytgpjelcihmbiiaa
open Go.RowKit Go.Sort
set_option linter.unusedVariables false

/-- Carried out, the operation leaves v, and a world of the class D. -/
def turnsUpon (P : Program) (D : World → Prop) (v : Value) : Result Next → Prop
  | .ok (.value u) w' => D w' ∧ u = v
  | .ok .skip w' => D w' ∧ v = undef
  | .ok (.enter f args) w' => Calls P f args w' (fun e w'' => e = .returned v ∧ D w'')
  | _ => False

section
variable {P : Program} {ops : Array Oper} {C : Array Bool → World → Prop}

theorem wp_of_turns {o : Oper} {a : Act} {D : World → Prop} {v : Value} {K : Act → World → Prop} {Q : Exit → Act → World → Prop} {w : World} (h : turnsUpon P D v ((execOp a.eval o).run P w)) (hK : ∀ w', D w' → K (a.put o.dst v) w') : o.wp P a w K Q := by
  unfold Oper.wp
  generalize (execOp a.eval o).run P w = r at h
  cases r with
  | ok n w' =>
    cases n <;> simp only [turnsUpon] at h <;> simp only [Oper.upon]
    case value u =>
      obtain ⟨h1, rfl⟩ := h
      exact hK _ h1
    case skip =>
      obtain ⟨h1, rfl⟩ := h
      exact hK _ h1
    case enter f args =>
      exact h.mono fun e w'' ⟨he, hw⟩ => by
        subst he
        exact hK _ hw
  | halt x w' => simp only [turnsUpon] at h

/-- Operation number j yields v whenever it may come up, and it leaves a world in which it has been. -/
def Turns (P : Program) (ops : Array Oper) (C : Array Bool → World → Prop) (j : Nat) (o : Oper) (v : Value) (a : Act) : Prop :=
  (Region.wanted o (yielded ops a.tmps) = true ∧ ∀ L w, j ∈ Region.ready .any ops L → C L w → turnsUpon P (C (L.setIfInBounds j true)) v ((execOp a.eval o).run P w)) ∨
  (Region.wanted o (yielded ops a.tmps) = false ∧ v = undef ∧ ∀ L w, j ∈ Region.ready .any ops L → C L w → C (L.setIfInBounds j true) w)
theorem Turns.of_same {j : Nat} {o : Oper} {v : Value} {a a' : Act} (h : Turns P ops C j o v a) (he : execOp a'.eval o = execOp a.eval o)
    (hw : Region.wanted o (yielded ops a'.tmps) = Region.wanted o (yielded ops a.tmps)) : Turns P ops C j o v a' := by
  unfold Turns at *
  rw [he, hw]
  exact h

/-- Whatever order is picked from here on. -/
def wpM (P : Program) (ops : Array Oper) (C : Array Bool → World → Prop) (Q : Act → Prop) : Nat → Array Bool → Act → Prop
  | 0, L, a => Region.ready .any ops L = [] ∧ Q a
  | f + 1, L, a => (Region.ready .any ops L = [] → Q a) ∧ ∀ i ∈ Region.ready .any ops L, ∃ o v, ops[i]? = some o ∧ Turns P ops C i o v a ∧ wpM P ops C Q f (L.setIfInBounds i true) (a.put o.dst v)
theorem wpAny_of_M {Q : Act → Prop} {Q' : Exit → Act → World → Prop} (hQ : ∀ a L w, Region.ready .any ops L = [] → C L w → Q a → Q' .normal a w) : ∀ (f : Nat) (L : Array Bool) (a : Act) (w : World), C L w → wpM P ops C Q f L a → wpAny P .any ops Q' f L a w
  | 0, _, _, _, hw, h => ⟨h.1, hQ _ _ _ h.1 hw h.2⟩
  | f + 1, L, a, w, hw, h => ⟨fun h0 => hQ _ _ _ h0 hw (h.1 h0), fun i hi => by
      obtain ⟨o, v, ho, ht, hm⟩ := h.2 i hi
      unfold wpOp
      simp only [ho]
      rcases ht with ⟨hwt, ht⟩ | ⟨hwt, rfl, ht⟩
      · rw [if_pos hwt]
        exact .inl (wp_of_turns (ht L w hi hw) fun w' hw' => wpAny_of_M hQ f _ _ w' hw' hm)
      · rw [if_neg (by simp [hwt])]
        exact wpAny_of_M hQ f _ _ w (ht L w hi hw) hm⟩

theorem wpM_first {Q : Act → Prop} {i : Nat} {oi : Oper} {v : Value} (hi : ops[i]? = some oi) (hsel : ∀ (j : Nat) (o : Oper) cs b, ops[j]? = some o → o.op ≠ .select cs b) :
    ∀ (f : Nat) (L : Array Bool) (a : Act), (∀ j oj, ops[j]? = some oj → j ≠ i → L.getD j true = false → (∀ e ∈ oj.after, Region.binds .any e = true → e.on ≠ i) → oi.apart ops oj = true) →
      i ∈ Region.ready .any ops L → Turns P ops C i oi v a → wpM P ops C Q f (L.setIfInBounds i true) (a.put oi.dst v) → wpM P ops C Q (f + 1) L a := by
  intro f
  induction f with
  | zero =>
    intro L a _ hr ht H
    refine ⟨fun h => (by rw [h] at hr; cases hr), fun j hj => ?_⟩
    by_cases hji : j = i
    · subst hji
      exact ⟨oi, v, hi, ht, H⟩
    · have hm := ready_mono hj hji
      rw [H.1] at hm
      cases hm
  | succ f ih =>
    intro L a hfree hr ht H
    refine ⟨fun h => (by rw [h] at hr; cases hr), fun j hj => ?_⟩
    by_cases hji : j = i
    · subst hji
      exact ⟨oi, v, hi, ht, H⟩
    · obtain ⟨oj, u, hoj, htj, hm⟩ := H.2 j (ready_mono hj hji)
      obtain ⟨hjun, oj', hoj', hall⟩ := mem_ready.1 hj
      obtain rfl : oj' = oj := Option.some.inj (hoj'.symm.trans hoj)
      have hno : ∀ e ∈ oj'.after, Region.binds .any e = true → e.on ≠ i := fun e he hb heq => by
        have g1 := hall e he hb
        have g0 := (mem_ready.1 hr).1
        rw [heq] at g1
        rcases Nat.lt_or_ge i L.size with q | q
        · simp [q] at g0 g1
          rw [g0] at g1
          cases g1
        · simp [Array.getElem?_eq_none q] at g1
      obtain ⟨h1, h2, h3⟩ := Oper.apart_spec (hfree j oj' hoj hji hjun hno)
      have sj : ∀ cs b, oj'.op ≠ .select cs b := fun cs b => hsel j oj' cs b hoj
      have si : ∀ cs b, oi.op ≠ .select cs b := fun cs b => hsel i oi cs b hi
      have ta : Turns P ops C j oj' u a := htj.of_same (execOp_put oj' sj a oi.dst v h1).symm (wanted_put oj' a oi.dst v h1).symm
      have tb : Turns P ops C i oi v (a.put oj'.dst u) := ht.of_same (execOp_put oi si a oj'.dst u h3) (wanted_put oi a oj'.dst u h3)
      refine ⟨oj', u, hoj, ta, ih (L.setIfInBounds j true) (a.put oj'.dst u) (fun k ok hk hki hun hnk => ?_) (ready_mono hr (Ne.symm hji)) tb ?_⟩
      · refine hfree k ok hk hki ?_ hnk
        by_cases hjk : j = k
        · subst hjk
          exact hjun
        · rw [getD_set_ne true hjk] at hun
          exact hun
      · rw [Array.setIfInBounds_comm _ _ hji, ← Act.put_comm a v u h2]
        exact hm

/-- The walk in the text's order. -/
def wpMulti (P : Program) (ops : Array Oper) (C : Array Bool → World → Prop) (Q : Act → Prop) : List Oper → Nat → Act → Prop
  | [], _, a => Q a
  | o :: l, k, a => ∃ v, Turns P ops C k o v a ∧ wpMulti P ops C Q l (k + 1) (a.put o.dst v)
theorem wpM_lex {Q : Act → Prop} (hs : Region.noSelect ops = true) : ∀ (l : List Oper) (k : Nat) (L : Array Bool) (a : Act), (∀ j, l[j]? = ops[k + j]?) →
    Region.lexFrom .any ops l.length k L = true → wpMulti P ops C Q l k a → wpM P ops C Q l.length L a
  | [], _, _, _, _, hB, h => ⟨by simpa [Region.lexFrom] using hB, h⟩
  | o :: l, k, L, a, hl, hB, ⟨v, ht, h⟩ => by
    have h0 : ops[k]? = some o := by simpa using (hl 0).symm
    simp only [List.length_cons, Region.lexFrom, Bool.and_eq_true] at hB
    obtain ⟨⟨hr, hf⟩, hB'⟩ := hB
    exact wpM_first h0 (Region.noSelect_spec hs) l.length L a (Region.free_spec h0 hf) (by simpa using hr) ht
      (wpM_lex hs l (k + 1) _ _ (fun j => by have := hl (j + 1); simpa [Nat.add_assoc, Nat.add_comm 1 j] using this) hB' h)

theorem wp_region_multi {id : Nat} {Q : Exit → Act → World → Prop} {a : Act} {w : World} {l : List Oper} (C : Array Bool → World → Prop) (hm : P.follows .mixedOrders = true) (hB : Region.lexB .any l.toArray = true) (hC : C (Array.replicate l.length false) { w with drawn := w.drawn + 1 })
    (h : wpMulti P l.toArray C (fun a' => ∀ L w', Region.ready .any l.toArray L = [] → C L w' → Q .normal a' w') l 0 a) : (Code.region id l.toArray true).wp P Q a w := by
  simp only [Region.lexB, Bool.and_eq_true] at hB
  refine wp_region_any hm (wpAny_of_M (C := C) (Q := fun a' => ∀ L w', Region.ready .any l.toArray L = [] → C L w' → Q .normal a' w') (fun a L w' hr hw' h => h L w' hr hw') _ _ _ _ (by simpa using hC) ?_)
  have := wpM_lex (C := C) hB.1 l 0 (Array.replicate l.toArray.size false) a (by simp) (by simpa using hB.2) h
  simpa using this

/-- An operation that yields v and leaves the world alone. -/
@[go_sem] def calmUpon (w : World) (v : Value) : Result Next → Prop
  | .ok (.value u) w' => w' = w ∧ u = v
  | .ok .skip w' => w' = w ∧ v = undef
  | _ => False
/-- .. the same v in every world of a family. -/
@[go_sem] def calm (P : Program) {T : Type} (G : T → World) (o : Oper) (a : Act) (K : Act → Prop) : Prop := ∃ v, (∀ x, calmUpon (G x) v ((execOp a.eval o).run P (G x))) ∧ K (a.put o.dst v)
theorem turns_of_calm {D : World → Prop} {w : World} {v : Value} {r : Result Next} (h : calmUpon w v r) (hD : D w) : turnsUpon P D v r := by
  cases r with
  | ok n w' =>
    cases n <;> simp only [calmUpon] at h <;> simp only [turnsUpon]
    · exact ⟨h.1 ▸ hD, h.2⟩
    · exact ⟨h.1 ▸ hD, h.2⟩
  | halt x w' => simp only [calmUpon] at h
/-- A step of the walk: an operation that reads. -/
theorem multi_calm {Q : Act → Prop} {o : Oper} {l : List Oper} {k : Nat} {a : Act} {T : Type} {G : T → World} (hG : ∀ L w, k ∈ Region.ready .any ops L → C L w → ∃ x, w = G x) (hk : ∀ L w, k ∈ Region.ready .any ops L → C L w → C (L.setIfInBounds k true) w)
    (h : ∀ K : Act → Prop, (∀ a, wpMulti P ops C Q l (k + 1) a → K a) → if Region.wanted o (yielded ops a.tmps) then calm P G o a K else K (a.put o.dst undef)) : wpMulti P ops C Q (o :: l) k a := by
  have h' := h _ (fun _ q => q)
  by_cases hw : Region.wanted o (yielded ops a.tmps) = true
  · rw [if_pos hw] at h'
    obtain ⟨v, h1, h2⟩ := h'
    exact ⟨v, .inl ⟨hw, fun L w hr hc => by
      obtain ⟨x, rfl⟩ := hG L w hr hc
      exact turns_of_calm (h1 x) (hk L _ hr hc)⟩, h2⟩
  · rw [if_neg hw] at h'
    exact ⟨undef, .inr ⟨by simpa using hw, rfl, hk⟩, h'⟩
/-- A step of the walk: a call. -/
theorem multi_call {Q : Act → Prop} {o : Oper} {l : List Oper} {k : Nat} {a : Act} (f : FuncId) (args : Array Value) (v : Value) (hw : Region.wanted o (yielded ops a.tmps) = true) (ho : ∀ w, (execOp a.eval o).run P w = .ok (.enter f args) w)
    (hc : ∀ L w, k ∈ Region.ready .any ops L → C L w → Calls P f args w fun e w'' => e = .returned v ∧ C (L.setIfInBounds k true) w'') (h : wpMulti P ops C Q l (k + 1) (a.put o.dst v)) : wpMulti P ops C Q (o :: l) k a :=
  ⟨v, .inl ⟨hw, fun L w hr hC => by rw [ho w]; exact hc L w hr hC⟩, h⟩
/-- A step of the walk: whatever writes by itself (append). -/
theorem multi_write {Q : Act → Prop} {o : Oper} {l : List Oper} {k : Nat} {a : Act} (v : Value) (hw : Region.wanted o (yielded ops a.tmps) = true)
    (hc : ∀ L w, k ∈ Region.ready .any ops L → C L w → ∃ w'', (execOp a.eval o).run P w = .ok (.value v) w'' ∧ C (L.setIfInBounds k true) w'') (h : wpMulti P ops C Q l (k + 1) (a.put o.dst v)) : wpMulti P ops C Q (o :: l) k a :=
  ⟨v, .inl ⟨hw, fun L w hr hC => by
    obtain ⟨w'', e, hC'⟩ := hc L w hr hC
    rw [e]
    exact ⟨hC', rfl⟩⟩, h⟩
theorem multi_nil {Q : Act → Prop} {k : Nat} {a : Act} (h : Q a) : wpMulti P ops C Q [] k a := h
/-- Worlds of which something is known, as a family of which nothing else is. -/
theorem family (F : World → Prop) (w0 : World) (h0 : F w0) : ∃ (T : Type) (G : T → World), Nonempty T ∧ (∀ w, F w → ∃ x, w = G x) ∧ ∀ x, F (G x) :=
  ⟨{ w // F w }, Subtype.val, ⟨⟨w0, h0⟩⟩, fun w h => ⟨⟨w, h⟩, rfl⟩, fun x => x.2⟩
theorem ready_not {j : Nat} {L : Array Bool} (h : j ∈ Region.ready .any ops L) : L.getD j false = false ∧ j < L.size := by
  have h0 := (mem_ready.1 h).1
  rcases Nat.lt_or_ge j L.size with q | q
  · simp [q] at h0 ⊢
    exact h0
  · simp [Array.getElem?_eq_none q] at h0
theorem set_yes {j : Nat} {L : Array Bool} (h : j < L.size) : (L.setIfInBounds j true).getD j false = true := by simp [h]
theorem ready_dep {j : Nat} {L : Array Bool} {o : Oper} (h : j ∈ Region.ready .any ops L) (ho : ops[j]? = some o) {e : Edge} (he : e ∈ o.after) (hb : Region.binds .any e = true) : L.getD e.on false = true := by
  obtain ⟨_, o', ho', hall⟩ := mem_ready.1 h
  obtain rfl : o' = o := Option.some.inj (ho'.symm.trans ho)
  exact hall e he hb
end

section
variable {P : Program} {ops : Array Oper} {C : Array Bool → World → Prop} {n : Nat}

/-- Whatever order is picked among the first n, till all of them have been. -/
def wpMT (P : Program) (ops : Array Oper) (C : Array Bool → World → Prop) (n : Nat) (Z : Array Bool → Act → Prop) : Nat → Array Bool → Act → Prop
  | 0, L, a => Z L a
  | f + 1, L, a => Region.ready .any ops L ≠ [] ∧ ∀ i ∈ Region.ready .any ops L, i < n ∧ ∃ o v, ops[i]? = some o ∧ Turns P ops C i o v a ∧ wpMT P ops C n Z f (L.setIfInBounds i true) (a.put o.dst v)

theorem wpAny_of_MT {Z : Array Bool → Act → Prop} {g : Nat} {Q' : Exit → Act → World → Prop} (hZ : ∀ L a w, C L w → Z L a → wpAny P .any ops Q' g L a w) :
    ∀ (f : Nat) (L : Array Bool) (a : Act) (w : World), C L w → wpMT P ops C n Z f L a → wpAny P .any ops Q' (f + g) L a w
  | 0, L, a, w, hw, h => by rw [Nat.zero_add]; exact hZ _ _ _ hw h
  | f + 1, L, a, w, hw, h => by
    rw [show f + 1 + g = (f + g) + 1 by omega]
    refine ⟨fun h0 => absurd h0 h.1, fun i hi => ?_⟩
    obtain ⟨-, o, v, ho, ht, hm⟩ := h.2 i hi
    unfold wpOp
    simp only [ho]
    rcases ht with ⟨hwt, ht⟩ | ⟨hwt, rfl, ht⟩
    · rw [if_pos hwt]
      exact .inl (wp_of_turns (ht L w hi hw) fun w' hw' => wpAny_of_MT hZ f _ _ w' hw' hm)
    · rw [if_neg (by simp [hwt])]
      exact wpAny_of_MT hZ f _ _ w (ht L w hi hw) hm

theorem wpMT_first {Z : Array Bool → Act → Prop} {i : Nat} {oi : Oper} {v : Value} (hi : ops[i]? = some oi) (hsel : ∀ (j : Nat) (o : Oper) cs b, ops[j]? = some o → o.op ≠ .select cs b)
    (hs : Region.sinkB .any ops n = true) (hc : Region.chainB .any ops n = true) (hn : n < ops.size) (hin : i < n) (hdone : ∀ L a, Z L a → ∀ j ∈ Region.ready .any ops L, n ≤ j) :
    ∀ (f : Nat) (L : Array Bool) (a : Act), HeadInv .any ops n L → (∀ j oj, ops[j]? = some oj → j ≠ i → L.getD j true = false → (∀ e ∈ oj.after, Region.binds .any e = true → e.on ≠ i) → oi.apart ops oj = true) →
      i ∈ Region.ready .any ops L → Turns P ops C i oi v a → wpMT P ops C n Z f (L.setIfInBounds i true) (a.put oi.dst v) → wpMT P ops C n Z (f + 1) L a := by
  intro f
  have low : ∀ L, HeadInv .any ops n L → i ∈ Region.ready .any ops L → ∀ j ∈ Region.ready .any ops L, j < n := fun L inv hr j hj => by
    rcases Nat.lt_or_ge j n with q | q
    · exact q
    · exact absurd hj (tail_waits hs hc hn inv _ i rfl hin (mem_ready.1 hr).1 j q)
  induction f with
  | zero =>
    intro L a inv _ hr ht H
    refine ⟨fun h => (by rw [h] at hr; cases hr), fun j hj => ⟨low L inv hr j hj, ?_⟩⟩
    by_cases hji : j = i
    · subst hji
      exact ⟨oi, v, hi, ht, H⟩
    · have := hdone _ _ H j (ready_mono hj hji)
      have := low L inv hr j hj
      omega
  | succ f ih =>
    intro L a inv hfree hr ht H
    refine ⟨fun h => (by rw [h] at hr; cases hr), fun j hj => ⟨low L inv hr j hj, ?_⟩⟩
    by_cases hji : j = i
    · subst hji
      exact ⟨oi, v, hi, ht, H⟩
    · obtain ⟨-, oj, u, hoj, htj, hm⟩ := H.2 j (ready_mono hj hji)
      obtain ⟨hjun, oj', hoj', hall⟩ := mem_ready.1 hj
      obtain rfl : oj' = oj := Option.some.inj (hoj'.symm.trans hoj)
      have hun := (mem_ready.1 hr).1
      have hno : ∀ e ∈ oj'.after, Region.binds .any e = true → e.on ≠ i := fun e he hb heq => by
        have g1 := hall e he hb
        rw [heq, getD_both hun] at g1
        cases g1
      obtain ⟨h1, h2, h3⟩ := Oper.apart_spec (hfree j oj' hoj hji hjun hno)
      have sj : ∀ cs b, oj'.op ≠ .select cs b := fun cs b => hsel j oj' cs b hoj
      have si : ∀ cs b, oi.op ≠ .select cs b := fun cs b => hsel i oi cs b hi
      have ta : Turns P ops C j oj' u a := htj.of_same (execOp_put oj' sj a oi.dst v h1).symm (wanted_put oj' a oi.dst v h1).symm
      have tb : Turns P ops C i oi v (a.put oj'.dst u) := ht.of_same (execOp_put oi si a oj'.dst u h3) (wanted_put oi a oj'.dst u h3)
      refine ⟨oj', u, hoj, ta, ih (L.setIfInBounds j true) (a.put oj'.dst u) (inv.set hj (low L inv hr j hj)) (fun k ok hk hki hun hnk => ?_) (ready_mono hr (Ne.symm hji)) tb ?_⟩
      · refine hfree k ok hk hki ?_ hnk
        by_cases hjk : j = k
        · subst hjk
          exact hjun
        · rw [getD_set_ne true hjk] at hun
          exact hun
      · rw [Array.setIfInBounds_comm _ _ hji, ← Act.put_comm a v u h2]
        exact hm

theorem wpMT_lex {g : Nat} {Zq : Act → Prop} (hsel : Region.noSelect ops = true) (hs : Region.sinkB .any ops n = true) (hc : Region.chainB .any ops n = true) (hn : n < ops.size) :
    ∀ (l : List Oper) (k : Nat) (L : Array Bool) (a : Act), (∀ j, j < l.length → l[j]? = ops[k + j]?) → k + l.length = n → HeadInv .any ops n L →
    Region.lexHead .any ops g l.length k L = true → wpMulti P ops C Zq l k a → wpMT P ops C n (fun L' a' => Region.seqB .any ops g n L' = true ∧ Zq a') l.length L a
  | [], k, L, a, _, hk, _, hB, h => by
    have : k = n := by simpa using hk
    subst this
    exact ⟨by simpa [Region.lexHead] using hB, h⟩
  | o :: l, k, L, a, hl, hk, inv, hB, ⟨v, ht, h⟩ => by
    have h0 : ops[k]? = some o := by simpa using (hl 0 (by simp)).symm
    simp only [List.length_cons, Region.lexHead, Bool.and_eq_true] at hB
    obtain ⟨⟨hr, hf⟩, hB'⟩ := hB
    have hkn : k < n := by simp only [List.length_cons] at hk; omega
    have hr' : k ∈ Region.ready .any ops L := by simpa using hr
    exact wpMT_first h0 (Region.noSelect_spec hsel) hs hc hn hkn (fun L' a' hL => seqB_ready hL.1) l.length L a inv (Region.free_spec h0 hf) hr' ht
      (wpMT_lex hsel hs hc hn l (k + 1) _ _ (fun j hj => by have := hl (j + 1) (by simp; omega); simpa [Nat.add_assoc, Nat.add_comm 1 j] using this) (by simp only [List.length_cons] at hk; omega) (inv.set hr' hkn) hB' h)

theorem multi_of_quiet {C₀ : World → Prop} {Q : Act → Prop} : ∀ (l : List Oper) (k : Nat) (a : Act), wpQuiet P ops C₀ Q l a → wpMulti P ops (fun _ w => C₀ w) Q l k a
  | [], _, _, h => h
  | o :: l, k, a, h => by
    unfold wpQuiet at h
    split at h
    · rename_i hw
      obtain ⟨v, hv, hK⟩ := h
      refine ⟨v, .inl ⟨hw, fun L w _ hC => ?_⟩, multi_of_quiet l (k + 1) _ hK⟩
      have hq := hv w hC
      unfold Oper.quietAt at hq
      generalize (execOp a.eval o).run P w = r at hq
      cases r with
      | ok m w1 =>
        cases m <;> simp only [Oper.quietUpon] at hq <;> simp only [turnsUpon]
        · exact ⟨hq.1 ▸ hC, hq.2⟩
        · exact ⟨hq.1 ▸ hC, hq.2⟩
        · obtain ⟨rfl, hq⟩ := hq
          exact hq
      | halt x w1 => simp only [Oper.quietUpon] at hq
    · rename_i hw
      exact ⟨undef, .inr ⟨by simpa using hw, rfl, fun L w _ hC => hC⟩, multi_of_quiet l (k + 1) _ h⟩
end

theorem wp_region_qtail {P : Program} {id : Nat} {Q : Exit → Act → World → Prop} {a : Act} {w : World} {l : List Oper} (n : Nat) (hm : P.follows .mixedOrders = true) (hB : Region.lexTailB .any l.toArray n = true)
    (h : wpQuiet P l.toArray (fun w' => ∃ p : Regrown, w' = grow (redrawn w p.d) p.os) (fun a' => ∀ w', Below w.heap.size w w' → wpList P l.toArray Q (l.drop n) a' w') (l.take n) a) : (Code.region id l.toArray true).wp P Q a w := by
  simp only [Region.lexTailB, Bool.and_eq_true, decide_eq_true_eq] at hB
  obtain ⟨⟨⟨⟨hsel, hn⟩, hs⟩, hc⟩, hlex⟩ := hB
  have hn' : n < l.length := by simpa using hn
  have htl : (l.take n).length = n := by simp; omega
  refine wp_region_any hm ?_
  have M := multi_of_quiet (l.take n) 0 a h
  have inv : HeadInv .any l.toArray n (Array.replicate l.toArray.size false) := by
    refine ⟨by simp, fun j oj _ hl => ?_, fun t ht ht' => ?_⟩
    · rw [getD_replicate_false] at hl
      cases hl
    · have : t < l.length := by simpa using ht'
      simp [this]
  have H := wpMT_lex (C := fun _ w' => ∃ p : Regrown, w' = grow (redrawn w p.d) p.os) (n := n) (g := l.toArray.size - n) hsel hs hc hn (l.take n) 0 (Array.replicate l.toArray.size false) a (fun j hj => by
      have hj' : j < n := by simp at hj; omega
      simp [hj']) (by simp; omega) inv (by rw [htl]; exact hlex) M
  have hg : l.toArray.size = (l.take n).length + (l.toArray.size - n) := by rw [htl]; omega
  generalize Array.replicate l.toArray.size false = A at H ⊢
  rw [hg]
  refine wpAny_of_MT (C := fun _ w' => ∃ p : Regrown, w' = grow (redrawn w p.d) p.os) (fun L a' w' hw' hZ => ?_) _ _ _ { w with drawn := w.drawn + 1 } ⟨⟨w.drawn + 1, #[]⟩, by rw [grow_empty]; rfl⟩ H
  obtain ⟨p, rfl⟩ := hw'
  have hd : (l.drop n).length = l.toArray.size - n := by simp
  rw [← hd] at hZ ⊢
  exact wpAny_of_seq (l.drop n) n L a' _ (fun j => by simp) hZ.1 (hZ.2 _ (below_regrown w p.d p.os))
end Go.Proofs.Ytgpjelcihmbiiaa
