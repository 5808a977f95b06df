/- Regions that draw their order: chosen operations that only read or reckon are taken first; the others follow one after the other. No condition. -/
import Derived.Test.YtailaenkmknpiaaWSm
import Derived.OrdersHeld
namespace Go.Proofs.Ytailaenkmknpiaa
open Go.RowKit Go.Sort
set_option linter.unusedVariables false

/-- An operation that reads or reckons: it enters no function, and makes nothing. -/
def plainOp : Op → Bool
  | .move _ | .assign _ | .pick _ _ _ | .load _ _ | .binOp _ _ _ _ _ | .unOp _ _ _ | .convert _ _ _ | .slice _ _ _ _ _ | .fieldAddr _ _ _ | .indexAddr _ _ _ | .extract _ _ | .build _ _ | .nilCheck _ => true
  | _ => false

theorem value_of_then {P : Program} {α : Type} {s : Sem α} {f : α → Value} {w w' : World} {n : Next} (h : Sem.run P (s >>= fun a => pure (Next.value (f a))) w = .ok n w') : ∃ v, n = .value v := by
  rw [Sem.run_bind] at h
  cases hs : Sem.run P s w with
  | ok v w1 =>
    rw [hs] at h
    simp only [Result.andThen, Sem.run_pure, Result.ok.injEq] at h
    exact ⟨f v, h.1.symm⟩
  | halt x w1 =>
    rw [hs] at h
    simp [Result.andThen] at h

def Valued (P : Program) (s : Sem Next) : Prop := ∀ w n w', s.run P w = .ok n w' → ∃ v, n = .value v
theorem valued_bind {P : Program} {α : Type} {s : Sem α} {f : α → Sem Next} (h : ∀ a, Valued P (f a)) : Valued P (s >>= f) := fun w n w' e => by
  rw [Sem.run_bind] at e
  cases hs : Sem.run P s w with
  | ok v w1 =>
    rw [hs] at e
    exact h v _ _ _ e
  | halt x w1 =>
    rw [hs] at e
    simp [Result.andThen] at e
theorem valued_pure {P : Program} (v : Value) : Valued P (pure (.value v)) := fun w n w' e => by
  simp only [Sem.run_pure, Result.ok.injEq] at e
  exact ⟨_, e.1.symm⟩
theorem valued_goPanic {P : Program} (v : Value) : Valued P (goPanic v) := by
  unfold goPanic
  first
    | exact fun w n w' e => by simp at e
    | exact valued_bind fun a w n w' e => by simp at e
theorem valued_panic {P : Program} (x : RuntimeError) : Valued P (runtimePanic x) := by
  unfold runtimePanic
  refine valued_bind fun p => ?_
  cases x <;> first
    | exact valued_goPanic _
    | exact valued_bind fun _ => valued_goPanic _
    | exact valued_bind fun _ => valued_bind fun _ => valued_goPanic _
theorem plain_value {P : Program} {ρ : Operand → Value} {o : Oper} (hp : plainOp o.op = true) {w w' : World} {n : Next} (h : (execOp ρ o).run P w = .ok n w') : ∃ v, n = .value v := by
  unfold execOp at h
  revert h
  cases ho : o.op <;> simp only [ho, plainOp, Bool.false_eq_true] at hp <;> intro h <;> dsimp only at h <;> first
    | (simp only [Sem.run_pure, Result.ok.injEq] at h; exact ⟨_, h.1.symm⟩)
    | exact value_of_then (f := id) h
    | exact value_of_then h
    | (refine (?_ : Valued P _) _ _ _ h
       split <;> first
         | exact valued_panic _
         | exact valued_pure _
         | (split <;> first
              | exact valued_panic _
              | exact valued_pure _
              | (refine valued_bind fun _ => valued_bind fun _ => ?_
                 split
                 · exact valued_bind fun _ => valued_pure _
                 · exact valued_pure _)))

theorem yieldsIf_of_quiet {P : Program} {ops : Array Oper} {C : World → Prop} {o : Oper} {a : Act} {K : Act → Prop} (hp : plainOp o.op = true)
    (h : if Region.wanted o (yielded ops a.tmps) then o.quiet P a C K else K (a.put o.dst undef)) : ∃ v, YieldsIf P ops C o v a ∧ K (a.put o.dst v) := by
  split at h
  · rename_i hw
    obtain ⟨v, hv, hK⟩ := h
    refine ⟨v, .inl ⟨hw, fun w hC => ?_⟩, hK⟩
    have hq := hv w hC
    unfold Oper.quietAt at hq
    cases hr : (execOp a.eval o).run P w with
    | ok n w1 =>
      rw [hr] at hq
      obtain ⟨u, rfl⟩ := plain_value hp hr
      simp only [Oper.quietUpon] at hq
      rw [hq.1, hq.2]
    | halt x w1 =>
      rw [hr] at hq
      exact (hq : False).elim
  · rename_i hw
    exact ⟨undef, .inr ⟨by simpa using hw, rfl⟩, h⟩

/-- One operation that alone may come up. -/
theorem wpAnyH_one {P : Program} {ops : Array Oper} {Q : Exit → Act → World → Prop} {S : World → Prop} {fuel k : Nat} {listed : Array Bool} {a : Act} {w : World} {o : Oper} (hr : Region.ready .any ops listed = [k]) (ho : ops[k]? = some o)
    (h : ∀ K' : Act → World → Prop, (∀ a w, S w → wpAnyH P .any ops Q S fuel (listed.setIfInBounds k true) a w → K' a w) → if Region.wanted o (yielded ops a.tmps) = true then Oper.wp P o a w K' Q else K' (a.put o.dst undef) w) :
    wpAnyH P .any ops Q S (fuel + 1) listed a w :=
  wpAnyH_all hr (by simp) fun i hi => by
    obtain rfl : i = k := by simpa using hi
    exact wpOp_step ho fun K' hK => h K' fun a w hS hW => hK a w ⟨hS, hW⟩

/-- The chosen operations, in this order, may each be taken first when those ahead of it have come up. -/
def lexSel (ops : Array Oper) : List (Nat × Oper) → Array Bool → Bool
  | [], _ => true
  | x :: r, listed => (Region.ready .any ops listed).contains x.1 && Region.free .any ops listed x.1 && lexSel ops r (listed.setIfInBounds x.1 true)
def listedSel : List (Nat × Oper) → Array Bool → Array Bool
  | [], listed => listed
  | x :: r, listed => listedSel r (listed.setIfInBounds x.1 true)

theorem wpAnyH_sel {P : Program} {ops : Array Oper} {Q : Exit → Act → World → Prop} {S : World → Prop} {g : Nat} {w : World} (hs : Region.noSelect ops = true)
    (hQ : ∀ c d v a w, Q (.panic c) (a.put d v) w → Q (.panic c) a w) (hS : S w) : ∀ (l : List (Nat × Oper)) (listed : Array Bool) (a : Act), (∀ x ∈ l, ops[x.1]? = some x.2) → (l.all fun x => plainOp x.2.op) = true →
    lexSel ops l listed = true → wpQuiet P ops S (fun a' => wpAnyH P .any ops Q S g (listedSel l listed) a' w) (l.map (·.2)) a → wpAnyH P .any ops Q S (g + l.length) listed a w
  | [], _, _, _, _, _, h => h
  | x :: l, listed, a, hl, hp, hB, h => by
    have h0 : ops[x.1]? = some x.2 := hl x (by simp)
    simp only [lexSel, Bool.and_eq_true] at hB
    obtain ⟨⟨hr, hf⟩, hB'⟩ := hB
    simp only [List.all_cons, Bool.and_eq_true] at hp
    obtain ⟨v, hy, hK⟩ := yieldsIf_of_quiet hp.1 (h : if Region.wanted x.2 (yielded ops a.tmps) then x.2.quiet P a S (wpQuiet P ops S _ (l.map (·.2))) else wpQuiet P ops S _ (l.map (·.2)) (a.put x.2.dst undef))
    exact wpAnyH_take h0 hs hf hr (fun c a w => hQ c _ _ a w) hy hS
      (wpAnyH_sel hs hQ hS l _ _ (fun y hy => hl y (List.mem_cons_of_mem _ hy)) hp.2 hB' hK)

/-- The operations of these numbers. -/
def pickOps (l : List Oper) (ks : List Nat) : List (Nat × Oper) := ks.filterMap fun k => (l[k]?).map fun o => (k, o)
theorem pickOps_ok (l : List Oper) (ks : List Nat) : ∀ x ∈ pickOps l ks, l.toArray[x.1]? = some x.2 := by
  intro x hx
  obtain ⟨k, _, h⟩ := List.mem_filterMap.1 hx
  obtain ⟨o, ho, rfl⟩ := Option.map_eq_some_iff.1 h
  simpa using ho

structure Beh (B : Nat) (W : World) where
  w : World
  h : Below B W w
instance (B : Nat) (W : World) : Inhabited (Beh B W) := ⟨⟨W, Below.refl _ _⟩⟩

/-- A region that draws its order: chosen operations that look at no memory, or at blocks below B, are taken first. -/
theorem wp_region_selB {P : Program} {id : Nat} {Q : Exit → Act → World → Prop} {a : Act} {w : World} {l : List Oper} (B : Nat) (ks : List Nat) (g : Nat) (hn : g + (pickOps l ks).length = l.toArray.size) (hm : P.follows .mixedOrders = true) (hs : Region.noSelect l.toArray = true)
    (hp : ((pickOps l ks).all fun x => plainOp x.2.op) = true) (hB : lexSel l.toArray (pickOps l ks) (Array.replicate l.toArray.size false) = true) (hQ : ∀ c d v a w, Q (.panic c) (a.put d v) w → Q (.panic c) a w)
    (h : ∀ W, W = w.drew → wpQuiet P l.toArray (fun w' => ∃ q : Beh B W, w' = q.w) (fun a' => wpAnyH P .any l.toArray Q (fun w' => ∃ q : Beh B W, w' = q.w) g (listedSel (pickOps l ks) (Array.replicate l.toArray.size false)) a' W) ((pickOps l ks).map (·.2)) a) : (Code.region id l.toArray true).wp P Q a w := by
  refine wp_region_held (S := fun w' => ∃ q : Beh B w.drew, w' = q.w) hm ?_
  have H := wpAnyH_sel (S := fun w' => ∃ q : Beh B w.drew, w' = q.w) (g := g) (w := w.drew) hs hQ ⟨⟨_, Below.refl _ _⟩, rfl⟩ (pickOps l ks) (Array.replicate l.toArray.size false) a (pickOps_ok l ks) hp hB (h w.drew rfl)
  rw [hn] at H
  exact H
theorem if_true_prop {c : Bool} {A B : Prop} (h : c = true) (x : A) : if c = true then A else B := by rw [if_pos h]; exact x

theorem append_none (w : World) (ty : TypeId) (B c : Nat) (v : Value) (ys : List Int) (hv : DatB B w v ys) : (Builtin.append_ #[33, 33] ty #[v, .slice none 0 c]).run Try.prog w = .ok v w := by
  obtain ⟨i, hi, hz, hs, hb⟩ := info_u8
  rcases hv.2 with ⟨rfl, -⟩ | ⟨g, cap, cur, rfl, _, _, hnc, _⟩
  · simp [Builtin.append_, run_underlying Try.underlying33, sizeOf, typeInfo, hi, Builtin.lenOf, Builtin.firstCells]
  · simp [Builtin.append_, run_underlying Try.underlying33, sizeOf, typeInfo, hi, Builtin.lenOf, Builtin.firstCells, hnc, storeCells]
/-- Octets that lie anywhere, appended. -/
theorem append_any (w : World) (ty : TypeId) (B : Nat) (v u : Value) (ys zs : List Int) (hv : DatB B w v ys) (hu : Seg w u zs) (hB : B ≤ w.heap.size) (hl : ys.length + zs.length ≤ 1099511627776) :
    ∃ v' w', (Builtin.append_ #[33, 33] ty #[v, u]).run Try.prog w = .ok v' w' ∧ DatB B w' v' (ys ++ zs) ∧ w.grownBy w' v.ownBlock := by
  obtain ⟨i, hi, hz, hs, hb⟩ := info_u8
  obtain ⟨a, c, rfl, hc, hx⟩ := hu
  cases a with
  | none =>
    have h0 : zs = [] := by
      rcases zs with _ | ⟨x, r⟩
      · rfl
      · obtain ⟨b, o, e, _⟩ := hx 0 (by simp)
        cases e
    subst h0
    exact ⟨v, w, append_none w ty B c v ys hv, by rw [List.append_nil]; exact hv, ⟨rfl, rfl, rfl, Nat.le_refl _, fun _ _ _ => rfl⟩⟩
  | some p =>
    obtain ⟨v', w', hr, ho, hgr, -⟩ := run_append_own (P := Try.prog) w B 33 ty 5 i (.int .u8 0) 1 1 Try.underlying33 hi hz hs hb rfl (by decide) v ys.length _ hv p zs.length c (zs.map (Value.int .u8)) (by simp) (fun j u hu => by
      have hj : j < zs.length := by
        rcases Nat.lt_or_ge j zs.length with q | q
        · exact q
        · rw [List.getElem?_eq_none (by simpa using q)] at hu
          cases hu
      obtain ⟨b, o, e, hcell⟩ := hx j hj
      obtain rfl := Option.some.inj e
      rw [add_is, hcell, ← hu]
      simp [List.getD_eq_getElem?_getD, hj]) (by simp [Value.oneCell']) (by unfold maxLen; omega) (by omega) hB
    refine ⟨v', w', hr, ?_, hgr⟩
    unfold DatB
    rw [List.length_append, List.map_append]
    exact ho
theorem q_slice {P : Program} {C : World → Prop} {o : Oper} {a : Act} {K : Act → Prop} (t : TypeId) (ht : P.underlying t = some (.slice (P.elem t))) (x l h : Operand) (ho : o.op = .slice t x (some l) (some h) none) (v lo hi r : Value) (hx : a.eval x = v) (hl : a.eval l = lo) (hh : a.eval h = hi) (hC : ∀ w, C w → (Instr.slice t v (some lo) (some hi) none).run P w = .ok r w) (k : K (a.put o.dst r)) : o.quiet P a C K :=
  ⟨r, fun w hw => by
    unfold Oper.quietAt execOp
    simp only [ho, hx, hl, hh, Option.map_some, Option.map_none, Sem.run_bind, run_sliceAt_slice _ _ _ _ _ _ ht, hC w hw, Sem.run_pure, Result.andThen_ok, Oper.quietUpon, and_self], k⟩
/-- A literal of no octets. -/
theorem datB_none (w : World) (B : Nat) (hB : B ≤ w.heap.size) : DatB B (w.alloc (.cells #[] 5)) (.slice (some ⟨w.heap.size, 0, none⟩) 0 0) [] := World.ownsRow_lit (base := B) (size := 1) w #[] 0 hB (by unfold maxLen; omega) rfl
end Go.Proofs.Ytailaenkmknpiaa
