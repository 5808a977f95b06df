/- The writer's Bytes; copies in memory of their own. No condition. -/
import Derived.Test.YtgpjelcihmbiiaaPKt
import Derived.Laws.CopyRow
import Derived.Laws.IdiomCopy
import Derived.Maps.AppendAt
import Derived.Deep.RegionWith
import Derived.OrdersHeld
import Derived.BigQuiet
import Derived.StillTailTactics
import Derived.Lib.QuietBelow
namespace Go.Proofs.Ytgpjelcihmbiiaa
open Go.RowKit Go.Sort
set_option linter.unusedVariables false
set_option linter.unusedSimpArgs false
set_option maxRecDepth 100000
def DatB (B : Nat) (w : World) (v : Value) (xs : List Int) : Prop := w.ownsRow B 5 1 v xs.length (xs.map (Value.int .u8))
theorem DatB.dat {B : Nat} {w : World} {v : Value} {xs : List Int} (h : DatB B w v xs) : Dat w v xs := World.ownsRow.mono h (Nat.zero_le _)
theorem clone_new (w : World) (v : Value) (xs : List Int) (h : Seg w v xs) (hl : xs.length ≤ 140737488355328) : Calls Try.prog 66 #[v] w fun e w' => ∃ v', e = .returned v' ∧ DatB w.heap.size w' v' xs ∧ Below w.heap.size w w' := by
  obtain ⟨a, c, rfl, hc, hx⟩ := h
  cases a with
  | none =>
    have h0 : xs = [] := by
      rcases xs with _ | ⟨x, r⟩
      · rfl
      · obtain ⟨b, o, e, _⟩ := hx 0 (by simp)
        cases e
    subst h0
    refine (Try.bytes_Clone_nil _ c w).mono ?_
    rintro e w' ⟨rfl, rfl⟩
    exact ⟨_, rfl, World.ownsRow_nil _ _ _ _, Below.refl _ _⟩
  | some p =>
    refine (Try.bytes_Clone_at p _ c xs w rfl hl ?_).mono ?_
    · intro i hi
      obtain ⟨b, o, e, hcell⟩ := hx i hi
      obtain rfl := Option.some.inj e
      rw [add_is]
      exact hcell
    · rintro e w' ⟨v', rfl, ho, -, hb⟩
      exact ⟨v', rfl, ho, hb⟩
theorem out_new (w : World) (b : Nat) (W : WS) (h : Wtr w b W) : Calls Try.prog 44 #[.pointer (some ⟨b, 0, none⟩)] w fun e w' => ∃ v, e = .returned v ∧ DatB w.heap.size w' v W.xs ∧ Below w.heap.size w w' := by
  have hv := wr_valid w b W h
  have hcl := clone_new w W.v W.xs h.2.1.seg (by have := h.2.2.2; omega)
  have c1 := h.1.cell 1 (v := W.v) rfl
  go_enter Try.func44, Try.ntmps44
  go_wp2_with (first | (go_at_call 65; refine hv.mono ?_; rintro e w' ⟨rfl, hw⟩; obtain rfl := hw.symm) | (go_at_call 66; refine hcl.mono ?_; rintro e w1 ⟨v, rfl, hd, k⟩; clear hcl))
  go_ret
  exact ⟨v, rfl, hd, k⟩
/-- The slice lies where it lay, or in new memory. -/
def Moved (w : World) (v v' : Value) : Prop := v'.ownBlock = v.ownBlock ∨ ∀ g, v'.ownBlock = some g → w.heap.size ≤ g
theorem wpList_copy_run {P : Program} {ops : Array Oper} {rest : List Oper} {o : Oper} {a : Act} {w w' : World} {Q : Exit → Act → World → Prop} (hgd : o.guard = none) (d s : Operand) (t u : TypeId) (ho : o.op = .call { callee := .builtin .copy, args := #[d, s], argTypes := #[t, u] })
    (x y v : Value) (hd : a.eval d = x) (hs : a.eval s = y) (hr : (Builtin.copy_ #[t, u] o.type #[x, y]).run P w = .ok v w') (h : wpList P ops Q rest (a.put o.dst v) w') : wpList P ops Q (o :: rest) a w :=
  wpList_plain hgd fun _ hK => by
    unfold Oper.wp
    simp [execOp, ho, resolve, invoke, builtin, hd, hs, hr, Result.andThen]
    exact hK _ _ h
theorem copy_nil (w : World) (ty : TypeId) (d a : Option Addr) (dc n c : Nat) : (Builtin.copy_ #[23, 23] ty #[.slice d 0 dc, .slice a n c]).run Try.prog w = .ok (.int .i64 0) w := by
  have hi : (Try.prog.info? 5).map (·.size) = some 1 := by kernel_rfl
  exact run_copy_none w _ _ ty 5 d a 0 dc n c Try.underlying23 hi (by simp)
/-- Its bytes. -/
theorem wr_Bytes_full (w : World) (b : Nat) (W : WS) (u : Value) (ys : List Int) (h : Wtr w b W) (hu : Seg w u ys) (hf : W.lim < W.xs.length + ys.length) (hl : ys.length ≤ 1000000) :
    Calls Try.prog 125 #[.pointer (some ⟨b, 0, none⟩), u] w fun e w' => e = .returned (.int .i64 7) ∧ w' = w := by
  have hx := wr_extend_full w b W ys.length h hf (by omega)
  obtain ⟨a, c, rfl, -, -⟩ := hu
  have hc := copy_nil w 3 none a 0 ys.length c
  go_enter Try.func125, Try.ntmps125
  go_wp2_with fail
  go_at_call 85
  refine hx.mono ?_
  rintro e w' ⟨rfl, hw⟩
  obtain rfl := hw.symm
  go_wp2_with (at_builtin; refine wpList_copy_run rfl _ _ 23 23 rfl _ _ _ rfl rfl hc ?_)
  go_ret
  exact ⟨rfl, rfl⟩
theorem wr_Bytes (w : World) (b : Nat) (W : WS) (u : Value) (ys : List Int) (h : Wtr w b W) (hu : Dat w u ys) (ho : Oct ys) (hne : ∀ g, u.ownBlock = some g → some g ≠ W.v.ownBlock) (hf : W.xs.length + ys.length ≤ W.lim) :
    Calls Try.prog 125 #[.pointer (some ⟨b, 0, none⟩), u] w fun e w' => e = .returned (.int .i64 0) ∧ ∃ v', Wtr w' b { W with xs := W.xs ++ ys, v := v' } ∧ ButW b W.v w w' ∧ Moved w W.v v' := by
  have h0 := h
  have hx := wr_extend w b W ys.length h hf
  obtain ⟨a, c, hue⟩ := hu.shape
  obtain ⟨hb, hd, ow, l1, l2⟩ := h
  obtain ⟨lim, xs, v, mb⟩ := W
  dsimp only at *
  go_enter Try.func125, Try.ntmps125
  subst hue
  go_wp2_with fail
  go_at_call 85
  refine hx.mono ?_
  rintro e w1 ⟨v', rfl, hb1, hd1, hbut, hnew⟩
  have hu1 : Dat w1 (.slice a ys.length c) ys := by
    rcases hu.form with ⟨e, e'⟩ | ⟨g, cap, cs, e, x1, x2, x3, x4, x5⟩
    · rw [e, e']
      exact Dat.nil _
    · rw [e]
      refine Dat.mk x1 x2 ((hbut.block g x3.lt (fun q => x3.ne hb (by decide) q) (hne g (by rw [e]; rfl))).trans x3) x4 x5
  have hoo : Oct (xs ++ ys) := fun x hx => by
    rcases List.mem_append.1 hx with q | q
    · exact ow x q
    · exact ho x q
  clear hx hu
  by_cases hy : 0 < ys.length
  · obtain ⟨g, cap, cs, hv', ht, hcap, hmx, hg, hcl, hct⟩ := tail_form hd1 hy
    rw [ht]
    have hi : (Try.prog.info? 5).map (·.size) = some 1 := by kernel_rfl
    obtain ⟨gu, cu, csu, eu, y1, y2, y3, y4, y5⟩ : ∃ g cap cs, Value.slice a ys.length c = .slice (some ⟨g, 0, none⟩) ys.length cap ∧ ys.length ≤ cap ∧ cap ≤ maxLen ∧ Blk w1 g 5 cs ∧ cs.length = cap ∧ cs.take ys.length = ys.map (Value.int .u8) := by
      rcases hu1.form with ⟨-, e'⟩ | q
      · rw [e'] at hy
        simp at hy
      · exact q
    cases eu
    have hr := run_copy_row Try.prog w1 23 23 3 5 g xs.length ys.length (cap - xs.length) ⟨gu, 0, none⟩ ys.length c cs.toArray 5 (ys.map (Value.int .u8)) Try.underlying23 hi hg (by rw [List.length_map]; exact (Nat.min_self _).symm)
      (fun j u hu => by
        have hj : j < ys.length := by
          rcases Nat.lt_or_ge j ys.length with q | q
          · exact q
          · rw [List.getElem?_eq_none (by simpa using q)] at hu; cases hu
        rw [add_is, Nat.zero_add, y3.cell j (take_at y5 j hj), ← hu, List.getElem?_map]
        simp [List.getD_eq_getElem?_getD, hj]) (by rw [List.length_map]; simpa [hcl] using hcap) (fun u hu => by
        obtain ⟨z, -, rfl⟩ := List.mem_map.1 hu
        rfl)
    generalize hw2 : w1.setRow g _ = w2 at hr
    have hg2 := setRow_heap w1 g cs.toArray (cs.toArray.toList.take xs.length ++ ys.map (Value.int .u8) ++ cs.toArray.toList.drop (xs.length + (ys.map (Value.int .u8)).length)).toArray _ _ hg
    rw [hw2] at hg2
    have hoth : ∀ k, k ≠ g → w2.heap[k]? = w1.heap[k]? := fun k hk => by rw [← hw2]; exact setRow_other w1 g k _ hk
    have hsz : w2.heap.size = w1.heap.size := by rw [← hw2]; simp [World.setRow]
    have hos : w2.os = w1.os ∧ w2.tape = w1.tape ∧ w2.output = w1.output := by rw [← hw2]; exact ⟨rfl, rfl, rfl⟩
    clear hw2
    have hbg : b ≠ g := hb1.ne hg (by decide)
    have hd2 : Dat w2 v' (xs ++ ys) := by
      rw [hv']
      refine Dat.of (cs := cs.take xs.length ++ ys.map (Value.int .u8) ++ cs.drop (xs.length + ys.length)) (by rw [List.length_append]) hcap hmx (by unfold Blk; simpa using hg2) (by simp; omega) ?_
      rw [hct, List.take_append_of_le_length (by simp), List.take_of_length_le (by simp)]
      simp
    have hW2 : Wtr w2 b ⟨lim, xs ++ ys, v', mb⟩ := ⟨(hoth b hbg).trans hb1, hd2, hoo, by show (xs ++ ys).length ≤ lim; rw [List.length_append]; exact hf, l2⟩
    have hB2 : ButW b v w w2 := ⟨hos.1.trans hbut.os, hos.2.1.trans hbut.tape, hos.2.2.trans hbut.output, by rw [hsz]; exact hbut.size, fun k hk h1 h2 => (hoth k (fun e => by
      subst e
      rcases hnew with q | q
      · rw [hv'] at q
        exact h2 q
      · have := q k (by rw [hv']; rfl)
        omega)).trans (hbut.block k hk h1 h2)⟩
    go_wp2_with (at_builtin; refine wpList_copy_run rfl _ _ 23 23 rfl _ _ _ rfl rfl hr ?_)
    go_ret
    exact ⟨rfl, v', hW2, hB2, hnew⟩
  · have hy0 : ys = [] := List.length_eq_zero_iff.1 (by omega)
    subst hy0
    obtain ⟨ta, tl, tc, ht, htl⟩ : ∃ a n c, tail v' xs.length = .slice a n c ∧ n = 0 := by
      obtain ⟨a', c', e, -⟩ := hd1.seg
      rw [e]
      exact ⟨_, _, _, rfl, by simp⟩
    rw [ht]
    subst htl
    have hc := copy_nil w1 3 ta a tc 0 c
    have hW2 : Wtr w1 b ⟨lim, xs ++ [], v', mb⟩ := ⟨hb1, by simpa using hd1, hoo, by simpa using l1, l2⟩
    go_wp2_with (at_builtin; refine wpList_copy_run rfl _ _ 23 23 rfl _ _ _ rfl rfl hc ?_)
    go_ret
    exact ⟨rfl, v', hW2, hbut, hnew⟩
/-- An operation that reads or reckons: it enters no function, and makes nothing. -/
def plainOp : Op → Bool
  | .move _ | .assign _ | .pick _ _ _ | .load _ _ | .binOp _ _ _ _ _ | .unOp _ _ _ | .convert _ _ _ | .slice _ _ _ _ _ | .fieldAddr _ _ _ | .indexAddr _ _ _ | .extract _ _ | .build _ _ | .nilCheck _ => true
  | .call { callee := .builtin .len, .. } => true
  | _ => false

theorem value_of_then {P : Program} {α : Type} {s : Sem α} {f : α → Value} {w w' : World} {n : Next} (h : Sem.run P (s >>= fun a => pure (Next.value (f a))) w = .ok n w') : ∃ v, n = .value v := by
  rw [Sem.run_bind] at h
  cases hs : Sem.run P s w with
  | ok v w1 =>
    rw [hs] at h
    simp only [Result.andThen, Sem.run_pure, Result.ok.injEq] at h
    exact ⟨f v, h.1.symm⟩
  | halt x w1 =>
    rw [hs] at h
    simp [Result.andThen] at h

def Valued (P : Program) (s : Sem Next) : Prop := ∀ w n w', s.run P w = .ok n w' → ∃ v, n = .value v
theorem valued_bind {P : Program} {α : Type} {s : Sem α} {f : α → Sem Next} (h : ∀ a, Valued P (f a)) : Valued P (s >>= f) := fun w n w' e => by
  rw [Sem.run_bind] at e
  cases hs : Sem.run P s w with
  | ok v w1 =>
    rw [hs] at e
    exact h v _ _ _ e
  | halt x w1 =>
    rw [hs] at e
    simp [Result.andThen] at e
theorem valued_pure {P : Program} (v : Value) : Valued P (pure (.value v)) := fun w n w' e => by
  simp only [Sem.run_pure, Result.ok.injEq] at e
  exact ⟨_, e.1.symm⟩
theorem valued_goPanic {P : Program} (v : Value) : Valued P (goPanic v) := by
  unfold goPanic
  first
    | exact fun w n w' e => by simp at e
    | exact valued_bind fun a w n w' e => by simp at e
theorem valued_panic {P : Program} (x : RuntimeError) : Valued P (runtimePanic x) := by
  unfold runtimePanic
  refine valued_bind fun p => ?_
  cases x <;> first
    | exact valued_goPanic _
    | exact valued_bind fun _ => valued_goPanic _
    | exact valued_bind fun _ => valued_bind fun _ => valued_goPanic _
theorem plain_value {P : Program} {ρ : Operand → Value} {o : Oper} (hp : plainOp o.op = true) {w w' : World} {n : Next} (h : (execOp ρ o).run P w = .ok n w') : ∃ v, n = .value v := by
  unfold execOp at h
  revert h
  cases ho : o.op
  case call c =>
    rw [ho] at hp
    obtain ⟨callee, args, ats⟩ := c
    cases callee
    case builtin b =>
      cases b <;> first | (simp [plainOp] at hp; done) | skip
      intro h
      simp only [resolve, invoke, builtin, Sem.run_bind, Sem.run_pure, Result.andThen_ok] at h
      refine value_of_then (f := id) (s := Builtin.len_ ats o.type (args.map ρ)) (P := P) (w := w) (w' := w') ?_
      simpa [Sem.run_bind] using h
    all_goals (simp [plainOp] at hp)
  all_goals (simp only [ho, plainOp, Bool.false_eq_true] at hp)
  all_goals (intro h)
  all_goals (dsimp only at h)
  all_goals (
    first
        | (simp only [Sem.run_pure, Result.ok.injEq] at h; exact ⟨_, h.1.symm⟩)
        | exact value_of_then (f := id) h
        | exact value_of_then h
        | (refine (?_ : Valued P _) _ _ _ h
           split <;> first
             | exact valued_panic _
             | exact valued_pure _
             | (split <;> first
                  | exact valued_panic _
                  | exact valued_pure _
                  | (refine valued_bind fun _ => valued_bind fun _ => ?_
                     split
                     · exact valued_bind fun _ => valued_pure _
                     · exact valued_pure _))))

theorem yieldsIf_of_quiet {P : Program} {ops : Array Oper} {C : World → Prop} {o : Oper} {a : Act} {K : Act → Prop} (hp : plainOp o.op = true)
    (h : if Region.wanted o (yielded ops a.tmps) then o.quiet P a C K else K (a.put o.dst undef)) : ∃ v, YieldsIf P ops C o v a ∧ K (a.put o.dst v) := by
  split at h
  · rename_i hw
    obtain ⟨v, hv, hK⟩ := h
    refine ⟨v, .inl ⟨hw, fun w hC => ?_⟩, hK⟩
    have hq := hv w hC
    unfold Oper.quietAt at hq
    cases hr : (execOp a.eval o).run P w with
    | ok n w1 =>
      rw [hr] at hq
      obtain ⟨u, rfl⟩ := plain_value hp hr
      simp only [Oper.quietUpon] at hq
      rw [hq.1, hq.2]
    | halt x w1 =>
      rw [hr] at hq
      exact (hq : False).elim
  · rename_i hw
    exact ⟨undef, .inr ⟨by simpa using hw, rfl⟩, h⟩

/-- One operation that alone may come up. -/
theorem wpAnyH_one {P : Program} {ops : Array Oper} {Q : Exit → Act → World → Prop} {S : World → Prop} {fuel k : Nat} {listed : Array Bool} {a : Act} {w : World} {o : Oper} (hr : Region.ready .any ops listed = [k]) (ho : ops[k]? = some o)
    (h : ∀ K' : Act → World → Prop, (∀ a w, S w → wpAnyH P .any ops Q S fuel (listed.setIfInBounds k true) a w → K' a w) → if Region.wanted o (yielded ops a.tmps) = true then Oper.wp P o a w K' Q else K' (a.put o.dst undef) w) :
    wpAnyH P .any ops Q S (fuel + 1) listed a w :=
  wpAnyH_all hr (by simp) fun i hi => by
    obtain rfl : i = k := by simpa using hi
    exact wpOp_step ho fun K' hK => h K' fun a w hS hW => hK a w ⟨hS, hW⟩

/-- The chosen operations, in this order, may each be taken first when those ahead of it have come up. -/
def lexSel (ops : Array Oper) : List (Nat × Oper) → Array Bool → Bool
  | [], _ => true
  | x :: r, listed => (Region.ready .any ops listed).contains x.1 && Region.free .any ops listed x.1 && lexSel ops r (listed.setIfInBounds x.1 true)
def listedSel : List (Nat × Oper) → Array Bool → Array Bool
  | [], listed => listed
  | x :: r, listed => listedSel r (listed.setIfInBounds x.1 true)

theorem wpAnyH_sel {P : Program} {ops : Array Oper} {Q : Exit → Act → World → Prop} {S : World → Prop} {g : Nat} {w : World} (hs : Region.noSelect ops = true)
    (hQ : ∀ c d v a w, Q (.panic c) (a.put d v) w → Q (.panic c) a w) (hS : S w) : ∀ (l : List (Nat × Oper)) (listed : Array Bool) (a : Act), (∀ x ∈ l, ops[x.1]? = some x.2) → (l.all fun x => plainOp x.2.op) = true →
    lexSel ops l listed = true → wpQuiet P ops S (fun a' => wpAnyH P .any ops Q S g (listedSel l listed) a' w) (l.map (·.2)) a → wpAnyH P .any ops Q S (g + l.length) listed a w
  | [], _, _, _, _, _, h => h
  | x :: l, listed, a, hl, hp, hB, h => by
    have h0 : ops[x.1]? = some x.2 := hl x (by simp)
    simp only [lexSel, Bool.and_eq_true] at hB
    obtain ⟨⟨hr, hf⟩, hB'⟩ := hB
    simp only [List.all_cons, Bool.and_eq_true] at hp
    obtain ⟨v, hy, hK⟩ := yieldsIf_of_quiet hp.1 (h : if Region.wanted x.2 (yielded ops a.tmps) then x.2.quiet P a S (wpQuiet P ops S _ (l.map (·.2))) else wpQuiet P ops S _ (l.map (·.2)) (a.put x.2.dst undef))
    exact wpAnyH_take h0 hs hf hr (fun c a w => hQ c _ _ a w) hy hS
      (wpAnyH_sel hs hQ hS l _ _ (fun y hy => hl y (List.mem_cons_of_mem _ hy)) hp.2 hB' hK)

/-- The operations of these numbers. -/
def pickOps (l : List Oper) (ks : List Nat) : List (Nat × Oper) := ks.filterMap fun k => (l[k]?).map fun o => (k, o)
theorem pickOps_ok (l : List Oper) (ks : List Nat) : ∀ x ∈ pickOps l ks, l.toArray[x.1]? = some x.2 := by
  intro x hx
  obtain ⟨k, _, h⟩ := List.mem_filterMap.1 hx
  obtain ⟨o, ho, rfl⟩ := Option.map_eq_some_iff.1 h
  simpa using ho

structure Beh (B : Nat) (W : World) where
  w : World
  h : Below B W w
instance (B : Nat) (W : World) : Inhabited (Beh B W) := ⟨⟨W, Below.refl _ _⟩⟩

/-- A region that draws its order: chosen operations that look at no memory, or at blocks below B, are taken first. -/
theorem wp_region_selB {P : Program} {id : Nat} {Q : Exit → Act → World → Prop} {a : Act} {w : World} {l : List Oper} (B : Nat) (ks : List Nat) (g : Nat) (hn : g + (pickOps l ks).length = l.toArray.size) (hm : P.follows .mixedOrders = true) (hs : Region.noSelect l.toArray = true)
    (hp : ((pickOps l ks).all fun x => plainOp x.2.op) = true) (hB : lexSel l.toArray (pickOps l ks) (Array.replicate l.toArray.size false) = true) (hQ : ∀ c d v a w, Q (.panic c) (a.put d v) w → Q (.panic c) a w)
    (h : ∀ W, W = w.drew → wpQuiet P l.toArray (fun w' => ∃ q : Beh B W, w' = q.w) (fun a' => wpAnyH P .any l.toArray Q (fun w' => ∃ q : Beh B W, w' = q.w) g (listedSel (pickOps l ks) (Array.replicate l.toArray.size false)) a' W) ((pickOps l ks).map (·.2)) a) : (Code.region id l.toArray true).wp P Q a w := by
  refine wp_region_held (S := fun w' => ∃ q : Beh B w.drew, w' = q.w) hm ?_
  have H := wpAnyH_sel (S := fun w' => ∃ q : Beh B w.drew, w' = q.w) (g := g) (w := w.drew) hs hQ ⟨⟨_, Below.refl _ _⟩, rfl⟩ (pickOps l ks) (Array.replicate l.toArray.size false) a (pickOps_ok l ks) hp hB (h w.drew rfl)
  rw [hn] at H
  exact H
theorem if_true_prop {c : Bool} {A B : Prop} (h : c = true) (x : A) : if c = true then A else B := by rw [if_pos h]; exact x

theorem wpAnyH_two {P : Program} {ops : Array Oper} {Q : Exit → Act → World → Prop} {S : World → Prop} {fuel j k : Nat} {listed : Array Bool} {a : Act} {w : World} {oj ok : Oper} (hr : Region.ready .any ops listed = [j, k]) (hoj : ops[j]? = some oj) (hok : ops[k]? = some ok)
    (hj : ∀ K' : Act → World → Prop, (∀ a w, S w → wpAnyH P .any ops Q S fuel (listed.setIfInBounds j true) a w → K' a w) → if Region.wanted oj (yielded ops a.tmps) = true then Oper.wp P oj a w K' Q else K' (a.put oj.dst undef) w)
    (hk : ∀ K' : Act → World → Prop, (∀ a w, S w → wpAnyH P .any ops Q S fuel (listed.setIfInBounds k true) a w → K' a w) → if Region.wanted ok (yielded ops a.tmps) = true then Oper.wp P ok a w K' Q else K' (a.put ok.dst undef) w) :
    wpAnyH P .any ops Q S (fuel + 1) listed a w :=
  wpAnyH_all hr (by simp) fun i hi => by
    simp only [List.mem_cons, List.not_mem_nil, or_false] at hi
    rcases hi with rfl | rfl
    · exact wpOp_step hoj fun K' hK => hj K' fun a w hS hW => hK a w ⟨hS, hW⟩
    · exact wpOp_step hok fun K' hK => hk K' fun a w hS hW => hK a w ⟨hS, hW⟩
structure Same1 (b : Nat) (W : World) where
  w : World
  h : w.heap[b]? = W.heap[b]?
instance (b : Nat) (W : World) : Inhabited (Same1 b W) := ⟨⟨W, rfl⟩⟩
/-- A region that draws its order: chosen operations that look at no memory, or at block b, are taken first. -/
theorem wp_region_selG {P : Program} {id : Nat} {Q : Exit → Act → World → Prop} {a : Act} {w : World} {l : List Oper} (b : Nat) (ks : List Nat) (g : Nat) (hn : g + (pickOps l ks).length = l.toArray.size) (hm : P.follows .mixedOrders = true) (hs : Region.noSelect l.toArray = true)
    (hp : ((pickOps l ks).all fun x => plainOp x.2.op) = true) (hB : lexSel l.toArray (pickOps l ks) (Array.replicate l.toArray.size false) = true) (hQ : ∀ c d v a w, Q (.panic c) (a.put d v) w → Q (.panic c) a w)
    (h : ∀ W, W = w.drew → wpQuiet P l.toArray (fun w' => ∃ q : Same1 b W, w' = q.w) (fun a' => wpAnyH P .any l.toArray Q (fun w' => ∃ q : Same1 b W, w' = q.w) g (listedSel (pickOps l ks) (Array.replicate l.toArray.size false)) a' W) ((pickOps l ks).map (·.2)) a) : (Code.region id l.toArray true).wp P Q a w := by
  refine wp_region_held (S := fun w' => ∃ q : Same1 b w.drew, w' = q.w) hm ?_
  have H := wpAnyH_sel (S := fun w' => ∃ q : Same1 b w.drew, w' = q.w) (g := g) (w := w.drew) hs hQ ⟨⟨_, rfl⟩, rfl⟩ (pickOps l ks) (Array.replicate l.toArray.size false) a (pickOps_ok l ks) hp hB (h w.drew rfl)
  rw [hn] at H
  exact H
end Go.Proofs.Ytgpjelcihmbiiaa
