/- WireBack: the rows, the writer's state beside them, and the region that appends to both. No condition. -/
import Derived.Test.YtlkobpmbecljkabWMx
import Derived.Test.YtlkobpmbecljkabWPt
import Derived.Test.YtlkobpmbecljkabWFl
import Derived.Test.YtlkobpmbecljkabWNm
namespace Go.Proofs.Ytlkobpmbecljkab
open Go.RowKit Go.Maps Go.MapKept
set_option linter.unusedVariables false
set_option linter.unusedSimpArgs false
set_option maxRecDepth 100000

theorem sz_le (k : Nat) : 1 ≤ sz k ∧ sz k ≤ 8 := by
  unfold sz
  split <;> decide
/-- The octets of numbers with their sizes. -/
def flat (ns : List (Nat × Nat)) : List Int := ns.flatMap fun p => enc (sz p.1) p.2
theorem flat_length (ns : List (Nat × Nat)) : (flat ns).length ≤ 8 * ns.length := by
  induction ns with
  | nil => simp [flat]
  | cons p r ih =>
    have h := (sz_le p.1).2
    simp only [flat, List.flatMap_cons, List.length_append, enc_length, List.length_cons] at ih ⊢
    omega
theorem flat_snoc (ns : List (Nat × Nat)) (p : Nat × Nat) : flat (ns ++ [p]) = flat ns ++ enc (sz p.1) p.2 := by simp [flat]

/-- A row of cells that lies from block B on. -/
def Rw (B : Nat) (w : World) (t : TypeId) (v : Value) (l : List Value) : Prop := w.ownsRow B t 1 v l.length l
theorem Rw.keep {B : Nat} {w w' : World} {t : TypeId} {v : Value} {l : List Value} (h : Rw B w t v l) (k : ∀ g, v.ownBlock = some g → w'.heap[g]? = w.heap[g]?) : Rw B w' t v l := by
  obtain ⟨h1, ⟨hv, hn⟩ | ⟨g, cap, cur, hv, hb, hg, r⟩⟩ := h
  · exact ⟨h1, .inl ⟨hv, hn⟩⟩
  · exact ⟨h1, .inr ⟨g, cap, cur, hv, hb, (k g (by rw [hv]; rfl)).trans hg, r⟩⟩
theorem Rw.lt {B : Nat} {w : World} {t : TypeId} {v : Value} {l : List Value} (h : Rw B w t v l) : ∀ g, v.ownBlock = some g → B ≤ g ∧ g < w.heap.size := World.ownsRow.lt h
theorem Rw.below {B : Nat} {w w' : World} {t : TypeId} {v : Value} {l : List Value} (h : Rw B w t v l) (k : Below w.heap.size w w') : Rw B w' t v l := h.keep fun g hg => k.block g (h.lt g hg).2
theorem Rw.blk {B : Nat} {w : World} {t : TypeId} {v : Value} {l : List Value} (h : Rw B w t v l) {g : Nat} (hg : v.ownBlock = some g) : ∃ cs, Blk w g t cs := by
  obtain ⟨h1, ⟨hv, hn⟩ | ⟨g', cap, cur, hv, hb, hh, r⟩⟩ := h
  · rw [hv] at hg
    simp [Value.ownBlock] at hg
  · rw [hv] at hg
    simp only [Value.ownBlock, Option.some.injEq] at hg
    subst hg
    exact ⟨cur.toList, by unfold Blk; simpa using hh⟩
theorem Rw.ne {B : Nat} {w : World} {t u : TypeId} {v : Value} {l cs : List Value} {b : Nat} (h : Rw B w t v l) (hb : Blk w b u cs) (ht : t ≠ u) : some b ≠ v.ownBlock := fun e => by
  obtain ⟨ds, hd⟩ := h.blk e.symm
  exact hd.ne hb ht rfl
theorem Rw.grown {B B' : Nat} {w w' : World} {t u : TypeId} {v x : Value} {l l' : List Value} (h : Rw B w t v l) (hx : Rw B' w u x l') (ht : u ≠ t) (hg : w.grownBy w' x.ownBlock) : Rw B w' t v l :=
  h.keep fun g e => by
    obtain ⟨cs, hb⟩ := h.blk e
    exact hg.block g (h.lt g e).2 (hx.ne hb ht)

/-- The writer, its marks, and where they lie, when ns have been written. -/
def Bk (w0 : World) (b mb : Nat) (D : DataW Unit) (ns : List (Nat × Nat)) (v : Value) (wr : World) : Prop := Wtr wr b ⟨65536, [0, 0] ++ flat ns, v, mb⟩ ∧ Mks wr mb 1 D ∧ Own w0.heap.size b v ∧ Below w0.heap.size w0 wr
theorem Bk.below {w0 w w' : World} {b mb : Nat} {D : DataW Unit} {ns : List (Nat × Nat)} {v : Value} (h : Bk w0 b mb D ns v w) (k : Below w.heap.size w w') : Bk w0 b mb D ns v w' :=
  ⟨h.1.below k, h.2.1.below k, h.2.2.1, h.2.2.2.trans (k.mono h.2.2.2.size)⟩
theorem Bk.grown {w0 w w' : World} {b mb : Nat} {D : DataW Unit} {ns : List (Nat × Nat)} {v x : Value} {u : TypeId} {l : List Value} (h : Bk w0 b mb D ns v w) (hx : Rw w0.heap.size w u x l) (h1 : u ≠ 78) (h2 : u ≠ 5) (hg : w.grownBy w' x.ownBlock) : Bk w0 b mb D ns v w' := by
  obtain ⟨⟨hb, hd, r⟩, hm, ho, hB⟩ := h
  refine ⟨⟨(hg.block b hb.lt (hx.ne hb h1)).trans hb, ?_, r⟩, mks_kept hm (hg.block _ hm.lt fun e => ?_), ho, hB.grown hg hB.size fun k hk => (hx.lt k hk).1⟩
  · have hd' : Rw 0 w 5 v (([0, 0] ++ flat ns).map (Value.int .u8)) := by
      unfold Rw
      rw [List.length_map]
      exact hd
    have := hd'.grown hx h2 hg
    unfold Rw at this
    rw [List.length_map] at this
    exact this
  · obtain ⟨cs, hbk⟩ := hx.blk e.symm
    exact mks_ne hm hbk rfl
theorem Rw.butW {B b : Nat} {w w' : World} {t : TypeId} {v : Value} {l : List Value} {W : WS} (h : Rw B w t v l) (hw : Wtr w b W) (h1 : t ≠ 78) (h2 : t ≠ 5) (k : ButW b W.v w w') : Rw B w' t v l :=
  h.keep fun g e => by
    obtain ⟨cs, hb⟩ := h.blk e
    exact k.block g hb.lt (hb.ne hw.1 h1) (hw.2.1.own_ne hb h2)
/-- Behind a number that has been written. -/
theorem Bk.put {w0 w w' : World} {b mb : Nat} {D : DataW Unit} {ns : List (Nat × Nat)} {v v' : Value} (h : Bk w0 b mb D ns v w) (p : Nat × Nat) (hw : Wtr w' b ⟨65536, ([0, 0] ++ flat ns) ++ enc (sz p.1) p.2, v', mb⟩) (k : ButW b v w w') (ho : v'.ownBlock = v.ownBlock ∨ ∀ g, v'.ownBlock = some g → w.heap.size ≤ g) :
    Bk w0 b mb D (ns ++ [p]) v' w' := by
  refine ⟨?_, h.2.1.butW h.1 k, h.2.2.1.next h.2.2.2.size ho, k.below h.2.2.2 h.2.2.1.1 h.2.2.1.2 h.2.2.2.size⟩
  rw [flat_snoc, ← List.append_assoc]
  exact hw

theorem info_int : ∃ i, Try.prog.info? 3 = some i ∧ i.zero = some (.int .i64 0) ∧ i.size = 1 ∧ i.bytes = 8 :=
  info_parts (show (Try.prog.info? 3).map (fun i => (i.zero, i.size, i.bytes)) = some (some (.int .i64 0), 1, 8) by kernel_rfl)
theorem info_u64 : ∃ i, Try.prog.info? 30 = some i ∧ i.zero = some (.int .u64 0) ∧ i.size = 1 ∧ i.bytes = 8 :=
  info_parts (show (Try.prog.info? 30).map (fun i => (i.zero, i.size, i.bytes)) = some (some (.int .u64 0), 1, 8) by kernel_rfl)
theorem append_int (w : World) (ty : TypeId) (B : Nat) (v : Value) (l : List Value) (c : Value) (g : Nat) (h : Rw B w 3 v l) (hg : Blk w g 3 [c]) (hc : c.oneCell' = true) (hB : B ≤ w.heap.size) (hl : l.length ≤ 1000000) :
    ∃ v' w', (Builtin.append_ #[55, 55] ty #[v, .slice (some ⟨g, 0, none⟩) 1 1]).run Try.prog w = .ok v' w' ∧ Rw B w' 3 v' (l ++ [c]) ∧ w.grownBy w' v.ownBlock := by
  obtain ⟨i, hi, hz, hs, hb⟩ := info_int
  obtain ⟨v', w', hr, ho, hgr, -⟩ := run_append_own (P := Try.prog) w B 55 ty 3 i (.int .i64 0) 1 8 Try.underlying55 hi hz hs hb rfl (by decide) v l.length l h ⟨g, 0, none⟩ 1 1 [c] (by simp) (fun j u hu => by
    match j, hu with
    | 0, hu => exact hg.cell 0 hu) (by simpa using hc) (by unfold maxLen; omega) (by omega) hB
  refine ⟨v', w', hr, ?_, hgr⟩
  unfold Rw
  rw [List.length_append]
  exact ho
theorem append_u64 (w : World) (ty : TypeId) (B : Nat) (v : Value) (l : List Value) (c : Value) (g : Nat) (h : Rw B w 30 v l) (hg : Blk w g 30 [c]) (hc : c.oneCell' = true) (hB : B ≤ w.heap.size) (hl : l.length ≤ 1000000) :
    ∃ v' w', (Builtin.append_ #[73, 73] ty #[v, .slice (some ⟨g, 0, none⟩) 1 1]).run Try.prog w = .ok v' w' ∧ Rw B w' 30 v' (l ++ [c]) ∧ w.grownBy w' v.ownBlock := by
  obtain ⟨i, hi, hz, hs, hb⟩ := info_u64
  obtain ⟨v', w', hr, ho, hgr, -⟩ := run_append_own (P := Try.prog) w B 73 ty 30 i (.int .u64 0) 1 8 Try.underlying73 hi hz hs hb rfl (by decide) v l.length l h ⟨g, 0, none⟩ 1 1 [c] (by simp) (fun j u hu => by
    match j, hu with
    | 0, hu => exact hg.cell 0 hu) (by simpa using hc) (by unfold maxLen; omega) (by omega) hB
  refine ⟨v', w', hr, ?_, hgr⟩
  unfold Rw
  rw [List.length_append]
  exact ho

/-- The class of the region that appends to both rows: which of its operations have been. -/
def Cl (w0 : World) (b mb : Nat) (D : DataW Unit) (ns : List (Nat × Nat)) (v vk vn : Value) (lk ln : List Value) (ck cn : Value) (x : Found) (L : Array Bool) (w : World) : Prop :=
  Bk w0 b mb D ns v w ∧
  (if L.getD 3 false = true then Rw w0.heap.size w 3 (x 3) (lk ++ [ck]) else Rw w0.heap.size w 3 vk lk ∧ (L.getD 2 false = true → ∃ g, x 2 = .slice (some ⟨g, 0, none⟩) 1 1 ∧ Blk w g 3 [ck])) ∧
  (if L.getD 11 false = true then Rw w0.heap.size w 30 (x 11) (ln ++ [cn]) else Rw w0.heap.size w 30 vn ln ∧ (L.getD 10 false = true → ∃ g, x 10 = .slice (some ⟨g, 0, none⟩) 1 1 ∧ Blk w g 30 [cn]))
section
variable {w0 w w' : World} {b mb : Nat} {D : DataW Unit} {ns : List (Nat × Nat)} {v vk vn ck cn : Value} {lk ln : List Value} {x : Found} {L : Array Bool}
theorem Cl.loc {fr : Nat → Bool} (hf : fr 2 = true ∧ fr 3 = true ∧ fr 10 = true ∧ fr 11 = true) (y : Found) (ha : Agree fr L x y) (h : Cl w0 b mb D ns v vk vn lk ln ck cn x L w) : Cl w0 b mb D ns v vk vn lk ln ck cn y L w := by
  obtain ⟨h1, h2, h3⟩ := h
  refine ⟨h1, ?_, ?_⟩
  · split
    · next e =>
      rw [if_pos e] at h2
      rw [← ha 3 hf.2.1 e]
      exact h2
    · next e =>
      rw [if_neg e] at h2
      exact ⟨h2.1, fun e2 => by rw [← ha 2 hf.1 e2]; exact h2.2 e2⟩
  · split
    · next e =>
      rw [if_pos e] at h3
      rw [← ha 11 hf.2.2.2 e]
      exact h3
    · next e =>
      rw [if_neg e] at h3
      exact ⟨h3.1, fun e2 => by rw [← ha 10 hf.2.2.1 e2]; exact h3.2 e2⟩
theorem Cl.calm (j : Nat) (hj : j ≠ 2 ∧ j ≠ 3 ∧ j ≠ 10 ∧ j ≠ 11) (h : Cl w0 b mb D ns v vk vn lk ln ck cn x L w) : Cl w0 b mb D ns v vk vn lk ln ck cn x (L.setIfInBounds j true) w := by
  unfold Cl at *
  rw [getD_set_ne false hj.1, getD_set_ne false hj.2.1, getD_set_ne false hj.2.2.1, getD_set_ne false hj.2.2.2]
  exact h
theorem Blk.grown {t u : TypeId} {g : Nat} {cs l : List Value} {x : Value} {B : Nat} (h : Blk w g t cs) (hx : Rw B w u x l) (ht : u ≠ t) (hg : w.grownBy w' x.ownBlock) : Blk w' g t cs := (hg.block g h.lt (hx.ne h ht)).trans h
theorem below_alloc (w : World) (o : Obj) : Below w.heap.size w (w.alloc o) := (Below.refl w.heap.size w).alloc (Nat.le_refl _) o
theorem Cl.lit2 (h2 : L.getD 2 false = false ∧ 2 < L.size) (h : Cl w0 b mb D ns v vk vn lk ln ck cn x L w) :
    Cl w0 b mb D ns v vk vn lk ln ck cn (x.set 2 (.slice (some ⟨w.heap.size, 0, none⟩) 1 1)) (L.setIfInBounds 2 true) (w.alloc (.cells #[ck] 3)) := by
  have k := below_alloc w (.cells #[ck] 3)
  obtain ⟨a1, a2, a3⟩ := h
  refine ⟨a1.below k, ?_, ?_⟩
  · rw [getD_set_ne false (by decide), Found.set_ne _ _ (by decide), Found.set_at]
    split
    · next e =>
      rw [if_pos e] at a2
      exact a2.below k
    · next e =>
      rw [if_neg e] at a2
      exact ⟨a2.1.below k, fun _ => ⟨_, rfl, Blk.new w 3 [ck]⟩⟩
  · rw [getD_set_ne false (by decide), getD_set_ne false (by decide), Found.set_ne _ _ (by decide), Found.set_ne _ _ (by decide)]
    split
    · next e =>
      rw [if_pos e] at a3
      exact a3.below k
    · next e =>
      rw [if_neg e] at a3
      exact ⟨a3.1.below k, fun e2 => by
        obtain ⟨g, hg, hb⟩ := a3.2 e2
        exact ⟨g, hg, hb.below k hb.lt⟩⟩
theorem Cl.lit10 (h2 : L.getD 10 false = false ∧ 10 < L.size) (h : Cl w0 b mb D ns v vk vn lk ln ck cn x L w) :
    Cl w0 b mb D ns v vk vn lk ln ck cn (x.set 10 (.slice (some ⟨w.heap.size, 0, none⟩) 1 1)) (L.setIfInBounds 10 true) (w.alloc (.cells #[cn] 30)) := by
  have k := below_alloc w (.cells #[cn] 30)
  obtain ⟨a1, a2, a3⟩ := h
  refine ⟨a1.below k, ?_, ?_⟩
  · rw [getD_set_ne false (by decide), getD_set_ne false (by decide), Found.set_ne _ _ (by decide), Found.set_ne _ _ (by decide)]
    split
    · next e =>
      rw [if_pos e] at a2
      exact a2.below k
    · next e =>
      rw [if_neg e] at a2
      exact ⟨a2.1.below k, fun e2 => by
        obtain ⟨g, hg, hb⟩ := a2.2 e2
        exact ⟨g, hg, hb.below k hb.lt⟩⟩
  · rw [getD_set_ne false (by decide), Found.set_ne _ _ (by decide), Found.set_at]
    split
    · next e =>
      rw [if_pos e] at a3
      exact a3.below k
    · next e =>
      rw [if_neg e] at a3
      exact ⟨a3.1.below k, fun _ => ⟨_, rfl, Blk.new w 30 [cn]⟩⟩
/-- The append to the kinds: what it makes, and that the class goes on. -/
theorem Cl.app3 (ty : TypeId) (hc : ck.oneCell' = true) (hl : lk.length ≤ 1000000) (h2 : L.getD 2 false = true) (h3 : L.getD 3 false = false ∧ 3 < L.size) (h : Cl w0 b mb D ns v vk vn lk ln ck cn x L w) :
    ∃ u w', (Builtin.append_ #[55, 55] ty #[vk, x 2]).run Try.prog w = .ok u w' ∧ Cl w0 b mb D ns v vk vn lk ln ck cn (x.set 3 u) (L.setIfInBounds 3 true) w' := by
  obtain ⟨a1, a2, a3⟩ := h
  rw [if_neg (by simp [h3.1])] at a2
  obtain ⟨r, g, hx, hb⟩ := And.imp_right (fun f => f h2) a2
  obtain ⟨u, w', hr, hw, hg⟩ := append_int w ty _ vk lk ck g r hb hc a1.2.2.2.size hl
  rw [hx]
  refine ⟨u, w', hr, a1.grown r (by decide) (by decide) hg, ?_, ?_⟩
  · rw [if_pos (set_yes h3.2), Found.set_at]
    exact hw
  · rw [getD_set_ne false (by decide), getD_set_ne false (by decide), Found.set_ne _ _ (by decide), Found.set_ne _ _ (by decide)]
    split
    · next e =>
      rw [if_pos e] at a3
      exact a3.grown r (by decide) hg
    · next e =>
      rw [if_neg e] at a3
      exact ⟨a3.1.grown r (by decide) hg, fun e2 => by
        obtain ⟨g', hg', hb'⟩ := a3.2 e2
        exact ⟨g', hg', hb'.grown r (by decide) hg⟩⟩
theorem Cl.app11 (ty : TypeId) (hc : cn.oneCell' = true) (hl : ln.length ≤ 1000000) (h2 : L.getD 10 false = true) (h3 : L.getD 11 false = false ∧ 11 < L.size) (h : Cl w0 b mb D ns v vk vn lk ln ck cn x L w) :
    ∃ u w', (Builtin.append_ #[73, 73] ty #[vn, x 10]).run Try.prog w = .ok u w' ∧ Cl w0 b mb D ns v vk vn lk ln ck cn (x.set 11 u) (L.setIfInBounds 11 true) w' := by
  obtain ⟨a1, a2, a3⟩ := h
  rw [if_neg (by simp [h3.1])] at a3
  obtain ⟨r, g, hx, hb⟩ := And.imp_right (fun f => f h2) a3
  obtain ⟨u, w', hr, hw, hg⟩ := append_u64 w ty _ vn ln cn g r hb hc a1.2.2.2.size hl
  rw [hx]
  refine ⟨u, w', hr, a1.grown r (by decide) (by decide) hg, ?_, ?_⟩
  · rw [getD_set_ne false (by decide), getD_set_ne false (by decide), Found.set_ne _ _ (by decide), Found.set_ne _ _ (by decide)]
    split
    · next e =>
      rw [if_pos e] at a2
      exact a2.grown r (by decide) hg
    · next e =>
      rw [if_neg e] at a2
      exact ⟨a2.1.grown r (by decide) hg, fun e2 => by
        obtain ⟨g', hg', hb'⟩ := a2.2 e2
        exact ⟨g', hg', hb'.grown r (by decide) hg⟩⟩
  · rw [if_pos (set_yes h3.2), Found.set_at]
    exact hw
/-- All has been: both rows have one more. -/
theorem Cl.done (h3 : L.getD 3 false = true) (h11 : L.getD 11 false = true) (h : Cl w0 b mb D ns v vk vn lk ln ck cn x L w) : Bk w0 b mb D ns v w ∧ Rw w0.heap.size w 3 (x 3) (lk ++ [ck]) ∧ Rw w0.heap.size w 30 (x 11) (ln ++ [cn]) := by
  obtain ⟨a1, a2, a3⟩ := h
  rw [if_pos h3] at a2
  rw [if_pos h11] at a3
  exact ⟨a1, a2, a3⟩
theorem below_drew {B : Nat} {w w' : World} (h : Below B w w') (n : Nat) : Below B w (w'.drewN n) := ⟨h.os, h.tape, h.output, h.size, h.block⟩
theorem Cl.start (n : Nat) (h1 : Bk w0 b mb D ns v w) (h2 : Rw w0.heap.size w 3 vk lk) (h3 : Rw w0.heap.size w 30 vn ln) : Cl w0 b mb D ns v vk vn lk ln ck cn x (Array.replicate n false) { w with drawn := w.drawn + 1 } := by
  have k : Below w.heap.size w { w with drawn := w.drawn + 1 } := ⟨rfl, rfl, rfl, Nat.le_refl _, fun _ _ => rfl⟩
  have e : ∀ j, ¬ (Array.replicate n false).getD j false = true := fun j => by
    simp [Array.getElem?_replicate]
    split <;> rfl
  unfold Cl
  rw [if_neg (e 3), if_neg (e 11)]
  exact ⟨h1.below k, ⟨h2.below k, fun h => absurd h (e 2)⟩, h3.below k, fun h => absurd h (e 10)⟩
theorem Cl.cell {p : Addr} {c : Value} (h : Cl w0 b mb D ns v vk vn lk ln ck cn x L w) (hp : w0.cell? p = some c) : w.cell? p = some c := (h.1.2.2.2.cell (block_lt_of_cell hp)).trans hp
end
end Go.Proofs.Ytlkobpmbecljkab
