/- The reference's writer: its fields in memory, regions that write, bytes. No condition. -/
import Derived.Test.YtailaenkmknpiaaRSt
import Derived.Maps.AppendAt
namespace Go.Proofs.Ytailaenkmknpiaa
open Go.RowKit Go.Sort
set_option linter.unusedVariables false
set_option linter.unusedSimpArgs false
set_option maxRecDepth 100000

section
variable {P : Program} {ops : Array Oper}
theorem stg_here {c : Nat} {W W0 : World} {post : List (Nat × World)} {L : Array Bool} : ∀ (pre : List (Nat × World)), (∀ p ∈ pre, L.getD p.1 false = false) → L.getD c false = true → stg (pre ++ (c, W) :: post) W0 L = W
  | [], _, hc => by
    show stg ((c, W) :: post) W0 L = W
    unfold stg
    rw [if_pos hc]
  | p :: r, h, hc => by
    show stg (p :: (r ++ (c, W) :: post)) W0 L = W
    unfold stg
    rw [if_neg (by rw [h p (by simp)]; decide)]
    exact stg_here r (fun q hq => h q (List.mem_cons_of_mem _ hq)) hc
theorem stg_first {W0 : World} {L : Array Bool} : ∀ (js : List (Nat × World)), (∀ p ∈ js, L.getD p.1 false = false) → stg js W0 L = W0
  | [], _ => rfl
  | p :: r, h => by
    unfold stg
    rw [if_neg (by rw [h p (by simp)]; decide)]
    exact stg_first r fun q hq => h q (List.mem_cons_of_mem _ hq)
/-- A step: an operation that loads one cell. -/
theorem stage_load {Q : Act → Prop} {o : Oper} {l : List Oper} {k : Nat} {a : Act} {js : List (Nat × World)} {W0 : World} (p : Addr) (v : Value) (hw : Region.wanted o (yielded ops a.tmps) = true) (hk : ∀ q ∈ js, k ≠ q.1)
    (hF : ∀ L, k ∈ Region.ready .any ops L → Closed ops L → (stg js W0 L).cell? p = some v) (hr : ∀ w : World, w.cell? p = some v → (execOp a.eval o).run P w = .ok (.value v) w) (h : wpStage P ops (stg js W0) Q l (k + 1) (a.put o.dst v)) : wpStage P ops (stg js W0) Q (o :: l) k a :=
  stage_write v hw (fun L h1 h2 => by rw [hr _ (hF L h1 h2), stg_ne js W0 L hk]) h
/-- A step: the write number c of the stages. -/
theorem stage_to {Q : Act → Prop} {o : Oper} {l : List Oper} {k : Nat} {a : Act} {pre post : List (Nat × World)} {W W' W0 : World} (v : Value) (hw : Region.wanted o (yielded ops a.tmps) = true)
    (hpre : ∀ L, k ∈ Region.ready .any ops L → Closed ops L → ∀ p ∈ pre, L.getD p.1 false = false) (hne : ∀ p ∈ pre, k ≠ p.1) (hat : ∀ L, k ∈ Region.ready .any ops L → Closed ops L → stg (pre ++ (k, W') :: post) W0 L = W)
    (hr : (execOp a.eval o).run P W = .ok (.value v) W') (h : wpStage P ops (stg (pre ++ (k, W') :: post) W0) Q l (k + 1) (a.put o.dst v)) : wpStage P ops (stg (pre ++ (k, W') :: post) W0) Q (o :: l) k a :=
  stage_write v hw (fun L h1 h2 => by
    rw [hat L h1 h2, hr, stg_here pre (fun p hp => by rw [getD_set_ne false (hne p hp)]; exact hpre L h1 h2 p hp) (set_yes (ready_not h1).2)]) h
theorem stage_toS {Q : Act → Prop} {o : Oper} {l : List Oper} {k : Nat} {a : Act} {pre post : List (Nat × World)} {W W' W0 : World} (hw : Region.wanted o (yielded ops a.tmps) = true)
    (hpre : ∀ L, k ∈ Region.ready .any ops L → Closed ops L → ∀ p ∈ pre, L.getD p.1 false = false) (hne : ∀ p ∈ pre, k ≠ p.1) (hat : ∀ L, k ∈ Region.ready .any ops L → Closed ops L → stg (pre ++ (k, W') :: post) W0 L = W)
    (hr : (execOp a.eval o).run P W = .ok .skip W') (h : wpStage P ops (stg (pre ++ (k, W') :: post) W0) Q l (k + 1) (a.put o.dst undef)) : wpStage P ops (stg (pre ++ (k, W') :: post) W0) Q (o :: l) k a :=
  stage_skip hw (fun L h1 h2 => by
    rw [hat L h1 h2, hr, stg_here pre (fun p hp => by rw [getD_set_ne false (hne p hp)]; exact hpre L h1 h2 p hp) (set_yes (ready_not h1).2)]) h
/-- A step: an operation that looks at no memory. -/
theorem stage_pure {Q : Act → Prop} {o : Oper} {l : List Oper} {k : Nat} {a : Act} {js : List (Nat × World)} {W0 : World} (hk : ∀ q ∈ js, k ≠ q.1)
    (h : ∀ K : Act → Prop, (∀ a, wpStage P ops (stg js W0) Q l (k + 1) a → K a) → if Region.wanted o (yielded ops a.tmps) then calm P (fun w : World => w) o a K else K (a.put o.dst undef)) : wpStage P ops (stg js W0) Q (o :: l) k a :=
  stage_calm hk fun K hK => by
    have h' := h K hK
    split
    · next hw =>
      rw [if_pos hw] at h'
      obtain ⟨v, h1, h2⟩ := h'
      exact ⟨v, fun x => h1 _, h2⟩
    · next hw =>
      rw [if_neg hw] at h'
      exact h'
/-- What waits for what has not been has not been. -/
theorem not_yet {L : Array Bool} {k : Nat} (h : k ∈ Region.ready .any ops L) {j : Nat} (hj : L.getD j false = true → L.getD k false = true) : L.getD j false = false := by
  cases e : L.getD j false with
  | false => rfl
  | true =>
    have := hj e
    rw [(ready_not h).1] at this
    cases this
end
/-- The reference's writer: its limit, its bytes and where they lie, its open marks and where they lie. -/
structure WR where
  lim : Nat
  xs : List Int
  v : Value
  ms : List Int
  vm : Value
def WR.cells (W : WR) : List Value := [W.v, .int .i64 W.lim, W.vm]
/-- A row of ints of its own. -/
def IRow (B : Nat) (w : World) (v : Value) (ms : List Int) : Prop := w.ownsRow B 3 1 v ms.length (ms.map (Value.int .i64))
def Rwt (w : World) (b : Nat) (W : WR) : Prop := (Blk w b 49 W.cells ∧ DatB (b + 1) w W.v W.xs ∧ IRow (b + 1) w W.vm W.ms) ∧ Oct W.xs ∧ W.xs.length ≤ W.lim ∧ W.lim ≤ 65536
theorem IRow.keep {B : Nat} {w w' : World} {v : Value} {l : List Int} (h : IRow B w v l) (k : ∀ g, v.ownBlock = some g → w'.heap[g]? = w.heap[g]?) : IRow B w' v l := by
  obtain ⟨h1, ⟨hv, hn⟩ | ⟨g, cap, cur, hv, hb, hg, r⟩⟩ := h
  · exact ⟨h1, .inl ⟨hv, hn⟩⟩
  · exact ⟨h1, .inr ⟨g, cap, cur, hv, hb, (k g (by rw [hv]; rfl)).trans hg, r⟩⟩
theorem DatB.keepB {B : Nat} {w w' : World} {v : Value} {xs : List Int} (h : DatB B w v xs) (k : ∀ g, v.ownBlock = some g → w'.heap[g]? = w.heap[g]?) : DatB B w' v xs := by
  obtain ⟨h1, ⟨hv, hn⟩ | ⟨g, cap, cur, hv, hb, hg, r⟩⟩ := h
  · exact ⟨h1, .inl ⟨hv, hn⟩⟩
  · exact ⟨h1, .inr ⟨g, cap, cur, hv, hb, (k g (by rw [hv]; rfl)).trans hg, r⟩⟩
theorem IRow.shape {B : Nat} {w : World} {v : Value} {l : List Int} (h : IRow B w v l) : ∃ a c, v = .slice a l.length c := by
  obtain ⟨h1, ⟨hv, hn⟩ | ⟨g, cap, cur, hv, r⟩⟩ := h
  · exact ⟨none, 0, by rw [hv, hn]⟩
  · exact ⟨_, _, hv⟩
theorem IRow.ty {B : Nat} {w : World} {v : Value} {l : List Int} (h : IRow B w v l) {g : Nat} (hg : v.ownBlock = some g) : ∃ cs, Blk w g 3 cs := by
  obtain ⟨h1, ⟨hv, hn⟩ | ⟨g', cap, cur, hv, hb, hh, r⟩⟩ := h
  · rw [hv] at hg
    simp [Value.ownBlock] at hg
  · rw [hv] at hg
    simp only [Value.ownBlock, Option.some.injEq] at hg
    subst hg
    exact ⟨cur.toList, by unfold Blk; simpa using hh⟩
theorem DatB.ty {B : Nat} {w : World} {v : Value} {l : List Int} (h : DatB B w v l) {g : Nat} (hg : v.ownBlock = some g) : ∃ cs, Blk w g 5 cs := by
  obtain ⟨h1, ⟨hv, hn⟩ | ⟨g', cap, cur, hv, hb, hh, r⟩⟩ := h
  · rw [hv] at hg
    simp [Value.ownBlock] at hg
  · rw [hv] at hg
    simp only [Value.ownBlock, Option.some.injEq] at hg
    subst hg
    exact ⟨cur.toList, by unfold Blk; simpa using hh⟩
theorem Rwt.below {w w' : World} {b : Nat} {W : WR} (h : Rwt w b W) (k : Below w.heap.size w w') : Rwt w' b W :=
  ⟨⟨h.1.1.below k h.1.1.lt, h.1.2.1.keepB fun g hg => k.block g (World.ownsRow.lt h.1.2.1 g hg).2, h.1.2.2.keep fun g hg => k.block g (World.ownsRow.lt h.1.2.2 g hg).2⟩, h.2⟩
/-- Only the blocks of this writer may have been written. -/
structure ButR (b : Nat) (v vm : Value) (w w' : World) : Prop where
  os : w'.os = w.os
  tape : w'.tape = w.tape
  output : w'.output = w.output
  size : w.heap.size ≤ w'.heap.size
  block : ∀ k, k < w.heap.size → k ≠ b → some k ≠ v.ownBlock → some k ≠ vm.ownBlock → w'.heap[k]? = w.heap[k]?
theorem ButR.of_below {b : Nat} {v vm : Value} {w w' : World} (h : Below w.heap.size w w') : ButR b v vm w w' := ⟨h.os, h.tape, h.output, h.size, fun k hk _ _ _ => h.block k hk⟩
/-- The slice lies where it lay, or in new memory. -/
def Moved (w : World) (v v' : Value) : Prop := v'.ownBlock = v.ownBlock ∨ ∀ g, v'.ownBlock = some g → w.heap.size ≤ g
theorem Moved.refl (w : World) (v : Value) : Moved w v v := .inl rfl
theorem ButR.trans {b : Nat} {v vm v' vm' : Value} {x y z : World} (h : ButR b v vm x y) (k : ButR b v' vm' y z) (m1 : Moved x v v') (m2 : Moved x vm vm') : ButR b v vm x z :=
  ⟨k.os.trans h.os, k.tape.trans h.tape, k.output.trans h.output, Nat.le_trans h.size k.size, fun i hi h1 h2 h3 => (k.block i (Nat.lt_of_lt_of_le hi h.size) h1 (fun e => by
      rcases m1 with q | q
      · exact h2 (e.trans q)
      · have := q i e.symm; omega) (fun e => by
      rcases m2 with q | q
      · exact h3 (e.trans q)
      · have := q i e.symm; omega)).trans (h.block i hi h1 h2 h3)⟩
theorem Moved.trans {x y : World} {v v' v'' : Value} (h : Moved x v v') (k : Moved y v' v'') (hs : x.heap.size ≤ y.heap.size) : Moved x v v'' := by
  rcases k with q | q
  · rcases h with p | p
    · exact .inl (q.trans p)
    · exact .inr fun g hg => p g (by rw [← q]; exact hg)
  · exact .inr fun g hg => Nat.le_trans hs (q g hg)
/-- Octets appended. -/
theorem append_anyM (w : World) (ty : TypeId) (B : Nat) (v u : Value) (ys zs : List Int) (hv : DatB B w v ys) (hu : Seg w u zs) (hB : B ≤ w.heap.size) (hl : ys.length + zs.length ≤ 1099511627776) :
    ∃ v' w', (Builtin.append_ #[33, 33] ty #[v, u]).run Try.prog w = .ok v' w' ∧ DatB B w' v' (ys ++ zs) ∧ w.grownBy w' v.ownBlock ∧ Moved w v v' := by
  obtain ⟨i, hi, hz, hs, hb⟩ := info_u8
  obtain ⟨a, c, rfl, hc, hx⟩ := hu
  cases a with
  | none =>
    have h0 : zs = [] := by
      rcases zs with _ | ⟨x, r⟩
      · rfl
      · obtain ⟨b, o, e, _⟩ := hx 0 (by simp)
        cases e
    subst h0
    exact ⟨v, w, append_none w ty B c v ys hv, by rw [List.append_nil]; exact hv, ⟨rfl, rfl, rfl, Nat.le_refl _, fun _ _ _ => rfl⟩, Moved.refl _ _⟩
  | some p =>
    obtain ⟨v', w', hr, ho, hgr, -, hm⟩ := run_append_own_at (P := Try.prog) w B 33 ty 5 i (.int .u8 0) 1 1 Try.underlying33 hi hz hs hb rfl (by decide) v ys.length _ hv p zs.length c (zs.map (Value.int .u8)) (by simp) (fun j u hu => by
      have hj : j < zs.length := by
        rcases Nat.lt_or_ge j zs.length with q | q
        · exact q
        · rw [List.getElem?_eq_none (by simpa using q)] at hu
          cases hu
      obtain ⟨b, o, e, hcell⟩ := hx j hj
      obtain rfl := Option.some.inj e
      rw [add_is, hcell, ← hu]
      simp [List.getD_eq_getElem?_getD, hj]) (by simp [Value.oneCell']) (by unfold maxLen; omega) (by omega) hB
    refine ⟨v', w', hr, ?_, hgr, hm.imp id fun q g hg => ?_⟩
    · unfold DatB
      rw [List.length_append, List.map_append]
      exact ho
    · rw [q] at hg
      simp at hg
      omega
theorem info_int : ∃ i, Try.prog.info? 3 = some i ∧ i.zero = some (.int .i64 0) ∧ i.size = 1 ∧ i.bytes = 8 :=
  info_parts (show (Try.prog.info? 3).map (fun i => (i.zero, i.size, i.bytes)) = some (some (.int .i64 0), 1, 8) by kernel_rfl)
/-- Ints appended. -/
theorem append_ints (w : World) (ty : TypeId) (B : Nat) (v : Value) (l m : List Int) (a : Addr) (c : Nat) (h : IRow B w v l) (hm : ∀ j u, (m.map (Value.int .i64))[j]? = some u → w.cell? (a.add j) = some u) (hB : B ≤ w.heap.size) (hl : l.length + m.length ≤ 1000000) :
    ∃ v' w', (Builtin.append_ #[39, 39] ty #[v, .slice (some a) m.length c]).run Try.prog w = .ok v' w' ∧ IRow B w' v' (l ++ m) ∧ w.grownBy w' v.ownBlock ∧ Moved w v v' := by
  obtain ⟨i, hi, hz, hs, hb⟩ := info_int
  obtain ⟨v', w', hr, ho, hgr, -, hmv⟩ := run_append_own_at (P := Try.prog) w B 39 ty 3 i (.int .i64 0) 1 8 Try.underlying39 hi hz hs hb rfl (by decide) v l.length _ h a m.length c (m.map (Value.int .i64)) (by simp) hm (by simp [Value.oneCell']) (by unfold maxLen; omega) (by omega) hB
  refine ⟨v', w', hr, ?_, hgr, hmv.imp id fun q g hg => ?_⟩
  · unfold IRow
    rw [List.length_append, List.map_append]
    exact ho
  · rw [q] at hg
    simp at hg
    omega
theorem DatB.other {B : Nat} {w w' : World} {v : Value} {xs : List Int} {o : Option Nat} (h : DatB B w v xs) (hg : w.grownBy w' o) (hne : ∀ g, v.ownBlock = some g → some g ≠ o) : DatB B w' v xs := h.keepB fun g e => hg.block g (World.ownsRow.lt h g e).2 (hne g e)
theorem IRow.other {B : Nat} {w w' : World} {v : Value} {xs : List Int} {o : Option Nat} (h : IRow B w v xs) (hg : w.grownBy w' o) (hne : ∀ g, v.ownBlock = some g → some g ≠ o) : IRow B w' v xs := h.keep fun g e => hg.block g (World.ownsRow.lt h g e).2 (hne g e)
/-- The two rows of a writer lie apart. -/
theorem rows_ne {B C : Nat} {w : World} {v vm : Value} {xs ms : List Int} (h : DatB B w v xs) (k : IRow C w vm ms) : (∀ g, v.ownBlock = some g → some g ≠ vm.ownBlock) ∧ (∀ g, vm.ownBlock = some g → some g ≠ v.ownBlock) := by
  have A : ∀ g, v.ownBlock = some g → vm.ownBlock = some g → False := fun g h1 h2 => by
    obtain ⟨cs, hc⟩ := h.ty h1
    obtain ⟨ds, hd⟩ := k.ty h2
    exact hc.ne hd (by decide) rfl
  exact ⟨fun g h1 e => A g h1 e.symm, fun g h1 e => A g e.symm h1⟩
theorem grown_cell {w : World} {b : Nat} {t : TypeId} {cs : List Value} (o : Nat) (u : Value) : w.grownBy (w.setCell ⟨b, o, none⟩ u) (some b) := ⟨rfl, rfl, rfl, by simp [World.setCell], fun k hk hn => Below.heap_setCell _ _ _ _ (fun e => hn (by rw [e]))⟩
/-- Behind octets that were appended and stored. -/
theorem Rwt.grow {w w1 : World} {b : Nat} {W : WR} {ys : List Int} {v' : Value} (h : Rwt w b W) (hg : w.grownBy w1 W.v.ownBlock) (hd : DatB (b + 1) w1 v' (W.xs ++ ys)) (hm : Moved w W.v v') (ho : Oct ys) (hl : W.xs.length + ys.length ≤ W.lim) :
    Blk w1 b 49 W.cells ∧ Rwt (w1.setCell ⟨b, 0, none⟩ v') b { W with xs := W.xs ++ ys, v := v' } ∧ ButR b W.v W.vm w (w1.setCell ⟨b, 0, none⟩ v') := by
  obtain ⟨⟨hb, hv, hvm⟩, o1, l1, l2⟩ := h
  have nb : ∀ {B : Nat} {x : Value} {l : List Int}, DatB (b + 1) w x l → some b ≠ x.ownBlock := fun hx e => by
    have := (World.ownsRow.lt hx b e.symm).1
    omega
  have hb1 : Blk w1 b 49 W.cells := (hg.block b hb.lt (nb (B := 0) hv)).trans hb
  have hvm1 : IRow (b + 1) w1 W.vm W.ms := hvm.other hg fun g e => (rows_ne hv hvm).2 g e
  have gs := grown_cell (w := w1) (b := b) (t := 0) (cs := []) 0 v'
  refine ⟨hb1, ⟨⟨hb1.set 0 v', hd.other gs fun g e q => ?_, hvm1.other gs fun g e q => ?_⟩, fun x hx => ?_, by show (W.xs ++ ys).length ≤ W.lim; rw [List.length_append]; exact hl, l2⟩, ⟨hg.os, hg.tape, hg.output, by simpa [World.setCell] using hg.size, fun k hk h1 h2 h3 => (gs.block k (Nat.lt_of_lt_of_le hk hg.size) (fun e => h1 (Option.some.inj e))).trans (hg.block k hk h2)⟩⟩
  · have := (World.ownsRow.lt hd g e).1
    have : g = b := Option.some.inj q
    omega
  · have := (World.ownsRow.lt hvm1 g e).1
    have : g = b := Option.some.inj q
    omega
  · rcases List.mem_append.1 hx with hx | hx
    · exact o1 x hx
    · exact ho x hx

/-- What a call that appends does. -/
def PutR (b : Nat) (W : WR) (r : Int) (ys : List Int) (w : World) (e : Ending) (w' : World) : Prop :=
  e = .returned (.int .i64 r) ∧ ((r ≠ 0 ∧ Below w.heap.size w w') ∨ (r = 0 ∧ ∃ v', Rwt w' b { W with xs := W.xs ++ ys, v := v' } ∧ ButR b W.v W.vm w w' ∧ Moved w W.v v'))

set_option maxHeartbeats 1000000 in
theorem rw_Bytes (w : World) (b : Nat) (W : WR) (u : Value) (ys : List Int) (h : Rwt w b W) (hu : Seg w u ys) (ho : Oct ys) (hl : ys.length ≤ 1000000) :
    Calls Try.prog 15 #[.pointer (some ⟨b, 0, none⟩), u] w fun e w' => PutR b W (if W.lim < W.xs.length + ys.length then 7 else 0) ys w e w' := by
  have h0 := h
  obtain ⟨⟨hb, hv, hvm⟩, o1, l1, l2⟩ := h
  obtain ⟨av, cv, hve⟩ := hv.dat.shape
  obtain ⟨a, c, hue⟩ : ∃ a c, u = .slice a ys.length c := by obtain ⟨a, c, e, -⟩ := hu; exact ⟨a, c, e⟩
  have c0 := hb.cell 0 (v := W.v) rfl
  have c1 := hb.cell 1 (v := .int .i64 W.lim) rfl
  rw [hve] at c0
  by_cases hf : W.lim < W.xs.length + ys.length
  · rw [if_pos hf]
    have b1 : decide ((W.lim : Int) - W.xs.length < ys.length) = true := by simp; omega
    subst hue
    clear hb hv hvm hve h0 hu
    go_enter Try.func15, Try.ntmps15
    go_wp2
    go_quiet (fail)
    go_wp2
    go_ret
    exact ⟨rfl, .inl ⟨by decide, below_drewN _ _ _⟩⟩
  · rw [if_neg hf]
    have b1 : decide ((W.lim : Int) - W.xs.length < ys.length) = false := by simp; omega
    obtain ⟨lim, xs, v, ms, vm⟩ := W
    dsimp only at *
    subst hve hue
    have key : ∀ n, ∃ v' w1, (Builtin.append_ #[33, 33] 33 #[.slice av xs.length cv, .slice a ys.length c]).run Try.prog (w.drewN n) = .ok v' w1 ∧ Blk w1 b 49 (WR.cells ⟨lim, xs, .slice av xs.length cv, ms, vm⟩) ∧ Rwt (w1.setCell ⟨b, 0, none⟩ v') b ⟨lim, xs ++ ys, v', ms, vm⟩ ∧ ButR b (.slice av xs.length cv) vm w (w1.setCell ⟨b, 0, none⟩ v') ∧ Moved w (.slice av xs.length cv) v' := fun n => by
      have hn := h0.below (below_drewN w.heap.size w n)
      obtain ⟨v', w1, hr, hd, hg, hm⟩ := append_anyM (w.drewN n) 33 (b + 1) _ _ _ _ hn.1.2.1 (hu.below (below_drewN w.heap.size w n)) hn.1.1.lt (by show xs.length + ys.length ≤ 1099511627776; omega)
      obtain ⟨g1, g2, g3⟩ := hn.grow hg hd hm ho (by show xs.length + ys.length ≤ lim; omega)
      exact ⟨v', w1, hr, g1, g2, ⟨g3.os, g3.tape, g3.output, g3.size, g3.block⟩, hm⟩
    clear hb hv hvm h0 hu
    go_enter Try.func15, Try.ntmps15
    go_wp2
    go_quiet (fail)
    obtain ⟨v', w1, hr, g1, g2, g3, hm⟩ := key nq
    have d0 := g1.cell 0 (v := .slice av xs.length cv) rfl
    have f0 := g1.frozen 0
    obtain ⟨a', n', c', hv'⟩ : ∃ a n c, v' = .slice a n c := by obtain ⟨a, c, e⟩ := g2.1.2.1.dat.shape; exact ⟨a, _, c, e⟩
    subst hv'
    clear key
    go_wp2_with (at_builtin; refine Lib.wpList_append_run _ rfl (.tmp 22) (.tmp 23) 33 33 rfl _ _ rfl rfl _ _ hr ?_)
    go_ret
    exact ⟨rfl, .inr ⟨rfl, _, g2, g3, hm⟩⟩
end Go.Proofs.Ytailaenkmknpiaa
