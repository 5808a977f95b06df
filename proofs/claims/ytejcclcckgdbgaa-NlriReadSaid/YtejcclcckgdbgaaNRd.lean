/- nlri.Read. No condition. -/
import Derived.Test.YtejcclcckgdbgaaNRq
import Derived.Test.YtejcclcckgdbgaaNRs
import Derived.Test.YtejcclcckgdbgaaNPs
import Derived.Test.YtejcclcckgdbgaaNAp
import Derived.OwnWalkIn
import Derived.RangeFuncBox
import Derived.RangeFuncWrites
import Derived.Test.YtejcclcckgdbgaaCmp
namespace Go.Proofs.Ytejcclcckgdbgaa
open Go.RowKit Go.Shelf
set_option linter.unusedVariables false
set_option linter.unusedSimpArgs false
set_option maxRecDepth 100000
attribute [local go_sem] Oper.semAt_some

theorem lay_some (k : Nat) (h1 : ¬ k = 1) (h2 : ¬ k = 2) (h3 : ¬ k = 3) (h4 : ¬ k = 4) (h5 : ¬ k = 5) : lay (k : Nat) = none := by
  unfold lay
  simp only [show ¬ ((k : Nat) : Int) = 1 by omega, show ¬ ((k : Nat) : Int) = 2 by omega, show ¬ ((k : Nat) : Int) = 3 by omega, show ¬ ((k : Nat) : Int) = 4 by omega, show ¬ ((k : Nat) : Int) = 5 by omega, if_false, ↓reduceIte]
theorem route_is (xs : List Int) (ho : Oct xs) (hl : xs.length ≤ 1099511627776) (v : Value) (w : World) (h : Seg w v xs) : Calls Try.prog 34 #[v] w fun r w' => r = .returned (.tuple #[(rrO xs).v, .int .i64 (rrE xs)]) ∧ Below w.heap.size w w' := by
  by_cases hf : rrF xs = 0
  · by_cases h1 : rrK xs = 1
    · exact route_auto xs ho hl hf h1 v w h
    by_cases h2 : rrK xs = 2
    · cases A : macC (rrV xs) with
      | true => exact route_macT xs ho hl hf h2 A v w h
      | false => exact route_macF xs ho hl hf h2 A v w h
    by_cases h3 : rrK xs = 3
    · exact route_flood xs ho hl hf h3 v w h
    by_cases h4 : rrK xs = 4
    · exact route_segment xs ho hl hf h4 v w h
    by_cases h5 : rrK xs = 5
    · exact route_prefix xs ho hl hf h5 v w h
    have hy := lay_some _ h1 h2 h3 h4 h5
    have hE : rrE xs = 6 := by
      unfold rrE
      rw [if_neg (by omega), if_pos hy]
    have hO : rrO xs = NL.zero := by
      unfold rrO
      rw [hE, if_neg (by decide)]
    rw [hE, hO]
    exact route_type xs ho hl hf hy v w h
  · have hE : rrE xs = 4 := by
      unfold rrE
      rw [if_pos hf]
    have hO : rrO xs = NL.zero := by
      unfold rrO
      rw [hE, if_neg (by decide)]
    rw [hE, hO]
    exact route_short xs ho hl hf v w h

/-- A list of routes, cell by cell. -/
def flN (l : List NL) : List Value := l.flatMap NL.cs
theorem flN_len (l : List NL) : (flN l).length = l.length * 21 := by
  induction l with
  | nil => rfl
  | cons e l ih => simp only [flN, List.flatMap_cons, List.length_append, NL.cs_length, List.length_cons] at ih ⊢; omega
theorem flN_append (l m : List NL) : flN (l ++ m) = flN l ++ flN m := List.flatMap_append ..
theorem flN_one (n : NL) : flN [n] = n.cs := by simp [flN]
theorem NL.cs_one (n : NL) : ∀ u ∈ n.cs, u.oneCell' = true := by
  have h := Array.all_eq_true_iff_forall_mem.1 n.one
  exact fun u hu => h u (by simpa using hu)
def NuN (B : Nat) (w : World) (v : Value) (l : List NL) : Prop := w.ownsRow B 36 21 v l.length (flN l)
theorem NuN.nil (B : Nat) (w : World) : NuN B w (.slice none 0 0) [] := World.ownsRow_nil w _ _ _
theorem NuN.keep {B : Nat} {w w' : World} {v : Value} {l : List NL} (h : NuN B w v l) (k : ∀ g, v.ownBlock = some g → w'.heap[g]? = w.heap[g]?) : NuN B w' v l := by
  obtain ⟨h1, ⟨hv, hn⟩ | ⟨g, cap, cur, hv, hb, hg, r⟩⟩ := h
  · exact ⟨h1, .inl ⟨hv, hn⟩⟩
  · exact ⟨h1, .inr ⟨g, cap, cur, hv, hb, (k g (by rw [hv]; rfl)).trans hg, r⟩⟩
theorem NuN.below {B : Nat} {w w' : World} {v : Value} {l : List NL} (h : NuN B w v l) (k : Below w.heap.size w w') : NuN B w' v l := h.keep fun g hg => k.block g (World.ownsRow.lt h g hg).2
theorem NuN.form {B : Nat} {w : World} {v : Value} {l : List NL} (h : NuN B w v l) : ∃ a c, v = .slice a l.length c := by
  obtain ⟨h1, ⟨hv, hn⟩ | ⟨g, cap, cur, hv, hb, hg, r⟩⟩ := h
  · exact ⟨none, 0, by rw [hv, hn]⟩
  · exact ⟨_, _, hv⟩
theorem NuN.cells {B : Nat} {w : World} {v : Value} {l : List NL} (h : NuN B w v l) : ∀ g, v.ownBlock = some g → ∃ o, w.heap[g]? = some o ∧ o.isCells = true := by
  obtain ⟨h1, ⟨hv, hn⟩ | ⟨g, cap, cur, hv, hb, hg, r⟩⟩ := h
  · rw [hv]; intro g e; cases e
  · rw [hv]
    intro g' e
    cases e
    exact ⟨_, hg, rfl⟩
theorem info_nl : ∃ i, Try.prog.info? 36 = some i ∧ i.zero = some NL.zero.v ∧ i.size = 21 ∧ i.bytes ≤ 200 := by
  have h : (Try.prog.info? 36).map (fun i => (i.zero, i.size, decide (i.bytes ≤ 200))) = some (some NL.zero.v, 21, true) := by kernel_rfl
  cases hq : Try.prog.info? 36 with
  | none => rw [hq] at h; cases h
  | some i =>
    rw [hq] at h
    simp only [Option.map_some, Option.some.injEq, Prod.mk.injEq, decide_eq_true_eq] at h
    exact ⟨i, rfl, h⟩
theorem run_lit (w : World) (n : NL) : (Instr.buildSlice 38 1 #[(0, n.v)]).run Try.prog w = .ok (.slice (some ⟨w.heap.size, 0, none⟩) 1 1) (w.alloc (.cells n.cs.toArray 36)) := by kernel_rfl

/-- A fault in memory. -/
def Flt (W : World) (b : Nat) (e k : Int) : Prop := W.heap[b]? = some (.cells #[.int .i64 e, .int .i64 k] 40 (0, 0))
theorem flt_size (e k : Int) : (Try.prog.info? 40).map (·.size) = some (#[Value.int .i64 e, .int .i64 k] : Array Value).size := by
  have : (Try.prog.info? 40).map (·.size) = some 2 := by kernel_rfl
  exact this
theorem grown_setRow (w : World) (b : Nat) (cs : Array Value) : w.grownBy (w.setRow b cs) (some b) :=
  ⟨rfl, rfl, rfl, by simp [World.setRow], fun k _ hn => by
    have : ¬ b = k := fun e => hn (by rw [e])
    simp [World.setRow, Array.getElem?_modify, this]⟩
section
variable {F : Fence} {n : Nat} {ops : Array Oper} {rest : List Oper} {o : Oper} {a : Act} {w : World} {Q : Exit → Act → World → Prop}
theorem in_new (hgd : o.guard = none) (ho : o.op = .alloc 36)
    (h : ∀ w', Bx w' w.heap.size NL.zero → w.grownBy w' none → w'.heap.size = w.heap.size + 1 → wpListIn F n Try.prog ops Q rest (a.put o.dst (.pointer (some ⟨w.heap.size, 0, none⟩))) w') : wpListIn F n Try.prog ops Q (o :: rest) a w :=
  wpListIn_plain hgd fun _ hK => by
    unfold Oper.wpIn
    refine ⟨by simp [Oper.about, ho], ?_⟩
    rw [Oper.semAt_plain F _ _ (by rw [ho]; intro c hc; cases hc)]
    unfold execOp
    simp only [ho, Sem.run_bind, run_new, Result.andThen_ok, Sem.run_pure, Oper.uponIn_value]
    exact hK _ _ (h _ (Laid.new w _).bx (World.grownBy_alloc w _ none) (by simp))
theorem in_lit (hgd : o.guard = none) (x : Operand) (ho : o.op = .buildSlice 38 1 #[(0, x)]) (N : NL) (hx : a.eval x = N.v)
    (h : ∀ w', Bx w' w.heap.size N → w.grownBy w' none → w'.heap.size = w.heap.size + 1 → wpListIn F n Try.prog ops Q rest (a.put o.dst (.slice (some ⟨w.heap.size, 0, none⟩) 1 1)) w') : wpListIn F n Try.prog ops Q (o :: rest) a w :=
  wpListIn_plain hgd fun _ hK => by
    unfold Oper.wpIn
    refine ⟨by simp [Oper.about, ho], ?_⟩
    rw [Oper.semAt_plain F _ _ (by rw [ho]; intro c hc; cases hc)]
    unfold execOp
    simp only [ho, List.map_toArray, List.map_cons, List.map_nil, hx, Sem.run_bind, run_lit, Result.andThen_ok, Sem.run_pure, Oper.uponIn_value]
    exact hK _ _ (h _ (Bx.new w N) (World.grownBy_alloc w _ none) (by simp))
theorem in_load (hgd : o.guard = none) (x : Operand) (ho : o.op = .load 36 x) (b : Nat) (hx : a.eval x = .pointer (some ⟨b, 0, none⟩)) (N : NL) (hb : Bx w b N)
    (h : wpListIn F n Try.prog ops Q rest (a.put o.dst N.v) w) : wpListIn F n Try.prog ops Q (o :: rest) a w :=
  wpListIn_plain hgd fun _ hK => by
    unfold Oper.wpIn
    refine ⟨by simp [Oper.about, ho], ?_⟩
    rw [Oper.semAt_plain F _ _ (by rw [ho]; intro c hc; cases hc)]
    unfold execOp
    simp only [ho, hx, Instr.loadAt, Instr.sureAddr, Sem.run_bind, Sem.run_pure, Result.andThen_ok, hb.load, Oper.uponIn_value]
    exact hK _ _ h
theorem in_row (hgd : o.guard = none) (ty : TypeId) (x y : Operand) (ho : o.op = .store ty x y) (hd : o.dst = none) (b : Nat) (t : TypeId) (old cs : Array Value) (hx : a.eval x = .pointer (some ⟨b, 0, none⟩)) (hy : a.eval y = .agg cs) (hb : w.heap[b]? = some (.cells old t (0, 0)))
    (hi : (Try.prog.info? ty).map (·.size) = some cs.size) (hs : old.size = cs.size) (h1 : cs.all (·.oneCell') = true)
    (h : ∀ w', w'.heap[b]? = some (.cells cs t (0, 0)) → w.grownBy w' (some b) → w'.heap.size = w.heap.size → wpListIn F n Try.prog ops Q rest a w') : wpListIn F n Try.prog ops Q (o :: rest) a w :=
  wpListIn_plain hgd fun _ hK => by
    unfold Oper.wpIn
    refine ⟨by simp [Oper.about, ho], ?_⟩
    rw [Oper.semAt_plain F _ _ (by rw [ho]; intro c hc; cases hc)]
    unfold execOp
    simp only [ho, hx, hy, Instr.storeAt, Instr.sureAddr, Sem.run_bind, Sem.run_pure, Result.andThen_ok, run_storeVar_row w b t ty old cs hb hi hs h1, Oper.uponIn_skip]
    refine hK _ _ ?_
    rw [hd]
    exact h _ (setRow_heap w b _ _ _ _ hb) (grown_setRow w b _) (by simp [World.setRow])
theorem in_store (hgd : o.guard = none) (x y : Operand) (ho : o.op = .store 36 x y) (hd : o.dst = none) (b : Nat) (hx : a.eval x = .pointer (some ⟨b, 0, none⟩)) (N N' : NL) (hy : a.eval y = N'.v) (hb : Bx w b N)
    (h : ∀ w', Bx w' b N' → w.grownBy w' (some b) → w'.heap.size = w.heap.size → wpListIn F n Try.prog ops Q rest a w') : wpListIn F n Try.prog ops Q (o :: rest) a w :=
  in_row hgd _ x y ho hd b _ _ _ hx hy hb N'.size rfl N'.one h
theorem in_flt (hgd : o.guard = none) (x y : Operand) (ho : o.op = .store 40 x y) (hd : o.dst = none) (b : Nat) (hx : a.eval x = .pointer (some ⟨b, 0, none⟩)) (e k e' k' : Int) (hy : a.eval y = .agg #[.int .i64 e', .int .i64 k']) (hb : Flt w b e k)
    (h : ∀ w', Flt w' b e' k' → w.grownBy w' (some b) → w'.heap.size = w.heap.size → wpListIn F n Try.prog ops Q rest a w') : wpListIn F n Try.prog ops Q (o :: rest) a w :=
  in_row hgd _ x y ho hd b _ _ _ hx hy hb (flt_size _ _) rfl (by simp [Value.oneCell']) h
theorem in_box (hgd : o.guard = none) (ty : TypeId) (x y : Operand) (ho : o.op = .store ty x y) (hd : o.dst = none) (b : Nat) (t : TypeId) (hx : a.eval x = .pointer (some ⟨b, 0, none⟩)) (u u' : Value) (hy : a.eval y = u') (hb : Boxed w b t u)
    (hc : u'.cells = #[u']) (h1 : u'.oneCell' = true) (hi : (Try.prog.info? ty).map (·.size) = some 1)
    (h : ∀ w', Boxed w' b t u' → w.grownBy w' (some b) → w'.heap.size = w.heap.size → wpListIn F n Try.prog ops Q rest a w') : wpListIn F n Try.prog ops Q (o :: rest) a w :=
  wpListIn_plain hgd fun _ hK => by
    unfold Oper.wpIn
    refine ⟨by simp [Oper.about, ho], ?_⟩
    rw [Oper.semAt_plain F _ _ (by rw [ho]; intro c hc; cases hc)]
    unfold execOp
    simp only [ho, hx, hy, Sem.run_bind, set_run w ty b 0 u' hc h1 hi (by rw [hb.cell]; rfl) hb.frozen, Result.andThen_ok, Sem.run_pure, Oper.uponIn_skip]
    refine hK _ _ ?_
    rw [hd]
    exact h _ (hb.set u') (grownBy_setCell' w b u') (by simp [World.setCell])
end

/-- What a step of a round leaves alone. -/
structure Rnd (lo B : Nat) (W W' : World) : Prop where
  oth : KeepsOthers W W'
  bel : Below lo W W'
  kp : Keep lo B W W'
theorem Rnd.refl (lo B : Nat) (W : World) : Rnd lo B W W := ⟨KeepsOthers.refl _, Below.refl _ _, Keep.refl _ _ _⟩
theorem Rnd.trans {lo B : Nat} {X Y Z : World} (h : Rnd lo B X Y) (k : Rnd lo B Y Z) : Rnd lo B X Z := ⟨h.oth.trans k.oth, h.bel.trans k.bel, h.kp.trans k.kp⟩
theorem Rnd.grown {lo B : Nat} {W W' : World} {row : Option Nat} (hg : W.grownBy W' row) (hlo : lo ≤ W.heap.size) (hB : B < W.heap.size) (hr : ∀ j, row = some j → lo ≤ j ∧ j ≠ B ∧ ∃ o, W.heap[j]? = some o ∧ o.isCells = true) : Rnd lo B W W' :=
  ⟨KeepsOthers.of_grownBy hg fun j o e ho => by
      obtain ⟨_, _, o', e1, e2⟩ := hr j e
      rw [ho] at e1
      cases e1
      exact e2,
    (Below.refl _ _).grown hg hlo fun j e => (hr j e).1,
    fun k hk => hg.block k (by omega) fun e => by
      obtain ⟨h1, h2, _⟩ := hr k e.symm
      omega⟩
theorem grown_of_below {W W' : World} (h : Below W.heap.size W W') : W.grownBy W' none := ⟨h.os, h.tape, h.output, h.size, fun k hk _ => h.block k hk⟩
theorem Rnd.size {lo B : Nat} {W W' : World} (h : Rnd lo B W W') : W.heap.size ≤ W'.heap.size := h.bel.size
/-- A block of cells stays where a block of another sort turns. -/
theorem cells_own {W W' : World} {row : Option Nat} (hg : W.grownBy W' row) (hr : ∀ r, row = some r → ∃ o : Obj, W.heap[r]? = some o ∧ o.isCells = false) {b : Nat} {o : Obj} (h : W.heap[b]? = some o) (hc : o.isCells = true) : W'.heap[b]? = some o :=
  (hg.block b (Array.getElem?_eq_some_iff.1 h).1 fun e => by
    obtain ⟨o', e1, e2⟩ := hr b e.symm
    rw [h] at e1
    cases e1
    rw [hc] at e2
    cases e2).trans h
theorem NuN.own {B : Nat} {W W' : World} {v : Value} {l : List NL} (h : NuN B W v l) {row : Option Nat} (hg : W.grownBy W' row) (hr : ∀ r, row = some r → ∃ o : Obj, W.heap[r]? = some o ∧ o.isCells = false) : NuN B W' v l :=
  h.keep fun g hgv => by
    obtain ⟨o, ho, hc⟩ := h.cells g hgv
    exact (cells_own hg hr ho hc).trans ho.symm

theorem pieces_stops (n : Nat) (hn : 1 ≤ n) (lo B : Nat) (xs : List Int) (ho : Oct xs) (hl : xs.length ≤ 1099511627776) (v : Value) (w0 : World) (hlo : w0.heap.size ≤ lo) (hs : Seg w0 v xs) (W0 : World) (hlo0 : lo ≤ W0.heap.size) (hB : B < W0.heap.size) (h0 : ∀ i, i < lo → W0.heap[i]? = w0.heap[i]?) (hc : W0.cell? ⟨B, 0, none⟩ = some v) :
    SeqStopsK Fence.wide n Try.prog 56 #[.pointer (some ⟨B, 0, none⟩)] (fun x : Nat => #[Value.int .i64 (ofs xs x : Nat), pv v (ofs xs x) (ofs xs (x + 1))]) (Keep lo B)
      (fun ys => ∃ m, ys = List.range m ∧ xs.length ≤ ofs xs m ∧ ∀ j, j < m → ofs xs j < xs.length) (fun pre => ∃ m, pre = List.range m ∧ ∀ j, j < m → ofs xs j < xs.length) (xs.length + 1) W0 := fun l J Jx W hW _ _ hY hJ =>
  pieces1_in n hn l lo B xs ho hl v w0 hlo hs J Jx hY W (fun i hi => (hW.block i (by omega)).trans (h0 i hi)) ((hW.cell (p := ⟨B, 0, none⟩) hB).trans hc) hJ

end Go.Proofs.Ytejcclcckgdbgaa
namespace Go.Proofs.Ytejcclcckgdbgaa
open Go.RowKit Go.Shelf
set_option linter.unusedVariables false
set_option linter.unusedSimpArgs false
set_option maxRecDepth 100000
attribute [local go_sem] Oper.semAt_some

/-- The octets of a piece; its route; its fault. -/
def px (xs : List Int) (k : Nat) : List Int := (xs.drop (ofs xs k)).take (ofs xs (k + 1) - ofs xs k)
def gr (xs : List Int) (k : Nat) : NL := rrO (px xs k)
def ge (xs : List Int) (k : Nat) : Int := rrE (px xs k)
theorem ofs_step (xs : List Int) (k : Nat) : ofs xs k ≤ ofs xs (k + 1) := by
  have h1 := ofs_le xs k
  show ofs xs k ≤ pEnd xs (ofs xs k)
  rcases Nat.lt_or_ge (ofs xs k) xs.length with q | q
  · exact Nat.le_of_lt (pEnd_gt xs _ q)
  · unfold pEnd
    rw [if_pos (by omega)]
    exact h1
theorem px_len (xs : List Int) (k : Nat) : (px xs k).length ≤ xs.length := by
  unfold px
  simp
  omega
theorem px_oct {xs : List Int} (h : Oct xs) (k : Nat) : Oct (px xs k) := (h.drop _).take _

/-- What Read answers: all the routes, or the first fault. -/
def ReadsTo (lo : Nat) (xs : List Int) (w : World) (V : Value) (E A : Int) : Prop :=
  (∃ m, xs.length ≤ ofs xs m ∧ (∀ j, j < m → ofs xs j < xs.length) ∧ (∀ j, j < m → ge xs j = 0) ∧ m ≤ 4096 ∧ E = 0 ∧ A = 0 ∧ NuN lo w V ((List.range m).map (gr xs)) ∧ (V = .slice none 0 0 ↔ m = 0)) ∨
  (∃ m, (∀ j, j < m + 1 → ofs xs j < xs.length) ∧ (∀ j, j < m → ge xs j = 0) ∧ m ≤ 4096 ∧ E = (if m = 4096 then 7 else ge xs m) ∧ E ≠ 0 ∧ A = (ofs xs m : Nat) ∧ V = .slice none 0 0)

/-- The cells of the results and of the list, early. -/
structure Sit (lo : Nat) (v : Value) (l : List NL) (W : World) : Prop where
  r0 : Boxed W lo 38 (.slice none 0 0)
  r1 : Flt W (lo + 1) 0 0
  bx : Boxed W (lo + 1 + 1) 38 v
  own : NuN (lo + 1 + 1 + 1 + 1) W v l
  sz : lo + 1 + 1 + 1 + 1 ≤ W.heap.size
theorem Sit.grown {lo : Nat} {v : Value} {l : List NL} {W W' : World} {row : Option Nat} (h : Sit lo v l W) (hg : W.grownBy W' row) (hr : ∀ j, row = some j → lo + 1 + 1 + 1 + 1 ≤ j ∧ v.ownBlock ≠ some j) : Sit lo v l W' := by
  have ne : ∀ k, k < lo + 1 + 1 + 1 + 1 → W'.heap[k]? = W.heap[k]? := fun k hk => hg.block k (by have := h.sz; omega) fun e => by
    have := (hr k e.symm).1
    omega
  exact ⟨(ne _ (by omega)).trans h.r0, (ne _ (by omega)).trans h.r1, (ne _ (by omega)).trans h.bx, h.own.keep fun g e => hg.block g (World.ownsRow.lt h.own g e).2 fun e' => (hr g e'.symm).2 e, Nat.le_trans h.sz hg.size⟩
theorem Sit.sit {lo : Nat} {v : Value} {l : List NL} {W W' : World} {row : Option Nat} (h : Sit lo v l W) (hg : W.grownBy W' row) (hr : ∀ r, row = some r → ∃ o : Obj, W.heap[r]? = some o ∧ o.isCells = false) : Sit lo v l W' :=
  ⟨cells_own hg hr h.r0 rfl, cells_own hg hr h.r1 rfl, cells_own hg hr h.bx rfl, h.own.own hg hr, Nat.le_trans h.sz hg.size⟩
theorem Sit.box_kept {lo : Nat} {v : Value} {l : List NL} {W W' : World} (h : Sit lo v l W) (hg : W.grownBy W' v.ownBlock) : Boxed W' (lo + 1 + 1) 38 v :=
  (hg.block _ (by have := h.sz; omega) fun e => by have := (World.ownsRow.lt h.own _ e.symm).1; omega).trans h.bx
theorem own_push {B : Nat} {W : World} {v : Value} {l : List NL} {N : NL} (h : W.ownsRow B 36 21 v (l.length + 1) (flN l ++ N.cs)) : NuN B W v (l ++ [N]) := by
  unfold NuN
  rw [flN_append, flN_one, List.length_append]
  exact h
theorem Sit.push {lo : Nat} {v v' : Value} {l l' : List NL} {W W' W'' : World} (h : Sit lo v l W) (own : NuN (lo + 1 + 1 + 1 + 1) W' v' l') (hg : W.grownBy W' v.ownBlock) (b : Boxed W'' (lo + 1 + 1) 38 v') (hg' : W'.grownBy W'' (some (lo + 1 + 1))) : Sit lo v' l' W'' := by
  have ne : ∀ k, k < lo + 1 + 1 + 1 + 1 → k ≠ lo + 1 + 1 → W''.heap[k]? = W.heap[k]? := fun k hk hn =>
    (hg'.block k (by have := h.sz; have := hg.size; omega) (by simpa using hn)).trans (hg.block k (by have := h.sz; omega) fun e => by have := (World.ownsRow.lt h.own _ e.symm).1; omega)
  exact ⟨(ne _ (by omega) (by omega)).trans h.r0, (ne _ (by omega) (by omega)).trans h.r1, b, own.keep fun g e => hg'.block g (World.ownsRow.lt own g e).2 fun e' => by have := (World.ownsRow.lt own g e).1; cases e'; omega, Nat.le_trans h.sz (Nat.le_trans hg.size hg'.size)⟩
theorem Sit.turn {lo : Nat} {v : Value} {l : List NL} {W W' W'' : World} (h : Sit lo v l W) (hg : W.grownBy W' v.ownBlock) (hg' : W'.grownBy W'' (some (lo + 1 + 1))) : Rnd lo (lo + 1 + 1 + 1) W W'' :=
  (Rnd.grown hg (by have := h.sz; omega) (by have := h.sz; omega) fun j e => ⟨by have := (World.ownsRow.lt h.own _ e).1; omega, by have := (World.ownsRow.lt h.own _ e).1; omega, h.own.cells j e⟩).trans
    (Rnd.grown hg' (by have := h.sz; have := hg.size; omega) (by have := h.sz; have := hg.size; omega) fun j e => by cases e; exact ⟨by omega, by omega, _, h.box_kept hg, rfl⟩)
/-- In the loop. -/
structure InL (lo : Nat) (xs : List Int) (pre : List Nat) (W : World) : Prop where
  ok : ∀ j ∈ pre, ge xs j = 0
  le : pre.length ≤ 4096
  list : ∃ v, Sit lo v (pre.map (gr xs)) W ∧ (v = .slice none 0 0 ↔ pre = [])
/-- Behind an early return. -/
structure OutL (lo : Nat) (xs : List Int) (pre : List Nat) (W : World) : Prop where
  ex : ∃ ini x E, pre = ini ++ [x] ∧ (∀ j ∈ ini, ge xs j = 0) ∧ ini.length ≤ 4096 ∧ E = (if ini.length = 4096 then 7 else ge xs x) ∧ E ≠ 0 ∧ Boxed W lo 38 (.slice none 0 0) ∧ Flt W (lo + 1) E (ofs xs x : Nat)
theorem InL.own (lo : Nat) (xs : List Int) : Go.Own (InL lo xs) := fun pre A B row h hg hr =>
  ⟨h.ok, h.le, by
    obtain ⟨v, h1, h2⟩ := h.list
    exact ⟨v, h1.sit hg hr, h2⟩⟩
theorem OutL.own (lo : Nat) (xs : List Int) : Go.Own (OutL lo xs) := fun pre A B row h hg hr => by
  obtain ⟨ini, x, E, h1, h2, h3, h4, h5, h6, h7⟩ := h.ex
  exact ⟨ini, x, E, h1, h2, h3, h4, h5, cells_own hg hr h6 rfl, cells_own hg hr h7 rfl⟩
theorem fld1 (e k : Int) (w : World) : Sem.run Try.prog (Instr.build 40 #[(0, .int .i64 e), (1, .int .i64 k)]) w = .ok (.agg #[.int .i64 e, .int .i64 k]) w := by kernel_rfl
theorem fld0 (w : World) : Sem.run Try.prog (Instr.build 40 #[]) w = .ok (.agg #[.int .i64 0, .int .i64 0]) w := by kernel_rfl
theorem nl_box : (Try.prog.info? 38).map (·.size) = some 1 := by kernel_rfl
theorem results_two {P : Program} {fn : Func} {p q : Tmp} {tp tq : TypeId} (h : fn.results = #[.cell p tp, .cell q tq]) (tmps : Array Value) (w : World) (b g : Nat) (t' : TypeId) (u : Value) (cs : Array Value) (fr : Nat × Nat) (d : TypeDesc)
    (hp : tmps.getD p undef = .pointer (some ⟨b, 0, none⟩)) (hb : (loadVar tp ⟨b, 0, none⟩).run P w = .ok u w) (hq : tmps.getD q undef = .pointer (some ⟨g, 0, none⟩)) (hg : w.heap[g]? = some (.cells cs t' fr))
    (hu : P.underlying tq = some d) (hd : (match d with | .struct _ | .array _ _ => true | _ => false) = true) (hi : (P.info? tq).map (·.size) = some cs.size) :
    (results fn tmps).run P w = .ok (.tuple #[u, .agg cs]) w := by
  have hp' : tmps[p]?.getD undef = .pointer (some ⟨b, 0, none⟩) := by simpa using hp
  have hq' : tmps[q]?.getD undef = .pointer (some ⟨g, 0, none⟩) := by simpa using hq
  simp [results, h, hp', hq', asAddr, hb, run_loadVar_row w g t' tq cs fr d hg hu hd hi]
theorem load_nls {w : World} {b : Nat} {u : Value} (h : Boxed w b 38 u) : (loadVar 38 ⟨b, 0, none⟩).run Try.prog w = .ok u w := by
  have hc := h.cell
  simp [go_sem, hc]

set_option maxHeartbeats 4000000 in
theorem read_in (xs : List Int) (ho : Oct xs) (hl : xs.length ≤ 1099511627776) (v : Value) (w : World) (hs : Seg w v xs) :
    CallsIn Fence.wide 5 Try.prog 12 #[v] w fun r w' => ∃ V E A, (r = .returned (.tuple #[V, .agg #[.int .i64 E, .int .i64 A]]) ∧ ReadsTo w.heap.size xs w' V E A) ∧ Below w.heap.size w w' := by
  obtain ⟨a, c, rfl, -⟩ := id hs
  obtain ⟨i0, hi0, hz0, hz1, hz2⟩ := info_nl
  have hb0 : ∀ k, k ≤ 4096 → (k + 1) * i0.bytes ≤ 140737488355328 := fun k hk => Nat.le_trans (Nat.mul_le_mul (show k + 1 ≤ 4097 by omega) hz2) (by decide)
  clear hz2
  have HS := Lib.hid hs
  clear hs
  have hS0 : Sit w.heap.size (.slice none 0 0) [] ((((w.alloc (.cells #[.slice none 0 0] 38)).alloc (.cells #[.int .i64 0, .int .i64 0] 40)).alloc (.cells #[.slice none 0 0] 38)).alloc (.cells #[.slice a xs.length c] 23)) := by
    have b0 := Boxed.new w 38 (.slice none 0 0)
    have b1 : Flt ((w.alloc (.cells #[.slice none 0 0] 38)).alloc (.cells #[.int .i64 0, .int .i64 0] 40)) (w.heap.size + 1) 0 0 := by
      have := World.alloc_heap_new (w.alloc (.cells #[.slice none 0 0] 38)) (.cells #[.int .i64 0, .int .i64 0] 40)
      rwa [World.size_alloc] at this
    have b2 := Boxed.new ((w.alloc (.cells #[.slice none 0 0] 38)).alloc (.cells #[.int .i64 0, .int .i64 0] 40)) 38 (.slice none 0 0)
    simp only [World.size_alloc] at b2
    refine ⟨((b0.alloc _).alloc _).alloc _, ?_, b2.alloc _, NuN.nil _ _, by simp⟩
    unfold Flt at b1 ⊢
    rw [Below.heap_alloc _ _ _ (by simp), Below.heap_alloc _ _ _ (by simp)]
    exact b1
  have hB0 : Below w.heap.size w ((((w.alloc (.cells #[.slice none 0 0] 38)).alloc (.cells #[.int .i64 0, .int .i64 0] 40)).alloc (.cells #[.slice none 0 0] 38)).alloc (.cells #[.slice a xs.length c] 23)) := ((((Below.refl _ w).alloc (Nat.le_refl _) _).alloc (by simp) _).alloc (by simp; omega) _).alloc (by simp; omega) _
  have hP := Boxed.new (((w.alloc (.cells #[.slice none 0 0] 38)).alloc (.cells #[.int .i64 0, .int .i64 0] 40)).alloc (.cells #[.slice none 0 0] 38)) 23 (.slice a xs.length c)
  simp only [World.size_alloc] at hP
  have H0 := Lib.hid hS0
  have HB := Lib.hid hB0
  have HP := Lib.hid hP
  clear hS0 hB0 hP
  refine callsIn_of_wp_marks Try.func12 rfl trivial ?_ rfl
  simp only [Try.ntmps12, List.size_toArray, List.length_cons, List.length_nil, Nat.reduceAdd, Nat.reduceSub, Array.replicate_succ, Array.replicate_zero, List.push_toArray, List.append_toArray, List.nil_append, List.cons_append]
  gi_wp2_with (refine ⟨trivial, ?_⟩; gi_at_call 33; refine (callsIn_wide.2 (pieces_any _ _ rfl rfl)).mono ?_; rintro x w' ⟨rfl, hw⟩; subst hw)
  refine wpIn_rangeFunc_ownF rfl (by decide) (gf := 56) (lb := #[.pointer (some ⟨w.heap.size + 1 + 1 + 1, 0, none⟩)]) rfl trivial (enters_of Try.func56 (by kernel_rfl) rfl)
    (pieces_stops (5 - 1) (by decide) w.heap.size (w.heap.size + 1 + 1 + 1) xs ho hl (.slice a xs.length c) w (Nat.le_refl _) HS.out _ (by simp; omega) (by simp) (fun i hi => HB.out.block i hi) HP.out.cell) (fun h k => Keep.trans h k) (keep_b (by simp; omega) (by simp)) (Below.refl _ _) (fun _ => rfl)
    (fun pre W => InL w.heap.size xs pre W ∧ Below w.heap.size w W)
    (fun c pre W => (c = .ret ∧ OutL w.heap.size xs pre W) ∧ Below w.heap.size w W)
    (OwnFrom.and (Own.from (InL.own _ _) _) (ownFrom_below (Nat.le_refl _) (by simp; omega)))
    (fun c => OwnFrom.and (Own.from (fun s A B row hs hg hr => ⟨hs.1, OutL.own _ _ s A B row hs.2 hg hr⟩) _) (ownFrom_below (Nat.le_refl _) (by simp; omega)))
    ⟨⟨by simp, by simp, _, H0.out, by simp⟩, HB.out⟩
    (fun x => { tmps := #[.slice a xs.length c, undef, .pointer (some ⟨w.heap.size, 0, none⟩), .pointer (some ⟨w.heap.size + 1, 0, none⟩), .pointer (some ⟨w.heap.size + 1 + 1, 0, none⟩), .int .i64 (ofs xs x : Nat), pv (.slice a xs.length c) (ofs xs x) (ofs xs (x + 1)), undef, undef, .slice a xs.length c, .func (.func 56) #[] #[.pointer (some ⟨w.heap.size + 1 + 1 + 1, 0, none⟩)], .int .i64 (ofs xs x : Nat), pv (.slice a xs.length c) (ofs xs x) (ofs xs (x + 1)), undef, undef, undef, undef, undef, undef, undef, undef, undef, undef, undef, undef, undef, undef, undef, undef, undef, undef, undef, undef, undef], defers := [] }) ?assign ?body ?done ?stop
  case assign =>
    intro l x W K hK
    gi_wp2
    exact hK
  case body =>
    rintro l pre x W ⟨⟨hok, hle, u, S, hnil⟩, hB⟩ _
    clear H0 HB HP
    have hseg := HS.out.below hB
    have hp := (pv_is hseg (ofs xs x) (ofs xs (x + 1)) (ofs_step xs x) (ofs_le xs (x + 1))).2
    have hr : Calls Try.prog 34 #[pv (.slice a xs.length c) (ofs xs x) (ofs xs (x + 1))] W fun r w' => r = .returned (.tuple #[(gr xs x).v, .int .i64 (ge xs x)]) ∧ Below W.heap.size W w' := route_is (px xs x) (px_oct ho x) (Nat.le_trans (px_len xs x) hl) _ W hp
    clear hseg hp
    have hvl : ∀ g, u.ownBlock = some g → g < W.heap.size := fun g e => (World.ownsRow.lt S.own g e).2
    obtain ⟨a', c', rfl⟩ := S.own.form
    rw [List.length_map] at S hnil hvl
    have hc := S.bx.cell
    have HO := Lib.hid hok
    have HN := Lib.hid hnil
    have hz := S.sz
    clear hok hnil
    generalize hN : gr xs x = N at hr
    have HG := Lib.hid hN
    generalize hE : ge xs x = E at hr
    have HE := Lib.hid hE
    clear hN hE
    have R : Rnd w.heap.size (w.heap.size + 1 + 1 + 1) W W := Rnd.refl _ _ _
    by_cases hm : pre.length = 4096
    · rw [hm] at S hc hvl
      have HM := Lib.hid hm
      clear hm hle hr
      gi_wp2_with (first
        | (refine in_box rfl _ _ _ rfl rfl w.heap.size 38 rfl _ _ rfl S.r0 rfl rfl nl_box ?_; rintro W5 b5 g5 z5; have f5 := (g5.block _ (Array.getElem?_eq_some_iff.1 S.r1).1 (by simp)).trans S.r1; have R5 := R.trans (Rnd.grown g5 (by have := S.sz; omega) (by have := S.sz; omega) fun j e => by cases e; exact ⟨Nat.le_refl _, by omega, _, S.r0, rfl⟩))
        | (refine in_flt rfl _ _ rfl rfl (w.heap.size + 1) rfl 0 0 _ _ rfl f5 ?_; rintro W6 f6 g6 z6; have b6 := (g6.block _ (Array.getElem?_eq_some_iff.1 b5).1 (by simp)).trans b5; have R6 := R5.trans (Rnd.grown g6 (by have := S.sz; omega) (by have := S.sz; omega) fun j e => by cases e; exact ⟨by omega, by omega, _, f5, rfl⟩)))
      exact ⟨R6.oth, ⟨rfl, pre, x, 7, rfl, HO.out, by rw [HM.out]; exact Nat.le_refl _, by rw [if_pos HM.out], by decide, b6, f6⟩, hB.trans R6.bel⟩
    · obtain ⟨m, hmd⟩ : ∃ m, m = pre.length := ⟨_, rfl⟩
      rw [← hmd] at S hc hvl hm hle
      have HM := Lib.hid hmd
      clear hmd
      have hmi : ¬ ((m : Nat) : Int) = 4096 := by omega
      by_cases h0 : E = 0
      · have hne : (E != 0) = false := by simp [h0]
        have HZ := Lib.hid h0
        clear h0
        have hml : (pre.map (gr xs)).length ≤ 4096 := by rw [List.length_map, ← HM.out]; exact hle
        gi_wp2_with (first
          | (refine ⟨trivial, ?_⟩; gi_at_call 34; refine (CallsIn.inRound l (callsIn_wide.2 hr)).mono ?_; rintro r W2 ⟨rfl, k2⟩; have S2 := S.grown (grown_of_below k2) (fun j e => by cases e); have R2 := R.trans (Rnd.grown (grown_of_below k2) (by omega) (by omega) (fun j e => by cases e)); have z2 := k2.size)
          | (refine in_new rfl rfl ?_; rintro W3 x3 g3 z3; have S3 := S2.grown g3 (fun j e => by cases e); have R3 := R2.trans (Rnd.grown g3 (by omega) (by omega) (fun j e => by cases e)))
          | (refine in_store rfl _ _ rfl rfl _ rfl _ _ rfl x3 ?_; rintro W4 x4 g4 z4; have S4 := S3.grown g4 (fun j e => by cases e; exact ⟨by omega, fun e' => by have := hvl _ e'; omega⟩); have R4 := R3.trans (Rnd.grown g4 (by omega) (by omega) (fun j e => by cases e; exact ⟨by omega, by omega, _, x3, rfl⟩)); have hc4 := S4.bx.cell)
          | (refine in_load rfl _ rfl _ rfl _ x4 ?_)
          | (refine in_lit rfl _ rfl _ rfl ?_; rintro W5 x5 g5 z5; have S5 := S4.grown g5 (fun j e => by cases e); have R5 := R4.trans (Rnd.grown g5 (by omega) (by omega) (fun j e => by cases e)))
          | (gi_at_builtin; refine wpListIn_append_own _ rfl _ _ 38 rfl (w.heap.size + 1 + 1 + 1 + 1) 36 i0 NL.zero.v 21 i0.bytes Try.underlying38 hi0 hz0 hz1 rfl rfl (by decide) _ _ _ rfl S5.own ⟨W4.heap.size, 0, none⟩ 1 1 N.cs rfl rfl (fun j y hj => by rw [show Addr.add ⟨W4.heap.size, 0, none⟩ j = ⟨W4.heap.size, 0 + j, none⟩ from add_is _ _ _, Nat.zero_add]; exact Blk.cell x5 j hj) N.cs_one (by unfold maxLen; omega) (hb0 _ hml) (by omega) ?_; intro v' W6 own6 g6 _; obtain ⟨q6, c6, rfl⟩ := ownsRow_succ own6; have own6' := own_push own6; have b6 := S5.box_kept g6)
          | (refine in_box rfl _ _ _ rfl rfl (w.heap.size + 1 + 1) 38 rfl _ _ rfl b6 rfl rfl nl_box ?_; rintro W7 b7 g7 z7))
        have S7 := S5.push own6' g6 b7 g7
        have R7 := R5.trans (S5.turn g6 g7)
        refine ⟨R7.oth, R7.kp, ⟨⟨?_, ?_, .slice (some ⟨q6, 0, none⟩) ((pre.map (gr xs)).length + 1) c6, ?_, ?_⟩, hB.trans R7.bel⟩⟩
        · intro j hj
          rcases List.mem_append.1 hj with q | q
          · exact HO.out j q
          · obtain rfl : j = x := by simpa using q
            exact HE.out.trans HZ.out
        · rw [List.length_append, ← HM.out]
          simp only [List.length_cons, List.length_nil]
          omega
        · rw [List.map_append, List.map_cons, List.map_nil, HG.out]
          exact S7
        · simp
      · have hne : (E != 0) = true := by simp [h0]
        have HZ := Lib.hid h0
        clear h0
        gi_wp2_with (first
          | (refine ⟨trivial, ?_⟩; gi_at_call 34; refine (CallsIn.inRound l (callsIn_wide.2 hr)).mono ?_; rintro r W2 ⟨rfl, k2⟩; have S2 := S.grown (grown_of_below k2) (fun j e => by cases e); have R2 := R.trans (Rnd.grown (grown_of_below k2) (by omega) (by omega) (fun j e => by cases e)); have z2 := k2.size)
          | (refine in_new rfl rfl ?_; rintro W3 x3 g3 z3; have S3 := S2.grown g3 (fun j e => by cases e); have R3 := R2.trans (Rnd.grown g3 (by omega) (by omega) (fun j e => by cases e)))
          | (refine in_store rfl _ _ rfl rfl _ rfl _ _ rfl x3 ?_; rintro W4 x4 g4 z4; have S4 := S3.grown g4 (fun j e => by cases e; exact ⟨by omega, fun e' => by have := hvl _ e'; omega⟩); have R4 := R3.trans (Rnd.grown g4 (by omega) (by omega) (fun j e => by cases e; exact ⟨by omega, by omega, _, x3, rfl⟩)))
          | (first
        | (refine in_box rfl _ _ _ rfl rfl w.heap.size 38 rfl _ _ rfl S4.r0 rfl rfl nl_box ?_; rintro W5 b5 g5 z5; have f5 := (g5.block _ (Array.getElem?_eq_some_iff.1 S4.r1).1 (by simp)).trans S4.r1; have R5 := R4.trans (Rnd.grown g5 (by have := S4.sz; omega) (by have := S4.sz; omega) fun j e => by cases e; exact ⟨Nat.le_refl _, by omega, _, S4.r0, rfl⟩))
        | (refine in_flt rfl _ _ rfl rfl (w.heap.size + 1) rfl 0 0 _ _ rfl f5 ?_; rintro W6 f6 g6 z6; have b6 := (g6.block _ (Array.getElem?_eq_some_iff.1 b5).1 (by simp)).trans b5; have R6 := R5.trans (Rnd.grown g6 (by have := S4.sz; omega) (by have := S4.sz; omega) fun j e => by cases e; exact ⟨by omega, by omega, _, f5, rfl⟩))))
        exact ⟨R6.oth, ⟨rfl, pre, x, E, rfl, HO.out, by rw [← HM.out]; exact hle, by rw [if_neg (by rw [← HM.out]; exact hm)]; exact HE.out.symm, HZ.out, b6, f6⟩, hB.trans R6.bel⟩
  case done =>
    rintro D ys W hD ⟨m, rfl, hm1, hm2⟩ ⟨⟨hok, hle, u, S, hnil⟩, hB⟩ hK
    clear H0 HB HP HS hi0 hz0 hz1 hb0
    have hD' : w.heap.size + 1 + 1 + 1 + 1 ≤ D := by simpa using hD
    clear hD
    obtain ⟨a', c', hu⟩ := S.own.form
    have hc := S.bx.cell
    have hown := S.own
    have r0 := S.r0
    have r1 := S.r1
    have hz := S.sz
    rw [hu] at hc
    have HU := Lib.hid hu
    have HSS := Lib.hid S
    have H1 := Lib.hid hok
    have H2 := Lib.hid hnil
    have H3 := Lib.hid hle
    have H4 := Lib.hid hm2
    have H5 := Lib.hid hm1
    have H6 := Lib.hid hown
    clear hu S hok hnil hle hm2 hm1 hown
    generalize hM : (List.map (gr xs) (List.range m)).length = M at hc HU
    clear hM
    gi_wp2_with (first
      | (refine in_box rfl _ _ _ rfl rfl w.heap.size 38 rfl _ _ rfl r0 rfl rfl nl_box ?_; rintro W5 b5 g5 z5; have f5 := (g5.block _ (Array.getElem?_eq_some_iff.1 r1).1 (by simp)).trans r1)
      | (refine in_flt rfl _ _ rfl rfl (w.heap.size + 1) rfl 0 0 _ _ rfl f5 ?_; rintro W6 f6 g6 z6; have b6 := (g6.block _ (Array.getElem?_eq_some_iff.1 b5).1 (by simp)).trans b5))
    have hDl := (Array.getElem?_eq_some_iff.1 hK).1
    have hK6 := (g6.block D (by omega) (by simp; omega)).trans ((g5.block D hDl (by simp; omega)).trans hK)
    have hg := grownBy_putObj' W6 D (.deferred none)
    have hrr : ∀ r, some D = some r → ∃ o : Obj, W6.heap[r]? = some o ∧ o.isCells = false := fun r e => by cases e; exact ⟨_, hK6, rfl⟩
    refine ⟨by simp, .inl ⟨_, _, rfl, run_takeDeferred hK6, ?_⟩⟩
    refine ⟨_, results_two (by rfl) _ _ w.heap.size (w.heap.size + 1) _ _ _ _ _ rfl (load_nls (cells_own hg hrr b6 rfl)) rfl (cells_own hg hrr f6 rfl) Try.underlying40 rfl (flt_size _ _), _, _, _, ⟨rfl, .inl ⟨m, H5.out, H4.out, fun j hj => H1.out j (List.mem_range.2 hj), by have := H3.out; rwa [List.length_range] at this, rfl, rfl, ?_, ?_⟩⟩, ?_⟩
    · have h6 := H6.out
      rw [HU.out] at h6
      have hlt := World.ownsRow.lt h6
      refine NuN.own (W := W6) ?_ hg hrr
      refine NuN.keep (w := W) (World.ownsRow.mono h6 (by omega)) fun g e => ?_
      have := hlt g e
      exact (g6.block g (by omega) (by simp; omega)).trans (g5.block g this.2 (by simp; omega))
    · have e := H2.out
      rw [HU.out] at e
      exact e.trans (by simp)
    · exact (((hB.grown g5 (by omega) fun j e => by cases e; omega).grown g6 (by omega) fun j e => by cases e; omega)).grown hg (by omega) fun j e => by cases e; omega
  case stop =>
    rintro D c1 pre W hD ⟨k, hk, hk2⟩ ⟨⟨rfl, h⟩, hB⟩ hK
    clear H0 HB HP HS hi0 hz0 hz1 hb0
    have hD' : w.heap.size + 1 + 1 + 1 + 1 ≤ D := by simpa using hD
    clear hD
    gi_wp2
    refine ⟨by simp, .inl ⟨_, _, rfl, run_takeDeferred hK, ?_⟩⟩
    obtain ⟨ini, x, E, e1, e2, e3, e4, e5, b6, f6⟩ := h.ex
    have hg := grownBy_putObj' W D (.deferred none)
    have hrr : ∀ r, some D = some r → ∃ o : Obj, W.heap[r]? = some o ∧ o.isCells = false := fun r e => by cases e; exact ⟨_, hK, rfl⟩
    obtain ⟨k', rfl⟩ : ∃ k', k = k' + 1 := by
      cases k with
      | zero => rw [hk] at e1; simp at e1
      | succ k' => exact ⟨k', rfl⟩
    rw [hk, List.range_succ] at e1
    obtain ⟨rfl, e6⟩ := List.append_inj' e1 rfl
    obtain rfl : k' = x := by simpa using e6
    rw [List.length_range] at e3 e4
    refine ⟨_, results_two (by rfl) _ _ w.heap.size (w.heap.size + 1) _ _ _ _ _ rfl (load_nls (cells_own hg hrr b6 rfl)) rfl (cells_own hg hrr f6 rfl) Try.underlying40 rfl (flt_size _ _), _, _, _, ⟨rfl, .inr ⟨k', hk2, fun j hj => e2 j (List.mem_range.2 hj), e3, e4, e5, rfl, rfl⟩⟩, ?_⟩
    exact hB.grown hg hB.size fun j e => by cases e; omega

theorem read_is (xs : List Int) (ho : Oct xs) (hl : xs.length ≤ 1099511627776) (v : Value) (w : World) (hs : Seg w v xs) :
    Calls Try.prog 12 #[v] w fun r w' => ∃ V E A, (r = .returned (.tuple #[V, .agg #[.int .i64 E, .int .i64 A]]) ∧ ReadsTo w.heap.size xs w' V E A) ∧ Below w.heap.size w w' :=
  callsIn_wide.1 (read_in xs ho hl v w hs)
end Go.Proofs.Ytejcclcckgdbgaa
