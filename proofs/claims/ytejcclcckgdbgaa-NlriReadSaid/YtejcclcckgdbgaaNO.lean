/- Operations on routes in memory, each as a law of the walk: the world behind it is any world in which the route reads so. No condition. -/
import Derived.Test.YtejcclcckgdbgaaNK
import Derived.Still
namespace Go.Proofs.Ytejcclcckgdbgaa
open Go.RowKit Go.Sort
set_option linter.unusedVariables false
set_option linter.unusedSimpArgs false
set_option maxRecDepth 100000

def NL.zero : NL := ⟨0, 0, fun _ => 0, 0, 0, 0, false, 0, 0, 0, 0, 0⟩
/-- Behind an operation that lays a route into a new block. -/
structure Laid (w w' : World) (n : NL) : Prop where
  bx : Bx w' w.heap.size n
  bel : Below w.heap.size w w'
  size : w'.heap.size = w.heap.size + 1
theorem Laid.new (w : World) (n : NL) : Laid w (w.alloc (.cells n.cs.toArray 36)) n := ⟨Bx.new w n, (Below.refl _ _).alloc (Nat.le_refl _) _, by simp⟩
theorem run_box (w : World) (n : NL) : (Instr.box 36 n.v).run Try.prog w = .ok (.pointer (some ⟨w.heap.size, 0, none⟩)) (w.alloc (.cells n.cs.toArray 36)) := rfl
theorem run_new (w : World) : (Instr.alloc 36 true (.tuple #[])).run Try.prog w = .ok (.pointer (some ⟨w.heap.size, 0, none⟩)) (w.alloc (.cells NL.zero.cs.toArray 36)) := by kernel_rfl

theorem set_run (w : World) (ty : TypeId) (b o : Nat) (u : Value) (hc : u.cells = #[u]) (h1 : u.oneCell' = true) (hi : (Try.prog.info? ty).map (·.size) = some 1) (hx : (w.cell? ⟨b, o, none⟩).isSome = true) (hf : w.frozen? ⟨b, o, none⟩ = false) :
    (Instr.storeAt ty (.pointer (some ⟨b, o, none⟩)) u).run Try.prog w = .ok () (w.setCell ⟨b, o, none⟩ u) := by
  have := run_storeCells_cells (P := Try.prog) b o [u] 0 w (fun j hj => by obtain rfl : j = 0 := by simpa using hj
                                                                           exact hx) (fun j hj => by obtain rfl : j = 0 := by simpa using hj
                                                                                                     exact hf) (fun v hv => by obtain rfl : v = u := by simpa using hv
                                                                                                                               exact h1)
  cases hq : Try.prog.info? ty with
  | none => simp [hq] at hi
  | some i =>
    have hs : i.size = 1 := by simpa [hq] using hi
    simp only [Nat.add_zero] at this
    simp only [Instr.storeAt, Instr.sureAddr, Sem.run_bind, Sem.run_pure, Result.andThen_ok]
    simp [storeVar, sizeOf, typeInfo, hq, hc, hs, this, World.setCells]
section
variable {ops : Array Oper} {rest : List Oper} {o : Oper} {a : Act} {w : World} {Q : Exit → Act → World → Prop}
theorem at_box (hgd : o.guard = none) (x : Operand) (ho : o.op = .box 36 x) (n : NL) (hx : a.eval x = n.v)
    (h : ∀ w', Laid w w' n → wpList Try.prog ops Q rest (a.put o.dst (.pointer (some ⟨w.heap.size, 0, none⟩))) w') : wpList Try.prog ops Q (o :: rest) a w :=
  wpList_plain hgd fun _ hK => by
    unfold Oper.wp execOp
    simp only [ho, hx, Sem.run_bind, run_box, Result.andThen_ok, Sem.run_pure]
    exact hK _ _ (h _ (Laid.new w n))
theorem at_new (hgd : o.guard = none) (ho : o.op = .alloc 36)
    (h : ∀ w', Laid w w' NL.zero → wpList Try.prog ops Q rest (a.put o.dst (.pointer (some ⟨w.heap.size, 0, none⟩))) w') : wpList Try.prog ops Q (o :: rest) a w :=
  wpList_plain hgd fun _ hK => by
    unfold Oper.wp execOp
    simp only [ho, Sem.run_bind, run_new, Result.andThen_ok, Sem.run_pure]
    exact hK _ _ (h _ (Laid.new w _))
theorem at_load (hgd : o.guard = none) (x : Operand) (ho : o.op = .load 36 x) (b : Nat) (hx : a.eval x = .pointer (some ⟨b, 0, none⟩)) (n : NL) (hb : Bx w b n)
    (h : wpList Try.prog ops Q rest (a.put o.dst (.agg n.cs.toArray)) w) : wpList Try.prog ops Q (o :: rest) a w :=
  wpList_load_row hgd _ x ho b hx _ _ _ _ hb Try.underlying36 rfl n.size h
/-- Behind an operation that writes the route in block b. -/
structure Wrote (b : Nat) (w w' : World) (n : NL) : Prop where
  bx : Bx w' b n
  but : But w.heap.size b w w'
  size : w'.heap.size = w.heap.size
theorem at_store (hgd : o.guard = none) (x y : Operand) (ho : o.op = .store 36 x y) (hd : o.dst = none) (b : Nat) (hx : a.eval x = .pointer (some ⟨b, 0, none⟩)) (n n' : NL) (hy : a.eval y = n'.v) (hb : Bx w b n)
    (h : ∀ w', Wrote b w w' n' → wpList Try.prog ops Q rest a w') : wpList Try.prog ops Q (o :: rest) a w :=
  wpList_store_row hgd _ x y ho b n'.cs.toArray hx hy _ n.cs.toArray hb n'.size rfl n'.one (by rw [hd]; exact h _ ⟨hb.setRow n', ⟨rfl, rfl, rfl, by simp [World.setRow], fun k hk hn => by simp [World.setRow, Array.getElem?_modify, Ne.symm hn]⟩, by simp [World.setRow]⟩)
/-- One cell of it. -/
theorem at_set (hgd : o.guard = none) (ty : TypeId) (x y : Operand) (ho : o.op = .store ty x y) (hd : o.dst = none) (b j : Nat) (hx : a.eval x = .pointer (some ⟨b, j, none⟩)) (n n' : NL) (u : Value) (hy : a.eval y = u) (hb : Bx w b n) (hn : n.cs.set j u = n'.cs)
    (hc : u.cells = #[u]) (h1 : u.oneCell' = true) (hi : (Try.prog.info? ty).map (·.size) = some 1) (hj : j < 21)
    (h : ∀ w', Wrote b w w' n' → wpList Try.prog ops Q rest a w') : wpList Try.prog ops Q (o :: rest) a w :=
  wpList_plain hgd fun _ hK => by
    have hc' := Blk.cell hb j (List.getElem?_eq_getElem (show j < n.cs.length from hj))
    unfold Oper.wp execOp
    simp only [ho, hx, hy, Sem.run_bind, set_run w ty b j u hc h1 hi (by rw [hc']; rfl) (Blk.frozen hb j), Result.andThen_ok, Sem.run_pure]
    refine hK _ _ ?_
    rw [hd]
    exact (h _ ⟨by unfold Bx; rw [← hn]; exact Blk.set hb j u, (But.refl _ b w).setCell j u, by simp [World.setCell]⟩)
theorem But.setCells {B b : Nat} {x : World} : ∀ (vs : List Value) (o : Nat) {w : World}, But B b x w → But B b x (w.setCells b o vs)
  | [], _, _, h => h
  | v :: r, o, _, h => But.setCells r (o + 1) (h.setCell o v)
theorem size_setCells {b : Nat} : ∀ (vs : List Value) (o : Nat) (w : World), (w.setCells b o vs).heap.size = w.heap.size
  | [], _, _ => rfl
  | v :: r, o, w => by
    show ((w.setCell ⟨b, o, none⟩ v).setCells b (o + 1) r).heap.size = _
    rw [size_setCells r (o + 1)]
    simp [World.setCell]
/-- Its identifier. -/
def esi (e : Nat → Int) : List Value := [.int .u8 (e 0), .int .u8 (e 1), .int .u8 (e 2), .int .u8 (e 3), .int .u8 (e 4), .int .u8 (e 5), .int .u8 (e 6), .int .u8 (e 7), .int .u8 (e 8), .int .u8 (e 9)]
theorem esi_size (e : Nat → Int) : (Try.prog.info? 31).map (·.size) = some (esi e).toArray.size := by
  have : (Try.prog.info? 31).map (·.size) = some 10 := by kernel_rfl
  exact this
theorem esi_one (e : Nat → Int) : (esi e).toArray.all (·.oneCell') = true := by simp [esi, Value.oneCell']
theorem Bx.range {w : World} {b : Nat} {n : NL} (h : Bx w b n) : w.rangeAt b 2 (esi n.e) := fun j v hv => by
  have hj : j < 10 := by
    rcases Nat.lt_or_ge j 10 with q | q
    · exact q
    · rw [List.getElem?_eq_none (show (esi n.e).length ≤ j from q)] at hv; cases hv
  refine Blk.cell h (2 + j) ?_
  rcases j with _ | _ | _ | _ | _ | _ | _ | _ | _ | _ | j
  all_goals first | omega | exact hv
theorem at_esi (hgd : o.guard = none) (x : Operand) (ho : o.op = .load 31 x) (b : Nat) (hx : a.eval x = .pointer (some ⟨b, 2, none⟩)) (n : NL) (hb : Bx w b n)
    (h : wpList Try.prog ops Q rest (a.put o.dst (.agg (esi n.e).toArray)) w) : wpList Try.prog ops Q (o :: rest) a w :=
  wpList_load_mid hgd _ x ho b 2 hx _ _ hb.range Try.underlying31 rfl (esi_size _) h
theorem at_setEsi (hgd : o.guard = none) (x y : Operand) (ho : o.op = .store 31 x y) (hd : o.dst = none) (b : Nat) (hx : a.eval x = .pointer (some ⟨b, 2, none⟩)) (n : NL) (e : Nat → Int) (hy : a.eval y = .agg (esi e).toArray) (hb : Bx w b n)
    (h : ∀ w', Wrote b w w' { n with e := e } → wpList Try.prog ops Q rest a w') : wpList Try.prog ops Q (o :: rest) a w :=
  wpList_store_mid hgd 31 x y ho b 2 (esi e).toArray hx hy (Blk.there hb 2 10 (by rw [NL.cs_length]; decide)) (esi_size e) (esi_one e)
    (by rw [hd]; exact h _ ⟨Blk.setCells (w := w) (esi e) 2 hb, But.setCells (esi e) 2 (But.refl _ b w), size_setCells (esi e) 2 w⟩)
end

/- In a region that only reads. -/
section
variable {C : World → Prop} {o : Oper} {a : Act} {K : Act → Prop}
theorem q_load (x : Operand) (ho : o.op = .load 36 x) (b : Nat) (hx : a.eval x = .pointer (some ⟨b, 0, none⟩)) (n : NL) (hC : ∀ w, C w → Bx w b n) (h : K (a.put o.dst (.agg n.cs.toArray))) : o.quiet Try.prog a C K :=
  ⟨n.v, fun w hw => by
    unfold Oper.quietAt execOp
    simp only [ho, hx, Instr.loadAt, Instr.sureAddr, Sem.run_bind, Sem.run_pure, Result.andThen_ok, (hC w hw).load, Oper.quietUpon, and_self], h⟩
theorem q_esi (x : Operand) (ho : o.op = .load 31 x) (b : Nat) (hx : a.eval x = .pointer (some ⟨b, 2, none⟩)) (n : NL) (hC : ∀ w, C w → Bx w b n) (h : K (a.put o.dst (.agg (esi n.e).toArray))) : o.quiet Try.prog a C K :=
  ⟨.agg (esi n.e).toArray, fun w hw => by
    unfold Oper.quietAt execOp
    simp only [ho, hx, Sem.run_bind, run_loadAt_mid w b 2 _ _ _ (hC w hw).range Try.underlying31 rfl (esi_size _), Sem.run_pure, Result.andThen_ok, Oper.quietUpon, and_self], h⟩
end
theorem Bx.regrown {w : World} {b : Nat} {n : NL} (h : Bx w b n) : ∀ w', (∃ p : Regrown, w' = grow (redrawn w p.d) p.os) → Bx w' b n := by
  rintro w' ⟨p, rfl⟩
  exact h.below (below_regrown w p.d p.os) h.lt
end Go.Proofs.Ytejcclcckgdbgaa
