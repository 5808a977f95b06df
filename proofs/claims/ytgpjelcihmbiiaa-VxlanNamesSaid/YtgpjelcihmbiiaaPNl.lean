/- The examples of the chapter; frames that are not valid. No condition. -/
import Derived.Test.YtgpjelcihmbiiaaPOl
namespace Go.Proofs.Ytgpjelcihmbiiaa
open Go.RowKit Go.Sort
set_option linter.unusedVariables false
set_option linter.unusedSimpArgs false
set_option maxRecDepth 100000

/-- A region that draws its order, whose operations only read and whose callees make at most new memory. -/
theorem wp_region_qb {P : Program} {id : Nat} {Q : Exit → Act → World → Prop} {a : Act} {w : World} {l : List Oper} (hm : P.follows .mixedOrders = true) (hB : Region.lexB .any l.toArray = true)
    (h : wpQuiet P l.toArray (fun w' => ∃ p : Regrown, w' = grow (redrawn w p.d) p.os) (fun a' => ∀ w', Below w.heap.size w w' → Q .normal a' w') l a) : (Code.region id l.toArray true).wp P Q a w := by
  refine wp_region_quiet (C := fun w' => ∃ p : Regrown, w' = grow (redrawn w p.d) p.os) hm hB ⟨⟨w.drawn + 1, #[]⟩, by rw [grow_empty]; rfl⟩ ?_
  have e : (fun a' => ∀ w', Below w.heap.size w w' → Q .normal a' w') = (fun a' => ∀ w', (∃ p : Regrown, w' = grow (redrawn w p.d) p.os) → Q .normal a' w') := by
    funext a'
    apply propext
    constructor
    · rintro h w' ⟨p, rfl⟩
      exact h _ (below_regrown w p.d p.os)
    · intro h w' hb
      exact h w' (regrown_of_below hb)
  rw [e] at h
  simpa using h

theorem load_e {w : World} {b k : Nat} {e : Int} (h : w.cell? ⟨b, k, none⟩ = some (.int .i64 e)) : (loadVar 24 ⟨b, k, none⟩).run Try.prog w = .ok (.int .i64 e) w := by
  simp [go_sem, h]
theorem q_loadE {C : World → Prop} {o : Oper} {a : Act} {K : Act → Prop} (x : Operand) (ho : o.op = .load 24 x) (b k : Nat) (hx : a.eval x = .pointer (some ⟨b, k, none⟩)) (e : Int) (hC : ∀ w, C w → w.cell? ⟨b, k, none⟩ = some (.int .i64 e)) (h : K (a.put o.dst (.int .i64 e))) : o.quiet Try.prog a C K :=
  ⟨.int .i64 e, fun w hw => by
    unfold Oper.quietAt execOp
    simp only [ho, hx, Instr.loadAt, Instr.sureAddr, Sem.run_bind, Sem.run_pure, Result.andThen_ok, load_e (hC w hw), Oper.quietUpon, and_self], h⟩
theorem cellE {w wr : World} {b k : Nat} {e : Int} (hb : b < wr.heap.size) (h : wr.cell? ⟨b, k, none⟩ = some (.int .i64 e)) : ∀ w', (∃ p : Regrown, w' = grow (redrawn wr p.d) p.os) → w'.cell? ⟨b, k, none⟩ = some (.int .i64 e) := by
  rintro w' ⟨p, rfl⟩
  exact ((below_regrown wr p.d p.os).cell (p := ⟨b, k, none⟩) hb).trans h
def ex : FL := FL.mk 2199023255552 0 2 0 0 0 0 0 167837697 167837698 64 1 0 0 0
def exB : List Int := [0, 0, 0, 0, 0, 0, 2, 0, 0, 0, 0, 0, 8, 0, 69, 0, 0, 28, 0, 0, 0, 0, 64, 1, 102, 221, 10, 1, 0, 1, 10, 1, 0, 2, 0, 0, 0, 0, 0, 0, 0, 0]
theorem ex_ok : ex.Ok := ⟨by decide, by decide, by decide, by decide, by decide, by decide, by decide, by decide, by decide⟩
theorem ex_chk : ex.chk = 0 := by decide +kernel
theorem ex_enc : ex.enc = exB := by decide +kernel
def bads : List FL := [FL.mk 281474976710656 0 0 0 0 0 0 0 0 0 0 0 0 0 0, FL.mk 0 281474976710656 0 0 0 0 0 0 0 0 0 0 0 0 0, FL.mk 281474976710655 0 0 0 0 0 0 0 0 0 0 0 0 0 0, FL.mk 0 0 3 0 0 0 0 0 0 0 0 0 0 0 0, FL.mk 0 0 0 1 0 0 0 0 0 0 0 0 0 0 0, FL.mk 0 0 1 0 0 0 0 0 0 0 1 0 0 0 0, FL.mk 0 0 1 0 0 0 0 0 0 0 0 0 0 0 0, FL.mk 0 0 1 2 0 0 281474976710656 0 0 0 0 0 0 0 0, FL.mk 0 0 2 0 0 0 0 0 0 0 256 0 0 0 0, FL.mk 0 0 2 0 0 0 0 0 0 0 0 17 65536 0 0, FL.mk 0 0 2 0 0 0 0 0 0 0 0 1 0 1 0, FL.mk 0 0 2 0 0 0 0 0 0 0 0 6 0 1 0]
def bad (i : Nat) : FL := bads.getD i F0
def errs : List Int := [2, 2, 3, 6, 3, 3, 2, 2, 2, 2, 3, 0]
theorem bad_chk : ∀ i, i < 12 → (bad i).chk = errs.getD i 0 := by decide +kernel
def flF (l : List FL) : List Value := l.flatMap FL.cs
theorem flF_get (L : List FL) (i j : Nat) (n : FL) (h : L[i]? = some n) (hj : j < 15) : (flF L)[i * 15 + j]? = n.cs[j]? := by
  induction L generalizing i with
  | nil => simp at h
  | cons x L ih =>
    show (x.cs ++ flF L)[i * 15 + j]? = _
    cases i with
    | zero =>
      simp only [List.getElem?_cons_zero, Option.some.injEq] at h
      subst h
      rw [List.getElem?_append_left (by rw [cs_length]; omega), Nat.zero_mul, Nat.zero_add]
    | succ i =>
      rw [List.getElem?_append_right (by rw [cs_length]; omega), cs_length, show (i + 1) * 15 + j - 15 = i * 15 + j by omega]
      exact ih i (by simpa using h)
theorem bad_range {w : World} {g : Nat} (h : w.heap[g]? = some (.cells (flF bads).toArray 36 (0, 0))) (i : Nat) (hi : i < 12) : w.rangeAt g (i * 15) (bad i).cs := fun j u hu => by
  have hj : j < 15 := by
    rcases Nat.lt_or_ge j 15 with q | q
    · exact q
    · rw [List.getElem?_eq_none (by rw [cs_length]; exact q)] at hu; cases hu
  have hb : bads[i]? = some (bad i) := by
    unfold bad
    rw [List.getD_eq_getElem?_getD, List.getElem?_eq_getElem (show i < bads.length from hi)]
    rfl
  have := flF_get bads i j (bad i) hb hj
  rw [hu] at this
  rw [cell_of_row w g _ _ _ _ h]
  simpa using this
theorem rangeF {w wr : World} {b k : Nat} {n : FL} (hb : b < w.heap.size) (h : w.rangeAt b k n.cs) (hB : Below w.heap.size w wr) : ∀ w', (∃ p : Regrown, w' = grow (redrawn wr p.d) p.os) → w'.rangeAt b k n.cs := by
  rintro w' ⟨p, rfl⟩ j u hu
  exact ((hB.trans ((below_regrown wr p.d p.os).mono hB.size)).cell (p := ⟨b, k + j, none⟩) hb).trans (h j u hu)
theorem q_loadF {C : World → Prop} {o : Oper} {a : Act} {K : Act → Prop} (x : Operand) (ho : o.op = .load 36 x) (b k : Nat) (hx : a.eval x = .pointer (some ⟨b, k, none⟩)) (n : FL) (hC : ∀ w, C w → w.rangeAt b k n.cs) (h : K (a.put o.dst (.agg n.cs.toArray))) : o.quiet Try.prog a C K :=
  ⟨.agg n.cs.toArray, fun w hw => by
    have hr := run_loadAt_mid w b k 36 n.cs _ (hC w hw) Try.underlying36 rfl szF
    unfold Oper.quietAt execOp
    simp only [ho, hx, Sem.run_bind, hr, Sem.run_pure, Result.andThen_ok, Oper.quietUpon, and_self], h⟩
theorem run_lit12 (w : World) : (Instr.buildSlice 42 12 #[(0, (bad 0).v), (1, (bad 1).v), (2, (bad 2).v), (3, (bad 3).v), (4, (bad 4).v), (5, (bad 5).v), (6, (bad 6).v), (7, (bad 7).v), (8, (bad 8).v), (9, (bad 9).v), (10, (bad 10).v), (11, (bad 11).v)]).run Try.prog w = .ok (.slice (some ⟨w.heap.size, 0, none⟩) 12 12) (w.alloc (.cells (flF bads).toArray 36)) := by kernel_rfl
theorem at_lit12 {ops : Array Oper} {rest : List Oper} {o : Oper} {a : Act} {w : World} {Q : Exit → Act → World → Prop} (hgd : o.guard = none) (y0 y1 y2 y3 y4 y5 y6 y7 y8 y9 y10 y11 : Operand) (ho : o.op = .buildSlice 42 12 #[(0, y0), (1, y1), (2, y2), (3, y3), (4, y4), (5, y5), (6, y6), (7, y7), (8, y8), (9, y9), (10, y10), (11, y11)])
    (h0 : a.eval y0 = (bad 0).v) (h1 : a.eval y1 = (bad 1).v) (h2 : a.eval y2 = (bad 2).v) (h3 : a.eval y3 = (bad 3).v) (h4 : a.eval y4 = (bad 4).v) (h5 : a.eval y5 = (bad 5).v) (h6 : a.eval y6 = (bad 6).v) (h7 : a.eval y7 = (bad 7).v) (h8 : a.eval y8 = (bad 8).v) (h9 : a.eval y9 = (bad 9).v) (h10 : a.eval y10 = (bad 10).v) (h11 : a.eval y11 = (bad 11).v)
    (h : ∀ w', w'.heap[w.heap.size]? = some (.cells (flF bads).toArray 36 (0, 0)) → Below w.heap.size w w' → wpList Try.prog ops Q rest (a.put o.dst (.slice (some ⟨w.heap.size, 0, none⟩) 12 12)) w') : wpList Try.prog ops Q (o :: rest) a w :=
  wpList_plain hgd fun _ hK => by
    unfold Oper.wp execOp
    simp only [ho, List.map_toArray, List.map_cons, List.map_nil, h0, h1, h2, h3, h4, h5, h6, h7, h8, h9, h10, h11, Sem.run_bind, run_lit12, Result.andThen_ok, Sem.run_pure]
    exact hK _ _ (h _ (World.alloc_heap_new w _) ((Below.refl _ w).alloc (Nat.le_refl _) _))
theorem run_errs (w : World) : (Instr.buildSlice 43 12 #[(0, .int .i64 2), (1, .int .i64 2), (2, .int .i64 3), (3, .int .i64 6), (4, .int .i64 3), (5, .int .i64 3), (6, .int .i64 2), (7, .int .i64 2), (8, .int .i64 2), (9, .int .i64 2), (10, .int .i64 3), (11, .int .i64 0)]).run Try.prog w = .ok (.slice (some ⟨w.heap.size, 0, none⟩) 12 12) (w.alloc (.cells (errs.map (Value.int .i64)).toArray 24)) := by kernel_rfl
theorem at_errs {ops : Array Oper} {rest : List Oper} {o : Oper} {a : Act} {w : World} {Q : Exit → Act → World → Prop} (hgd : o.guard = none) (ho : o.op = .buildSlice 43 12 #[(0, .const (.int .i64 2)), (1, .const (.int .i64 2)), (2, .const (.int .i64 3)), (3, .const (.int .i64 6)), (4, .const (.int .i64 3)), (5, .const (.int .i64 3)), (6, .const (.int .i64 2)), (7, .const (.int .i64 2)), (8, .const (.int .i64 2)), (9, .const (.int .i64 2)), (10, .const (.int .i64 3)), (11, .const (.int .i64 0))])
    (h : ∀ w', (∀ i, i < 12 → w'.cell? ⟨w.heap.size, i, none⟩ = some (.int .i64 (errs.getD i 0))) → Below w.heap.size w w' → w'.heap.size = w.heap.size + 1 → wpList Try.prog ops Q rest (a.put o.dst (.slice (some ⟨w.heap.size, 0, none⟩) 12 12)) w') : wpList Try.prog ops Q (o :: rest) a w :=
  wpList_plain hgd fun _ hK => by
    have e : ∀ k, a.eval (.const (.int .i64 k)) = .int .i64 k := fun _ => rfl
    unfold Oper.wp execOp
    simp only [ho, List.map_toArray, List.map_cons, List.map_nil, e, Sem.run_bind, run_errs, Result.andThen_ok, Sem.run_pure]
    refine hK _ _ (h _ (fun i hi => ?_) ((Below.refl _ w).alloc (Nat.le_refl _) _) (by simp))
    have e := World.alloc_heap_new w (.cells (errs.map (Value.int .i64)).toArray 24)
    simp only [World.cell?, e]
    match i, hi with
    | 0, _ => rfl
    | 1, _ => rfl
    | 2, _ => rfl
    | 3, _ => rfl
    | 4, _ => rfl
    | 5, _ => rfl
    | 6, _ => rfl
    | 7, _ => rfl
    | 8, _ => rfl
    | 9, _ => rfl
    | 10, _ => rfl
    | 11, _ => rfl
end Go.Proofs.Ytgpjelcihmbiiaa
