/- NlriNames: laws of its walk. No condition. -/
import Derived.Test.YthechpbihfmkoaaNCv
import Derived.Test.YthechpbihfmkoaaNFl
namespace Go.Proofs.Ythechpbihfmkoaa
open Go.RowKit Go.Sort
set_option linter.unusedVariables false
set_option linter.unusedSimpArgs false
set_option maxRecDepth 100000

theorem Cv.below {B : Nat} {w w' : World} {v : Value} {xs : List Int} (h : Cv B w v xs) (k : Below w.heap.size w w') : Cv B w' v xs := by
  obtain ⟨g, cur, rfl, hB, hg, r⟩ := h
  exact ⟨g, cur, rfl, hB, (k.block g (Array.getElem?_eq_some_iff.1 hg).1).trans hg, r⟩
section
variable {ops : Array Oper} {rest : List Oper} {o : Oper} {a : Act} {w : World} {Q : Exit → Act → World → Prop}
theorem at_conv (hgd : o.guard = none) (x : Operand) (ho : o.op = .convert 9 23 x) (s : ByteArray) (hx : a.eval x = .string s) (xs : List Int) (hs : s.data.toList.map (fun b => (b.toNat : Int)) = xs) (hm : xs.length ≤ 1000)
    (h : ∀ v w', Cv w.heap.size w' v xs → Below w.heap.size w w' → wpList Try.prog ops Q rest (a.put o.dst v) w') : wpList Try.prog ops Q (o :: rest) a w :=
  wpList_plain hgd fun _ hK => by
    obtain ⟨v, w', hr, hc, hb⟩ := conv_is w s xs hs hm
    unfold Oper.wp execOp
    simp only [ho, hx, Sem.run_bind, hr, Result.andThen_ok, Sem.run_pure]
    exact hK _ _ (h v w' hc hb)
end
def bads : List NL := [NL.zero, ⟨6, 0, fun _ => 0, 0, 0, 0, false, 0, 0, 0, 0, 0⟩, ⟨2, 0, fun _ => 0, 0, 0, 1, false, 0, 0, 0, 0, 0⟩, ⟨3, 0, fun _ => 0, 0, 0, 0, false, 0, 0, 0, 0, 0⟩, ⟨4, 0, fun _ => 0, 1, 0, 0, true, 0, 0, 0, 0, 0⟩, ⟨1, 0, fun _ => 0, 0, 1, 0, false, 0, 0, 0, 0, 0⟩, ⟨2, 0, fun _ => 0, 0, 281474976710656, 0, false, 0, 0, 0, 0, 0⟩, ⟨1, 0, fun _ => 0, 0, 0, 0, false, 0, 0, 0, 16777216, 0⟩, ⟨5, 0, fun _ => 0, 0, 0, 0, false, 0, 33, 0, 0, 0⟩, ⟨5, 0, fun _ => 0, 0, 0, 0, false, 1, 8, 0, 0, 0⟩]
def bad (i : Nat) : NL := bads.getD i NL.zero
def errs : List Int := [6, 6, 3, 3, 3, 3, 2, 2, 2, 3]
theorem bad_chk : ∀ i, i < 10 → (bad i).chk = errs.getD i 0 := by decide +kernel
theorem run_lit10 (w : World) : (Instr.buildSlice 38 10 #[(0, (bad 0).v), (1, (bad 1).v), (2, (bad 2).v), (3, (bad 3).v), (4, (bad 4).v), (5, (bad 5).v), (6, (bad 6).v), (7, (bad 7).v), (8, (bad 8).v), (9, (bad 9).v)]).run Try.prog w = .ok (.slice (some ⟨w.heap.size, 0, none⟩) 10 10) (w.alloc (.cells (flN bads).toArray 36)) := by kernel_rfl
theorem at_lit10 {ops : Array Oper} {rest : List Oper} {o : Oper} {a : Act} {w : World} {Q : Exit → Act → World → Prop} (hgd : o.guard = none) (y0 y1 y2 y3 y4 y5 y6 y7 y8 y9 : Operand) (ho : o.op = .buildSlice 38 10 #[(0, y0), (1, y1), (2, y2), (3, y3), (4, y4), (5, y5), (6, y6), (7, y7), (8, y8), (9, y9)])
    (h0 : a.eval y0 = (bad 0).v) (h1 : a.eval y1 = (bad 1).v) (h2 : a.eval y2 = (bad 2).v) (h3 : a.eval y3 = (bad 3).v) (h4 : a.eval y4 = (bad 4).v) (h5 : a.eval y5 = (bad 5).v) (h6 : a.eval y6 = (bad 6).v) (h7 : a.eval y7 = (bad 7).v) (h8 : a.eval y8 = (bad 8).v) (h9 : a.eval y9 = (bad 9).v)
    (h : ∀ w', w'.heap[w.heap.size]? = some (.cells (flN bads).toArray 36 (0, 0)) → Below w.heap.size w w' → wpList Try.prog ops Q rest (a.put o.dst (.slice (some ⟨w.heap.size, 0, none⟩) 10 10)) w') : wpList Try.prog ops Q (o :: rest) a w :=
  wpList_plain hgd fun _ hK => by
    unfold Oper.wp execOp
    simp only [ho, List.map_toArray, List.map_cons, List.map_nil, h0, h1, h2, h3, h4, h5, h6, h7, h8, h9, Sem.run_bind, run_lit10, Result.andThen_ok, Sem.run_pure]
    exact hK _ _ (h _ (World.alloc_heap_new w _) ((Below.refl _ w).alloc (Nat.le_refl _) _))
theorem load_e {w : World} {b k : Nat} {e : Int} (h : w.cell? ⟨b, k, none⟩ = some (.int .i64 e)) : (loadVar 24 ⟨b, k, none⟩).run Try.prog w = .ok (.int .i64 e) w := by
  simp [go_sem, h]
theorem q_loadE {C : World → Prop} {o : Oper} {a : Act} {K : Act → Prop} (x : Operand) (ho : o.op = .load 24 x) (b k : Nat) (hx : a.eval x = .pointer (some ⟨b, k, none⟩)) (e : Int) (hC : ∀ w, C w → w.cell? ⟨b, k, none⟩ = some (.int .i64 e)) (h : K (a.put o.dst (.int .i64 e))) : o.quiet Try.prog a C K :=
  ⟨.int .i64 e, fun w hw => by
    unfold Oper.quietAt execOp
    simp only [ho, hx, Instr.loadAt, Instr.sureAddr, Sem.run_bind, Sem.run_pure, Result.andThen_ok, load_e (hC w hw), Oper.quietUpon, and_self], h⟩
theorem cellE {w wr : World} {b k : Nat} {e : Int} (hb : b < wr.heap.size) (h : wr.cell? ⟨b, k, none⟩ = some (.int .i64 e)) : ∀ w', (∃ p : Regrown, w' = grow (redrawn wr p.d) p.os) → w'.cell? ⟨b, k, none⟩ = some (.int .i64 e) := by
  rintro w' ⟨p, rfl⟩
  exact ((below_regrown wr p.d p.os).cell (p := ⟨b, k, none⟩) hb).trans h
theorem run_errs (w : World) : (Instr.buildSlice 47 10 #[(0, .int .i64 6), (1, .int .i64 6), (2, .int .i64 3), (3, .int .i64 3), (4, .int .i64 3), (5, .int .i64 3), (6, .int .i64 2), (7, .int .i64 2), (8, .int .i64 2), (9, .int .i64 3)]).run Try.prog w = .ok (.slice (some ⟨w.heap.size, 0, none⟩) 10 10) (w.alloc (.cells (errs.map (Value.int .i64)).toArray 24)) := by kernel_rfl
theorem at_errs {ops : Array Oper} {rest : List Oper} {o : Oper} {a : Act} {w : World} {Q : Exit → Act → World → Prop} (hgd : o.guard = none) (ho : o.op = .buildSlice 47 10 #[(0, .const (.int .i64 6)), (1, .const (.int .i64 6)), (2, .const (.int .i64 3)), (3, .const (.int .i64 3)), (4, .const (.int .i64 3)), (5, .const (.int .i64 3)), (6, .const (.int .i64 2)), (7, .const (.int .i64 2)), (8, .const (.int .i64 2)), (9, .const (.int .i64 3))])
    (h : ∀ w', (∀ i, i < 10 → w'.cell? ⟨w.heap.size, i, none⟩ = some (.int .i64 (errs.getD i 0))) → Below w.heap.size w w' → w'.heap.size = w.heap.size + 1 → wpList Try.prog ops Q rest (a.put o.dst (.slice (some ⟨w.heap.size, 0, none⟩) 10 10)) w') : wpList Try.prog ops Q (o :: rest) a w :=
  wpList_plain hgd fun _ hK => by
    have e : ∀ k, a.eval (.const (.int .i64 k)) = .int .i64 k := fun _ => rfl
    unfold Oper.wp execOp
    simp only [ho, List.map_toArray, List.map_cons, List.map_nil, e, Sem.run_bind, run_errs, Result.andThen_ok, Sem.run_pure]
    refine hK _ _ (h _ (fun i hi => ?_) ((Below.refl _ w).alloc (Nat.le_refl _) _) (by simp))
    have e := World.alloc_heap_new w (.cells (errs.map (Value.int .i64)).toArray 24)
    simp only [World.cell?, e]
    match i, hi with
    | 0, _ => rfl
    | 1, _ => rfl
    | 2, _ => rfl
    | 3, _ => rfl
    | 4, _ => rfl
    | 5, _ => rfl
    | 6, _ => rfl
    | 7, _ => rfl
    | 8, _ => rfl
    | 9, _ => rfl
theorem bad_range {w : World} {g : Nat} (h : w.heap[g]? = some (.cells (flN bads).toArray 36 (0, 0))) (i : Nat) (hi : i < 10) : w.rangeAt g (i * 21) (bad i).cs := fun j u hu => by
  have hj : j < 21 := by
    rcases Nat.lt_or_ge j 21 with q | q
    · exact q
    · rw [List.getElem?_eq_none (by rw [NL.cs_length]; exact q)] at hu; cases hu
  have hb : bads[i]? = some (bad i) := by
    unfold bad
    rw [List.getD_eq_getElem?_getD, List.getElem?_eq_getElem (show i < bads.length from hi)]
    rfl
  have := flN_get bads i j (bad i) hb hj
  rw [hu] at this
  simp only [World.cell?, h]
  simpa using this
theorem results_tmps3 {P : Program} {fn : Func} {p q u : Tmp} (h : fn.results = #[.tmp p, .tmp q, .tmp u]) (tmps : Array Value) (w : World) : (results fn tmps).run P w = .ok (.tuple #[tmps.getD p undef, tmps.getD q undef, tmps.getD u undef]) w := by
  simp [results, h]
theorem rdof_yes (w : World) : Calls Try.prog 13 #[.int .u64 293565309714437] w fun r w' => r = .returned (.tuple #[.int .u32 184483841, .int .u16 5, .bool true]) ∧ w = w' := by
  go_enter Try.func13, Try.ntmps13
  go_wp2
  refine bodyPost_ret (results_tmps3 (by rfl) _ _) rfl ?_
  exact ⟨rfl, rfl⟩
theorem rdof_no (w : World) : Calls Try.prog 13 #[.int .u64 5] w fun r w' => r = .returned (.tuple #[.int .u32 0, .int .u16 0, .bool false]) ∧ w = w' := by
  go_enter Try.func13, Try.ntmps13
  go_wp2
  refine bodyPost_ret (results_tmps3 (by rfl) _ _) rfl ?_
  exact ⟨rfl, rfl⟩
/-- The string of the example. -/
def exS : ByteArray := ⟨#[2, 33, 0, 0, 0, 0, 0, 0, 0, 0, 0, 0, 0, 0, 0, 0, 0, 0, 0, 0, 0, 0, 0, 0, 48, 2, 0, 0, 0, 0, 7, 0, 0, 0, 100]⟩
theorem exS_app : ((⟨#[2, 33]⟩ : ByteArray) ++ ⟨#[0, 0, 0, 0, 0, 0, 0, 0, 0, 0, 0, 0, 0, 0, 0, 0, 0, 0, 0, 0, 0, 0]⟩ ++ ⟨#[48, 2, 0, 0, 0, 0, 7, 0, 0, 0, 100]⟩) = exS := by kernel_rfl
theorem exS_code : exS.data.toList.map (fun b => (b.toNat : Int)) = exM.code := by rw [exM_code]; decide
theorem exS_is : strOfNums exM.code = exS := by rw [exM_code]; rfl

end Go.Proofs.Ythechpbihfmkoaa
