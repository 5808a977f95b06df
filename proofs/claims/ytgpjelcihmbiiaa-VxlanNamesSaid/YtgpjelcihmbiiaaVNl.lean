/- The examples of the chapter; packets that are not valid. No condition. -/
import Derived.Test.YtgpjelcihmbiiaaVGm
import Derived.Test.YtgpjelcihmbiiaaPNl
namespace Go.Proofs.Ytgpjelcihmbiiaa
open Go.RowKit Go.Sort
set_option linter.unusedVariables false
set_option linter.unusedSimpArgs false
set_option maxRecDepth 100000

def vexB : List Int := [69, 0, 0, 58, 0, 0, 0, 0, 16, 17, 148, 179, 10, 255, 0, 1, 10, 255, 0, 2, 195, 80, 18, 181, 0, 38, 0, 0, 8, 0, 0, 0, 0, 0, 100, 0, 255, 255, 255, 255, 255, 255, 2, 0, 0, 0, 0, 1, 136, 181, 0, 0, 0, 0, 0, 0, 0, 7]
theorem exP_enc : exP.enc = vexB := by decide +kernel
theorem vread_head {xs : List Int} (h : hfE xs ≠ 0) : vQ xs = P0 ∧ vE xs = hfE xs ∧ vA xs = hfA xs := by
  have hp : ¬ Pack xs := fun p => h p.1
  exact ⟨by unfold vQ; rw [if_neg hp], by unfold vE; rw [if_pos h], by unfold vA; rw [if_pos h]⟩
theorem vread_fr {xs : List Int} (h : hfE xs = 0) (hx : rdX (xs.drop 36) ≠ 0) : vQ xs = P0 ∧ vE xs = rdX (xs.drop 36) ∧ vA xs = fA (xs.drop 36) := by
  have hp : ¬ Pack xs := fun p => hx p.2.1
  exact ⟨by unfold vQ; rw [if_neg hp], by unfold vE; rw [if_neg (by simp [h]), if_pos hx], by unfold vA; rw [if_neg (by simp [h]), if_pos hx]⟩
theorem vread_no {xs : List Int} (h : hfE xs = 0) (hx : rdX (xs.drop 36) = 0) (hp : ¬ Pack xs) : vQ xs = P0 ∧ vE xs = 3 ∧ vA xs = 0 :=
  ⟨by unfold vQ; rw [if_neg hp], by unfold vE; rw [if_neg (by simp [h]), if_neg (by simp [hx]), if_neg hp], by unfold vA; rw [if_neg (by simp [h]), if_neg (by simp [hx])]⟩
theorem nm_1 : vQ [0, 0, 0, 0, 0, 0, 0, 0, 0, 0, 0, 0, 0, 0, 0, 0, 0, 0, 0, 0, 0, 0, 0, 0, 0, 0, 0, 0, 0, 0, 0, 0, 0, 0, 0] = P0 ∧ vE [0, 0, 0, 0, 0, 0, 0, 0, 0, 0, 0, 0, 0, 0, 0, 0, 0, 0, 0, 0, 0, 0, 0, 0, 0, 0, 0, 0, 0, 0, 0, 0, 0, 0, 0] = 4 ∧ vA [0, 0, 0, 0, 0, 0, 0, 0, 0, 0, 0, 0, 0, 0, 0, 0, 0, 0, 0, 0, 0, 0, 0, 0, 0, 0, 0, 0, 0, 0, 0, 0, 0, 0, 0] = 35 := by
  have := vread_head (xs := [0, 0, 0, 0, 0, 0, 0, 0, 0, 0, 0, 0, 0, 0, 0, 0, 0, 0, 0, 0, 0, 0, 0, 0, 0, 0, 0, 0, 0, 0, 0, 0, 0, 0, 0]) (by decide +kernel)
  rwa [show hfE [0, 0, 0, 0, 0, 0, 0, 0, 0, 0, 0, 0, 0, 0, 0, 0, 0, 0, 0, 0, 0, 0, 0, 0, 0, 0, 0, 0, 0, 0, 0, 0, 0, 0, 0] = 4 by decide +kernel, show hfA [0, 0, 0, 0, 0, 0, 0, 0, 0, 0, 0, 0, 0, 0, 0, 0, 0, 0, 0, 0, 0, 0, 0, 0, 0, 0, 0, 0, 0, 0, 0, 0, 0, 0, 0] = 35 by decide +kernel] at this
theorem nm_2 : vQ [0, 0, 0, 0, 0, 0, 0, 0, 0, 0, 0, 0, 0, 0, 0, 0, 0, 0, 0, 0, 0, 0, 0, 0, 0, 0, 0, 0, 0, 0, 0, 0, 0, 0, 0, 0] = P0 ∧ vE [0, 0, 0, 0, 0, 0, 0, 0, 0, 0, 0, 0, 0, 0, 0, 0, 0, 0, 0, 0, 0, 0, 0, 0, 0, 0, 0, 0, 0, 0, 0, 0, 0, 0, 0, 0] = 6 ∧ vA [0, 0, 0, 0, 0, 0, 0, 0, 0, 0, 0, 0, 0, 0, 0, 0, 0, 0, 0, 0, 0, 0, 0, 0, 0, 0, 0, 0, 0, 0, 0, 0, 0, 0, 0, 0] = 9 := by
  have := vread_head (xs := [0, 0, 0, 0, 0, 0, 0, 0, 0, 0, 0, 0, 0, 0, 0, 0, 0, 0, 0, 0, 0, 0, 0, 0, 0, 0, 0, 0, 0, 0, 0, 0, 0, 0, 0, 0]) (by decide +kernel)
  rwa [show hfE [0, 0, 0, 0, 0, 0, 0, 0, 0, 0, 0, 0, 0, 0, 0, 0, 0, 0, 0, 0, 0, 0, 0, 0, 0, 0, 0, 0, 0, 0, 0, 0, 0, 0, 0, 0] = 6 by decide +kernel, show hfA [0, 0, 0, 0, 0, 0, 0, 0, 0, 0, 0, 0, 0, 0, 0, 0, 0, 0, 0, 0, 0, 0, 0, 0, 0, 0, 0, 0, 0, 0, 0, 0, 0, 0, 0, 0] = 9 by decide +kernel] at this
theorem nm_3 : vQ (exP.enc.take 57) = P0 ∧ vE (exP.enc.take 57) = 4 ∧ vA (exP.enc.take 57) = 57 := by
  rw [exP_enc]
  have e1 : rdX ((vexB.take 57).drop 36) = 4 := by decide +kernel
  have := vread_fr (xs := vexB.take 57) (by decide +kernel) (by rw [e1]; decide)
  rwa [e1, show fA ((vexB.take 57).drop 36) = 57 by decide +kernel] at this
theorem nm_4 : vQ (exP.enc.set 23 182) = P0 ∧ vE (exP.enc.set 23 182) = 6 ∧ vA (exP.enc.set 23 182) = 22 := by
  rw [exP_enc]
  have := vread_head (xs := vexB.set 23 182) (by decide +kernel)
  rwa [show hfE (vexB.set 23 182) = 6 by decide +kernel, show hfA (vexB.set 23 182) = 22 by decide +kernel] at this
theorem nm_5 : vQ (exP.enc.set 35 1) = P0 ∧ vE (exP.enc.set 35 1) = 3 ∧ vA (exP.enc.set 35 1) = 0 := by
  have hp := set_bad exP_ok exP_chk 35 (.inr (.inr rfl)) 1 (by decide) (by rw [exP_enc]; decide)
  rw [exP_enc] at hp ⊢
  exact vread_no (by decide +kernel) (by decide +kernel) hp
theorem hsh_0 : hsh [0] = 84696351 := by decide +kernel
def vbads : List PL := [⟨184483841, 184483842, 256, 50000, 100, 0, ⟨2199023255553, 281474976710655, 0, 0, 0, 0, 0, 0, 0, 0, 0, 0, 0, 0, 7⟩⟩, ⟨184483841, 184483842, 16, -1, 100, 0, ⟨2199023255553, 281474976710655, 0, 0, 0, 0, 0, 0, 0, 0, 0, 0, 0, 0, 7⟩⟩, ⟨184483841, 184483842, 16, 50000, 16777216, 0, ⟨2199023255553, 281474976710655, 0, 0, 0, 0, 0, 0, 0, 0, 0, 0, 0, 0, 7⟩⟩, ⟨184483841, 184483842, 16, 50000, 100, 16777216, ⟨2199023255553, 281474976710655, 0, 0, 0, 0, 0, 0, 0, 0, 0, 0, 0, 0, 7⟩⟩, ⟨184483841, 184483842, 16, 50000, 100, 0, ⟨2199023255553, 281474976710655, 7, 0, 0, 0, 0, 0, 0, 0, 0, 0, 0, 0, 7⟩⟩]
def vbad (i : Nat) : PL := vbads.getD i P0
def verrs : List Int := [2, 2, 2, 2, 6]
theorem vbad_chk : ∀ i, i < 5 → (vbad i).chk = verrs.getD i 0 := by decide +kernel
def pkF (l : List PL) : List Value := l.flatMap PL.cs
theorem pkF_get (L : List PL) (i j : Nat) (n : PL) (h : L[i]? = some n) (hj : j < 21) : (pkF L)[i * 21 + j]? = n.cs[j]? := by
  induction L generalizing i with
  | nil => simp at h
  | cons x L ih =>
    show (x.cs ++ pkF L)[i * 21 + j]? = _
    cases i with
    | zero =>
      simp only [List.getElem?_cons_zero, Option.some.injEq] at h
      subst h
      rw [List.getElem?_append_left (by rw [pcs_length]; omega), Nat.zero_mul, Nat.zero_add]
    | succ i =>
      rw [List.getElem?_append_right (by rw [pcs_length]; omega), pcs_length, show (i + 1) * 21 + j - 21 = i * 21 + j by omega]
      exact ih i (by simpa using h)
theorem vbad_range {w : World} {g : Nat} (h : Blk w g 55 (pkF vbads)) (i : Nat) (hi : i < 5) : w.rangeAt g (i * 21) (vbad i).cs := fun j u hu => by
  have hj : j < 21 := by
    rcases Nat.lt_or_ge j 21 with q | q
    · exact q
    · rw [List.getElem?_eq_none (by rw [pcs_length]; exact q)] at hu; cases hu
  have hb : vbads[i]? = some (vbad i) := by
    unfold vbad
    rw [List.getD_eq_getElem?_getD, List.getElem?_eq_getElem (show i < vbads.length from hi)]
    rfl
  have := pkF_get vbads i j (vbad i) hb hj
  rw [hu] at this
  exact h.cell (i * 21 + j) this
theorem rangeP {w wr : World} {b k : Nat} {n : PL} (hb : b < w.heap.size) (h : w.rangeAt b k n.cs) (hB : Below w.heap.size w wr) : ∀ w', (∃ p : Regrown, w' = grow (redrawn wr p.d) p.os) → w'.rangeAt b k n.cs := by
  rintro w' ⟨p, rfl⟩ j u hu
  exact ((hB.trans ((below_regrown wr p.d p.os).mono hB.size)).cell (p := ⟨b, k + j, none⟩) hb).trans (h j u hu)
theorem q_loadP {C : World → Prop} {o : Oper} {a : Act} {K : Act → Prop} (x : Operand) (ho : o.op = .load 55 x) (b k : Nat) (hx : a.eval x = .pointer (some ⟨b, k, none⟩)) (n : PL) (hC : ∀ w, C w → w.rangeAt b k n.cs) (h : K (a.put o.dst (.agg n.cs.toArray))) : o.quiet Try.prog a C K :=
  ⟨.agg n.cs.toArray, fun w hw => by
    have hr := run_loadAt_mid w b k 55 n.cs _ (hC w hw) Try.underlying55 rfl szP
    unfold Oper.quietAt execOp
    simp only [ho, hx, Sem.run_bind, hr, Sem.run_pure, Result.andThen_ok, Oper.quietUpon, and_self], h⟩
def exs : List PL := [exP, exP, exP, exP, exP]
theorem run_verrs (w : World) : (Instr.buildSlice 43 5 #[(0, .int .i64 2), (1, .int .i64 2), (2, .int .i64 2), (3, .int .i64 2), (4, .int .i64 6)]).run Try.prog w = .ok (.slice (some ⟨w.heap.size, 0, none⟩) 5 5) (w.alloc (.cells (verrs.map (Value.int .i64)).toArray 24)) := by kernel_rfl
theorem at_verrs {ops : Array Oper} {rest : List Oper} {o : Oper} {a : Act} {w : World} {Q : Exit → Act → World → Prop} (hgd : o.guard = none) (ho : o.op = .buildSlice 43 5 #[(0, .const (.int .i64 2)), (1, .const (.int .i64 2)), (2, .const (.int .i64 2)), (3, .const (.int .i64 2)), (4, .const (.int .i64 6))])
    (h : ∀ w', (∀ i, i < 5 → w'.cell? ⟨w.heap.size, i, none⟩ = some (.int .i64 (verrs.getD i 0))) → Below w.heap.size w w' → w'.heap.size = w.heap.size + 1 → wpList Try.prog ops Q rest (a.put o.dst (.slice (some ⟨w.heap.size, 0, none⟩) 5 5)) w') : wpList Try.prog ops Q (o :: rest) a w :=
  wpList_plain hgd fun _ hK => by
    have e : ∀ k, a.eval (.const (.int .i64 k)) = .int .i64 k := fun _ => rfl
    unfold Oper.wp execOp
    simp only [ho, List.map_toArray, List.map_cons, List.map_nil, e, Sem.run_bind, run_verrs, Result.andThen_ok, Sem.run_pure]
    refine hK _ _ (h _ (fun i hi => ?_) ((Below.refl _ w).alloc (Nat.le_refl _) _) (by simp))
    have e := World.alloc_heap_new w (.cells (verrs.map (Value.int .i64)).toArray 24)
    simp only [World.cell?, e]
    match i, hi with
    | 0, _ => rfl
    | 1, _ => rfl
    | 2, _ => rfl
    | 3, _ => rfl
    | 4, _ => rfl
def bd0 : List Value := pkF exs
def bd1 : List Value := bd0.set 2 (.int .i64 256)
def bd2 : List Value := bd1.set 24 (.int .i64 (-1))
def bd3 : List Value := bd2.set 46 (.int .u32 16777216)
def bd4 : List Value := bd3.set 68 (.int .u32 16777216)
def bd5 : List Value := bd4.set 92 (.int .i64 7)
theorem bd_end : bd5 = pkF vbads := by rfl
theorem bd_len0 : bd0.length = 105 := by rfl
theorem bd_len1 : bd1.length = 105 := by unfold bd1; rw [List.length_set]; exact bd_len0
theorem bd_len2 : bd2.length = 105 := by unfold bd2; rw [List.length_set]; exact bd_len1
theorem bd_len3 : bd3.length = 105 := by unfold bd3; rw [List.length_set]; exact bd_len2
theorem bd_len4 : bd4.length = 105 := by unfold bd4; rw [List.length_set]; exact bd_len3
theorem bd_set0 : bd0.set 2 (.int .i64 256) = bd1 := rfl
theorem bd_set1 : bd1.set 24 (.int .i64 (-1)) = bd2 := rfl
theorem bd_set2 : bd2.set 46 (.int .u32 16777216) = bd3 := rfl
theorem bd_set3 : bd3.set 68 (.int .u32 16777216) = bd4 := rfl
theorem bd_set4 : bd4.set 92 (.int .i64 7) = bd5 := rfl
attribute [irreducible] bd0 bd1 bd2 bd3 bd4 bd5
theorem run_lit5 (w : World) : (Instr.buildSlice 60 5 #[(0, exP.v), (1, exP.v), (2, exP.v), (3, exP.v), (4, exP.v)]).run Try.prog w = .ok (.slice (some ⟨w.heap.size, 0, none⟩) 5 5) (w.alloc (.cells (pkF exs).toArray 55)) := by kernel_rfl
theorem at_lit5 {ops : Array Oper} {rest : List Oper} {o : Oper} {a : Act} {w : World} {Q : Exit → Act → World → Prop} (hgd : o.guard = none) (y0 y1 y2 y3 y4 : Operand) (ho : o.op = .buildSlice 60 5 #[(0, y0), (1, y1), (2, y2), (3, y3), (4, y4)])
    (h0 : a.eval y0 = exP.v) (h1 : a.eval y1 = exP.v) (h2 : a.eval y2 = exP.v) (h3 : a.eval y3 = exP.v) (h4 : a.eval y4 = exP.v)
    (h : ∀ w', Blk w' w.heap.size 55 bd0 → Below w.heap.size w w' → w'.heap.size = w.heap.size + 1 → wpList Try.prog ops Q rest (a.put o.dst (.slice (some ⟨w.heap.size, 0, none⟩) 5 5)) w') : wpList Try.prog ops Q (o :: rest) a w :=
  wpList_plain hgd fun _ hK => by
    unfold Oper.wp execOp
    simp only [ho, List.map_toArray, List.map_cons, List.map_nil, h0, h1, h2, h3, h4, Sem.run_bind, run_lit5, Result.andThen_ok, Sem.run_pure]
    exact hK _ _ (h _ (by have := Blk.new w 55 (pkF exs); unfold bd0; exact this) ((Below.refl _ w).alloc (Nat.le_refl _) _) (by simp))
theorem i64_one : (Try.prog.info? 3).map (·.size) = some 1 := by kernel_rfl
end Go.Proofs.Ytgpjelcihmbiiaa
