/- Faults in memory: made and set. No condition. -/
import Derived.Test.YthechpbihfmkoaaNRd
namespace Go.Proofs.Ythechpbihfmkoaa
open Go.RowKit Go.Sort
set_option linter.unusedVariables false
set_option linter.unusedSimpArgs false
set_option maxRecDepth 100000

theorem Flt.below {w w' : World} {b : Nat} {e k : Int} (h : Flt w b e k) (hk : Below w.heap.size w w') : Flt w' b e k := (hk.block b (Array.getElem?_eq_some_iff.1 h).1).trans h
theorem Flt.cells {w : World} {b : Nat} {e k : Int} (h : Flt w b e k) : w.cell? ⟨b, 0, none⟩ = some (.int .i64 e) ∧ w.cell? ⟨b, 1, none⟩ = some (.int .i64 k) := by
  simp only [World.cell?, show w.heap[b]? = _ from h]
  simp
theorem run_newF (w : World) : (Instr.alloc 40 true (.tuple #[])).run Try.prog w = .ok (.pointer (some ⟨w.heap.size, 0, none⟩)) (w.alloc (.cells #[.int .i64 0, .int .i64 0] 40)) := by kernel_rfl
section
variable {ops : Array Oper} {rest : List Oper} {o : Oper} {a : Act} {w : World} {Q : Exit → Act → World → Prop}
theorem at_newF (hgd : o.guard = none) (ho : o.op = .alloc 40)
    (h : ∀ w', Flt w' w.heap.size 0 0 → Below w.heap.size w w' → w'.heap.size = w.heap.size + 1 → wpList Try.prog ops Q rest (a.put o.dst (.pointer (some ⟨w.heap.size, 0, none⟩))) w') : wpList Try.prog ops Q (o :: rest) a w :=
  wpList_plain hgd fun _ hK => by
    unfold Oper.wp execOp
    simp only [ho, Sem.run_bind, run_newF, Result.andThen_ok, Sem.run_pure]
    exact hK _ _ (h _ (World.alloc_heap_new w _) ((Below.refl _ w).alloc (Nat.le_refl _) _) (by simp))
theorem at_storeF (hgd : o.guard = none) (x y : Operand) (ho : o.op = .store 40 x y) (hd : o.dst = none) (b : Nat) (hx : a.eval x = .pointer (some ⟨b, 0, none⟩)) (e k e' k' : Int) (hy : a.eval y = .agg #[.int .i64 e', .int .i64 k']) (hb : Flt w b e k)
    (h : ∀ w', Flt w' b e' k' → But w.heap.size b w w' → w'.heap.size = w.heap.size → wpList Try.prog ops Q rest a w') : wpList Try.prog ops Q (o :: rest) a w :=
  wpList_store_row hgd _ x y ho b _ hx hy _ _ hb (flt_size e' k') rfl (by simp [Value.oneCell']) (by rw [hd]; exact h _ (setRow_heap w b _ _ _ _ hb) ⟨rfl, rfl, rfl, by simp [World.setRow], fun i hi hn => by simp [World.setRow, Array.getElem?_modify, Ne.symm hn]⟩ (by simp [World.setRow]))
theorem at_loadF (hgd : o.guard = none) (x : Operand) (ho : o.op = .load 40 x) (b : Nat) (hx : a.eval x = .pointer (some ⟨b, 0, none⟩)) (e k : Int) (hb : Flt w b e k)
    (h : wpList Try.prog ops Q rest (a.put o.dst (.agg #[.int .i64 e, .int .i64 k])) w) : wpList Try.prog ops Q (o :: rest) a w :=
  wpList_load_mid hgd _ x ho b 0 hx [.int .i64 e, .int .i64 k] _ (fun j u hu => by
    obtain ⟨c0, c1⟩ := hb.cells
    match j, hu with
    | 0, hu => simp at hu; subst hu; exact c0
    | 1, hu => simp at hu; subst hu; exact c1) Try.underlying40 rfl (flt_size e k) h
end
end Go.Proofs.Ythechpbihfmkoaa
