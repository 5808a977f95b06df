/- The identifier of a segment. No condition. -/
import Derived.Test.YtipmfcbpkbkceaaDoorPar
namespace Go.Proofs.YtipmfcbpkbkceaaDoor
open Go.RowKit Go.Shelf
attribute [local go_sem] Oper.semAt_some
set_option linter.unusedVariables false

/-- The bytes of a segment's identifier, when the bytes 'pre' of its number have been laid. -/
def cur (N : Int) (pre : List (Fin 4)) (j : Nat) : Int := if 6 ≤ j ∧ fin4 (j - 6) ∈ pre then byt N (j - 6) else if j = 0 then 3 else 0
def segB (N : Int) (j : Nat) : Int := if 6 ≤ j then byt N (j - 6) else if j = 0 then 3 else 0
theorem cur_nil (N : Int) (j : Nat) : cur N [] j = if j = 0 then 3 else 0 := by simp [cur]
theorem cur_snoc_at (N : Int) (pre : List (Fin 4)) (x : Fin 4) : cur N (pre ++ [x]) (6 + x.val) = byt N x.val := by
  have hx : fin4 x.val = x := by
    apply Fin.ext
    exact fin4_val x.isLt
  simp [cur, Nat.add_sub_cancel_left, hx]
theorem cur_snoc_ne (N : Int) (pre : List (Fin 4)) (x : Fin 4) (j : Nat) (hj : j < 10) (h : j ≠ 6 + x.val) : cur N (pre ++ [x]) j = cur N pre j := by
  unfold cur
  by_cases h6 : 6 ≤ j
  · have : fin4 (j - 6) ≠ x := by
      intro e
      have := congrArg Fin.val e
      rw [fin4_val (by omega)] at this
      omega
    simp [h6, this]
  · simp [h6]
theorem cur_all (N : Int) (j : Nat) (hj : j < 10) : cur N (upto fin4 4) j = segB N j := by
  unfold cur segB
  by_cases h6 : 6 ≤ j
  · have : fin4 (j - 6) ∈ upto fin4 4 := by
      simp only [upto, List.mem_map, List.mem_range]
      exact ⟨j - 6, by omega, rfl⟩
    simp [h6, this]
  · simp [h6]

theorem cellsU8 (w : World) (c : Array Value) (T : TypeId) (e : Nat → Int) (h : ∀ j, j < 10 → c[j]? = some (.int .u8 (e j))) : ∀ j, j < 10 → (w.alloc (.cells c T)).cell? ⟨w.heap.size, j, none⟩ = some (.int .u8 (e j)) ∧ (w.alloc (.cells c T)).frozen? ⟨w.heap.size, j, none⟩ = false :=
  fun j hj => ⟨by rw [World.cell?_alloc_at _ _ _ _ rfl]; exact h j hj, World.frozen?_alloc_at _ _ _ _ rfl⟩
theorem keepU8 {w : World} {b : Nat} {e : Nat → Int} (o : Obj) (h : ∀ j, j < 10 → w.cell? ⟨b, j, none⟩ = some (.int .u8 (e j)) ∧ w.frozen? ⟨b, j, none⟩ = false) : ∀ j, j < 10 → (w.alloc o).cell? ⟨b, j, none⟩ = some (.int .u8 (e j)) ∧ (w.alloc o).frozen? ⟨b, j, none⟩ = false := fun j hj => by
  have hb : b < w.heap.size := block_lt_of_cell (h j hj).1
  rw [World.cell?_alloc_lt _ _ _ hb, World.frozen?_alloc_old _ _ _ (Nat.ne_of_lt hb)]
  exact h j hj

theorem set10_cells (W : World) (b : Nat) (c : Nat → Int) (h : ∀ j, j < 10 → (W.cell? ⟨b, j, none⟩).isSome = true) : ∀ j, j < 10 → ((((((((((W.setCell ⟨b, 0, none⟩ (.int .u8 (c 0))).setCell ⟨b, 1, none⟩ (.int .u8 (c 1))).setCell ⟨b, 2, none⟩ (.int .u8 (c 2))).setCell ⟨b, 3, none⟩ (.int .u8 (c 3))).setCell ⟨b, 4, none⟩ (.int .u8 (c 4))).setCell ⟨b, 5, none⟩ (.int .u8 (c 5))).setCell ⟨b, 6, none⟩ (.int .u8 (c 6))).setCell ⟨b, 7, none⟩ (.int .u8 (c 7))).setCell ⟨b, 8, none⟩ (.int .u8 (c 8))).setCell ⟨b, 9, none⟩ (.int .u8 (c 9))).cell? ⟨b, j, none⟩ = some (.int .u8 (c j)) := by
  intro j hj
  have := World.cell?_setCells_in b [.int .u8 (c 0), .int .u8 (c 1), .int .u8 (c 2), .int .u8 (c 3), .int .u8 (c 4), .int .u8 (c 5), .int .u8 (c 6), .int .u8 (c 7), .int .u8 (c 8), .int .u8 (c 9)] 0 W (fun i hi => by rw [Nat.zero_add]; exact h i (by simpa using hi)) j (by simpa using hj)
  rw [Nat.zero_add] at this
  refine Eq.trans this ?_
  rcases j with _ | _ | _ | _ | _ | _ | _ | _ | _ | _ | j
  all_goals first | rfl | omega

end Go.Proofs.YtipmfcbpkbkceaaDoor
