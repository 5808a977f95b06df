/- AddrNodes returns true, whatever the input: the cases. No condition. -/
import Derived.Test.YtogkkcbmopdbnaaNoL
namespace Go.Proofs.Ytogkkcbmopdbnaa
open Go.RowKit Go.Sort
set_option linter.unusedVariables false


set_option maxRecDepth 100000 in
set_option maxHeartbeats 1000000 in
theorem nodesLaw_H (n m : Int) (s0 : 0 ≤ n) (s2 : n < 32) (f : lbE m = 0) (i : sgE m = 0) (q : eqE (segB (n + 1)) (sgB m) = true) (nm : (n == m) = true) (ab : (184483841 + n == lbA m) = true) (w : World) :
    Calls Try.prog 5 #[.int .i64 n, .int .i64 m] w fun e w' => e = .returned (.bool true) ∧ Below w.heap.size w w' := by
  have S := St.start w
  have s1 : n < 64 := by omega
  have hq := run_eqE (segB (n + 1)) (sgB m)
  rw [q] at hq
  have hmk : ∀ w, (Instr.makeSlice 52 (.int .i64 10) (.int .i64 10)).run Try.prog w = .ok (.slice (some ⟨w.heap.size, 0, none⟩) 10 10) (w.alloc (.cells #[.int .u8 0, .int .u8 0, .int .u8 0, .int .u8 0, .int .u8 0, .int .u8 0, .int .u8 0, .int .u8 0, .int .u8 0, .int .u8 0] 5)) := fun _ => by kernel_rfl
  go_enter Try.func5, Try.ntmps5
  go_wp2_with (first
    | (go_at_call 6; refine (lives_any _).mono ?_; rintro x w1 ⟨rfl, rfl⟩)
    | (go_at_call 12; (with_reducible refine (loop_yes n s0 s2 _).mono ?_); rintro x w1 ⟨rfl, rfl⟩)
    | (go_at_call 12; (with_reducible refine (loop_any m _).mono ?_); rintro x w1 ⟨rfl, rfl⟩)
    | (go_at_call 13; (with_reducible refine (rmac_yes n s0 s2 _).mono ?_); rintro x w1 ⟨rfl, rfl⟩)
    | (go_at_call 15; (with_reducible refine (node_yes n s0 s2 _).mono ?_); rintro x w1 ⟨rfl, rfl⟩)
    | (go_at_call 16; (with_reducible refine (rnode_yes n s0 s2 _).mono ?_); rintro x w1 ⟨rfl, rfl⟩)
    | (go_at_call 17; (with_reducible refine (mcast_no n s0 s2 _).mono ?_); rintro x w1 ⟨rfl, rfl⟩)
    | (go_at_call 14; (with_reducible refine (segment_yes n s0 s1 _).mono ?_); rintro x wA ⟨rfl, hb⟩; (try clear k z); replace S := (by first | exact S.below hb | exact (S.box10 (fun _ => 0) 34).below hb | exact (S.box10 (segB (n + 1)) 34).below hb | exact (S.box10 (sgB m) 34).below hb); clear hb; have k := S.cells; have z := S.lts; simp only [Cells, Lts, and_true] at k z)
    | (go_at_call 14; (with_reducible refine (segment_any m _).mono ?_); rintro x wB ⟨rfl, hb⟩; (try clear k z); replace S := (by first | exact S.below hb | exact (S.box10 (fun _ => 0) 34).below hb | exact (S.box10 (segB (n + 1)) 34).below hb | exact (S.box10 (sgB m) 34).below hb); clear hb; have k := S.cells; have z := S.lts; simp only [Cells, Lts, and_true] at k z)
    | (go_at_call 18; (with_reducible refine (own_seg n s0 s1 _).mono ?_); rintro x wC ⟨rfl, hb⟩; (try clear k z); replace S := (by first | exact S.below hb | exact (S.box10 (fun _ => 0) 34).below hb | exact (S.box10 (segB (n + 1)) 34).below hb | exact (S.box10 (sgB m) 34).below hb); clear hb; have k := S.cells; have z := S.lts; simp only [Cells, Lts, and_true] at k z))
  clear k z
  have e20 : ((2 : Int) != 0) = true := rfl
  have e00 : ((0 : Int) != 0) = false := rfl
  have enn : (n == n) = true := by simp
  refine wp_region_pre S 21 5 rfl (by kernel_rfl) (by kernel_rfl) (by kernel_rfl) (by kernel_rfl) (fun _ d _ _ _ h => by cases d <;> exact h) ?_
  intro W SW k
  simp only [CellsAt, and_true] at k
  have kd : W.cell? ⟨wA.heap.size, 0, none⟩ = some (.int .u8 (segB (n + 1) 0)) := SW.1 (wA.heap.size, 0, .int .u8 (segB (n + 1) 0)) (by simp)
  simp only [List.take_succ_cons, List.take_zero]
  repeat (go_big_quiet_step (fail))
  refine wpQuiet_nil ?_
  clear k
  refine wpAnyH_one (k := 21) (by kernel_rfl) rfl (fun K hK => ?_)
  go_simp
  have kd2 := (World.cell?_alloc_lt W (.cells #[.int .u8 0, .int .u8 0, .int .u8 0, .int .u8 0, .int .u8 0, .int .u8 0, .int .u8 0, .int .u8 0, .int .u8 0, .int .u8 0] 5) _ (block_lt_of_cell kd)).trans kd
  have kz : (W.alloc (.cells #[.int .u8 0, .int .u8 0, .int .u8 0, .int .u8 0, .int .u8 0, .int .u8 0, .int .u8 0, .int .u8 0, .int .u8 0, .int .u8 0] 5)).cell? ⟨W.heap.size, 0, none⟩ = some (.int .u8 0) := World.cell?_alloc_at _ _ _ _ rfl
  have hA : Below W.heap.size W (W.alloc (.cells #[.int .u8 0, .int .u8 0, .int .u8 0, .int .u8 0, .int .u8 0, .int .u8 0, .int .u8 0, .int .u8 0, .int .u8 0, .int .u8 0] 5)) := (Below.refl _ _).alloc (Nat.le_refl _) _
  refine hK _ _ (CB.of_below hA) ?_
  clear hK K
  refine wpAnyH_one (k := 22) (by kernel_rfl) rfl (fun K hK => ?_)
  go_simp
  refine (same_no _ _ (segB (n + 1) 0) 0 rfl _ kd2 kz).mono ?_
  rintro x w9 ⟨rfl, hb9⟩
  have hA9 : Below W.heap.size W w9 := hA.trans (hb9.mono (by simp))
  have S9 := SW.below hA9
  refine hK _ _ (CB.of_below hA9) ?_
  clear hK K
  refine wpAnyH_one (k := 23) (by kernel_rfl) rfl (fun K hK => ?_)
  go_simp
  refine hK _ _ (CB.of_below hA9) ?_
  clear hK K
  refine wpAnyH_one (k := 24) (by kernel_rfl) rfl (fun K hK => ?_)
  go_simp
  refine hK _ _ (CB.of_below hA9) ?_
  clear hK K
  refine wpAnyH_one (k := 25) (by kernel_rfl) rfl (fun K hK => ?_)
  go_simp
  refine hK _ _ (CB.of_below hA9) ?_
  clear hK K
  refine wpAnyH_done (by kernel_rfl) ?_ 0
  go_wp2
  go_ret
  exact ⟨rfl, S9.2⟩


set_option maxRecDepth 100000 in
set_option maxHeartbeats 1000000 in
theorem nodesLaw_I (n m : Int) (s0 : 0 ≤ n) (s2 : n < 32) (f : lbE m = 0) (i : sgE m = 0) (q : eqE (segB (n + 1)) (sgB m) = false) (nm : (n == m) = false) (ab : (184483841 + n == lbA m) = false) (w : World) :
    Calls Try.prog 5 #[.int .i64 n, .int .i64 m] w fun e w' => e = .returned (.bool true) ∧ Below w.heap.size w w' := by
  have S := St.start w
  have s1 : n < 64 := by omega
  have hq := run_eqE (segB (n + 1)) (sgB m)
  rw [q] at hq
  have hmk : ∀ w, (Instr.makeSlice 52 (.int .i64 10) (.int .i64 10)).run Try.prog w = .ok (.slice (some ⟨w.heap.size, 0, none⟩) 10 10) (w.alloc (.cells #[.int .u8 0, .int .u8 0, .int .u8 0, .int .u8 0, .int .u8 0, .int .u8 0, .int .u8 0, .int .u8 0, .int .u8 0, .int .u8 0] 5)) := fun _ => by kernel_rfl
  go_enter Try.func5, Try.ntmps5
  go_wp2_with (first
    | (go_at_call 6; refine (lives_any _).mono ?_; rintro x w1 ⟨rfl, rfl⟩)
    | (go_at_call 12; (with_reducible refine (loop_yes n s0 s2 _).mono ?_); rintro x w1 ⟨rfl, rfl⟩)
    | (go_at_call 12; (with_reducible refine (loop_any m _).mono ?_); rintro x w1 ⟨rfl, rfl⟩)
    | (go_at_call 13; (with_reducible refine (rmac_yes n s0 s2 _).mono ?_); rintro x w1 ⟨rfl, rfl⟩)
    | (go_at_call 15; (with_reducible refine (node_yes n s0 s2 _).mono ?_); rintro x w1 ⟨rfl, rfl⟩)
    | (go_at_call 16; (with_reducible refine (rnode_yes n s0 s2 _).mono ?_); rintro x w1 ⟨rfl, rfl⟩)
    | (go_at_call 17; (with_reducible refine (mcast_no n s0 s2 _).mono ?_); rintro x w1 ⟨rfl, rfl⟩)
    | (go_at_call 14; (with_reducible refine (segment_yes n s0 s1 _).mono ?_); rintro x wA ⟨rfl, hb⟩; (try clear k z); replace S := (by first | exact S.below hb | exact (S.box10 (fun _ => 0) 34).below hb | exact (S.box10 (segB (n + 1)) 34).below hb | exact (S.box10 (sgB m) 34).below hb); clear hb; have k := S.cells; have z := S.lts; simp only [Cells, Lts, and_true] at k z)
    | (go_at_call 14; (with_reducible refine (segment_any m _).mono ?_); rintro x wB ⟨rfl, hb⟩; (try clear k z); replace S := (by first | exact S.below hb | exact (S.box10 (fun _ => 0) 34).below hb | exact (S.box10 (segB (n + 1)) 34).below hb | exact (S.box10 (sgB m) 34).below hb); clear hb; have k := S.cells; have z := S.lts; simp only [Cells, Lts, and_true] at k z)
    | (go_at_call 18; (with_reducible refine (own_seg n s0 s1 _).mono ?_); rintro x wC ⟨rfl, hb⟩; (try clear k z); replace S := (by first | exact S.below hb | exact (S.box10 (fun _ => 0) 34).below hb | exact (S.box10 (segB (n + 1)) 34).below hb | exact (S.box10 (sgB m) 34).below hb); clear hb; have k := S.cells; have z := S.lts; simp only [Cells, Lts, and_true] at k z))
  clear k z
  have e20 : ((2 : Int) != 0) = true := rfl
  have e00 : ((0 : Int) != 0) = false := rfl
  have enn : (n == n) = true := by simp
  refine wp_region_pre S 21 5 rfl (by kernel_rfl) (by kernel_rfl) (by kernel_rfl) (by kernel_rfl) (fun _ d _ _ _ h => by cases d <;> exact h) ?_
  intro W SW k
  simp only [CellsAt, and_true] at k
  have kd : W.cell? ⟨wA.heap.size, 0, none⟩ = some (.int .u8 (segB (n + 1) 0)) := SW.1 (wA.heap.size, 0, .int .u8 (segB (n + 1) 0)) (by simp)
  simp only [List.take_succ_cons, List.take_zero]
  repeat (go_big_quiet_step (fail))
  refine wpQuiet_nil ?_
  clear k
  refine wpAnyH_one (k := 21) (by kernel_rfl) rfl (fun K hK => ?_)
  go_simp
  have kd2 := (World.cell?_alloc_lt W (.cells #[.int .u8 0, .int .u8 0, .int .u8 0, .int .u8 0, .int .u8 0, .int .u8 0, .int .u8 0, .int .u8 0, .int .u8 0, .int .u8 0] 5) _ (block_lt_of_cell kd)).trans kd
  have kz : (W.alloc (.cells #[.int .u8 0, .int .u8 0, .int .u8 0, .int .u8 0, .int .u8 0, .int .u8 0, .int .u8 0, .int .u8 0, .int .u8 0, .int .u8 0] 5)).cell? ⟨W.heap.size, 0, none⟩ = some (.int .u8 0) := World.cell?_alloc_at _ _ _ _ rfl
  have hA : Below W.heap.size W (W.alloc (.cells #[.int .u8 0, .int .u8 0, .int .u8 0, .int .u8 0, .int .u8 0, .int .u8 0, .int .u8 0, .int .u8 0, .int .u8 0, .int .u8 0] 5)) := (Below.refl _ _).alloc (Nat.le_refl _) _
  refine hK _ _ (CB.of_below hA) ?_
  clear hK K
  refine wpAnyH_one (k := 22) (by kernel_rfl) rfl (fun K hK => ?_)
  go_simp
  refine (same_no _ _ (segB (n + 1) 0) 0 rfl _ kd2 kz).mono ?_
  rintro x w9 ⟨rfl, hb9⟩
  have hA9 : Below W.heap.size W w9 := hA.trans (hb9.mono (by simp))
  have S9 := SW.below hA9
  refine hK _ _ (CB.of_below hA9) ?_
  clear hK K
  refine wpAnyH_one (k := 23) (by kernel_rfl) rfl (fun K hK => ?_)
  go_simp
  refine hK _ _ (CB.of_below hA9) ?_
  clear hK K
  refine wpAnyH_one (k := 24) (by kernel_rfl) rfl (fun K hK => ?_)
  go_simp
  refine hK _ _ (CB.of_below hA9) ?_
  clear hK K
  refine wpAnyH_one (k := 25) (by kernel_rfl) rfl (fun K hK => ?_)
  go_simp
  refine hK _ _ (CB.of_below hA9) ?_
  clear hK K
  refine wpAnyH_done (by kernel_rfl) ?_ 0
  go_wp2
  go_ret
  exact ⟨rfl, S9.2⟩

end Go.Proofs.Ytogkkcbmopdbnaa
