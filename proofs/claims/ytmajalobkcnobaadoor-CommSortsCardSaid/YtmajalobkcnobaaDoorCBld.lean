/- How a community is made: the program's function and the reference's. No condition. -/
import Derived.Test.YtmajalobkcnobaaDoorCKnd
import Derived.Test.YtmajalobkcnobaaDoorCReg
import Derived.LoopN
import Derived.Deep.WholeRow
import Derived.Laws.ResultCell
import Derived.Laws.CopyOwn
import Derived.IntWalk
namespace Go.Proofs.YtmajalobkcnobaaDoor
open Go.RowKit Go.Sort
set_option linter.unusedVariables false
set_option linter.unusedSimpArgs false
set_option maxRecDepth 100000

set_option maxHeartbeats 2000000 in
theorem made_is (a b n : Int) (h0 : 0 ≤ n) (h1 : n < 18446744073709551616) (w : World) :
    Calls Tryd.prog 61 #[.int .u8 a, .int .u8 b, .int .u64 n] w fun r w' => r = .returned (.agg #[.int .u8 (mk a b n 0), .int .u8 (mk a b n 1), .int .u8 (mk a b n 2), .int .u8 (mk a b n 3), .int .u8 (mk a b n 4), .int .u8 (mk a b n 5), .int .u8 (mk a b n 6), .int .u8 (mk a b n 7)]) ∧ Below w.heap.size w w' := by
  go_enter Tryd.func61, Tryd.ntmps61
  go_wp2
  refine bodyPost_ret (v := .agg #[.int .u8 (mk a b n 0), .int .u8 (mk a b n 1), .int .u8 (mk a b n 2), .int .u8 (mk a b n 3), .int .u8 (mk a b n 4), .int .u8 (mk a b n 5), .int .u8 (mk a b n 6), .int .u8 (mk a b n 7)]) (by simp [results, Tryd.results61, go_sem, mk]) rfl ⟨rfl, ?_⟩
  exact (Below.refl _ _).alloc (Nat.le_refl _) _

set_option maxHeartbeats 2000000 in
theorem build_is (k : Nat) (hk : k < 8) (n : Int) (h0 : 0 ≤ n) (h1 : n < 18446744073709551616) (w : World) (hK : KI w) :
    Calls Tryd.prog 48 #[.int .i64 k, .int .u64 n] w fun r w' => r = .returned (.agg #[.int .u8 (mk (khi k) (klo k) n 0), .int .u8 (mk (khi k) (klo k) n 1), .int .u8 (mk (khi k) (klo k) n 2), .int .u8 (mk (khi k) (klo k) n 3), .int .u8 (mk (khi k) (klo k) n 4), .int .u8 (mk (khi k) (klo k) n 5), .int .u8 (mk (khi k) (klo k) n 6), .int .u8 (mk (khi k) (klo k) n 7)]) ∧ Below w.heap.size w w' := by
  obtain ⟨c0, c1⟩ := hK.cells k hk
  have hkl : (k : Int) < 8 := by omega
  have S0 : St w [(0, k * 2, .int .u8 (khi k)), (0, k * 2 + 1, .int .u8 (klo k))] w := ((St.start w).cons _ _ _ c1).cons _ _ _ c0
  clear c0 c1
  generalize khi k = hi at S0 ⊢
  generalize klo k = lo at S0 ⊢
  go_enter Tryd.func48, Tryd.ntmps48
  go_wp2_with fail
  have S1 : St (w.alloc (.cells #[.int .u8 0, .int .u8 0, .int .u8 0, .int .u8 0, .int .u8 0, .int .u8 0, .int .u8 0, .int .u8 0] 24)) [(0, k * 2, .int .u8 hi), (0, k * 2 + 1, .int .u8 lo)] (w.alloc (.cells #[.int .u8 0, .int .u8 0, .int .u8 0, .int .u8 0, .int .u8 0, .int .u8 0, .int .u8 0, .int .u8 0] 24)) := ⟨(S0.alloc _).1, Below.refl _ _⟩
  refine wp_region_pre S1 9 2 rfl (by kernel_rfl) (by kernel_rfl) (by kernel_rfl) (by kernel_rfl) (fun _ d _ _ _ h => by cases d <;> exact h) ?_
  intro W SW kc
  simp only [CellsAt, and_true] at kc
  simp only [List.take_succ_cons, List.take_zero]
  repeat (go_big_quiet_step (fail))
  refine wpQuiet_nil ?_
  clear kc
  refine wpAnyH_one (k := 9) (by kernel_rfl) rfl (fun K hK => ?_)
  go_simp
  have hA : Below W.heap.size W (W.alloc (.cells #[.int .u8 0, .int .u8 0, .int .u8 0, .int .u8 0, .int .u8 0, .int .u8 0, .int .u8 0, .int .u8 0] 24)) := (Below.refl _ _).alloc (Nat.le_refl _) _
  refine hK _ _ (CB.of_below hA) ?_
  clear hK K
  refine wpAnyH_one (k := 10) (by kernel_rfl) rfl (fun K hK => ?_)
  go_simp
  have hA2 : Below W.heap.size W (W.alloc (.cells #[.int .u8 hi, .int .u8 lo, .int .u8 0, .int .u8 0, .int .u8 0, .int .u8 0, .int .u8 0, .int .u8 0] 24)) := (Below.refl _ _).alloc (Nat.le_refl _) _
  refine hK _ _ (CB.of_below hA2) ?_
  clear hK K
  refine wpAnyH_done (by kernel_rfl) ?_ 0
  have hWz : w.heap.size < W.heap.size := by
    have := SW.2.size
    simp at this
    omega
  have hgW : W.heap[w.heap.size]? = some (.cells #[.int .u8 0, .int .u8 0, .int .u8 0, .int .u8 0, .int .u8 0, .int .u8 0, .int .u8 0, .int .u8 0] 24 (0, 0)) := (SW.2.block w.heap.size (by simp)).trans (heap_alloc_last w _)
  have hBW : Below w.heap.size w W := ((Below.refl _ _).alloc (Nat.le_refl _) _).trans (SW.2.mono (by simp))
  have HGW := Lib.hid hgW
  have HWz := Lib.hid hWz
  clear hgW
  go_wp2_with fail
  refine wp_loop_rounds 7 ?_
  rw [rounds_succ]; go_wp2
  rw [rounds_succ]; go_wp2
  rw [rounds_succ]; go_wp2
  rw [rounds_succ]; go_wp2
  rw [rounds_succ]; go_wp2
  rw [rounds_succ]; go_wp2
  rw [rounds_succ]; go_upto_region 7 with fail
  have d2 : n / 256 / 256 = n / 65536 := by omega
  have d3 : n / 65536 / 256 = n / 16777216 := by omega
  have d4 : n / 16777216 / 256 = n / 4294967296 := by omega
  have d5 : n / 4294967296 / 256 = n / 1099511627776 := by omega
  simp only [d2, d3, d4, d5]
  clear d2 d3 d4 d5 hA hA2 S0 S1 hWz
  refine wp_region_lit ?_
  refine wpList_load_row rfl 24 (.tmp 5) rfl W.heap.size rfl 24 #[.int .u8 (mk hi lo n 0), .int .u8 (mk hi lo n 1), .int .u8 (mk hi lo n 2), .int .u8 (mk hi lo n 3), .int .u8 (mk hi lo n 4), .int .u8 (mk hi lo n 5), .int .u8 (mk hi lo n 6), .int .u8 (mk hi lo n 7)] (0, 0) _ (heap_alloc_last W _) Tryd.underlying24 rfl (by kernel_rfl) ?_
  have hgV : (W.alloc (.cells #[.int .u8 (mk hi lo n 0), .int .u8 (mk hi lo n 1), .int .u8 (mk hi lo n 2), .int .u8 (mk hi lo n 3), .int .u8 (mk hi lo n 4), .int .u8 (mk hi lo n 5), .int .u8 (mk hi lo n 6), .int .u8 (mk hi lo n 7)] 24)).heap[w.heap.size]? = some (.cells #[.int .u8 0, .int .u8 0, .int .u8 0, .int .u8 0, .int .u8 0, .int .u8 0, .int .u8 0, .int .u8 0] 24 (0, 0)) :=
    (((Below.refl W.heap.size W).alloc (Nat.le_refl _) _).block w.heap.size HWz.out).trans HGW.out
  refine wpList_store_row rfl 24 (.tmp 4) (.tmp 26) rfl w.heap.size #[.int .u8 (mk hi lo n 0), .int .u8 (mk hi lo n 1), .int .u8 (mk hi lo n 2), .int .u8 (mk hi lo n 3), .int .u8 (mk hi lo n 4), .int .u8 (mk hi lo n 5), .int .u8 (mk hi lo n 6), .int .u8 (mk hi lo n 7)] rfl rfl 24 _ hgV (by kernel_rfl) rfl (by kernel_rfl) ?_
  refine wpList_nil ?_
  have hgR := setRow_heap _ w.heap.size _ #[.int .u8 (mk hi lo n 0), .int .u8 (mk hi lo n 1), .int .u8 (mk hi lo n 2), .int .u8 (mk hi lo n 3), .int .u8 (mk hi lo n 4), .int .u8 (mk hi lo n 5), .int .u8 (mk hi lo n 6), .int .u8 (mk hi lo n 7)] _ _ hgV
  have hBR := below_setRow (g := w.heap.size) (hBW.trans (((Below.refl W.heap.size W).alloc (Nat.le_refl _) (.cells #[.int .u8 (mk hi lo n 0), .int .u8 (mk hi lo n 1), .int .u8 (mk hi lo n 2), .int .u8 (mk hi lo n 3), .int .u8 (mk hi lo n 4), .int .u8 (mk hi lo n 5), .int .u8 (mk hi lo n 6), .int .u8 (mk hi lo n 7)] 24)).mono hBW.size)) (Nat.le_refl _) #[.int .u8 (mk hi lo n 0), .int .u8 (mk hi lo n 1), .int .u8 (mk hi lo n 2), .int .u8 (mk hi lo n 3), .int .u8 (mk hi lo n 4), .int .u8 (mk hi lo n 5), .int .u8 (mk hi lo n 6), .int .u8 (mk hi lo n 7)]
  clear hgV
  have HR := Lib.hid hgR
  clear hgR
  go_wp2
  exact bodyPost_ret (results_cell_row (by rfl) _ _ w.heap.size _ _ _ _ rfl (show _ = _ from HR.out) Tryd.underlying24 rfl (by kernel_rfl)) rfl ⟨rfl, hBR⟩
end Go.Proofs.YtmajalobkcnobaaDoor
