/- Import and Router, and the reference's Kind. No condition. -/
import Derived.Test.YtmajalobkcnobaaDoorCTr
namespace Go.Proofs.YtmajalobkcnobaaDoor
open Go.RowKit Go.Sort
set_option linter.unusedVariables false
set_option linter.unusedSimpArgs false
set_option maxRecDepth 100000

set_option maxHeartbeats 2000000 in
theorem import_is (m : Int) (h0 : 0 ≤ m) (h1 : m ≤ 281474976710655) (w : World) (hK : KI w) :
    Calls Tryd.prog 12 #[.int .u64 m] w fun r w' => r = .returned (.tuple #[.agg #[.int .u8 (mk 6 2 m 0), .int .u8 (mk 6 2 m 1), .int .u8 (mk 6 2 m 2), .int .u8 (mk 6 2 m 3), .int .u8 (mk 6 2 m 4), .int .u8 (mk 6 2 m 5), .int .u8 (mk 6 2 m 6), .int .u8 (mk 6 2 m 7)], .int .i64 0]) ∧ Below w.heap.size w w' := by
  have b1 := (Below.refl w.heap.size w).alloc (Nat.le_refl _) (.cells #[.int .u8 0, .int .u8 0, .int .u8 0, .int .u8 0, .int .u8 0, .int .u8 0, .int .u8 0, .int .u8 0] 24)
  have hk1 := hK.below b1 hK.lt
  go_enter Tryd.func12, Tryd.ntmps12
  go_wp2_with fail
  go_at_call 51
  refine (hardware_is 5 (by decide) m h0 h1 _ hk1).mono ?_
  rintro r w1 ⟨rfl, hb⟩
  have hg := Lib.hid (res_cell hb)
  have HB := res_bel hb #[.int .u8 (mk 6 2 m 0), .int .u8 (mk 6 2 m 1), .int .u8 (mk 6 2 m 2), .int .u8 (mk 6 2 m 3), .int .u8 (mk 6 2 m 4), .int .u8 (mk 6 2 m 5), .int .u8 (mk 6 2 m 6), .int .u8 (mk 6 2 m 7)]
  have HR := Lib.hid (setRow_heap _ w.heap.size _ #[.int .u8 (mk 6 2 m 0), .int .u8 (mk 6 2 m 1), .int .u8 (mk 6 2 m 2), .int .u8 (mk 6 2 m 3), .int .u8 (mk 6 2 m 4), .int .u8 (mk 6 2 m 5), .int .u8 (mk 6 2 m 6), .int .u8 (mk 6 2 m 7)] _ _ (res_cell hb))
  clear hb
  rename_i Q1 K1 q1 K0 q0
  dsimp only
  refine q0 _ _ ?_
  clear q0 K0
  iterate 6 go_step
  refine wpList_store_row rfl 24 (.tmp 2) (.tmp 6) rfl w.heap.size #[.int .u8 (mk 6 2 m 0), .int .u8 (mk 6 2 m 1), .int .u8 (mk 6 2 m 2), .int .u8 (mk 6 2 m 3), .int .u8 (mk 6 2 m 4), .int .u8 (mk 6 2 m 5), .int .u8 (mk 6 2 m 6), .int .u8 (mk 6 2 m 7)] rfl rfl 24 _ hg.out (by kernel_rfl) rfl (by kernel_rfl) ?_
  generalize w1.setRow w.heap.size #[.int .u8 (mk 6 2 m 0), .int .u8 (mk 6 2 m 1), .int .u8 (mk 6 2 m 2), .int .u8 (mk 6 2 m 3), .int .u8 (mk 6 2 m 4), .int .u8 (mk 6 2 m 5), .int .u8 (mk 6 2 m 6), .int .u8 (mk 6 2 m 7)] = V at HR HB ⊢
  go_wp2
  exact bodyPost_ret (results_row_tmp (by rfl) _ _ w.heap.size _ _ _ _ rfl HR.out Tryd.underlying24 rfl (by kernel_rfl)) rfl ⟨rfl, HB⟩

set_option maxHeartbeats 2000000 in
theorem import_no (m : Int) (h1 : 281474976710655 < m) (w : World) (hK : KI w) :
    Calls Tryd.prog 12 #[.int .u64 m] w fun r w' => r = .returned (.tuple #[.agg #[.int .u8 0, .int .u8 0, .int .u8 0, .int .u8 0, .int .u8 0, .int .u8 0, .int .u8 0, .int .u8 0], .int .i64 2]) ∧ Below w.heap.size w w' := by
  have b1 := (Below.refl w.heap.size w).alloc (Nat.le_refl _) (.cells #[.int .u8 0, .int .u8 0, .int .u8 0, .int .u8 0, .int .u8 0, .int .u8 0, .int .u8 0, .int .u8 0] 24)
  have hk1 := hK.below b1 hK.lt
  go_enter Tryd.func12, Tryd.ntmps12
  go_wp2_with fail
  go_at_call 51
  refine (hardware_no 5 m h1 _).mono ?_
  rintro r w1 ⟨rfl, hb⟩
  have hg := Lib.hid (res_cell hb)
  have HB := res_bel hb #[.int .u8 0, .int .u8 0, .int .u8 0, .int .u8 0, .int .u8 0, .int .u8 0, .int .u8 0, .int .u8 0]
  have HR := Lib.hid (setRow_heap _ w.heap.size _ #[.int .u8 0, .int .u8 0, .int .u8 0, .int .u8 0, .int .u8 0, .int .u8 0, .int .u8 0, .int .u8 0] _ _ (res_cell hb))
  clear hb
  rename_i Q1 K1 q1 K0 q0
  dsimp only
  refine q0 _ _ ?_
  clear q0 K0
  iterate 6 go_step
  refine wpList_store_row rfl 24 (.tmp 2) (.tmp 6) rfl w.heap.size #[.int .u8 0, .int .u8 0, .int .u8 0, .int .u8 0, .int .u8 0, .int .u8 0, .int .u8 0, .int .u8 0] rfl rfl 24 _ hg.out (by kernel_rfl) rfl (by kernel_rfl) ?_
  generalize w1.setRow w.heap.size #[.int .u8 0, .int .u8 0, .int .u8 0, .int .u8 0, .int .u8 0, .int .u8 0, .int .u8 0, .int .u8 0] = V at HR HB ⊢
  go_wp2
  exact bodyPost_ret (results_row_tmp (by rfl) _ _ w.heap.size _ _ _ _ rfl HR.out Tryd.underlying24 rfl (by kernel_rfl)) rfl ⟨rfl, HB⟩

set_option maxHeartbeats 2000000 in
theorem router_is (m : Int) (h0 : 0 ≤ m) (h1 : m ≤ 281474976710655) (w : World) (hK : KI w) :
    Calls Tryd.prog 13 #[.int .u64 m] w fun r w' => r = .returned (.tuple #[.agg #[.int .u8 (mk 6 3 m 0), .int .u8 (mk 6 3 m 1), .int .u8 (mk 6 3 m 2), .int .u8 (mk 6 3 m 3), .int .u8 (mk 6 3 m 4), .int .u8 (mk 6 3 m 5), .int .u8 (mk 6 3 m 6), .int .u8 (mk 6 3 m 7)], .int .i64 0]) ∧ Below w.heap.size w w' := by
  have b1 := (Below.refl w.heap.size w).alloc (Nat.le_refl _) (.cells #[.int .u8 0, .int .u8 0, .int .u8 0, .int .u8 0, .int .u8 0, .int .u8 0, .int .u8 0, .int .u8 0] 24)
  have hk1 := hK.below b1 hK.lt
  go_enter Tryd.func13, Tryd.ntmps13
  go_wp2_with fail
  go_at_call 51
  refine (hardware_is 6 (by decide) m h0 h1 _ hk1).mono ?_
  rintro r w1 ⟨rfl, hb⟩
  have hg := Lib.hid (res_cell hb)
  have HB := res_bel hb #[.int .u8 (mk 6 3 m 0), .int .u8 (mk 6 3 m 1), .int .u8 (mk 6 3 m 2), .int .u8 (mk 6 3 m 3), .int .u8 (mk 6 3 m 4), .int .u8 (mk 6 3 m 5), .int .u8 (mk 6 3 m 6), .int .u8 (mk 6 3 m 7)]
  have HR := Lib.hid (setRow_heap _ w.heap.size _ #[.int .u8 (mk 6 3 m 0), .int .u8 (mk 6 3 m 1), .int .u8 (mk 6 3 m 2), .int .u8 (mk 6 3 m 3), .int .u8 (mk 6 3 m 4), .int .u8 (mk 6 3 m 5), .int .u8 (mk 6 3 m 6), .int .u8 (mk 6 3 m 7)] _ _ (res_cell hb))
  clear hb
  rename_i Q1 K1 q1 K0 q0
  dsimp only
  refine q0 _ _ ?_
  clear q0 K0
  iterate 6 go_step
  refine wpList_store_row rfl 24 (.tmp 2) (.tmp 6) rfl w.heap.size #[.int .u8 (mk 6 3 m 0), .int .u8 (mk 6 3 m 1), .int .u8 (mk 6 3 m 2), .int .u8 (mk 6 3 m 3), .int .u8 (mk 6 3 m 4), .int .u8 (mk 6 3 m 5), .int .u8 (mk 6 3 m 6), .int .u8 (mk 6 3 m 7)] rfl rfl 24 _ hg.out (by kernel_rfl) rfl (by kernel_rfl) ?_
  generalize w1.setRow w.heap.size #[.int .u8 (mk 6 3 m 0), .int .u8 (mk 6 3 m 1), .int .u8 (mk 6 3 m 2), .int .u8 (mk 6 3 m 3), .int .u8 (mk 6 3 m 4), .int .u8 (mk 6 3 m 5), .int .u8 (mk 6 3 m 6), .int .u8 (mk 6 3 m 7)] = V at HR HB ⊢
  go_wp2
  exact bodyPost_ret (results_row_tmp (by rfl) _ _ w.heap.size _ _ _ _ rfl HR.out Tryd.underlying24 rfl (by kernel_rfl)) rfl ⟨rfl, HB⟩

set_option maxHeartbeats 2000000 in
theorem router_no (m : Int) (h1 : 281474976710655 < m) (w : World) (hK : KI w) :
    Calls Tryd.prog 13 #[.int .u64 m] w fun r w' => r = .returned (.tuple #[.agg #[.int .u8 0, .int .u8 0, .int .u8 0, .int .u8 0, .int .u8 0, .int .u8 0, .int .u8 0, .int .u8 0], .int .i64 2]) ∧ Below w.heap.size w w' := by
  have b1 := (Below.refl w.heap.size w).alloc (Nat.le_refl _) (.cells #[.int .u8 0, .int .u8 0, .int .u8 0, .int .u8 0, .int .u8 0, .int .u8 0, .int .u8 0, .int .u8 0] 24)
  have hk1 := hK.below b1 hK.lt
  go_enter Tryd.func13, Tryd.ntmps13
  go_wp2_with fail
  go_at_call 51
  refine (hardware_no 6 m h1 _).mono ?_
  rintro r w1 ⟨rfl, hb⟩
  have hg := Lib.hid (res_cell hb)
  have HB := res_bel hb #[.int .u8 0, .int .u8 0, .int .u8 0, .int .u8 0, .int .u8 0, .int .u8 0, .int .u8 0, .int .u8 0]
  have HR := Lib.hid (setRow_heap _ w.heap.size _ #[.int .u8 0, .int .u8 0, .int .u8 0, .int .u8 0, .int .u8 0, .int .u8 0, .int .u8 0, .int .u8 0] _ _ (res_cell hb))
  clear hb
  rename_i Q1 K1 q1 K0 q0
  dsimp only
  refine q0 _ _ ?_
  clear q0 K0
  iterate 6 go_step
  refine wpList_store_row rfl 24 (.tmp 2) (.tmp 6) rfl w.heap.size #[.int .u8 0, .int .u8 0, .int .u8 0, .int .u8 0, .int .u8 0, .int .u8 0, .int .u8 0, .int .u8 0] rfl rfl 24 _ hg.out (by kernel_rfl) rfl (by kernel_rfl) ?_
  generalize w1.setRow w.heap.size #[.int .u8 0, .int .u8 0, .int .u8 0, .int .u8 0, .int .u8 0, .int .u8 0, .int .u8 0, .int .u8 0] = V at HR HB ⊢
  go_wp2
  exact bodyPost_ret (results_row_tmp (by rfl) _ _ w.heap.size _ _ _ _ rfl HR.out Tryd.underlying24 rfl (by kernel_rfl)) rfl ⟨rfl, HB⟩
end Go.Proofs.YtmajalobkcnobaaDoor
