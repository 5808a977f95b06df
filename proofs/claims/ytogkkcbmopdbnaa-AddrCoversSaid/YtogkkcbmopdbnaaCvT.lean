/- AddrCovers returns true, whatever the input: the cases. No condition. -/
import Derived.Test.YtogkkcbmopdbnaaNum
namespace Go.Proofs.Ytogkkcbmopdbnaa
open Go.RowKit Go.Sort

set_option maxRecDepth 100000 in
set_option maxHeartbeats 4000000 in
theorem coversLaw_TTT (a n b m c l ip : Int) (ha : Adr a) (hb : Adr b) (hip : Adr ip) (hv : vld n = true) (hm : vld m = true) (y : Bool) (hyt : y = true) (hy : ctn a n ip = y) (y2 : ctn b m ip = true) (x1 : cvr a n b m = true) (x2 : cvr b m c l = true) (x3 : cvr a n c l = true) (x4 : cvr b m a n = true) (q1 : (n == m) = true) (q2 : (cln a n == cln b m) = true) (w : World) :
    Calls Try.prog 3 #[.agg #[.int .u32 a, .int .i64 n], .agg #[.int .u32 b, .int .i64 m], .agg #[.int .u32 c, .int .i64 l], .int .u32 ip] w fun e w' => e = .returned (.bool true) ∧ Below w.heap.size w w' := by
  have S := (((St.start w).box2 (.int .u32 a) (.int .i64 n) 25).box2 (.int .u32 b) (.int .i64 m) 25).box2 (.int .u32 c) (.int .i64 l) 25
  simp only [World.size_alloc] at S
  subst hyt
  have y0 := hy
  obtain ⟨g0, g1⟩ := vld_yes hv
  have e1 := cvr_self (n := n) ha
  have e2 := ctn_cvr (n := n) ha hip
  rw [hv] at e1
  rw [hy] at e2
  obtain ⟨e7, e8⟩ := cvr_cln ha g0 g1
  have e6 := cln_cln ha g0 g1
  have E1 := Lib.hid e1; have E2 := Lib.hid e2; have E4 := Lib.hid hy
  have HV := Lib.hid hv; have HM := Lib.hid hm
  clear hv hm hy e1 e2 ha hb hip
  go_enter Try.func3, Try.ntmps3
  go_wp2_with (go_at_call 6; refine (lives_any _).mono ?_; rintro e w1 ⟨rfl, rfl⟩)
  refine wp_region_qs S (by kernel_rfl) (by kernel_rfl) ?_
  intro k
  simp only [CellsAt, and_true] at k
  repeat (go_big_quiet_step (first | (with_reducible exact Calls.regrown_of (covers_is _ _ _ _ E1.out _)) | (with_reducible exact Calls.regrown_of (covers_is _ _ _ _ E2.out _)) | (with_reducible exact Calls.regrown_of (contains_is _ _ _ E4.out _))))
  refine wpQuiet_nil ?_
  clear k
  intro w4 S4
  replace S := S4
  clear S4
  have k := S.cells
  have z := S.lts
  simp only [Cells, Lts, and_true] at k z
  go_wp2_with (first
    | (go_at_call 7; (with_reducible refine (covers_any _ _ _ _ _).mono ?_); rintro e w1 ⟨rfl, hb⟩; clear k z; replace S := (by first | exact S.below hb | exact (S.box2 _ _ _).below hb); clear hb; have k := S.cells; have z := S.lts; simp only [Cells, Lts, and_true] at k z)
    | (go_at_call 8; (with_reducible refine (contains_any _ _ _ _).mono ?_); rintro e w1 ⟨rfl, hb⟩; clear k z; replace S := (by first | exact S.below hb | exact (S.box2 _ _ _).below hb); clear hb; have k := S.cells; have z := S.lts; simp only [Cells, Lts, and_true] at k z)
    | (go_at_call 9; (with_reducible refine (clean_yes _ _ HV.out _).mono ?_); rintro e w1 ⟨rfl, hb⟩; clear k z; replace S := (by first | exact S.below hb | exact (S.box2 _ _ _).below hb); clear hb; have k := S.cells; have z := S.lts; simp only [Cells, Lts, and_true] at k z)
    | (go_at_call 9; (with_reducible refine (clean_yes _ _ HM.out _).mono ?_); rintro e w1 ⟨rfl, hb⟩; clear k z; replace S := (by first | exact S.below hb | exact (S.box2 _ _ _).below hb); clear hb; have k := S.cells; have z := S.lts; simp only [Cells, Lts, and_true] at k z))
  go_ret
  exact ⟨rfl, S.2⟩

set_option maxRecDepth 100000 in
set_option maxHeartbeats 4000000 in
theorem coversLaw_TTN (a n b m c l ip : Int) (ha : Adr a) (hb : Adr b) (hip : Adr ip) (hv : vld n = true) (hm : vld m = true) (y : Bool) (hyt : y = true) (hy : ctn a n ip = y) (y2 : ctn b m ip = true) (x1 : cvr a n b m = true) (x2 : cvr b m c l = true) (x3 : cvr a n c l = true) (x4 : cvr b m a n = false) (q1 : (n == m) = false) (w : World) :
    Calls Try.prog 3 #[.agg #[.int .u32 a, .int .i64 n], .agg #[.int .u32 b, .int .i64 m], .agg #[.int .u32 c, .int .i64 l], .int .u32 ip] w fun e w' => e = .returned (.bool true) ∧ Below w.heap.size w w' := by
  have S := (((St.start w).box2 (.int .u32 a) (.int .i64 n) 25).box2 (.int .u32 b) (.int .i64 m) 25).box2 (.int .u32 c) (.int .i64 l) 25
  simp only [World.size_alloc] at S
  subst hyt
  have y0 := hy
  obtain ⟨g0, g1⟩ := vld_yes hv
  have e1 := cvr_self (n := n) ha
  have e2 := ctn_cvr (n := n) ha hip
  rw [hv] at e1
  rw [hy] at e2
  obtain ⟨e7, e8⟩ := cvr_cln ha g0 g1
  have e6 := cln_cln ha g0 g1
  have E1 := Lib.hid e1; have E2 := Lib.hid e2; have E4 := Lib.hid hy
  have HV := Lib.hid hv; have HM := Lib.hid hm
  clear hv hm hy e1 e2 ha hb hip
  go_enter Try.func3, Try.ntmps3
  go_wp2_with (go_at_call 6; refine (lives_any _).mono ?_; rintro e w1 ⟨rfl, rfl⟩)
  refine wp_region_qs S (by kernel_rfl) (by kernel_rfl) ?_
  intro k
  simp only [CellsAt, and_true] at k
  repeat (go_big_quiet_step (first | (with_reducible exact Calls.regrown_of (covers_is _ _ _ _ E1.out _)) | (with_reducible exact Calls.regrown_of (covers_is _ _ _ _ E2.out _)) | (with_reducible exact Calls.regrown_of (contains_is _ _ _ E4.out _))))
  refine wpQuiet_nil ?_
  clear k
  intro w4 S4
  replace S := S4
  clear S4
  have k := S.cells
  have z := S.lts
  simp only [Cells, Lts, and_true] at k z
  go_wp2_with (first
    | (go_at_call 7; (with_reducible refine (covers_any _ _ _ _ _).mono ?_); rintro e w1 ⟨rfl, hb⟩; clear k z; replace S := (by first | exact S.below hb | exact (S.box2 _ _ _).below hb); clear hb; have k := S.cells; have z := S.lts; simp only [Cells, Lts, and_true] at k z)
    | (go_at_call 8; (with_reducible refine (contains_any _ _ _ _).mono ?_); rintro e w1 ⟨rfl, hb⟩; clear k z; replace S := (by first | exact S.below hb | exact (S.box2 _ _ _).below hb); clear hb; have k := S.cells; have z := S.lts; simp only [Cells, Lts, and_true] at k z)
    | (go_at_call 9; (with_reducible refine (clean_yes _ _ HV.out _).mono ?_); rintro e w1 ⟨rfl, hb⟩; clear k z; replace S := (by first | exact S.below hb | exact (S.box2 _ _ _).below hb); clear hb; have k := S.cells; have z := S.lts; simp only [Cells, Lts, and_true] at k z)
    | (go_at_call 9; (with_reducible refine (clean_yes _ _ HM.out _).mono ?_); rintro e w1 ⟨rfl, hb⟩; clear k z; replace S := (by first | exact S.below hb | exact (S.box2 _ _ _).below hb); clear hb; have k := S.cells; have z := S.lts; simp only [Cells, Lts, and_true] at k z))
  go_ret
  exact ⟨rfl, S.2⟩

set_option maxRecDepth 100000 in
set_option maxHeartbeats 4000000 in
theorem coversLaw_TTC (a n b m c l ip : Int) (ha : Adr a) (hb : Adr b) (hip : Adr ip) (hv : vld n = true) (hm : vld m = true) (y : Bool) (hyt : y = true) (hy : ctn a n ip = y) (y2 : ctn b m ip = true) (x1 : cvr a n b m = true) (x2 : cvr b m c l = true) (x3 : cvr a n c l = true) (x4 : cvr b m a n = false) (q1 : (cln a n == cln b m) = false) (w : World) :
    Calls Try.prog 3 #[.agg #[.int .u32 a, .int .i64 n], .agg #[.int .u32 b, .int .i64 m], .agg #[.int .u32 c, .int .i64 l], .int .u32 ip] w fun e w' => e = .returned (.bool true) ∧ Below w.heap.size w w' := by
  have S := (((St.start w).box2 (.int .u32 a) (.int .i64 n) 25).box2 (.int .u32 b) (.int .i64 m) 25).box2 (.int .u32 c) (.int .i64 l) 25
  simp only [World.size_alloc] at S
  subst hyt
  have y0 := hy
  obtain ⟨g0, g1⟩ := vld_yes hv
  have e1 := cvr_self (n := n) ha
  have e2 := ctn_cvr (n := n) ha hip
  rw [hv] at e1
  rw [hy] at e2
  obtain ⟨e7, e8⟩ := cvr_cln ha g0 g1
  have e6 := cln_cln ha g0 g1
  have E1 := Lib.hid e1; have E2 := Lib.hid e2; have E4 := Lib.hid hy
  have HV := Lib.hid hv; have HM := Lib.hid hm
  clear hv hm hy e1 e2 ha hb hip
  go_enter Try.func3, Try.ntmps3
  go_wp2_with (go_at_call 6; refine (lives_any _).mono ?_; rintro e w1 ⟨rfl, rfl⟩)
  refine wp_region_qs S (by kernel_rfl) (by kernel_rfl) ?_
  intro k
  simp only [CellsAt, and_true] at k
  repeat (go_big_quiet_step (first | (with_reducible exact Calls.regrown_of (covers_is _ _ _ _ E1.out _)) | (with_reducible exact Calls.regrown_of (covers_is _ _ _ _ E2.out _)) | (with_reducible exact Calls.regrown_of (contains_is _ _ _ E4.out _))))
  refine wpQuiet_nil ?_
  clear k
  intro w4 S4
  replace S := S4
  clear S4
  have k := S.cells
  have z := S.lts
  simp only [Cells, Lts, and_true] at k z
  go_wp2_with (first
    | (go_at_call 7; (with_reducible refine (covers_any _ _ _ _ _).mono ?_); rintro e w1 ⟨rfl, hb⟩; clear k z; replace S := (by first | exact S.below hb | exact (S.box2 _ _ _).below hb); clear hb; have k := S.cells; have z := S.lts; simp only [Cells, Lts, and_true] at k z)
    | (go_at_call 8; (with_reducible refine (contains_any _ _ _ _).mono ?_); rintro e w1 ⟨rfl, hb⟩; clear k z; replace S := (by first | exact S.below hb | exact (S.box2 _ _ _).below hb); clear hb; have k := S.cells; have z := S.lts; simp only [Cells, Lts, and_true] at k z)
    | (go_at_call 9; (with_reducible refine (clean_yes _ _ HV.out _).mono ?_); rintro e w1 ⟨rfl, hb⟩; clear k z; replace S := (by first | exact S.below hb | exact (S.box2 _ _ _).below hb); clear hb; have k := S.cells; have z := S.lts; simp only [Cells, Lts, and_true] at k z)
    | (go_at_call 9; (with_reducible refine (clean_yes _ _ HM.out _).mono ?_); rintro e w1 ⟨rfl, hb⟩; clear k z; replace S := (by first | exact S.below hb | exact (S.box2 _ _ _).below hb); clear hb; have k := S.cells; have z := S.lts; simp only [Cells, Lts, and_true] at k z))
  go_ret
  exact ⟨rfl, S.2⟩

set_option maxRecDepth 100000 in
set_option maxHeartbeats 4000000 in
theorem coversLaw_TFT (a n b m c l ip : Int) (ha : Adr a) (hb : Adr b) (hip : Adr ip) (hv : vld n = true) (hm : vld m = true) (y : Bool) (hy : ctn a n ip = y) (y2 : ctn b m ip = false) (x1 : cvr a n b m = true) (x2 : cvr b m c l = true) (x3 : cvr a n c l = true) (x4 : cvr b m a n = true) (q1 : (n == m) = true) (q2 : (cln a n == cln b m) = true) (w : World) :
    Calls Try.prog 3 #[.agg #[.int .u32 a, .int .i64 n], .agg #[.int .u32 b, .int .i64 m], .agg #[.int .u32 c, .int .i64 l], .int .u32 ip] w fun e w' => e = .returned (.bool true) ∧ Below w.heap.size w w' := by
  have S := (((St.start w).box2 (.int .u32 a) (.int .i64 n) 25).box2 (.int .u32 b) (.int .i64 m) 25).box2 (.int .u32 c) (.int .i64 l) 25
  simp only [World.size_alloc] at S
  obtain ⟨g0, g1⟩ := vld_yes hv
  have e1 := cvr_self (n := n) ha
  have e2 := ctn_cvr (n := n) ha hip
  rw [hv] at e1
  rw [hy] at e2
  obtain ⟨e7, e8⟩ := cvr_cln ha g0 g1
  have e6 := cln_cln ha g0 g1
  have E1 := Lib.hid e1; have E2 := Lib.hid e2; have E4 := Lib.hid hy
  have HV := Lib.hid hv; have HM := Lib.hid hm
  clear hv hm hy e1 e2 ha hb hip
  go_enter Try.func3, Try.ntmps3
  go_wp2_with (go_at_call 6; refine (lives_any _).mono ?_; rintro e w1 ⟨rfl, rfl⟩)
  refine wp_region_qs S (by kernel_rfl) (by kernel_rfl) ?_
  intro k
  simp only [CellsAt, and_true] at k
  repeat (go_big_quiet_step (first | (with_reducible exact Calls.regrown_of (covers_is _ _ _ _ E1.out _)) | (with_reducible exact Calls.regrown_of (covers_is _ _ _ _ E2.out _)) | (with_reducible exact Calls.regrown_of (contains_is _ _ _ E4.out _))))
  refine wpQuiet_nil ?_
  clear k
  intro w4 S4
  replace S := S4
  clear S4
  have k := S.cells
  have z := S.lts
  simp only [Cells, Lts, and_true] at k z
  go_wp2_with (first
    | (go_at_call 7; (with_reducible refine (covers_any _ _ _ _ _).mono ?_); rintro e w1 ⟨rfl, hb⟩; clear k z; replace S := (by first | exact S.below hb | exact (S.box2 _ _ _).below hb); clear hb; have k := S.cells; have z := S.lts; simp only [Cells, Lts, and_true] at k z)
    | (go_at_call 8; (with_reducible refine (contains_any _ _ _ _).mono ?_); rintro e w1 ⟨rfl, hb⟩; clear k z; replace S := (by first | exact S.below hb | exact (S.box2 _ _ _).below hb); clear hb; have k := S.cells; have z := S.lts; simp only [Cells, Lts, and_true] at k z)
    | (go_at_call 9; (with_reducible refine (clean_yes _ _ HV.out _).mono ?_); rintro e w1 ⟨rfl, hb⟩; clear k z; replace S := (by first | exact S.below hb | exact (S.box2 _ _ _).below hb); clear hb; have k := S.cells; have z := S.lts; simp only [Cells, Lts, and_true] at k z)
    | (go_at_call 9; (with_reducible refine (clean_yes _ _ HM.out _).mono ?_); rintro e w1 ⟨rfl, hb⟩; clear k z; replace S := (by first | exact S.below hb | exact (S.box2 _ _ _).below hb); clear hb; have k := S.cells; have z := S.lts; simp only [Cells, Lts, and_true] at k z))
  go_ret
  exact ⟨rfl, S.2⟩

set_option maxRecDepth 100000 in
set_option maxHeartbeats 4000000 in
theorem coversLaw_TFN (a n b m c l ip : Int) (ha : Adr a) (hb : Adr b) (hip : Adr ip) (hv : vld n = true) (hm : vld m = true) (y : Bool) (hy : ctn a n ip = y) (y2 : ctn b m ip = false) (x1 : cvr a n b m = true) (x2 : cvr b m c l = true) (x3 : cvr a n c l = true) (x4 : cvr b m a n = false) (q1 : (n == m) = false) (w : World) :
    Calls Try.prog 3 #[.agg #[.int .u32 a, .int .i64 n], .agg #[.int .u32 b, .int .i64 m], .agg #[.int .u32 c, .int .i64 l], .int .u32 ip] w fun e w' => e = .returned (.bool true) ∧ Below w.heap.size w w' := by
  have S := (((St.start w).box2 (.int .u32 a) (.int .i64 n) 25).box2 (.int .u32 b) (.int .i64 m) 25).box2 (.int .u32 c) (.int .i64 l) 25
  simp only [World.size_alloc] at S
  obtain ⟨g0, g1⟩ := vld_yes hv
  have e1 := cvr_self (n := n) ha
  have e2 := ctn_cvr (n := n) ha hip
  rw [hv] at e1
  rw [hy] at e2
  obtain ⟨e7, e8⟩ := cvr_cln ha g0 g1
  have e6 := cln_cln ha g0 g1
  have E1 := Lib.hid e1; have E2 := Lib.hid e2; have E4 := Lib.hid hy
  have HV := Lib.hid hv; have HM := Lib.hid hm
  clear hv hm hy e1 e2 ha hb hip
  go_enter Try.func3, Try.ntmps3
  go_wp2_with (go_at_call 6; refine (lives_any _).mono ?_; rintro e w1 ⟨rfl, rfl⟩)
  refine wp_region_qs S (by kernel_rfl) (by kernel_rfl) ?_
  intro k
  simp only [CellsAt, and_true] at k
  repeat (go_big_quiet_step (first | (with_reducible exact Calls.regrown_of (covers_is _ _ _ _ E1.out _)) | (with_reducible exact Calls.regrown_of (covers_is _ _ _ _ E2.out _)) | (with_reducible exact Calls.regrown_of (contains_is _ _ _ E4.out _))))
  refine wpQuiet_nil ?_
  clear k
  intro w4 S4
  replace S := S4
  clear S4
  have k := S.cells
  have z := S.lts
  simp only [Cells, Lts, and_true] at k z
  go_wp2_with (first
    | (go_at_call 7; (with_reducible refine (covers_any _ _ _ _ _).mono ?_); rintro e w1 ⟨rfl, hb⟩; clear k z; replace S := (by first | exact S.below hb | exact (S.box2 _ _ _).below hb); clear hb; have k := S.cells; have z := S.lts; simp only [Cells, Lts, and_true] at k z)
    | (go_at_call 8; (with_reducible refine (contains_any _ _ _ _).mono ?_); rintro e w1 ⟨rfl, hb⟩; clear k z; replace S := (by first | exact S.below hb | exact (S.box2 _ _ _).below hb); clear hb; have k := S.cells; have z := S.lts; simp only [Cells, Lts, and_true] at k z)
    | (go_at_call 9; (with_reducible refine (clean_yes _ _ HV.out _).mono ?_); rintro e w1 ⟨rfl, hb⟩; clear k z; replace S := (by first | exact S.below hb | exact (S.box2 _ _ _).below hb); clear hb; have k := S.cells; have z := S.lts; simp only [Cells, Lts, and_true] at k z)
    | (go_at_call 9; (with_reducible refine (clean_yes _ _ HM.out _).mono ?_); rintro e w1 ⟨rfl, hb⟩; clear k z; replace S := (by first | exact S.below hb | exact (S.box2 _ _ _).below hb); clear hb; have k := S.cells; have z := S.lts; simp only [Cells, Lts, and_true] at k z))
  go_ret
  exact ⟨rfl, S.2⟩

set_option maxRecDepth 100000 in
set_option maxHeartbeats 4000000 in
theorem coversLaw_TFC (a n b m c l ip : Int) (ha : Adr a) (hb : Adr b) (hip : Adr ip) (hv : vld n = true) (hm : vld m = true) (y : Bool) (hy : ctn a n ip = y) (y2 : ctn b m ip = false) (x1 : cvr a n b m = true) (x2 : cvr b m c l = true) (x3 : cvr a n c l = true) (x4 : cvr b m a n = false) (q1 : (cln a n == cln b m) = false) (w : World) :
    Calls Try.prog 3 #[.agg #[.int .u32 a, .int .i64 n], .agg #[.int .u32 b, .int .i64 m], .agg #[.int .u32 c, .int .i64 l], .int .u32 ip] w fun e w' => e = .returned (.bool true) ∧ Below w.heap.size w w' := by
  have S := (((St.start w).box2 (.int .u32 a) (.int .i64 n) 25).box2 (.int .u32 b) (.int .i64 m) 25).box2 (.int .u32 c) (.int .i64 l) 25
  simp only [World.size_alloc] at S
  obtain ⟨g0, g1⟩ := vld_yes hv
  have e1 := cvr_self (n := n) ha
  have e2 := ctn_cvr (n := n) ha hip
  rw [hv] at e1
  rw [hy] at e2
  obtain ⟨e7, e8⟩ := cvr_cln ha g0 g1
  have e6 := cln_cln ha g0 g1
  have E1 := Lib.hid e1; have E2 := Lib.hid e2; have E4 := Lib.hid hy
  have HV := Lib.hid hv; have HM := Lib.hid hm
  clear hv hm hy e1 e2 ha hb hip
  go_enter Try.func3, Try.ntmps3
  go_wp2_with (go_at_call 6; refine (lives_any _).mono ?_; rintro e w1 ⟨rfl, rfl⟩)
  refine wp_region_qs S (by kernel_rfl) (by kernel_rfl) ?_
  intro k
  simp only [CellsAt, and_true] at k
  repeat (go_big_quiet_step (first | (with_reducible exact Calls.regrown_of (covers_is _ _ _ _ E1.out _)) | (with_reducible exact Calls.regrown_of (covers_is _ _ _ _ E2.out _)) | (with_reducible exact Calls.regrown_of (contains_is _ _ _ E4.out _))))
  refine wpQuiet_nil ?_
  clear k
  intro w4 S4
  replace S := S4
  clear S4
  have k := S.cells
  have z := S.lts
  simp only [Cells, Lts, and_true] at k z
  go_wp2_with (first
    | (go_at_call 7; (with_reducible refine (covers_any _ _ _ _ _).mono ?_); rintro e w1 ⟨rfl, hb⟩; clear k z; replace S := (by first | exact S.below hb | exact (S.box2 _ _ _).below hb); clear hb; have k := S.cells; have z := S.lts; simp only [Cells, Lts, and_true] at k z)
    | (go_at_call 8; (with_reducible refine (contains_any _ _ _ _).mono ?_); rintro e w1 ⟨rfl, hb⟩; clear k z; replace S := (by first | exact S.below hb | exact (S.box2 _ _ _).below hb); clear hb; have k := S.cells; have z := S.lts; simp only [Cells, Lts, and_true] at k z)
    | (go_at_call 9; (with_reducible refine (clean_yes _ _ HV.out _).mono ?_); rintro e w1 ⟨rfl, hb⟩; clear k z; replace S := (by first | exact S.below hb | exact (S.box2 _ _ _).below hb); clear hb; have k := S.cells; have z := S.lts; simp only [Cells, Lts, and_true] at k z)
    | (go_at_call 9; (with_reducible refine (clean_yes _ _ HM.out _).mono ?_); rintro e w1 ⟨rfl, hb⟩; clear k z; replace S := (by first | exact S.below hb | exact (S.box2 _ _ _).below hb); clear hb; have k := S.cells; have z := S.lts; simp only [Cells, Lts, and_true] at k z))
  go_ret
  exact ⟨rfl, S.2⟩

end Go.Proofs.Ytogkkcbmopdbnaa
