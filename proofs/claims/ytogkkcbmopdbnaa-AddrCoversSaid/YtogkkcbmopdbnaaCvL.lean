/- AddrCovers returns true, whatever the input: the cases. No condition. -/
import Derived.Test.YtogkkcbmopdbnaaNum
namespace Go.Proofs.Ytogkkcbmopdbnaa
open Go.RowKit Go.Sort

set_option maxRecDepth 100000 in
set_option maxHeartbeats 4000000 in
theorem coversLaw_A1 (a n b m c l ip : Int) (ha : Adr a) (hb : Adr b) (hip : Adr ip) (h0 : n < 0) (w : World) :
    Calls Try.prog 3 #[.agg #[.int .u32 a, .int .i64 n], .agg #[.int .u32 b, .int .i64 m], .agg #[.int .u32 c, .int .i64 l], .int .u32 ip] w fun e w' => e = .returned (.bool true) ∧ Below w.heap.size w w' := by
  have S := (((St.start w).box2 (.int .u32 a) (.int .i64 n) 25).box2 (.int .u32 b) (.int .i64 m) 25).box2 (.int .u32 c) (.int .i64 l) 25
  simp only [World.size_alloc] at S
  have hv : vld n = false := by simp [vld]; omega
  have e1 := cvr_self (n := n) ha
  have e2 := ctn_cvr (n := n) ha hip
  have e3 := cvr_invalid (n := n) (m := m) ha hb (.inl hv)
  have e4 : ctn a n ip = false := by simp [ctn, hv]
  rw [hv] at e1
  rw [e4] at e2
  have E1 := Lib.hid e1; have E2 := Lib.hid e2; have E4 := Lib.hid e4
  have e5 : clnE n = 2 := by simp [clnE, hv]
  clear hv e1 e2 e4 ha hb hip
  go_enter Try.func3, Try.ntmps3
  go_wp2_with (go_at_call 6; refine (lives_any _).mono ?_; rintro e w1 ⟨rfl, rfl⟩)
  refine wp_region_qs S (by kernel_rfl) (by kernel_rfl) ?_
  intro k
  simp only [CellsAt, and_true] at k
  repeat (go_big_quiet_step (first | (with_reducible exact Calls.regrown_of (covers_is _ _ _ _ E1.out _)) | (with_reducible exact Calls.regrown_of (covers_is _ _ _ _ E2.out _)) | (with_reducible exact Calls.regrown_of (contains_is _ _ _ E4.out _))))
  refine wpQuiet_nil ?_
  clear k
  intro w4 S4
  replace S := S4
  clear S4
  have k := S.cells
  have z := S.lts
  simp only [Cells, Lts, and_true] at k z
  go_wp2_with (first
    | (go_at_call 7; (with_reducible refine (covers_any _ _ _ _ _).mono ?_); rintro e w1 ⟨rfl, hb⟩; clear k z; replace S := (by first | exact S.below hb | exact (S.box2 _ _ _).below hb); clear hb; have k := S.cells; have z := S.lts; simp only [Cells, Lts, and_true] at k z)
    | (go_at_call 9; (with_reducible refine (clean_any _ _ _).mono ?_); rintro e w1 ⟨rfl, hb⟩; clear k z; replace S := (by first | exact S.below hb | exact (S.box2 _ _ _).below hb); clear hb; have k := S.cells; have z := S.lts; simp only [Cells, Lts, and_true] at k z))
  go_ret
  exact ⟨rfl, S.2⟩

set_option maxRecDepth 100000 in
set_option maxHeartbeats 4000000 in
theorem coversLaw_A2 (a n b m c l ip : Int) (ha : Adr a) (hb : Adr b) (hip : Adr ip) (h0 : 0 ≤ n) (h1 : 32 < n) (w : World) :
    Calls Try.prog 3 #[.agg #[.int .u32 a, .int .i64 n], .agg #[.int .u32 b, .int .i64 m], .agg #[.int .u32 c, .int .i64 l], .int .u32 ip] w fun e w' => e = .returned (.bool true) ∧ Below w.heap.size w w' := by
  have S := (((St.start w).box2 (.int .u32 a) (.int .i64 n) 25).box2 (.int .u32 b) (.int .i64 m) 25).box2 (.int .u32 c) (.int .i64 l) 25
  simp only [World.size_alloc] at S
  have hv : vld n = false := by simp [vld]; omega
  have e1 := cvr_self (n := n) ha
  have e2 := ctn_cvr (n := n) ha hip
  have e3 := cvr_invalid (n := n) (m := m) ha hb (.inl hv)
  have e4 : ctn a n ip = false := by simp [ctn, hv]
  rw [hv] at e1
  rw [e4] at e2
  have E1 := Lib.hid e1; have E2 := Lib.hid e2; have E4 := Lib.hid e4
  have e5 : clnE n = 2 := by simp [clnE, hv]
  clear hv e1 e2 e4 ha hb hip
  have e9 : decide (n ≤ 32) = false := by simp; omega
  go_enter Try.func3, Try.ntmps3
  go_wp2_with (go_at_call 6; refine (lives_any _).mono ?_; rintro e w1 ⟨rfl, rfl⟩)
  refine wp_region_qs S (by kernel_rfl) (by kernel_rfl) ?_
  intro k
  simp only [CellsAt, and_true] at k
  repeat (go_big_quiet_step (first | (with_reducible exact Calls.regrown_of (covers_is _ _ _ _ E1.out _)) | (with_reducible exact Calls.regrown_of (covers_is _ _ _ _ E2.out _)) | (with_reducible exact Calls.regrown_of (contains_is _ _ _ E4.out _))))
  refine wpQuiet_nil ?_
  clear k
  intro w4 S4
  replace S := S4
  clear S4
  have k := S.cells
  have z := S.lts
  simp only [Cells, Lts, and_true] at k z
  go_wp2_with (first
    | (go_at_call 7; (with_reducible refine (covers_any _ _ _ _ _).mono ?_); rintro e w1 ⟨rfl, hb⟩; clear k z; replace S := (by first | exact S.below hb | exact (S.box2 _ _ _).below hb); clear hb; have k := S.cells; have z := S.lts; simp only [Cells, Lts, and_true] at k z)
    | (go_at_call 9; (with_reducible refine (clean_any _ _ _).mono ?_); rintro e w1 ⟨rfl, hb⟩; clear k z; replace S := (by first | exact S.below hb | exact (S.box2 _ _ _).below hb); clear hb; have k := S.cells; have z := S.lts; simp only [Cells, Lts, and_true] at k z))
  go_ret
  exact ⟨rfl, S.2⟩

set_option maxRecDepth 100000 in
set_option maxHeartbeats 4000000 in
theorem coversLaw_A3 (a n b m c l ip : Int) (ha : Adr a) (hb : Adr b) (hip : Adr ip) (hv : vld n = true) (hm : vld m = false) (y : Bool) (hy : ctn a n ip = y) (w : World) :
    Calls Try.prog 3 #[.agg #[.int .u32 a, .int .i64 n], .agg #[.int .u32 b, .int .i64 m], .agg #[.int .u32 c, .int .i64 l], .int .u32 ip] w fun e w' => e = .returned (.bool true) ∧ Below w.heap.size w w' := by
  have S := (((St.start w).box2 (.int .u32 a) (.int .i64 n) 25).box2 (.int .u32 b) (.int .i64 m) 25).box2 (.int .u32 c) (.int .i64 l) 25
  simp only [World.size_alloc] at S
  obtain ⟨g0, g1⟩ := vld_yes hv
  have e1 := cvr_self (n := n) ha
  have e2 := ctn_cvr (n := n) ha hip
  have e3 := cvr_invalid (n := n) (m := m) ha hb (.inr hm)
  rw [hv] at e1
  rw [hy] at e2
  have E1 := Lib.hid e1; have E2 := Lib.hid e2; have E4 := Lib.hid hy
  have e5 : clnE n = 0 := by simp [clnE, hv]
  have e6 : clnE m = 2 := by simp [clnE, hm]
  clear hv hm hy e1 e2 ha hb hip
  go_enter Try.func3, Try.ntmps3
  go_wp2_with (go_at_call 6; refine (lives_any _).mono ?_; rintro e w1 ⟨rfl, rfl⟩)
  refine wp_region_qs S (by kernel_rfl) (by kernel_rfl) ?_
  intro k
  simp only [CellsAt, and_true] at k
  repeat (go_big_quiet_step (first | (with_reducible exact Calls.regrown_of (covers_is _ _ _ _ E1.out _)) | (with_reducible exact Calls.regrown_of (covers_is _ _ _ _ E2.out _)) | (with_reducible exact Calls.regrown_of (contains_is _ _ _ E4.out _))))
  refine wpQuiet_nil ?_
  clear k
  intro w4 S4
  replace S := S4
  clear S4
  have k := S.cells
  have z := S.lts
  simp only [Cells, Lts, and_true] at k z
  go_wp2_with (first
    | (go_at_call 7; (with_reducible refine (covers_any _ _ _ _ _).mono ?_); rintro e w1 ⟨rfl, hb⟩; clear k z; replace S := (by first | exact S.below hb | exact (S.box2 _ _ _).below hb); clear hb; have k := S.cells; have z := S.lts; simp only [Cells, Lts, and_true] at k z)
    | (go_at_call 9; (with_reducible refine (clean_any _ _ _).mono ?_); rintro e w1 ⟨rfl, hb⟩; clear k z; replace S := (by first | exact S.below hb | exact (S.box2 _ _ _).below hb); clear hb; have k := S.cells; have z := S.lts; simp only [Cells, Lts, and_true] at k z))
  go_ret
  exact ⟨rfl, S.2⟩

end Go.Proofs.Ytogkkcbmopdbnaa
