/- AddrOrders returns true, whatever the input: the walk. No condition. -/
import Derived.Test.YtogkkcbmopdbnaaOrM
import Derived.Test.YtogkkcbmopdbnaaCov
import Derived.Deep.DeepCutAuto
namespace Go.Proofs.Ytogkkcbmopdbnaa
open Go.RowKit Go.Sort
set_option linter.unusedVariables false

theorem comparePrefix_is (a n b m : Int) {x : Int} (h : cmpP a n b m = x) (w : World) :
    Calls Try.prog 10 #[.agg #[.int .u32 a, .int .i64 n], .agg #[.int .u32 b, .int .i64 m]] w fun e w' => e = .returned (.int .i64 x) ∧ Below w.heap.size w w' := by
  rw [← h]; exact comparePrefix_any a n b m w
theorem compareESI_is (e f : Nat → Int) {x : Int} (h : cmpE e f = x) (w : World) :
    Calls Try.prog 11 #[.agg #[.int .u8 (e 0), .int .u8 (e 1), .int .u8 (e 2), .int .u8 (e 3), .int .u8 (e 4), .int .u8 (e 5), .int .u8 (e 6), .int .u8 (e 7), .int .u8 (e 8), .int .u8 (e 9)], .agg #[.int .u8 (f 0), .int .u8 (f 1), .int .u8 (f 2), .int .u8 (f 3), .int .u8 (f 4), .int .u8 (f 5), .int .u8 (f 6), .int .u8 (f 7), .int .u8 (f 8), .int .u8 (f 9)]] w fun r w' => r = .returned (.int .i64 x) ∧ Below w.heap.size w w' := by
  rw [← h]; exact compareESI_any e f w
theorem St.box10 {w0 w : World} {cs : List (Nat × Nat × Value)} (h : St w0 cs w) (e : Nat → Int) (T : TypeId) : St w0 ((w.heap.size, 0, .int .u8 (e 0)) :: (w.heap.size, 1, .int .u8 (e 1)) :: (w.heap.size, 2, .int .u8 (e 2)) :: (w.heap.size, 3, .int .u8 (e 3)) :: (w.heap.size, 4, .int .u8 (e 4)) :: (w.heap.size, 5, .int .u8 (e 5)) :: (w.heap.size, 6, .int .u8 (e 6)) :: (w.heap.size, 7, .int .u8 (e 7)) :: (w.heap.size, 8, .int .u8 (e 8)) :: (w.heap.size, 9, .int .u8 (e 9)) :: cs) (w.alloc (.cells #[.int .u8 (e 0), .int .u8 (e 1), .int .u8 (e 2), .int .u8 (e 3), .int .u8 (e 4), .int .u8 (e 5), .int .u8 (e 6), .int .u8 (e 7), .int .u8 (e 8), .int .u8 (e 9)] T)) :=
  (((((((((((h.alloc _).cons _ _ _ (cell_new10 w e T 9 (by decide))).cons _ _ _ (cell_new10 w e T 8 (by decide))).cons _ _ _ (cell_new10 w e T 7 (by decide))).cons _ _ _ (cell_new10 w e T 6 (by decide))).cons _ _ _ (cell_new10 w e T 5 (by decide))).cons _ _ _ (cell_new10 w e T 4 (by decide))).cons _ _ _ (cell_new10 w e T 3 (by decide))).cons _ _ _ (cell_new10 w e T 2 (by decide))).cons _ _ _ (cell_new10 w e T 1 (by decide))).cons _ _ _ (cell_new10 w e T 0 (by decide)))

set_option maxRecDepth 100000 in
set_option maxHeartbeats 8000000 in
theorem ordersLaw (a n b m c l : Int) (e f g : Nat → Int) (x x' y t u u' v s : Int)
    (hx : cmpP a n b m = x) (hx' : cmpP b m a n = x') (hy : cmpP b m c l = y) (ht : cmpP a n c l = t)
    (hu : cmpE e f = u) (hu' : cmpE f e = u') (hv : cmpE f g = v) (hs : cmpE e g = s)
    (p0 : (x != -x') = false) (px : -1 ≤ x) (px2 : x ≤ 1) (px3 : -1 ≤ x') (px4 : x' ≤ 1)
    (p1 : ((x == 0) = true ∧ (a == b) = true ∧ (n == m) = true) ∨ ((x == 0) = false ∧ (a == b) = false) ∨ ((x == 0) = false ∧ (a == b) = true ∧ (n == m) = false))
    (p2 : x ≤ 0 → y ≤ 0 → t ≤ 0)
    (q0 : (u == -u') = true) (qx : -1 ≤ u) (qx2 : u ≤ 1) (qx3 : -1 ≤ u') (qx4 : u' ≤ 1)
    (q1 : ((u == 0) = true ∧ eqE e f = true) ∨ ((u == 0) = false ∧ eqE e f = false))
    (q2 : u ≤ 0 → v ≤ 0 → s ≤ 0) (w : World) :
    Calls Try.prog 4 #[.agg #[.int .u32 a, .int .i64 n], .agg #[.int .u32 b, .int .i64 m], .agg #[.int .u32 c, .int .i64 l], .agg #[.int .u8 (e 0), .int .u8 (e 1), .int .u8 (e 2), .int .u8 (e 3), .int .u8 (e 4), .int .u8 (e 5), .int .u8 (e 6), .int .u8 (e 7), .int .u8 (e 8), .int .u8 (e 9)], .agg #[.int .u8 (f 0), .int .u8 (f 1), .int .u8 (f 2), .int .u8 (f 3), .int .u8 (f 4), .int .u8 (f 5), .int .u8 (f 6), .int .u8 (f 7), .int .u8 (f 8), .int .u8 (f 9)], .agg #[.int .u8 (g 0), .int .u8 (g 1), .int .u8 (g 2), .int .u8 (g 3), .int .u8 (g 4), .int .u8 (g 5), .int .u8 (g 6), .int .u8 (g 7), .int .u8 (g 8), .int .u8 (g 9)]] w fun r w' => r = .returned (.bool true) ∧ Below w.heap.size w w' := by
  have S := ((((((St.start w).box2 (.int .u32 a) (.int .i64 n) 25).box2 (.int .u32 b) (.int .i64 m) 25).box2 (.int .u32 c) (.int .i64 l) 25).box10 e 34).box10 f 34).box10 g 34
  simp only [World.size_alloc] at S
  have X1 := Lib.hid hx; have X2 := Lib.hid hy; have X3 := Lib.hid hx'; have X4 := Lib.hid ht
  have Y1 := Lib.hid hu; have Y2 := Lib.hid hv; have Y3 := Lib.hid hu'; have Y4 := Lib.hid hs
  have P1 := Lib.hid p1; have P2 := Lib.hid p2; have Q1 := Lib.hid q1; have Q2 := Lib.hid q2
  have P0 := Lib.hid p0; have Q0 := Lib.hid q0
  clear hx hy hx' ht hu hv hu' hs p1 p2 q1 q2 p0 q0
  go_enter Try.func4, Try.ntmps4
  go_wp2_with (go_at_call 6; refine (lives_any _).mono ?_; rintro e w1 ⟨rfl, rfl⟩)
  refine wp_region_qs S (by kernel_rfl) (by kernel_rfl) ?_
  intro k
  simp only [CellsAt, and_true] at k
  repeat (go_big_quiet_step (first | (with_reducible exact Calls.regrown_of (comparePrefix_is _ _ _ _ X1.out _)) | (with_reducible exact Calls.regrown_of (comparePrefix_is _ _ _ _ X2.out _))))
  refine wpQuiet_nil ?_
  clear k
  intro w4 S4
  replace S := S4
  clear S4
  go_wp2
  refine wp_region_qs S (by kernel_rfl) (by kernel_rfl) ?_
  intro k
  simp only [CellsAt, and_true] at k
  repeat (go_big_quiet_step (first | (with_reducible exact Calls.regrown_of (compareESI_is _ _ Y1.out _)) | (with_reducible exact Calls.regrown_of (compareESI_is _ _ Y2.out _))))
  refine wpQuiet_nil ?_
  clear k
  intro w5 S5
  replace S := S5
  clear S5
  have SH := Lib.hid S
  go_upto_region 5 with fail
  go_cut [66] (fun sl wx => sl = .bool false ∧ St w _ wx)
  case first =>
    have k := S.cells
    simp only [Cells, and_true] at k
    have p0 := P0.out
    rcases P1.out with ⟨r1, r2, r3⟩ | ⟨r1, r2⟩ | ⟨r1, r2, r3⟩
    all_goals
      by_cases hx0 : x ≤ 0
      · by_cases hy0 : y ≤ 0
        · have ht0 := P2.out hx0 hy0
          go_wp2_with (first
            | (go_at_call 10; (with_reducible refine (comparePrefix_is _ _ _ _ X3.out _).mono ?_); rintro e1 w1 ⟨rfl, hb⟩; clear k; replace S := S.below hb; clear hb; have k := S.cells; simp only [Cells, and_true] at k)
            | (go_at_call 10; (with_reducible refine (comparePrefix_is _ _ _ _ X4.out _).mono ?_); rintro e1 w1 ⟨rfl, hb⟩; clear k; replace S := S.below hb; clear hb; have k := S.cells; simp only [Cells, and_true] at k))
          go_meet
          exact ⟨congrArg Value.bool (by first | rfl | (simp; omega)), S⟩
        · go_wp2_with (first
            | (go_at_call 10; (with_reducible refine (comparePrefix_is _ _ _ _ X3.out _).mono ?_); rintro e1 w1 ⟨rfl, hb⟩; clear k; replace S := S.below hb; clear hb; have k := S.cells; simp only [Cells, and_true] at k))
          go_meet
          exact ⟨congrArg Value.bool (by first | rfl | (simp; omega)), S⟩
      · first
        | (exfalso; have := eq_of_beq r1; omega)
        | (go_wp2_with (first
            | (go_at_call 10; (with_reducible refine (comparePrefix_is _ _ _ _ X3.out _).mono ?_); rintro e1 w1 ⟨rfl, hb⟩; clear k; replace S := S.below hb; clear hb; have k := S.cells; simp only [Cells, and_true] at k))
           go_meet
           exact ⟨congrArg Value.bool (by first | rfl | (simp; omega)), S⟩)
  case rest =>
    obtain ⟨rfl, S6⟩ := hcut
    clear S
    have S := S6
    clear S6
    have k := S.cells
    simp only [Cells, and_true] at k
    have q0 := Q0.out
    have hq := run_eqE e f
    rcases Q1.out with ⟨r1, r2⟩ | ⟨r1, r2⟩
    all_goals
      by_cases hu0 : u ≤ 0
      · by_cases hv0 : v ≤ 0
        · have hs0 := Q2.out hu0 hv0
          go_wp2_with (first
            | (go_at_call 11; (with_reducible refine (compareESI_is _ _ Y3.out _).mono ?_); rintro e1 w1 ⟨rfl, hb⟩; clear k; replace S := S.below hb; clear hb; have k := S.cells; simp only [Cells, and_true] at k)
            | (go_at_call 11; (with_reducible refine (compareESI_is _ _ Y4.out _).mono ?_); rintro e1 w1 ⟨rfl, hb⟩; clear k; replace S := S.below hb; clear hb; have k := S.cells; simp only [Cells, and_true] at k))
          go_ret
          exact ⟨congrArg (fun x => Ending.returned (Value.bool x)) (by first | rfl | (simp; omega)), S.2⟩
        · go_wp2_with (first
            | (go_at_call 11; (with_reducible refine (compareESI_is _ _ Y3.out _).mono ?_); rintro e1 w1 ⟨rfl, hb⟩; clear k; replace S := S.below hb; clear hb; have k := S.cells; simp only [Cells, and_true] at k))
          go_ret
          exact ⟨congrArg (fun x => Ending.returned (Value.bool x)) (by first | rfl | (simp; omega)), S.2⟩
      · first
        | (exfalso; have := eq_of_beq r1; omega)
        | (go_wp2_with (first
            | (go_at_call 11; (with_reducible refine (compareESI_is _ _ Y3.out _).mono ?_); rintro e1 w1 ⟨rfl, hb⟩; clear k; replace S := S.below hb; clear hb; have k := S.cells; simp only [Cells, and_true] at k))
           go_ret
           exact ⟨congrArg (fun x => Ending.returned (Value.bool x)) (by first | rfl | (simp; omega)), S.2⟩)
end Go.Proofs.Ytogkkcbmopdbnaa
