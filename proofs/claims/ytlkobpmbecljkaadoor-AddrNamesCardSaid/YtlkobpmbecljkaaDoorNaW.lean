/- AddrNames: the law returns true. -/
import Derived.Test.YtlkobpmbecljkaaDoorNaC
import Derived.Laws.StructEq
namespace Go.Proofs.YtlkobpmbecljkaaDoor
open Go.RowKit Go.Shelf Go.Sort
set_option linter.unusedVariables false
set_option linter.unusedSimpArgs false
theorem St.box10' {w0 w : World} {cs : List (Nat × Nat × Value)} (h : St w0 cs w) (x0 x1 x2 x3 x4 x5 x6 x7 x8 x9 : Value) (T : TypeId) : St w0 ((w.heap.size, 0, x0) :: (w.heap.size, 1, x1) :: (w.heap.size, 2, x2) :: (w.heap.size, 3, x3) :: (w.heap.size, 4, x4) :: (w.heap.size, 5, x5) :: (w.heap.size, 6, x6) :: (w.heap.size, 7, x7) :: (w.heap.size, 8, x8) :: (w.heap.size, 9, x9) :: cs) (w.alloc (.cells #[x0, x1, x2, x3, x4, x5, x6, x7, x8, x9] T)) :=
  ((((((((((((((((((((h.alloc (.cells #[x0, x1, x2, x3, x4, x5, x6, x7, x8, x9] T)).cons _ _ _ (World.cell?_alloc_at _ _ _ _ rfl))).cons _ _ _ (World.cell?_alloc_at _ _ _ _ rfl))).cons _ _ _ (World.cell?_alloc_at _ _ _ _ rfl))).cons _ _ _ (World.cell?_alloc_at _ _ _ _ rfl))).cons _ _ _ (World.cell?_alloc_at _ _ _ _ rfl))).cons _ _ _ (World.cell?_alloc_at _ _ _ _ rfl))).cons _ _ _ (World.cell?_alloc_at _ _ _ _ rfl))).cons _ _ _ (World.cell?_alloc_at _ _ _ _ rfl))).cons _ _ _ (World.cell?_alloc_at _ _ _ _ rfl))).cons _ _ _ (World.cell?_alloc_at _ _ _ _ rfl))

theorem numIP_no (a n : Int) (h : 32 ≤ n) (w : World) : Calls Tryd.prog 23 #[.int .u32 a, .int .i64 n] w fun e w' => e = .returned (.tuple #[.int .u32 0, .int .i64 2]) ∧ w' = w := by
  have h0 : ¬ n < 0 := by omega
  go_enter Tryd.func23, Tryd.ntmps23
  go_wp2
  go_ret2
  exact ⟨rfl, rfl⟩
theorem numMAC_no (a n : Int) (h : n < 0) (w : World) : Calls Tryd.prog 24 #[.int .u64 a, .int .i64 n] w fun e w' => e = .returned (.tuple #[.int .u64 0, .int .i64 2]) ∧ w' = w := by
  go_enter Tryd.func24, Tryd.ntmps24
  go_wp2
  go_ret2
  exact ⟨rfl, rfl⟩
theorem numMAC_5 (w : World) : Calls Tryd.prog 24 #[.int .u64 2199023255552, .int .i64 5] w fun e w' => e = .returned (.tuple #[.int .u64 2199023255557, .int .i64 0]) ∧ w' = w := by
  go_enter Tryd.func24, Tryd.ntmps24
  go_wp2
  go_ret2
  exact ⟨rfl, rfl⟩
theorem nodeMAC_5 (w : World) : Calls Tryd.prog 25 #[.int .u64 2199023255552, .int .u64 2199023255557] w fun e w' => e = .returned (.tuple #[.int .i64 5, .bool true]) ∧ w' = w := by
  go_enter Tryd.func25, Tryd.ntmps25
  go_wp2
  go_ret2
  exact ⟨rfl, rfl⟩
theorem n_lb (w : World) : Calls Tryd.prog 6 #[.int .i64 32] w fun e w' => e = .returned (.tuple #[.int .u32 0, .int .i64 2]) ∧ w' = w := by
  go_enter Tryd.func6, Tryd.ntmps6
  go_wp2_with (go_at_call 23; refine (numIP_no _ 32 (by decide) _).mono ?_; rintro e w' ⟨rfl, rfl⟩)
  go_ret2
  exact ⟨rfl, rfl⟩
theorem n_rm (w : World) : Calls Tryd.prog 7 #[.int .i64 (-1)] w fun e w' => e = .returned (.tuple #[.int .u64 0, .int .i64 2]) ∧ w' = w := by
  go_enter Tryd.func7, Tryd.ntmps7
  go_wp2_with (go_at_call 24; refine (numMAC_no _ (-1) (by decide) _).mono ?_; rintro e w' ⟨rfl, rfl⟩)
  go_ret2
  exact ⟨rfl, rfl⟩
theorem n_rm5 (w : World) : Calls Tryd.prog 7 #[.int .i64 5] w fun e w' => e = .returned (.tuple #[.int .u64 2199023255557, .int .i64 0]) ∧ w' = w := by
  go_enter Tryd.func7, Tryd.ntmps7
  go_wp2_with (go_at_call 24; refine (numMAC_5 _).mono ?_; rintro e w' ⟨rfl, rfl⟩)
  go_ret2
  exact ⟨rfl, rfl⟩
theorem n_rn (w : World) : Calls Tryd.prog 8 #[.int .u64 2199023255557] w fun e w' => e = .returned (.tuple #[.int .i64 5, .bool true]) ∧ w' = w := by
  go_enter Tryd.func8, Tryd.ntmps8
  go_wp2_with (go_at_call 25; refine (nodeMAC_5 _).mono ?_; rintro e w' ⟨rfl, rfl⟩)
  go_ret2
  exact ⟨rfl, rfl⟩

theorem n_vm (m : Int) (h : m ≤ 281474976710655) (w : World) : Calls Tryd.prog 32 #[.int .u64 m] w fun e w' => e = .returned (.bool true) ∧ w' = w := by
  go_enter Tryd.func32, Tryd.ntmps32
  go_wp2
  go_ret
  exact ⟨rfl, rfl⟩
theorem n_mc (w : World) : Calls Tryd.prog 17 #[.int .u64 281474976710655] w fun e w' => e = .returned (.bool true) ∧ Below w.heap.size w w' := by
  go_enter Tryd.func17, Tryd.ntmps17
  go_wp2_with (go_at_call 32; refine (n_vm _ (by decide) _).mono ?_; rintro e w' ⟨rfl, rfl⟩)
  go_ret
  exact ⟨rfl, Below.refl _ _⟩
theorem n_mcno (w : World) : Calls Tryd.prog 17 #[.int .u64 2199023255557] w fun e w' => e = .returned (.bool false) ∧ Below w.heap.size w w' := by
  go_enter Tryd.func17, Tryd.ntmps17
  go_wp2_with (go_at_call 32; refine (n_vm _ (by decide) _).mono ?_; rintro e w' ⟨rfl, rfl⟩)
  go_ret
  exact ⟨rfl, Below.refl _ _⟩

set_option maxHeartbeats 1600000 in
set_option maxRecDepth 100000 in
theorem names_walk (w : World) (hT : Tabs w) (hV : Vars w) : Calls Tryd.prog 3 #[] w fun e w' => e = .returned (.bool true) ∧ Below w.heap.size w w' := by
  have S0 := St.start w
  have HT := Lib.hid hT
  go_enter Tryd.func3, Tryd.ntmps3
  go_wp2_with (first | (go_at_call 5; refine (lives_any _).mono ?_; rintro e w' ⟨rfl, rfl⟩) | (go_at_call 6; refine (n_lb _).mono ?_; rintro e w' ⟨rfl, rfl⟩))
  go_at_call 7
  refine (n_rm _).mono ?_
  rintro e w' ⟨rfl, rfl⟩
  go_wp2_with (go_at_call 7; refine (n_rm5 _).mono ?_; rintro e w' ⟨rfl, rfl⟩)
  go_at_call 8
  refine (n_rn _).mono ?_
  rintro e w' ⟨rfl, rfl⟩
  go_wp2_with (go_at_call 9; refine (n_clean _).mono ?_; rintro e w1 ⟨rfl, hb1⟩; have S1 := (S0.below hb1).box2 (.int .u32 167837696) (.int .i64 16) 35; have k := S1.cells; have z := S1.lts; simp only [Cells, Lts, and_true] at k z)
  go_at_call 10
  refine (n_seg _).mono ?_
  rintro e w2 ⟨rfl, hb2⟩
  have S2 := (S1.below hb2).box10' (.int .u8 3) (.int .u8 0) (.int .u8 0) (.int .u8 0) (.int .u8 0) (.int .u8 0) (.int .u8 0) (.int .u8 0) (.int .u8 0) (.int .u8 5) 39
  clear k z
  have k := S2.cells
  have z := S2.lts
  simp only [Cells, Lts, and_true] at k z
  go_wp2_with (go_at_call 10; refine (n_seg64 _).mono ?_; rintro e w3 ⟨rfl, hb3⟩; have S3 := (S2.below hb3).box10' (.int .u8 0) (.int .u8 0) (.int .u8 0) (.int .u8 0) (.int .u8 0) (.int .u8 0) (.int .u8 0) (.int .u8 0) (.int .u8 0) (.int .u8 0) 39; clear k z; have k := S3.cells; have z := S3.lts; simp only [Cells, Lts, and_true] at k z)
  go_at_call 11
  refine (n_ip _ (hV.below S3.2)).mono ?_
  rintro e w4 ⟨rfl, hb4⟩
  have S4 := (S3.below hb4)
  clear k z
  have k := S4.cells
  have z := S4.lts
  simp only [Cells, Lts, and_true] at k z
  go_wp2_with (go_at_call 12; refine (n_pfx _ (hV.below S4.2)).mono ?_; rintro e w5 ⟨rfl, hb5⟩; have S5 := (S4.below hb5).box2 (.int .u32 0) (.int .i64 0) 35; clear k z; have k := S5.cells; have z := S5.lts; simp only [Cells, Lts, and_true] at k z)
  go_at_call 13
  refine (macText_no 281474976710656 (by decide) _).mono ?_
  rintro e w6 ⟨rfl, hb6⟩
  have S6 := (S5.below hb6)
  clear k z
  have k := S6.cells
  have z := S6.lts
  simp only [Cells, Lts, and_true] at k z
  go_wp2_with (go_at_call 13; refine (n_mactext _ (hT.below S6.2)).mono ?_; rintro e w7 ⟨rfl, hb7⟩; have S7 := (S6.below hb7); clear k z; have k := S7.cells; have z := S7.lts; simp only [Cells, Lts, and_true] at k z)
  go_at_call 12
  refine (n_pfx0 _ (hV.below S7.2)).mono ?_
  rintro e w8 ⟨rfl, hb8⟩
  have S8 := (S7.below hb8).box2 (.int .u32 0) (.int .i64 0) 35
  clear k z
  have k := S8.cells
  have z := S8.lts
  simp only [Cells, Lts, and_true] at k z
  go_wp2_with (go_at_call 14; refine (n_mac _ (hV.below S8.2)).mono ?_; rintro e w9 ⟨rfl, hb9⟩; have S9 := (S8.below hb9); clear k z; have k := S9.cells; have z := S9.lts; simp only [Cells, Lts, and_true] at k z)
  go_at_call 15
  refine (n_esitext _ (hT.below S9.2)).mono ?_
  rintro e w10 ⟨rfl, hb10⟩
  have S10 := S9.below hb10
  clear k z
  have k := S10.cells
  have z := S10.lts
  simp only [Cells, Lts, and_true] at k z
  dsimp only
  repeat (first | go_skip | go_guarded | go_step | go_upon)
  go_at_call 16
  refine (n_has _).mono ?_
  rintro e w11 ⟨rfl, hb11⟩
  have S11 := S10.below hb11
  clear k z
  have k := S11.cells
  have z := S11.lts
  simp only [Cells, Lts, and_true] at k z
  dsimp only
  repeat (first | go_skip | go_guarded | go_step | go_upon)
  go_at_call 16
  refine (n_hasno _).mono ?_
  rintro e w12 ⟨rfl, hb12⟩
  have S12 := S11.below hb12
  clear k z
  have k := S12.cells
  have z := S12.lts
  simp only [Cells, Lts, and_true] at k z
  dsimp only
  repeat (first | go_skip | go_guarded | go_step | go_upon)
  go_at_call 17
  refine (n_mc _).mono ?_
  rintro e w13 ⟨rfl, hb13⟩
  have S13 := S12.below hb13
  clear k z
  have k := S13.cells
  have z := S13.lts
  simp only [Cells, Lts, and_true] at k z
  dsimp only
  repeat (first | go_skip | go_guarded | go_step | go_upon)
  go_at_call 17
  refine (n_mcno _).mono ?_
  rintro e w14 ⟨rfl, hb14⟩
  have S14 := S13.below hb14
  clear k z
  have k := S14.cells
  have z := S14.lts
  simp only [Cells, Lts, and_true] at k z
  dsimp only
  repeat (first | go_skip | go_guarded | go_step | go_upon)
  go_ret
  exact ⟨rfl, S14.2⟩
end Go.Proofs.YtlkobpmbecljkaaDoor
