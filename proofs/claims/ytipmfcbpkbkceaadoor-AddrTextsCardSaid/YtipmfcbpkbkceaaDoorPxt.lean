/- The text of a prefix; the identifier that a text spells. No condition but that the listed variables are laid. -/
import Derived.Test.YtipmfcbpkbkceaaDoorPfx
import Derived.Test.YtipmfcbpkbkceaaDoorTxt
import Derived.Laws.CopyRow
import Derived.Laws.Concat
import Derived.OwnWalk
namespace Go.Proofs.YtipmfcbpkbkceaaDoor
open Go.RowKit Go.Shelf Go.Sort
set_option linter.unusedVariables false
set_option linter.unusedSimpArgs false
set_option maxRecDepth 100000

theorem itoa_small (n : Nat) (h : n < 100) (w : World) : Calls Tryd.prog 31 #[.int .i64 n] w fun e w' => e = .returned (.string ⟨(Lib.decDigits n).toArray⟩) ∧ w' = w := by
  have hs := Tryd.internal_strconv_small n h w
  have h1 : (n : Int) < 100 := by omega
  have hf : Calls Tryd.prog 45 #[.int .i64 n, .int .i64 10] w fun e w' => e = .returned (.string ⟨(Lib.decDigits n).toArray⟩) ∧ w' = w := by
    go_enter Tryd.func45, Tryd.ntmps45
    go_wp2_with (go_at_call 53; refine hs.mono ?_; rintro e w' ⟨rfl, hw⟩; obtain rfl := hw.symm)
    go_ret
    exact ⟨rfl, rfl⟩
  have hi : Calls Tryd.prog 40 #[.int .i64 n] w fun e w' => e = .returned (.string ⟨(Lib.decDigits n).toArray⟩) ∧ w' = w := by
    go_enter Tryd.func40, Tryd.ntmps40
    go_wp2_with (go_at_call 45; refine hf.mono ?_; rintro e w' ⟨rfl, hw⟩; obtain rfl := hw.symm)
    go_ret
    exact ⟨rfl, rfl⟩
  go_enter Tryd.func31, Tryd.ntmps31
  go_wp2_with (go_at_call 40; refine hi.mono ?_; rintro e w' ⟨rfl, hw⟩; obtain rfl := hw.symm)
  go_ret
  exact ⟨rfl, rfl⟩

theorem bytIP_lt (m : Int) (i : Nat) : (bytIP m i).toNat < 256 := by
  unfold bytIP
  omega
theorem ipStr_size (m : Int) : (ipStr m).size ≤ 16 := by
  unfold ipStr
  rw [strOfNums_size, List.length_map]
  refine Nat.le_trans (wrt_len _ _ _ decTxt_len (fun i _ => bytIP_lt m i) _) ?_
  rw [upto_length]
  decide
theorem digits_size : ∀ n, n ≤ 32 → (Lib.decDigits n).length ≤ 2 := by decide +kernel
/-- The text of a prefix. -/
def pfxStr (a : Int) (n : Nat) : ByteArray := ipStr a ++ ⟨#[47]⟩ ++ ⟨(Lib.decDigits n).toArray⟩
theorem prefixText_no (a n : Int) (hv : vld n = false) (w : World) : Calls Tryd.prog 12 #[.agg #[.int .u32 a, .int .i64 n]] w fun e w' => e = .returned (.tuple #[.string ByteArray.empty, .int .i64 2]) ∧ Below w.heap.size w w' := by
  have c := cell2_new w (.int .u32 a) (.int .i64 n) 27
  have l := (Below.refl w.heap.size w).alloc (Nat.le_refl _) (.cells #[.int .u32 a, .int .i64 n] 27)
  have hx := valid_is a n hv (w.alloc (.cells #[.int .u32 a, .int .i64 n] 27))
  obtain ⟨c0, c1⟩ := c
  go_enter Tryd.func12, Tryd.ntmps12
  go_wp2_with (go_at_call 29; refine hx.mono ?_; rintro e w1 ⟨rfl, hb⟩; clear hx)
  go_ret2
  exact ⟨rfl, l.trans (hb.mono l.size)⟩
theorem prefixText_yes (a : Int) (n : Nat) (h0 : 0 ≤ a) (hn : n ≤ 32) (w : World) (hT : Tabs w) : Calls Tryd.prog 12 #[.agg #[.int .u32 a, .int .i64 n]] w fun e w' => e = .returned (.tuple #[.string (pfxStr a n), .int .i64 0]) ∧ Below w.heap.size w w' := by
  have hv : vld n = true := by unfold vld; simp; omega
  have c := cell2_new w (.int .u32 a) (.int .i64 n) 27
  have l := (Below.refl w.heap.size w).alloc (Nat.le_refl _) (.cells #[.int .u32 a, .int .i64 n] 27)
  have hx := valid_is a n hv (w.alloc (.cells #[.int .u32 a, .int .i64 n] 27))
  obtain ⟨c0, c1⟩ := c
  go_enter Tryd.func12, Tryd.ntmps12
  go_wp2_with (go_at_call 29; refine hx.mono ?_; rintro e w1 ⟨rfl, hb⟩; clear hx)
  have d := box2_on hb
  have B1 := l.trans (hb.mono l.size)
  have T1 := hT.below B1
  have k0 := cell_regrown d.1
  have k1 := cell_regrown d.2.1
  clear c0 c1 d
  have z1 := ipStr_size a
  have z2 := digits_size n hn
  have z3 : (ByteArray.mk #[47]).size = 1 := rfl
  have z4 : (ByteArray.mk (Lib.decDigits n).toArray).size ≤ 2 := by simpa [ByteArray.size] using z2
  have y1 : ∀ w, (binOp .add 9 (.string (ipStr a)) (.string ⟨#[47]⟩)).run Tryd.prog w = .ok (.string (ipStr a ++ ⟨#[47]⟩)) w := fun w => by
    rw [binOp_string_add]
    exact run_string_add_sum w _ _ (by omega)
  have y2 : ∀ w, (binOp .add 9 (.string (ipStr a ++ ⟨#[47]⟩)) (.string ⟨(Lib.decDigits n).toArray⟩)).run Tryd.prog w = .ok (.string (pfxStr a n)) w := fun w => by
    rw [binOp_string_add]
    exact run_string_add_sum w _ _ (by rw [ByteArray.size_append]; omega)
  refine wp_region_qb (by kernel_rfl) (by kernel_rfl) ?_
  repeat (go_big_quiet_step (first | exact Calls.regrown_of (ipText_is a h0 _ (T1.below (below_regrown w1 _ _))) | exact regrown_same ((itoa_small n (by omega) _).mono fun _ _ h => ⟨h.1, h.2.symm⟩)))
  refine wpQuiet_nil ?_
  intro w2 hb2
  go_wp2
  go_ret2
  exact ⟨rfl, B1.trans (hb2.mono B1.size)⟩
end Go.Proofs.YtipmfcbpkbkceaaDoor
