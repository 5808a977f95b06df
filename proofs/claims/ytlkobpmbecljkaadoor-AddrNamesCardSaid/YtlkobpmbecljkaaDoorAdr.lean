/- The functions on prefixes of package addr return what these plain functions say; they make at most new memory. No condition. -/
import Derived.Test.YtlkobpmbecljkaaDoorKit
namespace Go.Proofs.YtlkobpmbecljkaaDoor
open Go.RowKit Go.Sort
def msk (n : Int) : Int := 4294967295 * 2 ^ (32 - n).toNat % 4294967296
def vld (n : Int) : Bool := decide (0 ≤ n) && decide (n ≤ 32)
def hit (a n ip : Int) : Bool := bits BinOp.and IntKind.u32 (bits BinOp.xor IntKind.u32 a ip) (msk n) == 0
def ctn (a n ip : Int) : Bool := vld n && hit a n ip
def cvr (a n b m : Int) : Bool := vld m && decide (n ≤ m) && ctn a n b
theorem vld_yes {n : Int} (h : vld n = true) : 0 ≤ n ∧ n ≤ 32 := by simpa [vld] using h

theorem mask_any (n : Int) (h0 : 0 ≤ n) (h1 : n ≤ 32) (w : World) :
    Calls Tryd.prog 27 #[.int .i64 n] w fun e w' => e = .returned (.int .u32 (msk n)) ∧ w = w' := by
  go_enter Tryd.func27, Tryd.ntmps27
  go_wp2
  go_ret
  exact ⟨rfl, rfl⟩

theorem valid_any (a n : Int) (w : World) :
    Calls Tryd.prog 26 #[.agg #[.int .u32 a, .int .i64 n]] w fun e w' => e = .returned (.bool (vld n)) ∧ Below w.heap.size w w' := by
  by_cases h0 : 0 ≤ n
  · by_cases h1 : n ≤ 32
    · have hv : vld n = true := by simp [vld, h0, h1]
      rw [hv]
      go_enter Tryd.func26, Tryd.ntmps26
      go_wp2
      go_ret
      exact ⟨rfl, (Below.refl _ _).alloc (Nat.le_refl _) _⟩
    · have hv : vld n = false := by simp [vld, h1]
      rw [hv]
      go_enter Tryd.func26, Tryd.ntmps26
      go_wp2
      go_ret
      exact ⟨rfl, (Below.refl _ _).alloc (Nat.le_refl _) _⟩
  · have hv : vld n = false := by simp [vld, h0]
    rw [hv]
    go_enter Tryd.func26, Tryd.ntmps26
    go_wp2
    go_ret
    exact ⟨rfl, (Below.refl _ _).alloc (Nat.le_refl _) _⟩

theorem valid_is (a n : Int) {b : Bool} (hv : vld n = b) (w : World) :
    Calls Tryd.prog 26 #[.agg #[.int .u32 a, .int .i64 n]] w fun e w' => e = .returned (.bool b) ∧ Below w.heap.size w w' := by
  rw [← hv]; exact valid_any a n w

set_option maxHeartbeats 1000000 in
theorem contains_yes (a n ip : Int) (hv : vld n = true) (w : World) :
    Calls Tryd.prog 16 #[.agg #[.int .u32 a, .int .i64 n], .int .u32 ip] w fun e w' => e = .returned (.bool (hit a n ip)) ∧ Below w.heap.size w w' := by
  obtain ⟨h0, h1⟩ := vld_yes hv
  have c := cell2_new w (.int .u32 a) (.int .i64 n) 35
  have k0 := cell_regrown c.1
  have k1 := cell_regrown c.2
  have H := Lib.hid hv
  clear hv c
  go_enter Tryd.func16, Tryd.ntmps16
  go_wp2_with fail
  refine wp_region_qb (by kernel_rfl) (by kernel_rfl) ?_
  repeat (go_big_quiet_step (first | exact Calls.regrown_of (valid_is a n H.out _) | exact regrown_same (mask_any n h0 h1 _)))
  refine wpQuiet_nil ?_
  intro w1 hb
  go_wp2
  go_ret
  exact ⟨rfl, ((Below.refl _ _).alloc (Nat.le_refl _) _).trans (hb.mono (by simp))⟩

set_option maxHeartbeats 1000000 in
theorem contains_no (a n ip : Int) (hv : vld n = false) (w : World) :
    Calls Tryd.prog 16 #[.agg #[.int .u32 a, .int .i64 n], .int .u32 ip] w fun e w' => e = .returned (.bool false) ∧ Below w.heap.size w w' := by
  have c := cell2_new w (.int .u32 a) (.int .i64 n) 35
  have k0 := cell_regrown c.1
  have k1 := cell_regrown c.2
  have H := Lib.hid hv
  clear hv c
  go_enter Tryd.func16, Tryd.ntmps16
  go_wp2_with fail
  refine wp_region_qb (by kernel_rfl) (by kernel_rfl) ?_
  repeat (go_big_quiet_step (first | exact Calls.regrown_of (valid_is a n H.out _)))
  refine wpQuiet_nil ?_
  intro w1 hb
  go_wp2
  go_ret
  exact ⟨rfl, ((Below.refl _ _).alloc (Nat.le_refl _) _).trans (hb.mono (by simp))⟩

theorem contains_any (a n ip : Int) (w : World) :
    Calls Tryd.prog 16 #[.agg #[.int .u32 a, .int .i64 n], .int .u32 ip] w fun e w' => e = .returned (.bool (ctn a n ip)) ∧ Below w.heap.size w w' := by
  cases hv : vld n with
  | true => simpa [ctn, hv] using contains_yes a n ip hv w
  | false => simpa [ctn, hv] using contains_no a n ip hv w

theorem contains_is (a n ip : Int) {b : Bool} (hv : ctn a n ip = b) (w : World) :
    Calls Tryd.prog 16 #[.agg #[.int .u32 a, .int .i64 n], .int .u32 ip] w fun e w' => e = .returned (.bool b) ∧ Below w.heap.size w w' := by
  rw [← hv]; exact contains_any a n ip w
end Go.Proofs.YtlkobpmbecljkaaDoor
