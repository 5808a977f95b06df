/- The functions on prefixes of package addr return what these plain functions say; they make at most new memory. No condition. -/
import Derived.Test.YtejcclcckgdbgaaKit
namespace Go.Proofs.Ytejcclcckgdbgaa
open Go.RowKit Go.Sort
def msk (n : Int) : Int := 4294967295 * 2 ^ (32 - n).toNat % 4294967296
def vld (n : Int) : Bool := decide (0 ≤ n) && decide (n ≤ 32)
def hit (a n ip : Int) : Bool := bits BinOp.and IntKind.u32 (bits BinOp.xor IntKind.u32 a ip) (msk n) == 0
def ctn (a n ip : Int) : Bool := vld n && hit a n ip
def cvr (a n b m : Int) : Bool := vld m && decide (n ≤ m) && ctn a n b
theorem vld_yes {n : Int} (h : vld n = true) : 0 ≤ n ∧ n ≤ 32 := by simpa [vld] using h

theorem mask_any (n : Int) (h0 : 0 ≤ n) (h1 : n ≤ 32) (w : World) :
    Calls Try.prog 64 #[.int .i64 n] w fun e w' => e = .returned (.int .u32 (msk n)) ∧ w = w' := by
  go_enter Try.func64, Try.ntmps64
  go_wp2
  go_ret
  exact ⟨rfl, rfl⟩

theorem valid_any (a n : Int) (w : World) :
    Calls Try.prog 63 #[.agg #[.int .u32 a, .int .i64 n]] w fun e w' => e = .returned (.bool (vld n)) ∧ Below w.heap.size w w' := by
  by_cases h0 : 0 ≤ n
  · by_cases h1 : n ≤ 32
    · have hv : vld n = true := by simp [vld, h0, h1]
      rw [hv]
      go_enter Try.func63, Try.ntmps63
      go_wp2
      go_ret
      exact ⟨rfl, (Below.refl _ _).alloc (Nat.le_refl _) _⟩
    · have hv : vld n = false := by simp [vld, h1]
      rw [hv]
      go_enter Try.func63, Try.ntmps63
      go_wp2
      go_ret
      exact ⟨rfl, (Below.refl _ _).alloc (Nat.le_refl _) _⟩
  · have hv : vld n = false := by simp [vld, h0]
    rw [hv]
    go_enter Try.func63, Try.ntmps63
    go_wp2
    go_ret
    exact ⟨rfl, (Below.refl _ _).alloc (Nat.le_refl _) _⟩

theorem valid_is (a n : Int) {b : Bool} (hv : vld n = b) (w : World) :
    Calls Try.prog 63 #[.agg #[.int .u32 a, .int .i64 n]] w fun e w' => e = .returned (.bool b) ∧ Below w.heap.size w w' := by
  rw [← hv]; exact valid_any a n w

end Go.Proofs.Ytejcclcckgdbgaa
