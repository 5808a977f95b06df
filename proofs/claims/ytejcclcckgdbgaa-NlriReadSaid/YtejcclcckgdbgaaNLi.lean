/- The example that every statement asks first: it holds. No condition. -/
import Derived.Test.YtejcclcckgdbgaaNBy
namespace Go.Proofs.Ytejcclcckgdbgaa
open Go.RowKit Go.Sort
set_option linter.unusedVariables false
set_option linter.unusedSimpArgs false
set_option maxRecDepth 100000

theorem rd_is (w : World) : Calls Try.prog 14 #[.int .u32 184483841, .int .u16 5] w fun r w' => r = .returned (.int .u64 293565309714437) ∧ w = w' := by
  have h1 : bits .or .u64 281474976710656 12090333003776 = 293565309714432 := by decide +kernel
  have h2 : bits .or .u64 293565309714432 5 = 293565309714437 := by decide +kernel
  go_enter Try.func14, Try.ntmps14
  go_wp2
  go_ret
  exact ⟨rfl, rfl⟩
/-- The route of the example. -/
def exN : NL := ⟨3, 293565309714437, fun _ => 0, 0, 0, 184483841, true, 0, 0, 0, 0, 0⟩
theorem exN_ok : exN.Ok := ⟨by decide, fun _ => by show (0 : Int) ≤ 0 ∧ (0 : Int) < 256; decide, by decide, by decide, by decide, by decide, by decide, by decide, by decide⟩
theorem exN_chk : exN.chk = 0 := by decide +kernel
theorem exN_bytes : (3 :: 17 :: exN.floodV) = [3, 17, 0, 1, 10, 255, 0, 1, 0, 5, 0, 0, 0, 0, 32, 10, 255, 0, 1] := by decide +kernel
set_option maxHeartbeats 2000000 in
theorem lives_is (w : World) : Calls Try.prog 9 #[] w fun e w' => e = .returned (.bool true) ∧ Below w.heap.size w w' := by
  have hB := fun w => bytes_flood exN exN_ok rfl exN_chk w
  rw [exN_bytes] at hB
  unfold NL.v at hB
  go_enter Try.func9, Try.ntmps9
  go_wp2_with (first
    | (go_at_call 14; refine (rd_is _).mono ?_; rintro e w1 ⟨rfl, hw⟩; obtain rfl := hw)
    | (refine at_build rfl _ rfl exN (by kernel_rfl) ?_))
  go_at_call 10
  refine (hB _).mono ?_
  rintro e w5 ⟨v5, rfl, D5, k5⟩
  have hcv := dat_string D5 (by simp)
  rw [show strOfNums _ = (⟨#[3, 17, 0, 1, 10, 255, 0, 1, 0, 5, 0, 0, 0, 0, 32, 10, 255, 0, 1]⟩ : ByteArray) from rfl] at hcv
  clear hB D5
  go_wp2
  go_ret
  exact ⟨rfl, k5⟩
end Go.Proofs.Ytejcclcckgdbgaa
