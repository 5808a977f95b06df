/- The statement of names: what each call of it returns. -/
import Derived.Test.YtlkobpmbecljkaaDoorPfx
import Derived.Test.YtlkobpmbecljkaaDoorTxt
import Derived.Test.YtlkobpmbecljkaaDoorSeg
namespace Go.Proofs.YtlkobpmbecljkaaDoor
open Go.RowKit Go.Shelf Go.Sort
set_option linter.unusedVariables false
set_option linter.unusedSimpArgs false
set_option maxRecDepth 100000

theorem n_ip (w : World) (hV : Vars w) : Calls Tryd.prog 11 #[.string ⟨#[49, 48, 46, 48, 46, 48, 46, 48, 49]⟩] w fun e w' => e = .returned (.tuple #[.int .u32 0, .int .i64 19]) ∧ Below w.heap.size w w' := by
  have h := parseIP_is [49, 48, 46, 48, 46, 48, 46, 48, 49] (by decide) w hV
  have e : groups 46 decRd 4 [49, 48, 46, 48, 46, 48, 46, 48, 49] = none := by decide +kernel
  rw [e] at h
  exact h
theorem n_mac (w : World) (hV : Vars w) : Calls Tryd.prog 14 #[.string ⟨#[48, 65, 58, 48, 98, 58, 48, 67, 58, 48, 100, 58, 48, 69, 58, 48, 102]⟩] w fun e w' => e = .returned (.tuple #[.int .u64 11042563100175, .int .i64 0]) ∧ Below w.heap.size w w' := by
  have h := parseMAC_is [48, 65, 58, 48, 98, 58, 48, 67, 58, 48, 100, 58, 48, 69, 58, 48, 102] (by decide) w hV
  have e : groups 58 hexRd 6 [48, 65, 58, 48, 98, 58, 48, 67, 58, 48, 100, 58, 48, 69, 58, 48, 102] = some [10, 11, 12, 13, 14, 15] := by decide +kernel
  rw [e] at h
  exact h
theorem n_pfx (w : World) (hV : Vars w) : Calls Tryd.prog 12 #[.string ⟨#[49, 48, 46, 49, 46, 50, 46, 51, 47, 49, 54]⟩] w fun e w' => e = .returned (.tuple #[.agg #[.int .u32 0, .int .i64 0], .int .i64 3]) ∧ Below w.heap.size w w' := by
  have h := parsePrefix_is [49, 48, 46, 49, 46, 50, 46, 51, 47, 49, 54] (by decide) w hV
  have e : pfxRes [49, 48, 46, 49, 46, 50, 46, 51, 47, 49, 54] = .tuple #[.agg #[.int .u32 0, .int .i64 0], .int .i64 3] := by kernel_rfl
  rw [e] at h
  exact h
theorem n_pfx0 (w : World) (hV : Vars w) : Calls Tryd.prog 12 #[.string ⟨#[48, 46, 48, 46, 48, 46, 48, 47, 48]⟩] w fun e w' => e = .returned (.tuple #[.agg #[.int .u32 0, .int .i64 0], .int .i64 0]) ∧ Below w.heap.size w w' := by
  have h := parsePrefix_is [48, 46, 48, 46, 48, 46, 48, 47, 48] (by decide) w hV
  have e : pfxRes [48, 46, 48, 46, 48, 46, 48, 47, 48] = .tuple #[.agg #[.int .u32 0, .int .i64 0], .int .i64 0] := by kernel_rfl
  rw [e] at h
  exact h
theorem n_mactext (w : World) (hT : Tabs w) : Calls Tryd.prog 13 #[.int .u64 11042563100175] w fun e w' => e = .returned (.tuple #[.string ⟨#[48, 97, 58, 48, 98, 58, 48, 99, 58, 48, 100, 58, 48, 101, 58, 48, 102]⟩, .int .i64 0]) ∧ Below w.heap.size w w' := by
  have h := macText_yes 11042563100175 (by decide) (by decide) w hT
  have e : macStr 11042563100175 = ⟨#[48, 97, 58, 48, 98, 58, 48, 99, 58, 48, 100, 58, 48, 101, 58, 48, 102]⟩ := by kernel_rfl
  rw [e] at h
  exact h
theorem n_seg (w : World) : Calls Tryd.prog 10 #[.int .i64 4] w fun e w' => e = .returned (.tuple #[.agg #[.int .u8 3, .int .u8 0, .int .u8 0, .int .u8 0, .int .u8 0, .int .u8 0, .int .u8 0, .int .u8 0, .int .u8 0, .int .u8 5], .int .i64 0]) ∧ Below w.heap.size w w' :=
  segment_yes 4 (by decide) (by decide) w
theorem n_seg64 (w : World) : Calls Tryd.prog 10 #[.int .i64 64] w fun e w' => e = .returned (.tuple #[.agg #[.int .u8 0, .int .u8 0, .int .u8 0, .int .u8 0, .int .u8 0, .int .u8 0, .int .u8 0, .int .u8 0, .int .u8 0, .int .u8 0], .int .i64 2]) ∧ Below w.heap.size w w' :=
  segment_no 64 (.inr (by decide)) w
def e4 (j : Nat) : Int := if j = 0 then 3 else if j = 9 then 5 else 0
theorem n_esitext (w : World) (hT : Tabs w) : Calls Tryd.prog 15 #[.agg #[.int .u8 3, .int .u8 0, .int .u8 0, .int .u8 0, .int .u8 0, .int .u8 0, .int .u8 0, .int .u8 0, .int .u8 0, .int .u8 5]] w fun e w' => e = .returned (.string ⟨#[48, 51, 58, 48, 48, 58, 48, 48, 58, 48, 48, 58, 48, 48, 58, 48, 48, 58, 48, 48, 58, 48, 48, 58, 48, 48, 58, 48, 53]⟩) ∧ Below w.heap.size w w' := by
  have h := esiText_is e4 (fun j => by unfold e4; split <;> (try split) <;> decide) w hT
  have e : esiStr e4 = ⟨#[48, 51, 58, 48, 48, 58, 48, 48, 58, 48, 48, 58, 48, 48, 58, 48, 48, 58, 48, 48, 58, 48, 48, 58, 48, 48, 58, 48, 53]⟩ := by kernel_rfl
  rw [e] at h
  exact h
theorem n_clean (w : World) : Calls Tryd.prog 9 #[.agg #[.int .u32 167838211, .int .i64 16]] w fun e w' => e = .returned (.tuple #[.agg #[.int .u32 167837696, .int .i64 16], .int .i64 0]) ∧ Below w.heap.size w w' := by
  have h := clean_yes 167838211 16 (by decide) w
  have e : cln 167838211 16 = 167837696 := by decide +kernel
  rw [e] at h
  exact h
theorem n_has (w : World) : Calls Tryd.prog 16 #[.agg #[.int .u32 167837696, .int .i64 16], .int .u32 167837705] w fun e w' => e = .returned (.bool true) ∧ Below w.heap.size w w' :=
  contains_is 167837696 16 167837705 (by decide +kernel) w
theorem n_hasno (w : World) : Calls Tryd.prog 16 #[.agg #[.int .u32 0, .int .i64 33], .int .u32 0] w fun e w' => e = .returned (.bool false) ∧ Below w.heap.size w w' :=
  contains_is 0 33 0 (by decide +kernel) w
end Go.Proofs.YtlkobpmbecljkaaDoor
