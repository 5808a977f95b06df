/- Clean and the chapter's example. No condition. -/
import Derived.Test.YtejcclcckgdbgaaAdr
namespace Go.Proofs.Ytejcclcckgdbgaa
open Go.RowKit Go.Sort

set_option maxHeartbeats 4000000 in
set_option maxRecDepth 100000 in
theorem clean_no (a n : Int) (hm : vld n = false) (w : World) :
    Calls Try.prog 35 #[.agg #[.int .u32 a, .int .i64 n]] w fun e w' => e = .returned (.tuple #[.agg #[.int .u32 0, .int .i64 0], .int .i64 2]) ∧ Below w.heap.size w w' := by
  have H := Lib.hid hm
  clear hm
  go_enter Try.func35, Try.ntmps35
  go_wp2_with (go_at_call 63; refine (valid_is a n H.out _).mono ?_; rintro e w1 ⟨rfl, hb⟩; obtain ⟨hc, hf⟩ := bcell hb; have hz : w.heap.size + 1 < w1.heap.size := by have := hb.size; simp at this; omega)
  refine bodyPost_ret (v := .tuple #[.agg #[.int .u32 0, .int .i64 0], .int .i64 2]) (by simp [results, Try.results35, go_sem, hc]) rfl ⟨rfl, ?_⟩
  exact (((((Below.refl _ _).alloc (Nat.le_refl _) _).alloc (by simp) _).trans (hb.mono (by simp; omega))).setCell (by simp) _).setCell (by simp) _

def cln (a n : Int) : Int := bits BinOp.and IntKind.u32 a (msk n)
set_option maxHeartbeats 4000000 in
set_option maxRecDepth 100000 in
theorem clean_yes (a n : Int) (hm : vld n = true) (w : World) :
    Calls Try.prog 35 #[.agg #[.int .u32 a, .int .i64 n]] w fun e w' => e = .returned (.tuple #[.agg #[.int .u32 (cln a n), .int .i64 n], .int .i64 0]) ∧ Below w.heap.size w w' := by
  obtain ⟨h0, h1⟩ := vld_yes hm
  have H := Lib.hid hm
  clear hm
  go_enter Try.func35, Try.ntmps35
  go_wp2_with (go_at_call 63; refine (valid_is a n H.out _).mono ?_; rintro e w1 ⟨rfl, hb⟩; obtain ⟨hc, hf⟩ := bcell hb; have hz : w.heap.size + 1 < w1.heap.size := by have := hb.size; simp at this; omega)
  refine wp_region_still_tail 9 (by kernel_rfl) (by kernel_rfl) ?_
  simp only [List.take_succ_cons, List.take_zero, List.drop_succ_cons, List.drop_zero]
  still_step
  still_step
  still_step
  still_step
  still_call ((mask_any n h0 h1 _).mono fun e w' h => ⟨h.1, h.2.symm⟩)
  repeat still_step
  refine wpStill_nil ?_
  go_wp2
  refine bodyPost_ret (v := .tuple #[.agg #[.int .u32 (cln a n), .int .i64 n], .int .i64 0]) (by simp [results, Try.results35, go_sem, hc, cln]) rfl ⟨rfl, ?_⟩
  exact (((((Below.refl _ _).alloc (Nat.le_refl _) _).alloc (by simp) _).trans (hb.mono (by simp; omega))).drew.setCell (by simp) _).setCell (by simp) _

def clnA (a n : Int) : Int := if vld n = true then cln a n else 0
def clnN (n : Int) : Int := if vld n = true then n else 0
def clnE (n : Int) : Int := if vld n = true then 0 else 2
set_option maxHeartbeats 4000000 in
set_option maxRecDepth 100000 in
theorem clean_any (a n : Int) (w : World) :
    Calls Try.prog 35 #[.agg #[.int .u32 a, .int .i64 n]] w fun e w' => e = .returned (.tuple #[.agg #[.int .u32 (clnA a n), .int .i64 (clnN n)], .int .i64 (clnE n)]) ∧ Below w.heap.size w w' := by
  cases hv : vld n with
  | true => simpa [clnA, clnN, clnE, hv] using clean_yes a n hv w
  | false => simpa [clnA, clnN, clnE, hv] using clean_no a n hv w

end Go.Proofs.Ytejcclcckgdbgaa
