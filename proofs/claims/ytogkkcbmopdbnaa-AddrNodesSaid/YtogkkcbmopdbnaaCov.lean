/- Covers, Clean and the chapter's example. No condition. -/
import Derived.Test.YtogkkcbmopdbnaaAdr
namespace Go.Proofs.Ytogkkcbmopdbnaa
open Go.RowKit Go.Sort

theorem covers_no1 (a n b m : Int) (hm : vld m = false) (w : World) :
    Calls Try.prog 7 #[.agg #[.int .u32 a, .int .i64 n], .agg #[.int .u32 b, .int .i64 m]] w fun e w' => e = .returned (.bool false) ∧ Below w.heap.size w w' := by
  have H := Lib.hid hm
  clear hm
  go_enter Try.func7, Try.ntmps7
  go_wp2_with (go_at_call 20; refine (valid_is b m H.out _).mono ?_; rintro e w1 ⟨rfl, hb⟩)
  go_ret
  exact ⟨rfl, (((Below.refl _ _).alloc (Nat.le_refl _) _).alloc (by simp) _).trans (hb.mono (by simp; omega))⟩

theorem covers_no2 (a n b m : Int) (hm : vld m = true) (h : ¬ n ≤ m) (w : World) :
    Calls Try.prog 7 #[.agg #[.int .u32 a, .int .i64 n], .agg #[.int .u32 b, .int .i64 m]] w fun e w' => e = .returned (.bool false) ∧ Below w.heap.size w w' := by
  have H := Lib.hid hm
  clear hm
  go_enter Try.func7, Try.ntmps7
  go_wp2_with (go_at_call 20; refine (valid_is b m H.out _).mono ?_; rintro e w1 ⟨rfl, hb⟩; obtain ⟨hc, hf⟩ := bcell hb)
  go_ret
  exact ⟨rfl, (((Below.refl _ _).alloc (Nat.le_refl _) _).alloc (by simp) _).trans (hb.mono (by simp; omega))⟩

theorem covers_yes (a n b m : Int) (hm : vld m = true) (h : n ≤ m) (w : World) :
    Calls Try.prog 7 #[.agg #[.int .u32 a, .int .i64 n], .agg #[.int .u32 b, .int .i64 m]] w fun e w' => e = .returned (.bool (ctn a n b)) ∧ Below w.heap.size w w' := by
  have H := Lib.hid hm
  clear hm
  go_enter Try.func7, Try.ntmps7
  go_wp2_with (first | (go_at_call 20; refine (valid_is b m H.out _).mono ?_; rintro e w1 ⟨rfl, hb⟩; obtain ⟨hc, hf⟩ := bcell hb) | (go_at_call 8; refine (contains_any a n b _).mono ?_; rintro e w2 ⟨rfl, hb2⟩))
  go_ret
  exact ⟨rfl, ((((Below.refl _ _).alloc (Nat.le_refl _) _).alloc (by simp) _).trans (hb.mono (by simp; omega))).trans (hb2.mono (by have := hb.size; simp at this; omega))⟩

theorem covers_any (a n b m : Int) (w : World) :
    Calls Try.prog 7 #[.agg #[.int .u32 a, .int .i64 n], .agg #[.int .u32 b, .int .i64 m]] w fun e w' => e = .returned (.bool (cvr a n b m)) ∧ Below w.heap.size w w' := by
  cases hv : vld m with
  | true =>
    by_cases h : n ≤ m
    · simpa [cvr, hv, h] using covers_yes a n b m hv h w
    · simpa [cvr, hv, h] using covers_no2 a n b m hv h w
  | false => simpa [cvr, hv] using covers_no1 a n b m hv w

theorem covers_is (a n b m : Int) {x : Bool} (hv : cvr a n b m = x) (w : World) :
    Calls Try.prog 7 #[.agg #[.int .u32 a, .int .i64 n], .agg #[.int .u32 b, .int .i64 m]] w fun e w' => e = .returned (.bool x) ∧ Below w.heap.size w w' := by
  rw [← hv]; exact covers_any a n b m w

theorem clean_no (a n : Int) (hm : vld n = false) (w : World) :
    Calls Try.prog 9 #[.agg #[.int .u32 a, .int .i64 n]] w fun e w' => e = .returned (.tuple #[.agg #[.int .u32 0, .int .i64 0], .int .i64 2]) ∧ Below w.heap.size w w' := by
  have H := Lib.hid hm
  clear hm
  go_enter Try.func9, Try.ntmps9
  go_wp2_with (go_at_call 20; refine (valid_is a n H.out _).mono ?_; rintro e w1 ⟨rfl, hb⟩; obtain ⟨hc, hf⟩ := bcell hb; have hz : w.heap.size + 1 < w1.heap.size := by have := hb.size; simp at this; omega)
  refine bodyPost_ret (v := .tuple #[.agg #[.int .u32 0, .int .i64 0], .int .i64 2]) (by simp [results, Try.results9, go_sem, hc]) rfl ⟨rfl, ?_⟩
  exact (((((Below.refl _ _).alloc (Nat.le_refl _) _).alloc (by simp) _).trans (hb.mono (by simp; omega))).setCell (by simp) _).setCell (by simp) _

def cln (a n : Int) : Int := bits BinOp.and IntKind.u32 a (msk n)
theorem clean_yes (a n : Int) (hm : vld n = true) (w : World) :
    Calls Try.prog 9 #[.agg #[.int .u32 a, .int .i64 n]] w fun e w' => e = .returned (.tuple #[.agg #[.int .u32 (cln a n), .int .i64 n], .int .i64 0]) ∧ Below w.heap.size w w' := by
  obtain ⟨h0, h1⟩ := vld_yes hm
  have H := Lib.hid hm
  clear hm
  go_enter Try.func9, Try.ntmps9
  go_wp2_with (go_at_call 20; refine (valid_is a n H.out _).mono ?_; rintro e w1 ⟨rfl, hb⟩; obtain ⟨hc, hf⟩ := bcell hb; have hz : w.heap.size + 1 < w1.heap.size := by have := hb.size; simp at this; omega)
  refine wp_region_still_tail 9 (by kernel_rfl) (by kernel_rfl) ?_
  simp only [List.take_succ_cons, List.take_zero, List.drop_succ_cons, List.drop_zero]
  still_step
  still_step
  still_step
  still_step
  still_call ((mask_any n h0 h1 _).mono fun e w' h => ⟨h.1, h.2.symm⟩)
  repeat still_step
  refine wpStill_nil ?_
  go_wp2
  refine bodyPost_ret (v := .tuple #[.agg #[.int .u32 (cln a n), .int .i64 n], .int .i64 0]) (by simp [results, Try.results9, go_sem, hc, cln]) rfl ⟨rfl, ?_⟩
  exact (((((Below.refl _ _).alloc (Nat.le_refl _) _).alloc (by simp) _).trans (hb.mono (by simp; omega))).drew.setCell (by simp) _).setCell (by simp) _

def clnA (a n : Int) : Int := if vld n = true then cln a n else 0
def clnN (n : Int) : Int := if vld n = true then n else 0
def clnE (n : Int) : Int := if vld n = true then 0 else 2
theorem clean_any (a n : Int) (w : World) :
    Calls Try.prog 9 #[.agg #[.int .u32 a, .int .i64 n]] w fun e w' => e = .returned (.tuple #[.agg #[.int .u32 (clnA a n), .int .i64 (clnN n)], .int .i64 (clnE n)]) ∧ Below w.heap.size w w' := by
  cases hv : vld n with
  | true => simpa [clnA, clnN, clnE, hv] using clean_yes a n hv w
  | false => simpa [clnA, clnN, clnE, hv] using clean_no a n hv w

theorem lives_any (w : World) : Calls Try.prog 6 #[] w fun e w' => e = .returned (.bool true) ∧ w = w' := by
  go_enter Try.func6, Try.ntmps6
  go_wp2
  go_ret
  exact ⟨rfl, rfl⟩
end Go.Proofs.Ytogkkcbmopdbnaa
