/- Check and Bytes, of whatever route. No condition. -/
import Derived.Test.YtejcclcckgdbgaaNBa
import Derived.Test.YtejcclcckgdbgaaNBb
import Derived.Test.YtejcclcckgdbgaaCln
namespace Go.Proofs.Ytejcclcckgdbgaa
open Go.RowKit Go.Sort
set_option linter.unusedVariables false
set_option linter.unusedSimpArgs false
set_option maxRecDepth 100000

theorem kind_of_lay {k : Int} (h : lay k ≠ none) : k = 1 ∨ k = 2 ∨ k = 3 ∨ k = 4 ∨ k = 5 := by
  unfold lay at h
  by_cases h1 : k = 1
  · exact .inl h1
  by_cases h2 : k = 2
  · exact .inr (.inl h2)
  by_cases h3 : k = 3
  · exact .inr (.inr (.inl h3))
  by_cases h4 : k = 4
  · exact .inr (.inr (.inr (.inl h4)))
  by_cases h5 : k = 5
  · exact .inr (.inr (.inr (.inr h5)))
  simp [h1, h2, h3, h4, h5] at h
theorem check_is (n : NL) (w : World) : Calls Try.prog 15 #[n.v] w fun r w' => r = .returned (.int .i64 n.chk) ∧ Below w.heap.size w w' := by
  by_cases h : lay n.k = none
  · exact chk_none n h w
  · rcases kind_of_lay h with h | h | h | h | h
    · exact chk_auto n h w
    · exact chk_mac n h w
    · exact chk_flood n h w
    · exact chk_segment n h w
    · exact chk_prefix_ n h w
theorem chk_zero {n : NL} (h : n.chk = 0) : lay n.k ≠ none ∧ n.eqb n.norm = true ∧ n.m ≤ 281474976710655 ∧ n.l ≤ 16777215 ∧ n.l2 ≤ 16777215 ∧ vld n.pn = true ∧ n.pi = cln n.pi n.pn := by
  unfold NL.chk at h
  by_cases h1 : lay n.k = none
  · rw [if_pos h1] at h; cases h
  rw [if_neg h1] at h
  cases h2 : n.eqb n.norm
  · rw [if_pos h2] at h; cases h
  rw [if_neg (by rw [h2]; simp)] at h
  by_cases h3 : 281474976710655 < n.m ∨ 16777215 < n.l ∨ 16777215 < n.l2 ∨ vld n.pn = false
  · rw [if_pos h3] at h; cases h
  rw [if_neg h3] at h
  by_cases h4 : ((n.pi == cln n.pi n.pn) && (n.pn == n.pn)) = false
  · rw [if_pos h4] at h; cases h
  simp only [not_or, Int.not_lt] at h3
  refine ⟨h1, rfl, h3.1, h3.2.1, h3.2.2.1, by simpa using h3.2.2.2, by simpa using h4⟩
theorem small_of {n : NL} (h : n.chk = 0) : n.Small := by
  obtain ⟨-, -, h1, h2, h3, h4, -⟩ := chk_zero h
  have := vld_yes h4
  exact ⟨by omega, by omega, by omega, by omega⟩
/-- The value of a route, and its code. -/
def NL.val (n : NL) : List Int := if n.k = 1 then n.autoV else if n.k = 2 then n.macV else if n.k = 3 then n.floodV else if n.k = 4 then n.segmentV else n.prefixV
def NL.code (n : NL) : List Int := n.k :: (n.val.length : Int) :: n.val
theorem bytes_ok (n : NL) (hn : n.Ok) (hc : n.chk = 0) (w : World) : Calls Try.prog 10 #[n.v] w fun r w' => ∃ v, r = .returned (.tuple #[v, .int .i64 0]) ∧ Dat w' v n.code ∧ Below w.heap.size w w' := by
  have hs := small_of hc
  unfold NL.code NL.val
  rcases kind_of_lay (chk_zero hc).1 with h | h | h | h | h
  · simpa [h, autoV_length] using bytes_auto n hn hs h hc w
  · cases A : n.h
    · by_cases B : n.l2 = 0
      · simpa [h, macV_length, A, B] using bytes_macff n hn hs h A B hc w
      · simpa [h, macV_length, A, B] using bytes_macft n hn hs h A B hc w
    · by_cases B : n.l2 = 0
      · simpa [h, macV_length, A, B] using bytes_mactf n hn hs h A B hc w
      · simpa [h, macV_length, A, B] using bytes_mactt n hn hs h A B hc w
  · simpa [h, floodV_length] using bytes_flood n hn h hc w
  · simpa [h, segmentV_length] using bytes_segment n hn hs h hc w
  · simpa [h, prefixV_length] using bytes_prefix n hn hs h hc w
theorem bytes_bad (n : NL) (hc : n.chk ≠ 0) (w : World) : Calls Try.prog 10 #[n.v] w fun r w' => r = .returned (.tuple #[.slice none 0 0, .int .i64 n.chk]) ∧ Below w.heap.size w w' := by
  have hC := fun w => check_is n w
  have A : (n.chk != 0) = true := by simpa using hc
  generalize n.chk = x at hC A ⊢
  clear hc
  unfold NL.v at hC ⊢
  go_enter Try.func10, Try.ntmps10
  go_wp2_with (first
    | (refine at_box rfl _ rfl n rfl ?_; rintro w1 ⟨x1, k1, s1⟩)
    | (refine at_load rfl _ rfl w.heap.size rfl n x1 ?_)
    | (go_at_call 15; refine (hC w1).mono ?_; rintro e w2 ⟨rfl, k2⟩; have b2 := k1.trans (k2.mono k1.size); clear k1 k2 x1 hC))
  go_ret2
  exact ⟨rfl, b2⟩
end Go.Proofs.Ytejcclcckgdbgaa
