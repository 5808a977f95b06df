/- The reference of layer 7: Sum. No condition. -/
import Derived.Test.YtgpjelcihmbiiaaPQp
import Derived.Test.YtgpjelcihmbiiaaPSu
namespace Go.Proofs.Ytgpjelcihmbiiaa
open Go.RowKit Go.Sort
set_option linter.unusedVariables false
set_option linter.unusedSimpArgs false
set_option maxRecDepth 100000

/-- What the octet at i adds to the sum. -/
def half (xs : List Int) (i : Nat) : Int := if i % 2 = 0 then xs.getD i 0 * 256 else xs.getD i 0
def psum (xs : List Int) : Nat → Int
  | 0 => 0
  | n + 1 => psum xs n + half xs n
theorem psum_even (xs : List Int) : ∀ n, psum xs (2 * n) = tot xs n
  | 0 => rfl
  | n + 1 => by
    have := psum_even xs n
    show psum xs (2 * n) + half xs (2 * n) + half xs (2 * n + 1) = tot xs n + wd xs n
    unfold half wd
    rw [if_pos (by omega), if_neg (by omega)]
    omega
theorem psum_full (xs : List Int) : psum xs xs.length = tot xs ((xs.length + 1) / 2) := by
  rcases Nat.mod_two_eq_zero_or_one xs.length with h | h
  · rw [show (xs.length + 1) / 2 = xs.length / 2 by omega, ← psum_even, show 2 * (xs.length / 2) = xs.length by omega]
  · obtain ⟨n, hn⟩ : ∃ n, xs.length = 2 * n + 1 := ⟨xs.length / 2, by omega⟩
    rw [show (xs.length + 1) / 2 = n + 1 by omega, ← psum_even, hn]
    show psum xs (2 * n + 1) = psum xs (2 * n + 1) + half xs (2 * n + 1)
    have : half xs (2 * n + 1) = 0 := by
      unfold half
      rw [if_neg (by omega), List.getD_eq_getElem?_getD, List.getElem?_eq_none (by omega)]
      rfl
    omega
theorem getD_oct {xs : List Int} (h : Oct xs) (i : Nat) : 0 ≤ xs.getD i 0 ∧ xs.getD i 0 < 256 := by
  rcases Nat.lt_or_ge i xs.length with q | q
  · rw [List.getD_eq_getElem?_getD, List.getElem?_eq_getElem q]
    exact h _ (List.getElem_mem q)
  · rw [List.getD_eq_getElem?_getD, List.getElem?_eq_none q]
    decide
theorem psum_lt {xs : List Int} (h : Oct xs) : ∀ n, 0 ≤ psum xs n ∧ psum xs n ≤ 65280 * n
  | 0 => by simp [psum]
  | n + 1 => by
    have h1 := psum_lt h n
    have h2 := getD_oct h n
    show 0 ≤ psum xs n + half xs n ∧ psum xs n + half xs n ≤ _
    unfold half
    split <;> omega
theorem acc_zero {xs : List Int} (h : Oct xs) : ∀ n, accS xs (List.range n) = 0 ↔ tot xs n = 0
  | 0 => by simp [accS, tot]
  | n + 1 => by
    have h0 := acc_zero h n
    have h1 := accS_lt h (List.range n)
    have h2 := wd_lt h n
    rw [List.range_succ, accS_snoc]
    show stepS _ _ = 0 ↔ tot xs n + wd xs n = 0
    have h3 : 0 ≤ tot xs n := by
      clear h0 h1 h2
      induction n with
      | zero => exact Int.le_refl _
      | succ n ih => have := wd_lt h n; show 0 ≤ tot xs n + wd xs n; omega
    unfold stepS
    omega
/-- A number folded to its rest is the sum with the carries added at once. -/
theorem fold_eq {xs : List Int} (h : Oct xs) (n : Nat) (s : Int) (h0 : 0 ≤ s) (h1 : s ≤ 65535) (hm : s % 65535 = tot xs n % 65535) (hz : s = 0 ↔ tot xs n = 0) : s = accS xs (List.range n) := by
  have a1 := accS_mod xs n
  have a2 := accS_lt h (List.range n)
  have a3 := acc_zero h n
  omega
end Go.Proofs.Ytgpjelcihmbiiaa
