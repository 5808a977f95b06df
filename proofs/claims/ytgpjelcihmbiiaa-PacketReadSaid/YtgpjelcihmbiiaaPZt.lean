/- The reference of layer 7: Take. No condition. -/
import Derived.Test.YtgpjelcihmbiiaaPMt
namespace Go.Proofs.Ytgpjelcihmbiiaa
open Go.RowKit
set_option linter.unusedVariables false
set_option linter.unusedSimpArgs false
set_option maxRecDepth 100000

/-- The number of k octets at n. -/
def tk (xs : List Int) (n k : Nat) : Int := (be ((xs.drop n).take k) : Nat)
theorem tk_zero (xs : List Int) (n : Nat) : tk xs n 0 = 0 := by simp [tk, be]
theorem tk_succ {xs : List Int} (ho : Oct xs) (n i : Nat) (h : n + i < xs.length) : tk xs n (i + 1) = tk xs n i * 256 + xs.getD (n + i) 0 := by
  have hg := ho.getD (n + i)
  have he : (xs.drop n)[i]? = some (xs.getD (n + i) 0) := by
    rw [List.getElem?_drop, List.getElem?_eq_getElem h, List.getD_eq_getElem?_getD, List.getElem?_eq_getElem h]
    rfl
  unfold tk be
  rw [List.take_add_one, he, List.foldl_append]
  generalize xs.getD (n + i) 0 = y at *
  simp
  omega
theorem tk_lt {xs : List Int} (ho : Oct xs) (n : Nat) : ∀ i, n + i ≤ xs.length → 0 ≤ tk xs n i ∧ tk xs n i < 256 ^ i
  | 0, _ => by rw [tk_zero]; decide
  | i + 1, h => by
    have h1 := tk_lt ho n i (by omega)
    have h2 := ho.getD (n + i)
    rw [tk_succ ho n i (by omega), Int.pow_succ]
    omega
set_option maxHeartbeats 2000000 in
theorem take_is (xs : List Int) (v : Value) (w : World) (hd : Seg w v xs) (ho : Oct xs) (hl : xs.length ≤ 1000000) (n k : Nat) (hk : k ≤ 8) (hn : n + k ≤ xs.length) :
    Calls Try.prog 54 #[v, .int .i64 n, .int .i64 k] w fun e w' => e = .returned (.int .u64 (tk xs n k)) ∧ w' = w := by
  obtain ⟨a, c, rfl, hcap, hx⟩ := hd
  go_enter Try.func54, Try.ntmps54
  go_wp2_with fail
  go_loopw [7, 8] (fun v7 v8 wr => ∃ i : Nat, i ≤ k ∧ v7 = .int .u64 (tk xs n i) ∧ v8 = .int .i64 i ∧ wr = w) (fun _ v8 _ => k - (intOf v8).toNat)
  case atStart => exact ⟨0, Nat.zero_le _, by rw [tk_zero], rfl, rfl⟩
  case round =>
    obtain ⟨i, hi, rfl, rfl, hw⟩ := hrel
    subst hw
    by_cases hlt : i < k
    · obtain ⟨b, o, rfl, hc⟩ := hx (n + i) (by omega)
      have hO := ho.getD (n + i)
      have hq : (i : Int) < k := by omega
      have hb := tk_lt ho n i (by omega)
      have hb2 : tk xs n i < 72057594037927936 := by
        have : (256 : Int) ^ i ≤ 256 ^ 7 := by
          have : (256 : Nat) ^ i ≤ 256 ^ 7 := Nat.pow_le_pow_right (by decide) (by omega)
          exact_mod_cast this
        omega
      have hs := tk_succ ho n i (by omega)
      have hb0 := hb.1
      have hlen : (n : Int) + i < xs.length := by omega
      have HX := Lib.hid hx
      have HS := Lib.hid hs
      clear hx hb hs
      generalize xs.getD (n + i) 0 = y at *
      generalize tk xs n i = t0 at *
      have e3 : ((n : Int) + i).toNat = n + i := by omega
      go_wp2
      exact ⟨⟨i + 1, by omega, by rw [HS.out], by simp only [Value.int.injEq, true_and]; omega, trivial⟩, by simp [intOf]; omega⟩
    · obtain rfl : i = k := by omega
      clear hx
      go_wp2
      go_ret
      exact ⟨rfl, rfl⟩
end Go.Proofs.Ytgpjelcihmbiiaa
