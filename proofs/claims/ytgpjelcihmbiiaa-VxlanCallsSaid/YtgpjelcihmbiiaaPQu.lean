/- The reference of layer 7: Sum, walked. No condition. -/
import Derived.Test.YtgpjelcihmbiiaaPQs
namespace Go.Proofs.Ytgpjelcihmbiiaa
open Go.RowKit Go.Sort
set_option linter.unusedVariables false
set_option linter.unusedSimpArgs false
set_option maxRecDepth 100000

theorem and_low64 (a : Int) (h0 : 0 ≤ a) (h1 : a < 18446744073709551616) : bits .and .u64 a 65535 = a % 65536 := by
  rw [u64_and _ _ h0 h1 (by decide) (by decide)]
  have := Nat.and_two_pow_sub_one_eq_mod a.toNat 16
  rw [show ((65535 : Int).toNat) = 2 ^ 16 - 1 by decide, this]
  omega
set_option maxHeartbeats 2000000 in
theorem rsum_is (xs : List Int) (v : Value) (w : World) (hd : Seg w v xs) (ho : Oct xs) (hl : xs.length ≤ 1000000) :
    Calls Try.prog 24 #[v] w fun e w' => e = .returned (.int .u16 (sumI xs)) ∧ w' = w := by
  obtain ⟨a, c, rfl, hcap, hx⟩ := hd
  go_enter Try.func24, Try.ntmps24
  go_wp2_with fail
  go_loopw [3, 4] (fun v3 v4 wr => ∃ i : Nat, i ≤ xs.length ∧ v3 = .int .u64 (psum xs i) ∧ v4 = .int .i64 i ∧ wr = w) (fun _ v4 _ => xs.length - (intOf v4).toNat)
  case atStart => exact ⟨0, Nat.zero_le _, rfl, rfl, rfl⟩
  case round =>
    obtain ⟨i, hi, rfl, rfl, hw⟩ := hrel
    subst hw
    have hP := psum_lt ho i
    by_cases hlt : i < xs.length
    · obtain ⟨b, o, rfl, hc⟩ := hx i hlt
      have hO := getD_oct ho i
      have hq : (i : Int) < xs.length := by omega
      have hs : psum xs (i + 1) = psum xs i + half xs i := rfl
      have HS := Lib.hid hs
      have HX := Lib.hid hx
      clear hx hs
      unfold half at HS
      generalize xs.getD i 0 = y at *
      rcases Nat.mod_two_eq_zero_or_one i with hp | hp
      · have hp1 : ((i : Int) % 2 == 0) = true := by simp; omega
        have hp2 : ((i : Int).tmod 2 == 0) = true := by simp [Int.tmod_eq_emod_of_nonneg]; omega
        have e1 : psum xs (i + 1) = psum xs i + y * 256 := by have := HS.out; rw [if_pos hp] at this; exact this
        have E1 := Lib.hid e1
        clear e1 HS
        go_wp2
        exact ⟨⟨i + 1, by omega, by rw [E1.out], by simp only [Value.int.injEq, true_and]; omega, trivial⟩, by simp [intOf]; omega⟩
      · have hp1 : ((i : Int) % 2 == 0) = false := by simp; omega
        have hp2 : ((i : Int).tmod 2 == 0) = false := by simp [Int.tmod_eq_emod_of_nonneg]; omega
        have e1 : psum xs (i + 1) = psum xs i + y := by have := HS.out; rw [if_neg (by omega)] at this; exact this
        have E1 := Lib.hid e1
        clear e1 HS
        go_wp2
        exact ⟨⟨i + 1, by omega, by rw [E1.out], by simp only [Value.int.injEq, true_and]; omega, trivial⟩, by simp [intOf]; omega⟩
    · obtain rfl : i = xs.length := by omega
      have hpf := psum_full xs
      have hF := Lib.hid (fun s a b c d => fold_eq ho ((xs.length + 1) / 2) s a b c d)
      rw [← hpf] at hF
      have hB : psum xs xs.length ≤ 65280000000 := by omega
      have hB0 := hP.1
      clear hpf hP hx hi hlt
      generalize psum xs xs.length = P at *
      go_wp2_with fail
      go_loopw [3] (fun v3 wr2 => ∃ s : Int, v3 = .int .u64 s ∧ 0 ≤ s ∧ s ≤ 65280000000 ∧ Hid (s % 65535 = P % 65535) ∧ Hid (s = 0 ↔ P = 0) ∧ wr2 = wr) (fun v3 _ => (intOf v3).toNat)
      case atStart => exact ⟨P, rfl, hB0, hB, Lib.hid rfl, Lib.hid Iff.rfl, rfl⟩
      case round =>
        obtain ⟨s, rfl, s0, s1, sm, sz, hw2⟩ := hrel
        subst hw2
        by_cases hs : 65535 < s
        · have ha := and_low64 s s0 (by omega)
          have he : s % 65536 + s / 65536 < 18446744073709551616 := by omega
          go_wp2
          exact ⟨⟨s % 65536 + s / 65536, rfl, by omega, by omega, Lib.hid (by have := sm.out; omega), Lib.hid (by have := sz.out; omega), trivial⟩, by simp [intOf]; omega⟩
        · have hsum : sumI xs = 65535 - s := by
            have := hF.out s s0 (by omega) sm.out sz.out
            unfold sumI
            rw [← this]
          have hxo := xor_max s s0 (by omega)
          have hmod : s % 65536 = s := by omega
          have HSU := Lib.hid hsum
          clear hsum hF sm sz
          go_wp2
          go_ret
          exact ⟨by rw [HSU.out]; first | rfl | (rw [← hxo]; rfl), rfl⟩
end Go.Proofs.Ytgpjelcihmbiiaa
