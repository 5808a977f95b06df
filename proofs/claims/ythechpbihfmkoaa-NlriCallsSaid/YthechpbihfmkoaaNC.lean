/- Comparing numbers of other types; the first of several numbers that is not zero. No condition. -/
import Derived.Test.YthechpbihfmkoaaOrd
import Derived.Test.YthechpbihfmkoaaNKey
import Derived.LoopTactic
namespace Go.Proofs.Ythechpbihfmkoaa
open Go.RowKit Go.Shelf
set_option linter.unusedVariables false
set_option linter.unusedSimpArgs false
set_option maxRecDepth 100000
attribute [local go_sem] Oper.semAt_some

theorem cmpU64_any (x y : Int) (w : World) :
    Calls Try.prog 42 #[.int .u64 x, .int .u64 y] w fun e w' => e = .returned (.int .i64 (sg x y)) ∧ w = w' := by
  have ex : (x != x) = false := by simp
  have ey : (y != y) = false := by simp
  rcases Int.lt_trichotomy x y with h | h | h
  · have hs : sg x y = -1 := by simp [sg, h]
    rw [hs]
    go_enter Try.func42, Try.ntmps42
    go_wp2
    go_ret
    exact ⟨rfl, rfl⟩
  · subst h
    have hs : sg x x = 0 := by simp [sg]
    rw [hs]
    go_enter Try.func42, Try.ntmps42
    go_wp2
    go_ret
    exact ⟨rfl, rfl⟩
  · have hs : sg x y = 1 := by unfold sg; rw [if_neg (by omega), if_pos h]
    have h' : ¬ x < y := by omega
    rw [hs]
    go_enter Try.func42, Try.ntmps42
    go_wp2
    go_ret
    exact ⟨rfl, rfl⟩
theorem cmpU32_any (x y : Int) (w : World) :
    Calls Try.prog 44 #[.int .u32 x, .int .u32 y] w fun e w' => e = .returned (.int .i64 (sg x y)) ∧ w = w' := by
  have ex : (x != x) = false := by simp
  have ey : (y != y) = false := by simp
  rcases Int.lt_trichotomy x y with h | h | h
  · have hs : sg x y = -1 := by simp [sg, h]
    rw [hs]
    go_enter Try.func44, Try.ntmps44
    go_wp2
    go_ret
    exact ⟨rfl, rfl⟩
  · subst h
    have hs : sg x x = 0 := by simp [sg]
    rw [hs]
    go_enter Try.func44, Try.ntmps44
    go_wp2
    go_ret
    exact ⟨rfl, rfl⟩
  · have hs : sg x y = 1 := by unfold sg; rw [if_neg (by omega), if_pos h]
    have h' : ¬ x < y := by omega
    rw [hs]
    go_enter Try.func44, Try.ntmps44
    go_wp2
    go_ret
    exact ⟨rfl, rfl⟩
theorem cmpMAC_any (x y : Int) (w : World) :
    Calls Try.prog 45 #[.int .u64 x, .int .u64 y] w fun e w' => e = .returned (.int .i64 (sg x y)) ∧ w = w' := by
  have ex : (x != x) = false := by simp
  have ey : (y != y) = false := by simp
  rcases Int.lt_trichotomy x y with h | h | h
  · have hs : sg x y = -1 := by simp [sg, h]
    rw [hs]
    go_enter Try.func45, Try.ntmps45
    go_wp2
    go_ret
    exact ⟨rfl, rfl⟩
  · subst h
    have hs : sg x x = 0 := by simp [sg]
    rw [hs]
    go_enter Try.func45, Try.ntmps45
    go_wp2
    go_ret
    exact ⟨rfl, rfl⟩
  · have hs : sg x y = 1 := by unfold sg; rw [if_neg (by omega), if_pos h]
    have h' : ¬ x < y := by omega
    rw [hs]
    go_enter Try.func45, Try.ntmps45
    go_wp2
    go_ret
    exact ⟨rfl, rfl⟩

def bit (h : Bool) : Int := if h then 1 else 0
theorem number_any (h : Bool) (w : World) : Calls Try.prog 46 #[.bool h] w fun e w' => e = .returned (.int .i64 (bit h)) ∧ w = w' := by
  cases h
  all_goals
    go_enter Try.func46, Try.ntmps46
    go_wp2
    go_ret
    exact ⟨rfl, rfl⟩

/-- The first that is not zero. -/
def orL : List Int → Int
  | [] => 0
  | x :: r => if x ≠ 0 then x else orL r
theorem orL_at : ∀ (xs : List Int) (i : Nat), i < xs.length → (∀ j, j < i → xs.getD j 0 = 0) → xs.getD i 0 ≠ 0 → orL xs = xs.getD i 0
  | x :: r, 0, _, _, h => by simp at h; simp [orL, h]
  | x :: r, i + 1, hi, h0, h => by
    have hx : x = 0 := by simpa using h0 0 (by omega)
    subst hx
    simp only [orL, ne_eq, not_true_eq_false, if_false]
    have := orL_at r i (by simpa using hi) (fun j hj => by simpa using h0 (j + 1) (by omega)) (by simpa using h)
    simpa using this
theorem orL_none : ∀ (xs : List Int), (∀ j, j < xs.length → xs.getD j 0 = 0) → orL xs = 0
  | [], _ => rfl
  | x :: r, h => by
    have hx : x = 0 := by simpa using h 0 (by simp)
    subst hx
    simp only [orL, ne_eq, not_true_eq_false, if_false]
    exact orL_none r fun j hj => by simpa using h (j + 1) (by simpa using hj)
set_option maxHeartbeats 1000000 in
theorem or_is (b : Nat) (xs : List Int) (hn : xs.length ≤ 1000) (w : World) (hb : Blk w b 3 (xs.map (Value.int .i64))) :
    Calls Try.prog 40 #[.slice (some ⟨b, 0, none⟩) xs.length xs.length] w fun e w' => e = .returned (.int .i64 (orL xs)) ∧ w = w' := by
  have HB := Lib.hid hb
  have HA := Lib.hid (orL_at xs)
  have HN := Lib.hid (orL_none xs)
  generalize orL xs = r at HA HN ⊢
  clear hb
  go_enter Try.func40, Try.ntmps40
  go_wp2
  go_loop [5, 8] (fun v5 vi => ∃ i : Nat, i ≤ xs.length ∧ vi = .int .i64 i ∧ Hid (∀ j, j < i → xs.getD j 0 = 0)) (fun _ vi => xs.length - (intOf vi).toNat)
  case atStart => exact ⟨0, Nat.zero_le _, rfl, Lib.hid (fun j hj => absurd hj (Nat.not_lt_zero _))⟩
  case round =>
    obtain ⟨i, hi, rfl, hz⟩ := hrel
    by_cases hlt : i < xs.length
    · have hil : (i : Int) < xs.length := by omega
      have hc := HB.out.cell i (v := .int .i64 (xs.getD i 0)) (by simp [List.getD_eq_getElem?_getD, hlt])
      by_cases h0 : xs.getD i 0 = 0
      · have HZ := Lib.hid h0
        have A : (xs.getD i 0 != 0) = false := by rw [h0]; rfl
        generalize xs.getD i 0 = x at hc A
        clear h0
        go_wp2
        refine ⟨⟨i + 1, by omega, by go_num, Lib.hid (fun j hj => ?_)⟩, by simp [intOf]; omega⟩
        by_cases hji : j = i
        · subst hji; exact HZ.out
        · exact hz.out j (by omega)
      · have hr := HA.out i hlt hz.out h0
        rw [← hr] at hc
        have A : (r != 0) = true := by rw [hr]; simpa using h0
        clear h0 hr HA HN
        go_wp2
        go_ret
        exact ⟨rfl, rfl⟩
    · obtain rfl : i = xs.length := by omega
      have hr := HN.out hz.out
      subst hr
      go_wp2
      go_ret
      exact ⟨rfl, rfl⟩
end Go.Proofs.Ythechpbihfmkoaa
