/- A number stored into octets. No condition. -/
import Derived.Test.YtgpjelcihmbiiaaWApp
import Derived.LoopTactic
import Derived.Laws.BitsAllLaws
namespace Go.Proofs.Ytgpjelcihmbiiaa
open Go.RowKit
set_option linter.unusedVariables false
set_option linter.unusedSimpArgs false
set_option maxRecDepth 100000

/-- The lowest i octets of n, the most significant one first. -/
def enc : Nat → Nat → List Int
  | 0, _ => []
  | i + 1, n => ((n / 256 ^ i % 256 : Nat) : Int) :: enc i n
theorem enc_length (i n : Nat) : (enc i n).length = i := by
  induction i with
  | zero => rfl
  | succ i ih => simp [enc, ih]
theorem enc_oct (i n : Nat) : Oct (enc i n) := by
  induction i with
  | zero => exact fun x hx => by cases hx
  | succ i ih =>
    intro x hx
    rcases List.mem_cons.1 hx with rfl | hx
    · have := Nat.mod_lt (n / 256 ^ i) (show 0 < 256 by decide)
      omega
    · exact ih x hx
/-- The cells when i octets have been laid, from behind. -/
def mid (cs : List Value) (o k i n : Nat) : List Value := cs.take (o + k - i) ++ (enc i n).map (Value.int .u8) ++ cs.drop (o + k)
theorem mid_zero (cs : List Value) (o k n : Nat) : mid cs o k 0 n = cs := by simp [mid, enc]
theorem mid_length (cs : List Value) (o k i n : Nat) (h : o + k ≤ cs.length) (hi : i ≤ k) : (mid cs o k i n).length = cs.length := by
  simp [mid, enc_length]
  omega
theorem mid_step (cs : List Value) (o k i n : Nat) (h : o + k ≤ cs.length) (hi : i < k) : (mid cs o k i n).set (o + (k - 1 - i)) (.int .u8 ((n / 256 ^ i % 256 : Nat) : Int)) = mid cs o k (i + 1) n := by
  have e : o + k - i = (o + (k - 1 - i)) + 1 := by omega
  have e2 : o + k - (i + 1) = o + (k - 1 - i) := by omega
  have hlt : o + (k - 1 - i) < cs.length := by omega
  unfold mid
  rw [e, e2, List.take_add_one, List.getElem?_eq_getElem hlt]
  simp only [Option.toList_some, List.append_assoc]
  rw [List.set_append_right _ _ (by simp; omega)]
  simp [enc, Nat.min_eq_left (Nat.le_of_lt hlt)]

theorem byte_is (n i : Nat) : (n : Int) / 2 ^ (8 * i) % 256 = ((n / 256 ^ i % 256 : Nat) : Int) := by
  have e : (256 : Nat) ^ i = 2 ^ (8 * i) := by rw [show (256 : Nat) = 2 ^ 8 by decide, ← Nat.pow_mul]
  rw [e]
  simp
theorem store64 (w : World) (g o k c n : Nat) (cs : List Value) (hb : Blk w g 5 cs) (hk : o + k ≤ cs.length) (hl : cs.length ≤ 9223372036854775807) (hk8 : k ≤ 8) (hc : k ≤ c) (hn : n < 18446744073709551616) :
    Calls Try.prog 86 #[.slice (some ⟨g, o, none⟩) k c, .int .u64 n] w fun e w' => e = .returned (.tuple #[]) ∧ Blk w' g 5 (mid cs o k k n) ∧ But w.heap.size g w w' := by
  go_enter Try.func86, Try.ntmps86
  go_wp2
  go_loopw [4, 7] (fun v4 vi wr => ∃ i : Nat, i ≤ k ∧ vi = .int .i64 i ∧ Blk wr g 5 (mid cs o k i n) ∧ But w.heap.size g w wr)
    (fun _ vi _ => k - (intOf vi).toNat)
  case atStart => exact ⟨0, Nat.zero_le _, rfl, by rw [mid_zero]; exact hb, But.refl _ _ _⟩
  case round =>
    obtain ⟨i, hi, rfl, hbr, hbut⟩ := hrel
    by_cases hlt : i < k
    · have hlen := mid_length cs o k i n hk hi
      obtain ⟨u, hu⟩ : ∃ u, (mid cs o k i n)[o + (k - 1 - i)]? = some u := ⟨_, List.getElem?_eq_getElem (by omega)⟩
      have hcell := hbr.cell _ hu
      have hfz := hbr.frozen (o + (k - 1 - i))
      have hil : (i : Int) < k := by omega
      have e1 : ((k : Int) - 1 - i).toNat = k - 1 - i := by omega
      have e2 := byte_is n i
      have hs := mid_step cs o k i n hk hlt
      have hb2 := hbr.set (o + (k - 1 - i)) (.int .u8 ((n / 256 ^ i % 256 : Nat) : Int))
      rw [hs, ← e2] at hb2
      clear e2 hs hu hlen hbr
      go_wp2
      exact ⟨⟨i + 1, hlt, rfl, hb2, hbut.setCell _ _⟩, by simp [intOf]; omega⟩
    · obtain rfl : i = k := by omega
      go_wp2
      go_returns
      exact ⟨rfl, hbr, hbut⟩
theorem store64_none (w : World) (a : Option Addr) (c : Nat) (n : Int) :
    Calls Try.prog 86 #[.slice a 0 c, .int .u64 n] w fun e w' => e = .returned (.tuple #[]) ∧ w' = w := by
  go_enter Try.func86, Try.ntmps86
  go_wp2
  go_loopw [4, 7] (fun v4 vi wr => vi = .int .i64 0 ∧ wr = w) (fun _ vi _ => 0)
  case atStart => exact ⟨rfl, rfl⟩
  case round =>
    obtain ⟨rfl, rfl⟩ := hrel
    go_wp2
    go_returns
    exact ⟨rfl, rfl⟩
end Go.Proofs.Ytgpjelcihmbiiaa
