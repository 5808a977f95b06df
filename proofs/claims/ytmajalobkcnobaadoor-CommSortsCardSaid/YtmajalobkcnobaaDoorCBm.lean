/- What the getters read of a list that holds one community of each kind among others. No condition. -/
import Derived.Test.YtmajalobkcnobaaDoorCGe
import Derived.Test.YtmajalobkcnobaaDoorCAp
import Derived.Test.YtmajalobkcnobaaDoorCLi
namespace Go.Proofs.YtmajalobkcnobaaDoor
open Go.RowKit Go.Sort
set_option linter.unusedVariables false
set_option linter.unusedSimpArgs false
set_option maxRecDepth 100000

/-- None of these is of a kind. -/
def Kls (A : List (Nat → Int)) : Prop := ∀ e ∈ A, kd (e 0) (e 1) = 0
theorem fk_mid {k : Nat} {A M B : List (Nat → Int)} {e : Nat → Int} (hA : Kls A) (hk : k ≠ 0) (hM : fk k M = some e) : fk k (A ++ M ++ B) = some e := by
  unfold fk at hM ⊢
  have hn : A.find? (fun e => decide (kd (e 0) (e 1) = k)) = none := by
    rw [List.find?_eq_none]
    intro x hx
    have := hA x hx
    simp [this, Ne.symm hk]
  rw [List.find?_append, List.find?_append, hn]
  simp [hM]
theorem nums_app (A B : List (Nat → Int)) : nums (A ++ B) = nums A ++ nums B := by
  unfold nums
  rw [List.filter_append, List.map_append]
theorem nums_kls {A : List (Nat → Int)} (hA : Kls A) : nums A = [] := by
  unfold nums
  rw [List.map_eq_nil_iff, List.filter_eq_nil_iff]
  intro e he
  simp [isT, hA e he]

/-- One of each kind. -/
def seven (a b m n : Int) (is : Bool) : List (Nat → Int) := [mk 3 12 b, mk 6 1 (fl is + n), mk 6 2 m, mk 6 3 m, mk 6 6 (a * 1099511627776 + b), mk 6 0 (fl is + n), mk 0 2 (tn 65000 n)]
theorem seven_2 (a b m n : Int) (is : Bool) : fk 2 (seven a b m n is) = some (mk 3 12 b) := by kernel_rfl
theorem seven_3 (a b m n : Int) (is : Bool) : fk 3 (seven a b m n is) = some (mk 6 0 (fl is + n)) := by kernel_rfl
theorem seven_4 (a b m n : Int) (is : Bool) : fk 4 (seven a b m n is) = some (mk 6 1 (fl is + n)) := by kernel_rfl
theorem seven_5 (a b m n : Int) (is : Bool) : fk 5 (seven a b m n is) = some (mk 6 2 m) := by kernel_rfl
theorem seven_6 (a b m n : Int) (is : Bool) : fk 6 (seven a b m n is) = some (mk 6 3 m) := by kernel_rfl
theorem seven_7 (a b m n : Int) (is : Bool) : fk 7 (seven a b m n is) = some (mk 6 6 (a * 1099511627776 + b)) := by kernel_rfl
theorem seven_o8 (a b m n : Int) (is : Bool) : ∀ e ∈ seven a b m n is, O8 e := by
  intro e he
  simp only [seven, List.mem_cons, List.not_mem_nil, or_false] at he
  rcases he with rfl | rfl | rfl | rfl | rfl | rfl | rfl <;> exact mk_o8 (by decide) (by decide) (by decide) (by decide)
theorem fg_fl (is : Bool) (n : Int) (h0 : 0 ≤ n) (h1 : n < 4294967296) : fg (fl is + n) = is := by
  cases is <;> simp [fg, fl] <;> omega
theorem seven_nums (a b m n : Int) (is : Bool) (h0 : 0 ≤ n) (h1 : n < 4294967296) : nums (seven a b m n is) = [n] := by
  have hc : ct (mk 0 2 (tn 65000 n)) 6 = tn 65000 n := ct_mk (by unfold tn; omega) (by unfold tn; omega)
  have e1 : isT (mk 0 2 (tn 65000 n)) = true := by
    have hd : tn 65000 n / 4294967296 = 65000 := by unfold tn; omega
    simp [isT, hc, hd, mk, kd]
  have e2 : ∀ (x y z : Int), kd x y ≠ 1 → isT (mk x y z) = false := fun x y z h => by
    simp [isT, mk, h]
  unfold nums seven
  simp only [List.filter_cons, e1, e2 3 12 _ (by decide), e2 6 1 _ (by decide), e2 6 2 _ (by decide), e2 6 3 _ (by decide), e2 6 6 _ (by decide), e2 6 0 _ (by decide), List.filter_nil, if_true, Bool.false_eq_true, if_false, List.map_cons, List.map_nil, hc]
  congr 1
  unfold tn
  omega
section
variable (a b m n : Int) (is : Bool) (A B : List (Nat → Int)) (hA : Kls A)
include hA
theorem back_encap (h0 : 0 ≤ b) (h1 : b < 65536) : encapV (fk 2 (A ++ seven a b m n is ++ B)) = .tuple #[.int .i64 b, .bool true] := by
  rw [fk_mid hA (by decide) (seven_2 a b m n is)]
  simp only [encapV, ct_mk (a := 3) (b := 12) h0 (show b < 281474976710656 by omega)]
  rw [show b % 65536 = b by omega]
theorem back_label (h0 : 0 ≤ n) (h1 : n < 16777216) : labV3 (fk 4 (A ++ seven a b m n is ++ B)) = .tuple #[.bool is, .int .u32 n, .bool true] := by
  rw [fk_mid hA (by decide) (seven_4 a b m n is)]
  have hb := fl_bd is
  simp only [labV3, ct_mk (a := 6) (b := 1) (show 0 ≤ fl is + n by omega) (show fl is + n < 281474976710656 by omega), fg_fl is n h0 (by omega)]
  rw [show (fl is + n) % 16777216 = n by cases is <;> simp [fl] <;> omega]
theorem back_mob (h0 : 0 ≤ n) (h1 : n < 16777216) : mobV3 (fk 3 (A ++ seven a b m n is ++ B)) = .tuple #[.bool is, .int .u32 n, .bool true] := by
  rw [fk_mid hA (by decide) (seven_3 a b m n is)]
  have hb := fl_bd is
  simp only [mobV3, ct_mk (a := 6) (b := 0) (show 0 ≤ fl is + n by omega) (show fl is + n < 281474976710656 by omega), fg_fl is n h0 (by omega)]
  rw [show (fl is + n) % 4294967296 = n by cases is <;> simp [fl] <;> omega]
theorem back_import (h0 : 0 ≤ m) (h1 : m < 281474976710656) : addrV (fk 5 (A ++ seven a b m n is ++ B)) = .tuple #[.int .u64 m, .bool true] := by
  rw [fk_mid hA (by decide) (seven_5 a b m n is)]
  simp only [addrV, ct_mk (a := 6) (b := 2) h0 h1]
theorem back_router (h0 : 0 ≤ m) (h1 : m < 281474976710656) : addrV (fk 6 (A ++ seven a b m n is ++ B)) = .tuple #[.int .u64 m, .bool true] := by
  rw [fk_mid hA (by decide) (seven_6 a b m n is)]
  simp only [addrV, ct_mk (a := 6) (b := 3) h0 h1]
theorem back_el (a0 : 0 ≤ a) (a1 : a < 32) (h0 : 0 ≤ b) (h1 : b < 65536) : elV3 (fk 7 (A ++ seven a b m n is ++ B)) = .tuple #[.int .i64 a, .int .i64 b, .bool true] := by
  rw [fk_mid hA (by decide) (seven_7 a b m n is)]
  simp only [elV3, ct_mk (a := 6) (b := 6) (show 0 ≤ a * 1099511627776 + b by omega) (show a * 1099511627776 + b < 281474976710656 by omega)]
  rw [show (a * 1099511627776 + b) / 1099511627776 % 32 = a by omega, show (a * 1099511627776 + b) % 65536 = b by omega]
theorem back_nums (hB : Kls B) (h0 : 0 ≤ n) (h1 : n < 16777216) : nums (A ++ seven a b m n is ++ B) = [n] := by
  rw [nums_app, nums_app, nums_kls hA, nums_kls hB, seven_nums a b m n is h0 (by omega)]
  simp
end
/-- One number, or none, sorted and without repetitions. -/
theorem srt_one {n : Int} {d : Array Int} (h : Srt #[n] d) : Lib.compactUpTo d d.size = [n] := by
  obtain ⟨hs, hp, -⟩ := h
  have e : d.toList = [n] := by simpa using hp
  obtain rfl : d = #[n] := by rw [← Array.toArray_toList (xs := d), e]
  simp [Lib.compactUpTo, Lib.keeps]
theorem srt_none {d : Array Int} (h : Srt #[] d) : Lib.compactUpTo d d.size = [] := by
  obtain ⟨hs, -, -⟩ := h
  have : d.size = 0 := hs
  rw [this]
  rfl
end Go.Proofs.YtmajalobkcnobaaDoor
