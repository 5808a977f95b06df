/- internal/strconv.formatBits at base 16, at a byte. -/
import Derived.Test.YtipmfcbpkbkceaaDoorHxa
import Derived.RangeFuncOwn
namespace Go.Proofs.YtipmfcbpkbkceaaDoor
open Go.RowKit Go.Shelf Go.Sort
set_option linter.unusedVariables false
set_option linter.unusedSimpArgs false

theorem own_others {w w' : World} {B e n : Nat} {v : Value} {xs : List Value} (h : w.ownsRow B e 1 v n xs) (hg : w.grownBy w' v.ownBlock) : KeepsOthers w w' := KeepsOthers.of_grownBy hg fun j o ej hj => by
  rcases h.2 with ⟨rfl, _⟩ | ⟨g, cap, cur, rfl, _, hgb, _⟩
  · simp [Value.ownBlock] at ej
  · obtain rfl : g = j := by simpa [Value.ownBlock] using ej
    rw [hgb] at hj
    cases hj
    rfl

/-- A hexadecimal digit, in lower case. -/
def hexd (b : Nat) : Nat := if b < 10 then 48 + b else 87 + b
theorem digit_at : ∀ b : Nat, b < 16 → ∀ W, (Instr.index 9 (.string ⟨#[48, 49, 50, 51, 52, 53, 54, 55, 56, 57, 97, 98, 99, 100, 101, 102, 103, 104, 105, 106, 107, 108, 109, 110, 111, 112, 113, 114, 115, 116, 117, 118, 119, 120, 121, 122]⟩) (.int .u64 (b : Int))).run Tryd.prog W = .ok (.int .u8 (hexd b : Int)) W := by
  intro b hb W
  obtain rfl | rfl | rfl | rfl | rfl | rfl | rfl | rfl | rfl | rfl | rfl | rfl | rfl | rfl | rfl | rfl : b = 0 ∨ b = 1 ∨ b = 2 ∨ b = 3 ∨ b = 4 ∨ b = 5 ∨ b = 6 ∨ b = 7 ∨ b = 8 ∨ b = 9 ∨ b = 10 ∨ b = 11 ∨ b = 12 ∨ b = 13 ∨ b = 14 ∨ b = 15 := by omega
  all_goals kernel_rfl
set_option maxHeartbeats 4000000 in
set_option maxRecDepth 100000 in
theorem formatBits_lo (B n b : Nat) (hb : b < 16) (sv : Value) (xs : List Value) (w : World) (hown : w.ownsRow B 5 1 sv n xs) (hBw : B ≤ w.heap.size) (hlim : n + 20 ≤ 140737488355328) (ht : w.cell? ⟨5, 15, none⟩ = some (.int .u8 4)) :
    Calls Tryd.prog 56 #[sv, .int .u64 (b : Int), .int .i64 16, .bool false, .bool true] w fun e w' => (∃ v', e = .returned (.tuple #[v', .string ⟨#[]⟩]) ∧ w'.ownsRow B 5 1 v' (n + 1) (xs ++ [byteV (hexd b)])) ∧ Below B w w' ∧ KeepsOthers w w' := by
  obtain ⟨i0, hi, hz0, hz1, hz2⟩ := info_parts (show (Tryd.prog.info? 5).map (fun i => (i.zero, i.size, i.bytes)) = some (some (.int .u8 0), 1, 1) by kernel_rfl)
  have hdg := digit_at b hb
  go_enter Tryd.func56, Tryd.ntmps56
  go_wp2_with (go_at_call 66; refine (pow2_16 _).mono ?_; rintro e w' ⟨rfl, rfl⟩)
  go_at_call 67
  refine (tz_16 _ (by rw [World.cell?_alloc_lt _ _ _ (block_lt_of_cell ht)]; exact ht)).mono ?_
  rintro e w' ⟨rfl, rfl⟩
  go_wp2
  refine wp_loop_once ?_
  have hsz0 : Tryd.zeroCells101.size = 65 := by kernel_rfl
  have hcl : ∀ j u, [byteV (hexd b)][j]? = some u → (w.alloc (.cells (Tryd.zeroCells101.setIfInBounds 64 (.int .u8 (hexd b : Int))) 101)).cell? ((⟨w.heap.size, 64, none⟩ : Addr).add j) = some u := by
    intro j u h
    rcases j with _ | j
    · cases h
      show (w.alloc _).cell? ⟨w.heap.size, 64, none⟩ = _
      rw [World.cell?_alloc_at _ _ _ _ rfl, Array.getElem?_setIfInBounds_self_of_lt (by rw [hsz0]; decide)]
      rfl
    · simp at h
  clear hsz0
  go_wp2_with (at_builtin; refine wpList_append_own _ rfl _ _ 58 rfl B 5 i0 (.int .u8 0) 1 1 Tryd.underlying58 hi hz0 hz1 hz2 rfl (by decide) _ _ _ rfl (hown.alloc _) ⟨w.heap.size, 64, none⟩ 1 1 [byteV (hexd b)] rfl rfl hcl (fun y hy => by simp at hy; subst hy; rfl) (by unfold maxLen; omega) (by omega) (by simp; omega) ?_; intro v' w3 hown' hgrow3 hnil3)
  go_ret2
  exact ⟨⟨_, rfl, hown'⟩, ((Below.refl _ _).alloc hBw _).grown hgrow3 (by simp; omega) (fun q hq => (hown.lt q hq).1), (KeepsOthers.alloc _ _).trans (own_others (hown.alloc _) hgrow3)⟩

set_option maxHeartbeats 8000000 in
set_option maxRecDepth 100000 in
theorem formatBits_hi (B n b : Nat) (hb : 16 ≤ b) (hb2 : b < 256) (sv : Value) (xs : List Value) (w : World) (hown : w.ownsRow B 5 1 sv n xs) (hBw : B ≤ w.heap.size) (hlim : n + 20 ≤ 140737488355328) (ht : w.cell? ⟨5, 15, none⟩ = some (.int .u8 4)) :
    Calls Tryd.prog 56 #[sv, .int .u64 (b : Int), .int .i64 16, .bool false, .bool true] w fun e w' => (∃ v', e = .returned (.tuple #[v', .string ⟨#[]⟩]) ∧ w'.ownsRow B 5 1 v' (n + 2) (xs ++ [byteV (hexd (b / 16)), byteV (hexd (b % 16))])) ∧ Below B w w' ∧ KeepsOthers w w' := by
  obtain ⟨i0, hi, hz0, hz1, hz2⟩ := info_parts (show (Tryd.prog.info? 5).map (fun i => (i.zero, i.size, i.bytes)) = some (some (.int .u8 0), 1, 1) by kernel_rfl)
  have hdg1 := digit_at (b % 16) (by omega)
  have hdg2 := digit_at (b / 16) (by omega)
  have hand : bits BinOp.and IntKind.u64 (b : Int) 15 = ((b % 16 : Nat) : Int) := by
    rw [u64_and _ _ (Int.natCast_nonneg _) (by omega) (by decide) (by decide), Int.toNat_natCast]
    exact congrArg _ (Nat.and_two_pow_sub_one_eq_mod b 4)
  have hdiv : ((b : Int) / 16) = ((b / 16 : Nat) : Int) := by omega
  have HD := Lib.hid hdiv
  have hq : b / 16 < 16 := by omega
  obtain ⟨q, hq0⟩ : ∃ q, q = b / 16 := ⟨_, rfl⟩
  obtain ⟨r, hr0⟩ : ∃ r, r = b % 16 := ⟨_, rfl⟩
  rw [← hq0] at hdg2 hq HD ⊢
  rw [← hr0] at hdg1 hand ⊢
  clear hdiv hq0 hr0
  have hsz0 : Tryd.zeroCells101.size = 65 := by kernel_rfl
  have hcl : ∀ j u, [byteV (hexd q), byteV (hexd r)][j]? = some u → (w.alloc (.cells ((Tryd.zeroCells101.setIfInBounds 64 (.int .u8 (hexd r : Int))).setIfInBounds 63 (.int .u8 (hexd q : Int))) 101)).cell? ((⟨w.heap.size, 63, none⟩ : Addr).add j) = some u := by
    intro j u h
    rcases j with _ | _ | j
    · cases h
      show (w.alloc _).cell? ⟨w.heap.size, 63, none⟩ = _
      rw [World.cell?_alloc_at _ _ _ _ rfl, Array.getElem?_setIfInBounds_self_of_lt (by rw [Array.size_setIfInBounds, hsz0]; decide)]
      rfl
    · cases h
      show (w.alloc _).cell? ⟨w.heap.size, 64, none⟩ = _
      rw [World.cell?_alloc_at _ _ _ _ rfl, Array.getElem?_setIfInBounds_ne (by decide), Array.getElem?_setIfInBounds_self_of_lt (by rw [hsz0]; decide)]
      rfl
    · simp at h
  have HC := Lib.hid hcl
  clear hsz0 hcl
  go_enter Tryd.func56, Tryd.ntmps56
  go_wp2_with (go_at_call 66; refine (pow2_16 _).mono ?_; rintro e w' ⟨rfl, rfl⟩)
  go_at_call 67
  refine (tz_16 _ (by rw [World.cell?_alloc_lt _ _ _ (block_lt_of_cell ht)]; exact ht)).mono ?_
  rintro e w' ⟨rfl, rfl⟩
  go_wp2
  go_loopw [1, 13] (fun s1 s13 wr => (s1 = .int .u64 (b : Int) ∧ s13 = .int .i64 65 ∧ wr = w.alloc (.cells Tryd.zeroCells101 101)) ∨ (s1 = .int .u64 (q : Int) ∧ s13 = .int .i64 64 ∧ wr = w.alloc (.cells (Tryd.zeroCells101.setIfInBounds 64 (.int .u8 (hexd r : Int))) 101)))
    (fun s1 _ _ => (intOf s1).toNat)
  case atStart => exact .inl ⟨rfl, rfl, rfl⟩
  case round =>
    rcases hrel with ⟨rfl, rfl, rfl⟩ | ⟨rfl, rfl, rfl⟩
    · go_wp2
      go_roundw
      case rel => refine .inr ⟨?_, ?_, ?_⟩ <;> first | rfl | trivial | rw [HD.out]
      case measure => simp [intOf]; omega
    · go_wp2_with (at_builtin; refine wpList_append_own _ rfl _ _ 58 rfl B 5 i0 (.int .u8 0) 1 1 Tryd.underlying58 hi hz0 hz1 hz2 rfl (by decide) _ _ _ rfl (hown.alloc _) ⟨w.heap.size, 63, none⟩ 2 2 [byteV (hexd q), byteV (hexd r)] rfl rfl HC.out (fun y hy => by simp at hy; rcases hy with rfl | rfl <;> rfl) (by unfold maxLen; omega) (by omega) (by simp; omega) ?_; intro v' w3 hown' hgrow3 hnil3)
      go_ret2
      exact ⟨⟨_, rfl, hown'⟩, ((Below.refl _ _).alloc hBw _).grown hgrow3 (by simp; omega) (fun q hq => (hown.lt q hq).1), (KeepsOthers.alloc _ _).trans (own_others (hown.alloc _) hgrow3)⟩

/-- The lower-case digits of a byte, without a leading zero. -/
def hexDig (b : Nat) : List Value := if b < 16 then [byteV (hexd b)] else [byteV (hexd (b / 16)), byteV (hexd (b % 16))]
theorem appendUint16_in (B n b : Nat) (hb2 : b < 256) (sv : Value) (xs : List Value) (w : World) (hown : w.ownsRow B 5 1 sv n xs) (hBw : B ≤ w.heap.size) (hlim : n + 20 ≤ 140737488355328) (ht : w.cell? ⟨5, 15, none⟩ = some (.int .u8 4)) :
    Calls Tryd.prog 44 #[sv, .int .u64 (b : Int), .int .i64 16] w fun e w' => (∃ v', e = .returned v' ∧ w'.ownsRow B 5 1 v' (n + (hexDig b).length) (xs ++ hexDig b)) ∧ Below B w w' ∧ KeepsOthers w w' := by
  have hC : Calls Tryd.prog 56 #[sv, .int .u64 (b : Int), .int .i64 16, .bool false, .bool true] w fun e w' => (∃ v', e = .returned (.tuple #[v', .string ⟨#[]⟩]) ∧ w'.ownsRow B 5 1 v' (n + (hexDig b).length) (xs ++ hexDig b)) ∧ Below B w w' ∧ KeepsOthers w w' := by
    unfold hexDig
    by_cases hb : b < 16
    · rw [if_pos hb]; exact formatBits_lo B n b hb sv xs w hown hBw hlim ht
    · rw [if_neg hb]; exact formatBits_hi B n b (by omega) hb2 sv xs w hown hBw hlim ht
  clear hown ht
  go_enter Tryd.func44, Tryd.ntmps44
  go_wp2_with (go_at_call 56; refine hC.mono ?_; rintro e w' ⟨⟨v', rfl, hv⟩, hb⟩)
  go_ret
  exact ⟨⟨_, rfl, hv⟩, hb⟩

theorem appendUint16 (B n b : Nat) (hb2 : b < 256) (sv : Value) (xs : List Value) (w : World) (hown : w.ownsRow B 5 1 sv n xs) (hBw : B ≤ w.heap.size) (hlim : n + 20 ≤ 140737488355328) (ht : w.cell? ⟨5, 15, none⟩ = some (.int .u8 4)) :
    Calls Tryd.prog 37 #[sv, .int .u64 (b : Int), .int .i64 16] w fun e w' => (∃ v', e = .returned v' ∧ w'.ownsRow B 5 1 v' (n + (hexDig b).length) (xs ++ hexDig b)) ∧ Below B w w' ∧ KeepsOthers w w' := by
  have hC := appendUint16_in B n b hb2 sv xs w hown hBw hlim ht
  clear hown ht
  go_enter Tryd.func37, Tryd.ntmps37
  go_wp2_with (go_at_call 44; refine hC.mono ?_; rintro e w' ⟨⟨v', rfl, hv⟩, hb⟩)
  go_ret
  exact ⟨⟨_, rfl, hv⟩, hb⟩
end Go.Proofs.YtipmfcbpkbkceaaDoor
