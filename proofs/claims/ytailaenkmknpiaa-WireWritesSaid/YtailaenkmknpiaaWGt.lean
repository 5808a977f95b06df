/- Helpers of the laws: a number from 0 to n - 1; a number of one of the sizes read or written. No condition. -/
import Derived.Test.YtailaenkmknpiaaWLv
namespace Go.Proofs.Ytailaenkmknpiaa
open Go.RowKit
set_option linter.unusedVariables false
set_option linter.unusedSimpArgs false
set_option maxRecDepth 100000

/-- The sizes of numbers, by their index. -/
def sz (k : Nat) : Nat := match k with
  | 0 => 1
  | 1 => 2
  | 2 => 3
  | 3 => 4
  | 4 => 6
  | _ => 8
theorem pick_is (x : Int) (n : Nat) (h0 : 0 < n) (h1 : n ≤ 4611686018427387904) (hx : -9223372036854775808 ≤ x ∧ x ≤ 9223372036854775807) (w : World) :
    Calls Try.prog 9 #[.int .i64 x, .int .i64 n] w fun e w' => ∃ p : Nat, e = .returned (.int .i64 p) ∧ p < n ∧ w' = w := by
  have hn : ¬ (n : Int) = 0 := by omega
  have hn' : ((n : Int) == 0) = false := by simpa using hn
  have b1 := Int.tmod_lt_of_pos x (show (0 : Int) < n by omega)
  have b2 : -(n : Int) < x.tmod n := Int.lt_tmod_of_pos x (show (0 : Int) < n by omega)
  go_enter Try.func9, Try.ntmps9
  by_cases hneg : x.tmod n < 0
  · go_wp2
    go_ret
    exact ⟨(x.tmod n + n).toNat, (by rw [Int.toNat_of_nonneg (by omega)]; rfl), by omega, rfl⟩
  · go_wp2
    go_ret
    exact ⟨(x.tmod n).toNat, (by rw [Int.toNat_of_nonneg (by omega)]; rfl), by omega, rfl⟩
theorem get_0 (w : World) (b : Nat) (R : RS) (h : Rdr w b R) : Calls Try.prog 25 #[.pointer (some ⟨b, 0, none⟩), .int .i64 0] w fun e w' => e = .returned (.int .u64 (be (R.part 1))) ∧ Rdr w' b (R.next 1) ∧ But w.heap.size b w w' := by
  have hn := rd_U8 w b R h
  go_enter Try.func25, Try.ntmps25
  go_wp2_with (go_at_call 41; refine hn.mono ?_; rintro e w' ⟨rfl, r, k⟩; clear hn)
  go_ret
  exact ⟨rfl, r, k⟩
theorem get_1 (w : World) (b : Nat) (R : RS) (h : Rdr w b R) : Calls Try.prog 25 #[.pointer (some ⟨b, 0, none⟩), .int .i64 1] w fun e w' => e = .returned (.int .u64 (be (R.part 2))) ∧ Rdr w' b (R.next 2) ∧ But w.heap.size b w w' := by
  have hn := rd_U16 w b R h
  go_enter Try.func25, Try.ntmps25
  go_wp2_with (go_at_call 40; refine hn.mono ?_; rintro e w' ⟨rfl, r, k⟩; clear hn)
  go_ret
  exact ⟨rfl, r, k⟩
theorem get_2 (w : World) (b : Nat) (R : RS) (h : Rdr w b R) : Calls Try.prog 25 #[.pointer (some ⟨b, 0, none⟩), .int .i64 2] w fun e w' => e = .returned (.int .u64 (be (R.part 3))) ∧ Rdr w' b (R.next 3) ∧ But w.heap.size b w w' := by
  have hn := rd_U24 w b R h
  go_enter Try.func25, Try.ntmps25
  go_wp2_with (go_at_call 50; refine hn.mono ?_; rintro e w' ⟨rfl, r, k⟩; clear hn)
  go_ret
  exact ⟨rfl, r, k⟩
theorem get_3 (w : World) (b : Nat) (R : RS) (h : Rdr w b R) : Calls Try.prog 25 #[.pointer (some ⟨b, 0, none⟩), .int .i64 3] w fun e w' => e = .returned (.int .u64 (be (R.part 4))) ∧ Rdr w' b (R.next 4) ∧ But w.heap.size b w w' := by
  have hn := rd_U32 w b R h
  go_enter Try.func25, Try.ntmps25
  go_wp2_with (go_at_call 51; refine hn.mono ?_; rintro e w' ⟨rfl, r, k⟩; clear hn)
  go_ret
  exact ⟨rfl, r, k⟩
theorem get_4 (w : World) (b : Nat) (R : RS) (h : Rdr w b R) : Calls Try.prog 25 #[.pointer (some ⟨b, 0, none⟩), .int .i64 4] w fun e w' => e = .returned (.int .u64 (be (R.part 6))) ∧ Rdr w' b (R.next 6) ∧ But w.heap.size b w w' := by
  have hn := rd_U48 w b R h
  go_enter Try.func25, Try.ntmps25
  go_wp2_with (go_at_call 52; refine hn.mono ?_; rintro e w' ⟨rfl, r, k⟩; clear hn)
  go_ret
  exact ⟨rfl, r, k⟩
theorem get_5 (w : World) (b : Nat) (R : RS) (h : Rdr w b R) : Calls Try.prog 25 #[.pointer (some ⟨b, 0, none⟩), .int .i64 5] w fun e w' => e = .returned (.int .u64 (be (R.part 8))) ∧ Rdr w' b (R.next 8) ∧ But w.heap.size b w w' := by
  have hn := rd_U64 w b R h
  go_enter Try.func25, Try.ntmps25
  go_wp2_with (go_at_call 53; refine hn.mono ?_; rintro e w' ⟨rfl, r, k⟩; clear hn)
  go_ret
  exact ⟨rfl, r, k⟩
theorem get_is (w : World) (b : Nat) (R : RS) (k : Nat) (hk : k < 6) (h : Rdr w b R) : Calls Try.prog 25 #[.pointer (some ⟨b, 0, none⟩), .int .i64 k] w fun e w' => e = .returned (.int .u64 (be (R.part (sz k)))) ∧ Rdr w' b (R.next (sz k)) ∧ But w.heap.size b w w' := by
  match k, hk with
  | 0, _ => exact get_0 w b R h
  | 1, _ => exact get_1 w b R h
  | 2, _ => exact get_2 w b R h
  | 3, _ => exact get_3 w b R h
  | 4, _ => exact get_4 w b R h
  | 5, _ => exact get_5 w b R h
theorem put_0 (w : World) (b : Nat) (W : WS) (n : Nat) (h : Wtr w b W) (hn : n < 18446744073709551616) : Calls Try.prog 10 #[.pointer (some ⟨b, 0, none⟩), .int .i64 0, .int .u64 n] w fun e w' => Put b W (W.res 1 n) (enc 1 n) w e w' := by
  have hx := wr_U8 w b W n h hn
  go_enter Try.func10, Try.ntmps10
  go_wp2_with (go_at_call 39; refine hx.mono ?_; rintro e w' ⟨rfl, hw⟩; clear hx)
  go_ret
  exact ⟨rfl, hw⟩
theorem put_1 (w : World) (b : Nat) (W : WS) (n : Nat) (h : Wtr w b W) (hn : n < 18446744073709551616) : Calls Try.prog 10 #[.pointer (some ⟨b, 0, none⟩), .int .i64 1, .int .u64 n] w fun e w' => Put b W (W.res 2 n) (enc 2 n) w e w' := by
  have hx := wr_U16 w b W n h hn
  go_enter Try.func10, Try.ntmps10
  go_wp2_with (go_at_call 37; refine hx.mono ?_; rintro e w' ⟨rfl, hw⟩; clear hx)
  go_ret
  exact ⟨rfl, hw⟩
theorem put_2 (w : World) (b : Nat) (W : WS) (n : Nat) (h : Wtr w b W) (hn : n < 18446744073709551616) : Calls Try.prog 10 #[.pointer (some ⟨b, 0, none⟩), .int .i64 2, .int .u64 n] w fun e w' => Put b W (W.res 3 n) (enc 3 n) w e w' := by
  have hx := wr_U24 w b W n h hn
  go_enter Try.func10, Try.ntmps10
  go_wp2_with (go_at_call 38; refine hx.mono ?_; rintro e w' ⟨rfl, hw⟩; clear hx)
  go_ret
  exact ⟨rfl, hw⟩
theorem put_3 (w : World) (b : Nat) (W : WS) (n : Nat) (h : Wtr w b W) (hn : n < 18446744073709551616) : Calls Try.prog 10 #[.pointer (some ⟨b, 0, none⟩), .int .i64 3, .int .u64 n] w fun e w' => Put b W (W.res 4 n) (enc 4 n) w e w' := by
  have hx := wr_U32 w b W n h hn
  go_enter Try.func10, Try.ntmps10
  go_wp2_with (go_at_call 42; refine hx.mono ?_; rintro e w' ⟨rfl, hw⟩; clear hx)
  go_ret
  exact ⟨rfl, hw⟩
theorem put_4 (w : World) (b : Nat) (W : WS) (n : Nat) (h : Wtr w b W) (hn : n < 18446744073709551616) : Calls Try.prog 10 #[.pointer (some ⟨b, 0, none⟩), .int .i64 4, .int .u64 n] w fun e w' => Put b W (W.res 6 n) (enc 6 n) w e w' := by
  have hx := wr_U48 w b W n h hn
  go_enter Try.func10, Try.ntmps10
  go_wp2_with (go_at_call 43; refine hx.mono ?_; rintro e w' ⟨rfl, hw⟩; clear hx)
  go_ret
  exact ⟨rfl, hw⟩
theorem put_5 (w : World) (b : Nat) (W : WS) (n : Nat) (h : Wtr w b W) (hn : n < 18446744073709551616) : Calls Try.prog 10 #[.pointer (some ⟨b, 0, none⟩), .int .i64 5, .int .u64 n] w fun e w' => Put b W (W.res 8 n) (enc 8 n) w e w' := by
  have hx := wr_U64 w b W n h hn
  go_enter Try.func10, Try.ntmps10
  go_wp2_with (go_at_call 44; refine hx.mono ?_; rintro e w' ⟨rfl, hw⟩; clear hx)
  go_ret
  exact ⟨rfl, hw⟩
theorem put_is (w : World) (b : Nat) (W : WS) (k n : Nat) (hk : k < 6) (h : Wtr w b W) (hn : n < 18446744073709551616) : Calls Try.prog 10 #[.pointer (some ⟨b, 0, none⟩), .int .i64 k, .int .u64 n] w fun e w' => Put b W (W.res (sz k) n) (enc (sz k) n) w e w' := by
  match k, hk with
  | 0, _ => exact put_0 w b W n h hn
  | 1, _ => exact put_1 w b W n h hn
  | 2, _ => exact put_2 w b W n h hn
  | 3, _ => exact put_3 w b W n h hn
  | 4, _ => exact put_4 w b W n h hn
  | 5, _ => exact put_5 w b W n h hn

/-- A reader with a fault yields nothing, and nothing changes. -/
theorem RS.bad_part {R : RS} (h : R.er ≠ 0) (k : Int) : R.part k = [] := if_neg fun ⟨h0, _⟩ => h h0
theorem RS.bad_next {R : RS} (h : R.er ≠ 0) (k : Int) : R.next k = R := by
  have e : R.next k = R.fail 4 := if_neg fun ⟨h0, _⟩ => h h0
  rw [e]
  exact if_neg fun ⟨h0, _⟩ => h h0
theorem RS.bad_fail {R : RS} (h : R.er ≠ 0) (k : Int) : R.fail k = R := if_neg fun ⟨h0, _⟩ => h h0
end Go.Proofs.Ytailaenkmknpiaa
