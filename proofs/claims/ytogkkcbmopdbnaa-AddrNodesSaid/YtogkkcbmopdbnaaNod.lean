/- Nodes, router addresses and segments by their numbers. No condition. -/
import Derived.Test.YtogkkcbmopdbnaaSeg
import Derived.Test.YtogkkcbmopdbnaaWit
import Derived.Test.YtogkkcbmopdbnaaEqe
import Derived.Laws.BitsAllLaws
namespace Go.Proofs.Ytogkkcbmopdbnaa
open Go.RowKit
set_option linter.unusedVariables false

theorem loop_yes (n : Int) (h0 : 0 ≤ n) (h1 : n < 32) (w : World) :
    Calls Try.prog 12 #[.int .i64 n] w fun e w' => e = .returned (.tuple #[.int .u32 (184483841 + n), .int .i64 0]) ∧ w = w' := by
  have h2 : ¬ n < 0 := by omega
  have h3 : ¬ 32 ≤ n := by omega
  go_enter Try.func12, Try.ntmps12
  go_wp2
  go_ret2
  exact ⟨rfl, rfl⟩
theorem loop_no (n : Int) (h : n < 0 ∨ 32 ≤ n) (w : World) :
    Calls Try.prog 12 #[.int .i64 n] w fun e w' => e = .returned (.tuple #[.int .u32 0, .int .i64 2]) ∧ w = w' := by
  rcases h with h | h
  · go_enter Try.func12, Try.ntmps12
    go_wp2
    go_ret2
    exact ⟨rfl, rfl⟩
  · have h2 : ¬ n < 0 := by omega
    go_enter Try.func12, Try.ntmps12
    go_wp2
    go_ret2
    exact ⟨rfl, rfl⟩

theorem rmac_yes (n : Int) (h0 : 0 ≤ n) (h1 : n < 32) (w : World) :
    Calls Try.prog 13 #[.int .i64 n] w fun e w' => e = .returned (.tuple #[.int .u64 (2199023255552 + n), .int .i64 0]) ∧ w = w' := by
  have h2 : ¬ n < 0 := by omega
  have h3 : ¬ 32 ≤ n := by omega
  go_enter Try.func13, Try.ntmps13
  go_wp2
  go_ret2
  exact ⟨rfl, rfl⟩
theorem rmac_no (n : Int) (h : n < 0 ∨ 32 ≤ n) (w : World) :
    Calls Try.prog 13 #[.int .i64 n] w fun e w' => e = .returned (.tuple #[.int .u64 0, .int .i64 2]) ∧ w = w' := by
  rcases h with h | h
  · go_enter Try.func13, Try.ntmps13
    go_wp2
    go_ret2
    exact ⟨rfl, rfl⟩
  · have h2 : ¬ n < 0 := by omega
    go_enter Try.func13, Try.ntmps13
    go_wp2
    go_ret2
    exact ⟨rfl, rfl⟩

theorem node_yes (n : Int) (h0 : 0 ≤ n) (h1 : n < 32) (w : World) :
    Calls Try.prog 15 #[.int .u32 (184483841 + n)] w fun e w' => e = .returned (.tuple #[.int .i64 n, .bool true]) ∧ w = w' := by
  have e1 : (184483841 + n - 184483841 : Int) = n := by omega
  have h3 : ¬ 32 ≤ n := by omega
  go_enter Try.func15, Try.ntmps15
  go_wp2
  go_ret2
  exact ⟨rfl, rfl⟩

theorem rnode_yes (n : Int) (h0 : 0 ≤ n) (h1 : n < 32) (w : World) :
    Calls Try.prog 16 #[.int .u64 (2199023255552 + n)] w fun e w' => e = .returned (.tuple #[.int .i64 n, .bool true]) ∧ w = w' := by
  have e1 : (2199023255552 + n - 2199023255552 : Int) = n := by omega
  have h3 : ¬ 32 ≤ n := by omega
  go_enter Try.func16, Try.ntmps16
  go_wp2
  go_ret2
  exact ⟨rfl, rfl⟩

theorem group_bit : ∀ n : Nat, n < 32 → bits BinOp.and IntKind.u64 (2199023255552 + (n : Int)) 1099511627776 = 0 := by decide +kernel
theorem mcast_no (n : Int) (h0 : 0 ≤ n) (h1 : n < 32) (w : World) :
    Calls Try.prog 17 #[.int .u64 (2199023255552 + n)] w fun e w' => e = .returned (.bool false) ∧ w = w' := by
  have hb : bits BinOp.and IntKind.u64 (2199023255552 + n) 1099511627776 = 0 := by
    have := group_bit n.toNat (by omega)
    rwa [Int.toNat_of_nonneg h0] at this
  go_enter Try.func17, Try.ntmps17
  go_wp2
  go_ret
  exact ⟨rfl, rfl⟩

theorem bits_range (op : BinOp) (x y : Int) : 0 ≤ bits op IntKind.u32 x y ∧ bits op IntKind.u32 x y < 4294967296 := by
  unfold bits
  split <;> (try split) <;> (rw [IntKind.wrap_u32']; omega)
theorem wit32L_range (e : Nat → Int) (a b : Int) (pre : List (Fin 10)) : 0 ≤ wit32L e a b pre ∧ wit32L e a b pre < 4294967296 := by
  unfold wit32L
  have key : ∀ (l : List (Fin 10)) (acc : Int), (0 ≤ acc ∧ acc < 4294967296) → 0 ≤ List.foldl (fun acc x => if a ≤ (x.val : Int) ∧ (x.val : Int) < b then bits BinOp.or IntKind.u32 (acc * 256 % 4294967296) (e x.val) else acc) acc l ∧ List.foldl (fun acc x => if a ≤ (x.val : Int) ∧ (x.val : Int) < b then bits BinOp.or IntKind.u32 (acc * 256 % 4294967296) (e x.val) else acc) acc l < 4294967296 := by
    intro l
    induction l with
    | nil => intro acc h; exact h
    | cons x l ih =>
      intro acc h
      rw [List.foldl_cons]
      refine ih _ ?_
      split
      · exact bits_range _ _ _
      · exact h
  exact key pre 0 (by omega)
/-- The number in the last four bytes. -/
def wit (e : Nat → Int) : Int := wit32L e 6 10 (upto fin 10)
theorem wit_range (e : Nat → Int) : 0 ≤ wit e ∧ wit e < 4294967296 := wit32L_range e 6 10 _

theorem esiSegment_no1 (e : Nat → Int) (hbd : ∀ j, j < 10 → 0 ≤ e j ∧ e j < 256) (h : wit e - 1 < 0 ∨ 64 ≤ wit e - 1) (w : World) :
    Calls Try.prog 18 #[.agg #[.int .u8 (e 0), .int .u8 (e 1), .int .u8 (e 2), .int .u8 (e 3), .int .u8 (e 4), .int .u8 (e 5), .int .u8 (e 6), .int .u8 (e 7), .int .u8 (e 8), .int .u8 (e 9)]] w fun r w' => r = .returned (.tuple #[.int .i64 0, .bool false]) ∧ Below w.heap.size w w' := by
  obtain ⟨s, hs⟩ : ∃ s, wit e = s := ⟨_, rfl⟩
  have hr := wit_range e
  rw [hs] at h hr
  obtain ⟨g0, g1⟩ := hr
  have HS := Lib.hid hs; have HD := Lib.hid hbd; have HH := Lib.hid h
  clear hs hbd h
  go_enter Try.func18, Try.ntmps18
  go_wp2_with (go_at_call 33; refine (wit32_any e 6 10 HD.out _).mono ?_; rintro x w1 ⟨rfl, hb⟩; rw [show wit32L e 6 10 (upto fin 10) = s from HS.out]; obtain ⟨hc, hf⟩ := bcell hb)
  go_wp2_with (go_at_call 14; refine (segment_no (s - 1) HH.out _).mono ?_; rintro x w2 ⟨rfl, hb2⟩)
  go_ret2
  exact ⟨rfl, (((((Below.refl _ _).alloc (Nat.le_refl _) _).trans (hb.mono (by simp))).trans (hb2.mono (by have := hb.size; simp at this; omega))).alloc (by have := hb.size; have := hb2.size; simp at *; omega) _)⟩
theorem esiSegment_is (e : Nat → Int) (hbd : ∀ j, j < 10 → 0 ≤ e j ∧ e j < 256) (h0 : 0 ≤ wit e - 1) (h1 : wit e - 1 < 64) (b : Bool) (hq : eqE (segB (wit e)) e = b) (w : World) :
    Calls Try.prog 18 #[.agg #[.int .u8 (e 0), .int .u8 (e 1), .int .u8 (e 2), .int .u8 (e 3), .int .u8 (e 4), .int .u8 (e 5), .int .u8 (e 6), .int .u8 (e 7), .int .u8 (e 8), .int .u8 (e 9)]] w fun r w' => r = .returned (.tuple #[.int .i64 (if b then wit e - 1 else 0), .bool b]) ∧ Below w.heap.size w w' := by
  obtain ⟨s, hs⟩ : ∃ s, wit e = s := ⟨_, rfl⟩
  rw [hs] at h0 h1 hq ⊢
  have S := (St.start w).box10 e 34
  have HS := Lib.hid hs; have HD := Lib.hid hbd; have HQ := Lib.hid hq
  clear hs hbd hq
  have hqe := run_eqE (segB s) e
  rw [HQ.out] at hqe
  cases b
  all_goals
    go_enter Try.func18, Try.ntmps18
    go_wp2_with (go_at_call 33; refine (wit32_any e 6 10 HD.out _).mono ?_; rintro x w1 ⟨rfl, hb⟩; rw [show wit32L e 6 10 (upto fin 10) = s from HS.out]; replace S := S.below hb; clear hb)
    go_wp2_with (go_at_call 14; refine (segment_yes (s - 1) h0 h1 _).mono ?_; rintro x w2 ⟨rfl, hb2⟩; replace S := S.below hb2; clear hb2; have k := S.cells; have z := S.lts; simp only [Cells, Lts, and_true] at k z)
    go_ret2
    exact ⟨rfl, (S.alloc _).2⟩
end Go.Proofs.Ytogkkcbmopdbnaa
