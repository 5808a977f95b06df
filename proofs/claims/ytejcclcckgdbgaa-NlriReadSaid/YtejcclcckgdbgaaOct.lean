/- The bytes of an identifier, one after the other: octets. No condition. -/
import Derived.Test.YtejcclcckgdbgaaKit
import Derived.RangeFuncNested
import Derived.RangeFuncBound
import Derived.RangeFuncCalls
import Derived.RangeFuncLeaves
import Derived.RangeFuncBox
import Derived.Shelf.Abstract
import Derived.Shelf.RegionOpen
import Derived.OwnWalkIn
import Derived.TacticsInMore
import Derived.LoopNIn
import Derived.LoopIn
namespace Go.Proofs.Ytejcclcckgdbgaa
open Go.RowKit Go.Shelf
attribute [local go_sem] Oper.semAt_some

/-- What has come when k rounds are over. -/
def upto {α : Type} (f : Nat → α) (k : Nat) : List α := (List.range k).map f
theorem upto_succ {α : Type} (f : Nat → α) (k : Nat) : upto f (k + 1) = upto f k ++ [f k] := by simp [upto, List.range_succ]
theorem upto_length {α : Type} (f : Nat → α) (k : Nat) : (upto f k).length = k := by simp [upto]

def fin (k : Nat) : Fin 10 := ⟨k % 10, Nat.mod_lt _ (by decide)⟩
theorem fin_val {k : Nat} (h : k < 10) : (fin k).val = k := Nat.mod_eq_of_lt h

theorem octets_any (e : Nat → Int) (w : World) :
    Calls Try.prog 69 #[.agg #[.int .u8 (e 0), .int .u8 (e 1), .int .u8 (e 2), .int .u8 (e 3), .int .u8 (e 4), .int .u8 (e 5), .int .u8 (e 6), .int .u8 (e 7), .int .u8 (e 8), .int .u8 (e 9)]] w fun x w' => x = .returned (.func (.func 80) #[] #[.pointer (some ⟨w.heap.size, 0, none⟩)]) ∧ w.alloc (.cells #[.int .u8 (e 0), .int .u8 (e 1), .int .u8 (e 2), .int .u8 (e 3), .int .u8 (e 4), .int .u8 (e 5), .int .u8 (e 6), .int .u8 (e 7), .int .u8 (e 8), .int .u8 (e 9)] 31) = w' := by
  go_enter Try.func69, Try.ntmps69
  go_wp2
  go_ret
  exact ⟨rfl, rfl⟩

set_option maxRecDepth 100000 in
set_option maxHeartbeats 4000000 in
theorem octets1_in (F : Fence) (n : Nat) (h : F.fn 80) (hro : F.round = none) (hn : 1 ≤ n) (l B n₀ : Nat) (e : Nat → Int) (J Jx : List (Fin 10) → World → Prop)
    (hY : ∀ pre x W, J pre W → pre.length < 10 → YieldAt F (n - 1) Try.prog l #[.int .i64 (x.val : Int), .int .u8 (e x.val)] W fun r W' =>
      (r = .returned (.bool true) ∧ J (pre ++ [x]) W' ∧ Below n₀ W W') ∨ (r = .returned (.bool false) ∧ Jx (pre ++ [x]) W'))
    (W : World) (hc : ∀ j, j < 10 → W.cell? ⟨B, j, none⟩ = some (.int .u8 (e j))) (h0 : J [] W) :
    CallsIn F n Try.prog 80 #[.func (.yield l) #[] #[], .pointer (some ⟨B, 0, none⟩)] W fun r W' => (∃ v, r = .returned v) ∧
      ((∃ ys, ys = upto fin 10 ∧ J ys W') ∨ (∃ pre, (∃ k, k ≤ 10 ∧ pre = upto fin k) ∧ Jx pre W')) := by
  have c0 := hc 0 (by decide)
  have c1 := hc 1 (by decide)
  have c2 := hc 2 (by decide)
  have c3 := hc 3 (by decide)
  have c4 := hc 4 (by decide)
  have c5 := hc 5 (by decide)
  have c6 := hc 6 (by decide)
  have c7 := hc 7 (by decide)
  have c8 := hc 8 (by decide)
  have c9 := hc 9 (by decide)
  clear hc
  refine callsIn_of_wp Try.func80 rfl h ?_ hro
  simp only [Try.ntmps80, List.size_toArray, List.length_cons, List.length_nil, Nat.reduceAdd, Nat.reduceSub, Array.replicate_succ, Array.replicate_zero, List.push_toArray, List.append_toArray, List.nil_append, List.cons_append]
  gi_wp2
  gi_loopw [6] (fun i wr => ∃ k : Nat, k ≤ 10 ∧ i = .int .i64 k ∧ J (upto fin k) wr)
    (fun i _ => 10 - (intOf i).toNat)
  case atStart => exact ⟨0, Nat.zero_le _, rfl, h0⟩
  case round =>
    obtain ⟨k, hk, rfl, hJs⟩ := hrel
    clear c0 c1 c2 c3 c4 c5 c6 c7 c8 c9
    by_cases hlt : k < 10
    · obtain ⟨fn, tmps, assign, body, hy, hR⟩ := hY _ (fin k) wr hJs (by rw [upto_length]; exact hlt)
      simp only [fin_val hlt] at hy
      have hix : ∀ w, (Instr.index 31 (.agg #[.int .u8 (e 0), .int .u8 (e 1), .int .u8 (e 2), .int .u8 (e 3), .int .u8 (e 4), .int .u8 (e 5), .int .u8 (e 6), .int .u8 (e 7), .int .u8 (e 8), .int .u8 (e 9)]) (.int .i64 (k : Int))).run Try.prog w = .ok (.int .u8 (e k)) w := by
        intro w
        rcases k with _ | _ | _ | _ | _ | _ | _ | _ | _ | _ | k
        all_goals first | omega | (exact (by as_aux_lemma => kernel_rfl))
      gi_wp2
      refine hR.mono ?_
      rintro r W3 (⟨rfl, hJ3, hk3⟩ | ⟨rfl, hJx3⟩)
      · gi_wp2
        go_roundw
        case rel => exact ⟨k + 1, by omega, by simp, by rw [upto_succ]; exact hJ3⟩
        case measure => simp [intOf]; omega
      · gi_wp2
        refine bodyPost_ret (results_none rfl _ _ _) rfl ?_
        exact ⟨⟨_, rfl⟩, .inr ⟨_, ⟨k + 1, by omega, (upto_succ _ _).symm⟩, hJx3⟩⟩
    · obtain rfl : k = 10 := by omega
      gi_wp2
      go_end0
      exact ⟨⟨_, rfl⟩, .inl ⟨_, rfl, hJs⟩⟩

theorem octets_stops (F : Fence) (n : Nat) (h : F.fn 80) (hro : F.round = none) (hn : 1 ≤ n) (B n₀ : Nat) (e : Nat → Int) (w : World) (hB : B < w.heap.size)
    (hc : ∀ j, j < 10 → w.cell? ⟨B, j, none⟩ = some (.int .u8 (e j))) :
    SeqStopsK F n Try.prog 80 #[.pointer (some ⟨B, 0, none⟩)] (fun x : Fin 10 => #[Value.int .i64 (x.val : Int), Value.int .u8 (e x.val)]) (Below n₀) (fun ys => ys = upto fin 10)
      (fun pre => ∃ k, k ≤ 10 ∧ pre = upto fin k) 10 w := fun l J Jx W hW _ _ hY h0 =>
  octets1_in F n h hro hn l B n₀ e J Jx hY W (fun j hj => (hW.cell (p := ⟨B, j, none⟩) hB).trans (hc j hj)) h0
end Go.Proofs.Ytejcclcckgdbgaa
