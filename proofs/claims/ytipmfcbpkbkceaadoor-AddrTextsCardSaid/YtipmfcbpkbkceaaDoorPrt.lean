/- The bytes of a number, one after the other: parts, at each of its types. No condition. -/
import Derived.Test.YtipmfcbpkbkceaaDoorOct
namespace Go.Proofs.YtipmfcbpkbkceaaDoor
open Go.RowKit Go.Shelf
attribute [local go_sem] Oper.semAt_some
set_option linter.unusedVariables false
set_option linter.unusedSimpArgs false

def finIP (k : Nat) : Fin 4 := ⟨k % 4, Nat.mod_lt _ (by decide)⟩
theorem finIP_val {k : Nat} (h : k < 4) : (finIP k).val = k := Nat.mod_eq_of_lt h
/-- Byte i of a number of 4 bytes, the most significant one first. -/
def bytIP (N : Int) (i : Nat) : Int := N / 2 ^ (8 * (3 - i)) % 256

theorem partsIP_any (N c : Int) (w : World) :
    Calls Tryd.prog 20 #[.int .u32 N, .int .i64 c] w fun x w' => x = .returned (.func (.func 36) #[] #[.pointer (some ⟨w.heap.size + 1, 0, none⟩), .pointer (some ⟨w.heap.size, 0, none⟩)]) ∧ (w.alloc (.cells #[.int .u32 N] 23)).alloc (.cells #[.int .i64 c] 3) = w' := by
  go_enter Tryd.func20, Tryd.ntmps20
  go_wp2
  go_ret
  exact ⟨rfl, rfl⟩

set_option maxRecDepth 100000 in
set_option maxHeartbeats 8000000 in
theorem partsIP1_in (F : Fence) (n : Nat) (h : F.fn 36) (hro : F.round = none) (hn : 1 ≤ n) (l B : Nat) (N : Int) (h0N : 0 ≤ N) (J Jx : List (Fin 4) → World → Prop) (Kp : World → World → Prop) (hKc : ∀ W W', Kp W W' → W'.cell? ⟨B, 0, none⟩ = W.cell? ⟨B, 0, none⟩ ∧ W'.cell? ⟨B + 1, 0, none⟩ = W.cell? ⟨B + 1, 0, none⟩)
    (hY : ∀ pre x W, J pre W → pre.length < 4 → YieldAt F (n - 1) Tryd.prog l #[.int .i64 (x.val : Int), .int .u8 (bytIP N x.val)] W fun r W' =>
      (r = .returned (.bool true) ∧ J (pre ++ [x]) W' ∧ Kp W W') ∨ (r = .returned (.bool false) ∧ Jx (pre ++ [x]) W'))
    (W : World) (hc : W.cell? ⟨B, 0, none⟩ = some (.int .u32 N)) (hc2 : W.cell? ⟨B + 1, 0, none⟩ = some (.int .i64 4)) (h0 : J [] W) :
    CallsIn F n Tryd.prog 36 #[.func (.yield l) #[] #[], .pointer (some ⟨B + 1, 0, none⟩), .pointer (some ⟨B, 0, none⟩)] W fun r W' => (∃ v, r = .returned v) ∧
      ((∃ ys, ys = upto finIP 4 ∧ J ys W') ∨ (∃ pre, (∃ k, k ≤ 4 ∧ pre = upto finIP k) ∧ Jx pre W')) := by
  refine callsIn_of_wp Tryd.func36 rfl h ?_ hro
  simp only [Tryd.ntmps36, List.size_toArray, List.length_cons, List.length_nil, Nat.reduceAdd, Nat.reduceSub, Array.replicate_succ, Array.replicate_zero, List.push_toArray, List.append_toArray, List.nil_append, List.cons_append]
  gi_wp2
  gi_loopw [6] (fun i wr => ∃ k : Nat, k ≤ 4 ∧ i = .int .i64 k ∧ J (upto finIP k) wr ∧ wr.cell? ⟨B, 0, none⟩ = some (.int .u32 N) ∧ wr.cell? ⟨B + 1, 0, none⟩ = some (.int .i64 4))
    (fun i _ => 4 - (intOf i).toNat)
  case atStart => exact ⟨0, Nat.zero_le _, rfl, h0, hc, hc2⟩
  case round =>
    obtain ⟨k, hk, rfl, hJs, kc, kc2⟩ := hrel
    clear hc hc2
    by_cases hlt : k < 4
    · obtain ⟨fn, tmps, assign, body, hy, hR⟩ := hY _ (finIP k) wr hJs (by rw [upto_length]; exact hlt)
      simp only [finIP_val hlt] at hy
      obtain rfl | rfl | rfl | rfl : k = 0 ∨ k = 1 ∨ k = 2 ∨ k = 3 := by omega
      · simp [bytIP] at hy
        gi_wp2
        refine hR.mono ?_
        rintro r W3 (⟨rfl, hJ3, hk3⟩ | ⟨rfl, hJx3⟩)
        · have kc' := (hKc _ _ hk3).1.trans kc
          have kc2' := (hKc _ _ hk3).2.trans kc2
          gi_wp2
          go_roundw
          case rel => exact ⟨0 + 1, by omega, by simp, by rw [upto_succ]; exact hJ3, kc', kc2'⟩
          case measure => simp [intOf]
        · gi_wp2
          refine bodyPost_ret (results_none rfl _ _ _) rfl ?_
          exact ⟨⟨_, rfl⟩, .inr ⟨_, ⟨0 + 1, by omega, (upto_succ _ _).symm⟩, hJx3⟩⟩
      · simp [bytIP] at hy
        gi_wp2
        refine hR.mono ?_
        rintro r W3 (⟨rfl, hJ3, hk3⟩ | ⟨rfl, hJx3⟩)
        · have kc' := (hKc _ _ hk3).1.trans kc
          have kc2' := (hKc _ _ hk3).2.trans kc2
          gi_wp2
          go_roundw
          case rel => exact ⟨1 + 1, by omega, by simp, by rw [upto_succ]; exact hJ3, kc', kc2'⟩
          case measure => simp [intOf]
        · gi_wp2
          refine bodyPost_ret (results_none rfl _ _ _) rfl ?_
          exact ⟨⟨_, rfl⟩, .inr ⟨_, ⟨1 + 1, by omega, (upto_succ _ _).symm⟩, hJx3⟩⟩
      · simp [bytIP] at hy
        gi_wp2
        refine hR.mono ?_
        rintro r W3 (⟨rfl, hJ3, hk3⟩ | ⟨rfl, hJx3⟩)
        · have kc' := (hKc _ _ hk3).1.trans kc
          have kc2' := (hKc _ _ hk3).2.trans kc2
          gi_wp2
          go_roundw
          case rel => exact ⟨2 + 1, by omega, by simp, by rw [upto_succ]; exact hJ3, kc', kc2'⟩
          case measure => simp [intOf]
        · gi_wp2
          refine bodyPost_ret (results_none rfl _ _ _) rfl ?_
          exact ⟨⟨_, rfl⟩, .inr ⟨_, ⟨2 + 1, by omega, (upto_succ _ _).symm⟩, hJx3⟩⟩
      · simp [bytIP] at hy
        gi_wp2
        refine hR.mono ?_
        rintro r W3 (⟨rfl, hJ3, hk3⟩ | ⟨rfl, hJx3⟩)
        · have kc' := (hKc _ _ hk3).1.trans kc
          have kc2' := (hKc _ _ hk3).2.trans kc2
          gi_wp2
          go_roundw
          case rel => exact ⟨3 + 1, by omega, by simp, by rw [upto_succ]; exact hJ3, kc', kc2'⟩
          case measure => simp [intOf]
        · gi_wp2
          refine bodyPost_ret (results_none rfl _ _ _) rfl ?_
          exact ⟨⟨_, rfl⟩, .inr ⟨_, ⟨3 + 1, by omega, (upto_succ _ _).symm⟩, hJx3⟩⟩
    · obtain rfl : k = 4 := by omega
      gi_wp2
      go_end0
      exact ⟨⟨_, rfl⟩, .inl ⟨_, rfl, hJs⟩⟩

theorem partsIP_stops (F : Fence) (n : Nat) (h : F.fn 36) (hro : F.round = none) (hn : 1 ≤ n) (B n₀ : Nat) (N : Int) (h0N : 0 ≤ N) (w : World) (hB : B + 1 < n₀) (hn₀ : n₀ ≤ w.heap.size)
    (hc : w.cell? ⟨B, 0, none⟩ = some (.int .u32 N)) (hc2 : w.cell? ⟨B + 1, 0, none⟩ = some (.int .i64 4)) :
    SeqStopsK F n Tryd.prog 36 #[.pointer (some ⟨B + 1, 0, none⟩), .pointer (some ⟨B, 0, none⟩)] (fun x : Fin 4 => #[Value.int .i64 (x.val : Int), Value.int .u8 (bytIP N x.val)]) (Below n₀) (fun ys => ys = upto finIP 4)
      (fun pre => ∃ k, k ≤ 4 ∧ pre = upto finIP k) 4 w := fun l J Jx W hW _ _ hY h0 =>
  partsIP1_in F n h hro hn l B N h0N J Jx (Below n₀) (fun W W' hm => ⟨hm.cell (p := ⟨B, 0, none⟩) (by simp; omega), hm.cell (p := ⟨B + 1, 0, none⟩) hB⟩) hY W ((hW.cell (p := ⟨B, 0, none⟩) (by simp; omega)).trans hc) ((hW.cell (p := ⟨B + 1, 0, none⟩) (by simp; omega)).trans hc2) h0

def finMAC (k : Nat) : Fin 6 := ⟨k % 6, Nat.mod_lt _ (by decide)⟩
theorem finMAC_val {k : Nat} (h : k < 6) : (finMAC k).val = k := Nat.mod_eq_of_lt h
/-- Byte i of a number of 6 bytes, the most significant one first. -/
def bytMAC (N : Int) (i : Nat) : Int := N / 2 ^ (8 * (5 - i)) % 256

theorem partsMAC_any (N c : Int) (w : World) :
    Calls Tryd.prog 27 #[.int .u64 N, .int .i64 c] w fun x w' => x = .returned (.func (.func 39) #[] #[.pointer (some ⟨w.heap.size + 1, 0, none⟩), .pointer (some ⟨w.heap.size, 0, none⟩)]) ∧ (w.alloc (.cells #[.int .u64 N] 25)).alloc (.cells #[.int .i64 c] 3) = w' := by
  go_enter Tryd.func27, Tryd.ntmps27
  go_wp2
  go_ret
  exact ⟨rfl, rfl⟩

set_option maxRecDepth 100000 in
set_option maxHeartbeats 8000000 in
theorem partsMAC1_in (F : Fence) (n : Nat) (h : F.fn 39) (hro : F.round = none) (hn : 1 ≤ n) (l B : Nat) (N : Int) (h0N : 0 ≤ N) (J Jx : List (Fin 6) → World → Prop) (Kp : World → World → Prop) (hKc : ∀ W W', Kp W W' → W'.cell? ⟨B, 0, none⟩ = W.cell? ⟨B, 0, none⟩ ∧ W'.cell? ⟨B + 1, 0, none⟩ = W.cell? ⟨B + 1, 0, none⟩)
    (hY : ∀ pre x W, J pre W → pre.length < 6 → YieldAt F (n - 1) Tryd.prog l #[.int .i64 (x.val : Int), .int .u8 (bytMAC N x.val)] W fun r W' =>
      (r = .returned (.bool true) ∧ J (pre ++ [x]) W' ∧ Kp W W') ∨ (r = .returned (.bool false) ∧ Jx (pre ++ [x]) W'))
    (W : World) (hc : W.cell? ⟨B, 0, none⟩ = some (.int .u64 N)) (hc2 : W.cell? ⟨B + 1, 0, none⟩ = some (.int .i64 6)) (h0 : J [] W) :
    CallsIn F n Tryd.prog 39 #[.func (.yield l) #[] #[], .pointer (some ⟨B + 1, 0, none⟩), .pointer (some ⟨B, 0, none⟩)] W fun r W' => (∃ v, r = .returned v) ∧
      ((∃ ys, ys = upto finMAC 6 ∧ J ys W') ∨ (∃ pre, (∃ k, k ≤ 6 ∧ pre = upto finMAC k) ∧ Jx pre W')) := by
  refine callsIn_of_wp Tryd.func39 rfl h ?_ hro
  simp only [Tryd.ntmps39, List.size_toArray, List.length_cons, List.length_nil, Nat.reduceAdd, Nat.reduceSub, Array.replicate_succ, Array.replicate_zero, List.push_toArray, List.append_toArray, List.nil_append, List.cons_append]
  gi_wp2
  gi_loopw [6] (fun i wr => ∃ k : Nat, k ≤ 6 ∧ i = .int .i64 k ∧ J (upto finMAC k) wr ∧ wr.cell? ⟨B, 0, none⟩ = some (.int .u64 N) ∧ wr.cell? ⟨B + 1, 0, none⟩ = some (.int .i64 6))
    (fun i _ => 6 - (intOf i).toNat)
  case atStart => exact ⟨0, Nat.zero_le _, rfl, h0, hc, hc2⟩
  case round =>
    obtain ⟨k, hk, rfl, hJs, kc, kc2⟩ := hrel
    clear hc hc2
    by_cases hlt : k < 6
    · obtain ⟨fn, tmps, assign, body, hy, hR⟩ := hY _ (finMAC k) wr hJs (by rw [upto_length]; exact hlt)
      simp only [finMAC_val hlt] at hy
      obtain rfl | rfl | rfl | rfl | rfl | rfl : k = 0 ∨ k = 1 ∨ k = 2 ∨ k = 3 ∨ k = 4 ∨ k = 5 := by omega
      · simp [bytMAC] at hy
        gi_wp2
        refine hR.mono ?_
        rintro r W3 (⟨rfl, hJ3, hk3⟩ | ⟨rfl, hJx3⟩)
        · have kc' := (hKc _ _ hk3).1.trans kc
          have kc2' := (hKc _ _ hk3).2.trans kc2
          gi_wp2
          go_roundw
          case rel => exact ⟨0 + 1, by omega, by simp, by rw [upto_succ]; exact hJ3, kc', kc2'⟩
          case measure => simp [intOf]
        · gi_wp2
          refine bodyPost_ret (results_none rfl _ _ _) rfl ?_
          exact ⟨⟨_, rfl⟩, .inr ⟨_, ⟨0 + 1, by omega, (upto_succ _ _).symm⟩, hJx3⟩⟩
      · simp [bytMAC] at hy
        gi_wp2
        refine hR.mono ?_
        rintro r W3 (⟨rfl, hJ3, hk3⟩ | ⟨rfl, hJx3⟩)
        · have kc' := (hKc _ _ hk3).1.trans kc
          have kc2' := (hKc _ _ hk3).2.trans kc2
          gi_wp2
          go_roundw
          case rel => exact ⟨1 + 1, by omega, by simp, by rw [upto_succ]; exact hJ3, kc', kc2'⟩
          case measure => simp [intOf]
        · gi_wp2
          refine bodyPost_ret (results_none rfl _ _ _) rfl ?_
          exact ⟨⟨_, rfl⟩, .inr ⟨_, ⟨1 + 1, by omega, (upto_succ _ _).symm⟩, hJx3⟩⟩
      · simp [bytMAC] at hy
        gi_wp2
        refine hR.mono ?_
        rintro r W3 (⟨rfl, hJ3, hk3⟩ | ⟨rfl, hJx3⟩)
        · have kc' := (hKc _ _ hk3).1.trans kc
          have kc2' := (hKc _ _ hk3).2.trans kc2
          gi_wp2
          go_roundw
          case rel => exact ⟨2 + 1, by omega, by simp, by rw [upto_succ]; exact hJ3, kc', kc2'⟩
          case measure => simp [intOf]
        · gi_wp2
          refine bodyPost_ret (results_none rfl _ _ _) rfl ?_
          exact ⟨⟨_, rfl⟩, .inr ⟨_, ⟨2 + 1, by omega, (upto_succ _ _).symm⟩, hJx3⟩⟩
      · simp [bytMAC] at hy
        gi_wp2
        refine hR.mono ?_
        rintro r W3 (⟨rfl, hJ3, hk3⟩ | ⟨rfl, hJx3⟩)
        · have kc' := (hKc _ _ hk3).1.trans kc
          have kc2' := (hKc _ _ hk3).2.trans kc2
          gi_wp2
          go_roundw
          case rel => exact ⟨3 + 1, by omega, by simp, by rw [upto_succ]; exact hJ3, kc', kc2'⟩
          case measure => simp [intOf]
        · gi_wp2
          refine bodyPost_ret (results_none rfl _ _ _) rfl ?_
          exact ⟨⟨_, rfl⟩, .inr ⟨_, ⟨3 + 1, by omega, (upto_succ _ _).symm⟩, hJx3⟩⟩
      · simp [bytMAC] at hy
        gi_wp2
        refine hR.mono ?_
        rintro r W3 (⟨rfl, hJ3, hk3⟩ | ⟨rfl, hJx3⟩)
        · have kc' := (hKc _ _ hk3).1.trans kc
          have kc2' := (hKc _ _ hk3).2.trans kc2
          gi_wp2
          go_roundw
          case rel => exact ⟨4 + 1, by omega, by simp, by rw [upto_succ]; exact hJ3, kc', kc2'⟩
          case measure => simp [intOf]
        · gi_wp2
          refine bodyPost_ret (results_none rfl _ _ _) rfl ?_
          exact ⟨⟨_, rfl⟩, .inr ⟨_, ⟨4 + 1, by omega, (upto_succ _ _).symm⟩, hJx3⟩⟩
      · simp [bytMAC] at hy
        gi_wp2
        refine hR.mono ?_
        rintro r W3 (⟨rfl, hJ3, hk3⟩ | ⟨rfl, hJx3⟩)
        · have kc' := (hKc _ _ hk3).1.trans kc
          have kc2' := (hKc _ _ hk3).2.trans kc2
          gi_wp2
          go_roundw
          case rel => exact ⟨5 + 1, by omega, by simp, by rw [upto_succ]; exact hJ3, kc', kc2'⟩
          case measure => simp [intOf]
        · gi_wp2
          refine bodyPost_ret (results_none rfl _ _ _) rfl ?_
          exact ⟨⟨_, rfl⟩, .inr ⟨_, ⟨5 + 1, by omega, (upto_succ _ _).symm⟩, hJx3⟩⟩
    · obtain rfl : k = 6 := by omega
      gi_wp2
      go_end0
      exact ⟨⟨_, rfl⟩, .inl ⟨_, rfl, hJs⟩⟩

theorem partsMAC_stops (F : Fence) (n : Nat) (h : F.fn 39) (hro : F.round = none) (hn : 1 ≤ n) (B n₀ : Nat) (N : Int) (h0N : 0 ≤ N) (w : World) (hB : B + 1 < n₀) (hn₀ : n₀ ≤ w.heap.size)
    (hc : w.cell? ⟨B, 0, none⟩ = some (.int .u64 N)) (hc2 : w.cell? ⟨B + 1, 0, none⟩ = some (.int .i64 6)) :
    SeqStopsK F n Tryd.prog 39 #[.pointer (some ⟨B + 1, 0, none⟩), .pointer (some ⟨B, 0, none⟩)] (fun x : Fin 6 => #[Value.int .i64 (x.val : Int), Value.int .u8 (bytMAC N x.val)]) (Below n₀) (fun ys => ys = upto finMAC 6)
      (fun pre => ∃ k, k ≤ 6 ∧ pre = upto finMAC k) 6 w := fun l J Jx W hW _ _ hY h0 =>
  partsMAC1_in F n h hro hn l B N h0N J Jx (Below n₀) (fun W W' hm => ⟨hm.cell (p := ⟨B, 0, none⟩) (by simp; omega), hm.cell (p := ⟨B + 1, 0, none⟩) hB⟩) hY W ((hW.cell (p := ⟨B, 0, none⟩) (by simp; omega)).trans hc) ((hW.cell (p := ⟨B + 1, 0, none⟩) (by simp; omega)).trans hc2) h0
end Go.Proofs.YtipmfcbpkbkceaaDoor
