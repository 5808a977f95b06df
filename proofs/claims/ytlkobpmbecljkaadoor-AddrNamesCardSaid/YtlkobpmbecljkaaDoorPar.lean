/- The four bytes of a number, one after the other: parts; the identifier of a segment. No condition. -/
import Derived.Test.YtlkobpmbecljkaaDoorOct
namespace Go.Proofs.YtlkobpmbecljkaaDoor
open Go.RowKit Go.Shelf
attribute [local go_sem] Oper.semAt_some
set_option linter.unusedVariables false

def fin4 (k : Nat) : Fin 4 := ⟨k % 4, Nat.mod_lt _ (by decide)⟩
theorem fin4_val {k : Nat} (h : k < 4) : (fin4 k).val = k := Nat.mod_eq_of_lt h
/-- Byte i of a number of four bytes, the most significant one first. -/
def byt (N : Int) (i : Nat) : Int := N / 2 ^ (8 * (3 - i)) % 256

theorem parts_any (N c : Int) (w : World) :
    Calls Tryd.prog 28 #[.int .u32 N, .int .i64 c] w fun x w' => x = .returned (.func (.func 44) #[] #[.pointer (some ⟨w.heap.size + 1, 0, none⟩), .pointer (some ⟨w.heap.size, 0, none⟩)]) ∧ (w.alloc (.cells #[.int .u32 N] 23)).alloc (.cells #[.int .i64 c] 3) = w' := by
  go_enter Tryd.func28, Tryd.ntmps28
  go_wp2
  go_ret
  exact ⟨rfl, rfl⟩

set_option maxRecDepth 100000 in
set_option maxHeartbeats 4000000 in
theorem parts1_in (F : Fence) (n : Nat) (h : F.fn 44) (hro : F.round = none) (hn : 1 ≤ n) (l B : Nat) (N : Int) (h0N : 0 ≤ N) (J Jx : List (Fin 4) → World → Prop) (Kp : World → World → Prop) (hKc : ∀ W W', Kp W W' → W'.cell? ⟨B, 0, none⟩ = W.cell? ⟨B, 0, none⟩ ∧ W'.cell? ⟨B + 1, 0, none⟩ = W.cell? ⟨B + 1, 0, none⟩)
    (hY : ∀ pre x W, J pre W → pre.length < 4 → YieldAt F (n - 1) Tryd.prog l #[.int .i64 (x.val : Int), .int .u8 (byt N x.val)] W fun r W' =>
      (r = .returned (.bool true) ∧ J (pre ++ [x]) W' ∧ Kp W W') ∨ (r = .returned (.bool false) ∧ Jx (pre ++ [x]) W'))
    (W : World) (hc : W.cell? ⟨B, 0, none⟩ = some (.int .u32 N)) (hc2 : W.cell? ⟨B + 1, 0, none⟩ = some (.int .i64 4)) (h0 : J [] W) :
    CallsIn F n Tryd.prog 44 #[.func (.yield l) #[] #[], .pointer (some ⟨B + 1, 0, none⟩), .pointer (some ⟨B, 0, none⟩)] W fun r W' => (∃ v, r = .returned v) ∧
      ((∃ ys, ys = upto fin4 4 ∧ J ys W') ∨ (∃ pre, (∃ k, k ≤ 4 ∧ pre = upto fin4 k) ∧ Jx pre W')) := by
  refine callsIn_of_wp Tryd.func44 rfl h ?_ hro
  simp only [Tryd.ntmps44, List.size_toArray, List.length_cons, List.length_nil, Nat.reduceAdd, Nat.reduceSub, Array.replicate_succ, Array.replicate_zero, List.push_toArray, List.append_toArray, List.nil_append, List.cons_append]
  gi_wp2
  gi_loopw [6] (fun i wr => ∃ k : Nat, k ≤ 4 ∧ i = .int .i64 k ∧ J (upto fin4 k) wr ∧ wr.cell? ⟨B, 0, none⟩ = some (.int .u32 N) ∧ wr.cell? ⟨B + 1, 0, none⟩ = some (.int .i64 4))
    (fun i _ => 4 - (intOf i).toNat)
  case atStart => exact ⟨0, Nat.zero_le _, rfl, h0, hc, hc2⟩
  case round =>
    obtain ⟨k, hk, rfl, hJs, kc, kc2⟩ := hrel
    clear hc hc2
    by_cases hlt : k < 4
    · obtain ⟨fn, tmps, assign, body, hy, hR⟩ := hY _ (fin4 k) wr hJs (by rw [upto_length]; exact hlt)
      simp only [fin4_val hlt] at hy
      obtain rfl | rfl | rfl | rfl : k = 0 ∨ k = 1 ∨ k = 2 ∨ k = 3 := by omega
      · simp [byt] at hy
        gi_wp2
        refine hR.mono ?_
        rintro r W3 (⟨rfl, hJ3, hk3⟩ | ⟨rfl, hJx3⟩)
        · have kc' := (hKc _ _ hk3).1.trans kc
          have kc2' := (hKc _ _ hk3).2.trans kc2
          gi_wp2
          go_roundw
          case rel => exact ⟨0 + 1, by omega, by simp, by rw [upto_succ]; exact hJ3, kc', kc2'⟩
          case measure => simp [intOf]
        · gi_wp2
          refine bodyPost_ret (results_none rfl _ _ _) rfl ?_
          exact ⟨⟨_, rfl⟩, .inr ⟨_, ⟨0 + 1, by omega, (upto_succ _ _).symm⟩, hJx3⟩⟩
      · simp [byt] at hy
        gi_wp2
        refine hR.mono ?_
        rintro r W3 (⟨rfl, hJ3, hk3⟩ | ⟨rfl, hJx3⟩)
        · have kc' := (hKc _ _ hk3).1.trans kc
          have kc2' := (hKc _ _ hk3).2.trans kc2
          gi_wp2
          go_roundw
          case rel => exact ⟨1 + 1, by omega, by simp, by rw [upto_succ]; exact hJ3, kc', kc2'⟩
          case measure => simp [intOf]
        · gi_wp2
          refine bodyPost_ret (results_none rfl _ _ _) rfl ?_
          exact ⟨⟨_, rfl⟩, .inr ⟨_, ⟨1 + 1, by omega, (upto_succ _ _).symm⟩, hJx3⟩⟩
      · simp [byt] at hy
        gi_wp2
        refine hR.mono ?_
        rintro r W3 (⟨rfl, hJ3, hk3⟩ | ⟨rfl, hJx3⟩)
        · have kc' := (hKc _ _ hk3).1.trans kc
          have kc2' := (hKc _ _ hk3).2.trans kc2
          gi_wp2
          go_roundw
          case rel => exact ⟨2 + 1, by omega, by simp, by rw [upto_succ]; exact hJ3, kc', kc2'⟩
          case measure => simp [intOf]
        · gi_wp2
          refine bodyPost_ret (results_none rfl _ _ _) rfl ?_
          exact ⟨⟨_, rfl⟩, .inr ⟨_, ⟨2 + 1, by omega, (upto_succ _ _).symm⟩, hJx3⟩⟩
      · simp [byt] at hy
        gi_wp2
        refine hR.mono ?_
        rintro r W3 (⟨rfl, hJ3, hk3⟩ | ⟨rfl, hJx3⟩)
        · have kc' := (hKc _ _ hk3).1.trans kc
          have kc2' := (hKc _ _ hk3).2.trans kc2
          gi_wp2
          go_roundw
          case rel => exact ⟨3 + 1, by omega, by simp, by rw [upto_succ]; exact hJ3, kc', kc2'⟩
          case measure => simp [intOf]
        · gi_wp2
          refine bodyPost_ret (results_none rfl _ _ _) rfl ?_
          exact ⟨⟨_, rfl⟩, .inr ⟨_, ⟨3 + 1, by omega, (upto_succ _ _).symm⟩, hJx3⟩⟩
    · obtain rfl : k = 4 := by omega
      gi_wp2
      go_end0
      exact ⟨⟨_, rfl⟩, .inl ⟨_, rfl, hJs⟩⟩

/-- The blocks from lo on, below hi, are as they were. -/
def Mid (lo hi : Nat) (W W' : World) : Prop := ∀ b, lo ≤ b → b < hi → W'.heap[b]? = W.heap[b]?
theorem mid_t {lo hi : Nat} {A B C : World} (h : Mid lo hi A B) (k : Mid lo hi B C) : Mid lo hi A C := fun b h1 h2 => (k b h1 h2).trans (h b h1 h2)
theorem mid_b {lo hi : Nat} {w : World} (hn : hi ≤ w.heap.size) (W : World) (l : Nat) (o o' : Obj) (hl : w.heap.size ≤ l) (_ : W.heap[l]? = some o) (_ : o.isCells = false) (_ : o.isWalk = false) : Mid lo hi W (W.putObj l o') :=
  fun b _ h2 => World.putObj_heap_other (by omega)
theorem mid_refl (lo hi : Nat) (W : World) : Mid lo hi W W := fun _ _ _ => rfl
theorem mid_set {lo hi : Nat} (W : World) (a : Addr) (v : Value) (h : a.block < lo) : Mid lo hi W (W.setCell a v) := fun b h1 _ => Below.heap_setCell _ _ _ _ (by omega)
theorem mid_cell {lo hi : Nat} {W W' : World} (h : Mid lo hi W W') {b o : Nat} (h1 : lo ≤ b) (h2 : b < hi) : W'.cell? ⟨b, o, none⟩ = W.cell? ⟨b, o, none⟩ := World.cell?_of_block (w := W) (a := ⟨b, o, none⟩) (h b h1 h2)

theorem parts_stops (F : Fence) (n : Nat) (h : F.fn 44) (hro : F.round = none) (hn : 1 ≤ n) (B : Nat) (N : Int) (h0N : 0 ≤ N) (w : World) (hB : B + 1 < w.heap.size)
    (hc : w.cell? ⟨B, 0, none⟩ = some (.int .u32 N)) (hc2 : w.cell? ⟨B + 1, 0, none⟩ = some (.int .i64 4)) :
    SeqStopsK F n Tryd.prog 44 #[.pointer (some ⟨B + 1, 0, none⟩), .pointer (some ⟨B, 0, none⟩)] (fun x : Fin 4 => #[Value.int .i64 (x.val : Int), Value.int .u8 (byt N x.val)]) (Mid B (B + 2)) (fun ys => ys = upto fin4 4)
      (fun pre => ∃ k, k ≤ 4 ∧ pre = upto fin4 k) 4 w := fun l J Jx W hW _ _ hY h0 =>
  parts1_in F n h hro hn l B N h0N J Jx (Mid B (B + 2)) (fun W W' hm => ⟨mid_cell hm (Nat.le_refl _) (by omega), mid_cell hm (by omega) (by omega)⟩) hY W ((hW.cell (p := ⟨B, 0, none⟩) (by simp; omega)).trans hc) ((hW.cell (p := ⟨B + 1, 0, none⟩) hB).trans hc2) h0

end Go.Proofs.YtlkobpmbecljkaaDoor
