/- pieces: an iterator over the pieces. No condition. -/
import Derived.Test.YtejcclcckgdbgaaNRp
import Derived.Test.YtejcclcckgdbgaaOct
namespace Go.Proofs.Ytejcclcckgdbgaa
open Go.RowKit Go.Shelf
set_option linter.unusedVariables false
set_option linter.unusedSimpArgs false
set_option maxRecDepth 100000
attribute [local go_sem] Oper.semAt_some

/-- Where the piece at an offset ends. -/
def pEnd (xs : List Int) (at_ : Nat) : Nat := if (xs.length : Int) - at_ < 2 then xs.length else min xs.length (at_ + 2 + (xs.getD (at_ + 1) 0).toNat)
theorem pEnd_le (xs : List Int) (k : Nat) : pEnd xs k ≤ xs.length := by
  unfold pEnd
  split <;> omega
theorem pEnd_gt (xs : List Int) (k : Nat) (h : k < xs.length) : k < pEnd xs k := by
  unfold pEnd
  split
  · exact h
  · omega
/-- The slice of a piece. -/
def pv (v : Value) (i j : Nat) : Value := match v with
  | .slice a len cap => sliced a i j cap 1
  | v => v
theorem pv_is {w : World} {v : Value} {xs : List Int} (h : Seg w v xs) (i j : Nat) (hij : i ≤ j) (hj : j ≤ xs.length) : (∀ w', (Instr.slice 23 v (some (.int .i64 i)) (some (.int .i64 j)) none).run Try.prog w' = .ok (pv v i j) w') ∧ Seg w (pv v i j) ((xs.drop i).take (j - i)) := by
  have hl : ((xs.drop i).take (j - i)).length = j - i := by simp; omega
  obtain ⟨a, c, rfl, hc, hx⟩ := h
  refine ⟨fun w' => ?_, ?_⟩
  · have ht : Try.prog.underlying 23 = some (.slice (Try.prog.elem 23)) := by rw [elem_bytes]; exact Try.underlying23
    have es : (sizeOf (Try.prog.elem 23)).run Try.prog w' = .ok 1 w' := by rw [elem_bytes]; exact Try.sizeOf5 w'
    rw [run_slice_lh w' _ _ _ _ ht .i64 .i64 _ _ (by omega) (by omega) (by omega), es]
    rfl
  · by_cases h0 : i = j
    · subst h0
      refine ⟨(if c = i then a else a.map fun x => x.add (i * 1)), c - i, by rw [hl]; simp [pv, sliced], by rw [hl]; omega, fun k hk => ?_⟩
      rw [hl] at hk
      omega
    · obtain ⟨b, o, rfl, -⟩ := hx 0 (by omega)
      have hcj : ¬ c = i := by omega
      refine ⟨some ⟨b, o + i, none⟩, c - i, ?_, by rw [hl]; omega, fun k hk => ⟨b, o + i, rfl, ?_⟩⟩
      · rw [hl]
        simp only [pv, sliced, if_neg hcj, Option.map_some, Nat.mul_one]
        rw [add_is]
      · rw [hl] at hk
        obtain ⟨b', o', e, hcell⟩ := hx (i + k) (by omega)
        injection e with e
        injection e with e1 e2
        subst e1 e2
        rw [getD_part _ _ _ _ hk, Nat.add_assoc]
        exact hcell
/-- Offsets. -/
def ofs (xs : List Int) : Nat → Nat
  | 0 => 0
  | k + 1 => pEnd xs (ofs xs k)
theorem ofs_ge (xs : List Int) : ∀ k, (∀ j, j < k → ofs xs j < xs.length) → k ≤ ofs xs k
  | 0, _ => Nat.zero_le _
  | k + 1, h => by
    have h1 := ofs_ge xs k fun j hj => h j (by omega)
    have h2 := pEnd_gt xs (ofs xs k) (h k (by omega))
    show k + 1 ≤ pEnd xs (ofs xs k)
    omega
theorem ofs_le (xs : List Int) (k : Nat) : ofs xs k ≤ xs.length := by
  cases k with
  | zero => exact Nat.zero_le _
  | succ k => exact pEnd_le xs _
set_option maxHeartbeats 2000000 in
theorem pieceEnd_is (xs : List Int) (ho : Oct xs) (k : Nat) (hk : k < xs.length) (hl : xs.length ≤ 1099511627776) (v : Value) (w : World) (h : Seg w v xs) : Calls Try.prog 57 #[v, .int .i64 k] w fun r w' => r = .returned (.int .i64 (pEnd xs k)) ∧ w' = w := by
  obtain ⟨a, c, rfl, hc, hx⟩ := h
  by_cases h2 : (xs.length : Int) - k < 2
  · have e : pEnd xs k = xs.length := by unfold pEnd; rw [if_pos h2]
    rw [e]
    go_enter Try.func57, Try.ntmps57
    go_wp2
    go_ret
    exact ⟨rfl, rfl⟩
  · obtain ⟨b, o, rfl, hcell⟩ := hx (k + 1) (by omega)
    have hob := ho.getD (k + 1)
    have e : ((pEnd xs k : Nat) : Int) = min (xs.length : Int) ((k : Int) + 2 + xs.getD (k + 1) 0) := by
      unfold pEnd
      rw [if_neg h2]
      omega
    rw [e]
    generalize xs.getD (k + 1) 0 = y at hcell hob
    obtain ⟨q0, q1⟩ := hob
    have hlt : ((k : Int) + 1) < xs.length := by omega
    go_enter Try.func57, Try.ntmps57
    go_wp2
    go_ret
    exact ⟨rfl, rfl⟩
end Go.Proofs.Ytejcclcckgdbgaa
namespace Go.Proofs.Ytejcclcckgdbgaa
open Go.RowKit Go.Shelf
set_option linter.unusedVariables false
set_option linter.unusedSimpArgs false
set_option maxRecDepth 100000
attribute [local go_sem] Oper.semAt_some

/-- The blocks below lo, and block B, are kept. -/
def Keep (lo B : Nat) (W W' : World) : Prop := ∀ k, k < lo ∨ k = B → W'.heap[k]? = W.heap[k]?
theorem Keep.refl (lo B : Nat) (W : World) : Keep lo B W W := fun _ _ => rfl
theorem Keep.trans {lo B : Nat} {A C D : World} (h : Keep lo B A C) (k : Keep lo B C D) : Keep lo B A D := fun i hi => (k i hi).trans (h i hi)
theorem Keep.cell {lo B : Nat} {W W' : World} (h : Keep lo B W W') (o : Nat) : W'.cell? ⟨B, o, none⟩ = W.cell? ⟨B, o, none⟩ := World.cell?_of_block (w := W) (a := ⟨B, o, none⟩) (h B (.inr rfl))
theorem keep_b {lo B : Nat} {w : World} (hlo : lo ≤ w.heap.size) (hB : B < w.heap.size) (W : World) (l : Nat) (o o' : Obj) (hl : w.heap.size ≤ l) (h : W.heap[l]? = some o) (_ : o.isCells = false) (_ : o.isWalk = false) : Keep lo B W (W.putObj l o') :=
  fun k hk => World.putObj_heap_other (by omega)
theorem Seg.keep {w W : World} {v : Value} {xs : List Int} {lo : Nat} (h : Seg w v xs) (hlo : w.heap.size ≤ lo) (k : ∀ i, i < lo → W.heap[i]? = w.heap[i]?) : Seg W v xs := by
  obtain ⟨a, c, rfl, hc, hx⟩ := h
  refine ⟨a, c, rfl, hc, fun i hi => ?_⟩
  obtain ⟨b, o, e, hcell⟩ := hx i hi
  have hb := block_lt_of_cell hcell
  exact ⟨b, o, e, (World.cell?_of_block (w := w) (w' := W) (a := ⟨b, o + i, none⟩) (k b (by simpa using Nat.lt_of_lt_of_le hb hlo))).trans hcell⟩

theorem pieces_any (v : Value) (w : World) (hv : v.oneCell' = true) (hv2 : v.cells = #[v]) :
    Calls Try.prog 33 #[v] w fun x w' => x = .returned (.func (.func 56) #[] #[.pointer (some ⟨w.heap.size, 0, none⟩)]) ∧ w.alloc (.cells #[v] 23) = w' := by
  go_enter Try.func33, Try.ntmps33
  go_wp2
  go_ret
  exact ⟨rfl, rfl⟩

set_option maxHeartbeats 4000000 in
theorem pieces1_in (n : Nat) (hn : 1 ≤ n) (l lo B : Nat) (xs : List Int) (ho : Oct xs) (hl : xs.length ≤ 1099511627776) (v : Value) (w0 : World) (hlo : w0.heap.size ≤ lo) (hs : Seg w0 v xs) (J Jx : List Nat → World → Prop)
    (hY : ∀ pre x W, J pre W → pre.length < xs.length + 1 → YieldAt Fence.wide (n - 1) Try.prog l #[.int .i64 (ofs xs x : Nat), pv v (ofs xs x) (ofs xs (x + 1))] W fun r W' =>
      (r = .returned (.bool true) ∧ J (pre ++ [x]) W' ∧ Keep lo B W W') ∨ (r = .returned (.bool false) ∧ Jx (pre ++ [x]) W'))
    (W : World) (hW : ∀ i, i < lo → W.heap[i]? = w0.heap[i]?) (hc : W.cell? ⟨B, 0, none⟩ = some v) (h0 : J [] W) :
    CallsIn Fence.wide n Try.prog 56 #[.func (.yield l) #[] #[], .pointer (some ⟨B, 0, none⟩)] W fun r W' => (∃ v, r = .returned v) ∧
      ((∃ ys, (∃ m, ys = List.range m ∧ xs.length ≤ ofs xs m ∧ ∀ j, j < m → ofs xs j < xs.length) ∧ J ys W') ∨ (∃ pre, (∃ m, pre = List.range m ∧ ∀ j, j < m → ofs xs j < xs.length) ∧ Jx pre W')) := by
  obtain ⟨a, c, hv, -⟩ := id hs
  have HS := Lib.hid hs
  have HW := Lib.hid hW
  clear hs hW
  refine callsIn_of_wp Try.func56 rfl trivial ?_ rfl
  simp only [Try.ntmps56, List.size_toArray, List.length_cons, List.length_nil, Nat.reduceAdd, Nat.reduceSub, Array.replicate_succ, Array.replicate_zero, List.push_toArray, List.append_toArray, List.nil_append, List.cons_append]
  gi_wp2
  gi_loopw [3] (fun i wr => ∃ k : Nat, i = .int .i64 (ofs xs k : Nat) ∧ Hid (∀ j, j < k → ofs xs j < xs.length) ∧ J (List.range k) wr ∧ Keep lo B W wr)
    (fun i _ => xs.length - (intOf i).toNat)
  case atStart => exact ⟨0, rfl, Lib.hid (fun j hj => absurd hj (Nat.not_lt_zero _)), h0, Keep.refl _ _ _⟩
  case round =>
    obtain ⟨k, rfl, hz, hJ, hK⟩ := hrel
    have hcr := (hK.cell 0).trans hc
    have hsr : Seg wr v xs := HS.out.keep hlo fun i hi => (hK i (.inl hi)).trans (HW.out i hi)
    rw [hv] at hcr
    by_cases hlt : ofs xs k < xs.length
    · have hle := pEnd_le xs (ofs xs k)
      have hgt := pEnd_gt xs (ofs xs k) hlt
      have hpe := pieceEnd_is xs ho (ofs xs k) hlt hl v wr hsr
      have hpv := (pv_is hsr (ofs xs k) (ofs xs (k + 1)) (Nat.le_of_lt hgt) hle).1
      have hk1 : k ≤ ofs xs k := ofs_ge xs k hz.out
      obtain ⟨fn, tmps, assign, body, hy, hR⟩ := hY _ k wr hJ (by rw [List.length_range]; omega)
      rw [show pEnd xs (ofs xs k) = ofs xs (k + 1) from rfl] at hpe hle hgt
      rw [hv] at hpe hpv hy
      have hilt : ((ofs xs k : Nat) : Int) < xs.length := by omega
      have HZ := Lib.hid (show ∀ j, j < k + 1 → ofs xs j < xs.length from fun j hj => by
        by_cases e : j = k
        · subst e; exact hlt
        · exact hz.out j (by omega))
      have HK := Lib.hid hK
      have hE : ∀ j, ofs xs (j + 1) = pEnd xs (ofs xs j) := fun _ => rfl
      clear hE hsr hz hK hle hk1
      gi_wp2_with (refine ⟨trivial, ?_⟩; gi_at_call 57; refine (callsIn_wide.2 hpe).mono ?_; rintro e w' ⟨rfl, hw⟩; obtain rfl := hw.symm)
      refine hR.mono ?_
      rintro r W3 (⟨rfl, hJ3, hk3⟩ | ⟨rfl, hJx3⟩)
      · gi_wp2
        go_roundw
        case rel => exact ⟨k + 1, rfl, HZ, by rw [List.range_succ]; exact hJ3, HK.out.trans hk3⟩
        case measure => simp [intOf]; omega
      · gi_wp2
        refine bodyPost_ret (results_none rfl _ _ _) rfl ?_
        exact ⟨⟨_, rfl⟩, .inr ⟨_, ⟨k + 1, by rw [List.range_succ], HZ.out⟩, hJx3⟩⟩
    · have hilt : ¬ ((ofs xs k : Nat) : Int) < xs.length := by omega
      gi_wp2
      go_end0
      exact ⟨⟨_, rfl⟩, .inl ⟨_, ⟨k, rfl, by omega, hz.out⟩, hJ⟩⟩
end Go.Proofs.Ytejcclcckgdbgaa
