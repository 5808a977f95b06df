/- The writer: a length written into a mark. No condition. -/
import Derived.Test.YtailaenkmknpiaaWMk
namespace Go.Proofs.Ytailaenkmknpiaa
open Go.RowKit Go.Maps
set_option linter.unusedVariables false
set_option linter.unusedSimpArgs false
set_option maxRecDepth 100000

/-- The bytes when the mark at n holds the number of those behind it. -/
def patched (xs : List Int) (n : Nat) : List Int := xs.take n ++ enc 2 (xs.length - n - 2) ++ xs.drop (n + 2)
theorem patched_length (xs : List Int) (n : Nat) (h : n + 2 ≤ xs.length) : (patched xs n).length = xs.length := by
  simp [patched, enc_length]
  omega
theorem mid_patched {cs : List Value} {xs : List Int} (h : cs.take xs.length = xs.map (Value.int .u8)) (n : Nat) (hn : n + 2 ≤ xs.length) : (mid cs n 2 2 (xs.length - n - 2)).take xs.length = (patched xs n).map (Value.int .u8) := by
  have hl : xs.length ≤ cs.length := by
    have := congrArg List.length h
    simp at this
    omega
  have e1 : cs.take n = (xs.take n).map (Value.int .u8) := by
    have := congrArg (List.take n) h
    rwa [List.take_take, Nat.min_eq_left (by omega), ← List.map_take] at this
  have e2 : (cs.drop (n + 2)).take (xs.length - (n + 2)) = (xs.drop (n + 2)).map (Value.int .u8) := by
    have := congrArg (List.drop (n + 2)) h
    rwa [List.drop_take, ← List.map_drop] at this
  have e3 : n + 2 - 2 = n := by omega
  unfold mid patched
  rw [e3, List.take_append, List.take_of_length_le (by simp [enc_length]; omega), List.map_append, List.map_append, e1, ← e2]
  congr 2
  simp [enc_length]
  omega
theorem dat_part {w : World} {v : Value} {xs : List Int} (h : Dat w v xs) (n k : Nat) (hk : n + k ≤ xs.length) (h0 : 0 < k) : ∃ g cap cs, v = .slice (some ⟨g, 0, none⟩) xs.length cap ∧ xs.length ≤ cap ∧ cap ≤ maxLen ∧ Blk w g 5 cs ∧ cs.length = cap ∧ cs.take xs.length = xs.map (Value.int .u8) ∧
    ∀ w', (Instr.slice 33 v (some (.int .i64 n)) (some (.int .i64 ((n : Int) + k))) none).run Try.prog w' = .ok (.slice (some ⟨g, n, none⟩) k (cap - n)) w' := by
  have ht : Try.prog.underlying 33 = some (.slice (Try.prog.elem 33)) := by rw [elem_bytes]; exact Try.underlying33
  rcases h.form with ⟨rfl, rfl⟩ | ⟨g, cap, cs, rfl, h1, h2, hb, h3, h4⟩
  · simp at hk
    omega
  · refine ⟨g, cap, cs, rfl, h1, h2, hb, h3, h4, fun w' => ?_⟩
    have es : (sizeOf (Try.prog.elem 33)).run Try.prog w' = .ok 1 w' := by rw [elem_bytes]; exact Try.sizeOf5 w'
    rw [run_slice_lh w' _ _ xs.length cap ht .i64 .i64 _ _ (by omega) (by omega) (by omega), es]
    have e : ((n : Int) + k).toNat = n + k := by omega
    have hc : ¬ cap = n := by omega
    simp only [Result.andThen, sliced, e, Int.toNat_natCast, if_neg hc, Option.map_some, Nat.mul_one, Nat.add_sub_cancel_left, add_is, Nat.zero_add]

theorem wr_Patch (w : World) (b : Nat) (W : WS) (n : Nat) (D : DataW Unit) (at' : Nat) (h : Wtr w b W) (hm : Mks w W.mb n D) (hat : Maps.has D (.int .i64 at') = true) (hn : at' + 2 ≤ W.xs.length) (hs : W.xs.length - at' - 2 ≤ 65535) :
    Calls Try.prog 18 #[.pointer (some ⟨b, 0, none⟩), .int .i64 at'] w fun e w' => e = .returned (.int .i64 0) ∧ Wtr w' b { W with xs := patched W.xs at' } ∧ Mks w' W.mb n (D.del (.int .i64 at')) ∧ ButP (W.mine b) w w' := by
  have hv := wr_valid w b W h
  have hkey := key_of at' (by have := h.2.2.2; omega)
  have hmw := mks_own hm h.2.1
  have hmb := mks_ne hm h.1
  have hlim := h.2.2.2
  obtain ⟨g, cap, cs, hvf, h1, h2, hg, h3, h4, hsl⟩ := dat_part h.2.1 at' 2 hn (by decide)
  have hbg : b ≠ g := h.1.ne hg (by decide)
  have hmg : W.mb ≠ g := mks_ne hm hg
  have c1 := h.1.cell 1 (v := W.v) rfl
  rw [hvf] at c1 hsl
  have c2 := h.1.cell 2 (v := .map (some W.mb)) rfl
  have z := h.1.lt
  have zg := hg.lt
  have b1 : ¬ (65535 : Int) < W.xs.length - (at' + 2) := by omega
  have hmw1 : Mks (w.alloc (.cells #[] 78)) W.mb n D := mks_kept hm (Below.heap_alloc _ _ _ hm.lt)
  have hg1 : Blk (w.alloc (.cells #[] 78)) g 5 cs := (Below.heap_alloc _ _ _ hg.lt).trans hg
  have hst := store16 (w.alloc (.cells #[] 78)) g at' 2 (cap - at') (W.xs.length - at' - 2) cs hg1 (by omega) (by unfold maxLen at h2; omega) (by decide) (by omega) (by omega)
  have ecv : ((W.xs.length : Int) - (at' + 2)) = ((W.xs.length - at' - 2 : Nat) : Int) := by omega
  go_enter Try.func18, Try.ntmps18
  go_wp2_with (first | (go_at_call 46; refine hv.mono ?_; rintro e w' ⟨rfl, hw⟩; obtain rfl := hw.symm) | (at_lookup; refine wpList_lookup_own_unit _ rfl _ _ 73 rfl 3 78 key_int Try.underlying73 (by kernel_rfl) W.mb n D rfl hm _ _ rfl hkey ?_; rw [hat]))
  go_at_call 47
  refine hst.mono ?_
  rintro e w2 ⟨rfl, hg2, k2⟩
  have hz : (w.alloc (.cells #[] 78)).heap.size = w.heap.size + 1 := by simp
  have kb : ∀ k, k < w.heap.size → k ≠ g → w2.heap[k]? = w.heap[k]? := fun k hk hn => (k2.block k (by rw [hz]; omega) hn).trans (Below.heap_alloc _ _ _ hk)
  have hb2 : Blk w2 b 75 W.cells := (kb b z hbg).trans h.1
  have hm2 : Mks w2 W.mb n D := mks_kept hm (kb _ hm.lt hmg)
  have d2 := hb2.cell 2 (v := .map (some W.mb)) rfl
  clear hst hv c1 c2 hsl hg1 hmw1 z zg
  go_wp2_with (at_delete; refine wpList_delete_own _ rfl _ _ 73 3 rfl 78 key_int Try.underlying73 unitElem W.mb n D rfl hm2 _ _ rfl hkey ?_; intro w3 hm3 hg3)
  go_ret
  have hgg := hg3.grown
  have kk : ∀ k, k < w.heap.size → k ≠ g → k ≠ W.mb → w3.heap[k]? = w.heap[k]? := fun k hk hn hm => (hgg.block k (Nat.lt_of_lt_of_le hk (Nat.le_trans (by rw [hz]; omega) k2.size)) (fun e => hm (Option.some.inj e))).trans (kb k hk hn)
  have hs3 : w.heap.size ≤ w3.heap.size := Nat.le_trans (Nat.le_trans (by rw [hz]; omega) k2.size) hgg.size
  have hpl := patched_length W.xs at' hn
  refine ⟨rfl, ⟨(kk b h.1.lt hbg (fun e => hmb e.symm)).trans h.1, ?_, ?_, by show (patched W.xs at').length ≤ W.lim; rw [hpl]; exact hlim.1, hlim.2⟩, hm3, ⟨hgg.os.trans k2.os, hgg.tape.trans k2.tape, hgg.output.trans k2.output, hs3, fun k hk hp => kk k hk (fun e => hp (.inr (.inr ?_))) (fun e => hp (.inr (.inl e)))⟩⟩
  · show Dat w3 W.v (patched W.xs at')
    rw [hvf]
    have hg3' : Blk w3 g 5 (mid cs at' 2 2 (W.xs.length - at' - 2)) := (hgg.block g hg2.lt (fun e => hmg (Option.some.inj e).symm)).trans hg2
    exact Dat.of hpl h1 h2 hg3' (by rw [mid_length _ _ _ _ _ (by omega) (Nat.le_refl _), h3]) (mid_patched h4 at' hn)
  · intro x hx
    rcases List.mem_append.1 hx with hx | hx
    · rcases List.mem_append.1 hx with hx | hx
      · exact h.2.2.1 x (List.mem_of_mem_take hx)
      · exact enc_oct _ _ x hx
    · exact h.2.2.1 x (List.mem_of_mem_drop hx)
  · rw [hvf, e]
    rfl
theorem wr_Patch_no (w : World) (b : Nat) (W : WS) (n : Nat) (D : DataW Unit) (at' : Int) (h : Wtr w b W) (hm : Mks w W.mb n D) (hwf : (Lit.int .i64 at').wf = true) (hat : Maps.has D (.int .i64 at') = false) :
    Calls Try.prog 18 #[.pointer (some ⟨b, 0, none⟩), .int .i64 at'] w fun e w' => e = .returned (.int .i64 16) ∧ Below w.heap.size w w' := by
  have hv := wr_valid w b W h
  have hkey : keyOf Try.prog 3 (.int .i64 at') = some (.int .i64 at') := keyOf_int_mk Try.underlying3 hwf
  have c2 := h.1.cell 2 (v := .map (some W.mb)) rfl
  go_enter Try.func18, Try.ntmps18
  go_wp2_with (first | (go_at_call 46; refine hv.mono ?_; rintro e w' ⟨rfl, hw⟩; obtain rfl := hw.symm) | (at_lookup; refine wpList_lookup_own_unit _ rfl _ _ 73 rfl 3 78 key_int Try.underlying73 (by kernel_rfl) W.mb n D rfl hm _ _ rfl hkey ?_; rw [hat]))
  go_ret
  exact ⟨rfl, (Below.refl _ _).alloc (Nat.le_refl _) _⟩
end Go.Proofs.Ytailaenkmknpiaa
