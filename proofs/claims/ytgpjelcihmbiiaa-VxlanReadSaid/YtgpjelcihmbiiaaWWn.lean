/- The writer: numbers. No condition. -/
import Derived.Test.YtgpjelcihmbiiaaWWr
import Derived.Test.YtgpjelcihmbiiaaWRm
import Derived.Maps.Own
namespace Go.Proofs.Ytgpjelcihmbiiaa
open Go.RowKit
set_option linter.unusedVariables false
set_option linter.unusedSimpArgs false
set_option maxRecDepth 100000

theorem pow_is (k : Nat) : (256 : Nat) ^ k = 2 ^ (8 * k) := by rw [show (256 : Nat) = 2 ^ 8 by decide, ← Nat.pow_mul]
theorem shr_zero (n k : Nat) (h : n < 256 ^ k) : (n : Int) / 2 ^ (8 * k) = 0 := by
  rw [pow_is] at h
  have : n / 2 ^ (8 * k) = 0 := Nat.div_eq_of_lt h
  have e : ((n / 2 ^ (8 * k) : Nat) : Int) = 0 := by omega
  simpa using e
theorem shr_not (n k : Nat) (h : 256 ^ k ≤ n) : ¬ (n : Int) / 2 ^ (8 * k) = 0 := by
  rw [pow_is] at h
  have : 0 < n / 2 ^ (8 * k) := Nat.div_pos h (Nat.pow_pos (by decide))
  have e : ¬ ((n / 2 ^ (8 * k) : Nat) : Int) = 0 := by omega
  simpa using e
theorem wr_num_range (w : World) (b : Nat) (W : WS) (k n : Nat) (h : Wtr w b W) (hk8 : k ≤ 8) (hn : n < 18446744073709551616) (hr : 256 ^ k ≤ n) :
    Calls Try.prog 64 #[.pointer (some ⟨b, 0, none⟩), .int .u64 n, .int .i64 k] w fun e w' => e = .returned (.int .i64 2) ∧ w' = w := by
  have hv := wr_valid w b W h
  have hz := shr_not n k hr
  go_enter Try.func64, Try.ntmps64
  go_wp2_with (go_at_call 65; refine hv.mono ?_; rintro e w' ⟨rfl, hw⟩; obtain rfl := hw.symm)
  go_ret
  exact ⟨rfl, rfl⟩
theorem wr_num_full (w : World) (b : Nat) (W : WS) (k n : Nat) (h : Wtr w b W) (hk8 : k ≤ 8) (hn : n < 18446744073709551616) (hr : n < 256 ^ k) (hk : W.lim < W.xs.length + k) :
    Calls Try.prog 64 #[.pointer (some ⟨b, 0, none⟩), .int .u64 n, .int .i64 k] w fun e w' => e = .returned (.int .i64 7) ∧ w' = w := by
  have hv := wr_valid w b W h
  have hz := shr_zero n k hr
  have hx := wr_extend_full w b W k h hk (by omega)
  have hs := store64_none w none 0 n
  go_enter Try.func64, Try.ntmps64
  go_wp2_with (first | (go_at_call 65; refine hv.mono ?_; rintro e w' ⟨rfl, hw⟩; obtain rfl := hw.symm) | (go_at_call 85; refine hx.mono ?_; rintro e w' ⟨rfl, hw⟩; obtain rfl := hw.symm) | (go_at_call 86; refine hs.mono ?_; rintro e w' ⟨rfl, hw⟩; obtain rfl := hw.symm))
  go_ret
  exact ⟨rfl, rfl⟩

theorem tail_form {w : World} {v : Value} {xs : List Int} {k : Nat} (hd : Dat w v (xs ++ List.replicate k 0)) (hk : 0 < k) : ∃ g cap cs, v = .slice (some ⟨g, 0, none⟩) (xs.length + k) cap ∧ tail v xs.length = .slice (some ⟨g, xs.length, none⟩) k (cap - xs.length) ∧ xs.length + k ≤ cap ∧ cap ≤ maxLen ∧ Blk w g 5 cs ∧ cs.length = cap ∧ cs.take xs.length = xs.map (Value.int .u8) := by
  rcases hd.form with ⟨-, h⟩ | ⟨g, cap, cs, rfl, h1, h2, hg, h3, h4⟩
  · have := congrArg List.length h
    simp at this
    omega
  · have hl : (xs ++ List.replicate k (0 : Int)).length = xs.length + k := by simp
    have h1' : xs.length + k ≤ cap := hl ▸ h1
    rw [hl] at h4 ⊢
    clear h1
    have h1 := h1'
    refine ⟨g, cap, cs, rfl, ?_, h1, h2, hg, h3, ?_⟩
    · have hc : ¬ cap = xs.length := by omega
      simp only [tail, sliced, if_neg hc, Option.map_some, Nat.mul_one, Nat.add_sub_cancel_left]
      rw [add_is, Nat.zero_add]
    · have := congrArg (List.take xs.length) h4
      rw [List.take_take, Nat.min_eq_left (Nat.le_add_right _ _), List.map_append, List.take_left' (by simp)] at this
      exact this
theorem wr_num (w : World) (b : Nat) (W : WS) (k n : Nat) (h : Wtr w b W) (hk0 : 0 < k) (hk8 : k ≤ 8) (hn : n < 18446744073709551616) (hr : n < 256 ^ k) (hk : W.xs.length + k ≤ W.lim) :
    Calls Try.prog 64 #[.pointer (some ⟨b, 0, none⟩), .int .u64 n, .int .i64 k] w fun e w' => e = .returned (.int .i64 0) ∧ ∃ v', Wtr w' b { W with xs := W.xs ++ enc k n, v := v' } ∧ ButW b W.v w w' ∧ (v'.ownBlock = W.v.ownBlock ∨ ∀ g, v'.ownBlock = some g → w.heap.size ≤ g) := by
  have hv := wr_valid w b W h
  have hz := shr_zero n k hr
  have hx := wr_extend w b W k h hk
  go_enter Try.func64, Try.ntmps64
  go_wp2_with (go_at_call 65; refine hv.mono ?_; rintro e w' ⟨rfl, hw⟩; obtain rfl := hw.symm)
  go_at_call 85
  refine hx.mono ?_
  rintro e w1 ⟨v', rfl, hb1, hd1, hbut, hnew⟩
  clear hx hv hz
  obtain ⟨g, cap, cs, hvf, htf, c1, c2, hg, c3, c4⟩ := tail_form hd1 hk0
  rw [htf]
  have hst := store64 w1 g W.xs.length k (cap - W.xs.length) n cs hg (by omega) (by unfold maxLen at c2; omega) hk8 (by omega) hn
  go_wp2_with (go_at_call 86; refine hst.mono ?_; rintro e w2 ⟨rfl, hg2, k2⟩)
  go_ret
  have hgb : b ≠ g := hb1.ne hg (by decide)
  have hvo : v'.ownBlock = some g := by rw [hvf]; rfl
  have hlen : (W.xs ++ enc k n).length = W.xs.length + k := by simp [enc_length]
  refine ⟨rfl, v', ⟨k2.blk hb1 hb1.lt hgb, ?_, ?_, by show (W.xs ++ enc k n).length ≤ W.lim; omega, h.2.2.2.2⟩, ⟨k2.os.trans hbut.os, k2.tape.trans hbut.tape, k2.output.trans hbut.output, Nat.le_trans hbut.size k2.size, fun j hj hn hv => ?_⟩, hnew⟩
  · show Dat w2 v' (W.xs ++ enc k n)
    rw [hvf]
    refine Dat.of hlen c1 c2 hg2 (by rw [mid_length _ _ _ _ _ (by omega) (Nat.le_refl _), c3]) ?_
    have e : W.xs.length + k - k = W.xs.length := by omega
    unfold mid
    rw [e, c4, List.map_append, List.take_left' (by simp [enc_length])]
  · intro x hx
    rcases List.mem_append.1 hx with hx | hx
    · exact h.2.2.1 x hx
    · exact enc_oct _ _ x hx
  · refine (k2.block j (Nat.lt_of_lt_of_le hj hbut.size) ?_).trans (hbut.block j hj hn hv)
    rintro rfl
    rcases hnew with e | e
    · exact hv (hvo.symm.trans e)
    · have := e _ hvo
      omega

/-- What a call that writes a number says. -/
def WS.res (W : WS) (k n : Nat) : Int := if 256 ^ k ≤ n then 2 else if W.lim < W.xs.length + k then 7 else 0
def Put (b : Nat) (W : WS) (r : Int) (ys : List Int) (w : World) (e : Ending) (w' : World) : Prop :=
  e = .returned (.int .i64 r) ∧ ((r ≠ 0 ∧ w' = w) ∨ (r = 0 ∧ ∃ v', Wtr w' b { W with xs := W.xs ++ ys, v := v' } ∧ ButW b W.v w w' ∧ (v'.ownBlock = W.v.ownBlock ∨ ∀ g, v'.ownBlock = some g → w.heap.size ≤ g)))
theorem wr_number (w : World) (b : Nat) (W : WS) (k n : Nat) (h : Wtr w b W) (hk0 : 0 < k) (hk8 : k ≤ 8) (hn : n < 18446744073709551616) :
    Calls Try.prog 64 #[.pointer (some ⟨b, 0, none⟩), .int .u64 n, .int .i64 k] w fun e w' => Put b W (W.res k n) (enc k n) w e w' := by
  unfold WS.res
  split
  · refine (wr_num_range w b W k n h hk8 hn (by assumption)).mono ?_
    rintro e w' ⟨rfl, rfl⟩
    exact ⟨rfl, .inl ⟨by decide, rfl⟩⟩
  · split
    · refine (wr_num_full w b W k n h hk8 hn (by omega) (by assumption)).mono ?_
      rintro e w' ⟨rfl, rfl⟩
      exact ⟨rfl, .inl ⟨by decide, rfl⟩⟩
    · refine (wr_num w b W k n h hk0 hk8 hn (by omega) (by omega)).mono ?_
      rintro e w' ⟨rfl, hw⟩
      exact ⟨rfl, .inr ⟨rfl, hw⟩⟩
theorem wr_U8 (w : World) (b : Nat) (W : WS) (n : Nat) (h : Wtr w b W) (hn : n < 18446744073709551616) :
    Calls Try.prog 83 #[.pointer (some ⟨b, 0, none⟩), .int .u64 n] w fun e w' => Put b W (W.res 1 n) (enc 1 n) w e w' := by
  have hx := wr_number w b W 1 n h (by decide) (by decide) hn
  go_enter Try.func83, Try.ntmps83
  go_wp2_with (go_at_call 64; refine hx.mono ?_; rintro e w' ⟨rfl, hw⟩; clear hx)
  go_ret
  exact ⟨rfl, hw⟩
theorem wr_U16 (w : World) (b : Nat) (W : WS) (n : Nat) (h : Wtr w b W) (hn : n < 18446744073709551616) :
    Calls Try.prog 84 #[.pointer (some ⟨b, 0, none⟩), .int .u64 n] w fun e w' => Put b W (W.res 2 n) (enc 2 n) w e w' := by
  have hx := wr_number w b W 2 n h (by decide) (by decide) hn
  go_enter Try.func84, Try.ntmps84
  go_wp2_with (go_at_call 64; refine hx.mono ?_; rintro e w' ⟨rfl, hw⟩; clear hx)
  go_ret
  exact ⟨rfl, hw⟩
theorem wr_U24 (w : World) (b : Nat) (W : WS) (n : Nat) (h : Wtr w b W) (hn : n < 18446744073709551616) :
    Calls Try.prog 93 #[.pointer (some ⟨b, 0, none⟩), .int .u64 n] w fun e w' => Put b W (W.res 3 n) (enc 3 n) w e w' := by
  have hx := wr_number w b W 3 n h (by decide) (by decide) hn
  go_enter Try.func93, Try.ntmps93
  go_wp2_with (go_at_call 64; refine hx.mono ?_; rintro e w' ⟨rfl, hw⟩; clear hx)
  go_ret
  exact ⟨rfl, hw⟩
theorem wr_U32 (w : World) (b : Nat) (W : WS) (n : Nat) (h : Wtr w b W) (hn : n < 18446744073709551616) :
    Calls Try.prog 82 #[.pointer (some ⟨b, 0, none⟩), .int .u64 n] w fun e w' => Put b W (W.res 4 n) (enc 4 n) w e w' := by
  have hx := wr_number w b W 4 n h (by decide) (by decide) hn
  go_enter Try.func82, Try.ntmps82
  go_wp2_with (go_at_call 64; refine hx.mono ?_; rintro e w' ⟨rfl, hw⟩; clear hx)
  go_ret
  exact ⟨rfl, hw⟩
theorem wr_U48 (w : World) (b : Nat) (W : WS) (n : Nat) (h : Wtr w b W) (hn : n < 18446744073709551616) :
    Calls Try.prog 42 #[.pointer (some ⟨b, 0, none⟩), .int .u64 n] w fun e w' => Put b W (W.res 6 n) (enc 6 n) w e w' := by
  have hx := wr_number w b W 6 n h (by decide) (by decide) hn
  go_enter Try.func42, Try.ntmps42
  go_wp2_with (go_at_call 64; refine hx.mono ?_; rintro e w' ⟨rfl, hw⟩; clear hx)
  go_ret
  exact ⟨rfl, hw⟩
theorem wr_U64 (w : World) (b : Nat) (W : WS) (n : Nat) (h : Wtr w b W) (hn : n < 18446744073709551616) :
    Calls Try.prog 43 #[.pointer (some ⟨b, 0, none⟩), .int .u64 n] w fun e w' => Put b W (W.res 8 n) (enc 8 n) w e w' := by
  have hx := wr_number w b W 8 n h (by decide) (by decide) hn
  go_enter Try.func43, Try.ntmps43
  go_wp2_with (go_at_call 64; refine hx.mono ?_; rintro e w' ⟨rfl, hw⟩; clear hx)
  go_ret
  exact ⟨rfl, hw⟩

theorem wr_New (w : World) (l : Nat) (hl : l ≤ 65536) : Calls Try.prog 41 #[.int .i64 l] w fun e w' => ∃ b, e = .returned (.tuple #[.pointer (some ⟨b, 0, none⟩), .int .i64 0]) ∧ ∃ m, Wtr w' b ⟨l, [], .slice none 0 0, m⟩ ∧ w.heap.size ≤ b ∧ w.heap.size ≤ m ∧ w'.heap[m]? = some (.map #[] 0) ∧ Below w.heap.size w w' := by
  have hmm := @run_makeMap Try.prog
  have h1 : ¬ (l : Int) < 0 := by omega
  have h2 : ¬ (65536 : Int) < l := by omega
  go_enter Try.func41, Try.ntmps41
  go_wp2
  go_ret2
  have hb := Blk.new (w.alloc (.map #[] 0)) 113 [.int .i64 l, .slice none 0 0, .map (some w.heap.size)]
  have hs : (w.alloc (.map #[] 0)).heap.size = w.heap.size + 1 := by simp
  rw [hs] at hb
  refine ⟨w.heap.size + 1, rfl, w.heap.size, ⟨hb, Dat.nil _, fun x hx => absurd hx (by simp), Nat.zero_le _, hl⟩, Nat.le_succ _, Nat.le_refl _, ?_, ((Below.refl _ _).alloc (Nat.le_refl _) _).alloc (by rw [hs]; exact Nat.le_succ _) _⟩
  rw [Below.heap_alloc _ _ _ (by rw [hs]; exact Nat.lt_succ_self _)]
  show (w.heap.push _)[w.heap.size]? = _
  simp
theorem wr_Out (w : World) (b : Nat) (W : WS) (h : Wtr w b W) : Calls Try.prog 44 #[.pointer (some ⟨b, 0, none⟩)] w fun e w' => ∃ v, e = .returned v ∧ Dat w' v W.xs ∧ Below w.heap.size w w' := by
  have hv := wr_valid w b W h
  have hcl := clone_is w W.v W.xs h.2.1.seg (by have := h.2.2.2; omega)
  have c1 := h.1.cell 1 (v := W.v) rfl
  go_enter Try.func44, Try.ntmps44
  go_wp2_with (first | (go_at_call 65; refine hv.mono ?_; rintro e w' ⟨rfl, hw⟩; obtain rfl := hw.symm) | (go_at_call 66; refine hcl.mono ?_; rintro e w1 ⟨v, rfl, hd, k⟩; clear hcl))
  go_ret
  exact ⟨v, rfl, hd, k⟩
end Go.Proofs.Ytgpjelcihmbiiaa
