/- The reader: taking bytes. No condition. -/
import Derived.Test.YtgpjelcihmbiiaaWRd
namespace Go.Proofs.Ytgpjelcihmbiiaa
open Go.RowKit
set_option linter.unusedVariables false
set_option linter.unusedSimpArgs false
set_option maxRecDepth 100000

theorem elem_bytes : Try.prog.elem 23 = 5 := by kernel_rfl
theorem getD_part (xs : List Int) (n k i : Nat) (hi : i < k) : ((xs.drop n).take k).getD i 0 = xs.getD (n + i) 0 := by
  simp [List.getD_eq_getElem?_getD, List.getElem?_take_of_lt hi]
theorem len_part (xs : List Int) (n k : Nat) (hk : n + k ≤ xs.length) : ((xs.drop n).take k).length = k := by
  simp
  omega
/-- A part of the bytes. -/
theorem dat_slice {w : World} {v : Value} {xs : List Int} (h : Dat w v xs) (n k : Nat) (hk : n + k ≤ xs.length) :
    ∃ v', (Instr.slice 23 v (some (.int .i64 n)) (some (.int .i64 ((n : Int) + k))) none).run Try.prog w = .ok v' w ∧ Seg w v' ((xs.drop n).take k) := by
  have hl := len_part xs n k hk
  have ht : Try.prog.underlying 23 = some (.slice (Try.prog.elem 23)) := by rw [elem_bytes]; exact Try.underlying23
  have es : (sizeOf (Try.prog.elem 23)).run Try.prog w = .ok 1 w := by rw [elem_bytes]; exact Try.sizeOf5 w
  have et : ((n : Int) + k).toNat = n + k := by omega
  rcases h.form with ⟨rfl, rfl⟩ | ⟨g, cap, cs, rfl, h1, h2, hb, h3, h4⟩
  · have hk0 : n + k ≤ 0 := hk
    obtain rfl : n = 0 := by omega
    obtain rfl : k = 0 := by omega
    refine ⟨_, ?_, Seg.nil w⟩
    rw [run_slice_lh w _ none 0 0 ht .i64 .i64 _ _ (by omega) (by omega) (by simp), es]
    simp [Result.andThen, sliced]
  · refine ⟨_, (by rw [run_slice_lh w _ _ xs.length cap ht .i64 .i64 _ _ (by omega) (by omega) (by omega), es]; rfl), ?_⟩
    refine ⟨if cap = n then some ⟨g, 0, none⟩ else Option.map (fun x => Addr.add x (n * 1)) (some ⟨g, 0, none⟩), cap - n, by rw [hl, et]; simp only [sliced, Int.toNat_natCast, Nat.add_sub_cancel_left], by rw [hl]; omega, fun i hi => ?_⟩
    rw [hl] at hi
    have hc : ¬ cap = n := by omega
    rw [if_neg hc]
    refine ⟨g, n, by simp [Addr.add] <;> omega, ?_⟩
    rw [getD_part _ _ _ _ hi]
    exact hb.cell _ (take_at h4 _ (by omega))

theorem rd_take_ok (w : World) (b : Nat) (R : RS) (k : Nat) (h : Rdr w b R) (h0 : R.er = 0) (hk : R.n + k ≤ R.xs.length) : Calls Try.prog 92 #[.pointer (some ⟨b, 0, none⟩), .int .i64 k] w fun e w' => ∃ v, e = .returned v ∧ Seg w' v ((R.xs.drop R.n).take k) ∧ Rdr w' b (R.adv k) ∧ But w.heap.size b w w' := by
  have b1 : ¬ (k : Int) < 0 := by omega
  have b2 : ¬ (R.xs.length : Int) - R.n < k := by omega
  go_enter Try.func92, Try.ntmps92
  go_wp2_with (go_at_call 95; refine (rd_valid _ _ _ (by assumption)).mono ?_; rintro e w' ⟨rfl, hw⟩; obtain rfl := hw.symm)
  go_at_call 96
  refine (rd_left _ b R h).mono ?_
  rintro e w1 ⟨rfl, k1⟩
  have r1 := h.below k1
  have hf := rd_failed w1 b R r1
  rw [h0] at hf
  have ha := rd_advance w1 b R k r1 hk
  go_wp2_with (first | (go_at_call 98; refine hf.mono ?_; rintro e w' ⟨rfl, hw⟩; obtain rfl := hw.symm) | (go_at_call 99; refine ha.mono ?_; rintro e w2 ⟨rfl, r2, k2⟩; have r2' := r2; obtain ⟨⟨v, hb, hd⟩, -⟩ := r2; have c4 := hb.cell 4 (v := v) rfl; obtain ⟨v', hs, hseg⟩ := dat_slice hd R.n k hk; clear hf ha))
  go_ret
  exact ⟨_, rfl, hseg, r2', (But.of_below k1).then k2⟩

theorem rd_take_short (w : World) (b : Nat) (R : RS) (k : Int) (h : Rdr w b R) (h0 : R.er = 0) (hk : k < 0 ∨ (R.xs.length : Int) - R.n < k) : Calls Try.prog 92 #[.pointer (some ⟨b, 0, none⟩), .int .i64 k] w fun e w' => e = .returned (.slice none 0 0) ∧ Rdr w' b (R.fail 4) ∧ But w.heap.size b w w' := by
  have ef : (R.fail 4).er = 4 := by simp [RS.fail, h0]
  have hl := rd_left w b R h
  have key : ∀ w1, Below w.heap.size w w1 → Calls Try.prog 97 #[.pointer (some ⟨b, 0, none⟩), .int .i64 4] w1 fun e w' => e = .returned (.tuple #[]) ∧ Rdr w' b (R.fail 4) ∧ But w1.heap.size b w1 w' := fun w1 k1 => rd_Fail w1 b R 4 (h.below k1)
  have fl : ∀ w2, Rdr w2 b (R.fail 4) → Calls Try.prog 98 #[.pointer (some ⟨b, 0, none⟩)] w2 fun e w' => e = .returned (.bool true) ∧ w' = w2 := fun w2 r2 => by
    have := rd_failed w2 b _ r2
    rw [ef] at this
    exact this
  by_cases hneg : k < 0
  · go_enter Try.func92, Try.ntmps92
    go_wp2_with (go_at_call 95; refine (rd_valid _ _ _ (by assumption)).mono ?_; rintro e w' ⟨rfl, hw⟩; obtain rfl := hw.symm)
    go_at_call 97
    refine (key w (Below.refl _ _)).mono ?_
    rintro e w2 ⟨rfl, r2, k2⟩
    go_wp2_with (go_at_call 98; refine (fl w2 r2).mono ?_; rintro e w' ⟨rfl, hw⟩; obtain rfl := hw.symm)
    go_ret
    exact ⟨rfl, r2, k2⟩
  · have hlt : (R.xs.length : Int) - R.n < k := by omega
    go_enter Try.func92, Try.ntmps92
    go_wp2_with (go_at_call 95; refine (rd_valid _ _ _ (by assumption)).mono ?_; rintro e w' ⟨rfl, hw⟩; obtain rfl := hw.symm)
    go_at_call 96
    refine hl.mono ?_
    rintro e w1 ⟨rfl, k1⟩
    go_wp2_with fail
    go_at_call 97
    refine (key w1 k1).mono ?_
    rintro e w2 ⟨rfl, r2, k2⟩
    go_wp2_with (go_at_call 98; refine (fl w2 r2).mono ?_; rintro e w' ⟨rfl, hw⟩; obtain rfl := hw.symm)
    go_ret
    exact ⟨rfl, r2, (But.of_below k1).then k2⟩

theorem rd_take_bad (w : World) (b : Nat) (R : RS) (k : Int) (h : Rdr w b R) (h0 : R.er ≠ 0) : Calls Try.prog 92 #[.pointer (some ⟨b, 0, none⟩), .int .i64 k] w fun e w' => e = .returned (.slice none 0 0) ∧ Rdr w' b R ∧ But w.heap.size b w w' := by
  have ef : R.fail 4 = R := by simp [RS.fail, h0]
  have hl := rd_left w b R h
  have key : ∀ w1, Below w.heap.size w w1 → Calls Try.prog 97 #[.pointer (some ⟨b, 0, none⟩), .int .i64 4] w1 fun e w' => e = .returned (.tuple #[]) ∧ Rdr w' b R ∧ But w1.heap.size b w1 w' := fun w1 k1 => by
    have := rd_Fail w1 b R 4 (h.below k1)
    rw [ef] at this
    exact this
  have hne : (R.er != 0) = true := by simpa using h0
  have fl : ∀ w2, Rdr w2 b R → Calls Try.prog 98 #[.pointer (some ⟨b, 0, none⟩)] w2 fun e w' => e = .returned (.bool true) ∧ w' = w2 := fun w2 r2 => by
    have := rd_failed w2 b _ r2
    rw [hne] at this
    exact this
  by_cases hneg : k < 0
  · go_enter Try.func92, Try.ntmps92
    go_wp2_with (go_at_call 95; refine (rd_valid _ _ _ (by assumption)).mono ?_; rintro e w' ⟨rfl, hw⟩; obtain rfl := hw.symm)
    go_at_call 97
    refine (key w (Below.refl _ _)).mono ?_
    rintro e w2 ⟨rfl, r2, k2⟩
    go_wp2_with (go_at_call 98; refine (fl w2 r2).mono ?_; rintro e w' ⟨rfl, hw⟩; obtain rfl := hw.symm)
    go_ret
    exact ⟨rfl, r2, k2⟩
  · by_cases hlt : (R.xs.length : Int) - R.n < k
    · go_enter Try.func92, Try.ntmps92
      go_wp2_with (go_at_call 95; refine (rd_valid _ _ _ (by assumption)).mono ?_; rintro e w' ⟨rfl, hw⟩; obtain rfl := hw.symm)
      go_at_call 96
      refine hl.mono ?_
      rintro e w1 ⟨rfl, k1⟩
      go_wp2_with fail
      go_at_call 97
      refine (key w1 k1).mono ?_
      rintro e w2 ⟨rfl, r2, k2⟩
      go_wp2_with (go_at_call 98; refine (fl w2 r2).mono ?_; rintro e w' ⟨rfl, hw⟩; obtain rfl := hw.symm)
      go_ret
      exact ⟨rfl, r2, (But.of_below k1).then k2⟩
    · go_enter Try.func92, Try.ntmps92
      go_wp2_with (go_at_call 95; refine (rd_valid _ _ _ (by assumption)).mono ?_; rintro e w' ⟨rfl, hw⟩; obtain rfl := hw.symm)
      go_at_call 96
      refine hl.mono ?_
      rintro e w1 ⟨rfl, k1⟩
      have r1 := h.below k1
      go_wp2_with (go_at_call 98; refine (fl w1 r1).mono ?_; rintro e w' ⟨rfl, hw⟩; obtain rfl := hw.symm)
      go_ret
      exact ⟨rfl, r1, But.of_below k1⟩

/-- What taking k bytes yields, and what it makes of the reader. -/
def RS.ok (R : RS) (k : Int) : Prop := R.er = 0 ∧ 0 ≤ k ∧ k ≤ (R.xs.length : Int) - R.n
instance (R : RS) (k : Int) : Decidable (R.ok k) := by unfold RS.ok; infer_instance
def RS.part (R : RS) (k : Int) : List Int := if R.ok k then (R.xs.drop R.n).take k.toNat else []
def RS.next (R : RS) (k : Int) : RS := if R.ok k then R.adv k.toNat else R.fail 4
theorem rd_take (w : World) (b : Nat) (R : RS) (k : Int) (h : Rdr w b R) : Calls Try.prog 92 #[.pointer (some ⟨b, 0, none⟩), .int .i64 k] w fun e w' => ∃ v, e = .returned v ∧ Seg w' v (R.part k) ∧ Rdr w' b (R.next k) ∧ But w.heap.size b w w' := by
  by_cases hk : R.ok k
  · obtain ⟨h0, h1, h2⟩ := hk
    have e1 : R.part k = (R.xs.drop R.n).take k.toNat := if_pos ⟨h0, h1, h2⟩
    have e2 : R.next k = R.adv k.toNat := if_pos ⟨h0, h1, h2⟩
    have ek : ((k.toNat : Nat) : Int) = k := Int.toNat_of_nonneg h1
    rw [e1, e2]
    have h3 := h.2.2.1
    have := rd_take_ok w b R k.toNat h h0 (by omega)
    rw [ek] at this
    exact this
  · have e1 : R.part k = [] := if_neg hk
    have e2 : R.next k = R.fail 4 := if_neg hk
    rw [e1, e2]
    by_cases h0 : R.er = 0
    · refine (rd_take_short w b R k h h0 ?_).mono ?_
      · unfold RS.ok at hk
        omega
      · rintro e w' ⟨rfl, r, k⟩
        exact ⟨_, rfl, Seg.nil _, r, k⟩
    · refine (rd_take_bad w b R k h h0).mono ?_
      rintro e w' ⟨rfl, r, k⟩
      have ef : R.fail 4 = R := by simp [RS.fail, h0]
      exact ⟨_, rfl, Seg.nil _, ef.symm ▸ r, k⟩
end Go.Proofs.Ytgpjelcihmbiiaa
