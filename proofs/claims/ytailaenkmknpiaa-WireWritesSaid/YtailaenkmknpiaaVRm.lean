/- The reader once more, its slice of bytes named: so that it is known to stay where it was. No condition. -/
import Derived.Test.YtailaenkmknpiaaWRm
namespace Go.Proofs.Ytailaenkmknpiaa.V
open Go.RowKit
set_option linter.unusedVariables false
set_option linter.unusedSimpArgs false
set_option maxRecDepth 100000

def Rdr (w : World) (b : Nat) (R : RS) (vv : Value) : Prop := (Blk w b 88 (R.cells vv) ∧ Dat w vv R.xs) ∧ Oct R.xs ∧ R.n ≤ R.xs.length ∧ R.f + R.xs.length ≤ 1099511627776
theorem Rdr.up {w : World} {b : Nat} {R : RS} {vv : Value} (h : Rdr w b R vv) : _root_.Go.Proofs.Ytailaenkmknpiaa.Rdr w b R := ⟨⟨vv, h.1⟩, h.2⟩
theorem Rdr.below {w w' : World} {b : Nat} {R : RS} {vv : Value} (h : Rdr w b R vv) (k : Below w.heap.size w w') : Rdr w' b R vv := by
  obtain ⟨⟨hb, hd⟩, h2⟩ := h
  exact ⟨⟨hb.below k hb.lt, hd.below k⟩, h2⟩
theorem Rdr.lt {w : World} {b : Nat} {R : RS} {vv : Value} (h : Rdr w b R vv) : b < w.heap.size := by
  obtain ⟨⟨hb, hd⟩, h2⟩ := h
  exact hb.lt
theorem rd_valid (w : World) (b : Nat) (R : RS) (vv : Value) (h : Rdr w b R vv) : Calls Try.prog 56 #[.pointer (some ⟨b, 0, none⟩)] w fun e w' => e = .returned (.bool true) ∧ w' = w := by
  obtain ⟨⟨hb, hd⟩, h2⟩ := h
  have c3 := hb.cell 3 (v := .bool true) rfl
  go_enter Try.func56, Try.ntmps56
  go_wp2
  go_ret
  exact ⟨rfl, rfl⟩
theorem rd_failed (w : World) (b : Nat) (R : RS) (vv : Value) (h : Rdr w b R vv) : Calls Try.prog 57 #[.pointer (some ⟨b, 0, none⟩)] w fun e w' => e = .returned (.bool (R.er != 0)) ∧ w' = w := by
  obtain ⟨⟨hb, hd⟩, h2⟩ := h
  have c5 := hb.cell 5 (v := .int .i64 R.er) rfl
  go_enter Try.func57, Try.ntmps57
  go_wp2
  go_ret
  exact ⟨rfl, rfl⟩
theorem rd_left (w : World) (b : Nat) (R : RS) (vv : Value) (h : Rdr w b R vv) : Calls Try.prog 58 #[.pointer (some ⟨b, 0, none⟩)] w fun e w' => e = .returned (.int .i64 ((R.xs.length : Int) - R.n)) ∧ Below w.heap.size w w' := by
  obtain ⟨⟨hb, hd⟩, h1, h2, h3⟩ := h
  have c1 := hb.cell 1 (v := .int .i64 ((R.f : Int) + R.n)) rfl
  have c2 := hb.cell 2 (v := .int .i64 ((R.f : Int) + R.xs.length)) rfl
  have e : (R.f : Int) + R.xs.length - (R.f + R.n) = (R.xs.length : Int) - R.n := by omega
  go_enter Try.func58, Try.ntmps58
  go_wp2
  go_quiet (fail)
  go_wp2
  go_ret
  exact ⟨by simp <;> omega, below_drewN _ _ _⟩
theorem rd_advance (w : World) (b : Nat) (R : RS) (vv : Value) (k : Nat) (h : Rdr w b R vv) (hk : R.n + k ≤ R.xs.length) : Calls Try.prog 61 #[.pointer (some ⟨b, 0, none⟩), .int .i64 k] w fun e w' => e = .returned (.tuple #[.int .i64 R.n, .int .i64 ((R.n : Int) + k)]) ∧ Rdr w' b (R.adv k) vv ∧ But w.heap.size b w w' := by
  obtain ⟨⟨hb, hd⟩, h1, h2, h3⟩ := h
  have c0 := hb.cell 0 (v := .int .i64 R.f) rfl
  have c1 := hb.cell 1 (v := .int .i64 ((R.f : Int) + R.n)) rfl
  have f1 := hb.frozen 1
  go_enter Try.func61, Try.ntmps61
  go_wp2
  go_quiet (fail)
  go_wp2
  go_ret2
  have e1 : (R.f : Int) + R.n - R.f = R.n := by omega
  have e2 : (R.f : Int) + R.n + k = R.f + ((R.n + k : Nat) : Int) := by omega
  refine ⟨by simp [e1], ⟨⟨?_, Dat.set (w := w.drewN nq) hd hb (by decide) 1 _⟩, h1, hk, h3⟩, (But.of_below (below_drewN _ _ _)).setCell _ _⟩
  have := Blk.set (w := w.drewN nq) hb 1 (.int .i64 ((R.f : Int) + R.n + k))
  rw [e2] at this ⊢
  exact this
theorem rd_Fail (w : World) (b : Nat) (R : RS) (vv : Value) (x : Int) (h : Rdr w b R vv) : Calls Try.prog 31 #[.pointer (some ⟨b, 0, none⟩), .int .i64 x] w fun e w' => e = .returned (.tuple #[]) ∧ Rdr w' b (R.fail x) vv ∧ But w.heap.size b w w' := by
  have hv := rd_valid w b R vv h
  have hf := rd_failed w b R vv h
  have h0 := h
  obtain ⟨⟨hb, hd⟩, h1, h2, h3⟩ := h
  have c1 := hb.cell 1 (v := .int .i64 ((R.f : Int) + R.n)) rfl
  have f5 := hb.frozen 5
  have f6 := hb.frozen 6
  have c5 := hb.cell 5 (v := .int .i64 R.er) rfl
  have c6 := hb.cell 6 (v := .int .i64 R.ea) rfl
  by_cases he : R.er = 0
  · by_cases hx : x = 0
    · have ef : R.fail x = R := by simp [RS.fail, hx]
      rw [he] at hf
      subst hx
      go_enter Try.func31, Try.ntmps31
      go_wp2_with (first | (go_at_call 56; refine hv.mono ?_; rintro e w' ⟨rfl, rfl⟩) | (go_at_call 57; refine hf.mono ?_; rintro e w' ⟨rfl, rfl⟩))
      go_returns
      rw [ef]
      exact ⟨rfl, h0, But.refl _ _ _⟩
    · have ef : R.fail x = { R with er := x, ea := (R.f : Int) + R.n } := by simp [RS.fail, hx, he]
      rw [he] at hf
      go_enter Try.func31, Try.ntmps31
      go_wp2_with (first | (go_at_call 56; refine hv.mono ?_; rintro e w' ⟨rfl, rfl⟩) | (go_at_call 57; refine hf.mono ?_; rintro e w' ⟨rfl, rfl⟩))
      go_end0
      rw [ef]
      refine ⟨rfl, ⟨⟨?_, Dat.set (Dat.set hd hb (by decide) 5 _) (hb.set 5 _) (by decide) 6 _⟩, h1, h2, h3⟩, ((But.refl _ _ _).setCell _ _).setCell _ _⟩
      exact (hb.set 5 _).set 6 _
  · have ef : R.fail x = R := by simp [RS.fail, he]
    have hne : (R.er != 0) = true := by simpa using he
    rw [hne] at hf
    go_enter Try.func31, Try.ntmps31
    go_wp2_with (first | (go_at_call 56; refine hv.mono ?_; rintro e w' ⟨rfl, rfl⟩) | (go_at_call 57; refine hf.mono ?_; rintro e w' ⟨rfl, rfl⟩))
    go_returns
    rw [ef]
    exact ⟨rfl, h0, But.refl _ _ _⟩
theorem rd_take_ok (w : World) (b : Nat) (R : RS) (vv : Value) (k : Nat) (h : Rdr w b R vv) (h0 : R.er = 0) (hk : R.n + k ≤ R.xs.length) : Calls Try.prog 55 #[.pointer (some ⟨b, 0, none⟩), .int .i64 k] w fun e w' => ∃ v, e = .returned v ∧ Seg w' v ((R.xs.drop R.n).take k) ∧ Rdr w' b (R.adv k) vv ∧ But w.heap.size b w w' := by
  have b1 : ¬ (k : Int) < 0 := by omega
  have b2 : ¬ (R.xs.length : Int) - R.n < k := by omega
  go_enter Try.func55, Try.ntmps55
  go_wp2_with (go_at_call 56; refine (rd_valid _ _ _ _ (by assumption)).mono ?_; rintro e w' ⟨rfl, hw⟩; obtain rfl := hw.symm)
  go_at_call 58
  refine (rd_left _ b R vv h).mono ?_
  rintro e w1 ⟨rfl, k1⟩
  have r1 := h.below k1
  have hf := rd_failed w1 b R vv r1
  rw [h0] at hf
  have ha := rd_advance w1 b R vv k r1 hk
  go_wp2_with (first | (go_at_call 57; refine hf.mono ?_; rintro e w' ⟨rfl, hw⟩; obtain rfl := hw.symm) | (go_at_call 61; refine ha.mono ?_; rintro e w2 ⟨rfl, r2, k2⟩; have r2' := r2; obtain ⟨⟨hb, hd⟩, -⟩ := r2; have c4 := hb.cell 4 (v := vv) rfl; obtain ⟨v', hs, hseg⟩ := dat_slice hd R.n k hk; clear hf ha))
  go_ret
  exact ⟨_, rfl, hseg, r2', (But.of_below k1).then k2⟩
theorem rd_take_short (w : World) (b : Nat) (R : RS) (vv : Value) (k : Int) (h : Rdr w b R vv) (h0 : R.er = 0) (hk : k < 0 ∨ (R.xs.length : Int) - R.n < k) : Calls Try.prog 55 #[.pointer (some ⟨b, 0, none⟩), .int .i64 k] w fun e w' => e = .returned (.slice none 0 0) ∧ Rdr w' b (R.fail 4) vv ∧ But w.heap.size b w w' := by
  have ef : (R.fail 4).er = 4 := by simp [RS.fail, h0]
  have hl := rd_left w b R vv h
  have key : ∀ w1, Below w.heap.size w w1 → Calls Try.prog 31 #[.pointer (some ⟨b, 0, none⟩), .int .i64 4] w1 fun e w' => e = .returned (.tuple #[]) ∧ Rdr w' b (R.fail 4) vv ∧ But w1.heap.size b w1 w' := fun w1 k1 => rd_Fail w1 b R vv 4 (h.below k1)
  have fl : ∀ w2, Rdr w2 b (R.fail 4) vv → Calls Try.prog 57 #[.pointer (some ⟨b, 0, none⟩)] w2 fun e w' => e = .returned (.bool true) ∧ w' = w2 := fun w2 r2 => by
    have := rd_failed w2 b _ vv r2
    rw [ef] at this
    exact this
  by_cases hneg : k < 0
  · go_enter Try.func55, Try.ntmps55
    go_wp2_with (go_at_call 56; refine (rd_valid _ _ _ _ (by assumption)).mono ?_; rintro e w' ⟨rfl, hw⟩; obtain rfl := hw.symm)
    go_at_call 31
    refine (key w (Below.refl _ _)).mono ?_
    rintro e w2 ⟨rfl, r2, k2⟩
    go_wp2_with (go_at_call 57; refine (fl w2 r2).mono ?_; rintro e w' ⟨rfl, hw⟩; obtain rfl := hw.symm)
    go_ret
    exact ⟨rfl, r2, k2⟩
  · have hlt : (R.xs.length : Int) - R.n < k := by omega
    go_enter Try.func55, Try.ntmps55
    go_wp2_with (go_at_call 56; refine (rd_valid _ _ _ _ (by assumption)).mono ?_; rintro e w' ⟨rfl, hw⟩; obtain rfl := hw.symm)
    go_at_call 58
    refine hl.mono ?_
    rintro e w1 ⟨rfl, k1⟩
    go_wp2_with fail
    go_at_call 31
    refine (key w1 k1).mono ?_
    rintro e w2 ⟨rfl, r2, k2⟩
    go_wp2_with (go_at_call 57; refine (fl w2 r2).mono ?_; rintro e w' ⟨rfl, hw⟩; obtain rfl := hw.symm)
    go_ret
    exact ⟨rfl, r2, (But.of_below k1).then k2⟩
theorem rd_take_bad (w : World) (b : Nat) (R : RS) (vv : Value) (k : Int) (h : Rdr w b R vv) (h0 : R.er ≠ 0) : Calls Try.prog 55 #[.pointer (some ⟨b, 0, none⟩), .int .i64 k] w fun e w' => e = .returned (.slice none 0 0) ∧ Rdr w' b R vv ∧ But w.heap.size b w w' := by
  have ef : R.fail 4 = R := by simp [RS.fail, h0]
  have hl := rd_left w b R vv h
  have key : ∀ w1, Below w.heap.size w w1 → Calls Try.prog 31 #[.pointer (some ⟨b, 0, none⟩), .int .i64 4] w1 fun e w' => e = .returned (.tuple #[]) ∧ Rdr w' b R vv ∧ But w1.heap.size b w1 w' := fun w1 k1 => by
    have := rd_Fail w1 b R vv 4 (h.below k1)
    rw [ef] at this
    exact this
  have hne : (R.er != 0) = true := by simpa using h0
  have fl : ∀ w2, Rdr w2 b R vv → Calls Try.prog 57 #[.pointer (some ⟨b, 0, none⟩)] w2 fun e w' => e = .returned (.bool true) ∧ w' = w2 := fun w2 r2 => by
    have := rd_failed w2 b _ vv r2
    rw [hne] at this
    exact this
  by_cases hneg : k < 0
  · go_enter Try.func55, Try.ntmps55
    go_wp2_with (go_at_call 56; refine (rd_valid _ _ _ _ (by assumption)).mono ?_; rintro e w' ⟨rfl, hw⟩; obtain rfl := hw.symm)
    go_at_call 31
    refine (key w (Below.refl _ _)).mono ?_
    rintro e w2 ⟨rfl, r2, k2⟩
    go_wp2_with (go_at_call 57; refine (fl w2 r2).mono ?_; rintro e w' ⟨rfl, hw⟩; obtain rfl := hw.symm)
    go_ret
    exact ⟨rfl, r2, k2⟩
  · by_cases hlt : (R.xs.length : Int) - R.n < k
    · go_enter Try.func55, Try.ntmps55
      go_wp2_with (go_at_call 56; refine (rd_valid _ _ _ _ (by assumption)).mono ?_; rintro e w' ⟨rfl, hw⟩; obtain rfl := hw.symm)
      go_at_call 58
      refine hl.mono ?_
      rintro e w1 ⟨rfl, k1⟩
      go_wp2_with fail
      go_at_call 31
      refine (key w1 k1).mono ?_
      rintro e w2 ⟨rfl, r2, k2⟩
      go_wp2_with (go_at_call 57; refine (fl w2 r2).mono ?_; rintro e w' ⟨rfl, hw⟩; obtain rfl := hw.symm)
      go_ret
      exact ⟨rfl, r2, (But.of_below k1).then k2⟩
    · go_enter Try.func55, Try.ntmps55
      go_wp2_with (go_at_call 56; refine (rd_valid _ _ _ _ (by assumption)).mono ?_; rintro e w' ⟨rfl, hw⟩; obtain rfl := hw.symm)
      go_at_call 58
      refine hl.mono ?_
      rintro e w1 ⟨rfl, k1⟩
      have r1 := h.below k1
      go_wp2_with (go_at_call 57; refine (fl w1 r1).mono ?_; rintro e w' ⟨rfl, hw⟩; obtain rfl := hw.symm)
      go_ret
      exact ⟨rfl, r1, But.of_below k1⟩
theorem rd_take (w : World) (b : Nat) (R : RS) (vv : Value) (k : Int) (h : Rdr w b R vv) : Calls Try.prog 55 #[.pointer (some ⟨b, 0, none⟩), .int .i64 k] w fun e w' => ∃ v, e = .returned v ∧ Seg w' v (R.part k) ∧ Rdr w' b (R.next k) vv ∧ But w.heap.size b w w' := by
  by_cases hk : R.ok k
  · obtain ⟨h0, h1, h2⟩ := hk
    have e1 : R.part k = (R.xs.drop R.n).take k.toNat := if_pos ⟨h0, h1, h2⟩
    have e2 : R.next k = R.adv k.toNat := if_pos ⟨h0, h1, h2⟩
    have ek : ((k.toNat : Nat) : Int) = k := Int.toNat_of_nonneg h1
    rw [e1, e2]
    have h3 := h.2.2.1
    have := rd_take_ok w b R vv k.toNat h h0 (by omega)
    rw [ek] at this
    exact this
  · have e1 : R.part k = [] := if_neg hk
    have e2 : R.next k = R.fail 4 := if_neg hk
    rw [e1, e2]
    by_cases h0 : R.er = 0
    · refine (rd_take_short w b R vv k h h0 ?_).mono ?_
      · unfold RS.ok at hk
        omega
      · rintro e w' ⟨rfl, r, k⟩
        exact ⟨_, rfl, Seg.nil _, r, k⟩
    · refine (rd_take_bad w b R vv k h h0).mono ?_
      rintro e w' ⟨rfl, r, k⟩
      have ef : R.fail 4 = R := by simp [RS.fail, h0]
      exact ⟨_, rfl, Seg.nil _, ef.symm ▸ r, k⟩
theorem rd_num (w : World) (b : Nat) (R : RS) (vv : Value) (k : Nat) (hk8 : k ≤ 8) (h : Rdr w b R vv) : Calls Try.prog 60 #[.pointer (some ⟨b, 0, none⟩), .int .i64 k] w fun e w' => e = .returned (.int .u64 (be (R.part k))) ∧ Rdr w' b (R.next k) vv ∧ But w.heap.size b w w' := by
  have ho : Oct (R.part k) := by
    unfold RS.part
    split
    · exact (h.2.1.drop _).take _
    · exact fun x hx => by cases hx
  have hl : (R.part k).length ≤ 8 := by
    unfold RS.part
    split
    · simp; omega
    · simp
  go_enter Try.func60, Try.ntmps60
  go_wp2_with fail
  go_at_call 55
  refine (rd_take w b R vv k h).mono ?_
  rintro e w1 ⟨v, rfl, hs, r1, k1⟩
  generalize hxs : R.part k = xs at hs ho hl ⊢
  obtain ⟨a, c, rfl, hc, hx⟩ := hs
  go_wp2_with fail
  go_loop [5, 7, 12] (fun va vv vi => ∃ (j : Nat) (m : Int), j ≤ xs.length ∧ va = .int .u64 m ∧ vi = .int .i64 j ∧ Hid (m = (be (xs.take j) : Nat)))
    (fun _ _ vi => xs.length - (intOf vi).toNat)
  case atStart => exact ⟨0, 0, by omega, rfl, rfl, rfl⟩
  case round =>
    obtain ⟨j, m, hj, rfl, rfl, hh⟩ := hrel
    by_cases hlt : j < xs.length
    · obtain ⟨g, o, rfl, hcell⟩ := hx j hlt
      have hm := hh.out
      have hb := be_take_lt _ ho j hj
      have hd := ho.getD j
      have m1 : m < 72057594037927936 := by
        have := Nat.pow_le_pow_right (n := 256) (by decide) (show j ≤ 7 by omega)
        have e : (256 : Nat) ^ 7 = 72057594037927936 := by decide
        omega
      have m0 : 0 ≤ m := by omega
      have hjl : (j : Int) < xs.length := by omega
      have hst := take_step xs j hlt
      have hor := or_byte m (xs.getD j 0) m0 m1 hd.1 hd.2
      generalize hy : xs.getD j 0 = y at hcell hd hst hor
      clear hh hx
      go_wp2
      refine ⟨⟨j + 1, m * 256 + y, hlt, by rw [← hor, hm], rfl, ?_⟩, by simp [intOf]; omega⟩
      show m * 256 + y = _
      rw [hst, be_snoc]
      omega
    · have hm : m = (be (xs.take j) : Nat) := hh.out
      obtain rfl : j = xs.length := by omega
      rw [List.take_length] at hm
      clear hh hx
      go_wp2
      go_ret
      subst hm
      exact ⟨rfl, r1, k1⟩
theorem rd_U8 (w : World) (b : Nat) (R : RS) (vv : Value) (h : Rdr w b R vv) : Calls Try.prog 41 #[.pointer (some ⟨b, 0, none⟩)] w fun e w' => e = .returned (.int .u64 (be (R.part 1))) ∧ Rdr w' b (R.next 1) vv ∧ But w.heap.size b w w' := by
  have hn := rd_num w b R vv 1 (by decide) h
  go_enter Try.func41, Try.ntmps41
  go_wp2_with (go_at_call 60; refine hn.mono ?_; rintro e w' ⟨rfl, r, k⟩)
  go_ret
  exact ⟨rfl, r, k⟩
theorem rd_U16 (w : World) (b : Nat) (R : RS) (vv : Value) (h : Rdr w b R vv) : Calls Try.prog 40 #[.pointer (some ⟨b, 0, none⟩)] w fun e w' => e = .returned (.int .u64 (be (R.part 2))) ∧ Rdr w' b (R.next 2) vv ∧ But w.heap.size b w w' := by
  have hn := rd_num w b R vv 2 (by decide) h
  go_enter Try.func40, Try.ntmps40
  go_wp2_with (go_at_call 60; refine hn.mono ?_; rintro e w' ⟨rfl, r, k⟩)
  go_ret
  exact ⟨rfl, r, k⟩
theorem rd_U24 (w : World) (b : Nat) (R : RS) (vv : Value) (h : Rdr w b R vv) : Calls Try.prog 50 #[.pointer (some ⟨b, 0, none⟩)] w fun e w' => e = .returned (.int .u64 (be (R.part 3))) ∧ Rdr w' b (R.next 3) vv ∧ But w.heap.size b w w' := by
  have hn := rd_num w b R vv 3 (by decide) h
  go_enter Try.func50, Try.ntmps50
  go_wp2_with (go_at_call 60; refine hn.mono ?_; rintro e w' ⟨rfl, r, k⟩)
  go_ret
  exact ⟨rfl, r, k⟩
theorem rd_U32 (w : World) (b : Nat) (R : RS) (vv : Value) (h : Rdr w b R vv) : Calls Try.prog 51 #[.pointer (some ⟨b, 0, none⟩)] w fun e w' => e = .returned (.int .u64 (be (R.part 4))) ∧ Rdr w' b (R.next 4) vv ∧ But w.heap.size b w w' := by
  have hn := rd_num w b R vv 4 (by decide) h
  go_enter Try.func51, Try.ntmps51
  go_wp2_with (go_at_call 60; refine hn.mono ?_; rintro e w' ⟨rfl, r, k⟩)
  go_ret
  exact ⟨rfl, r, k⟩
theorem rd_U48 (w : World) (b : Nat) (R : RS) (vv : Value) (h : Rdr w b R vv) : Calls Try.prog 52 #[.pointer (some ⟨b, 0, none⟩)] w fun e w' => e = .returned (.int .u64 (be (R.part 6))) ∧ Rdr w' b (R.next 6) vv ∧ But w.heap.size b w w' := by
  have hn := rd_num w b R vv 6 (by decide) h
  go_enter Try.func52, Try.ntmps52
  go_wp2_with (go_at_call 60; refine hn.mono ?_; rintro e w' ⟨rfl, r, k⟩)
  go_ret
  exact ⟨rfl, r, k⟩
theorem rd_U64 (w : World) (b : Nat) (R : RS) (vv : Value) (h : Rdr w b R vv) : Calls Try.prog 53 #[.pointer (some ⟨b, 0, none⟩)] w fun e w' => e = .returned (.int .u64 (be (R.part 8))) ∧ Rdr w' b (R.next 8) vv ∧ But w.heap.size b w w' := by
  have hn := rd_num w b R vv 8 (by decide) h
  go_enter Try.func53, Try.ntmps53
  go_wp2_with (go_at_call 60; refine hn.mono ?_; rintro e w' ⟨rfl, r, k⟩)
  go_ret
  exact ⟨rfl, r, k⟩
theorem rd_Bytes (w : World) (b : Nat) (R : RS) (vv : Value) (k : Int) (h : Rdr w b R vv) : Calls Try.prog 27 #[.pointer (some ⟨b, 0, none⟩), .int .i64 k] w fun e w' => ∃ v, e = .returned v ∧ Dat w' v (R.part k) ∧ Rdr w' b (R.next k) vv ∧ But w.heap.size b w w' := by
  have ht := rd_take w b R vv k h
  have hp := part_oct h.up k
  have h4 := h.2.2.2
  go_enter Try.func27, Try.ntmps27
  go_wp2_with (go_at_call 55; refine ht.mono ?_; rintro e w1 ⟨v, rfl, hs, r, k1⟩; clear ht)
  go_at_call 48
  refine (clone_is w1 v _ hs (by omega)).mono ?_
  rintro e w2 ⟨v', rfl, hd, k2⟩
  go_wp2
  go_ret
  exact ⟨v', rfl, hd, r.below k2, k1.then (.of_below k2)⟩
theorem rd_Left (w : World) (b : Nat) (R : RS) (vv : Value) (h : Rdr w b R vv) : Calls Try.prog 33 #[.pointer (some ⟨b, 0, none⟩)] w fun e w' => e = .returned (.int .i64 ((R.xs.length : Int) - R.n)) ∧ Below w.heap.size w w' := by
  have hl := rd_left w b R vv h
  go_enter Try.func33, Try.ntmps33
  go_wp2_with (go_at_call 56; refine (rd_valid _ _ _ _ (by assumption)).mono ?_; rintro e w' ⟨rfl, hw⟩; obtain rfl := hw.symm)
  go_at_call 58
  refine hl.mono ?_
  rintro e w1 ⟨rfl, k1⟩
  go_wp2
  go_ret
  exact ⟨rfl, k1⟩
theorem rd_At (w : World) (b : Nat) (R : RS) (vv : Value) (h : Rdr w b R vv) : Calls Try.prog 35 #[.pointer (some ⟨b, 0, none⟩)] w fun e w' => e = .returned (.int .i64 ((R.f : Int) + R.n)) ∧ w' = w := by
  have h0 := h
  obtain ⟨⟨hb, hd⟩, h1, h2, h3⟩ := h
  have c1 := hb.cell 1 (v := .int .i64 ((R.f : Int) + R.n)) rfl
  go_enter Try.func35, Try.ntmps35
  go_wp2_with (go_at_call 56; refine (rd_valid _ _ _ _ (by assumption)).mono ?_; rintro e w' ⟨rfl, hw⟩; obtain rfl := hw.symm)
  go_ret
  exact ⟨rfl, rfl⟩
theorem rd_Fault (w : World) (b : Nat) (R : RS) (vv : Value) (h : Rdr w b R vv) : Calls Try.prog 36 #[.pointer (some ⟨b, 0, none⟩)] w fun e w' => e = .returned (.agg #[.int .i64 R.er, .int .i64 R.ea]) ∧ Below w.heap.size w w' := by
  have h1 := h.below ((Below.refl _ _).alloc (Nat.le_refl _) (.cells #[.int .i64 0, .int .i64 0] 66))
  have z := h.lt
  obtain ⟨⟨hb, hd⟩, -⟩ := h
  have c5 := hb.cell 5 (v := .int .i64 R.er) rfl
  have c6 := hb.cell 6 (v := .int .i64 R.ea) rfl
  go_enter Try.func36, Try.ntmps36
  go_wp2_with (go_at_call 56; refine (rd_valid _ _ _ _ (by assumption)).mono ?_; rintro e w' ⟨rfl, hw⟩; obtain rfl := hw.symm)
  go_returns
  exact ⟨rfl, (Below.refl _ _).alloc (Nat.le_refl _) _⟩
theorem rd_new (w : World) (f : Nat) (v : Value) (xs : List Int) (h : Seg w v xs) (ho : Oct xs) (hl : f + xs.length ≤ 1099511627776) : Calls Try.prog 49 #[.int .i64 f, v] w fun e w' => ∃ b, e = .returned (.pointer (some ⟨b, 0, none⟩)) ∧ w.heap.size ≤ b ∧ (∃ u, Rdr w' b ⟨f, 0, xs, 0, 0⟩ u) ∧ Below w.heap.size w w' :=
  (_root_.Go.Proofs.Ytailaenkmknpiaa.rd_new w f v xs h ho hl).mono fun _ _ ⟨b, he, hb, ⟨⟨u, hu⟩, hr⟩, k⟩ => ⟨b, he, hb, ⟨u, hu, hr⟩, k⟩
theorem rd_New (w : World) (v : Value) (xs : List Int) (h : Seg w v xs) (ho : Oct xs) (hl : xs.length ≤ 1099511627776) : Calls Try.prog 23 #[v] w fun e w' => ∃ b, e = .returned (.pointer (some ⟨b, 0, none⟩)) ∧ w.heap.size ≤ b ∧ (∃ u, Rdr w' b ⟨0, 0, xs, 0, 0⟩ u) ∧ Below w.heap.size w w' :=
  (_root_.Go.Proofs.Ytailaenkmknpiaa.rd_New w v xs h ho hl).mono fun _ _ ⟨b, he, hb, ⟨⟨u, hu⟩, hr⟩, k⟩ => ⟨b, he, hb, ⟨u, hu, hr⟩, k⟩
theorem rd_Sub (w : World) (b : Nat) (R : RS) (vv : Value) (k : Int) (h : Rdr w b R vv) : Calls Try.prog 29 #[.pointer (some ⟨b, 0, none⟩), .int .i64 k] w fun e w' => ∃ c, e = .returned (.pointer (some ⟨c, 0, none⟩)) ∧ w.heap.size ≤ c ∧ _root_.Go.Proofs.Ytailaenkmknpiaa.Rdr w' c (R.sub k) ∧ Rdr w' b (R.next k) vv ∧ But w.heap.size b w w' := by
  have ht := rd_take w b R vv k h
  have hp := part_oct h.up k
  have h0 := h
  obtain ⟨⟨hb, hd⟩, h1, h2, h3⟩ := h
  have c1 := hb.cell 1 (v := .int .i64 ((R.f : Int) + R.n)) rfl
  go_enter Try.func29, Try.ntmps29
  go_wp2_with (go_at_call 56; refine (rd_valid _ _ _ _ (by assumption)).mono ?_; rintro e w' ⟨rfl, hw⟩; obtain rfl := hw.symm)
  go_at_call 55
  refine ht.mono ?_
  rintro e w1 ⟨v1, rfl, hs, r1, k1⟩
  clear ht hd hb c1
  have hn := _root_.Go.Proofs.Ytailaenkmknpiaa.rd_new w1 (R.f + R.n) v1 _ hs hp.1 (by omega)
  go_wp2_with fail
  go_at_call 49
  refine hn.mono ?_
  rintro e w2 ⟨c, rfl, hc, r2, k2⟩
  have r1' := r1.below k2
  have hcb : c ≠ b := fun e => by have := r1.lt; omega
  obtain ⟨⟨u, hu, hud⟩, hu2⟩ := r2
  obtain ⟨⟨hx, hxd⟩, hx2⟩ := r1'
  have c5 := hx.cell 5 (v := .int .i64 (R.next k).er) rfl
  have c6 := hx.cell 6 (v := .int .i64 (R.next k).ea) rfl
  have d5 := hu.cell 5 (v := .int .i64 0) rfl
  have d6 := hu.cell 6 (v := .int .i64 0) rfl
  have f5 := hu.frozen 5
  have f6 := hu.frozen 6
  go_wp2
  go_ret
  refine ⟨c, rfl, Nat.le_trans k1.size hc, ⟨⟨u, ?_, Dat.set (Dat.set hud hu (by decide) 5 _) (hu.set 5 _) (by decide) 6 _⟩, hu2⟩, ⟨⟨(hx.set_other 5 _ hcb).set_other 6 _ hcb, Dat.set (Dat.set hxd hu (by decide) 5 _) (hu.set 5 _) (by decide) 6 _⟩, hx2⟩, ?_⟩
  · exact (hu.set 5 _).set 6 _
  · have k3 : But w1.heap.size b w1 w2 := .of_below k2
    refine (k1.then k3).trans (.of_below ?_)
    exact ((Below.refl _ _).setCell (by show w.heap.size ≤ c; have := k1.size; omega) _).setCell (by show w.heap.size ≤ c; have := k1.size; omega) _
end Go.Proofs.Ytailaenkmknpiaa.V
