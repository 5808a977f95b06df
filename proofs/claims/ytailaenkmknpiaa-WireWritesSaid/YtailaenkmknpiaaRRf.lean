/- The reference's reader: its fields in memory; what its methods do, in the words of the program's reader. No condition. -/
import Derived.Test.YtailaenkmknpiaaRSel
namespace Go.Proofs.Ytailaenkmknpiaa
open Go.RowKit Go.Sort
set_option linter.unusedVariables false
set_option linter.unusedSimpArgs false
set_option maxRecDepth 100000

/-- Its cells: all octets lie at u. -/
def RS.rcells (R : RS) (u : Value) : List Value := [u, .int .i64 ((R.f : Int) + R.n), .int .i64 ((R.f : Int) + R.xs.length), .int .i64 R.er, .int .i64 R.ea]
/-- It lies in block b. -/
def Rf (w : World) (b : Nat) (R : RS) (u : Value) (all : List Int) : Prop := (Blk w b 68 (R.rcells u) ∧ Dat w u all) ∧ Oct all ∧ (all.drop R.f).take R.xs.length = R.xs ∧ R.f + R.xs.length ≤ all.length ∧ R.n ≤ R.xs.length ∧ all.length ≤ 1048576
theorem Rf.below {w w' : World} {b : Nat} {R : RS} {u : Value} {all : List Int} (h : Rf w b R u all) (k : Below w.heap.size w w') : Rf w' b R u all := by
  obtain ⟨⟨hb, hd⟩, h2⟩ := h
  exact ⟨⟨hb.below k hb.lt, hd.below k⟩, h2⟩
theorem Rf.lt {w : World} {b : Nat} {R : RS} {u : Value} {all : List Int} (h : Rf w b R u all) : b < w.heap.size := h.1.1.lt
theorem Rf.but {w w' : World} {b c : Nat} {R : RS} {u : Value} {all : List Int} {t : TypeId} {cs : List Value} (h : Rf w b R u all) (k : But w.heap.size c w w') (hc : Blk w c t cs) (ht : t ≠ 5) (hn : b ≠ c) : Rf w' b R u all := by
  obtain ⟨⟨hb, hd⟩, h2⟩ := h
  exact ⟨⟨k.blk hb hb.lt hn, hd.but k hc ht⟩, h2⟩
theorem V.Rdr.but {w w' : World} {b c : Nat} {R : RS} {u : Value} {t : TypeId} {cs : List Value} (h : V.Rdr w b R u) (k : But w.heap.size c w w') (hc : Blk w c t cs) (ht : t ≠ 5) (hn : b ≠ c) : V.Rdr w' b R u := by
  obtain ⟨⟨hb, hd⟩, h2⟩ := h
  exact ⟨⟨k.blk hb hb.lt hn, hd.but k hc ht⟩, h2⟩
/-- Part of the octets, seen from their whole. -/
theorem part_all {all xs : List Int} {f n k : Nat} (hx : (all.drop f).take xs.length = xs) (hk : n + k ≤ xs.length) : (xs.drop n).take k = (all.drop (f + n)).take k := by
  have e : xs.drop n = ((all.drop f).take xs.length).drop n := by rw [hx]
  rw [e, List.drop_take, List.drop_drop, List.take_take, Nat.min_eq_left (by omega)]
theorem Dat.at {w : World} {v : Value} {xs : List Int} {g cap n : Nat} (h : Dat w v xs) (hv : v = .slice (some ⟨g, 0, none⟩) n cap) (i : Nat) (hi : i < xs.length) : w.cell? ⟨g, i, none⟩ = some (.int .u8 (xs.getD i 0)) := by
  rcases h.form with ⟨e, -⟩ | ⟨g', cap', cs, e, h1, h2, hb, h3, h4⟩
  · rw [hv] at e
    cases e
  · rw [hv] at e
    cases e
    exact hb.cell _ (take_at h4 i hi)

theorem rf_Has_yes (w : World) (b : Nat) (R : RS) (u : Value) (all : List Int) (k : Int) (h : Rf w b R u all) (hk : R.ok k) : Calls Try.prog 54 #[.pointer (some ⟨b, 0, none⟩), .int .i64 k] w fun e w' => e = .returned (.bool true) ∧ Below w.heap.size w w' := by
  obtain ⟨⟨hb, hd⟩, ho, hx, hl, hn, hz⟩ := h
  obtain ⟨k0, k1, k2⟩ := hk
  have c1 := hb.cell 1 (v := .int .i64 ((R.f : Int) + R.n)) rfl
  have c2 := hb.cell 2 (v := .int .i64 ((R.f : Int) + R.xs.length)) rfl
  have c3 := hb.cell 3 (v := .int .i64 R.er) rfl
  rw [k0] at c3
  have b1 : decide (k < 0) = false := by simp; omega
  have b2 : decide ((R.f : Int) + R.xs.length - (R.f + R.n) < k) = false := by simp; omega
  clear hd ho hx hb
  go_enter Try.func54, Try.ntmps54
  go_wp2
  go_quiet (fail)
  go_wp2
  go_ret
  exact ⟨rfl, below_drewN _ _ _⟩
theorem rf_Has_short (w : World) (b : Nat) (R : RS) (u : Value) (all : List Int) (k : Int) (h : Rf w b R u all) (h0 : R.er = 0) (hk : k < 0 ∨ (R.xs.length : Int) - R.n < k) : Calls Try.prog 54 #[.pointer (some ⟨b, 0, none⟩), .int .i64 k] w fun e w' => e = .returned (.bool false) ∧ Rf w' b (R.fail 4) u all ∧ But w.heap.size b w w' := by
  obtain ⟨⟨hb, hd⟩, ho, hx, hl, hn, hz⟩ := h
  have ef : R.fail 4 = { R with er := 4, ea := (R.f : Int) + R.n } := by simp [RS.fail, h0]
  have c1 := hb.cell 1 (v := .int .i64 ((R.f : Int) + R.n)) rfl
  have c2 := hb.cell 2 (v := .int .i64 ((R.f : Int) + R.xs.length)) rfl
  have c3 := hb.cell 3 (v := .int .i64 R.er) rfl
  have c4 := hb.cell 4 (v := .int .i64 R.ea) rfl
  have f3 := hb.frozen 3
  have f4 := hb.frozen 4
  rw [h0] at c3
  by_cases hneg : k < 0
  · have b1 : decide (k < 0) = true := by simpa using hneg
    clear hk hneg
    go_enter Try.func54, Try.ntmps54
    go_wp2
    go_quiet (fail)
    go_wp2
    go_ret
    rw [ef]
    refine ⟨rfl, ⟨⟨?_, Dat.set (Dat.set (w := w.drewN nq) hd hb (by decide) 3 _) (Blk.set (w := w.drewN nq) hb 3 _) (by decide) 4 _⟩, ho, hx, hl, hn, hz⟩, ((But.of_below (below_drewN _ _ _)).setCell _ _).setCell _ _⟩
    exact (Blk.set (w := w.drewN nq) hb 3 _).set 4 _
  · have b1 : decide (k < 0) = false := by simpa using hneg
    have b2 : decide ((R.f : Int) + R.xs.length - (R.f + R.n) < k) = true := by simp; omega
    clear hk hneg
    go_enter Try.func54, Try.ntmps54
    go_wp2
    go_quiet (fail)
    go_wp2
    go_ret
    rw [ef]
    refine ⟨rfl, ⟨⟨?_, Dat.set (Dat.set (w := w.drewN nq) hd hb (by decide) 3 _) (Blk.set (w := w.drewN nq) hb 3 _) (by decide) 4 _⟩, ho, hx, hl, hn, hz⟩, ((But.of_below (below_drewN _ _ _)).setCell _ _).setCell _ _⟩
    exact (Blk.set (w := w.drewN nq) hb 3 _).set 4 _
theorem rf_Has_bad (w : World) (b : Nat) (R : RS) (u : Value) (all : List Int) (k : Int) (h : Rf w b R u all) (h0 : R.er ≠ 0) : Calls Try.prog 54 #[.pointer (some ⟨b, 0, none⟩), .int .i64 k] w fun e w' => e = .returned (.bool false) ∧ Below w.heap.size w w' := by
  obtain ⟨⟨hb, hd⟩, ho, hx, hl, hn, hz⟩ := h
  have c3 := hb.cell 3 (v := .int .i64 R.er) rfl
  have hne : (R.er == 0) = false := by simpa using h0
  clear hd ho hx
  go_enter Try.func54, Try.ntmps54
  go_wp2
  go_quiet (fail)
  go_wp2
  go_ret
  exact ⟨rfl, below_drewN _ _ _⟩
theorem rf_Has_no (w : World) (b : Nat) (R : RS) (u : Value) (all : List Int) (k : Int) (h : Rf w b R u all) (hk : ¬ R.ok k) : Calls Try.prog 54 #[.pointer (some ⟨b, 0, none⟩), .int .i64 k] w fun e w' => e = .returned (.bool false) ∧ Rf w' b (R.next k) u all ∧ But w.heap.size b w w' := by
  have e2 : R.next k = R.fail 4 := if_neg hk
  rw [e2]
  by_cases h0 : R.er = 0
  · refine rf_Has_short w b R u all k h h0 ?_
    unfold RS.ok at hk
    omega
  · have ef : R.fail 4 = R := by simp [RS.fail, h0]
    rw [ef]
    exact (rf_Has_bad w b R u all k h h0).mono fun e w' ⟨he, hb⟩ => ⟨he, h.below hb, .of_below hb⟩
theorem rf_Left (w : World) (b : Nat) (R : RS) (u : Value) (all : List Int) (h : Rf w b R u all) : Calls Try.prog 34 #[.pointer (some ⟨b, 0, none⟩)] w fun e w' => e = .returned (.int .i64 ((R.xs.length : Int) - R.n)) ∧ Below w.heap.size w w' := by
  obtain ⟨⟨hb, hd⟩, ho, hx, hl, hn, hz⟩ := h
  have c1 := hb.cell 1 (v := .int .i64 ((R.f : Int) + R.n)) rfl
  have c2 := hb.cell 2 (v := .int .i64 ((R.f : Int) + R.xs.length)) rfl
  have e : (R.f : Int) + R.xs.length - (R.f + R.n) = (R.xs.length : Int) - R.n := by omega
  clear hd ho hx
  go_enter Try.func34, Try.ntmps34
  go_wp2
  go_quiet (fail)
  go_wp2
  go_ret
  exact ⟨by simp <;> omega, below_drewN _ _ _⟩
theorem rf_Fail (w : World) (b : Nat) (R : RS) (u : Value) (all : List Int) (x : Int) (h : Rf w b R u all) : Calls Try.prog 32 #[.pointer (some ⟨b, 0, none⟩), .int .i64 x] w fun e w' => e = .returned (.tuple #[]) ∧ Rf w' b (R.fail x) u all ∧ But w.heap.size b w w' := by
  have h0 := h
  obtain ⟨⟨hb, hd⟩, ho, hx, hl, hn, hz⟩ := h
  have c1 := hb.cell 1 (v := .int .i64 ((R.f : Int) + R.n)) rfl
  have c3 := hb.cell 3 (v := .int .i64 R.er) rfl
  have c4 := hb.cell 4 (v := .int .i64 R.ea) rfl
  have f3 := hb.frozen 3
  have f4 := hb.frozen 4
  by_cases hx0 : x = 0
  · have ef : R.fail x = R := by simp [RS.fail, hx0]
    rw [ef]
    subst hx0
    go_enter Try.func32, Try.ntmps32
    go_wp2
    go_end0
    exact ⟨rfl, h0, But.refl _ _ _⟩
  · have hq : (x != 0) = true := by simpa using hx0
    by_cases he : R.er = 0
    · have ef : R.fail x = { R with er := x, ea := (R.f : Int) + R.n } := by simp [RS.fail, hx0, he]
      rw [ef]
      rw [he] at c3
      go_enter Try.func32, Try.ntmps32
      go_wp2
      go_end0
      refine ⟨rfl, ⟨⟨?_, Dat.set (Dat.set hd hb (by decide) 3 _) (hb.set 3 _) (by decide) 4 _⟩, ho, hx, hl, hn, hz⟩, ((But.refl _ _ _).setCell _ _).setCell _ _⟩
      exact (hb.set 3 _).set 4 _
    · have ef : R.fail x = R := by simp [RS.fail, he]
      have hne : (R.er == 0) = false := by simpa using he
      rw [ef]
      go_enter Try.func32, Try.ntmps32
      go_wp2
      go_end0
      exact ⟨rfl, h0, But.refl _ _ _⟩
end Go.Proofs.Ytailaenkmknpiaa
