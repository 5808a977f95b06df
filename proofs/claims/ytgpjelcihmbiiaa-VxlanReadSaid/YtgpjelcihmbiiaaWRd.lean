/- The reader: its fields in memory; what each of its inner functions does. No condition. -/
import Derived.Test.YtgpjelcihmbiiaaWKit
namespace Go.Proofs.Ytgpjelcihmbiiaa
open Go.RowKit
set_option linter.unusedVariables false
set_option linter.unusedSimpArgs false
set_option maxRecDepth 100000

/-- A reader: the position of its first byte, how many it has read, its bytes, its fault. -/
structure RS where
  f : Nat
  n : Nat
  xs : List Int
  er : Int
  ea : Int
/-- Its cells, behind a slice value. -/
def RS.cells (R : RS) (v : Value) : List Value := [.int .i64 R.f, .int .i64 ((R.f : Int) + R.n), .int .i64 ((R.f : Int) + R.xs.length), .bool true, v, .int .i64 R.er, .int .i64 R.ea]
/-- It lies in block b. -/
def Rdr (w : World) (b : Nat) (R : RS) : Prop := (∃ v, Blk w b 132 (R.cells v) ∧ Dat w v R.xs) ∧ Oct R.xs ∧ R.n ≤ R.xs.length ∧ R.f + R.xs.length ≤ 1099511627776
theorem Rdr.below {w w' : World} {b : Nat} {R : RS} (h : Rdr w b R) (k : Below w.heap.size w w') : Rdr w' b R := by
  obtain ⟨⟨v, hb, hd⟩, h2⟩ := h
  exact ⟨⟨v, hb.below k hb.lt, hd.below k⟩, h2⟩
theorem Rdr.lt {w : World} {b : Nat} {R : RS} (h : Rdr w b R) : b < w.heap.size := by
  obtain ⟨⟨v, hb, hd⟩, h2⟩ := h
  exact hb.lt

theorem below_drewN (B : Nat) (w : World) (n : Nat) : Below B w (w.drewN n) := ⟨rfl, rfl, rfl, Nat.le_refl _, fun _ _ => rfl⟩
theorem rd_valid (w : World) (b : Nat) (R : RS) (h : Rdr w b R) : Calls Try.prog 95 #[.pointer (some ⟨b, 0, none⟩)] w fun e w' => e = .returned (.bool true) ∧ w' = w := by
  obtain ⟨⟨v, hb, hd⟩, h2⟩ := h
  have c3 := hb.cell 3 (v := .bool true) rfl
  go_enter Try.func95, Try.ntmps95
  go_wp2
  go_ret
  exact ⟨rfl, rfl⟩
theorem rd_failed (w : World) (b : Nat) (R : RS) (h : Rdr w b R) : Calls Try.prog 98 #[.pointer (some ⟨b, 0, none⟩)] w fun e w' => e = .returned (.bool (R.er != 0)) ∧ w' = w := by
  obtain ⟨⟨v, hb, hd⟩, h2⟩ := h
  have c5 := hb.cell 5 (v := .int .i64 R.er) rfl
  go_enter Try.func98, Try.ntmps98
  go_wp2
  go_ret
  exact ⟨rfl, rfl⟩
theorem rd_left (w : World) (b : Nat) (R : RS) (h : Rdr w b R) : Calls Try.prog 96 #[.pointer (some ⟨b, 0, none⟩)] w fun e w' => e = .returned (.int .i64 ((R.xs.length : Int) - R.n)) ∧ Below w.heap.size w w' := by
  obtain ⟨⟨v, hb, hd⟩, h1, h2, h3⟩ := h
  have c1 := hb.cell 1 (v := .int .i64 ((R.f : Int) + R.n)) rfl
  have c2 := hb.cell 2 (v := .int .i64 ((R.f : Int) + R.xs.length)) rfl
  have e : (R.f : Int) + R.xs.length - (R.f + R.n) = (R.xs.length : Int) - R.n := by omega
  go_enter Try.func96, Try.ntmps96
  go_wp2
  go_quiet (fail)
  go_wp2
  go_ret
  exact ⟨by simp <;> omega, below_drewN _ _ _⟩

/-- What advancing makes of it. -/
def RS.adv (R : RS) (k : Nat) : RS := { R with n := R.n + k }
theorem rd_advance (w : World) (b : Nat) (R : RS) (k : Nat) (h : Rdr w b R) (hk : R.n + k ≤ R.xs.length) : Calls Try.prog 99 #[.pointer (some ⟨b, 0, none⟩), .int .i64 k] w fun e w' => e = .returned (.tuple #[.int .i64 R.n, .int .i64 ((R.n : Int) + k)]) ∧ Rdr w' b (R.adv k) ∧ But w.heap.size b w w' := by
  obtain ⟨⟨v, hb, hd⟩, h1, h2, h3⟩ := h
  have c0 := hb.cell 0 (v := .int .i64 R.f) rfl
  have c1 := hb.cell 1 (v := .int .i64 ((R.f : Int) + R.n)) rfl
  have f1 := hb.frozen 1
  go_enter Try.func99, Try.ntmps99
  go_wp2
  go_quiet (fail)
  go_wp2
  go_ret2
  have e1 : (R.f : Int) + R.n - R.f = R.n := by omega
  have e2 : (R.f : Int) + R.n + k = R.f + ((R.n + k : Nat) : Int) := by omega
  refine ⟨by simp [e1], ⟨⟨v, ?_, Dat.set (w := w.drewN nq) hd hb (by decide) 1 _⟩, h1, hk, h3⟩, (But.of_below (below_drewN _ _ _)).setCell _ _⟩
  have := Blk.set (w := w.drewN nq) hb 1 (.int .i64 ((R.f : Int) + R.n + k))
  rw [e2] at this ⊢
  exact this

def RS.fail (R : RS) (e : Int) : RS := if R.er = 0 ∧ e ≠ 0 then { R with er := e, ea := (R.f : Int) + R.n } else R
theorem rd_Fail (w : World) (b : Nat) (R : RS) (x : Int) (h : Rdr w b R) : Calls Try.prog 97 #[.pointer (some ⟨b, 0, none⟩), .int .i64 x] w fun e w' => e = .returned (.tuple #[]) ∧ Rdr w' b (R.fail x) ∧ But w.heap.size b w w' := by
  have hv := rd_valid w b R h
  have hf := rd_failed w b R h
  have h0 := h
  obtain ⟨⟨v, hb, hd⟩, h1, h2, h3⟩ := h
  have c1 := hb.cell 1 (v := .int .i64 ((R.f : Int) + R.n)) rfl
  have f5 := hb.frozen 5
  have f6 := hb.frozen 6
  have c5 := hb.cell 5 (v := .int .i64 R.er) rfl
  have c6 := hb.cell 6 (v := .int .i64 R.ea) rfl
  by_cases he : R.er = 0
  · by_cases hx : x = 0
    · have ef : R.fail x = R := by simp [RS.fail, hx]
      rw [he] at hf
      subst hx
      go_enter Try.func97, Try.ntmps97
      go_wp2_with (first | (go_at_call 95; refine hv.mono ?_; rintro e w' ⟨rfl, rfl⟩) | (go_at_call 98; refine hf.mono ?_; rintro e w' ⟨rfl, rfl⟩))
      go_returns
      rw [ef]
      exact ⟨rfl, h0, But.refl _ _ _⟩
    · have ef : R.fail x = { R with er := x, ea := (R.f : Int) + R.n } := by simp [RS.fail, hx, he]
      rw [he] at hf
      go_enter Try.func97, Try.ntmps97
      go_wp2_with (first | (go_at_call 95; refine hv.mono ?_; rintro e w' ⟨rfl, rfl⟩) | (go_at_call 98; refine hf.mono ?_; rintro e w' ⟨rfl, rfl⟩))
      go_end0
      rw [ef]
      refine ⟨rfl, ⟨⟨v, ?_, Dat.set (Dat.set hd hb (by decide) 5 _) (hb.set 5 _) (by decide) 6 _⟩, h1, h2, h3⟩, ((But.refl _ _ _).setCell _ _).setCell _ _⟩
      exact (hb.set 5 _).set 6 _
  · have ef : R.fail x = R := by simp [RS.fail, he]
    have hne : (R.er != 0) = true := by simpa using he
    rw [hne] at hf
    go_enter Try.func97, Try.ntmps97
    go_wp2_with (first | (go_at_call 95; refine hv.mono ?_; rintro e w' ⟨rfl, rfl⟩) | (go_at_call 98; refine hf.mono ?_; rintro e w' ⟨rfl, rfl⟩))
    go_returns
    rw [ef]
    exact ⟨rfl, h0, But.refl _ _ _⟩
end Go.Proofs.Ytgpjelcihmbiiaa
