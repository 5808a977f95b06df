/- Communities as values: their bytes, when two are the same, their kinds' table. No condition. -/
import Derived.Test.YtmajalobkcnobaaDoorCKit
import Derived.LoopTactic
import Derived.Laws.BitsAllLaws
namespace Go.Proofs.YtmajalobkcnobaaDoor
open Go.RowKit Go.Sort
set_option linter.unusedVariables false
set_option linter.unusedSimpArgs false
set_option maxRecDepth 100000

/-- The bytes of a community of a type with a content. -/
def mk (a b n : Int) : Nat → Int
  | 0 => a
  | 1 => b
  | 2 => n / 1099511627776 % 256
  | 3 => n / 4294967296 % 256
  | 4 => n / 16777216 % 256
  | 5 => n / 65536 % 256
  | 6 => n / 256 % 256
  | _ => n % 256

def eqC (e f : Nat → Int) : Bool := (List.range' 0 8 1).all fun i => e i == f i
theorem eqC_iff (e f : Nat → Int) : eqC e f = true ↔ ∀ j, j < 8 → e j = f j := by
  simp [eqC, List.all_eq_true, List.mem_range'_1]
theorem eqC_refl (e : Nat → Int) : eqC e e = true := (eqC_iff e e).2 fun _ _ => rfl

theorem run_part_c (e : Nat → Int) (W : World) : ∀ i, i < 8 → (part 5 #[.int .u8 (e 0), .int .u8 (e 1), .int .u8 (e 2), .int .u8 (e 3), .int .u8 (e 4), .int .u8 (e 5), .int .u8 (e 6), .int .u8 (e 7)] (i * 1)).run Tryd.prog W = .ok (.int .u8 (e i)) W := by
  intro i hi
  rcases i with _ | _ | _ | _ | _ | _ | _ | _ | i
  all_goals first | omega | exact (by as_aux_lemma => kernel_rfl)

theorem run_eqC (e f : Nat → Int) (W : World) :
    Sem.run Tryd.prog (Op.equalIn 10000 24 (.agg #[.int .u8 (e 0), .int .u8 (e 1), .int .u8 (e 2), .int .u8 (e 3), .int .u8 (e 4), .int .u8 (e 5), .int .u8 (e 6), .int .u8 (e 7)]) (.agg #[.int .u8 (f 0), .int .u8 (f 1), .int .u8 (f 2), .int .u8 (f 3), .int .u8 (f 4), .int .u8 (f 5), .int .u8 (f 6), .int .u8 (f 7)])) W = .ok (eqC e f) W := by
  have hsz : ∀ w, (sizeOf 5).run Tryd.prog w = .ok 1 w := fun w => by kernel_rfl
  have hx := run_part_c e
  have hy := run_part_c f
  unfold eqC
  generalize (#[.int .u8 (e 0), .int .u8 (e 1), .int .u8 (e 2), .int .u8 (e 3), .int .u8 (e 4), .int .u8 (e 5), .int .u8 (e 6), .int .u8 (e 7)] : Array Value) = xs at hx ⊢
  generalize (#[.int .u8 (f 0), .int .u8 (f 1), .int .u8 (f 2), .int .u8 (f 3), .int .u8 (f 4), .int .u8 (f 5), .int .u8 (f 6), .int .u8 (f 7)] : Array Value) = ys at hy ⊢
  show Sem.run Tryd.prog (Op.equalIn (9998 + 2) 24 (.agg xs) (.agg ys)) W = _
  rw [Op.equalIn]
  simp only [Sem.run_bind, run_underlying Tryd.underlying24, Result.andThen_ok, hsz, Std.Legacy.Range.forIn_eq_forIn_range', Std.Legacy.Range.size, Nat.sub_zero, Nat.add_sub_cancel, Nat.div_one]
  have hl : ∀ i ∈ List.range' 0 8 1, i < 8 := fun i hi => by simpa using (List.mem_range'_1.1 hi).2
  generalize List.range' 0 8 1 = l at hl ⊢
  induction l with
  | nil => simp
  | cons i l ih =>
    have hi : i < 8 := hl i (by simp)
    have pe : (Op.equalIn (9998 + 1) 5 (.int .u8 (e i)) (.int .u8 (f i))).run Tryd.prog W = .ok (e i == f i) W :=
      run_equalIn_int W 9998 5 .u8 .u8 _ _ Tryd.underlying5
    simp only [List.forIn_cons, Sem.run_bind, hx W i hi, hy W i hi, pe, Result.andThen_ok, List.all_cons]
    cases hb : (e i == f i)
    · simp
    · simp only [Bool.not_true, Bool.false_eq_true, if_false, Sem.run_pure, Result.andThen_ok, Bool.true_and]
      exact ih fun j hj => hl j (by simp [hj])

/-- A part of an array by a known index. -/
theorem run_equal_u8 (x y : Int) (W : World) : Sem.run Tryd.prog (Op.equalIn 10000 5 (.int .u8 x) (.int .u8 y)) W = .ok (x == y) W :=
  run_equalIn_int W 9999 5 .u8 .u8 _ _ Tryd.underlying5

/-- The types of the kinds, each at its number. -/
def khi : Nat → Int | 2 => 3 | 3 => 6 | 4 => 6 | 5 => 6 | 6 => 6 | 7 => 6 | _ => 0
def klo : Nat → Int | 1 => 2 | 2 => 12 | 4 => 1 | 5 => 2 | 6 => 3 | 7 => 6 | _ => 0
def KI (w : World) : Prop := w.cell? ⟨0, 0, none⟩ = some (.int .u8 0) ∧ w.cell? ⟨0, 1, none⟩ = some (.int .u8 0) ∧ w.cell? ⟨0, 2, none⟩ = some (.int .u8 0) ∧ w.cell? ⟨0, 3, none⟩ = some (.int .u8 2) ∧ w.cell? ⟨0, 4, none⟩ = some (.int .u8 3) ∧ w.cell? ⟨0, 5, none⟩ = some (.int .u8 12) ∧ w.cell? ⟨0, 6, none⟩ = some (.int .u8 6) ∧ w.cell? ⟨0, 7, none⟩ = some (.int .u8 0) ∧ w.cell? ⟨0, 8, none⟩ = some (.int .u8 6) ∧ w.cell? ⟨0, 9, none⟩ = some (.int .u8 1) ∧ w.cell? ⟨0, 10, none⟩ = some (.int .u8 6) ∧ w.cell? ⟨0, 11, none⟩ = some (.int .u8 2) ∧ w.cell? ⟨0, 12, none⟩ = some (.int .u8 6) ∧ w.cell? ⟨0, 13, none⟩ = some (.int .u8 3) ∧ w.cell? ⟨0, 14, none⟩ = some (.int .u8 6) ∧ w.cell? ⟨0, 15, none⟩ = some (.int .u8 6)
theorem KI.lt {w : World} (h : KI w) : 0 < w.heap.size := block_lt_of_cell h.1
theorem KI.below {w w' : World} {B : Nat} (h : KI w) (k : Below B w w') (hB : 0 < B) : KI w' := by
  have e : ∀ o, w'.cell? ⟨0, o, none⟩ = w.cell? ⟨0, o, none⟩ := fun o => k.cell (p := ⟨0, o, none⟩) hB
  unfold KI at h ⊢
  simpa only [e] using h
theorem KI.cells {w : World} (h : KI w) : ∀ k, k < 8 → w.cell? ⟨0, k * 2, none⟩ = some (.int .u8 (khi k)) ∧ w.cell? ⟨0, k * 2 + 1, none⟩ = some (.int .u8 (klo k)) := by
  unfold KI at h
  intro k hk
  rcases k with _ | _ | _ | _ | _ | _ | _ | _ | k
  all_goals first | omega | (simp only [khi, klo, Nat.reduceMul, Nat.reduceAdd, Nat.zero_mul, Nat.zero_add]; refine ⟨?_, ?_⟩ <;> simp [h])

/-- The kind of a type. -/
def kd (a b : Int) : Nat := if a = 0 ∧ b = 2 then 1 else if a = 3 ∧ b = 12 then 2 else if a = 6 ∧ b = 0 then 3 else if a = 6 ∧ b = 1 then 4 else if a = 6 ∧ b = 2 then 5 else if a = 6 ∧ b = 3 then 6 else if a = 6 ∧ b = 6 then 7 else 0
theorem kd_le (a b : Int) : kd a b ≤ 7 := by
  unfold kd
  repeat' split
  all_goals omega
theorem kd_at (k : Nat) (h : k < 8) : kd (khi k) (klo k) = k := by
  rcases k with _ | _ | _ | _ | _ | _ | _ | _ | k
  all_goals first | omega | decide
theorem kd_none {a b : Int} (h : ∀ j, j < 8 → ¬ (khi j = a ∧ klo j = b)) : kd a b = 0 := by
  have h1 := h 1 (by decide); have h2 := h 2 (by decide); have h3 := h 3 (by decide); have h4 := h 4 (by decide); have h5 := h 5 (by decide); have h6 := h 6 (by decide); have h7 := h 7 (by decide)
  simp only [khi, klo] at h1 h2 h3 h4 h5 h6 h7
  unfold kd
  repeat' split
  all_goals omega
end Go.Proofs.YtmajalobkcnobaaDoor
