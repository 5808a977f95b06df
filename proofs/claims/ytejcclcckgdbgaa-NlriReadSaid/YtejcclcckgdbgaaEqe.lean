/- Two identifiers are the same just where all their bytes are. No condition. -/
import Derived.Test.YtejcclcckgdbgaaCmp
import Derived.Laws.StructEq
namespace Go.Proofs.Ytejcclcckgdbgaa
open Go.RowKit

def eqE (e f : Nat → Int) : Bool := (List.range' 0 10 1).all fun i => e i == f i
theorem eqE_iff (e f : Nat → Int) : eqE e f = true ↔ ∀ j, j < 10 → e j = f j := by
  simp [eqE, List.all_eq_true, List.mem_range'_1]

theorem run_part_esi (e : Nat → Int) (W : World) : ∀ i, i < 10 → (part 5 #[.int .u8 (e 0), .int .u8 (e 1), .int .u8 (e 2), .int .u8 (e 3), .int .u8 (e 4), .int .u8 (e 5), .int .u8 (e 6), .int .u8 (e 7), .int .u8 (e 8), .int .u8 (e 9)] (i * 1)).run Try.prog W = .ok (.int .u8 (e i)) W := by
  intro i hi
  rcases i with _ | _ | _ | _ | _ | _ | _ | _ | _ | _ | i
  all_goals first | omega | exact (by as_aux_lemma => kernel_rfl)

theorem run_eqE (e f : Nat → Int) (W : World) :
    Sem.run Try.prog (Op.equalIn 10000 31 (.agg #[.int .u8 (e 0), .int .u8 (e 1), .int .u8 (e 2), .int .u8 (e 3), .int .u8 (e 4), .int .u8 (e 5), .int .u8 (e 6), .int .u8 (e 7), .int .u8 (e 8), .int .u8 (e 9)]) (.agg #[.int .u8 (f 0), .int .u8 (f 1), .int .u8 (f 2), .int .u8 (f 3), .int .u8 (f 4), .int .u8 (f 5), .int .u8 (f 6), .int .u8 (f 7), .int .u8 (f 8), .int .u8 (f 9)])) W = .ok (eqE e f) W := by
  have hsz : ∀ w, (sizeOf 5).run Try.prog w = .ok 1 w := fun w => by kernel_rfl
  have hx := run_part_esi e
  have hy := run_part_esi f
  unfold eqE
  generalize (#[.int .u8 (e 0), .int .u8 (e 1), .int .u8 (e 2), .int .u8 (e 3), .int .u8 (e 4), .int .u8 (e 5), .int .u8 (e 6), .int .u8 (e 7), .int .u8 (e 8), .int .u8 (e 9)] : Array Value) = xs at hx ⊢
  generalize (#[.int .u8 (f 0), .int .u8 (f 1), .int .u8 (f 2), .int .u8 (f 3), .int .u8 (f 4), .int .u8 (f 5), .int .u8 (f 6), .int .u8 (f 7), .int .u8 (f 8), .int .u8 (f 9)] : Array Value) = ys at hy ⊢
  show Sem.run Try.prog (Op.equalIn (9998 + 2) 31 (.agg xs) (.agg ys)) W = _
  rw [Op.equalIn]
  simp only [Sem.run_bind, run_underlying Try.underlying31, Result.andThen_ok, hsz, Std.Legacy.Range.forIn_eq_forIn_range', Std.Legacy.Range.size, Nat.sub_zero, Nat.add_sub_cancel, Nat.div_one]
  have hl : ∀ i ∈ List.range' 0 10 1, i < 10 := fun i hi => by simpa using (List.mem_range'_1.1 hi).2
  generalize List.range' 0 10 1 = l at hl ⊢
  induction l with
  | nil => simp
  | cons i l ih =>
    have hi : i < 10 := hl i (by simp)
    have pe : (Op.equalIn (9998 + 1) 5 (.int .u8 (e i)) (.int .u8 (f i))).run Try.prog W = .ok (e i == f i) W :=
      run_equalIn_int W 9998 5 .u8 .u8 _ _ Try.underlying5
    simp only [List.forIn_cons, Sem.run_bind, hx W i hi, hy W i hi, pe, Result.andThen_ok, List.all_cons]
    cases hb : (e i == f i)
    · simp
    · simp only [Bool.not_true, Bool.false_eq_true, if_false, Sem.run_pure, Result.andThen_ok, Bool.true_and]
      exact ih fun j hj => hl j (by simp [hj])
end Go.Proofs.Ytejcclcckgdbgaa
