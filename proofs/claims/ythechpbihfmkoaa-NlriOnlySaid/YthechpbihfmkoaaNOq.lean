/- Pick, Same of octets, slices from the start, and octets that come in. No condition. -/
import Derived.Test.YthechpbihfmkoaaNFl
import Derived.Test.YthechpbihfmkoaaNCu
import Derived.Test.YthechpbihfmkoaaNSm
import Derived.Deep.SlicePairs
namespace Go.Proofs.Ythechpbihfmkoaa
open Go.RowKit Go.Sort
set_option linter.unusedVariables false
set_option linter.unusedSimpArgs false
set_option maxRecDepth 100000

def pk (x : Int) (n : Nat) : Nat := (if x.tmod n < 0 then x.tmod n + n else x.tmod n).toNat
theorem pk_lt (x : Int) (n : Nat) (h : 0 < n) : pk x n < n := by
  have b1 := Int.tmod_lt_of_pos x (show (0 : Int) < n by omega)
  have b2 : -(n : Int) < x.tmod n := Int.lt_tmod_of_pos x (show (0 : Int) < n by omega)
  unfold pk
  split <;> omega
theorem pick_eq (x : Int) (n : Nat) (h0 : 0 < n) (h1 : n ≤ 4611686018427387904) (hx : -9223372036854775808 ≤ x ∧ x ≤ 9223372036854775807) (w : World) :
    Calls Try.prog 27 #[.int .i64 x, .int .i64 n] w fun e w' => e = .returned (.int .i64 (pk x n)) ∧ w' = w := by
  have hn : ¬ (n : Int) = 0 := by omega
  have hn' : ((n : Int) == 0) = false := by simpa using hn
  have b1 := Int.tmod_lt_of_pos x (show (0 : Int) < n by omega)
  have b2 : -(n : Int) < x.tmod n := Int.lt_tmod_of_pos x (show (0 : Int) < n by omega)
  by_cases hneg : x.tmod n < 0
  · have e : ((pk x n : Nat) : Int) = x.tmod n + n := by
      unfold pk
      rw [if_pos hneg, Int.toNat_of_nonneg (by omega)]
    rw [e]
    clear e
    go_enter Try.func27, Try.ntmps27
    go_wp2
    go_ret
    exact ⟨rfl, rfl⟩
  · have e : ((pk x n : Nat) : Int) = x.tmod n := by
      unfold pk
      rw [if_neg hneg, Int.toNat_of_nonneg (by omega)]
    rw [e]
    clear e
    go_enter Try.func27, Try.ntmps27
    go_wp2
    go_ret
    exact ⟨rfl, rfl⟩
theorem slice_b {w : World} {v : Value} {xs : List Int} (h : Seg w v xs) (n : Nat) (hn : n ≤ xs.length) : ∃ v1, (∀ W, (Instr.slice 23 v none (some (.int .i64 n)) none).run Try.prog W = .ok v1 W) ∧ Seg w v1 (xs.take n) := by
  have ht : Try.prog.underlying 23 = some (.slice (Try.prog.elem 23)) := by rw [elem_bytes]; exact Try.underlying23
  have hl : (xs.take n).length = n := by rw [List.length_take]; omega
  obtain ⟨a, c, rfl, hc, hx⟩ := h
  refine ⟨.slice (if c = 0 then a else a.map (·.add (0 * 1))) n c, fun W => ?_, ?_⟩
  · have es : (sizeOf (Try.prog.elem 23)).run Try.prog W = .ok 1 W := by rw [elem_bytes]; exact Try.sizeOf5 W
    rw [run_slice_h W _ _ _ _ ht .i64 _ (by omega) (by omega), es]
    simp [sliced, Result.andThen]
  · have ha : (if c = 0 then a else a.map (·.add (0 * 1))) = a := by
      split
      · rfl
      · cases a <;> simp [Addr.add]
    rw [ha]
    refine ⟨a, c, by rw [hl], by rw [hl]; omega, fun i hi => ?_⟩
    rw [hl] at hi
    obtain ⟨b, o, e, hcell⟩ := hx i (by omega)
    refine ⟨b, o, e, ?_⟩
    rw [hcell, List.getD_eq_getElem?_getD, List.getD_eq_getElem?_getD, List.getElem?_take_of_lt hi]
theorem elemN : Try.prog.elem 38 = 36 := by kernel_rfl
theorem slice_n {w : World} {v : Value} {L : List NL} (h : NSeg w v L) (n : Nat) (hn : n ≤ L.length) : ∃ v1, (∀ W, (Instr.slice 38 v none (some (.int .i64 n)) none).run Try.prog W = .ok v1 W) ∧ NSeg w v1 (L.take n) := by
  have ht : Try.prog.underlying 38 = some (.slice (Try.prog.elem 38)) := by rw [elemN]; exact Try.underlying38
  have hl : (L.take n).length = n := by rw [List.length_take]; omega
  obtain ⟨a, c, rfl, hc, hx⟩ := h
  refine ⟨.slice (if c = 0 then a else a.map (·.add (0 * 21))) n c, fun W => ?_, ?_⟩
  · have es : (sizeOf (Try.prog.elem 38)).run Try.prog W = .ok 21 W := by rw [elemN]; exact Try.sizeOf36 W
    rw [run_slice_h W _ _ _ _ ht .i64 _ (by omega) (by omega), es]
    simp [sliced, Result.andThen]
  · have ha : (if c = 0 then a else a.map (·.add (0 * 21))) = a := by
      split
      · rfl
      · cases a <;> simp [Addr.add]
    rw [ha]
    refine ⟨a, c, by rw [hl], by rw [hl]; omega, fun i e hi => ?_⟩
    rw [List.getElem?_take] at hi
    split at hi
    · exact hx i e hi
    · cases hi
section
variable {ops : Array Oper} {rest : List Oper} {o : Oper} {a : Act} {w : World} {Q : Exit → Act → World → Prop}
theorem at_sliceH (hgd : o.guard = none) (ty : TypeId) (hu : Try.prog.underlying ty = some (.slice (Try.prog.elem ty))) (x y : Operand) (ho : o.op = .slice ty x none (some y) none) (v u v1 : Value) (hx : a.eval x = v) (hy : a.eval y = u) (hr : ∀ W, (Instr.slice ty v none (some u) none).run Try.prog W = .ok v1 W)
    (h : wpList Try.prog ops Q rest (a.put o.dst v1) w) : wpList Try.prog ops Q (o :: rest) a w :=
  wpList_plain hgd fun _ hK => by
    have hr' : (Instr.sliceAt ty v none (some u) none).run Try.prog w = .ok v1 w   := by rw [run_sliceAt_slice _ _ _ _ _ _ hu]; exact hr w
    unfold Oper.wp execOp
    simp only [ho, Option.map_some, Option.map_none, hx, hy, Sem.run_bind, hr', Result.andThen_ok, Sem.run_pure]
    exact hK _ _ h
end
theorem fieldsF_are : (Try.prog.fieldsOf 40).toList.map (fun f => (f.name, f.type, f.offset)) = [("Err", 24, 0), ("At", 3, 1)] := by kernel_rfl
theorem eqFlt (p q p' q' : Int) (w : World) : (Op.equalIn 10000 40 (.agg #[.int .i64 p, .int .i64 q]) (.agg #[.int .i64 p', .int .i64 q'])).run Try.prog w = .ok ((p == p') && (q == q')) w := by
  show (Op.equalIn (9999 + 1) 40 (.agg #[.int .i64 p, .int .i64 q]) (.agg #[.int .i64 p', .int .i64 q'])).run Try.prog w = _
  rw [run_equalIn_struct w 9999 _ _ _ (by kernel_rfl) (by kernel_rfl)]
  obtain ⟨f0, r0, e0, a0, b0, c0, h0⟩ := unmap fieldsF_are
  obtain ⟨f1, r1, e1, a1, b1, c1, h1⟩ := unmap h0
  obtain rfl := unmap0 h1
  rw [e0, e1]
  have := eqF (d := 9999) (xs := #[.int .i64 p, .int .i64 q]) (ys := #[.int .i64 p', .int .i64 q']) (w := w) (f := f0) (fs := [f1]) (a := .int .i64 p) (b := .int .i64 p') (r := p == p') (s := (q == q') && true) (by rw [a0]; decide) (by rw [b0, c0]; kernel_rfl) (by rw [b0, c0]; kernel_rfl) (by rw [b0]; exact run_equalIn_int w 9998 _ .i64 .i64 _ _ Try.underlying24)
    (eqF (a := .int .i64 q) (b := .int .i64 q') (by rw [a1]; decide) (by rw [b1, c1]; kernel_rfl) (by rw [b1, c1]; kernel_rfl) (by rw [b1]; exact run_equalIn_int w 9998 _ .i64 .i64 _ _ Try.underlying3) (s := true) (by simp [Op.eqFields]))
  rw [Bool.and_true] at this
  exact this
theorem neqFlt (e k : Int) (w : World) : (binOp .neq 40 (.agg #[.int .i64 e, .int .i64 k]) (.agg #[.int .i64 e, .int .i64 k])).run Try.prog w = .ok (.bool false) w := by
  have h := eqFlt e k e k w
  have h2 : Sem.run Try.prog (Op.equal 40 (.agg #[.int .i64 e, .int .i64 k]) (.agg #[.int .i64 e, .int .i64 k])) w = .ok ((e == e) && (k == k)) w := h
  simp [binOp, h2]
theorem at_neqF {ops : Array Oper} {rest : List Oper} {o : Oper} {a : Act} {w : World} {Q : Exit → Act → World → Prop} (hgd : o.guard = none) (x y : Operand) (ho : o.op = .binOp .neq 40 x y 40) (e k : Int) (hx : a.eval x = .agg #[.int .i64 e, .int .i64 k]) (hy : a.eval y = .agg #[.int .i64 e, .int .i64 k]) (h : wpList Try.prog ops Q rest (a.put o.dst (.bool false)) w) : wpList Try.prog ops Q (o :: rest) a w :=
  wpList_plain hgd fun _ hK => by
    have hr := neqFlt e k w
    have hg : Sem.run Try.prog (eqGuard .neq 40 x y (.agg #[.int .i64 e, .int .i64 k]) (.agg #[.int .i64 e, .int .i64 k])) w = .ok () w := by kernel_rfl
    unfold Oper.wp execOp
    simp only [ho, hx, hy, Sem.run_bind, hg, hr, Sem.run_pure, Result.andThen_ok]
    exact hK _ _ h
theorem wp_neqF {o : Oper} {a : Act} {w : World} {K : Act → World → Prop} {Q : Exit → Act → World → Prop} (x y : Operand) (ho : o.op = .binOp .neq 40 x y 40) (e k : Int) (hx : a.eval x = .agg #[.int .i64 e, .int .i64 k]) (hy : a.eval y = .agg #[.int .i64 e, .int .i64 k]) (h : K (a.put o.dst (.bool false)) w) : o.wp Try.prog a w K Q := by
  have hr := neqFlt e k w
  have hg : Sem.run Try.prog (eqGuard .neq 40 x y (.agg #[.int .i64 e, .int .i64 k]) (.agg #[.int .i64 e, .int .i64 k])) w = .ok () w := by kernel_rfl
  unfold Oper.wp execOp
  simp only [ho, hx, hy, Sem.run_bind, hg, hr, Sem.run_pure, Result.andThen_ok]
  exact h
theorem same_b (xs : List Int) (hm : xs.length ≤ 1000000) (v u : Value) (w : World) (hv : Seg w v xs) (hu : Seg w u xs) :
    Calls Try.prog 28 #[v, u] w fun r w' => r = .returned (.bool true) ∧ Below w.heap.size w w' := by
  obtain ⟨a, c, rfl, -, hx⟩ := hv
  obtain ⟨a', c', rfl, -, hy⟩ := hu
  have HX := Lib.hid hx
  have HY := Lib.hid hy
  clear hx hy
  generalize xs.length = n at hm HX HY ⊢
  go_enter Try.func28, Try.ntmps28
  go_wp2_with fail
  go_loopw [5] (fun vi wr => ∃ i : Nat, i ≤ n ∧ vi = .int .i64 i ∧ Below w.heap.size w wr) (fun vi _ => n - (intOf vi).toNat)
  case atStart => exact ⟨0, Nat.zero_le _, rfl, Below.refl _ _⟩
  case round =>
    obtain ⟨i, hi, rfl, hB⟩ := hrel
    by_cases hlt : i < n
    · obtain ⟨b, o, rfl, hc⟩ := HX.out i hlt
      obtain ⟨b', o', rfl, hc'⟩ := HY.out i hlt
      have c1 := (hB.cell (p := ⟨b, o + i, none⟩) (block_lt_of_cell hc)).trans hc
      have c2 := (hB.cell (p := ⟨b', o' + i, none⟩) (block_lt_of_cell hc')).trans hc'
      have hil : (i : Int) < n := by omega
      generalize xs.getD i 0 = y at c1 c2
      clear hc hc'
      have A : (y != y) = false := by simp
      go_wp2_with fail
      go_quiet (fail)
      have kq : Below wr.heap.size wr (wr.drewN nq) := below_drewN _ _ _
      have hb2 := hB.trans (kq.mono hB.size)
      clear c1 c2 A kq hB
      go_wp2
      go_roundw
      case rel => exact ⟨i + 1, by omega, by go_num, hb2⟩
      case measure => simp [intOf]; omega
    · obtain rfl : i = n := by omega
      go_wp2
      go_ret
      exact ⟨rfl, hB⟩
end Go.Proofs.Ythechpbihfmkoaa
namespace Go.Proofs.Ythechpbihfmkoaa
open Go.RowKit Go.ChangeShapes Go.WideShapes Go.ChangeAt Go.Joins
set_option linter.unusedVariables false
set_option linter.unusedSimpArgs false
set_option maxRecDepth 100000
theorem addr_add {a : Addr} (hs : a.spot = none) (i : Nat) : a.add i = ⟨a.block, a.off + i, none⟩ := by
  obtain ⟨b, o, s⟩ := a
  simp only at hs
  subst hs
  exact add_is b o i
theorem add_zero (a : Addr) : a.add 0 = a := by simp [Addr.add]
theorem open_bytes {H : Type} {enc : TypeId × Value → H} {w : World} {held : Bool} {v : Value} {d : DataW H} {p : List MemPlace} (hv : Value.okWide Try.prog w .any 0 23 v) (h : DataW.Trod enc Try.prog w 0 (fun _ => true) held 23 v d p) : ∃ xs, Seg w v xs ∧ Oct xs := by
  obtain ⟨a, len, cap, rfl⟩ := okWide_slice Try.underlying23 hv
  obtain ⟨fuel, hf⟩ := h
  rcases open_ints Try.underlying23 Try.underlying5 (by kernel_rfl) hf with ⟨hcs, -⟩ | ⟨a', len', cap', zs, hcs, -, hlc, -, hzl, -, hcell, hwf⟩
  · simp [Value.cells] at hcs
    obtain ⟨rfl, rfl, rfl⟩ := hcs
    exact ⟨[], Seg.nil w, fun x hx => absurd hx (by simp)⟩
  · simp [Value.cells] at hcs
    obtain ⟨rfl, rfl, rfl⟩ := hcs
    simp only [if_true] at hzl
    have hl : (zs.take len).length = len := by simp; omega
    refine ⟨zs.take len, ⟨_, cap, by rw [hl], by rw [hl]; exact hlc, fun i hi => ?_⟩, fun x hx => ?_⟩
    · rw [hl] at hi
      have hc := hcell i (by omega)
      have hc0 := hcell 0 (by omega)
      rw [add_zero] at hc0
      have hsp := addr_of_cell hc0
      rw [addr_add hsp] at hc
      refine ⟨a'.block, a'.off, ?_, ?_⟩
      · obtain ⟨b, o, s⟩ := a'
        simp only at hsp
        subst hsp
        rfl
      · rw [hc]
        simp [List.getD_eq_getElem?_getD, List.getElem?_take_of_lt hi]
    · have := bounds_u8 (hwf x (List.mem_of_mem_take hx))
      omega
end Go.Proofs.Ythechpbihfmkoaa
