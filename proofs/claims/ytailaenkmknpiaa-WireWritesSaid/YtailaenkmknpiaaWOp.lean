/- Arguments of the wire statements, opened. No condition. -/
import Derived.Test.YtailaenkmknpiaaWFl
import Derived.Deep.SlicePairs
import Derived.ChangeOld
import Derived.Carry
namespace Go.Proofs.Ytailaenkmknpiaa
open Go.RowKit Go.ChangeShapes Go.WideShapes Go.ChangeAt
set_option linter.unusedVariables false
set_option maxRecDepth 100000

theorem own : ownKnob Try.prog.godebug = none := by kernel_rfl
theorem laidOut : laidOutB Try.prog = true := by kernel_rfl
theorem addr_of_cell {w : World} {a : Addr} {v : Value} (h : w.cell? a = some v) : a.spot = none := by
  unfold World.cell? at h
  split at h
  · split at h
    · cases h
    · rename_i hs
      cases hx : a.spot with
      | none => rfl
      | some s => simp [hx] at hs
  · cases h
theorem addr_add {a : Addr} (hs : a.spot = none) (i : Nat) : a.add i = ⟨a.block, a.off + i, none⟩ := by
  obtain ⟨b, o, s⟩ := a
  simp only at hs
  subst hs
  exact add_is b o i
theorem add_zero (a : Addr) : a.add 0 = a := by simp [Addr.add]
section
variable {H : Type} {enc : TypeId × Value → H} {w : World} {held : Bool} {v : Value} {d : DataW H} {p : List MemPlace}
theorem open_bytes (hv : Value.okWide Try.prog w .any 0 33 v) (h : DataW.Trod enc Try.prog w 0 (fun _ => true) held 33 v d p) : ∃ xs, Seg w v xs ∧ Oct xs := by
  obtain ⟨a, len, cap, rfl⟩ := okWide_slice Try.underlying33 hv
  obtain ⟨fuel, hf⟩ := h
  rcases open_ints Try.underlying33 Try.underlying5 (by kernel_rfl) hf with ⟨hcs, -⟩ | ⟨a', len', cap', zs, hcs, -, hlc, -, hzl, -, hcell, hwf⟩
  · simp [Value.cells] at hcs
    obtain ⟨rfl, rfl, rfl⟩ := hcs
    exact ⟨[], Seg.nil w, fun x hx => absurd hx (by simp)⟩
  · simp [Value.cells] at hcs
    obtain ⟨rfl, rfl, rfl⟩ := hcs
    simp only [if_true] at hzl
    have hl : (zs.take len).length = len := by simp; omega
    refine ⟨zs.take len, ⟨_, cap, by rw [hl], by rw [hl]; exact hlc, fun i hi => ?_⟩, fun x hx => ?_⟩
    · rw [hl] at hi
      have hc := hcell i (by omega)
      have hc0 := hcell 0 (by omega)
      rw [add_zero] at hc0
      have hsp := addr_of_cell hc0
      rw [addr_add hsp] at hc
      refine ⟨a'.block, a'.off, ?_, ?_⟩
      · obtain ⟨b, o, s⟩ := a'
        simp only at hsp
        subst hsp
        rfl
      · rw [hc]
        simp [List.getD_eq_getElem?_getD, List.getElem?_take_of_lt hi]
    · have := bounds_u8 (hwf x (List.mem_of_mem_take hx))
      omega
theorem open_steps (hv : Value.okWide Try.prog w .any 0 52 v) (h : DataW.Trod enc Try.prog w 0 (fun _ => true) held 52 v d p) : ∃ m K N, Prs w v m K N := by
  obtain ⟨a, len, cap, rfl⟩ := okWide_slice Try.underlying52 hv
  obtain ⟨fuel, hf⟩ := h
  rcases Go.Deep.open_slice_pairs Try.underlying52 Try.underlying58 (by kernel_rfl) rfl rfl (by kernel_rfl) (by kernel_rfl) hf with ⟨hcs, -⟩ | ⟨a', len', cap', m, n, V0, V1, D0, D1, P0, P1, hcs, -, hlc, -, hm, -, hcell⟩
  · simp [Value.cells] at hcs
    obtain ⟨rfl, rfl, rfl⟩ := hcs
    exact ⟨0, fun _ => 0, fun _ => 0, none, 0, rfl, fun i hi => absurd hi (Nat.not_lt_zero _)⟩
  · simp [Value.cells] at hcs
    obtain ⟨rfl, rfl, rfl⟩ := hcs
    simp only [if_true] at hm
    refine ⟨len, fun i => intOf (V0 i), fun i => intOf (V1 i), _, cap, rfl, fun i hi => ?_⟩
    obtain ⟨c0, c1, t0, t1⟩ := hcell i (by omega)
    obtain ⟨z0, e0, -, w0⟩ := DataW.trod_int Try.underlying3 t0
    obtain ⟨z1, e1, -, w1⟩ := DataW.trod_int Try.underlying3 t1
    simp at e0 e1
    have g0 := (hcell 0 (by omega)).1
    rw [show 0 * 2 = 0 from rfl, add_zero] at g0
    have hsp := addr_of_cell g0
    rw [addr_add hsp] at c0 c1
    refine ⟨⟨a'.block, a'.off, ?_, ?_, ?_⟩, ?_, ?_⟩
    · obtain ⟨b, o, s⟩ := a'
      simp only at hsp
      subst hsp
      rfl
    · show w.cell? _ = some (.int .i64 (intOf (V0 i)))
      rw [c0, e0]
      rfl
    · show w.cell? _ = some (.int .i64 (intOf (V1 i)))
      rw [Nat.add_assoc, c1, e1]
      rfl
    · show I64 (intOf (V0 i))
      rw [e0]
      exact bounds_i64 w0
    · show I64 (intOf (V1 i))
      rw [e1]
      exact bounds_i64 w1
end
end Go.Proofs.Ytailaenkmknpiaa
