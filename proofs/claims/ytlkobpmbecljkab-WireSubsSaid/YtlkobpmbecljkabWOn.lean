/- A slice of ints among the arguments, opened. No condition. -/
import Derived.Test.YtlkobpmbecljkabWOp
import Derived.Test.YtlkobpmbecljkabWSb
namespace Go.Proofs.Ytlkobpmbecljkab
open Go.RowKit Go.ChangeShapes Go.WideShapes Go.ChangeAt
set_option linter.unusedVariables false
set_option maxRecDepth 100000
section
variable {H : Type} {enc : TypeId × Value → H} {w : World} {held : Bool} {v : Value} {d : DataW H} {p : List MemPlace}
theorem open_nums (hv : Value.okWide Try.prog w .any 0 55 v) (h : DataW.Trod enc Try.prog w 0 (fun _ => true) held 55 v d p) : ∃ m K, Nms w v m K := by
  obtain ⟨a, len, cap, rfl⟩ := okWide_slice Try.underlying55 hv
  obtain ⟨fuel, hf⟩ := h
  rcases open_ints Try.underlying55 Try.underlying3 (by kernel_rfl) hf with ⟨hcs, -⟩ | ⟨a', len', cap', zs, hcs, -, hlc, -, hzl, -, hcell, hwf⟩
  · simp [Value.cells] at hcs
    obtain ⟨rfl, rfl, rfl⟩ := hcs
    exact ⟨0, fun _ => 0, none, 0, rfl, fun i hi => absurd hi (Nat.not_lt_zero _)⟩
  · simp [Value.cells] at hcs
    obtain ⟨rfl, rfl, rfl⟩ := hcs
    simp only [if_true] at hzl
    refine ⟨len, fun i => zs.getD i 0, _, cap, rfl, fun i hi => ?_⟩
    have hc := hcell i (by omega)
    have hc0 := hcell 0 (by omega)
    rw [add_zero] at hc0
    have hsp := addr_of_cell hc0
    rw [addr_add hsp] at hc
    refine ⟨⟨a'.block, a'.off, ?_, hc⟩, ?_⟩
    · obtain ⟨b, o, s⟩ := a'
      simp only at hsp
      subst hsp
      rfl
    · have hi' : i < zs.length := by omega
      have e : zs.getD i 0 = zs[i] := by simp [List.getD_eq_getElem?_getD, hi']
      show I64 (zs.getD i 0)
      rw [e]
      exact bounds_i64 (hwf _ (List.getElem_mem hi'))
end
end Go.Proofs.Ytlkobpmbecljkab
