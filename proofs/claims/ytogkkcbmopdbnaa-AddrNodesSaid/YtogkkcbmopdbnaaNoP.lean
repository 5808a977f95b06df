/- AddrNodes: for any two numbers the law returns true. No condition. -/
import Derived.Test.YtogkkcbmopdbnaaNoC
import Derived.Test.YtogkkcbmopdbnaaNoD
import Derived.Test.YtogkkcbmopdbnaaNoE
import Derived.Test.YtogkkcbmopdbnaaOpn
namespace Go.Proofs.Ytogkkcbmopdbnaa.addrNodes
open Go.RowKit Go.ChangeShapes Go.WideShapes Go.ChangeAt
set_option linter.unusedVariables false

theorem walk (n m : Int) (w : World) :
    Calls Try.prog 5 #[.int .i64 n, .int .i64 m] w fun e w' => e = .returned (.bool true) ∧ Below w.heap.size w w' := by
  by_cases h0 : n < 0
  · exact nodesLaw_A n m h0 w
  by_cases h1 : 64 ≤ n
  · exact nodesLaw_B n m h1 w
  have e2 : ¬ (0 ≤ m ∧ m < 64) → sgE m = 2 := fun h => by simp [sgE, h]
  have e0 : (0 ≤ m ∧ m < 64) → sgE m = 0 := fun h => by simp [sgE, h]
  have eq0 : (g : 0 ≤ m ∧ m < 64) → eqE (segB (n + 1)) (sgB m) = decide (n = m) := fun g => by
    rw [← eq_seg (n := n) (k := m) (by omega) (by omega) g.1 g.2, Bool.eq_iff_iff, eqE_iff, eqE_iff]
    simp [sgB, g]
  by_cases hm : 0 ≤ m ∧ m < 64
  · have q := eq0 hm
    by_cases h2 : 32 ≤ n
    · by_cases hnm : n = m
      · exact nodesLaw_D n m h2 (by omega) (e0 hm) (by rw [q]; simp [hnm]) (by simp [hnm]) w
      · exact nodesLaw_E n m h2 (by omega) (e0 hm) (by rw [q]; simp [hnm]) (by simpa using hnm) w
    · by_cases hm2 : m < 32
      · have f : lbE m = 0 := by simp [lbE]; omega
        have a : lbA m = 184483841 + m := by
          unfold lbA
          rw [if_pos ⟨hm.1, hm2⟩]
        by_cases hnm : n = m
        · exact nodesLaw_H n m (by omega) (by omega) f (e0 hm) (by rw [q]; simp [hnm]) (by simp [hnm]) (by rw [a]; simp [hnm]) w
        · exact nodesLaw_I n m (by omega) (by omega) f (e0 hm) (by rw [q]; simp [hnm]) (by simpa using hnm) (by rw [a]; simp; omega) w
      · have f : lbE m = 2 := by
          unfold lbE
          rw [if_neg (by omega)]
        exact nodesLaw_G n m (by omega) (by omega) f (e0 hm) (by rw [q]; simp; omega) (by simp; omega) w
  · by_cases h2 : 32 ≤ n
    · exact nodesLaw_C n m h2 (by omega) (e2 hm) w
    · have f : lbE m = 2 := by
        unfold lbE
        rw [if_neg (by omega)]
      exact nodesLaw_F n m (by omega) (by omega) f (e2 hm) w

set_option maxRecDepth 100000 in
theorem lifted (os : Os) (started : os.Started) (H : Type) (enc : TypeId × Value → H) :
    ReturnsInHanded {} Try.checked os 5 .any (Rows.addrNodesSpec.pre6 enc Try.prog Try.f5 Rows.addrNodesRow.domain false) (Rows.addrNodesSpec.post enc Try.prog Try.f5 false true false false) := by
  refine returnsInHanded_of_change (C := Try.checked) own started (by kernel_rfl) Try.func5
    (ChangeSpec.witness6 (enc := enc) (C := Try.checked) false ⟨#[], #[.int .i64 0, .int .i64 0], []⟩ 8 (by kernel_rfl) (by kernel_rfl) (by kernel_rfl) (by kernel_rfl)) ?_
  intro W base args ds gs before hval0 hW hcnd _
  have hval : ∀ (j : Nat) t v, Try.f5.params[j]? = some t → args[j]? = some v → Value.okWide Try.prog W .any base t v := hval0
  have hW' := hW
  obtain ⟨p, q, hA0, hV, rfl, hfz, hnd⟩ := hW
  have hA : DataW.TrodAll enc Try.prog W 0 (fun _ => true) true Try.f5.params.toList args.toList ds p := hA0
  rw [Try.params5] at hA hval
  obtain ⟨v0, vs0, d0, ds0, p0, q0, hargs, rfl, rfl, h0, r0⟩ := trodAll_cons hA
  obtain ⟨v1, vs1, d1, ds1, p1, q1, rfl, rfl, rfl, h1, r1⟩ := trodAll_cons r0
  obtain ⟨rfl, rfl, rfl⟩ := trodAll_nil r1
  obtain rfl : args = #[v0, v1] := by cases args; simp_all
  obtain ⟨rfl, rfl⟩ := trodVars_none hV
  obtain ⟨a0, rfl, rfl, rfl, w0⟩ := open_int Try.underlying3 (hval 0 3 v0 rfl rfl) h0
  obtain ⟨a1, rfl, rfl, rfl, w1⟩ := open_int Try.underlying3 (hval 1 3 v1 rfl rfl) h1
  clear hA0 hval0
  refine (walk a0 a1 W).mono fun e W' ⟨he, bel⟩ => ?_
  subst he
  exact ⟨_, rfl, _, _, _, [], _, [], hW', trodAll_mk1 (shut_bool Try.underlying4 _), (trodAll_cons_mk (shut_int Try.underlying3 w0) (trodAll_cons_mk (shut_int Try.underlying3 w1) trodAll_mk0)), rfl, bel.frame _, fun h => by cases h⟩

theorem over : Rows.addrNodesRow.holds Try.pinned (OpenSpec.ofChange Rows.addrNodesSpec) :=
  OpenClaim.holds_of_wide 5 Try.f5 rfl rfl rfl rfl rfl rfl rfl ⟨rfl, rfl, rfl, rfl, rfl⟩ rfl rfl rfl rfl rfl (by kernel_rfl) Try.func5 (by kernel_rfl)
    (of_decide_eq_true (by kernel_rfl)) (by unfold Func.isWrapper; first | (rw [if_pos (by decide +kernel)]; kernel_rfl) | (rw [if_neg (by decide +kernel)]; exact ⟨rfl, rfl⟩))
    (fun os started H enc _ => lifted os started H enc)

/-- The statement. -/
theorem proved : Rows.AddrNodesSaid := over
#print axioms proved
end Go.Proofs.Ytogkkcbmopdbnaa.addrNodes
