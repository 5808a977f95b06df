/- WireBack's argument, opened; the law over any slice. No condition. -/
import Derived.Test.YtlkobpmbecljkabWBk
import Derived.Test.YtlkobpmbecljkabWOp
import Derived.Deep.Slices
namespace Go.Proofs.Ytlkobpmbecljkab
open Go.RowKit Go.ChangeShapes Go.WideShapes Go.ChangeAt Go.Deep
set_option linter.unusedVariables false
set_option linter.unusedSimpArgs false
set_option maxRecDepth 100000
section
variable {H : Type} {enc : TypeId × Value → H} {P : Program} {w : World} {base : Nat} {spare : Nat → Bool} {held : Bool}
theorem open_slice_quads {t e : TypeId} {f0 f1 f2 f3 : Field} {fuel : Nat} {cs : List Value} {x : DataW H × List MemPlace} (ht : P.underlying t = some (.slice e)) (he : P.underlying e = some (.struct #[f0, f1, f2, f3]))
    (ce : P.cellsOf e = 4) (o0 : f0.offset = 0) (o2 : f2.offset = 2) (c0 : P.cellsOf f0.type = 1) (c2 : P.cellsOf f2.type = 1)
    (h : DataW.trod enc P w base spare held fuel t cs = some x) :
    cs = [.slice none 0 0] ∨ ∃ (a : Addr) (len cap n : Nat), cs = [.slice (some a) len cap] ∧ ∀ i, i < len →
      ∃ v0 v2 y0 y2, w.cell? (a.add (i * 4)) = some v0 ∧ w.cell? (a.add (i * 4 + 2)) = some v2 ∧ DataW.trod enc P w base spare held n f0.type [v0] = some y0 ∧ DataW.trod enc P w base spare held n f2.type [v2] = some y2 := by
  rcases open_slice ht h with h0 | ⟨a, len, cap, m, n, D, Pl, rfl, hb, hl, hm, hmm, rfl, hx⟩
  · exact Or.inl h0.1
  right
  have hlm : len ≤ m := by rw [hmm]; split <;> omega
  refine ⟨a, len, cap, n - 1, rfl, fun i hi => ?_⟩
  obtain ⟨cs', h1, h2⟩ := hx i (by omega)
  rw [ce] at h1
  obtain ⟨_, hlen, hcell⟩ := World.cells?_some h1
  obtain ⟨xs, k, hk, hxy, _, hxl, hf⟩ := DataW.trod_struct he h2
  have hk' : k = n - 1 := by omega
  subst hk'
  match xs, hxl, cs', hlen with
  | [y0, y1, y2, y3], _, [v0, v1, v2, v3], _ =>
    have g0 := hf 0 f0 rfl
    have g2 := hf 2 f2 rfl
    simp [o0, o2, c0, c2] at g0 g2
    have e0 := hcell 0 (by omega)
    have e2 := hcell 2 (by omega)
    rw [add_add] at e0 e2
    exact ⟨v0, v2, y0, y2, by simpa using e0, by simpa using e2, g0, g2⟩
end
section
variable {H : Type} {enc : TypeId × Value → H} {w : World} {held : Bool} {v : Value} {d : DataW H} {p : List MemPlace}
theorem open_acts (hv : Value.okWide Try.prog w .any 0 45 v) (h : DataW.Trod enc Try.prog w 0 (fun _ => true) held 45 v d p) : ∃ m K N, Acs w v m K N := by
  obtain ⟨a, len, cap, rfl⟩ := okWide_slice Try.underlying45 hv
  obtain ⟨fuel, hf⟩ := h
  rcases open_slice_quads Try.underlying45 Try.underlying51 (by kernel_rfl) rfl rfl (by kernel_rfl) (by kernel_rfl) hf with hcs | ⟨a', len', cap', n, hcs, hcell⟩
  · simp [Value.cells] at hcs
    obtain ⟨rfl, rfl, rfl⟩ := hcs
    exact ⟨0, fun _ => 0, fun _ => 0, none, 0, rfl, fun i hi => absurd hi (Nat.not_lt_zero _)⟩
  · simp [Value.cells] at hcs
    obtain ⟨rfl, rfl, rfl⟩ := hcs
    refine ⟨len, fun i => intOf ((w.cell? (a'.add (i * 4))).getD undef), fun i => (intOf ((w.cell? (a'.add (i * 4 + 2))).getD undef)).toNat, _, cap, rfl, fun i hi => ?_⟩
    obtain ⟨v0, v2, y0, y2, c0, c2, t0, t2⟩ := hcell i hi
    obtain ⟨z0, e0, -, w0⟩ := DataW.trod_int Try.underlying3 t0
    obtain ⟨z2, e2, -, w2⟩ := DataW.trod_int Try.underlying30 t2
    simp at e0 e2
    subst e0 e2
    have b2 : 0 ≤ z2 ∧ z2 < 18446744073709551616 := by
      have := bounds_u64 w2
      omega
    have hsp : a'.spot = none := by
      obtain ⟨x0, x2, _, _, g0, -⟩ := hcell 0 (by omega)
      rw [show 0 * 4 = 0 from rfl, add_zero] at g0
      exact addr_of_cell g0
    dsimp only
    rw [c0, c2]
    rw [addr_add hsp] at c0 c2
    refine ⟨⟨a'.block, a'.off, ?_, c0, ?_⟩, ?_, ?_⟩
    · obtain ⟨b, o, s⟩ := a'
      simp only at hsp
      subst hsp
      rfl
    · rw [Nat.add_assoc, c2]
      show some (Value.int .u64 z2) = some (Value.int .u64 ((z2.toNat : Nat) : Int))
      rw [Int.toNat_of_nonneg b2.1]
    · exact bounds_i64 w0
    · show z2.toNat < _
      omega
end
theorem back_long (w : World) (v0 : Value) (m : Nat) (K : Nat → Int) (N : Nat → Nat) (h3 : Acs w v0 m K N) (hm : ¬ m ≤ 60) :
    Calls Try.prog 6 #[v0] w fun e w' => e = .returned (.bool true) ∧ Below w.heap.size w w' := by
  obtain ⟨a3, c3, rfl, -⟩ := h3
  have q2 : (60 : Int) < m := by omega
  go_enter Try.func6, Try.ntmps6
  go_wp2_with fail
  go_at_call 9
  refine (lives_is w).mono ?_
  rintro e' w1 ⟨rfl, B1⟩
  go_wp2
  go_ret
  exact ⟨rfl, B1⟩
theorem back_any (w : World) (v0 : Value) (m : Nat) (K : Nat → Int) (N : Nat → Nat) (h3 : Acs w v0 m K N) : Calls Try.prog 6 #[v0] w fun e w' => e = .returned (.bool true) ∧ Below w.heap.size w w' := by
  by_cases hm : m ≤ 60
  · exact back_walk w v0 m K N h3 hm
  · exact back_long w v0 m K N h3 hm
end Go.Proofs.Ytlkobpmbecljkab
