/- The acts that the law is given, opened; light. No condition. -/
import Derived.Test.YtailaenkmknpiaaRPt
import Derived.Test.YtailaenkmknpiaaRSb
import Derived.Test.YtailaenkmknpiaaWOp
import Derived.Deep.Slices
namespace Go.Proofs.Ytailaenkmknpiaa
open Go.RowKit Go.ChangeShapes Go.WideShapes Go.ChangeAt Go.Deep
set_option linter.unusedVariables false
set_option linter.unusedSimpArgs false
set_option maxRecDepth 100000
section
variable {H : Type} {enc : TypeId × Value → H} {P : Program} {w : World} {base : Nat} {spare : Nat → Bool} {held : Bool}
theorem open_slice_fours {t e : TypeId} {f0 f1 f2 f3 : Field} {fuel : Nat} {cs : List Value} {x : DataW H × List MemPlace} (ht : P.underlying t = some (.slice e)) (he : P.underlying e = some (.struct #[f0, f1, f2, f3]))
    (ce : P.cellsOf e = 4) (o0 : f0.offset = 0) (o1 : f1.offset = 1) (o2 : f2.offset = 2) (o3 : f3.offset = 3) (c0 : P.cellsOf f0.type = 1) (c1 : P.cellsOf f1.type = 1) (c2 : P.cellsOf f2.type = 1) (c3 : P.cellsOf f3.type = 1)
    (h : DataW.trod enc P w base spare held fuel t cs = some x) :
    cs = [.slice none 0 0] ∨ ∃ (a : Addr) (len cap n : Nat), cs = [.slice (some a) len cap] ∧ len ≤ maxLen ∧ ∀ i, i < len →
      ∃ v0 v1 v2 v3 y0 y1 y2 y3, w.cell? (a.add (i * 4)) = some v0 ∧ w.cell? (a.add (i * 4 + 1)) = some v1 ∧ w.cell? (a.add (i * 4 + 2)) = some v2 ∧ w.cell? (a.add (i * 4 + 3)) = some v3 ∧
        DataW.trod enc P w base spare held n f0.type [v0] = some y0 ∧ DataW.trod enc P w base spare held n f1.type [v1] = some y1 ∧ DataW.trod enc P w base spare held n f2.type [v2] = some y2 ∧ DataW.trod enc P w base spare held n f3.type [v3] = some y3 := by
  rcases open_slice ht h with h0 | ⟨a, len, cap, m, n, D, Pl, rfl, hb, hl, hm, hmm, rfl, hx⟩
  · exact Or.inl h0.1
  right
  have hlm : len ≤ m := by rw [hmm]; split <;> omega
  refine ⟨a, len, cap, n - 1, rfl, by omega, fun i hi => ?_⟩
  obtain ⟨cs', h1, h2⟩ := hx i (by omega)
  rw [ce] at h1
  obtain ⟨_, hlen, hcell⟩ := World.cells?_some h1
  obtain ⟨xs, k, hk, hxy, _, hxl, hf⟩ := DataW.trod_struct he h2
  have hk' : k = n - 1 := by omega
  subst hk'
  match xs, hxl, cs', hlen with
  | [y0, y1, y2, y3], _, [v0, v1, v2, v3], _ =>
    have g0 := hf 0 f0 rfl
    have g1 := hf 1 f1 rfl
    have g2 := hf 2 f2 rfl
    have g3 := hf 3 f3 rfl
    simp [o0, o1, o2, o3, c0, c1, c2, c3] at g0 g1 g2 g3
    have e0 := hcell 0 (by omega)
    have e1 := hcell 1 (by omega)
    have e2 := hcell 2 (by omega)
    have e3 := hcell 3 (by omega)
    rw [add_add] at e0 e1 e2 e3
    exact ⟨v0, v1, v2, v3, y0, y1, y2, y3, by simpa using e0, by simpa using e1, by simpa using e2, by simpa using e3, g0, g1, g2, g3⟩
end
def I64' (x : Int) : Prop := -9223372036854775808 ≤ x ∧ x ≤ 9223372036854775807
/-- The acts: their kinds, marks, numbers, octets and where they lie. -/
def Acq (w : World) (v : Value) (m : Nat) (K A : Nat → Int) (N : Nat → Nat) (U : Nat → Value) (X : Nat → List Int) : Prop := m ≤ maxLen ∧ ∃ a c, v = .slice a m c ∧ ∀ i, i < m →
  (∃ b o, a = some ⟨b, o, none⟩ ∧ w.cell? ⟨b, o + i * 4, none⟩ = some (.int .i64 (K i)) ∧ w.cell? ⟨b, o + i * 4 + 1, none⟩ = some (.int .i64 (A i)) ∧ w.cell? ⟨b, o + i * 4 + 2, none⟩ = some (.int .u64 (N i : Nat)) ∧ w.cell? ⟨b, o + i * 4 + 3, none⟩ = some (U i)) ∧
  I64' (K i) ∧ (Lit.int .i64 (A i)).wf = true ∧ N i < 18446744073709551616 ∧ Seg w (U i) (X i) ∧ Oct (X i)
section
variable {H : Type} {enc : TypeId × Value → H} {w : World} {held : Bool} {v : Value} {d : DataW H} {p : List MemPlace}
theorem open_octets {n : Nat} {u : Value} {y : DataW H × List MemPlace} (h : DataW.trod enc Try.prog w 0 (fun _ => true) held n 33 [u] = some y) : ∃ xs, Seg w u xs ∧ Oct xs := by
  rcases open_ints Try.underlying33 Try.underlying5 (by kernel_rfl) h with ⟨hcs, -⟩ | ⟨a', len', cap', zs, hcs, -, hlc, -, hzl, -, hcell, hwf⟩
  · obtain rfl : u = .slice none 0 0 := by simpa using hcs
    exact ⟨[], Seg.nil w, fun x hx => absurd hx (by simp)⟩
  · obtain rfl : u = .slice (some a') len' cap' := by simpa using hcs
    simp only [if_true] at hzl
    have hl : (zs.take len').length = len' := by simp; omega
    refine ⟨zs.take len', ⟨_, cap', by rw [hl], by rw [hl]; exact hlc, fun i hi => ?_⟩, fun x hx => ?_⟩
    · rw [hl] at hi
      have hc := hcell i (by omega)
      have hc0 := hcell 0 (by omega)
      rw [add_zero] at hc0
      have hsp := addr_of_cell hc0
      rw [addr_add hsp] at hc
      refine ⟨a'.block, a'.off, ?_, ?_⟩
      · obtain ⟨b, o, s⟩ := a'
        simp only at hsp
        subst hsp
        rfl
      · rw [hc]
        simp [List.getD_eq_getElem?_getD, List.getElem?_take_of_lt hi]
    · have := bounds_u8 (hwf x (List.mem_of_mem_take hx))
      omega
theorem open_acts (hv : Value.okWide Try.prog w .any 0 22 v) (h : DataW.Trod enc Try.prog w 0 (fun _ => true) held 22 v d p) : ∃ m K A N U X, Acq w v m K A N U X := by
  obtain ⟨a, len, cap, rfl⟩ := okWide_slice Try.underlying22 hv
  obtain ⟨fuel, hf⟩ := h
  rcases open_slice_fours Try.underlying22 Try.underlying35 (by kernel_rfl) rfl rfl rfl rfl (by kernel_rfl) (by kernel_rfl) (by kernel_rfl) (by kernel_rfl) hf with hcs | ⟨a', len', cap', n, hcs, hmx, hcell⟩
  · simp [Value.cells] at hcs
    obtain ⟨rfl, rfl, rfl⟩ := hcs
    exact ⟨0, fun _ => 0, fun _ => 0, fun _ => 0, fun _ => undef, fun _ => [], Nat.zero_le _, none, 0, rfl, fun i hi => absurd hi (Nat.not_lt_zero _)⟩
  · simp [Value.cells] at hcs
    obtain ⟨rfl, rfl, rfl⟩ := hcs
    have hX : ∀ i, ∃ xs : List Int, i < len → Seg w ((w.cell? (a'.add (i * 4 + 3))).getD undef) xs ∧ Oct xs := fun i => by
      by_cases hi : i < len
      · obtain ⟨v0, v1, v2, v3, y0, y1, y2, y3, c0, c1, c2, c3, t0, t1, t2, t3⟩ := hcell i hi
        obtain ⟨xs, hs, ho⟩ := open_octets t3
        rw [c3]
        exact ⟨xs, fun _ => ⟨hs, ho⟩⟩
      · exact ⟨[], fun h => absurd h hi⟩
    obtain ⟨X, hX⟩ := Classical.skolem.1 hX
    refine ⟨len, fun i => intOf ((w.cell? (a'.add (i * 4))).getD undef), fun i => intOf ((w.cell? (a'.add (i * 4 + 1))).getD undef), fun i => (intOf ((w.cell? (a'.add (i * 4 + 2))).getD undef)).toNat, fun i => (w.cell? (a'.add (i * 4 + 3))).getD undef, X, hmx, _, cap, rfl, fun i hi => ?_⟩
    obtain ⟨x1, x2⟩ := hX i hi
    obtain ⟨v0, v1, v2, v3, y0, y1, y2, y3, c0, c1, c2, c3, t0, t1, t2, t3⟩ := hcell i hi
    obtain ⟨z0, e0, -, w0⟩ := DataW.trod_int Try.underlying3 t0
    obtain ⟨z1, e1, -, w1⟩ := DataW.trod_int Try.underlying3 t1
    obtain ⟨z2, e2, -, w2⟩ := DataW.trod_int Try.underlying32 t2
    simp at e0 e1 e2
    subst e0 e1 e2
    have b2 : 0 ≤ z2 ∧ z2 < 18446744073709551616 := by
      have := bounds_u64 w2
      omega
    have hsp : a'.spot = none := by
      obtain ⟨x0, _, _, _, _, _, _, _, g0, -⟩ := hcell 0 (by omega)
      rw [show 0 * 4 = 0 from rfl, add_zero] at g0
      exact addr_of_cell g0
    dsimp only
    refine ⟨⟨a'.block, a'.off, ?_, ?_, ?_, ?_, ?_⟩, ?_, ?_, ?_, x1, x2⟩
    · obtain ⟨b, o, s⟩ := a'
      simp only at hsp
      subst hsp
      rfl
    · rw [← addr_add hsp, c0]
      rfl
    · rw [Nat.add_assoc, ← addr_add hsp, c1]
      rfl
    · rw [Nat.add_assoc, ← addr_add hsp, c2]
      show some (Value.int .u64 z2) = some (Value.int .u64 ((z2.toNat : Nat) : Int))
      rw [Int.toNat_of_nonneg b2.1]
    · rw [Nat.add_assoc, ← addr_add hsp, c3]
      rfl
    · rw [c0]
      exact bounds_i64 w0
    · rw [c1]
      exact w1
    · rw [c2]
      show z2.toNat < _
      omega
end
theorem Acq.below {w w' : World} {v : Value} {m : Nat} {K A : Nat → Int} {N : Nat → Nat} {U : Nat → Value} {X : Nat → List Int} (h : Acq w v m K A N U X) (k : Below w.heap.size w w') : Acq w' v m K A N U X := by
  obtain ⟨h0, a, c, e, h⟩ := h
  refine ⟨h0, a, c, e, fun i hi => ?_⟩
  obtain ⟨⟨b, o, ea, c0, c1, c2, c3⟩, r1, r2, r3, r4, r5⟩ := h i hi
  have q : ∀ {p : Addr} {u : Value}, w.cell? p = some u → w'.cell? p = some u := fun hp => (k.cell (block_lt_of_cell hp)).trans hp
  exact ⟨⟨b, o, ea, q c0, q c1, q c2, q c3⟩, r1, r2, r3, r4.below k, r5⟩
set_option maxHeartbeats 1000000 in
theorem light_is (w : World) (v : Value) (m : Nat) (K A : Nat → Int) (N : Nat → Nat) (U : Nat → Value) (X : Nat → List Int) (h : Acq w v m K A N U X) : Calls Try.prog 6 #[v] w fun e w' => (e = .returned (.bool false) ∧ w' = w) ∨ (e = .returned (.bool true) ∧ w' = w ∧ m ≤ 60 ∧ ∀ i, i < m → (X i).length ≤ 300) := by
  obtain ⟨h0, a, c, rfl, h⟩ := h
  unfold maxLen at h0
  go_enter Try.func6, Try.ntmps6
  go_wp2_with fail
  go_loop [3] (fun vi => ∃ j : Nat, j ≤ m ∧ (∀ i, i < j → (X i).length ≤ 300) ∧ vi = .int .i64 j) (fun vi => m - (intOf vi).toNat)
  case atStart => exact ⟨0, Nat.zero_le _, fun i hi => absurd hi (Nat.not_lt_zero _), rfl⟩
  case round =>
    obtain ⟨j, hj, hs, rfl⟩ := hrel
    by_cases hlt : j < m
    · obtain ⟨⟨g, o, rfl, -, -, -, c3⟩, -, -, -, ⟨ua, uc, hu, -, -⟩, -⟩ := h j hlt
      rw [hu] at c3
      have hl : (j : Int) < m := by omega
      clear h
      by_cases hx : (X j).length ≤ 300
      · have hq : ¬ (300 : Int) < (X j).length := by omega
        have hn : ∀ i, i < j + 1 → (X i).length ≤ 300 := fun i hi => by
          rcases Nat.lt_or_ge i j with q | q
          · exact hs i q
          · obtain rfl : i = j := by omega
            exact hx
        clear hs
        go_wp2
        exact ⟨⟨j + 1, hlt, hn, rfl⟩, by simp [intOf]; omega⟩
      · have hq : (300 : Int) < (X j).length := by omega
        clear hs
        go_wp2
        go_ret
        exact .inl ⟨rfl, rfl⟩
    · obtain rfl : j = m := by omega
      clear h
      by_cases h6 : j ≤ 60
      · have b6 : decide ((j : Int) ≤ 60) = true := by simp; omega
        go_wp2
        go_ret
        first | exact .inr ⟨rfl, rfl, h6, hs⟩ | exact .inr ⟨rfl, rfl, hs⟩ | exact ⟨rfl, rfl, hs⟩
      · have b6 : decide ((j : Int) ≤ 60) = false := by simp; omega
        go_wp2
        go_ret
        first | exact .inl ⟨rfl, rfl⟩ | exact ⟨rfl, rfl⟩
end Go.Proofs.Ytailaenkmknpiaa
