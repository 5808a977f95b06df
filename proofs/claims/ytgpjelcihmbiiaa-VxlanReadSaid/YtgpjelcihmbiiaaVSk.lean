/- Regions that draw their order and end in a fresh struct that is stored. No condition. -/
import Derived.Test.YtgpjelcihmbiiaaQt
import Derived.Test.YtgpjelcihmbiiaaVRa
namespace Go.Proofs.Ytgpjelcihmbiiaa
open Go.RowKit Go.Sort
set_option linter.unusedVariables false
set_option linter.unusedSimpArgs false
set_option maxRecDepth 100000

section
variable {ops : Array Oper} {C : Array Bool → World → Prop} {Q : Act → Prop} {o : Oper} {l : List Oper} {k : Nat} {a : Act}
theorem multi_row (hw : Region.wanted o (yielded ops a.tmps) = true) (ty : TypeId) (x : Operand) (ho : o.op = .load ty x) (b j : Nat) (hx : a.eval x = .pointer (some ⟨b, j, none⟩)) (vs : List Value) (d : TypeDesc)
    (hu : Try.prog.underlying ty = some d) (hd : d.isRow = true) (hi : (Try.prog.info? ty).map (·.size) = some vs.length)
    (hc : ∀ L w, k ∈ Region.ready .any ops L → C L w → w.rangeAt b j vs ∧ C (L.setIfInBounds k true) w) (h : wpMulti Try.prog ops C Q l (k + 1) (a.put o.dst (.agg vs.toArray))) : wpMulti Try.prog ops C Q (o :: l) k a :=
  multi_write _ hw (fun L w hr hC => ⟨w, by unfold execOp; simp only [ho, hx, Sem.run_bind, run_loadAt_mid w b j ty vs d (hc L w hr hC).1 hu hd hi, Sem.run_pure, Result.andThen_ok], (hc L w hr hC).2⟩) h
theorem multi_bld (hw : Region.wanted o (yielded ops a.tmps) = true) (ty : TypeId) (parts : Array (Nat × Operand)) (ho : o.op = .build ty parts) (cs : List Value)
    (hb : Try.prog.built ty (parts.map fun (i, x) => (i, a.eval x)).toList = some cs.toArray)
    (hc : ∀ L w, k ∈ Region.ready .any ops L → C L w → C (L.setIfInBounds k true) w) (h : wpMulti Try.prog ops C Q l (k + 1) (a.put o.dst (.agg cs.toArray))) : wpMulti Try.prog ops C Q (o :: l) k a :=
  multi_write _ hw (fun L w hr hC => ⟨w, by unfold execOp; simp only [ho, Sem.run_bind, run_build w ty _ _ hb, Sem.run_pure, Result.andThen_ok], hc L w hr hC⟩) h
theorem multi_new (hw : Region.wanted o (yielded ops a.tmps) = true) (ty : TypeId) (cs : List Value) (ho : o.op = .alloc ty) (hrun : ∀ w, (Instr.alloc ty true (.tuple #[])).run Try.prog w = .ok (.pointer (some ⟨w.heap.size, 0, none⟩)) (w.alloc (.cells cs.toArray ty))) (B : Nat)
    (hc : ∀ L w, k ∈ Region.ready .any ops L → C L w → w.heap.size = B ∧ C (L.setIfInBounds k true) (w.alloc (.cells cs.toArray ty))) (h : wpMulti Try.prog ops C Q l (k + 1) (a.put o.dst (.pointer (some ⟨B, 0, none⟩)))) : wpMulti Try.prog ops C Q (o :: l) k a :=
  multi_write _ hw (fun L w hr hC => ⟨_, by unfold execOp; simp only [ho, Sem.run_bind, hrun, Sem.run_pure, Result.andThen_ok, (hc L w hr hC).1], (hc L w hr hC).2⟩) h
theorem multi_put (hw : Region.wanted o (yielded ops a.tmps) = true) (ty : TypeId) (x y : Operand) (ho : o.op = .store ty x y) (B : Nat) (hx : a.eval x = .pointer (some ⟨B, 0, none⟩)) (cs : List Value) (hy : a.eval y = .agg cs.toArray)
    (hi : (Try.prog.info? ty).map (·.size) = some cs.length) (h1 : cs.toArray.all (·.oneCell') = true) (old : List Value) (hl : old.length = cs.length)
    (hc : ∀ L w, k ∈ Region.ready .any ops L → C L w → Blk w B ty old ∧ ∀ w', Wrote B ty w w' cs → C (L.setIfInBounds k true) w') (h : wpMulti Try.prog ops C Q l (k + 1) (a.put o.dst undef)) : wpMulti Try.prog ops C Q (o :: l) k a :=
  ⟨undef, .inl ⟨hw, fun L w hr hC => by
    obtain ⟨hb, hn⟩ := hc L w hr hC
    unfold execOp
    simp only [ho, hx, hy, Instr.storeAt, Instr.sureAddr, Sem.run_bind, Sem.run_pure, Result.andThen_ok, run_storeVar_row w B ty ty old.toArray cs.toArray hb (by simpa using hi) (by simpa using hl) h1]
    exact ⟨hn _ ⟨setRow_heap w B _ _ _ _ hb, ⟨rfl, rfl, rfl, by simp [World.setRow], fun k hk hn => by simp [World.setRow, Array.getElem?_modify, Ne.symm hn]⟩, by simp [World.setRow]⟩, rfl⟩⟩, h⟩
end

/-- The worlds of such a region: before and behind the new struct, and behind the store. -/
def BoxC (V U : World) (F : World → Prop) (n : Nat) (L : Array Bool) (w : World) : Prop :=
  L.size = n + 2 ∧ (L.getD (n + 1) false = true → ∀ j, j < n + 1 → L.getD j false = true) ∧ if L.getD (n + 1) false = true then F w else if L.getD n false = true then w = U else w = V
section
variable {V U : World} {F : World → Prop} {n k : Nat} {L : Array Bool} {w : World} {ops : Array Oper}
theorem boxC_start : BoxC V U F n (Array.replicate (n + 2) false) V := by
  unfold BoxC
  rw [getD_replicate_false, getD_replicate_false, if_neg (by decide), if_neg (by decide)]
  exact ⟨by simp, (fun h => by cases h), rfl⟩
theorem boxC_not (hr : k ∈ Region.ready .any ops L) (hk : k < n + 1) (h : BoxC V U F n L w) : ¬ L.getD (n + 1) false = true := fun q => by
  have h1 := h.2.1 q k hk
  rw [(ready_not hr).1] at h1
  cases h1
theorem boxC_two (hr : k ∈ Region.ready .any ops L) (hk : k < n + 1) (h : BoxC V U F n L w) : w = V ∨ w = U := by
  have h2 := h.2.2
  rw [if_neg (boxC_not hr hk h)] at h2
  split at h2
  · exact .inr h2
  · exact .inl h2
theorem boxC_keep (hr : k ∈ Region.ready .any ops L) (hk : k < n) (h : BoxC V U F n L w) : BoxC V U F n (L.setIfInBounds k true) w := by
  have h0 := boxC_not hr (by omega) h
  have h2 := h.2.2
  rw [if_neg h0] at h2
  unfold BoxC
  rw [getD_set_ne false (show k ≠ n + 1 by omega), getD_set_ne false (show k ≠ n by omega), if_neg h0]
  exact ⟨by simp [h.1], fun q => absurd q h0, h2⟩
theorem boxC_new (hr : n ∈ Region.ready .any ops L) (h : BoxC V U F n L w) : w = V ∧ BoxC V U F n (L.setIfInBounds n true) U := by
  have h0 := boxC_not hr (by omega) h
  have h2 := h.2.2
  have hs := ready_not hr
  rw [if_neg h0, if_neg (by rw [hs.1]; decide)] at h2
  refine ⟨h2, ?_⟩
  unfold BoxC
  rw [getD_set_ne false (show n ≠ n + 1 by omega), if_neg h0, set_yes hs.2, if_pos rfl]
  exact ⟨by simp [h.1], fun q => absurd q h0, rfl⟩
theorem boxC_put (hr : n + 1 ∈ Region.ready .any ops L) (hw : (List.range (n + 1)).all (fun j => Region.waitsFor .any ops (n + 1) j) = true) (h : BoxC V U F n L w) : w = U ∧ ∀ w', F w' → BoxC V U F n (L.setIfInBounds (n + 1) true) w' := by
  have hs := ready_not hr
  have hd : ∀ j, j < n + 1 → L.getD j false = true := fun j hj => by
    obtain ⟨oj, hoj, e, he, hb, hon⟩ := Region.waitsFor_spec (List.all_eq_true.1 hw j (List.mem_range.2 hj))
    rw [← hon]
    exact ready_dep hr hoj he hb
  have h2 := h.2.2
  rw [if_neg (by rw [hs.1]; decide), if_pos (hd n (by omega))] at h2
  refine ⟨h2, fun w' hF => ?_⟩
  unfold BoxC
  rw [set_yes hs.2, if_pos rfl]
  refine ⟨by simp [h.1], fun _ j hj => ?_, hF⟩
  rw [getD_set_ne false (show n + 1 ≠ j by omega)]
  exact hd j hj
theorem boxC_end (hz : ops.size = n + 2) (hb : (List.range ops.size).all (fun j => (ops[j]?.map fun o => o.after.all fun e => decide (e.on < j)).getD true) = true) (hr : Region.ready .any ops L = []) (h : BoxC V U F n L w) : F w := by
  have hall : ∀ j, j < n + 2 → L.getD j false = true := by
    intro j
    induction j using Nat.strongRecOn with
    | _ j ih =>
      intro hj
      cases hq : L.getD j false with
      | true => rfl
      | false =>
        exfalso
        have hj' : j < ops.size := by omega
        have hm : j ∈ Region.ready .any ops L := mem_ready.2 ⟨getD_in (by rw [h.1]; omega) hq, ops[j], Array.getElem?_eq_getElem hj', fun e he _ => by
          have h1 := List.all_eq_true.1 hb j (List.mem_range.2 hj')
          rw [Array.getElem?_eq_getElem hj'] at h1
          simp only [Option.map_some, Option.getD_some] at h1
          have h2 : decide (e.on < j) = true := by
            rw [Array.all_eq_true'] at h1
            exact h1 e he
          have h3 : e.on < j := by simpa using h2
          exact ih e.on h3 (by omega)⟩
        rw [hr] at hm
        cases hm
  have h2 := h.2.2
  rw [if_pos (hall (n + 1) (by omega))] at h2
  exact h2
end
end Go.Proofs.Ytgpjelcihmbiiaa
