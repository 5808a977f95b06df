/- A region that draws its order: its first operations only read or reckon, and are taken first; the last ones follow one after the other. No condition. -/
import Derived.Test.YtejcclcckgdbgaaGa
import Derived.OrdersHeld
namespace Go.Proofs.Ytejcclcckgdbgaa
open Go.RowKit Go.Sort

/-- An operation that reads or reckons: it enters no function, and makes nothing. -/
def plainOp : Op → Bool
  | .move _ | .assign _ | .pick _ _ _ | .load _ _ | .binOp _ _ _ _ _ | .unOp _ _ _ | .convert _ _ _ | .slice _ _ _ _ _ | .fieldAddr _ _ _ | .indexAddr _ _ _ | .extract _ _ | .build _ _ => true
  | _ => false

theorem value_of_then {P : Program} {α : Type} {s : Sem α} {f : α → Value} {w w' : World} {n : Next} (h : Sem.run P (s >>= fun a => pure (Next.value (f a))) w = .ok n w') : ∃ v, n = .value v := by
  rw [Sem.run_bind] at h
  cases hs : Sem.run P s w with
  | ok v w1 =>
    rw [hs] at h
    simp only [Result.andThen, Sem.run_pure, Result.ok.injEq] at h
    exact ⟨f v, h.1.symm⟩
  | halt x w1 =>
    rw [hs] at h
    simp [Result.andThen] at h

theorem plain_value {P : Program} {ρ : Operand → Value} {o : Oper} (hp : plainOp o.op = true) {w w' : World} {n : Next} (h : (execOp ρ o).run P w = .ok n w') : ∃ v, n = .value v := by
  unfold execOp at h
  revert h
  cases ho : o.op <;> simp only [ho, plainOp, Bool.false_eq_true] at hp <;> intro h <;> dsimp only at h <;> first
    | (simp only [Sem.run_pure, Result.ok.injEq] at h; exact ⟨_, h.1.symm⟩)
    | exact value_of_then (f := id) h
    | exact value_of_then h

theorem yieldsIf_of_quiet {P : Program} {ops : Array Oper} {C : World → Prop} {o : Oper} {a : Act} {K : Act → Prop} (hp : plainOp o.op = true)
    (h : if Region.wanted o (yielded ops a.tmps) then o.quiet P a C K else K (a.put o.dst undef)) : ∃ v, YieldsIf P ops C o v a ∧ K (a.put o.dst v) := by
  split at h
  · rename_i hw
    obtain ⟨v, hv, hK⟩ := h
    refine ⟨v, .inl ⟨hw, fun w hC => ?_⟩, hK⟩
    have hq := hv w hC
    unfold Oper.quietAt at hq
    cases hr : (execOp a.eval o).run P w with
    | ok n w1 =>
      rw [hr] at hq
      obtain ⟨u, rfl⟩ := plain_value hp hr
      simp only [Oper.quietUpon] at hq
      rw [hq.1, hq.2]
    | halt x w1 =>
      rw [hr] at hq
      exact (hq : False).elim
  · rename_i hw
    exact ⟨undef, .inr ⟨by simpa using hw, rfl⟩, h⟩

/-- The first n operations, from the k-th on, may each be taken first when those ahead of it have come up. -/
def lexPre (ops : Array Oper) : Nat → Nat → Array Bool → Bool
  | 0, _, _ => true
  | n + 1, k, listed => (Region.ready .any ops listed).contains k && Region.free .any ops listed k && lexPre ops n (k + 1) (listed.setIfInBounds k true)
def listedBy : Nat → Nat → Array Bool → Array Bool
  | 0, _, listed => listed
  | n + 1, k, listed => listedBy n (k + 1) (listed.setIfInBounds k true)

theorem wpAnyH_pre {P : Program} {ops : Array Oper} {Q : Exit → Act → World → Prop} {S : World → Prop} {g : Nat} {w : World} (hs : Region.noSelect ops = true)
    (hQ : ∀ c d v a w, Q (.panic c) (a.put d v) w → Q (.panic c) a w) (hS : S w) : ∀ (l : List Oper) (k : Nat) (listed : Array Bool) (a : Act), (∀ j, j < l.length → l[j]? = ops[k + j]?) → (l.all fun o => plainOp o.op) = true →
    lexPre ops l.length k listed = true → wpQuiet P ops S (fun a' => wpAnyH P .any ops Q S g (listedBy l.length k listed) a' w) l a → wpAnyH P .any ops Q S (g + l.length) listed a w
  | [], _, _, _, _, _, _, h => h
  | o :: l, k, listed, a, hl, hp, hB, h => by
    have h0 : ops[k]? = some o := by simpa using (hl 0 (by simp)).symm
    simp only [List.length_cons, lexPre, Bool.and_eq_true] at hB
    obtain ⟨⟨hr, hf⟩, hB'⟩ := hB
    simp only [List.all_cons, Bool.and_eq_true] at hp
    obtain ⟨v, hy, hK⟩ := yieldsIf_of_quiet hp.1 (h : if Region.wanted o (yielded ops a.tmps) then o.quiet P a S (wpQuiet P ops S _ l) else wpQuiet P ops S _ l (a.put o.dst undef))
    exact wpAnyH_take h0 hs hf hr (fun c a w => hQ c _ _ a w) hy hS
      (wpAnyH_pre hs hQ hS l (k + 1) _ _ (fun j hj => by have := hl (j + 1) (by simp; omega); simpa [Nat.add_assoc, Nat.add_comm 1 j] using this) hp.2 hB' hK)

/-- One operation that alone may come up. -/
theorem wpAnyH_one {P : Program} {ops : Array Oper} {Q : Exit → Act → World → Prop} {S : World → Prop} {fuel k : Nat} {listed : Array Bool} {a : Act} {w : World} {o : Oper} (hr : Region.ready .any ops listed = [k]) (ho : ops[k]? = some o)
    (h : ∀ K' : Act → World → Prop, (∀ a w, S w → wpAnyH P .any ops Q S fuel (listed.setIfInBounds k true) a w → K' a w) → if Region.wanted o (yielded ops a.tmps) = true then Oper.wp P o a w K' Q else K' (a.put o.dst undef) w) :
    wpAnyH P .any ops Q S (fuel + 1) listed a w :=
  wpAnyH_all hr (by simp) fun i hi => by
    obtain rfl : i = k := by simpa using hi
    exact wpOp_step ho fun K' hK => h K' fun a w hS hW => hK a w ⟨hS, hW⟩

/-- The worlds in which of W's memory nothing has turned. -/
def CB (W : World) (w' : World) : Prop := ∃ p : Regrown, w' = grow (redrawn W p.d) p.os
theorem CB.of_below {W w' : World} (h : Below W.heap.size W w') : CB W w' := regrown_of_below h
theorem CB.refl (W : World) : CB W W := CB.of_below (Below.refl _ _)
theorem CB.below {W w' : World} (h : CB W w') : Below W.heap.size W w' := by
  obtain ⟨p, rfl⟩ := h
  exact below_regrown W p.d p.os
theorem wp_region_pre {P : Program} {id : Nat} {Q : Exit → Act → World → Prop} {a : Act} {w w0 : World} {cs : List (Nat × Nat × Value)} {l : List Oper} (hS : St w0 cs w) (n g : Nat) (hn : g + (l.take n).length = l.toArray.size) (hm : P.follows .mixedOrders = true) (hs : Region.noSelect l.toArray = true)
    (hp : ((l.take n).all fun o => plainOp o.op) = true) (hB : lexPre l.toArray (l.take n).length 0 (Array.replicate l.toArray.size false) = true) (hQ : ∀ c d v a w, Q (.panic c) (a.put d v) w → Q (.panic c) a w)
    (h : ∀ W, St w0 cs W → CellsAt W cs → wpQuiet P l.toArray (fun w' => ∃ p : Regrown, w' = grow (redrawn W p.d) p.os) (fun a' => wpAnyH P .any l.toArray Q (CB W) g (listedBy (l.take n).length 0 (Array.replicate l.toArray.size false)) a' W) (l.take n) a) : (Code.region id l.toArray true).wp P Q a w := by
  refine wp_region_held (S := CB w.drew) hm ?_
  have H := wpAnyH_pre (S := CB w.drew) (g := g) (w := w.drew) hs hQ (CB.refl _) (l.take n) 0 (Array.replicate l.toArray.size false) a (fun j hj => by
    have hj' : j < n := by simp at hj; omega
    simp [hj']) hp hB (h w.drew hS.drew (cellsAt_of hS.drew.1))
  rw [hn] at H
  exact H
end Go.Proofs.Ytejcclcckgdbgaa
