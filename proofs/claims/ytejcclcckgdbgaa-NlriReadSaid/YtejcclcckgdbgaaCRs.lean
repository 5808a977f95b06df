/- A region that draws its order: chosen operations that only read or reckon are taken first; the others follow one after the other. No condition. -/
import Derived.Test.YtejcclcckgdbgaaCReg
namespace Go.Proofs.Ytejcclcckgdbgaa
open Go.RowKit Go.Sort

/-- The chosen operations, in this order, may each be taken first when those ahead of it have come up. -/
def lexSel (ops : Array Oper) : List (Nat × Oper) → Array Bool → Bool
  | [], _ => true
  | x :: r, listed => (Region.ready .any ops listed).contains x.1 && Region.free .any ops listed x.1 && lexSel ops r (listed.setIfInBounds x.1 true)
def listedSel : List (Nat × Oper) → Array Bool → Array Bool
  | [], listed => listed
  | x :: r, listed => listedSel r (listed.setIfInBounds x.1 true)

theorem wpAnyH_sel {P : Program} {ops : Array Oper} {Q : Exit → Act → World → Prop} {S : World → Prop} {g : Nat} {w : World} (hs : Region.noSelect ops = true)
    (hQ : ∀ c d v a w, Q (.panic c) (a.put d v) w → Q (.panic c) a w) (hS : S w) : ∀ (l : List (Nat × Oper)) (listed : Array Bool) (a : Act), (∀ x ∈ l, ops[x.1]? = some x.2) → (l.all fun x => plainOp x.2.op) = true →
    lexSel ops l listed = true → wpQuiet P ops S (fun a' => wpAnyH P .any ops Q S g (listedSel l listed) a' w) (l.map (·.2)) a → wpAnyH P .any ops Q S (g + l.length) listed a w
  | [], _, _, _, _, _, h => h
  | x :: l, listed, a, hl, hp, hB, h => by
    have h0 : ops[x.1]? = some x.2 := hl x (by simp)
    simp only [lexSel, Bool.and_eq_true] at hB
    obtain ⟨⟨hr, hf⟩, hB'⟩ := hB
    simp only [List.all_cons, Bool.and_eq_true] at hp
    obtain ⟨v, hy, hK⟩ := yieldsIf_of_quiet hp.1 (h : if Region.wanted x.2 (yielded ops a.tmps) then x.2.quiet P a S (wpQuiet P ops S _ (l.map (·.2))) else wpQuiet P ops S _ (l.map (·.2)) (a.put x.2.dst undef))
    exact wpAnyH_take h0 hs hf hr (fun c a w => hQ c _ _ a w) hy hS
      (wpAnyH_sel hs hQ hS l _ _ (fun y hy => hl y (List.mem_cons_of_mem _ hy)) hp.2 hB' hK)

/-- The operations of these numbers. -/
def pickOps (l : List Oper) (ks : List Nat) : List (Nat × Oper) := ks.filterMap fun k => (l[k]?).map fun o => (k, o)
theorem pickOps_ok (l : List Oper) (ks : List Nat) : ∀ x ∈ pickOps l ks, l.toArray[x.1]? = some x.2 := by
  intro x hx
  obtain ⟨k, _, h⟩ := List.mem_filterMap.1 hx
  obtain ⟨o, ho, rfl⟩ := Option.map_eq_some_iff.1 h
  simpa using ho

theorem wp_region_sel {P : Program} {id : Nat} {Q : Exit → Act → World → Prop} {a : Act} {w w0 : World} {cs : List (Nat × Nat × Value)} {l : List Oper} (hS : St w0 cs w) (ks : List Nat) (g : Nat) (hn : g + (pickOps l ks).length = l.toArray.size) (hm : P.follows .mixedOrders = true) (hs : Region.noSelect l.toArray = true)
    (hp : ((pickOps l ks).all fun x => plainOp x.2.op) = true) (hB : lexSel l.toArray (pickOps l ks) (Array.replicate l.toArray.size false) = true) (hQ : ∀ c d v a w, Q (.panic c) (a.put d v) w → Q (.panic c) a w)
    (h : ∀ W, St w0 cs W → CellsAt W cs → Below w.heap.size w W → wpQuiet P l.toArray (fun w' => ∃ p : Regrown, w' = grow (redrawn W p.d) p.os) (fun a' => wpAnyH P .any l.toArray Q (CB W) g (listedSel (pickOps l ks) (Array.replicate l.toArray.size false)) a' W) ((pickOps l ks).map (·.2)) a) : (Code.region id l.toArray true).wp P Q a w := by
  refine wp_region_held (S := CB w.drew) hm ?_
  have H := wpAnyH_sel (S := CB w.drew) (g := g) (w := w.drew) hs hQ (CB.refl _) (pickOps l ks) (Array.replicate l.toArray.size false) a (pickOps_ok l ks) hp hB (h w.drew hS.drew (cellsAt_of hS.drew.1) ((Below.refl _ _).drew))
  rw [hn] at H
  exact H
end Go.Proofs.Ytejcclcckgdbgaa
