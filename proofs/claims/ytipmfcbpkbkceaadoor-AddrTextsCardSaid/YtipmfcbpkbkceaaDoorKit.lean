/- Small words of this seat's proofs: a region that only reads, and whose calls only make memory, is walked once, and behind it of old memory nothing has turned. No condition. -/
import Derived.Test.YtipmfcbpkbkceaaDoorRows
import Derived.WalkKit
import Derived.ProofKit
import Derived.OpenShut
import Derived.Handy
import Derived.Lib.Hide
import Derived.Lib.QuietBelow
import Derived.BigQuiet
import Derived.Deep.RegionWith
import Derived.StillTailTactics
import Derived.Outline
namespace Go.Proofs.YtipmfcbpkbkceaaDoor
open Go.RowKit Go.Sort

/-- A region that draws its order, whose operations only read and whose callees make at most new memory. -/
theorem wp_region_qb {P : Program} {id : Nat} {Q : Exit → Act → World → Prop} {a : Act} {w : World} {l : List Oper} (hm : P.follows .mixedOrders = true) (hB : Region.lexB .any l.toArray = true)
    (h : wpQuiet P l.toArray (fun w' => ∃ p : Regrown, w' = grow (redrawn w p.d) p.os) (fun a' => ∀ w', Below w.heap.size w w' → Q .normal a' w') l a) : (Code.region id l.toArray true).wp P Q a w := by
  refine wp_region_quiet (C := fun w' => ∃ p : Regrown, w' = grow (redrawn w p.d) p.os) hm hB ⟨⟨w.drawn + 1, #[]⟩, by rw [grow_empty]; rfl⟩ ?_
  have e : (fun a' => ∀ w', Below w.heap.size w w' → Q .normal a' w') = (fun a' => ∀ w', (∃ p : Regrown, w' = grow (redrawn w p.d) p.os) → Q .normal a' w') := by
    funext a'
    apply propext
    constructor
    · rintro h w' ⟨p, rfl⟩
      exact h _ (below_regrown w p.d p.os)
    · intro h w' hb
      exact h w' (regrown_of_below hb)
  rw [e] at h
  simpa using h

/-- A callee that leaves the world alone, met in such a region. -/
theorem regrown_same {P : Program} {f : FuncId} {args : Array Value} {w : World} {d : Nat} {os : Array Obj} {v : Value}
    (h : Calls P f args (grow (redrawn w d) os) fun e w' => e = .returned v ∧ grow (redrawn w d) os = w') : Calls P f args (grow (redrawn w d) os) fun e w'' => e = .returned v ∧ ∃ p : Regrown, w'' = grow (redrawn w p.d) p.os :=
  h.mono fun _ _ ⟨he, hb⟩ => ⟨he, ⟨⟨d, os⟩, hb.symm⟩⟩

theorem bcell {W w1 : World} (hb : Below W.heap.size W w1) : (∀ b o, b < W.heap.size → w1.cell? ⟨b, o, none⟩ = W.cell? ⟨b, o, none⟩) ∧ (∀ b o, b < W.heap.size → w1.frozen? ⟨b, o, none⟩ = W.frozen? ⟨b, o, none⟩) :=
  ⟨fun b o h => hb.cell (p := ⟨b, o, none⟩) h, fun b o h => hb.frozen (p := ⟨b, o, none⟩) h⟩

/-- A block of two cells that was made just now. -/
theorem cell2_new (w : World) (x y : Value) (T : TypeId) : (w.alloc (.cells #[x, y] T)).cell? ⟨w.heap.size, 0, none⟩ = some x ∧ (w.alloc (.cells #[x, y] T)).cell? ⟨w.heap.size, 1, none⟩ = some y :=
  ⟨World.cell?_alloc_at _ _ _ _ rfl, World.cell?_alloc_at _ _ _ _ rfl⟩

/-- What a walk carries: these cells hold these values, and of the memory of w0 nothing has turned. -/
def St (w0 : World) (cs : List (Nat × Nat × Value)) (w : World) : Prop := (∀ x ∈ cs, w.cell? ⟨x.1, x.2.1, none⟩ = some x.2.2) ∧ Below w0.heap.size w0 w
theorem St.start (w0 : World) : St w0 [] w0 := ⟨fun _ h => (by cases h), Below.refl _ _⟩
theorem St.below {w0 w w1 : World} {cs : List (Nat × Nat × Value)} (h : St w0 cs w) (hb : Below w.heap.size w w1) : St w0 cs w1 :=
  ⟨fun x hx => (hb.cell (p := ⟨x.1, x.2.1, none⟩) (block_lt_of_cell (h.1 x hx))).trans (h.1 x hx), h.2.trans (hb.mono h.2.size)⟩
theorem St.alloc {w0 w : World} {cs : List (Nat × Nat × Value)} (h : St w0 cs w) (o : Obj) : St w0 cs (w.alloc o) :=
  h.below ((Below.refl _ _).alloc (Nat.le_refl _) _)
theorem St.drew {w0 w : World} {cs : List (Nat × Nat × Value)} (h : St w0 cs w) : St w0 cs w.drew := h.below (Below.refl _ _).drew
theorem St.cons {w0 w : World} {cs : List (Nat × Nat × Value)} (h : St w0 cs w) (b o : Nat) (v : Value) (hv : w.cell? ⟨b, o, none⟩ = some v) : St w0 ((b, o, v) :: cs) w :=
  ⟨fun x hx => by rcases List.mem_cons.1 hx with rfl | hx <;> first | exact hv | exact h.1 x hx, h.2⟩
/-- A new block of two cells. -/
theorem St.box2 {w0 w : World} {cs : List (Nat × Nat × Value)} (h : St w0 cs w) (x y : Value) (T : TypeId) : St w0 ((w.heap.size, 0, x) :: (w.heap.size, 1, y) :: cs) (w.alloc (.cells #[x, y] T)) :=
  ((h.alloc _).cons _ _ _ (cell2_new w x y T).2).cons _ _ _ (cell2_new w x y T).1
theorem St.lt {w0 w : World} {cs : List (Nat × Nat × Value)} (h : St w0 cs w) {b o : Nat} {v : Value} (hx : (b, o, v) ∈ cs) : b < w.heap.size := block_lt_of_cell (h.1 _ hx)

/-- The same cells, one after the other. -/
def Cells (w : World) : List (Nat × Nat × Value) → Prop
  | [] => True
  | x :: r => w.cell? ⟨x.1, x.2.1, none⟩ = some x.2.2 ∧ Cells w r
theorem cells_of {w : World} : ∀ {cs : List (Nat × Nat × Value)}, (∀ x ∈ cs, w.cell? ⟨x.1, x.2.1, none⟩ = some x.2.2) → Cells w cs
  | [], _ => True.intro
  | x :: _, h => ⟨h x (List.mem_cons_self ..), cells_of fun y hy => h y (List.mem_cons_of_mem _ hy)⟩
theorem St.cells {w0 w : World} {cs : List (Nat × Nat × Value)} (h : St w0 cs w) : Cells w cs := cells_of h.1
theorem St.top {w0 w : World} {b o : Nat} {v : Value} {cs : List (Nat × Nat × Value)} (h : St w0 ((b, o, v) :: cs) w) : b < w.heap.size := h.lt (List.mem_cons_self ..)
def Lts (w : World) : List (Nat × Nat × Value) → Prop
  | [] => True
  | x :: r => x.1 < w.heap.size ∧ Lts w r
theorem lts_of {w : World} : ∀ {cs : List (Nat × Nat × Value)}, (∀ x ∈ cs, w.cell? ⟨x.1, x.2.1, none⟩ = some x.2.2) → Lts w cs
  | [], _ => True.intro
  | x :: _, h => ⟨block_lt_of_cell (h x (List.mem_cons_self ..)), lts_of fun y hy => h y (List.mem_cons_of_mem _ hy)⟩
theorem St.lts {w0 w : World} {cs : List (Nat × Nat × Value)} (h : St w0 cs w) : Lts w cs := lts_of h.1
/-- The same cells, in every world of a quiet region's class. -/
def CellsAt (w : World) : List (Nat × Nat × Value) → Prop
  | [] => True
  | x :: r => (∀ d os, (grow (redrawn w d) os).cell? ⟨x.1, x.2.1, none⟩ = some x.2.2) ∧ CellsAt w r
theorem cellsAt_of {w : World} : ∀ {cs : List (Nat × Nat × Value)}, (∀ x ∈ cs, w.cell? ⟨x.1, x.2.1, none⟩ = some x.2.2) → CellsAt w cs
  | [], _ => True.intro
  | x :: _, h => ⟨cell_regrown (h x (List.mem_cons_self ..)), cellsAt_of fun y hy => h y (List.mem_cons_of_mem _ hy)⟩

theorem wpQuiet_imp {P : Program} {ops : Array Oper} {C : World → Prop} {Q Q' : Act → Prop} (hQ : ∀ a, Q a → Q' a) : ∀ (l : List Oper) (a : Act), wpQuiet P ops C Q l a → wpQuiet P ops C Q' l a
  | [], a, h => hQ a h
  | o :: r, a, h => by
    simp only [wpQuiet] at h ⊢
    split
    · rename_i hw
      rw [if_pos hw] at h
      exact Oper.quiet_mono (wpQuiet_imp hQ r) h
    · rename_i hw
      rw [if_neg hw] at h
      exact wpQuiet_imp hQ r _ h

/-- A region that draws its order, whose operations only read and whose callees make at most new memory, in a state that is known. -/
theorem wp_region_qs {P : Program} {id : Nat} {Q : Exit → Act → World → Prop} {a : Act} {w w0 : World} {cs : List (Nat × Nat × Value)} {l : List Oper} (hS : St w0 cs w) (hm : P.follows .mixedOrders = true) (hB : Region.lexB .any l.toArray = true)
    (h : CellsAt w cs → wpQuiet P l.toArray (fun w' => ∃ p : Regrown, w' = grow (redrawn w p.d) p.os) (fun a' => ∀ w', St w0 cs w' → Q .normal a' w') l a) : (Code.region id l.toArray true).wp P Q a w := by
  refine wp_region_quiet (C := fun w' => ∃ p : Regrown, w' = grow (redrawn w p.d) p.os) hm hB ⟨⟨w.drawn + 1, #[]⟩, by rw [grow_empty]; rfl⟩ ?_
  have h' := h (cellsAt_of hS.1)
  rw [show l.toArray.toList = l from rfl]
  refine wpQuiet_imp (fun a' (k : ∀ w', St w0 cs w' → Q .normal a' w') => ?_) _ _ h'
  rintro w' ⟨p, rfl⟩
  exact k _ (hS.below (below_regrown w p.d p.os))

/-- A region that draws its order: all operations but the last ones, from the n-th on, only read; in a state that is known. The world behind the draw is any world of that state. -/
theorem wp_region_tail {P : Program} {id : Nat} {Q : Exit → Act → World → Prop} {a : Act} {w w0 : World} {cs : List (Nat × Nat × Value)} {l : List Oper} (hS : St w0 cs w) (n : Nat) (hm : P.follows .mixedOrders = true) (hB : Region.lexTailB .any l.toArray n = true)
    (h : ∀ W, St w0 cs W → Cells W cs → Lts W cs → wpStill P l.toArray W (fun a' => wpList P l.toArray Q (l.drop n) a' W) (l.take n) a) : (Code.region id l.toArray true).wp P Q a w :=
  wp_region_still_tail n hm hB (h w.drew hS.drew hS.drew.cells hS.drew.lts)
end Go.Proofs.YtipmfcbpkbkceaaDoor
