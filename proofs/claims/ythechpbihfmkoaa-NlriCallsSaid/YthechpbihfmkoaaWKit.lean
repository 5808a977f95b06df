/- Words of this seat's proofs: objects in memory by their blocks; the octets of a slice. No condition. -/
import Derived.Test.YthechpbihfmkoaaRows
import Derived.Test.YthechpbihfmkoaaShelf
import Derived.WalkKit
import Derived.ProofKit
import Derived.OpenShut
import Derived.Handy
import Derived.Below
import Derived.Lib.Hide
import Derived.Lib.QuietBelow
import Derived.BigQuiet
import Derived.Deep.QuietTactic
import Derived.RegionTactic
import Derived.Laws.OwnMore
import Derived.Laws.StructEq
import Derived.Deep.Onto
import Derived.Deep.RegionWith
import Derived.StillTailTactics
import Derived.Outline
import Derived.Deep.CutBlock
import Derived.Deep.DeepCutAuto
namespace Go.Proofs.Ythechpbihfmkoaa
open Go.RowKit Go.Sort
set_option linter.unusedVariables false

/-- Block b is a row of these cells, of type t, none of them frozen. -/
def Blk (w : World) (b : Nat) (t : TypeId) (cs : List Value) : Prop := w.heap[b]? = some (.cells cs.toArray t (0, 0))
theorem Blk.lt {w : World} {b : Nat} {t : TypeId} {cs : List Value} (h : Blk w b t cs) : b < w.heap.size := by
  rcases Nat.lt_or_ge b w.heap.size with h' | h'
  · exact h'
  · unfold Blk at h
    rw [Array.getElem?_eq_none h'] at h
    cases h
theorem Blk.cell {w : World} {b : Nat} {t : TypeId} {cs : List Value} (h : Blk w b t cs) (o : Nat) {v : Value} (hv : cs[o]? = some v) : w.cell? ⟨b, o, none⟩ = some v := by
  unfold Blk at h
  simp [World.cell?, h, hv]
theorem Blk.frozen {w : World} {b : Nat} {t : TypeId} {cs : List Value} (h : Blk w b t cs) (o : Nat) : w.frozen? ⟨b, o, none⟩ = false := by
  unfold Blk at h
  simp [World.frozen?, h]
theorem Blk.set {w : World} {b : Nat} {t : TypeId} {cs : List Value} (h : Blk w b t cs) (o : Nat) (v : Value) : Blk (w.setCell ⟨b, o, none⟩ v) b t (cs.set o v) := by
  unfold Blk at h ⊢
  simp [World.setCell, Array.getElem?_modify, h]
theorem Blk.set_other {w : World} {b c : Nat} {t : TypeId} {cs : List Value} (h : Blk w b t cs) (o : Nat) (v : Value) (hc : c ≠ b) : Blk (w.setCell ⟨c, o, none⟩ v) b t cs := by
  unfold Blk at h ⊢
  rw [← h]
  exact Below.heap_setCell w ⟨c, o, none⟩ v b (fun e => hc e.symm)
theorem Blk.new (w : World) (t : TypeId) (cs : List Value) : Blk (w.alloc (.cells cs.toArray t)) w.heap.size t cs := by
  unfold Blk
  show (w.heap.push _)[w.heap.size]? = _
  simp
theorem Blk.drew {w : World} {b : Nat} {t : TypeId} {cs : List Value} (h : Blk w b t cs) : Blk w.drew b t cs := h
theorem Blk.below {w w' : World} {B b : Nat} {t : TypeId} {cs : List Value} (h : Blk w b t cs) (k : Below B w w') (hb : b < B) : Blk w' b t cs := (k.block b hb).trans h
theorem Blk.ne {w : World} {b c : Nat} {t u : TypeId} {cs ds : List Value} (h : Blk w b t cs) (k : Blk w c u ds) (ht : t ≠ u) : b ≠ c := by
  rintro rfl
  unfold Blk at h k
  rw [h] at k
  injection k with k
  injection k with k1 k2
  exact ht k2

/-- All blocks below B but block b are as they were. -/
structure But (B b : Nat) (w w' : World) : Prop where
  os : w'.os = w.os
  tape : w'.tape = w.tape
  output : w'.output = w.output
  size : w.heap.size ≤ w'.heap.size
  block : ∀ k, k < B → k ≠ b → w'.heap[k]? = w.heap[k]?
theorem But.of_below {B b : Nat} {w w' : World} (h : Below B w w') : But B b w w' := ⟨h.os, h.tape, h.output, h.size, fun k hk _ => h.block k hk⟩
theorem But.refl (B b : Nat) (w : World) : But B b w w := .of_below (Below.refl _ _)
theorem But.mono {B B' b : Nat} {w w' : World} (h : But B b w w') (hB : B' ≤ B) : But B' b w w' := ⟨h.os, h.tape, h.output, h.size, fun k hk hn => h.block k (Nat.lt_of_lt_of_le hk hB) hn⟩
theorem But.trans {B b : Nat} {x y z : World} (h : But B b x y) (k : But B b y z) : But B b x z :=
  ⟨k.os.trans h.os, k.tape.trans h.tape, k.output.trans h.output, Nat.le_trans h.size k.size, fun i hi hn => (k.block i hi hn).trans (h.block i hi hn)⟩
/-- One call behind the other: each says it of its own first world. -/
theorem But.then {b : Nat} {x y z : World} (h : But x.heap.size b x y) (k : But y.heap.size b y z) : But x.heap.size b x z := h.trans (k.mono h.size)
theorem But.drew {B b : Nat} {x w : World} (h : But B b x w) : But B b x w.drew := ⟨h.os, h.tape, h.output, h.size, h.block⟩
theorem But.setCell {B b : Nat} {x w : World} (h : But B b x w) (o : Nat) (u : Value) : But B b x (w.setCell ⟨b, o, none⟩ u) :=
  h.trans ⟨rfl, rfl, rfl, by simp [World.setCell], fun k hk hn => Below.heap_setCell _ _ _ _ hn⟩
theorem But.alloc {B b : Nat} {x w : World} (h : But B b x w) (hB : B ≤ w.heap.size) (o : Obj) : But B b x (w.alloc o) :=
  h.trans (.of_below ((Below.refl B w).alloc hB o))
theorem But.blk {B b c : Nat} {w w' : World} {t : TypeId} {cs : List Value} (k : But B b w w') (h : Blk w c t cs) (hc : c < B) (hn : c ≠ b) : Blk w' c t cs := (k.block c hc hn).trans h
/-- Nothing that was there before the law began. -/
theorem But.below {B b : Nat} {w0 w w' : World} (h0 : Below B w0 w) (k : But w.heap.size b w w') (hb : B ≤ b) (hs : B ≤ w.heap.size) : Below B w0 w' :=
  h0.trans ⟨k.os, k.tape, k.output, k.size, fun i hi => k.block i (by omega) (by omega)⟩

/-- Octets. -/
def Oct (xs : List Int) : Prop := ∀ x ∈ xs, 0 ≤ x ∧ x < 256
theorem Oct.getD {xs : List Int} (h : Oct xs) (i : Nat) : 0 ≤ xs.getD i 0 ∧ xs.getD i 0 < 256 := by
  by_cases hi : i < xs.length
  · have e : xs.getD i 0 = xs[i] := by simp [List.getD_eq_getElem?_getD, hi]
    rw [e]
    exact h _ (List.getElem_mem hi)
  · have e : xs.getD i 0 = 0 := by simp [List.getD_eq_getElem?_getD, Nat.le_of_not_lt hi]
    rw [e]
    decide
theorem Oct.take {xs : List Int} (h : Oct xs) (n : Nat) : Oct (xs.take n) := fun x hx => h x (List.mem_of_mem_take hx)
theorem Oct.drop {xs : List Int} (h : Oct xs) (n : Nat) : Oct (xs.drop n) := fun x hx => h x (List.mem_of_mem_drop hx)

/-- The slice v reads as xs, wherever it lies. -/
def Seg (w : World) (v : Value) (xs : List Int) : Prop := ∃ a c, v = .slice a xs.length c ∧ xs.length ≤ c ∧ ∀ i, i < xs.length → ∃ b o, a = some ⟨b, o, none⟩ ∧ w.cell? ⟨b, o + i, none⟩ = some (.int .u8 (xs.getD i 0))
theorem Seg.below {w w' : World} {v : Value} {xs : List Int} (h : Seg w v xs) (k : Below w.heap.size w w') : Seg w' v xs := by
  obtain ⟨a, c, rfl, hc, hx⟩ := h
  refine ⟨a, c, rfl, hc, fun i hi => ?_⟩
  obtain ⟨b, o, e, hcell⟩ := hx i hi
  exact ⟨b, o, e, (k.cell (p := ⟨b, o + i, none⟩) (block_lt_of_cell hcell)).trans hcell⟩
theorem Seg.nil (w : World) : Seg w (.slice none 0 0) [] := ⟨none, 0, rfl, Nat.le_refl _, fun i hi => absurd hi (Nat.not_lt_zero _)⟩

/-- A slice of octets in a block of its own. -/
def Dat (w : World) (v : Value) (xs : List Int) : Prop := w.ownsRow 0 5 1 v xs.length (xs.map (Value.int .u8))
theorem Dat.nil (w : World) : Dat w (.slice none 0 0) [] := World.ownsRow_nil w _ _ _
/-- What a value of a slice says of its block. -/
theorem Dat.form {w : World} {v : Value} {xs : List Int} (h : Dat w v xs) : (v = .slice none 0 0 ∧ xs = []) ∨ ∃ g cap cs, v = .slice (some ⟨g, 0, none⟩) xs.length cap ∧ xs.length ≤ cap ∧ cap ≤ maxLen ∧ Blk w g 5 cs ∧ cs.length = cap ∧ cs.take xs.length = xs.map (Value.int .u8) := by
  obtain ⟨_, ⟨hv, hn⟩ | ⟨g, cap, cur, hv, _, hg, h1, h2, h3, h4⟩⟩ := h
  · exact .inl ⟨hv, List.length_eq_zero_iff.1 hn⟩
  · exact .inr ⟨g, cap, cur.toList, hv, h1, h2, by unfold Blk; simpa using hg, by simpa using h3, by simpa using h4⟩
theorem Dat.mk {w : World} {xs : List Int} {g cap : Nat} {cs : List Value} (h1 : xs.length ≤ cap) (h2 : cap ≤ maxLen) (hb : Blk w g 5 cs) (h3 : cs.length = cap) (h4 : cs.take xs.length = xs.map (Value.int .u8)) : Dat w (.slice (some ⟨g, 0, none⟩) xs.length cap) xs :=
  ⟨by simp, .inr ⟨g, cap, cs.toArray, rfl, Nat.zero_le _, hb, h1, h2, by simpa using h3, by simpa using h4⟩⟩
theorem Dat.below {w w' : World} {v : Value} {xs : List Int} (h : Dat w v xs) (k : Below w.heap.size w w') : Dat w' v xs := by
  rcases h.form with ⟨rfl, rfl⟩ | ⟨g, cap, cs, rfl, h1, h2, hb, h3, h4⟩
  · exact Dat.nil _
  · exact Dat.mk h1 h2 (hb.below k hb.lt) h3 h4
/-- It lies in no block of another type. -/
theorem Dat.but {w w' : World} {v : Value} {xs : List Int} {b : Nat} {t : TypeId} {cs : List Value} (h : Dat w v xs) (k : But w.heap.size b w w') (hb : Blk w b t cs) (ht : t ≠ 5) : Dat w' v xs := by
  rcases h.form with ⟨rfl, rfl⟩ | ⟨g, cap, ds, rfl, h1, h2, hg, h3, h4⟩
  · exact Dat.nil _
  · exact Dat.mk h1 h2 (k.blk hg hg.lt (fun e => hb.ne hg ht e.symm)) h3 h4
theorem Dat.set {w : World} {v : Value} {xs : List Int} {b : Nat} {t : TypeId} {cs : List Value} (h : Dat w v xs) (hb : Blk w b t cs) (ht : t ≠ 5) (o : Nat) (u : Value) : Dat (w.setCell ⟨b, o, none⟩ u) v xs :=
  h.but ((But.refl w.heap.size b w).setCell o u) hb ht
/-- The octets from the i-th on, n of them, as a slice of it reads. -/
theorem take_at {cs : List Value} {xs : List Int} (h : cs.take xs.length = xs.map (Value.int .u8)) (i : Nat) (hi : i < xs.length) : cs[i]? = some (.int .u8 (xs.getD i 0)) := by
  have e : (cs.take xs.length)[i]? = (xs.map (Value.int .u8))[i]? := by rw [h]
  rw [List.getElem?_take_of_lt hi, List.getElem?_map] at e
  rw [e]
  simp [List.getD_eq_getElem?_getD, hi]
theorem Dat.seg {w : World} {v : Value} {xs : List Int} (h : Dat w v xs) : Seg w v xs := by
  rcases h.form with ⟨rfl, rfl⟩ | ⟨g, cap, cs, rfl, h1, h2, hb, h3, h4⟩
  · exact Seg.nil _
  · exact ⟨_, _, rfl, h1, fun i hi => ⟨g, 0, rfl, hb.cell _ (by rw [Nat.zero_add]; exact take_at h4 i hi)⟩⟩
/-- A region that draws its order, whose operations only read and whose callees make at most new memory. -/
theorem wp_region_qb {P : Program} {id : Nat} {Q : Exit → Act → World → Prop} {a : Act} {w : World} {l : List Oper} (hm : P.follows .mixedOrders = true) (hB : Region.lexB .any l.toArray = true)
    (h : wpQuiet P l.toArray (fun w' => ∃ p : Regrown, w' = grow (redrawn w p.d) p.os) (fun a' => ∀ w', Below w.heap.size w w' → Q .normal a' w') l a) : (Code.region id l.toArray true).wp P Q a w := by
  refine wp_region_quiet (C := fun w' => ∃ p : Regrown, w' = grow (redrawn w p.d) p.os) hm hB ⟨⟨w.drawn + 1, #[]⟩, by rw [grow_empty]; rfl⟩ ?_
  have e : (fun a' => ∀ w', Below w.heap.size w w' → Q .normal a' w') = (fun a' => ∀ w', (∃ p : Regrown, w' = grow (redrawn w p.d) p.os) → Q .normal a' w') := by
    funext a'
    apply propext
    constructor
    · rintro h w' ⟨p, rfl⟩
      exact h _ (below_regrown w p.d p.os)
    · intro h w' hb
      exact h w' (regrown_of_below hb)
  rw [e] at h
  simpa using h

/-- A callee that leaves the world alone, met in such a region. -/
theorem regrown_same {P : Program} {f : FuncId} {args : Array Value} {w : World} {d : Nat} {os : Array Obj} {v : Value}
    (h : Calls P f args (grow (redrawn w d) os) fun e w' => e = .returned v ∧ grow (redrawn w d) os = w') : Calls P f args (grow (redrawn w d) os) fun e w'' => e = .returned v ∧ ∃ p : Regrown, w'' = grow (redrawn w p.d) p.os :=
  h.mono fun _ _ ⟨he, hb⟩ => ⟨he, ⟨⟨d, os⟩, hb.symm⟩⟩

theorem bcell {W w1 : World} (hb : Below W.heap.size W w1) : (∀ b o, b < W.heap.size → w1.cell? ⟨b, o, none⟩ = W.cell? ⟨b, o, none⟩) ∧ (∀ b o, b < W.heap.size → w1.frozen? ⟨b, o, none⟩ = W.frozen? ⟨b, o, none⟩) :=
  ⟨fun b o h => hb.cell (p := ⟨b, o, none⟩) h, fun b o h => hb.frozen (p := ⟨b, o, none⟩) h⟩

/-- A block of two cells that was made just now. -/
theorem cell2_new (w : World) (x y : Value) (T : TypeId) : (w.alloc (.cells #[x, y] T)).cell? ⟨w.heap.size, 0, none⟩ = some x ∧ (w.alloc (.cells #[x, y] T)).cell? ⟨w.heap.size, 1, none⟩ = some y :=
  ⟨World.cell?_alloc_at _ _ _ _ rfl, World.cell?_alloc_at _ _ _ _ rfl⟩

/-- What a walk carries: these cells hold these values, and of the memory of w0 nothing has turned. -/
def St (w0 : World) (cs : List (Nat × Nat × Value)) (w : World) : Prop := (∀ x ∈ cs, w.cell? ⟨x.1, x.2.1, none⟩ = some x.2.2) ∧ Below w0.heap.size w0 w
theorem St.start (w0 : World) : St w0 [] w0 := ⟨fun _ h => (by cases h), Below.refl _ _⟩
theorem St.below {w0 w w1 : World} {cs : List (Nat × Nat × Value)} (h : St w0 cs w) (hb : Below w.heap.size w w1) : St w0 cs w1 :=
  ⟨fun x hx => (hb.cell (p := ⟨x.1, x.2.1, none⟩) (block_lt_of_cell (h.1 x hx))).trans (h.1 x hx), h.2.trans (hb.mono h.2.size)⟩
theorem St.alloc {w0 w : World} {cs : List (Nat × Nat × Value)} (h : St w0 cs w) (o : Obj) : St w0 cs (w.alloc o) :=
  h.below ((Below.refl _ _).alloc (Nat.le_refl _) _)
theorem St.drew {w0 w : World} {cs : List (Nat × Nat × Value)} (h : St w0 cs w) : St w0 cs w.drew := h.below (Below.refl _ _).drew
theorem St.cons {w0 w : World} {cs : List (Nat × Nat × Value)} (h : St w0 cs w) (b o : Nat) (v : Value) (hv : w.cell? ⟨b, o, none⟩ = some v) : St w0 ((b, o, v) :: cs) w :=
  ⟨fun x hx => by rcases List.mem_cons.1 hx with rfl | hx <;> first | exact hv | exact h.1 x hx, h.2⟩
/-- A new block of two cells. -/
theorem St.box2 {w0 w : World} {cs : List (Nat × Nat × Value)} (h : St w0 cs w) (x y : Value) (T : TypeId) : St w0 ((w.heap.size, 0, x) :: (w.heap.size, 1, y) :: cs) (w.alloc (.cells #[x, y] T)) :=
  ((h.alloc _).cons _ _ _ (cell2_new w x y T).2).cons _ _ _ (cell2_new w x y T).1
theorem St.lt {w0 w : World} {cs : List (Nat × Nat × Value)} (h : St w0 cs w) {b o : Nat} {v : Value} (hx : (b, o, v) ∈ cs) : b < w.heap.size := block_lt_of_cell (h.1 _ hx)

/-- The same cells, one after the other. -/
def Cells (w : World) : List (Nat × Nat × Value) → Prop
  | [] => True
  | x :: r => w.cell? ⟨x.1, x.2.1, none⟩ = some x.2.2 ∧ Cells w r
theorem cells_of {w : World} : ∀ {cs : List (Nat × Nat × Value)}, (∀ x ∈ cs, w.cell? ⟨x.1, x.2.1, none⟩ = some x.2.2) → Cells w cs
  | [], _ => True.intro
  | x :: _, h => ⟨h x (List.mem_cons_self ..), cells_of fun y hy => h y (List.mem_cons_of_mem _ hy)⟩
theorem St.cells {w0 w : World} {cs : List (Nat × Nat × Value)} (h : St w0 cs w) : Cells w cs := cells_of h.1
theorem St.top {w0 w : World} {b o : Nat} {v : Value} {cs : List (Nat × Nat × Value)} (h : St w0 ((b, o, v) :: cs) w) : b < w.heap.size := h.lt (List.mem_cons_self ..)
def Lts (w : World) : List (Nat × Nat × Value) → Prop
  | [] => True
  | x :: r => x.1 < w.heap.size ∧ Lts w r
theorem lts_of {w : World} : ∀ {cs : List (Nat × Nat × Value)}, (∀ x ∈ cs, w.cell? ⟨x.1, x.2.1, none⟩ = some x.2.2) → Lts w cs
  | [], _ => True.intro
  | x :: _, h => ⟨block_lt_of_cell (h x (List.mem_cons_self ..)), lts_of fun y hy => h y (List.mem_cons_of_mem _ hy)⟩
theorem St.lts {w0 w : World} {cs : List (Nat × Nat × Value)} (h : St w0 cs w) : Lts w cs := lts_of h.1
/-- The same cells, in every world of a quiet region's class. -/
def CellsAt (w : World) : List (Nat × Nat × Value) → Prop
  | [] => True
  | x :: r => (∀ d os, (grow (redrawn w d) os).cell? ⟨x.1, x.2.1, none⟩ = some x.2.2) ∧ CellsAt w r
theorem cellsAt_of {w : World} : ∀ {cs : List (Nat × Nat × Value)}, (∀ x ∈ cs, w.cell? ⟨x.1, x.2.1, none⟩ = some x.2.2) → CellsAt w cs
  | [], _ => True.intro
  | x :: _, h => ⟨cell_regrown (h x (List.mem_cons_self ..)), cellsAt_of fun y hy => h y (List.mem_cons_of_mem _ hy)⟩

theorem wpQuiet_imp {P : Program} {ops : Array Oper} {C : World → Prop} {Q Q' : Act → Prop} (hQ : ∀ a, Q a → Q' a) : ∀ (l : List Oper) (a : Act), wpQuiet P ops C Q l a → wpQuiet P ops C Q' l a
  | [], a, h => hQ a h
  | o :: r, a, h => by
    simp only [wpQuiet] at h ⊢
    split
    · rename_i hw
      rw [if_pos hw] at h
      exact Oper.quiet_mono (wpQuiet_imp hQ r) h
    · rename_i hw
      rw [if_neg hw] at h
      exact wpQuiet_imp hQ r _ h

/-- A region that draws its order, whose operations only read and whose callees make at most new memory, in a state that is known. -/
theorem wp_region_qs {P : Program} {id : Nat} {Q : Exit → Act → World → Prop} {a : Act} {w w0 : World} {cs : List (Nat × Nat × Value)} {l : List Oper} (hS : St w0 cs w) (hm : P.follows .mixedOrders = true) (hB : Region.lexB .any l.toArray = true)
    (h : CellsAt w cs → wpQuiet P l.toArray (fun w' => ∃ p : Regrown, w' = grow (redrawn w p.d) p.os) (fun a' => ∀ w', St w0 cs w' → Q .normal a' w') l a) : (Code.region id l.toArray true).wp P Q a w := by
  refine wp_region_quiet (C := fun w' => ∃ p : Regrown, w' = grow (redrawn w p.d) p.os) hm hB ⟨⟨w.drawn + 1, #[]⟩, by rw [grow_empty]; rfl⟩ ?_
  have h' := h (cellsAt_of hS.1)
  rw [show l.toArray.toList = l from rfl]
  refine wpQuiet_imp (fun a' (k : ∀ w', St w0 cs w' → Q .normal a' w') => ?_) _ _ h'
  rintro w' ⟨p, rfl⟩
  exact k _ (hS.below (below_regrown w p.d p.os))

/-- A region that draws its order: all operations but the last ones, from the n-th on, only read; in a state that is known. The world behind the draw is any world of that state. -/
theorem wp_region_tail {P : Program} {id : Nat} {Q : Exit → Act → World → Prop} {a : Act} {w w0 : World} {cs : List (Nat × Nat × Value)} {l : List Oper} (hS : St w0 cs w) (n : Nat) (hm : P.follows .mixedOrders = true) (hB : Region.lexTailB .any l.toArray n = true)
    (h : ∀ W, St w0 cs W → Cells W cs → Lts W cs → wpStill P l.toArray W (fun a' => wpList P l.toArray Q (l.drop n) a' W) (l.take n) a) : (Code.region id l.toArray true).wp P Q a w :=
  wp_region_still_tail n hm hB (h w.drew hS.drew hS.drew.cells hS.drew.lts)
end Go.Proofs.Ythechpbihfmkoaa
