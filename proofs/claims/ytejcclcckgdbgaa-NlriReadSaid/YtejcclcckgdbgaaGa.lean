/- Words of this seat's proofs: objects in memory by their blocks; the octets of a slice. No condition. Zero bytes appended to a slice of octets. No condition. A number stored into octets. No condition. The writer: its fields in memory; its inner functions. No condition. The reader: its fields in memory; what each of its inner functions does. No condition. The reader: taking bytes. No condition. The reader: numbers. No condition. The reader: its methods. No condition. The writer: numbers. No condition. Words on writers: a number that is written; where the blocks of a writer lie. No condition. -/
import Derived.Test.YtejcclcckgdbgaaRows
import Derived.Test.YtejcclcckgdbgaaShelf
import Derived.WalkKit
import Derived.ProofKit
import Derived.OpenShut
import Derived.Handy
import Derived.Below
import Derived.Lib.Hide
import Derived.Lib.QuietBelow
import Derived.BigQuiet
import Derived.Deep.QuietTactic
import Derived.RegionTactic
import Derived.Laws.OwnMore
import Derived.Laws.StructEq
import Derived.Deep.Onto
import Derived.Deep.RegionWith
import Derived.StillTailTactics
import Derived.Outline
import Derived.Deep.CutBlock
import Derived.Deep.DeepCutAuto
import Derived.Laws.AppendOwn
import Derived.Laws.CopyRow
import Derived.LoopTactic
import Derived.Laws.BitsAllLaws
import Derived.Lib.AppendZeros
import Derived.Laws.Cover3
import Derived.OwnWalk
import Derived.Maps.Own
import Derived.Laws.BytesArg
namespace Go.Proofs.Ytejcclcckgdbgaa
open Go.RowKit Go.Sort
set_option linter.unusedVariables false

/-- Block b is a row of these cells, of type t, none of them frozen. -/
def Blk (w : World) (b : Nat) (t : TypeId) (cs : List Value) : Prop := w.heap[b]? = some (.cells cs.toArray t (0, 0))
theorem Blk.lt {w : World} {b : Nat} {t : TypeId} {cs : List Value} (h : Blk w b t cs) : b < w.heap.size := by
  rcases Nat.lt_or_ge b w.heap.size with h' | h'
  · exact h'
  · unfold Blk at h
    rw [Array.getElem?_eq_none h'] at h
    cases h
theorem Blk.cell {w : World} {b : Nat} {t : TypeId} {cs : List Value} (h : Blk w b t cs) (o : Nat) {v : Value} (hv : cs[o]? = some v) : w.cell? ⟨b, o, none⟩ = some v := by
  unfold Blk at h
  simp [World.cell?, h, hv]
theorem Blk.frozen {w : World} {b : Nat} {t : TypeId} {cs : List Value} (h : Blk w b t cs) (o : Nat) : w.frozen? ⟨b, o, none⟩ = false := by
  unfold Blk at h
  simp [World.frozen?, h]
theorem Blk.set {w : World} {b : Nat} {t : TypeId} {cs : List Value} (h : Blk w b t cs) (o : Nat) (v : Value) : Blk (w.setCell ⟨b, o, none⟩ v) b t (cs.set o v) := by
  unfold Blk at h ⊢
  simp [World.setCell, Array.getElem?_modify, h]
theorem Blk.set_other {w : World} {b c : Nat} {t : TypeId} {cs : List Value} (h : Blk w b t cs) (o : Nat) (v : Value) (hc : c ≠ b) : Blk (w.setCell ⟨c, o, none⟩ v) b t cs := by
  unfold Blk at h ⊢
  rw [← h]
  exact Below.heap_setCell w ⟨c, o, none⟩ v b (fun e => hc e.symm)
theorem Blk.new (w : World) (t : TypeId) (cs : List Value) : Blk (w.alloc (.cells cs.toArray t)) w.heap.size t cs := by
  unfold Blk
  show (w.heap.push _)[w.heap.size]? = _
  simp
theorem Blk.drew {w : World} {b : Nat} {t : TypeId} {cs : List Value} (h : Blk w b t cs) : Blk w.drew b t cs := h
theorem Blk.below {w w' : World} {B b : Nat} {t : TypeId} {cs : List Value} (h : Blk w b t cs) (k : Below B w w') (hb : b < B) : Blk w' b t cs := (k.block b hb).trans h
theorem Blk.ne {w : World} {b c : Nat} {t u : TypeId} {cs ds : List Value} (h : Blk w b t cs) (k : Blk w c u ds) (ht : t ≠ u) : b ≠ c := by
  rintro rfl
  unfold Blk at h k
  rw [h] at k
  injection k with k
  injection k with k1 k2
  exact ht k2

/-- All blocks below B but block b are as they were. -/
structure But (B b : Nat) (w w' : World) : Prop where
  os : w'.os = w.os
  tape : w'.tape = w.tape
  output : w'.output = w.output
  size : w.heap.size ≤ w'.heap.size
  block : ∀ k, k < B → k ≠ b → w'.heap[k]? = w.heap[k]?
theorem But.of_below {B b : Nat} {w w' : World} (h : Below B w w') : But B b w w' := ⟨h.os, h.tape, h.output, h.size, fun k hk _ => h.block k hk⟩
theorem But.refl (B b : Nat) (w : World) : But B b w w := .of_below (Below.refl _ _)
theorem But.mono {B B' b : Nat} {w w' : World} (h : But B b w w') (hB : B' ≤ B) : But B' b w w' := ⟨h.os, h.tape, h.output, h.size, fun k hk hn => h.block k (Nat.lt_of_lt_of_le hk hB) hn⟩
theorem But.trans {B b : Nat} {x y z : World} (h : But B b x y) (k : But B b y z) : But B b x z :=
  ⟨k.os.trans h.os, k.tape.trans h.tape, k.output.trans h.output, Nat.le_trans h.size k.size, fun i hi hn => (k.block i hi hn).trans (h.block i hi hn)⟩
/-- One call behind the other: each says it of its own first world. -/
theorem But.then {b : Nat} {x y z : World} (h : But x.heap.size b x y) (k : But y.heap.size b y z) : But x.heap.size b x z := h.trans (k.mono h.size)
theorem But.drew {B b : Nat} {x w : World} (h : But B b x w) : But B b x w.drew := ⟨h.os, h.tape, h.output, h.size, h.block⟩
theorem But.setCell {B b : Nat} {x w : World} (h : But B b x w) (o : Nat) (u : Value) : But B b x (w.setCell ⟨b, o, none⟩ u) :=
  h.trans ⟨rfl, rfl, rfl, by simp [World.setCell], fun k hk hn => Below.heap_setCell _ _ _ _ hn⟩
theorem But.alloc {B b : Nat} {x w : World} (h : But B b x w) (hB : B ≤ w.heap.size) (o : Obj) : But B b x (w.alloc o) :=
  h.trans (.of_below ((Below.refl B w).alloc hB o))
theorem But.blk {B b c : Nat} {w w' : World} {t : TypeId} {cs : List Value} (k : But B b w w') (h : Blk w c t cs) (hc : c < B) (hn : c ≠ b) : Blk w' c t cs := (k.block c hc hn).trans h
/-- Nothing that was there before the law began. -/
theorem But.below {B b : Nat} {w0 w w' : World} (h0 : Below B w0 w) (k : But w.heap.size b w w') (hb : B ≤ b) (hs : B ≤ w.heap.size) : Below B w0 w' :=
  h0.trans ⟨k.os, k.tape, k.output, k.size, fun i hi => k.block i (by omega) (by omega)⟩

/-- Octets. -/
def Oct (xs : List Int) : Prop := ∀ x ∈ xs, 0 ≤ x ∧ x < 256
theorem Oct.getD {xs : List Int} (h : Oct xs) (i : Nat) : 0 ≤ xs.getD i 0 ∧ xs.getD i 0 < 256 := by
  by_cases hi : i < xs.length
  · have e : xs.getD i 0 = xs[i] := by simp [List.getD_eq_getElem?_getD, hi]
    rw [e]
    exact h _ (List.getElem_mem hi)
  · have e : xs.getD i 0 = 0 := by simp [List.getD_eq_getElem?_getD, Nat.le_of_not_lt hi]
    rw [e]
    decide
theorem Oct.take {xs : List Int} (h : Oct xs) (n : Nat) : Oct (xs.take n) := fun x hx => h x (List.mem_of_mem_take hx)
theorem Oct.drop {xs : List Int} (h : Oct xs) (n : Nat) : Oct (xs.drop n) := fun x hx => h x (List.mem_of_mem_drop hx)

/-- The slice v reads as xs, wherever it lies. -/
def Seg (w : World) (v : Value) (xs : List Int) : Prop := ∃ a c, v = .slice a xs.length c ∧ xs.length ≤ c ∧ ∀ i, i < xs.length → ∃ b o, a = some ⟨b, o, none⟩ ∧ w.cell? ⟨b, o + i, none⟩ = some (.int .u8 (xs.getD i 0))
theorem Seg.below {w w' : World} {v : Value} {xs : List Int} (h : Seg w v xs) (k : Below w.heap.size w w') : Seg w' v xs := by
  obtain ⟨a, c, rfl, hc, hx⟩ := h
  refine ⟨a, c, rfl, hc, fun i hi => ?_⟩
  obtain ⟨b, o, e, hcell⟩ := hx i hi
  exact ⟨b, o, e, (k.cell (p := ⟨b, o + i, none⟩) (block_lt_of_cell hcell)).trans hcell⟩
theorem Seg.nil (w : World) : Seg w (.slice none 0 0) [] := ⟨none, 0, rfl, Nat.le_refl _, fun i hi => absurd hi (Nat.not_lt_zero _)⟩

/-- A slice of octets in a block of its own. -/
def Dat (w : World) (v : Value) (xs : List Int) : Prop := w.ownsRow 0 5 1 v xs.length (xs.map (Value.int .u8))
theorem Dat.nil (w : World) : Dat w (.slice none 0 0) [] := World.ownsRow_nil w _ _ _
/-- What a value of a slice says of its block. -/
theorem Dat.form {w : World} {v : Value} {xs : List Int} (h : Dat w v xs) : (v = .slice none 0 0 ∧ xs = []) ∨ ∃ g cap cs, v = .slice (some ⟨g, 0, none⟩) xs.length cap ∧ xs.length ≤ cap ∧ cap ≤ maxLen ∧ Blk w g 5 cs ∧ cs.length = cap ∧ cs.take xs.length = xs.map (Value.int .u8) := by
  obtain ⟨_, ⟨hv, hn⟩ | ⟨g, cap, cur, hv, _, hg, h1, h2, h3, h4⟩⟩ := h
  · exact .inl ⟨hv, List.length_eq_zero_iff.1 hn⟩
  · exact .inr ⟨g, cap, cur.toList, hv, h1, h2, by unfold Blk; simpa using hg, by simpa using h3, by simpa using h4⟩
theorem Dat.mk {w : World} {xs : List Int} {g cap : Nat} {cs : List Value} (h1 : xs.length ≤ cap) (h2 : cap ≤ maxLen) (hb : Blk w g 5 cs) (h3 : cs.length = cap) (h4 : cs.take xs.length = xs.map (Value.int .u8)) : Dat w (.slice (some ⟨g, 0, none⟩) xs.length cap) xs :=
  ⟨by simp, .inr ⟨g, cap, cs.toArray, rfl, Nat.zero_le _, hb, h1, h2, by simpa using h3, by simpa using h4⟩⟩
theorem Dat.below {w w' : World} {v : Value} {xs : List Int} (h : Dat w v xs) (k : Below w.heap.size w w') : Dat w' v xs := by
  rcases h.form with ⟨rfl, rfl⟩ | ⟨g, cap, cs, rfl, h1, h2, hb, h3, h4⟩
  · exact Dat.nil _
  · exact Dat.mk h1 h2 (hb.below k hb.lt) h3 h4
/-- It lies in no block of another type. -/
theorem Dat.but {w w' : World} {v : Value} {xs : List Int} {b : Nat} {t : TypeId} {cs : List Value} (h : Dat w v xs) (k : But w.heap.size b w w') (hb : Blk w b t cs) (ht : t ≠ 5) : Dat w' v xs := by
  rcases h.form with ⟨rfl, rfl⟩ | ⟨g, cap, ds, rfl, h1, h2, hg, h3, h4⟩
  · exact Dat.nil _
  · exact Dat.mk h1 h2 (k.blk hg hg.lt (fun e => hb.ne hg ht e.symm)) h3 h4
theorem Dat.set {w : World} {v : Value} {xs : List Int} {b : Nat} {t : TypeId} {cs : List Value} (h : Dat w v xs) (hb : Blk w b t cs) (ht : t ≠ 5) (o : Nat) (u : Value) : Dat (w.setCell ⟨b, o, none⟩ u) v xs :=
  h.but ((But.refl w.heap.size b w).setCell o u) hb ht
/-- The octets from the i-th on, n of them, as a slice of it reads. -/
theorem take_at {cs : List Value} {xs : List Int} (h : cs.take xs.length = xs.map (Value.int .u8)) (i : Nat) (hi : i < xs.length) : cs[i]? = some (.int .u8 (xs.getD i 0)) := by
  have e : (cs.take xs.length)[i]? = (xs.map (Value.int .u8))[i]? := by rw [h]
  rw [List.getElem?_take_of_lt hi, List.getElem?_map] at e
  rw [e]
  simp [List.getD_eq_getElem?_getD, hi]
theorem Dat.seg {w : World} {v : Value} {xs : List Int} (h : Dat w v xs) : Seg w v xs := by
  rcases h.form with ⟨rfl, rfl⟩ | ⟨g, cap, cs, rfl, h1, h2, hb, h3, h4⟩
  · exact Seg.nil _
  · exact ⟨_, _, rfl, h1, fun i hi => ⟨g, 0, rfl, hb.cell _ (by rw [Nat.zero_add]; exact take_at h4 i hi)⟩⟩
/-- A region that draws its order, whose operations only read and whose callees make at most new memory. -/
theorem wp_region_qb {P : Program} {id : Nat} {Q : Exit → Act → World → Prop} {a : Act} {w : World} {l : List Oper} (hm : P.follows .mixedOrders = true) (hB : Region.lexB .any l.toArray = true)
    (h : wpQuiet P l.toArray (fun w' => ∃ p : Regrown, w' = grow (redrawn w p.d) p.os) (fun a' => ∀ w', Below w.heap.size w w' → Q .normal a' w') l a) : (Code.region id l.toArray true).wp P Q a w := by
  refine wp_region_quiet (C := fun w' => ∃ p : Regrown, w' = grow (redrawn w p.d) p.os) hm hB ⟨⟨w.drawn + 1, #[]⟩, by rw [grow_empty]; rfl⟩ ?_
  have e : (fun a' => ∀ w', Below w.heap.size w w' → Q .normal a' w') = (fun a' => ∀ w', (∃ p : Regrown, w' = grow (redrawn w p.d) p.os) → Q .normal a' w') := by
    funext a'
    apply propext
    constructor
    · rintro h w' ⟨p, rfl⟩
      exact h _ (below_regrown w p.d p.os)
    · intro h w' hb
      exact h w' (regrown_of_below hb)
  rw [e] at h
  simpa using h

/-- A callee that leaves the world alone, met in such a region. -/
theorem regrown_same {P : Program} {f : FuncId} {args : Array Value} {w : World} {d : Nat} {os : Array Obj} {v : Value}
    (h : Calls P f args (grow (redrawn w d) os) fun e w' => e = .returned v ∧ grow (redrawn w d) os = w') : Calls P f args (grow (redrawn w d) os) fun e w'' => e = .returned v ∧ ∃ p : Regrown, w'' = grow (redrawn w p.d) p.os :=
  h.mono fun _ _ ⟨he, hb⟩ => ⟨he, ⟨⟨d, os⟩, hb.symm⟩⟩

theorem bcell {W w1 : World} (hb : Below W.heap.size W w1) : (∀ b o, b < W.heap.size → w1.cell? ⟨b, o, none⟩ = W.cell? ⟨b, o, none⟩) ∧ (∀ b o, b < W.heap.size → w1.frozen? ⟨b, o, none⟩ = W.frozen? ⟨b, o, none⟩) :=
  ⟨fun b o h => hb.cell (p := ⟨b, o, none⟩) h, fun b o h => hb.frozen (p := ⟨b, o, none⟩) h⟩

/-- A block of two cells that was made just now. -/
theorem cell2_new (w : World) (x y : Value) (T : TypeId) : (w.alloc (.cells #[x, y] T)).cell? ⟨w.heap.size, 0, none⟩ = some x ∧ (w.alloc (.cells #[x, y] T)).cell? ⟨w.heap.size, 1, none⟩ = some y :=
  ⟨World.cell?_alloc_at _ _ _ _ rfl, World.cell?_alloc_at _ _ _ _ rfl⟩

/-- What a walk carries: these cells hold these values, and of the memory of w0 nothing has turned. -/
def St (w0 : World) (cs : List (Nat × Nat × Value)) (w : World) : Prop := (∀ x ∈ cs, w.cell? ⟨x.1, x.2.1, none⟩ = some x.2.2) ∧ Below w0.heap.size w0 w
theorem St.start (w0 : World) : St w0 [] w0 := ⟨fun _ h => (by cases h), Below.refl _ _⟩
theorem St.below {w0 w w1 : World} {cs : List (Nat × Nat × Value)} (h : St w0 cs w) (hb : Below w.heap.size w w1) : St w0 cs w1 :=
  ⟨fun x hx => (hb.cell (p := ⟨x.1, x.2.1, none⟩) (block_lt_of_cell (h.1 x hx))).trans (h.1 x hx), h.2.trans (hb.mono h.2.size)⟩
theorem St.alloc {w0 w : World} {cs : List (Nat × Nat × Value)} (h : St w0 cs w) (o : Obj) : St w0 cs (w.alloc o) :=
  h.below ((Below.refl _ _).alloc (Nat.le_refl _) _)
theorem St.drew {w0 w : World} {cs : List (Nat × Nat × Value)} (h : St w0 cs w) : St w0 cs w.drew := h.below (Below.refl _ _).drew
theorem St.cons {w0 w : World} {cs : List (Nat × Nat × Value)} (h : St w0 cs w) (b o : Nat) (v : Value) (hv : w.cell? ⟨b, o, none⟩ = some v) : St w0 ((b, o, v) :: cs) w :=
  ⟨fun x hx => by rcases List.mem_cons.1 hx with rfl | hx <;> first | exact hv | exact h.1 x hx, h.2⟩
/-- A new block of two cells. -/
theorem St.box2 {w0 w : World} {cs : List (Nat × Nat × Value)} (h : St w0 cs w) (x y : Value) (T : TypeId) : St w0 ((w.heap.size, 0, x) :: (w.heap.size, 1, y) :: cs) (w.alloc (.cells #[x, y] T)) :=
  ((h.alloc _).cons _ _ _ (cell2_new w x y T).2).cons _ _ _ (cell2_new w x y T).1
theorem St.lt {w0 w : World} {cs : List (Nat × Nat × Value)} (h : St w0 cs w) {b o : Nat} {v : Value} (hx : (b, o, v) ∈ cs) : b < w.heap.size := block_lt_of_cell (h.1 _ hx)

/-- The same cells, one after the other. -/
def Cells (w : World) : List (Nat × Nat × Value) → Prop
  | [] => True
  | x :: r => w.cell? ⟨x.1, x.2.1, none⟩ = some x.2.2 ∧ Cells w r
theorem cells_of {w : World} : ∀ {cs : List (Nat × Nat × Value)}, (∀ x ∈ cs, w.cell? ⟨x.1, x.2.1, none⟩ = some x.2.2) → Cells w cs
  | [], _ => True.intro
  | x :: _, h => ⟨h x (List.mem_cons_self ..), cells_of fun y hy => h y (List.mem_cons_of_mem _ hy)⟩
theorem St.cells {w0 w : World} {cs : List (Nat × Nat × Value)} (h : St w0 cs w) : Cells w cs := cells_of h.1
theorem St.top {w0 w : World} {b o : Nat} {v : Value} {cs : List (Nat × Nat × Value)} (h : St w0 ((b, o, v) :: cs) w) : b < w.heap.size := h.lt (List.mem_cons_self ..)
def Lts (w : World) : List (Nat × Nat × Value) → Prop
  | [] => True
  | x :: r => x.1 < w.heap.size ∧ Lts w r
theorem lts_of {w : World} : ∀ {cs : List (Nat × Nat × Value)}, (∀ x ∈ cs, w.cell? ⟨x.1, x.2.1, none⟩ = some x.2.2) → Lts w cs
  | [], _ => True.intro
  | x :: _, h => ⟨block_lt_of_cell (h x (List.mem_cons_self ..)), lts_of fun y hy => h y (List.mem_cons_of_mem _ hy)⟩
theorem St.lts {w0 w : World} {cs : List (Nat × Nat × Value)} (h : St w0 cs w) : Lts w cs := lts_of h.1
/-- The same cells, in every world of a quiet region's class. -/
def CellsAt (w : World) : List (Nat × Nat × Value) → Prop
  | [] => True
  | x :: r => (∀ d os, (grow (redrawn w d) os).cell? ⟨x.1, x.2.1, none⟩ = some x.2.2) ∧ CellsAt w r
theorem cellsAt_of {w : World} : ∀ {cs : List (Nat × Nat × Value)}, (∀ x ∈ cs, w.cell? ⟨x.1, x.2.1, none⟩ = some x.2.2) → CellsAt w cs
  | [], _ => True.intro
  | x :: _, h => ⟨cell_regrown (h x (List.mem_cons_self ..)), cellsAt_of fun y hy => h y (List.mem_cons_of_mem _ hy)⟩

theorem wpQuiet_imp {P : Program} {ops : Array Oper} {C : World → Prop} {Q Q' : Act → Prop} (hQ : ∀ a, Q a → Q' a) : ∀ (l : List Oper) (a : Act), wpQuiet P ops C Q l a → wpQuiet P ops C Q' l a
  | [], a, h => hQ a h
  | o :: r, a, h => by
    simp only [wpQuiet] at h ⊢
    split
    · rename_i hw
      rw [if_pos hw] at h
      exact Oper.quiet_mono (wpQuiet_imp hQ r) h
    · rename_i hw
      rw [if_neg hw] at h
      exact wpQuiet_imp hQ r _ h

/-- A region that draws its order, whose operations only read and whose callees make at most new memory, in a state that is known. -/
theorem wp_region_qs {P : Program} {id : Nat} {Q : Exit → Act → World → Prop} {a : Act} {w w0 : World} {cs : List (Nat × Nat × Value)} {l : List Oper} (hS : St w0 cs w) (hm : P.follows .mixedOrders = true) (hB : Region.lexB .any l.toArray = true)
    (h : CellsAt w cs → wpQuiet P l.toArray (fun w' => ∃ p : Regrown, w' = grow (redrawn w p.d) p.os) (fun a' => ∀ w', St w0 cs w' → Q .normal a' w') l a) : (Code.region id l.toArray true).wp P Q a w := by
  refine wp_region_quiet (C := fun w' => ∃ p : Regrown, w' = grow (redrawn w p.d) p.os) hm hB ⟨⟨w.drawn + 1, #[]⟩, by rw [grow_empty]; rfl⟩ ?_
  have h' := h (cellsAt_of hS.1)
  rw [show l.toArray.toList = l from rfl]
  refine wpQuiet_imp (fun a' (k : ∀ w', St w0 cs w' → Q .normal a' w') => ?_) _ _ h'
  rintro w' ⟨p, rfl⟩
  exact k _ (hS.below (below_regrown w p.d p.os))

/-- A region that draws its order: all operations but the last ones, from the n-th on, only read; in a state that is known. The world behind the draw is any world of that state. -/
theorem wp_region_tail {P : Program} {id : Nat} {Q : Exit → Act → World → Prop} {a : Act} {w w0 : World} {cs : List (Nat × Nat × Value)} {l : List Oper} (hS : St w0 cs w) (n : Nat) (hm : P.follows .mixedOrders = true) (hB : Region.lexTailB .any l.toArray n = true)
    (h : ∀ W, St w0 cs W → Cells W cs → Lts W cs → wpStill P l.toArray W (fun a' => wpList P l.toArray Q (l.drop n) a' W) (l.take n) a) : (Code.region id l.toArray true).wp P Q a w :=
  wp_region_still_tail n hm hB (h w.drew hS.drew hS.drew.cells hS.drew.lts)
end Go.Proofs.Ytejcclcckgdbgaa
namespace Go.Proofs.Ytejcclcckgdbgaa
open Go.RowKit
set_option linter.unusedVariables false
set_option linter.unusedSimpArgs false
set_option maxRecDepth 100000

theorem info_u8 : ∃ i, Try.prog.info? 5 = some i ∧ i.zero = some (.int .u8 0) ∧ i.size = 1 ∧ i.bytes = 1 :=
  info_parts (show (Try.prog.info? 5).map (fun i => (i.zero, i.size, i.bytes)) = some (some (.int .u8 0), 1, 1) by kernel_rfl)
theorem zeros_are (m : Nat) : Builtin.zeroCells #[Value.int .u8 0] m = (List.replicate m (Value.int .u8 0)).toArray := by
  apply Array.ext
  · simp [Builtin.zeroCells]
  · intro i h1 h2
    simp [Builtin.zeroCells, Nat.mod_one]
theorem wrap_small (m : Nat) (h : m ≤ 1099511627776) : IntKind.i64.wrap (m : Int) = m := by
  simp [IntKind.wrap, IntKind.bits, IntKind.signed] <;> omega
theorem run_asInt_i64 (w : World) (m : Int) : Sem.run Try.prog (asInt (.int .i64 m)) w = .ok m w := by simp [asInt, asIntOf]
theorem run_zeros_room (w : World) (ty : TypeId) (g n cap m : Nat) (cur : Array Value) (hg : w.heap[g]? = some (.cells cur 5 (0, 0))) (hm : m ≤ 1099511627776) (hroom : n + m ≤ cap) (hcs : cur.size = cap) :
    (Builtin.append_ #[23, 3] ty #[.slice (some ⟨g, 0, none⟩) n cap, .int .i64 m]).run Try.prog w =
      .ok (.slice (some ⟨g, 0, none⟩) (n + m) cap) (w.setRow g (cur.toList.take n ++ List.replicate m (Value.int .u8 0) ++ cur.toList.drop (n + m)).toArray) := by
  obtain ⟨i, hi, hz, hs, hb⟩ := info_u8
  have hst := run_storeCells_at Try.prog g n 5 (List.replicate m (Value.int .u8 0)) 0 cur w hg (by simp; omega) (by simp [Value.oneCell'])
  simp only [Nat.add_zero, List.length_replicate] at hst
  have ht := Try.underlying23
  have hi3 := Try.underlying3
  have hw := wrap_small m hm
  have h1 : ¬ (m : Int) < 0 := by omega
  have h2 : ¬ (281474976710656 : Int) < m := by omega
  by_cases hm0 : m = 0
  · subst hm0
    simp only [List.replicate_zero, List.append_nil, Nat.add_zero] at hst hroom ⊢
    simp [Builtin.append_, run_underlying ht, run_underlying hi3, sizeOf, typeInfo, zeroValue, hi, hz, hs, hb, run_asInt_i64, show IntKind.i64.wrap 0 = 0 by decide, hroom, Addr.add_lit, hst]
  · simp [Builtin.append_, run_underlying ht, run_underlying hi3, sizeOf, typeInfo, zeroValue, hi, hz, hs, hb, run_asInt_i64, hw, h1, h2, hm0, hroom, Addr.add_lit, zeros_are, Value.cells, hst]

theorem run_zeros_grow (w : World) (ty : TypeId) (a : Option Addr) (n cap m : Nat) (olds : List Value) (hf : (Builtin.firstCells 1 n (.slice a n cap)).run Try.prog w.drew = .ok olds.toArray w.drew) (hm : n + m ≤ 1099511627776) (hroom : cap < n + m) :
    (Builtin.append_ #[23, 3] ty #[.slice a n cap, .int .i64 m]).run Try.prog w =
      .ok (.slice (some ⟨w.heap.size, 0, none⟩) (n + m) (grownCap w (n + m) cap 5)) (w.drew.alloc (.cells (olds ++ List.replicate m (Value.int .u8 0) ++ List.replicate (grownCap w (n + m) cap 5 - (n + m)) (Value.int .u8 0)).toArray 5)) := by
  obtain ⟨i, hi, hz, hs, hb⟩ := info_u8
  have ht := Try.underlying23
  have hi3 := Try.underlying3
  have hw := wrap_small m (by omega)
  have h1 : ¬ (m : Int) < 0 := by omega
  have h2 : ¬ (281474976710656 : Int) < m := by omega
  have hn : ¬ (n + m ≤ cap) := by omega
  have h63' : ¬ (9223372036854775807 < ((n : Int) + (m : Int))) := by omega
  have h48' : ¬ (281474976710656 < Builtin.nextslicecap (n + m) cap) := by
    have := growslice_fits (need := n + m) (old := cap) (bytes := 1) hroom (by omega)
    omega
  by_cases hm0 : m = 0
  · subst hm0
    simp only [List.replicate_zero, List.append_nil, Nat.add_zero] at *
    simp [Builtin.append_, run_underlying ht, run_underlying hi3, sizeOf, typeInfo, zeroValue, hi, hz, hs, hb, run_asInt_i64, show IntKind.i64.wrap 0 = 0 by decide, hn, h48', Question.forced, hf, newRow, grownCap, zeros_are, Value.cells, show ¬ (9223372036854775807 : Int) < n by omega]
    congr 2
    apply Array.ext'
    simp
  · simp [Builtin.append_, run_underlying ht, run_underlying hi3, sizeOf, typeInfo, zeroValue, hi, hz, hs, hb, run_asInt_i64, hw, h1, h2, hm0, hn, h63', h48', Question.forced, hf, newRow, grownCap, zeros_are, Value.cells]
    congr 2
    apply Array.ext'
    simp [List.append_assoc]
theorem run_zeros_nil (w : World) (ty : TypeId) : (Builtin.append_ #[23, 3] ty #[.slice none 0 0, .int .i64 0]).run Try.prog w = .ok (.slice none 0 0) w := by
  obtain ⟨i, hi, hz, hs, hb⟩ := info_u8
  have ht := Try.underlying23
  have hi3 := Try.underlying3
  simp [Builtin.append_, run_underlying ht, run_underlying hi3, sizeOf, typeInfo, zeroValue, hi, hz, hs, hb, run_asInt_i64, show IntKind.i64.wrap 0 = 0 by decide]

theorem Dat.of {w : World} {xs : List Int} {g cap n : Nat} {cs : List Value} (hn : xs.length = n) (h1 : n ≤ cap) (h2 : cap ≤ maxLen) (hb : Blk w g 5 cs) (h3 : cs.length = cap) (h4 : cs.take n = xs.map (Value.int .u8)) : Dat w (.slice (some ⟨g, 0, none⟩) n cap) xs := by
  subst hn
  exact Dat.mk h1 h2 hb h3 h4
theorem rep_map (m : Nat) : List.replicate m (Value.int .u8 0) = (List.replicate m (0 : Int)).map (Value.int .u8) := by simp
/-- m zero bytes more, wherever they come to lie. -/
theorem append_zeros (w : World) (ty : TypeId) (v : Value) (xs : List Int) (m : Nat) (hd : Dat w v xs) (hm : xs.length + m ≤ 1099511627776) :
    ∃ v' w', (Builtin.append_ #[23, 3] ty #[v, .int .i64 m]).run Try.prog w = .ok v' w' ∧ Dat w' v' (xs ++ List.replicate m 0) ∧ w.grownBy w' v.ownBlock ∧ (v'.ownBlock = v.ownBlock ∨ ∀ g, v'.ownBlock = some g → w.heap.size ≤ g) := by
  have hml : xs.length + m ≤ maxLen := by unfold maxLen; omega
  have hlen : (xs ++ List.replicate m (0 : Int)).length = xs.length + m := by simp
  have grown : ∀ (a : Option Addr) (cap : Nat) (olds : List Value), olds = xs.map (Value.int .u8) → cap < xs.length + m → (Builtin.firstCells 1 xs.length (.slice a xs.length cap)).run Try.prog w.drew = .ok olds.toArray w.drew →
      ∃ v' w', (Builtin.append_ #[23, 3] ty #[.slice a xs.length cap, .int .i64 m]).run Try.prog w = .ok v' w' ∧ Dat w' v' (xs ++ List.replicate m 0) ∧ w.grownBy w' (Value.slice a xs.length cap).ownBlock ∧ (v'.ownBlock = (Value.slice a xs.length cap).ownBlock ∨ ∀ g, v'.ownBlock = some g → w.heap.size ≤ g) := by
    intro a cap olds ho hc hf
    have hge := grownCap_ge w (xs.length + m) cap 5
    have hle := grownCap_le_maxLen w (xs.length + m) cap 5 hml
    have hol : olds.length = xs.length := by rw [ho]; simp
    refine ⟨_, _, run_zeros_grow w ty a xs.length cap m olds hf hm hc, ?_, ⟨rfl, rfl, rfl, by simp, fun k hk _ => Below.heap_alloc w.drew _ k hk⟩, .inr fun g hg => by simp only [Value.ownBlock, Option.some.injEq] at hg; omega⟩
    refine Dat.of hlen hge hle (Blk.new w.drew _ _) ?_ ?_
    · simp [hol]
      omega
    · rw [List.map_append, ← rep_map, ← ho]
      exact List.take_left' (by simp [hol])
  rcases hd.form with ⟨rfl, rfl⟩ | ⟨g, cap, cs, rfl, h1, h2, hb, h3, h4⟩
  · by_cases hm0 : m = 0
    · subst hm0
      exact ⟨_, _, run_zeros_nil w ty, Dat.nil w, ⟨rfl, rfl, rfl, Nat.le_refl _, fun _ _ _ => rfl⟩, .inl rfl⟩
    · exact grown none 0 [] rfl (by simp; omega) (by simp [Builtin.firstCells])
  · by_cases hroom : xs.length + m ≤ cap
    · have hg : w.heap[g]? = some (.cells cs.toArray 5 (0, 0)) := hb
      have hr := run_zeros_room w ty g xs.length cap m cs.toArray hg (by omega) hroom (by simpa using h3)
      refine ⟨_, _, hr, ?_, ⟨rfl, rfl, rfl, by simp [World.setRow], fun k _ hk => setRow_other w g k _ (fun e => hk (by simp [Value.ownBlock, e]))⟩, .inl rfl⟩
      refine Dat.of hlen hroom h2 (setRow_heap w g _ _ _ _ hg) ?_ ?_
      · simp
        omega
      · rw [List.map_append, ← rep_map, ← h4]
        simp only [List.append_assoc]
        rw [← List.append_assoc]
        exact List.take_left' (by simp; omega)
    · have holds : ∀ j u, (xs.map (Value.int .u8))[j]? = some u → w.drew.cell? ((⟨g, 0, none⟩ : Addr).add j) = some u := hd.cells (g := g) rfl
      exact grown _ cap _ rfl (by omega) (run_firstCells_some w.drew 1 xs.length ⟨g, 0, none⟩ xs.length cap _ (by simp) holds)
end Go.Proofs.Ytejcclcckgdbgaa
namespace Go.Proofs.Ytejcclcckgdbgaa
open Go.RowKit
set_option linter.unusedVariables false
set_option linter.unusedSimpArgs false
set_option maxRecDepth 100000

/-- The lowest i octets of n, the most significant one first. -/
def enc : Nat → Nat → List Int
  | 0, _ => []
  | i + 1, n => ((n / 256 ^ i % 256 : Nat) : Int) :: enc i n
theorem enc_length (i n : Nat) : (enc i n).length = i := by
  induction i with
  | zero => rfl
  | succ i ih => simp [enc, ih]
theorem enc_oct (i n : Nat) : Oct (enc i n) := by
  induction i with
  | zero => exact fun x hx => by cases hx
  | succ i ih =>
    intro x hx
    rcases List.mem_cons.1 hx with rfl | hx
    · have := Nat.mod_lt (n / 256 ^ i) (show 0 < 256 by decide)
      omega
    · exact ih x hx
/-- The cells when i octets have been laid, from behind. -/
def mid (cs : List Value) (o k i n : Nat) : List Value := cs.take (o + k - i) ++ (enc i n).map (Value.int .u8) ++ cs.drop (o + k)
theorem mid_zero (cs : List Value) (o k n : Nat) : mid cs o k 0 n = cs := by simp [mid, enc]
theorem mid_length (cs : List Value) (o k i n : Nat) (h : o + k ≤ cs.length) (hi : i ≤ k) : (mid cs o k i n).length = cs.length := by
  simp [mid, enc_length]
  omega
theorem mid_step (cs : List Value) (o k i n : Nat) (h : o + k ≤ cs.length) (hi : i < k) : (mid cs o k i n).set (o + (k - 1 - i)) (.int .u8 ((n / 256 ^ i % 256 : Nat) : Int)) = mid cs o k (i + 1) n := by
  have e : o + k - i = (o + (k - 1 - i)) + 1 := by omega
  have e2 : o + k - (i + 1) = o + (k - 1 - i) := by omega
  have hlt : o + (k - 1 - i) < cs.length := by omega
  unfold mid
  rw [e, e2, List.take_add_one, List.getElem?_eq_getElem hlt]
  simp only [Option.toList_some, List.append_assoc]
  rw [List.set_append_right _ _ (by simp; omega)]
  simp [enc, Nat.min_eq_left (Nat.le_of_lt hlt)]

theorem byte_is (n i : Nat) : (n : Int) / 2 ^ (8 * i) % 256 = ((n / 256 ^ i % 256 : Nat) : Int) := by
  have e : (256 : Nat) ^ i = 2 ^ (8 * i) := by rw [show (256 : Nat) = 2 ^ 8 by decide, ← Nat.pow_mul]
  rw [e]
  simp
theorem store64 (w : World) (g o k c n : Nat) (cs : List Value) (hb : Blk w g 5 cs) (hk : o + k ≤ cs.length) (hl : cs.length ≤ 9223372036854775807) (hk8 : k ≤ 8) (hc : k ≤ c) (hn : n < 18446744073709551616) :
    Calls Try.prog 118 #[.slice (some ⟨g, o, none⟩) k c, .int .u64 n] w fun e w' => e = .returned (.tuple #[]) ∧ Blk w' g 5 (mid cs o k k n) ∧ But w.heap.size g w w' := by
  go_enter Try.func118, Try.ntmps118
  go_wp2
  go_loopw [4, 7] (fun v4 vi wr => ∃ i : Nat, i ≤ k ∧ vi = .int .i64 i ∧ Blk wr g 5 (mid cs o k i n) ∧ But w.heap.size g w wr)
    (fun _ vi _ => k - (intOf vi).toNat)
  case atStart => exact ⟨0, Nat.zero_le _, rfl, by rw [mid_zero]; exact hb, But.refl _ _ _⟩
  case round =>
    obtain ⟨i, hi, rfl, hbr, hbut⟩ := hrel
    by_cases hlt : i < k
    · have hlen := mid_length cs o k i n hk hi
      obtain ⟨u, hu⟩ : ∃ u, (mid cs o k i n)[o + (k - 1 - i)]? = some u := ⟨_, List.getElem?_eq_getElem (by omega)⟩
      have hcell := hbr.cell _ hu
      have hfz := hbr.frozen (o + (k - 1 - i))
      have hil : (i : Int) < k := by omega
      have e1 : ((k : Int) - 1 - i).toNat = k - 1 - i := by omega
      have e2 := byte_is n i
      have hs := mid_step cs o k i n hk hlt
      have hb2 := hbr.set (o + (k - 1 - i)) (.int .u8 ((n / 256 ^ i % 256 : Nat) : Int))
      rw [hs, ← e2] at hb2
      clear e2 hs hu hlen hbr
      go_wp2
      exact ⟨⟨i + 1, hlt, rfl, hb2, hbut.setCell _ _⟩, by simp [intOf]; omega⟩
    · obtain rfl : i = k := by omega
      go_wp2
      go_returns
      exact ⟨rfl, hbr, hbut⟩
theorem store64_none (w : World) (a : Option Addr) (c : Nat) (n : Int) :
    Calls Try.prog 118 #[.slice a 0 c, .int .u64 n] w fun e w' => e = .returned (.tuple #[]) ∧ w' = w := by
  go_enter Try.func118, Try.ntmps118
  go_wp2
  go_loopw [4, 7] (fun v4 vi wr => vi = .int .i64 0 ∧ wr = w) (fun _ vi _ => 0)
  case atStart => exact ⟨rfl, rfl⟩
  case round =>
    obtain ⟨rfl, rfl⟩ := hrel
    go_wp2
    go_returns
    exact ⟨rfl, rfl⟩
end Go.Proofs.Ytejcclcckgdbgaa
namespace Go.Proofs.Ytejcclcckgdbgaa
open Go.RowKit
set_option linter.unusedVariables false
set_option linter.unusedSimpArgs false
set_option maxRecDepth 100000

/-- A writer: its limit, its bytes, the slice that holds them, the block of its marks. -/
structure WS where
  lim : Nat
  xs : List Int
  v : Value
  mb : Nat
def WS.cells (W : WS) : List Value := [.int .i64 W.lim, W.v, .map (some W.mb)]
def Wtr (w : World) (b : Nat) (W : WS) : Prop := Blk w b 101 W.cells ∧ Dat w W.v W.xs ∧ Oct W.xs ∧ W.xs.length ≤ W.lim ∧ W.lim ≤ 65536
/-- Only the writer's own two blocks, b and that of its bytes, may have been written. -/
structure ButW (b : Nat) (v : Value) (w w' : World) : Prop where
  os : w'.os = w.os
  tape : w'.tape = w.tape
  output : w'.output = w.output
  size : w.heap.size ≤ w'.heap.size
  block : ∀ k, k < w.heap.size → k ≠ b → some k ≠ v.ownBlock → w'.heap[k]? = w.heap[k]?
theorem ButW.refl (b : Nat) (v : Value) (w : World) : ButW b v w w := ⟨rfl, rfl, rfl, Nat.le_refl _, fun _ _ _ _ => rfl⟩
theorem ButW.of_below {b : Nat} {v : Value} {w w' : World} (h : Below w.heap.size w w') : ButW b v w w' := ⟨h.os, h.tape, h.output, h.size, fun k hk _ _ => h.block k hk⟩
theorem ButW.blk {b c : Nat} {v : Value} {w w' : World} {t : TypeId} {cs : List Value} (k : ButW b v w w') (h : Blk w c t cs) (hn : c ≠ b) (hv : some c ≠ v.ownBlock) : Blk w' c t cs := (k.block c h.lt hn hv).trans h
theorem ButW.below {B b : Nat} {v : Value} {w0 w w' : World} (h0 : Below B w0 w) (k : ButW b v w w') (hb : B ≤ b) (hv : ∀ g, v.ownBlock = some g → B ≤ g) (hs : B ≤ w.heap.size) : Below B w0 w' :=
  h0.trans ⟨k.os, k.tape, k.output, k.size, fun i hi => k.block i (by omega) (by omega) (fun e => by have := hv i e.symm; omega)⟩

theorem neq_map (m : Option Nat) (w : World) : (binOp .neq 99 (.map m) (.map none)).run Try.prog w = .ok (.bool (!m.isNone)) w := run_neq_map_nil w _ _ _ m Try.underlying99
theorem wr_valid (w : World) (b : Nat) (W : WS) (h : Wtr w b W) : Calls Try.prog 54 #[.pointer (some ⟨b, 0, none⟩)] w fun e w' => e = .returned (.bool true) ∧ w' = w := by
  have c2 := h.1.cell 2 (v := .map (some W.mb)) rfl
  have q := neq_map (some W.mb)
  go_enter Try.func54, Try.ntmps54
  go_wp2
  go_ret
  exact ⟨rfl, rfl⟩

theorem wr_extend_full (w : World) (b : Nat) (W : WS) (k : Nat) (h : Wtr w b W) (hk : W.lim < W.xs.length + k) (hk2 : k ≤ 1099511627776) : Calls Try.prog 117 #[.pointer (some ⟨b, 0, none⟩), .int .i64 k] w fun e w' => e = .returned (.tuple #[.slice none 0 0, .int .i64 7]) ∧ w' = w := by
  have hv := wr_valid w b W h
  obtain ⟨hb, hd, ho, hl1, hl2⟩ := h
  obtain ⟨a, c, hsl, -⟩ := hd.seg
  have c0 := hb.cell 0 (v := .int .i64 W.lim) rfl
  have c1 := hb.cell 1 (v := W.v) rfl
  rw [hsl] at c1
  have hlt : (W.lim : Int) - W.xs.length < k := by omega
  go_enter Try.func117, Try.ntmps117
  go_wp2_with (go_at_call 54; refine hv.mono ?_; rintro e w' ⟨rfl, hw⟩; obtain rfl := hw.symm)
  go_ret2
  exact ⟨rfl, rfl⟩

/-- The slice that extend hands back. -/
def tail (v : Value) (n : Nat) : Value := match v with
  | .slice a len cap => sliced a n len cap 1
  | v => v
theorem tail_is (v : Value) (xs : List Int) {w : World} (h : Dat w v xs) (n : Nat) (hn : n ≤ xs.length) (w' : World) : (Instr.slice 23 v (some (.int .i64 n)) none none).run Try.prog w' = .ok (tail v n) w' := by
  have ee : Try.prog.elem 23 = 5 := by kernel_rfl
  have ht : Try.prog.underlying 23 = some (.slice (Try.prog.elem 23)) := by rw [ee]; exact Try.underlying23
  have es : (sizeOf (Try.prog.elem 23)).run Try.prog w' = .ok 1 w' := by rw [ee]; exact Try.sizeOf5 w'
  obtain ⟨a, c, rfl, -⟩ := h.seg
  rw [run_slice_l w' _ _ _ _ ht .i64 _ (by omega) (by omega), es]
  rfl
theorem Dat.own_ne {w : World} {v : Value} {xs : List Int} {b : Nat} {t : TypeId} {cs : List Value} (h : Dat w v xs) (hb : Blk w b t cs) (ht : t ≠ 5) : some b ≠ v.ownBlock := by
  rcases h.form with ⟨rfl, rfl⟩ | ⟨g, cap, ds, rfl, h1, h2, hg, h3, h4⟩
  · simp [Value.ownBlock]
  · simp only [Value.ownBlock, ne_eq, Option.some.injEq]
    exact hb.ne hg ht
theorem wr_extend (w : World) (b : Nat) (W : WS) (k : Nat) (h : Wtr w b W) (hk : W.xs.length + k ≤ W.lim) : Calls Try.prog 117 #[.pointer (some ⟨b, 0, none⟩), .int .i64 k] w fun e w' => ∃ v', e = .returned (.tuple #[tail v' W.xs.length, .int .i64 0]) ∧ Blk w' b 101 (WS.cells { W with v := v' }) ∧ Dat w' v' (W.xs ++ List.replicate k 0) ∧ ButW b W.v w w' ∧ (v'.ownBlock = W.v.ownBlock ∨ ∀ g, v'.ownBlock = some g → w.heap.size ≤ g) := by
  have hv := wr_valid w b W h
  obtain ⟨hb, hd, ho, hl1, hl2⟩ := h
  obtain ⟨lim, xs, v, mb⟩ := W
  simp only at hb hd ho hl1 hl2 hk hv ⊢
  obtain ⟨v', w1, hr, hd1, hg, hnew⟩ := append_zeros w 23 v xs k hd (by omega)
  have hown := hd.own_ne hb (by decide)
  have hb1 : Blk w1 b 101 (WS.cells ⟨lim, xs, v, mb⟩) := (hg.block b hb.lt hown).trans hb
  have hs := tail_is v' _ hd1 xs.length (by simp)
  obtain ⟨a, c, rfl, -⟩ := hd.seg
  obtain ⟨a', n', c', rfl⟩ : ∃ a' n' c', v' = .slice a' n' c' := by
    obtain ⟨a', c', e, -⟩ := hd1.seg
    exact ⟨_, _, _, e⟩
  have c0 := hb.cell 0 (v := .int .i64 lim) rfl
  have c1 := hb.cell 1 (v := .slice a xs.length c) rfl
  have d1 := hb1.cell 1 (v := .slice a xs.length c) rfl
  have f1 := hb1.frozen 1
  have hlt : ¬ (lim : Int) - xs.length < k := by omega
  go_enter Try.func117, Try.ntmps117
  go_wp2_with (first | (go_at_call 54; refine hv.mono ?_; rintro e w' ⟨rfl, hw⟩; obtain rfl := hw.symm) | (at_builtin; refine Lib.wpList_append_run _ rfl (.tmp 27) (.tmp 28) 23 3 rfl _ _ rfl rfl _ _ hr ?_))
  go_ret2
  refine ⟨_, rfl, hb1.set 1 _, hd1.set hb1 (by decide) 1 _, ⟨hg.os, hg.tape, hg.output, by simpa [World.setCell] using hg.size, fun j hj hn hv => (Below.heap_setCell _ _ _ _ hn).trans (hg.block j hj hv)⟩, hnew⟩
end Go.Proofs.Ytejcclcckgdbgaa
namespace Go.Proofs.Ytejcclcckgdbgaa
open Go.RowKit
set_option linter.unusedVariables false
set_option linter.unusedSimpArgs false
set_option maxRecDepth 100000

/-- A reader: the position of its first byte, how many it has read, its bytes, its fault. -/
structure RS where
  f : Nat
  n : Nat
  xs : List Int
  er : Int
  ea : Int
/-- Its cells, behind a slice value. -/
def RS.cells (R : RS) (v : Value) : List Value := [.int .i64 R.f, .int .i64 ((R.f : Int) + R.n), .int .i64 ((R.f : Int) + R.xs.length), .bool true, v, .int .i64 R.er, .int .i64 R.ea]
/-- It lies in block b. -/
def Rdr (w : World) (b : Nat) (R : RS) : Prop := (∃ v, Blk w b 128 (R.cells v) ∧ Dat w v R.xs) ∧ Oct R.xs ∧ R.n ≤ R.xs.length ∧ R.f + R.xs.length ≤ 1099511627776
theorem Rdr.below {w w' : World} {b : Nat} {R : RS} (h : Rdr w b R) (k : Below w.heap.size w w') : Rdr w' b R := by
  obtain ⟨⟨v, hb, hd⟩, h2⟩ := h
  exact ⟨⟨v, hb.below k hb.lt, hd.below k⟩, h2⟩
theorem Rdr.lt {w : World} {b : Nat} {R : RS} (h : Rdr w b R) : b < w.heap.size := by
  obtain ⟨⟨v, hb, hd⟩, h2⟩ := h
  exact hb.lt

theorem below_drewN (B : Nat) (w : World) (n : Nat) : Below B w (w.drewN n) := ⟨rfl, rfl, rfl, Nat.le_refl _, fun _ _ => rfl⟩
theorem rd_valid (w : World) (b : Nat) (R : RS) (h : Rdr w b R) : Calls Try.prog 78 #[.pointer (some ⟨b, 0, none⟩)] w fun e w' => e = .returned (.bool true) ∧ w' = w := by
  obtain ⟨⟨v, hb, hd⟩, h2⟩ := h
  have c3 := hb.cell 3 (v := .bool true) rfl
  go_enter Try.func78, Try.ntmps78
  go_wp2
  go_ret
  exact ⟨rfl, rfl⟩
theorem rd_failed (w : World) (b : Nat) (R : RS) (h : Rdr w b R) : Calls Try.prog 84 #[.pointer (some ⟨b, 0, none⟩)] w fun e w' => e = .returned (.bool (R.er != 0)) ∧ w' = w := by
  obtain ⟨⟨v, hb, hd⟩, h2⟩ := h
  have c5 := hb.cell 5 (v := .int .i64 R.er) rfl
  go_enter Try.func84, Try.ntmps84
  go_wp2
  go_ret
  exact ⟨rfl, rfl⟩
theorem rd_left (w : World) (b : Nat) (R : RS) (h : Rdr w b R) : Calls Try.prog 82 #[.pointer (some ⟨b, 0, none⟩)] w fun e w' => e = .returned (.int .i64 ((R.xs.length : Int) - R.n)) ∧ Below w.heap.size w w' := by
  obtain ⟨⟨v, hb, hd⟩, h1, h2, h3⟩ := h
  have c1 := hb.cell 1 (v := .int .i64 ((R.f : Int) + R.n)) rfl
  have c2 := hb.cell 2 (v := .int .i64 ((R.f : Int) + R.xs.length)) rfl
  have e : (R.f : Int) + R.xs.length - (R.f + R.n) = (R.xs.length : Int) - R.n := by omega
  go_enter Try.func82, Try.ntmps82
  go_wp2
  go_quiet (fail)
  go_wp2
  go_ret
  exact ⟨by simp <;> omega, below_drewN _ _ _⟩

/-- What advancing makes of it. -/
def RS.adv (R : RS) (k : Nat) : RS := { R with n := R.n + k }
theorem rd_advance (w : World) (b : Nat) (R : RS) (k : Nat) (h : Rdr w b R) (hk : R.n + k ≤ R.xs.length) : Calls Try.prog 85 #[.pointer (some ⟨b, 0, none⟩), .int .i64 k] w fun e w' => e = .returned (.tuple #[.int .i64 R.n, .int .i64 ((R.n : Int) + k)]) ∧ Rdr w' b (R.adv k) ∧ But w.heap.size b w w' := by
  obtain ⟨⟨v, hb, hd⟩, h1, h2, h3⟩ := h
  have c0 := hb.cell 0 (v := .int .i64 R.f) rfl
  have c1 := hb.cell 1 (v := .int .i64 ((R.f : Int) + R.n)) rfl
  have f1 := hb.frozen 1
  go_enter Try.func85, Try.ntmps85
  go_wp2
  go_quiet (fail)
  go_wp2
  go_ret2
  have e1 : (R.f : Int) + R.n - R.f = R.n := by omega
  have e2 : (R.f : Int) + R.n + k = R.f + ((R.n + k : Nat) : Int) := by omega
  refine ⟨by simp [e1], ⟨⟨v, ?_, Dat.set (w := w.drewN nq) hd hb (by decide) 1 _⟩, h1, hk, h3⟩, (But.of_below (below_drewN _ _ _)).setCell _ _⟩
  have := Blk.set (w := w.drewN nq) hb 1 (.int .i64 ((R.f : Int) + R.n + k))
  rw [e2] at this ⊢
  exact this

def RS.fail (R : RS) (e : Int) : RS := if R.er = 0 ∧ e ≠ 0 then { R with er := e, ea := (R.f : Int) + R.n } else R
theorem rd_Fail (w : World) (b : Nat) (R : RS) (x : Int) (h : Rdr w b R) : Calls Try.prog 83 #[.pointer (some ⟨b, 0, none⟩), .int .i64 x] w fun e w' => e = .returned (.tuple #[]) ∧ Rdr w' b (R.fail x) ∧ But w.heap.size b w w' := by
  have hv := rd_valid w b R h
  have hf := rd_failed w b R h
  have h0 := h
  obtain ⟨⟨v, hb, hd⟩, h1, h2, h3⟩ := h
  have c1 := hb.cell 1 (v := .int .i64 ((R.f : Int) + R.n)) rfl
  have f5 := hb.frozen 5
  have f6 := hb.frozen 6
  have c5 := hb.cell 5 (v := .int .i64 R.er) rfl
  have c6 := hb.cell 6 (v := .int .i64 R.ea) rfl
  by_cases he : R.er = 0
  · by_cases hx : x = 0
    · have ef : R.fail x = R := by simp [RS.fail, hx]
      rw [he] at hf
      subst hx
      go_enter Try.func83, Try.ntmps83
      go_wp2_with (first | (go_at_call 78; refine hv.mono ?_; rintro e w' ⟨rfl, rfl⟩) | (go_at_call 84; refine hf.mono ?_; rintro e w' ⟨rfl, rfl⟩))
      go_returns
      rw [ef]
      exact ⟨rfl, h0, But.refl _ _ _⟩
    · have ef : R.fail x = { R with er := x, ea := (R.f : Int) + R.n } := by simp [RS.fail, hx, he]
      rw [he] at hf
      go_enter Try.func83, Try.ntmps83
      go_wp2_with (first | (go_at_call 78; refine hv.mono ?_; rintro e w' ⟨rfl, rfl⟩) | (go_at_call 84; refine hf.mono ?_; rintro e w' ⟨rfl, rfl⟩))
      go_end0
      rw [ef]
      refine ⟨rfl, ⟨⟨v, ?_, Dat.set (Dat.set hd hb (by decide) 5 _) (hb.set 5 _) (by decide) 6 _⟩, h1, h2, h3⟩, ((But.refl _ _ _).setCell _ _).setCell _ _⟩
      exact (hb.set 5 _).set 6 _
  · have ef : R.fail x = R := by simp [RS.fail, he]
    have hne : (R.er != 0) = true := by simpa using he
    rw [hne] at hf
    go_enter Try.func83, Try.ntmps83
    go_wp2_with (first | (go_at_call 78; refine hv.mono ?_; rintro e w' ⟨rfl, rfl⟩) | (go_at_call 84; refine hf.mono ?_; rintro e w' ⟨rfl, rfl⟩))
    go_returns
    rw [ef]
    exact ⟨rfl, h0, But.refl _ _ _⟩
end Go.Proofs.Ytejcclcckgdbgaa
namespace Go.Proofs.Ytejcclcckgdbgaa
open Go.RowKit
set_option linter.unusedVariables false
set_option linter.unusedSimpArgs false
set_option maxRecDepth 100000

theorem elem_bytes : Try.prog.elem 23 = 5 := by kernel_rfl
theorem getD_part (xs : List Int) (n k i : Nat) (hi : i < k) : ((xs.drop n).take k).getD i 0 = xs.getD (n + i) 0 := by
  simp [List.getD_eq_getElem?_getD, List.getElem?_take_of_lt hi]
theorem len_part (xs : List Int) (n k : Nat) (hk : n + k ≤ xs.length) : ((xs.drop n).take k).length = k := by
  simp
  omega
/-- A part of the bytes. -/
theorem dat_slice {w : World} {v : Value} {xs : List Int} (h : Dat w v xs) (n k : Nat) (hk : n + k ≤ xs.length) :
    ∃ v', (Instr.slice 23 v (some (.int .i64 n)) (some (.int .i64 ((n : Int) + k))) none).run Try.prog w = .ok v' w ∧ Seg w v' ((xs.drop n).take k) := by
  have hl := len_part xs n k hk
  have ht : Try.prog.underlying 23 = some (.slice (Try.prog.elem 23)) := by rw [elem_bytes]; exact Try.underlying23
  have es : (sizeOf (Try.prog.elem 23)).run Try.prog w = .ok 1 w := by rw [elem_bytes]; exact Try.sizeOf5 w
  have et : ((n : Int) + k).toNat = n + k := by omega
  rcases h.form with ⟨rfl, rfl⟩ | ⟨g, cap, cs, rfl, h1, h2, hb, h3, h4⟩
  · have hk0 : n + k ≤ 0 := hk
    obtain rfl : n = 0 := by omega
    obtain rfl : k = 0 := by omega
    refine ⟨_, ?_, Seg.nil w⟩
    rw [run_slice_lh w _ none 0 0 ht .i64 .i64 _ _ (by omega) (by omega) (by simp), es]
    simp [Result.andThen, sliced]
  · refine ⟨_, (by rw [run_slice_lh w _ _ xs.length cap ht .i64 .i64 _ _ (by omega) (by omega) (by omega), es]; rfl), ?_⟩
    refine ⟨if cap = n then some ⟨g, 0, none⟩ else Option.map (fun x => Addr.add x (n * 1)) (some ⟨g, 0, none⟩), cap - n, by rw [hl, et]; simp only [sliced, Int.toNat_natCast, Nat.add_sub_cancel_left], by rw [hl]; omega, fun i hi => ?_⟩
    rw [hl] at hi
    have hc : ¬ cap = n := by omega
    rw [if_neg hc]
    refine ⟨g, n, by simp [Addr.add] <;> omega, ?_⟩
    rw [getD_part _ _ _ _ hi]
    exact hb.cell _ (take_at h4 _ (by omega))

theorem rd_take_ok (w : World) (b : Nat) (R : RS) (k : Nat) (h : Rdr w b R) (h0 : R.er = 0) (hk : R.n + k ≤ R.xs.length) : Calls Try.prog 79 #[.pointer (some ⟨b, 0, none⟩), .int .i64 k] w fun e w' => ∃ v, e = .returned v ∧ Seg w' v ((R.xs.drop R.n).take k) ∧ Rdr w' b (R.adv k) ∧ But w.heap.size b w w' := by
  have b1 : ¬ (k : Int) < 0 := by omega
  have b2 : ¬ (R.xs.length : Int) - R.n < k := by omega
  go_enter Try.func79, Try.ntmps79
  go_wp2_with (go_at_call 78; refine (rd_valid _ _ _ (by assumption)).mono ?_; rintro e w' ⟨rfl, hw⟩; obtain rfl := hw.symm)
  go_at_call 82
  refine (rd_left _ b R h).mono ?_
  rintro e w1 ⟨rfl, k1⟩
  have r1 := h.below k1
  have hf := rd_failed w1 b R r1
  rw [h0] at hf
  have ha := rd_advance w1 b R k r1 hk
  go_wp2_with (first | (go_at_call 84; refine hf.mono ?_; rintro e w' ⟨rfl, hw⟩; obtain rfl := hw.symm) | (go_at_call 85; refine ha.mono ?_; rintro e w2 ⟨rfl, r2, k2⟩; have r2' := r2; obtain ⟨⟨v, hb, hd⟩, -⟩ := r2; have c4 := hb.cell 4 (v := v) rfl; obtain ⟨v', hs, hseg⟩ := dat_slice hd R.n k hk; clear hf ha))
  go_ret
  exact ⟨_, rfl, hseg, r2', (But.of_below k1).then k2⟩

theorem rd_take_short (w : World) (b : Nat) (R : RS) (k : Int) (h : Rdr w b R) (h0 : R.er = 0) (hk : k < 0 ∨ (R.xs.length : Int) - R.n < k) : Calls Try.prog 79 #[.pointer (some ⟨b, 0, none⟩), .int .i64 k] w fun e w' => e = .returned (.slice none 0 0) ∧ Rdr w' b (R.fail 4) ∧ But w.heap.size b w w' := by
  have ef : (R.fail 4).er = 4 := by simp [RS.fail, h0]
  have hl := rd_left w b R h
  have key : ∀ w1, Below w.heap.size w w1 → Calls Try.prog 83 #[.pointer (some ⟨b, 0, none⟩), .int .i64 4] w1 fun e w' => e = .returned (.tuple #[]) ∧ Rdr w' b (R.fail 4) ∧ But w1.heap.size b w1 w' := fun w1 k1 => rd_Fail w1 b R 4 (h.below k1)
  have fl : ∀ w2, Rdr w2 b (R.fail 4) → Calls Try.prog 84 #[.pointer (some ⟨b, 0, none⟩)] w2 fun e w' => e = .returned (.bool true) ∧ w' = w2 := fun w2 r2 => by
    have := rd_failed w2 b _ r2
    rw [ef] at this
    exact this
  by_cases hneg : k < 0
  · go_enter Try.func79, Try.ntmps79
    go_wp2_with (go_at_call 78; refine (rd_valid _ _ _ (by assumption)).mono ?_; rintro e w' ⟨rfl, hw⟩; obtain rfl := hw.symm)
    go_at_call 83
    refine (key w (Below.refl _ _)).mono ?_
    rintro e w2 ⟨rfl, r2, k2⟩
    go_wp2_with (go_at_call 84; refine (fl w2 r2).mono ?_; rintro e w' ⟨rfl, hw⟩; obtain rfl := hw.symm)
    go_ret
    exact ⟨rfl, r2, k2⟩
  · have hlt : (R.xs.length : Int) - R.n < k := by omega
    go_enter Try.func79, Try.ntmps79
    go_wp2_with (go_at_call 78; refine (rd_valid _ _ _ (by assumption)).mono ?_; rintro e w' ⟨rfl, hw⟩; obtain rfl := hw.symm)
    go_at_call 82
    refine hl.mono ?_
    rintro e w1 ⟨rfl, k1⟩
    go_wp2_with fail
    go_at_call 83
    refine (key w1 k1).mono ?_
    rintro e w2 ⟨rfl, r2, k2⟩
    go_wp2_with (go_at_call 84; refine (fl w2 r2).mono ?_; rintro e w' ⟨rfl, hw⟩; obtain rfl := hw.symm)
    go_ret
    exact ⟨rfl, r2, (But.of_below k1).then k2⟩

theorem rd_take_bad (w : World) (b : Nat) (R : RS) (k : Int) (h : Rdr w b R) (h0 : R.er ≠ 0) : Calls Try.prog 79 #[.pointer (some ⟨b, 0, none⟩), .int .i64 k] w fun e w' => e = .returned (.slice none 0 0) ∧ Rdr w' b R ∧ But w.heap.size b w w' := by
  have ef : R.fail 4 = R := by simp [RS.fail, h0]
  have hl := rd_left w b R h
  have key : ∀ w1, Below w.heap.size w w1 → Calls Try.prog 83 #[.pointer (some ⟨b, 0, none⟩), .int .i64 4] w1 fun e w' => e = .returned (.tuple #[]) ∧ Rdr w' b R ∧ But w1.heap.size b w1 w' := fun w1 k1 => by
    have := rd_Fail w1 b R 4 (h.below k1)
    rw [ef] at this
    exact this
  have hne : (R.er != 0) = true := by simpa using h0
  have fl : ∀ w2, Rdr w2 b R → Calls Try.prog 84 #[.pointer (some ⟨b, 0, none⟩)] w2 fun e w' => e = .returned (.bool true) ∧ w' = w2 := fun w2 r2 => by
    have := rd_failed w2 b _ r2
    rw [hne] at this
    exact this
  by_cases hneg : k < 0
  · go_enter Try.func79, Try.ntmps79
    go_wp2_with (go_at_call 78; refine (rd_valid _ _ _ (by assumption)).mono ?_; rintro e w' ⟨rfl, hw⟩; obtain rfl := hw.symm)
    go_at_call 83
    refine (key w (Below.refl _ _)).mono ?_
    rintro e w2 ⟨rfl, r2, k2⟩
    go_wp2_with (go_at_call 84; refine (fl w2 r2).mono ?_; rintro e w' ⟨rfl, hw⟩; obtain rfl := hw.symm)
    go_ret
    exact ⟨rfl, r2, k2⟩
  · by_cases hlt : (R.xs.length : Int) - R.n < k
    · go_enter Try.func79, Try.ntmps79
      go_wp2_with (go_at_call 78; refine (rd_valid _ _ _ (by assumption)).mono ?_; rintro e w' ⟨rfl, hw⟩; obtain rfl := hw.symm)
      go_at_call 82
      refine hl.mono ?_
      rintro e w1 ⟨rfl, k1⟩
      go_wp2_with fail
      go_at_call 83
      refine (key w1 k1).mono ?_
      rintro e w2 ⟨rfl, r2, k2⟩
      go_wp2_with (go_at_call 84; refine (fl w2 r2).mono ?_; rintro e w' ⟨rfl, hw⟩; obtain rfl := hw.symm)
      go_ret
      exact ⟨rfl, r2, (But.of_below k1).then k2⟩
    · go_enter Try.func79, Try.ntmps79
      go_wp2_with (go_at_call 78; refine (rd_valid _ _ _ (by assumption)).mono ?_; rintro e w' ⟨rfl, hw⟩; obtain rfl := hw.symm)
      go_at_call 82
      refine hl.mono ?_
      rintro e w1 ⟨rfl, k1⟩
      have r1 := h.below k1
      go_wp2_with (go_at_call 84; refine (fl w1 r1).mono ?_; rintro e w' ⟨rfl, hw⟩; obtain rfl := hw.symm)
      go_ret
      exact ⟨rfl, r1, But.of_below k1⟩

/-- What taking k bytes yields, and what it makes of the reader. -/
def RS.ok (R : RS) (k : Int) : Prop := R.er = 0 ∧ 0 ≤ k ∧ k ≤ (R.xs.length : Int) - R.n
instance (R : RS) (k : Int) : Decidable (R.ok k) := by unfold RS.ok; infer_instance
def RS.part (R : RS) (k : Int) : List Int := if R.ok k then (R.xs.drop R.n).take k.toNat else []
def RS.next (R : RS) (k : Int) : RS := if R.ok k then R.adv k.toNat else R.fail 4
theorem rd_take (w : World) (b : Nat) (R : RS) (k : Int) (h : Rdr w b R) : Calls Try.prog 79 #[.pointer (some ⟨b, 0, none⟩), .int .i64 k] w fun e w' => ∃ v, e = .returned v ∧ Seg w' v (R.part k) ∧ Rdr w' b (R.next k) ∧ But w.heap.size b w w' := by
  by_cases hk : R.ok k
  · obtain ⟨h0, h1, h2⟩ := hk
    have e1 : R.part k = (R.xs.drop R.n).take k.toNat := if_pos ⟨h0, h1, h2⟩
    have e2 : R.next k = R.adv k.toNat := if_pos ⟨h0, h1, h2⟩
    have ek : ((k.toNat : Nat) : Int) = k := Int.toNat_of_nonneg h1
    rw [e1, e2]
    have h3 := h.2.2.1
    have := rd_take_ok w b R k.toNat h h0 (by omega)
    rw [ek] at this
    exact this
  · have e1 : R.part k = [] := if_neg hk
    have e2 : R.next k = R.fail 4 := if_neg hk
    rw [e1, e2]
    by_cases h0 : R.er = 0
    · refine (rd_take_short w b R k h h0 ?_).mono ?_
      · unfold RS.ok at hk
        omega
      · rintro e w' ⟨rfl, r, k⟩
        exact ⟨_, rfl, Seg.nil _, r, k⟩
    · refine (rd_take_bad w b R k h h0).mono ?_
      rintro e w' ⟨rfl, r, k⟩
      have ef : R.fail 4 = R := by simp [RS.fail, h0]
      exact ⟨_, rfl, Seg.nil _, ef.symm ▸ r, k⟩
end Go.Proofs.Ytejcclcckgdbgaa
namespace Go.Proofs.Ytejcclcckgdbgaa
open Go.RowKit
set_option linter.unusedVariables false
set_option linter.unusedSimpArgs false
set_option maxRecDepth 100000

/-- The number that octets spell, the most significant one first. -/
def be (l : List Int) : Nat := l.foldl (fun a x => a * 256 + x.toNat) 0
theorem be_snoc (l : List Int) (x : Int) : be (l ++ [x]) = be l * 256 + x.toNat := by simp [be]
theorem take_step (l : List Int) (k : Nat) (h : k < l.length) : l.take (k + 1) = l.take k ++ [l.getD k 0] := by
  rw [List.take_add_one, List.getD_eq_getElem?_getD, List.getElem?_eq_getElem h]
  rfl
theorem be_take_lt (l : List Int) (h : Oct l) (k : Nat) (hk : k ≤ l.length) : be (l.take k) < 256 ^ k := by
  induction k with
  | zero => simp [be]
  | succ k ih =>
    have h1 := ih (by omega)
    have h2 := h.getD k
    rw [take_step l k (by omega), be_snoc, Nat.pow_succ]
    omega
theorem be_lt (l : List Int) (h : Oct l) : be l < 256 ^ l.length := by
  have := be_take_lt l h l.length (Nat.le_refl _)
  rwa [List.take_length] at this
theorem or_byte (a y : Int) (h0 : 0 ≤ a) (h1 : a < 72057594037927936) (h2 : 0 ≤ y) (h3 : y < 256) : bits .or .u64 (a * 256) y = a * 256 + y := by
  rw [u64_or _ _ (by omega) (by omega) h2 (by omega)]
  have e1 : (a * 256).toNat = 2 ^ 8 * a.toNat := by omega
  have e2 := Nat.two_pow_add_eq_or_of_lt (i := 8) (b := y.toNat) (by omega) a.toNat
  rw [e1, ← e2]
  omega

theorem rd_num (w : World) (b : Nat) (R : RS) (k : Nat) (hk8 : k ≤ 8) (h : Rdr w b R) : Calls Try.prog 77 #[.pointer (some ⟨b, 0, none⟩), .int .i64 k] w fun e w' => e = .returned (.int .u64 (be (R.part k))) ∧ Rdr w' b (R.next k) ∧ But w.heap.size b w w' := by
  have ho : Oct (R.part k) := by
    unfold RS.part
    split
    · exact (h.2.1.drop _).take _
    · exact fun x hx => by cases hx
  have hl : (R.part k).length ≤ 8 := by
    unfold RS.part
    split
    · simp; omega
    · simp
  go_enter Try.func77, Try.ntmps77
  go_wp2_with fail
  go_at_call 79
  refine (rd_take w b R k h).mono ?_
  rintro e w1 ⟨v, rfl, hs, r1, k1⟩
  generalize hxs : R.part k = xs at hs ho hl ⊢
  obtain ⟨a, c, rfl, hc, hx⟩ := hs
  go_wp2_with fail
  go_loop [5, 7, 12] (fun va vv vi => ∃ (j : Nat) (m : Int), j ≤ xs.length ∧ va = .int .u64 m ∧ vi = .int .i64 j ∧ Hid (m = (be (xs.take j) : Nat)))
    (fun _ _ vi => xs.length - (intOf vi).toNat)
  case atStart => exact ⟨0, 0, by omega, rfl, rfl, rfl⟩
  case round =>
    obtain ⟨j, m, hj, rfl, rfl, hh⟩ := hrel
    by_cases hlt : j < xs.length
    · obtain ⟨g, o, rfl, hcell⟩ := hx j hlt
      have hm := hh.out
      have hb := be_take_lt _ ho j hj
      have hd := ho.getD j
      have m1 : m < 72057594037927936 := by
        have := Nat.pow_le_pow_right (n := 256) (by decide) (show j ≤ 7 by omega)
        have e : (256 : Nat) ^ 7 = 72057594037927936 := by decide
        omega
      have m0 : 0 ≤ m := by omega
      have hjl : (j : Int) < xs.length := by omega
      have hst := take_step xs j hlt
      have hor := or_byte m (xs.getD j 0) m0 m1 hd.1 hd.2
      generalize hy : xs.getD j 0 = y at hcell hd hst hor
      clear hh hx
      go_wp2
      refine ⟨⟨j + 1, m * 256 + y, hlt, by rw [← hor, hm], rfl, ?_⟩, by simp [intOf]; omega⟩
      show m * 256 + y = _
      rw [hst, be_snoc]
      omega
    · have hm : m = (be (xs.take j) : Nat) := hh.out
      obtain rfl : j = xs.length := by omega
      rw [List.take_length] at hm
      clear hh hx
      go_wp2
      go_ret
      subst hm
      exact ⟨rfl, r1, k1⟩
end Go.Proofs.Ytejcclcckgdbgaa
namespace Go.Proofs.Ytejcclcckgdbgaa
open Go.RowKit
set_option linter.unusedVariables false
set_option linter.unusedSimpArgs false
set_option maxRecDepth 100000

theorem rd_U8 (w : World) (b : Nat) (R : RS) (h : Rdr w b R) : Calls Try.prog 59 #[.pointer (some ⟨b, 0, none⟩)] w fun e w' => e = .returned (.int .u64 (be (R.part 1))) ∧ Rdr w' b (R.next 1) ∧ But w.heap.size b w w' := by
  have hn := rd_num w b R 1 (by decide) h
  go_enter Try.func59, Try.ntmps59
  go_wp2_with (go_at_call 77; refine hn.mono ?_; rintro e w' ⟨rfl, r, k⟩)
  go_ret
  exact ⟨rfl, r, k⟩
theorem rd_U24 (w : World) (b : Nat) (R : RS) (h : Rdr w b R) : Calls Try.prog 106 #[.pointer (some ⟨b, 0, none⟩)] w fun e w' => e = .returned (.int .u64 (be (R.part 3))) ∧ Rdr w' b (R.next 3) ∧ But w.heap.size b w w' := by
  have hn := rd_num w b R 3 (by decide) h
  go_enter Try.func106, Try.ntmps106
  go_wp2_with (go_at_call 77; refine hn.mono ?_; rintro e w' ⟨rfl, r, k⟩)
  go_ret
  exact ⟨rfl, r, k⟩
theorem rd_U32 (w : World) (b : Nat) (R : RS) (h : Rdr w b R) : Calls Try.prog 111 #[.pointer (some ⟨b, 0, none⟩)] w fun e w' => e = .returned (.int .u64 (be (R.part 4))) ∧ Rdr w' b (R.next 4) ∧ But w.heap.size b w w' := by
  have hn := rd_num w b R 4 (by decide) h
  go_enter Try.func111, Try.ntmps111
  go_wp2_with (go_at_call 77; refine hn.mono ?_; rintro e w' ⟨rfl, r, k⟩)
  go_ret
  exact ⟨rfl, r, k⟩
theorem rd_U48 (w : World) (b : Nat) (R : RS) (h : Rdr w b R) : Calls Try.prog 122 #[.pointer (some ⟨b, 0, none⟩)] w fun e w' => e = .returned (.int .u64 (be (R.part 6))) ∧ Rdr w' b (R.next 6) ∧ But w.heap.size b w w' := by
  have hn := rd_num w b R 6 (by decide) h
  go_enter Try.func122, Try.ntmps122
  go_wp2_with (go_at_call 77; refine hn.mono ?_; rintro e w' ⟨rfl, r, k⟩)
  go_ret
  exact ⟨rfl, r, k⟩
theorem rd_U64 (w : World) (b : Nat) (R : RS) (h : Rdr w b R) : Calls Try.prog 109 #[.pointer (some ⟨b, 0, none⟩)] w fun e w' => e = .returned (.int .u64 (be (R.part 8))) ∧ Rdr w' b (R.next 8) ∧ But w.heap.size b w w' := by
  have hn := rd_num w b R 8 (by decide) h
  go_enter Try.func109, Try.ntmps109
  go_wp2_with (go_at_call 77; refine hn.mono ?_; rintro e w' ⟨rfl, r, k⟩)
  go_ret
  exact ⟨rfl, r, k⟩

theorem add_is (b o i : Nat) : (⟨b, o, none⟩ : Addr).add i = ⟨b, o + i, none⟩ := by
  rcases Nat.eq_zero_or_pos i with rfl | h
  · simp [Addr.add]
  · simp [Addr.add] <;> omega
theorem Dat.shape {w : World} {v : Value} {xs : List Int} (h : Dat w v xs) : ∃ a c, v = .slice a xs.length c := by
  obtain ⟨a, c, e, _⟩ := h.seg
  exact ⟨a, c, e⟩
/-- A copy of a slice's octets. -/
theorem clone_is (w : World) (v : Value) (xs : List Int) (h : Seg w v xs) (hl : xs.length ≤ 140737488355328) : Calls Try.prog 55 #[v] w fun e w' => ∃ v', e = .returned v' ∧ Dat w' v' xs ∧ Below w.heap.size w w' := by
  obtain ⟨a, c, rfl, hc, hx⟩ := h
  cases a with
  | none =>
    have h0 : xs = [] := by
      rcases xs with _ | ⟨x, r⟩
      · rfl
      · obtain ⟨b, o, e, _⟩ := hx 0 (by simp)
        cases e
    subst h0
    refine (Try.bytes_Clone_nil _ c w).mono ?_
    rintro e w' ⟨rfl, rfl⟩
    exact ⟨_, rfl, Dat.nil _, Below.refl _ _⟩
  | some p =>
    refine (Try.bytes_Clone_at p _ c xs w rfl hl ?_).mono ?_
    · intro i hi
      obtain ⟨b, o, e, hcell⟩ := hx i hi
      obtain rfl := Option.some.inj e
      rw [add_is]
      exact hcell
    · rintro e w' ⟨v', rfl, ho, -, hb⟩
      exact ⟨v', rfl, ho.mono (Nat.zero_le _), hb⟩

theorem rd_new (w : World) (f : Nat) (v : Value) (xs : List Int) (h : Seg w v xs) (ho : Oct xs) (hl : f + xs.length ≤ 1099511627776) : Calls Try.prog 76 #[.int .i64 f, v] w fun e w' => ∃ b, e = .returned (.pointer (some ⟨b, 0, none⟩)) ∧ w.heap.size ≤ b ∧ Rdr w' b ⟨f, 0, xs, 0, 0⟩ ∧ Below w.heap.size w w' := by
  have hcl := clone_is w v xs h (by omega)
  obtain ⟨a, c, rfl, hc, hx⟩ := h
  clear hx
  go_enter Try.func76, Try.ntmps76
  go_wp2_with (go_at_call 55; refine hcl.mono ?_; rintro e w1 ⟨v', rfl, hd, k⟩; obtain ⟨a', c', rfl⟩ := hd.shape)
  go_ret
  clear hcl
  refine ⟨w1.heap.size, rfl, k.size, ⟨⟨.slice a' xs.length c', ?_, hd.below ((Below.refl _ _).alloc (Nat.le_refl _) _)⟩, ho, Nat.zero_le _, hl⟩, k.alloc k.size _⟩
  have := Blk.new w1 128 (RS.cells ⟨f, 0, xs, 0, 0⟩ (.slice a' xs.length c'))
  simpa [RS.cells] using this
theorem rd_New (w : World) (v : Value) (xs : List Int) (h : Seg w v xs) (ho : Oct xs) (hl : xs.length ≤ 1099511627776) : Calls Try.prog 58 #[v] w fun e w' => ∃ b, e = .returned (.pointer (some ⟨b, 0, none⟩)) ∧ w.heap.size ≤ b ∧ Rdr w' b ⟨0, 0, xs, 0, 0⟩ ∧ Below w.heap.size w w' := by
  have hn := rd_new w 0 v xs h ho (by omega)
  go_enter Try.func58, Try.ntmps58
  go_wp2_with (go_at_call 76; refine hn.mono ?_; rintro e w' ⟨b, rfl, r⟩)
  go_ret
  exact ⟨b, rfl, r⟩

theorem part_oct {w : World} {b : Nat} {R : RS} (h : Rdr w b R) (k : Int) : Oct (R.part k) ∧ (R.part k).length ≤ R.xs.length - R.n := by
  unfold RS.part
  split
  · exact ⟨(h.2.1.drop _).take _, by simp; omega⟩
  · exact ⟨fun x hx => absurd hx (by simp), by simp⟩
theorem rd_Bytes (w : World) (b : Nat) (R : RS) (k : Int) (h : Rdr w b R) : Calls Try.prog 116 #[.pointer (some ⟨b, 0, none⟩), .int .i64 k] w fun e w' => ∃ v, e = .returned v ∧ Dat w' v (R.part k) ∧ Rdr w' b (R.next k) ∧ But w.heap.size b w w' := by
  have ht := rd_take w b R k h
  have hp := part_oct h k
  have h4 := h.2.2.2
  go_enter Try.func116, Try.ntmps116
  go_wp2_with (go_at_call 79; refine ht.mono ?_; rintro e w1 ⟨v, rfl, hs, r, k1⟩; clear ht)
  go_at_call 55
  refine (clone_is w1 v _ hs (by omega)).mono ?_
  rintro e w2 ⟨v', rfl, hd, k2⟩
  go_wp2
  go_ret
  exact ⟨v', rfl, hd, r.below k2, k1.then (.of_below k2)⟩

theorem rd_Fault (w : World) (b : Nat) (R : RS) (h : Rdr w b R) : Calls Try.prog 61 #[.pointer (some ⟨b, 0, none⟩)] w fun e w' => e = .returned (.agg #[.int .i64 R.er, .int .i64 R.ea]) ∧ Below w.heap.size w w' := by
  have h1 := h.below ((Below.refl _ _).alloc (Nat.le_refl _) (.cells #[.int .i64 0, .int .i64 0] 40))
  have z := h.lt
  obtain ⟨⟨v, hb, hd⟩, -⟩ := h
  have c5 := hb.cell 5 (v := .int .i64 R.er) rfl
  have c6 := hb.cell 6 (v := .int .i64 R.ea) rfl
  go_enter Try.func61, Try.ntmps61
  go_wp2_with (go_at_call 78; refine (rd_valid _ _ _ (by assumption)).mono ?_; rintro e w' ⟨rfl, hw⟩; obtain rfl := hw.symm)
  go_returns
  exact ⟨rfl, (Below.refl _ _).alloc (Nat.le_refl _) _⟩

/-- The reader of the next k bytes. -/
def RS.sub (R : RS) (k : Int) : RS := ⟨R.f + R.n, 0, R.part k, (R.next k).er, (R.next k).ea⟩
theorem rd_Sub (w : World) (b : Nat) (R : RS) (k : Int) (h : Rdr w b R) : Calls Try.prog 60 #[.pointer (some ⟨b, 0, none⟩), .int .i64 k] w fun e w' => ∃ c, e = .returned (.pointer (some ⟨c, 0, none⟩)) ∧ w.heap.size ≤ c ∧ Rdr w' c (R.sub k) ∧ Rdr w' b (R.next k) ∧ But w.heap.size b w w' := by
  have ht := rd_take w b R k h
  have hp := part_oct h k
  have h0 := h
  obtain ⟨⟨v, hb, hd⟩, h1, h2, h3⟩ := h
  have c1 := hb.cell 1 (v := .int .i64 ((R.f : Int) + R.n)) rfl
  go_enter Try.func60, Try.ntmps60
  go_wp2_with (go_at_call 78; refine (rd_valid _ _ _ (by assumption)).mono ?_; rintro e w' ⟨rfl, hw⟩; obtain rfl := hw.symm)
  go_at_call 79
  refine ht.mono ?_
  rintro e w1 ⟨v1, rfl, hs, r1, k1⟩
  clear ht hd hb c1
  have hn := rd_new w1 (R.f + R.n) v1 _ hs hp.1 (by omega)
  go_wp2_with fail
  go_at_call 76
  refine hn.mono ?_
  rintro e w2 ⟨c, rfl, hc, r2, k2⟩
  have r1' := r1.below k2
  have hcb : c ≠ b := fun e => by have := r1.lt; omega
  obtain ⟨⟨u, hu, hud⟩, hu2⟩ := r2
  obtain ⟨⟨x, hx, hxd⟩, hx2⟩ := r1'
  have c5 := hx.cell 5 (v := .int .i64 (R.next k).er) rfl
  have c6 := hx.cell 6 (v := .int .i64 (R.next k).ea) rfl
  have d5 := hu.cell 5 (v := .int .i64 0) rfl
  have d6 := hu.cell 6 (v := .int .i64 0) rfl
  have f5 := hu.frozen 5
  have f6 := hu.frozen 6
  go_wp2
  go_ret
  refine ⟨c, rfl, Nat.le_trans k1.size hc, ⟨⟨u, ?_, Dat.set (Dat.set hud hu (by decide) 5 _) (hu.set 5 _) (by decide) 6 _⟩, hu2⟩, ⟨⟨x, (hx.set_other 5 _ hcb).set_other 6 _ hcb, Dat.set (Dat.set hxd hu (by decide) 5 _) (hu.set 5 _) (by decide) 6 _⟩, hx2⟩, ?_⟩
  · exact (hu.set 5 _).set 6 _
  · have k3 : But w1.heap.size b w1 w2 := .of_below k2
    refine (k1.then k3).trans (.of_below ?_)
    exact ((Below.refl _ _).setCell (by show w.heap.size ≤ c; have := k1.size; omega) _).setCell (by show w.heap.size ≤ c; have := k1.size; omega) _
end Go.Proofs.Ytejcclcckgdbgaa
namespace Go.Proofs.Ytejcclcckgdbgaa
open Go.RowKit
set_option linter.unusedVariables false
set_option linter.unusedSimpArgs false
set_option maxRecDepth 100000

theorem pow_is (k : Nat) : (256 : Nat) ^ k = 2 ^ (8 * k) := by rw [show (256 : Nat) = 2 ^ 8 by decide, ← Nat.pow_mul]
theorem shr_zero (n k : Nat) (h : n < 256 ^ k) : (n : Int) / 2 ^ (8 * k) = 0 := by
  rw [pow_is] at h
  have : n / 2 ^ (8 * k) = 0 := Nat.div_eq_of_lt h
  have e : ((n / 2 ^ (8 * k) : Nat) : Int) = 0 := by omega
  simpa using e
theorem shr_not (n k : Nat) (h : 256 ^ k ≤ n) : ¬ (n : Int) / 2 ^ (8 * k) = 0 := by
  rw [pow_is] at h
  have : 0 < n / 2 ^ (8 * k) := Nat.div_pos h (Nat.pow_pos (by decide))
  have e : ¬ ((n / 2 ^ (8 * k) : Nat) : Int) = 0 := by omega
  simpa using e
theorem wr_num_range (w : World) (b : Nat) (W : WS) (k n : Nat) (h : Wtr w b W) (hk8 : k ≤ 8) (hn : n < 18446744073709551616) (hr : 256 ^ k ≤ n) :
    Calls Try.prog 115 #[.pointer (some ⟨b, 0, none⟩), .int .u64 n, .int .i64 k] w fun e w' => e = .returned (.int .i64 2) ∧ w' = w := by
  have hv := wr_valid w b W h
  have hz := shr_not n k hr
  go_enter Try.func115, Try.ntmps115
  go_wp2_with (go_at_call 54; refine hv.mono ?_; rintro e w' ⟨rfl, hw⟩; obtain rfl := hw.symm)
  go_ret
  exact ⟨rfl, rfl⟩
theorem wr_num_full (w : World) (b : Nat) (W : WS) (k n : Nat) (h : Wtr w b W) (hk8 : k ≤ 8) (hn : n < 18446744073709551616) (hr : n < 256 ^ k) (hk : W.lim < W.xs.length + k) :
    Calls Try.prog 115 #[.pointer (some ⟨b, 0, none⟩), .int .u64 n, .int .i64 k] w fun e w' => e = .returned (.int .i64 7) ∧ w' = w := by
  have hv := wr_valid w b W h
  have hz := shr_zero n k hr
  have hx := wr_extend_full w b W k h hk (by omega)
  have hs := store64_none w none 0 n
  go_enter Try.func115, Try.ntmps115
  go_wp2_with (first | (go_at_call 54; refine hv.mono ?_; rintro e w' ⟨rfl, hw⟩; obtain rfl := hw.symm) | (go_at_call 117; refine hx.mono ?_; rintro e w' ⟨rfl, hw⟩; obtain rfl := hw.symm) | (go_at_call 118; refine hs.mono ?_; rintro e w' ⟨rfl, hw⟩; obtain rfl := hw.symm))
  go_ret
  exact ⟨rfl, rfl⟩

theorem tail_form {w : World} {v : Value} {xs : List Int} {k : Nat} (hd : Dat w v (xs ++ List.replicate k 0)) (hk : 0 < k) : ∃ g cap cs, v = .slice (some ⟨g, 0, none⟩) (xs.length + k) cap ∧ tail v xs.length = .slice (some ⟨g, xs.length, none⟩) k (cap - xs.length) ∧ xs.length + k ≤ cap ∧ cap ≤ maxLen ∧ Blk w g 5 cs ∧ cs.length = cap ∧ cs.take xs.length = xs.map (Value.int .u8) := by
  rcases hd.form with ⟨-, h⟩ | ⟨g, cap, cs, rfl, h1, h2, hg, h3, h4⟩
  · have := congrArg List.length h
    simp at this
    omega
  · have hl : (xs ++ List.replicate k (0 : Int)).length = xs.length + k := by simp
    have h1' : xs.length + k ≤ cap := hl ▸ h1
    rw [hl] at h4 ⊢
    clear h1
    have h1 := h1'
    refine ⟨g, cap, cs, rfl, ?_, h1, h2, hg, h3, ?_⟩
    · have hc : ¬ cap = xs.length := by omega
      simp only [tail, sliced, if_neg hc, Option.map_some, Nat.mul_one, Nat.add_sub_cancel_left]
      rw [add_is, Nat.zero_add]
    · have := congrArg (List.take xs.length) h4
      rw [List.take_take, Nat.min_eq_left (Nat.le_add_right _ _), List.map_append, List.take_left' (by simp)] at this
      exact this
theorem wr_num (w : World) (b : Nat) (W : WS) (k n : Nat) (h : Wtr w b W) (hk0 : 0 < k) (hk8 : k ≤ 8) (hn : n < 18446744073709551616) (hr : n < 256 ^ k) (hk : W.xs.length + k ≤ W.lim) :
    Calls Try.prog 115 #[.pointer (some ⟨b, 0, none⟩), .int .u64 n, .int .i64 k] w fun e w' => e = .returned (.int .i64 0) ∧ ∃ v', Wtr w' b { W with xs := W.xs ++ enc k n, v := v' } ∧ ButW b W.v w w' ∧ (v'.ownBlock = W.v.ownBlock ∨ ∀ g, v'.ownBlock = some g → w.heap.size ≤ g) := by
  have hv := wr_valid w b W h
  have hz := shr_zero n k hr
  have hx := wr_extend w b W k h hk
  go_enter Try.func115, Try.ntmps115
  go_wp2_with (go_at_call 54; refine hv.mono ?_; rintro e w' ⟨rfl, hw⟩; obtain rfl := hw.symm)
  go_at_call 117
  refine hx.mono ?_
  rintro e w1 ⟨v', rfl, hb1, hd1, hbut, hnew⟩
  clear hx hv hz
  obtain ⟨g, cap, cs, hvf, htf, c1, c2, hg, c3, c4⟩ := tail_form hd1 hk0
  rw [htf]
  have hst := store64 w1 g W.xs.length k (cap - W.xs.length) n cs hg (by omega) (by unfold maxLen at c2; omega) hk8 (by omega) hn
  go_wp2_with (go_at_call 118; refine hst.mono ?_; rintro e w2 ⟨rfl, hg2, k2⟩)
  go_ret
  have hgb : b ≠ g := hb1.ne hg (by decide)
  have hvo : v'.ownBlock = some g := by rw [hvf]; rfl
  have hlen : (W.xs ++ enc k n).length = W.xs.length + k := by simp [enc_length]
  refine ⟨rfl, v', ⟨k2.blk hb1 hb1.lt hgb, ?_, ?_, by show (W.xs ++ enc k n).length ≤ W.lim; omega, h.2.2.2.2⟩, ⟨k2.os.trans hbut.os, k2.tape.trans hbut.tape, k2.output.trans hbut.output, Nat.le_trans hbut.size k2.size, fun j hj hn hv => ?_⟩, hnew⟩
  · show Dat w2 v' (W.xs ++ enc k n)
    rw [hvf]
    refine Dat.of hlen c1 c2 hg2 (by rw [mid_length _ _ _ _ _ (by omega) (Nat.le_refl _), c3]) ?_
    have e : W.xs.length + k - k = W.xs.length := by omega
    unfold mid
    rw [e, c4, List.map_append, List.take_left' (by simp [enc_length])]
  · intro x hx
    rcases List.mem_append.1 hx with hx | hx
    · exact h.2.2.1 x hx
    · exact enc_oct _ _ x hx
  · refine (k2.block j (Nat.lt_of_lt_of_le hj hbut.size) ?_).trans (hbut.block j hj hn hv)
    rintro rfl
    rcases hnew with e | e
    · exact hv (hvo.symm.trans e)
    · have := e _ hvo
      omega

/-- What a call that writes a number says. -/
def WS.res (W : WS) (k n : Nat) : Int := if 256 ^ k ≤ n then 2 else if W.lim < W.xs.length + k then 7 else 0
def Put (b : Nat) (W : WS) (r : Int) (ys : List Int) (w : World) (e : Ending) (w' : World) : Prop :=
  e = .returned (.int .i64 r) ∧ ((r ≠ 0 ∧ w' = w) ∨ (r = 0 ∧ ∃ v', Wtr w' b { W with xs := W.xs ++ ys, v := v' } ∧ ButW b W.v w w' ∧ (v'.ownBlock = W.v.ownBlock ∨ ∀ g, v'.ownBlock = some g → w.heap.size ≤ g)))
theorem wr_number (w : World) (b : Nat) (W : WS) (k n : Nat) (h : Wtr w b W) (hk0 : 0 < k) (hk8 : k ≤ 8) (hn : n < 18446744073709551616) :
    Calls Try.prog 115 #[.pointer (some ⟨b, 0, none⟩), .int .u64 n, .int .i64 k] w fun e w' => Put b W (W.res k n) (enc k n) w e w' := by
  unfold WS.res
  split
  · refine (wr_num_range w b W k n h hk8 hn (by assumption)).mono ?_
    rintro e w' ⟨rfl, rfl⟩
    exact ⟨rfl, .inl ⟨by decide, rfl⟩⟩
  · split
    · refine (wr_num_full w b W k n h hk8 hn (by omega) (by assumption)).mono ?_
      rintro e w' ⟨rfl, rfl⟩
      exact ⟨rfl, .inl ⟨by decide, rfl⟩⟩
    · refine (wr_num w b W k n h hk0 hk8 hn (by omega) (by omega)).mono ?_
      rintro e w' ⟨rfl, hw⟩
      exact ⟨rfl, .inr ⟨rfl, hw⟩⟩
theorem wr_U8 (w : World) (b : Nat) (W : WS) (n : Nat) (h : Wtr w b W) (hn : n < 18446744073709551616) :
    Calls Try.prog 123 #[.pointer (some ⟨b, 0, none⟩), .int .u64 n] w fun e w' => Put b W (W.res 1 n) (enc 1 n) w e w' := by
  have hx := wr_number w b W 1 n h (by decide) (by decide) hn
  go_enter Try.func123, Try.ntmps123
  go_wp2_with (go_at_call 115; refine hx.mono ?_; rintro e w' ⟨rfl, hw⟩; clear hx)
  go_ret
  exact ⟨rfl, hw⟩
theorem wr_U24 (w : World) (b : Nat) (W : WS) (n : Nat) (h : Wtr w b W) (hn : n < 18446744073709551616) :
    Calls Try.prog 108 #[.pointer (some ⟨b, 0, none⟩), .int .u64 n] w fun e w' => Put b W (W.res 3 n) (enc 3 n) w e w' := by
  have hx := wr_number w b W 3 n h (by decide) (by decide) hn
  go_enter Try.func108, Try.ntmps108
  go_wp2_with (go_at_call 115; refine hx.mono ?_; rintro e w' ⟨rfl, hw⟩; clear hx)
  go_ret
  exact ⟨rfl, hw⟩
theorem wr_U32 (w : World) (b : Nat) (W : WS) (n : Nat) (h : Wtr w b W) (hn : n < 18446744073709551616) :
    Calls Try.prog 114 #[.pointer (some ⟨b, 0, none⟩), .int .u64 n] w fun e w' => Put b W (W.res 4 n) (enc 4 n) w e w' := by
  have hx := wr_number w b W 4 n h (by decide) (by decide) hn
  go_enter Try.func114, Try.ntmps114
  go_wp2_with (go_at_call 115; refine hx.mono ?_; rintro e w' ⟨rfl, hw⟩; clear hx)
  go_ret
  exact ⟨rfl, hw⟩
theorem wr_U48 (w : World) (b : Nat) (W : WS) (n : Nat) (h : Wtr w b W) (hn : n < 18446744073709551616) :
    Calls Try.prog 124 #[.pointer (some ⟨b, 0, none⟩), .int .u64 n] w fun e w' => Put b W (W.res 6 n) (enc 6 n) w e w' := by
  have hx := wr_number w b W 6 n h (by decide) (by decide) hn
  go_enter Try.func124, Try.ntmps124
  go_wp2_with (go_at_call 115; refine hx.mono ?_; rintro e w' ⟨rfl, hw⟩; clear hx)
  go_ret
  exact ⟨rfl, hw⟩
theorem wr_U64 (w : World) (b : Nat) (W : WS) (n : Nat) (h : Wtr w b W) (hn : n < 18446744073709551616) :
    Calls Try.prog 112 #[.pointer (some ⟨b, 0, none⟩), .int .u64 n] w fun e w' => Put b W (W.res 8 n) (enc 8 n) w e w' := by
  have hx := wr_number w b W 8 n h (by decide) (by decide) hn
  go_enter Try.func112, Try.ntmps112
  go_wp2_with (go_at_call 115; refine hx.mono ?_; rintro e w' ⟨rfl, hw⟩; clear hx)
  go_ret
  exact ⟨rfl, hw⟩

theorem wr_New (w : World) (l : Nat) (hl : l ≤ 65536) : Calls Try.prog 30 #[.int .i64 l] w fun e w' => ∃ b, e = .returned (.tuple #[.pointer (some ⟨b, 0, none⟩), .int .i64 0]) ∧ ∃ m, Wtr w' b ⟨l, [], .slice none 0 0, m⟩ ∧ w.heap.size ≤ b ∧ w.heap.size ≤ m ∧ w'.heap[m]? = some (.map #[] 0) ∧ Below w.heap.size w w' := by
  have hmm := @run_makeMap Try.prog
  have h1 : ¬ (l : Int) < 0 := by omega
  have h2 : ¬ (65536 : Int) < l := by omega
  go_enter Try.func30, Try.ntmps30
  go_wp2
  go_ret2
  have hb := Blk.new (w.alloc (.map #[] 0)) 101 [.int .i64 l, .slice none 0 0, .map (some w.heap.size)]
  have hs : (w.alloc (.map #[] 0)).heap.size = w.heap.size + 1 := by simp
  rw [hs] at hb
  refine ⟨w.heap.size + 1, rfl, w.heap.size, ⟨hb, Dat.nil _, fun x hx => absurd hx (by simp), Nat.zero_le _, hl⟩, Nat.le_succ _, Nat.le_refl _, ?_, ((Below.refl _ _).alloc (Nat.le_refl _) _).alloc (by rw [hs]; exact Nat.le_succ _) _⟩
  rw [Below.heap_alloc _ _ _ (by rw [hs]; exact Nat.lt_succ_self _)]
  show (w.heap.push _)[w.heap.size]? = _
  simp
theorem wr_Out (w : World) (b : Nat) (W : WS) (h : Wtr w b W) : Calls Try.prog 32 #[.pointer (some ⟨b, 0, none⟩)] w fun e w' => ∃ v, e = .returned v ∧ Dat w' v W.xs ∧ Below w.heap.size w w' := by
  have hv := wr_valid w b W h
  have hcl := clone_is w W.v W.xs h.2.1.seg (by have := h.2.2.2; omega)
  have c1 := h.1.cell 1 (v := W.v) rfl
  go_enter Try.func32, Try.ntmps32
  go_wp2_with (first | (go_at_call 54; refine hv.mono ?_; rintro e w' ⟨rfl, hw⟩; obtain rfl := hw.symm) | (go_at_call 55; refine hcl.mono ?_; rintro e w1 ⟨v, rfl, hd, k⟩; clear hcl))
  go_ret
  exact ⟨v, rfl, hd, k⟩
theorem wr_Len (w : World) (b : Nat) (W : WS) (h : Wtr w b W) : Calls Try.prog 31 #[.pointer (some ⟨b, 0, none⟩)] w fun e w' => e = .returned (.int .i64 W.xs.length) ∧ w' = w := by
  have hv := wr_valid w b W h
  have c1 := h.1.cell 1 (v := W.v) rfl
  obtain ⟨a, c, hsl, -⟩ := h.2.1.seg
  rw [hsl] at c1
  go_enter Try.func31, Try.ntmps31
  go_wp2_with (go_at_call 54; refine hv.mono ?_; rintro e w' ⟨rfl, hw⟩; obtain rfl := hw.symm)
  go_ret
  exact ⟨rfl, rfl⟩
end Go.Proofs.Ytejcclcckgdbgaa
namespace Go.Proofs.Ytejcclcckgdbgaa
open Go.RowKit
set_option linter.unusedVariables false
set_option linter.unusedSimpArgs false
set_option maxRecDepth 100000

theorem Put.yes {b : Nat} {W : WS} {r : Int} {ys : List Int} {w w' : World} {e : Ending} (h : Put b W r ys w e w') (hr : r = 0) : e = .returned (.int .i64 0) ∧ ∃ v', Wtr w' b { W with xs := W.xs ++ ys, v := v' } ∧ ButW b W.v w w' ∧ (v'.ownBlock = W.v.ownBlock ∨ ∀ g, v'.ownBlock = some g → w.heap.size ≤ g) := by
  obtain ⟨he, ⟨h, -⟩ | ⟨-, h⟩⟩ := h
  · exact absurd hr h
  · exact ⟨hr ▸ he, h⟩
theorem Put.no {b : Nat} {W : WS} {r : Int} {ys : List Int} {w w' : World} {e : Ending} (h : Put b W r ys w e w') (hr : r ≠ 0) : e = .returned (.int .i64 r) ∧ w' = w := by
  obtain ⟨he, ⟨-, h⟩ | ⟨h, -⟩⟩ := h
  · exact ⟨he, h⟩
  · exact absurd h hr
theorem Wtr.below {w w' : World} {b : Nat} {W : WS} (h : Wtr w b W) (k : Below w.heap.size w w') : Wtr w' b W := ⟨h.1.below k h.1.lt, h.2.1.below k, h.2.2⟩
/-- Where the writer's own blocks lie. -/
def Own (B b : Nat) (v : Value) : Prop := B ≤ b ∧ ∀ g, v.ownBlock = some g → B ≤ g
theorem Own.next {B b : Nat} {v v' : Value} {w : World} (h : Own B b v) (hs : B ≤ w.heap.size) (o : v'.ownBlock = v.ownBlock ∨ ∀ g, v'.ownBlock = some g → w.heap.size ≤ g) : Own B b v' :=
  ⟨h.1, fun g hg => o.elim (fun e => h.2 g (e ▸ hg)) (fun f => Nat.le_trans hs (f g hg))⟩
theorem dat_string {w : World} {v : Value} {xs : List Int} (h : Dat w v xs) (h0 : xs ≠ []) : (convert 23 9 v).run Try.prog w = .ok (.string (strOfNums xs)) w := by
  rcases h.form with ⟨-, e⟩ | ⟨g, cap, cs, rfl, h1, h2, hb, h3, h4⟩
  · exact absurd e h0
  · exact run_convert_bytes_arg w _ _ Try.underlying23 Try.underlying5 g 0 _ _ xs rfl (fun i hi => hb.cell _ (by rw [Nat.zero_add]; exact take_at h4 i hi)) _ Try.underlying9
theorem seg_lit (w : World) (xs : List Int) : Seg (w.alloc (.cells (xs.map (Value.int .u8)).toArray 5)) (.slice (some ⟨w.heap.size, 0, none⟩) xs.length xs.length) xs :=
  ⟨_, _, rfl, Nat.le_refl _, fun i hi => ⟨w.heap.size, 0, rfl, (Blk.new w 5 (xs.map (Value.int .u8))).cell _ (by simp [List.getD_eq_getElem?_getD, hi])⟩⟩

end Go.Proofs.Ytejcclcckgdbgaa
