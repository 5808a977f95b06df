/- Words of this seat's proofs: objects in memory by their blocks; the octets of a slice. No condition. -/
import Derived.Test.YtgpjelcihmbiiaaRows
import Derived.Test.YtgpjelcihmbiiaaShelf
import Derived.WalkKit
import Derived.ProofKit
import Derived.OpenShut
import Derived.Handy
import Derived.Below
import Derived.Lib.Hide
import Derived.Lib.QuietBelow
import Derived.BigQuiet
import Derived.Deep.QuietTactic
import Derived.RegionTactic
import Derived.Laws.OwnMore
import Derived.Laws.StructEq
import Derived.Deep.Onto
namespace Go.Proofs.Ytgpjelcihmbiiaa
open Go.RowKit
set_option linter.unusedVariables false

/-- Block b is a row of these cells, of type t, none of them frozen. -/
def Blk (w : World) (b : Nat) (t : TypeId) (cs : List Value) : Prop := w.heap[b]? = some (.cells cs.toArray t (0, 0))
theorem Blk.lt {w : World} {b : Nat} {t : TypeId} {cs : List Value} (h : Blk w b t cs) : b < w.heap.size := by
  rcases Nat.lt_or_ge b w.heap.size with h' | h'
  · exact h'
  · unfold Blk at h
    rw [Array.getElem?_eq_none h'] at h
    cases h
theorem Blk.cell {w : World} {b : Nat} {t : TypeId} {cs : List Value} (h : Blk w b t cs) (o : Nat) {v : Value} (hv : cs[o]? = some v) : w.cell? ⟨b, o, none⟩ = some v := by
  unfold Blk at h
  simp [World.cell?, h, hv]
theorem Blk.frozen {w : World} {b : Nat} {t : TypeId} {cs : List Value} (h : Blk w b t cs) (o : Nat) : w.frozen? ⟨b, o, none⟩ = false := by
  unfold Blk at h
  simp [World.frozen?, h]
theorem Blk.set {w : World} {b : Nat} {t : TypeId} {cs : List Value} (h : Blk w b t cs) (o : Nat) (v : Value) : Blk (w.setCell ⟨b, o, none⟩ v) b t (cs.set o v) := by
  unfold Blk at h ⊢
  simp [World.setCell, Array.getElem?_modify, h]
theorem Blk.set_other {w : World} {b c : Nat} {t : TypeId} {cs : List Value} (h : Blk w b t cs) (o : Nat) (v : Value) (hc : c ≠ b) : Blk (w.setCell ⟨c, o, none⟩ v) b t cs := by
  unfold Blk at h ⊢
  rw [← h]
  exact Below.heap_setCell w ⟨c, o, none⟩ v b (fun e => hc e.symm)
theorem Blk.new (w : World) (t : TypeId) (cs : List Value) : Blk (w.alloc (.cells cs.toArray t)) w.heap.size t cs := by
  unfold Blk
  show (w.heap.push _)[w.heap.size]? = _
  simp
theorem Blk.drew {w : World} {b : Nat} {t : TypeId} {cs : List Value} (h : Blk w b t cs) : Blk w.drew b t cs := h
theorem Blk.below {w w' : World} {B b : Nat} {t : TypeId} {cs : List Value} (h : Blk w b t cs) (k : Below B w w') (hb : b < B) : Blk w' b t cs := (k.block b hb).trans h
theorem Blk.ne {w : World} {b c : Nat} {t u : TypeId} {cs ds : List Value} (h : Blk w b t cs) (k : Blk w c u ds) (ht : t ≠ u) : b ≠ c := by
  rintro rfl
  unfold Blk at h k
  rw [h] at k
  injection k with k
  injection k with k1 k2
  exact ht k2

/-- All blocks below B but block b are as they were. -/
structure But (B b : Nat) (w w' : World) : Prop where
  os : w'.os = w.os
  tape : w'.tape = w.tape
  output : w'.output = w.output
  size : w.heap.size ≤ w'.heap.size
  block : ∀ k, k < B → k ≠ b → w'.heap[k]? = w.heap[k]?
theorem But.of_below {B b : Nat} {w w' : World} (h : Below B w w') : But B b w w' := ⟨h.os, h.tape, h.output, h.size, fun k hk _ => h.block k hk⟩
theorem But.refl (B b : Nat) (w : World) : But B b w w := .of_below (Below.refl _ _)
theorem But.mono {B B' b : Nat} {w w' : World} (h : But B b w w') (hB : B' ≤ B) : But B' b w w' := ⟨h.os, h.tape, h.output, h.size, fun k hk hn => h.block k (Nat.lt_of_lt_of_le hk hB) hn⟩
theorem But.trans {B b : Nat} {x y z : World} (h : But B b x y) (k : But B b y z) : But B b x z :=
  ⟨k.os.trans h.os, k.tape.trans h.tape, k.output.trans h.output, Nat.le_trans h.size k.size, fun i hi hn => (k.block i hi hn).trans (h.block i hi hn)⟩
/-- One call behind the other: each says it of its own first world. -/
theorem But.then {b : Nat} {x y z : World} (h : But x.heap.size b x y) (k : But y.heap.size b y z) : But x.heap.size b x z := h.trans (k.mono h.size)
theorem But.drew {B b : Nat} {x w : World} (h : But B b x w) : But B b x w.drew := ⟨h.os, h.tape, h.output, h.size, h.block⟩
theorem But.setCell {B b : Nat} {x w : World} (h : But B b x w) (o : Nat) (u : Value) : But B b x (w.setCell ⟨b, o, none⟩ u) :=
  h.trans ⟨rfl, rfl, rfl, by simp [World.setCell], fun k hk hn => Below.heap_setCell _ _ _ _ hn⟩
theorem But.alloc {B b : Nat} {x w : World} (h : But B b x w) (hB : B ≤ w.heap.size) (o : Obj) : But B b x (w.alloc o) :=
  h.trans (.of_below ((Below.refl B w).alloc hB o))
theorem But.blk {B b c : Nat} {w w' : World} {t : TypeId} {cs : List Value} (k : But B b w w') (h : Blk w c t cs) (hc : c < B) (hn : c ≠ b) : Blk w' c t cs := (k.block c hc hn).trans h
/-- Nothing that was there before the law began. -/
theorem But.below {B b : Nat} {w0 w w' : World} (h0 : Below B w0 w) (k : But w.heap.size b w w') (hb : B ≤ b) (hs : B ≤ w.heap.size) : Below B w0 w' :=
  h0.trans ⟨k.os, k.tape, k.output, k.size, fun i hi => k.block i (by omega) (by omega)⟩

/-- Octets. -/
def Oct (xs : List Int) : Prop := ∀ x ∈ xs, 0 ≤ x ∧ x < 256
theorem Oct.getD {xs : List Int} (h : Oct xs) (i : Nat) : 0 ≤ xs.getD i 0 ∧ xs.getD i 0 < 256 := by
  by_cases hi : i < xs.length
  · have e : xs.getD i 0 = xs[i] := by simp [List.getD_eq_getElem?_getD, hi]
    rw [e]
    exact h _ (List.getElem_mem hi)
  · have e : xs.getD i 0 = 0 := by simp [List.getD_eq_getElem?_getD, Nat.le_of_not_lt hi]
    rw [e]
    decide
theorem Oct.take {xs : List Int} (h : Oct xs) (n : Nat) : Oct (xs.take n) := fun x hx => h x (List.mem_of_mem_take hx)
theorem Oct.drop {xs : List Int} (h : Oct xs) (n : Nat) : Oct (xs.drop n) := fun x hx => h x (List.mem_of_mem_drop hx)

/-- The slice v reads as xs, wherever it lies. -/
def Seg (w : World) (v : Value) (xs : List Int) : Prop := ∃ a c, v = .slice a xs.length c ∧ xs.length ≤ c ∧ ∀ i, i < xs.length → ∃ b o, a = some ⟨b, o, none⟩ ∧ w.cell? ⟨b, o + i, none⟩ = some (.int .u8 (xs.getD i 0))
theorem Seg.below {w w' : World} {v : Value} {xs : List Int} (h : Seg w v xs) (k : Below w.heap.size w w') : Seg w' v xs := by
  obtain ⟨a, c, rfl, hc, hx⟩ := h
  refine ⟨a, c, rfl, hc, fun i hi => ?_⟩
  obtain ⟨b, o, e, hcell⟩ := hx i hi
  exact ⟨b, o, e, (k.cell (p := ⟨b, o + i, none⟩) (block_lt_of_cell hcell)).trans hcell⟩
theorem Seg.nil (w : World) : Seg w (.slice none 0 0) [] := ⟨none, 0, rfl, Nat.le_refl _, fun i hi => absurd hi (Nat.not_lt_zero _)⟩

/-- A slice of octets in a block of its own. -/
def Dat (w : World) (v : Value) (xs : List Int) : Prop := w.ownsRow 0 5 1 v xs.length (xs.map (Value.int .u8))
theorem Dat.nil (w : World) : Dat w (.slice none 0 0) [] := World.ownsRow_nil w _ _ _
/-- What a value of a slice says of its block. -/
theorem Dat.form {w : World} {v : Value} {xs : List Int} (h : Dat w v xs) : (v = .slice none 0 0 ∧ xs = []) ∨ ∃ g cap cs, v = .slice (some ⟨g, 0, none⟩) xs.length cap ∧ xs.length ≤ cap ∧ cap ≤ maxLen ∧ Blk w g 5 cs ∧ cs.length = cap ∧ cs.take xs.length = xs.map (Value.int .u8) := by
  obtain ⟨_, ⟨hv, hn⟩ | ⟨g, cap, cur, hv, _, hg, h1, h2, h3, h4⟩⟩ := h
  · exact .inl ⟨hv, List.length_eq_zero_iff.1 hn⟩
  · exact .inr ⟨g, cap, cur.toList, hv, h1, h2, by unfold Blk; simpa using hg, by simpa using h3, by simpa using h4⟩
theorem Dat.mk {w : World} {xs : List Int} {g cap : Nat} {cs : List Value} (h1 : xs.length ≤ cap) (h2 : cap ≤ maxLen) (hb : Blk w g 5 cs) (h3 : cs.length = cap) (h4 : cs.take xs.length = xs.map (Value.int .u8)) : Dat w (.slice (some ⟨g, 0, none⟩) xs.length cap) xs :=
  ⟨by simp, .inr ⟨g, cap, cs.toArray, rfl, Nat.zero_le _, hb, h1, h2, by simpa using h3, by simpa using h4⟩⟩
theorem Dat.below {w w' : World} {v : Value} {xs : List Int} (h : Dat w v xs) (k : Below w.heap.size w w') : Dat w' v xs := by
  rcases h.form with ⟨rfl, rfl⟩ | ⟨g, cap, cs, rfl, h1, h2, hb, h3, h4⟩
  · exact Dat.nil _
  · exact Dat.mk h1 h2 (hb.below k hb.lt) h3 h4
/-- It lies in no block of another type. -/
theorem Dat.but {w w' : World} {v : Value} {xs : List Int} {b : Nat} {t : TypeId} {cs : List Value} (h : Dat w v xs) (k : But w.heap.size b w w') (hb : Blk w b t cs) (ht : t ≠ 5) : Dat w' v xs := by
  rcases h.form with ⟨rfl, rfl⟩ | ⟨g, cap, ds, rfl, h1, h2, hg, h3, h4⟩
  · exact Dat.nil _
  · exact Dat.mk h1 h2 (k.blk hg hg.lt (fun e => hb.ne hg ht e.symm)) h3 h4
theorem Dat.set {w : World} {v : Value} {xs : List Int} {b : Nat} {t : TypeId} {cs : List Value} (h : Dat w v xs) (hb : Blk w b t cs) (ht : t ≠ 5) (o : Nat) (u : Value) : Dat (w.setCell ⟨b, o, none⟩ u) v xs :=
  h.but ((But.refl w.heap.size b w).setCell o u) hb ht
/-- The octets from the i-th on, n of them, as a slice of it reads. -/
theorem take_at {cs : List Value} {xs : List Int} (h : cs.take xs.length = xs.map (Value.int .u8)) (i : Nat) (hi : i < xs.length) : cs[i]? = some (.int .u8 (xs.getD i 0)) := by
  have e : (cs.take xs.length)[i]? = (xs.map (Value.int .u8))[i]? := by rw [h]
  rw [List.getElem?_take_of_lt hi, List.getElem?_map] at e
  rw [e]
  simp [List.getD_eq_getElem?_getD, hi]
theorem Dat.seg {w : World} {v : Value} {xs : List Int} (h : Dat w v xs) : Seg w v xs := by
  rcases h.form with ⟨rfl, rfl⟩ | ⟨g, cap, cs, rfl, h1, h2, hb, h3, h4⟩
  · exact Seg.nil _
  · exact ⟨_, _, rfl, h1, fun i hi => ⟨g, 0, rfl, hb.cell _ (by rw [Nat.zero_add]; exact take_at h4 i hi)⟩⟩
end Go.Proofs.Ytgpjelcihmbiiaa
