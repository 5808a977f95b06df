/- Routes: their cells in memory. No condition. -/
import Derived.Test.YtejcclcckgdbgaaGa
import Derived.Deep.MidRow
import Derived.Laws.Tables
import Derived.Laws.Rows
namespace Go.Proofs.Ytejcclcckgdbgaa
open Go.RowKit Go.Sort
set_option linter.unusedVariables false
set_option linter.unusedSimpArgs false
set_option maxRecDepth 100000

/-- A route. -/
structure NL where
  k : Int
  rd : Int
  e : Nat → Int
  t : Int
  m : Int
  ip : Int
  h : Bool
  pi : Int
  pn : Int
  g : Int
  l : Int
  l2 : Int
def NL.cs (n : NL) : List Value := [.int .i64 n.k, .int .u64 n.rd, .int .u8 (n.e 0), .int .u8 (n.e 1), .int .u8 (n.e 2), .int .u8 (n.e 3), .int .u8 (n.e 4), .int .u8 (n.e 5), .int .u8 (n.e 6), .int .u8 (n.e 7), .int .u8 (n.e 8), .int .u8 (n.e 9), .int .u32 n.t, .int .u64 n.m, .int .u32 n.ip, .bool n.h, .int .u32 n.pi, .int .i64 n.pn, .int .u32 n.g, .int .u32 n.l, .int .u32 n.l2]
def NL.v (n : NL) : Value := .agg n.cs.toArray
theorem NL.cs_length (n : NL) : n.cs.length = 21 := rfl
theorem NL.size (n : NL) : (Try.prog.info? 36).map (·.size) = some n.cs.toArray.size := by
  have : (Try.prog.info? 36).map (·.size) = some 21 := by kernel_rfl
  exact this
theorem NL.one (n : NL) : n.cs.toArray.all (·.oneCell') = true := by
  simp [NL.cs, Value.oneCell']
/-- The block b is a route. -/
def Bx (w : World) (b : Nat) (n : NL) : Prop := Blk w b 36 n.cs
theorem Bx.lt {w : World} {b : Nat} {n : NL} (h : Bx w b n) : b < w.heap.size := Blk.lt h
theorem Bx.below {w w' : World} {B b : Nat} {n : NL} (h : Bx w b n) (k : Below B w w') (hb : b < B) : Bx w' b n := Blk.below h k hb
theorem Bx.new (w : World) (n : NL) : Bx (w.alloc (.cells n.cs.toArray 36)) w.heap.size n := Blk.new w _ _
theorem Bx.load {w : World} {b : Nat} {n : NL} (h : Bx w b n) : (loadVar 36 ⟨b, 0, none⟩).run Try.prog w = .ok n.v w :=
  run_loadVar_row w b _ _ _ _ _ h Try.underlying36 rfl n.size
theorem Bx.setRow {w : World} {b : Nat} {n : NL} (h : Bx w b n) (n' : NL) : Bx (w.setRow b n'.cs.toArray) b n' := setRow_heap w b _ _ _ _ h

/-- Cells that are laid side by side into a block. -/
def putAt (cs : List Value) (o : Nat) : List Value → List Value
  | [] => cs
  | v :: r => putAt (cs.set o v) (o + 1) r
theorem Blk.setCells {w : World} {b : Nat} {t : TypeId} : ∀ (vs : List Value) (o : Nat) {w : World} {cs : List Value}, Blk w b t cs → Blk (w.setCells b o vs) b t (putAt cs o vs)
  | [], _, _, _, h => h
  | v :: r, o, _, _, h => Blk.setCells (w := w) r (o + 1) (h.set o v)
theorem Blk.there {w : World} {b : Nat} {t : TypeId} {cs : List Value} (h : Blk w b t cs) (o n : Nat) (hn : o + n ≤ cs.length) : w.there b o n := fun j hj =>
  ⟨by rw [h.cell (o + j) (List.getElem?_eq_getElem (show o + j < cs.length by omega))]; rfl, h.frozen _⟩
theorem Below.setCells {B b : Nat} {w0 : World} (hb : B ≤ b) : ∀ (vs : List Value) (o : Nat) {w : World}, Below B w0 w → Below B w0 (w.setCells b o vs)
  | [], _, _, h => h
  | v :: r, o, _, h => Below.setCells hb r (o + 1) (h.setCell (p := ⟨b, o, none⟩) hb v)
end Go.Proofs.Ytejcclcckgdbgaa
