/- The four bytes of a number, one after the other: parts; the identifier of a segment. No condition. -/
import Derived.Test.YtipmfcbpkbkceaaDoorOct
namespace Go.Proofs.YtipmfcbpkbkceaaDoor
open Go.RowKit Go.Shelf
attribute [local go_sem] Oper.semAt_some
set_option linter.unusedVariables false

def fin4 (k : Nat) : Fin 4 := ⟨k % 4, Nat.mod_lt _ (by decide)⟩
theorem fin4_val {k : Nat} (h : k < 4) : (fin4 k).val = k := Nat.mod_eq_of_lt h
/-- Byte i of a number of four bytes, the most significant one first. -/
def byt (N : Int) (i : Nat) : Int := N / 2 ^ (8 * (3 - i)) % 256

/-- The blocks from lo on, below hi, are as they were. -/
def Mid (lo hi : Nat) (W W' : World) : Prop := ∀ b, lo ≤ b → b < hi → W'.heap[b]? = W.heap[b]?
theorem mid_t {lo hi : Nat} {A B C : World} (h : Mid lo hi A B) (k : Mid lo hi B C) : Mid lo hi A C := fun b h1 h2 => (k b h1 h2).trans (h b h1 h2)
theorem mid_b {lo hi : Nat} {w : World} (hn : hi ≤ w.heap.size) (W : World) (l : Nat) (o o' : Obj) (hl : w.heap.size ≤ l) (_ : W.heap[l]? = some o) (_ : o.isCells = false) (_ : o.isWalk = false) : Mid lo hi W (W.putObj l o') :=
  fun b _ h2 => World.putObj_heap_other (by omega)
theorem mid_refl (lo hi : Nat) (W : World) : Mid lo hi W W := fun _ _ _ => rfl
theorem mid_set {lo hi : Nat} (W : World) (a : Addr) (v : Value) (h : a.block < lo) : Mid lo hi W (W.setCell a v) := fun b h1 _ => Below.heap_setCell _ _ _ _ (by omega)
theorem mid_cell {lo hi : Nat} {W W' : World} (h : Mid lo hi W W') {b o : Nat} (h1 : lo ≤ b) (h2 : b < hi) : W'.cell? ⟨b, o, none⟩ = W.cell? ⟨b, o, none⟩ := World.cell?_of_block (w := W) (a := ⟨b, o, none⟩) (h b h1 h2)

end Go.Proofs.YtipmfcbpkbkceaaDoor
