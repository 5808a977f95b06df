/- WireFaults: the law returns true. No condition. -/
import Derived.Test.YtailaenkmknpiaaWQb
import Derived.LoopTactic
namespace Go.Proofs.Ytailaenkmknpiaa
open Go.RowKit Go.Sort
set_option linter.unusedVariables false
set_option linter.unusedSimpArgs false
set_option maxRecDepth 100000

def I64 (x : Int) : Prop := -9223372036854775808 ≤ x ∧ x ≤ 9223372036854775807
/-- A slice of pairs of ints. -/
def Prs (w : World) (v : Value) (m : Nat) (K N : Nat → Int) : Prop := ∃ a c, v = .slice a m c ∧ ∀ i, i < m → (∃ b o, a = some ⟨b, o, none⟩ ∧ w.cell? ⟨b, o + i * 2, none⟩ = some (.int .i64 (K i)) ∧ w.cell? ⟨b, o + i * 2 + 1, none⟩ = some (.int .i64 (N i))) ∧ I64 (K i) ∧ I64 (N i)

end Go.Proofs.Ytailaenkmknpiaa
