/- A slice of octets appended to another one. No condition. -/
import Derived.Test.YtejcclcckgdbgaaGa
import Derived.Test.YtejcclcckgdbgaaCRs
import Derived.Laws.AppendOwnNone
namespace Go.Proofs.Ytejcclcckgdbgaa
open Go.RowKit Go.Sort
set_option linter.unusedVariables false
set_option linter.unusedSimpArgs false
set_option maxRecDepth 100000

theorem if_true_prop {c : Bool} {p q : Prop} (hc : c = true) (h : p) : if c = true then p else q := by
  rw [if_pos hc]
  exact h
/-- A slice of octets that lies from block B on. -/
def DatB (B : Nat) (w : World) (v : Value) (xs : List Int) : Prop := w.ownsRow B 5 1 v xs.length (xs.map (Value.int .u8))
theorem DatB.dat {B : Nat} {w : World} {v : Value} {xs : List Int} (h : DatB B w v xs) : Dat w v xs := World.ownsRow.mono h (Nat.zero_le _)
theorem append_dat (w : World) (ty : TypeId) (B : Nat) (v u : Value) (ys zs : List Int) (hv : DatB B w v ys) (hu : Dat w u zs) (hB : B ≤ w.heap.size) (hl : ys.length + zs.length ≤ 1099511627776) :
    ∃ v' w', (Builtin.append_ #[23, 23] ty #[v, u]).run Try.prog w = .ok v' w' ∧ DatB B w' v' (ys ++ zs) ∧ w.grownBy w' v.ownBlock := by
  obtain ⟨i, hi, hz, hs, hb⟩ := info_u8
  rcases hu.form with ⟨rfl, rfl⟩ | ⟨g, cap, cs, rfl, h1, h2, hg, h3, h4⟩
  · refine ⟨v, w, run_append_owned_none w B _ ty _ i 1 Try.underlying23 hi v _ _ hv, by rw [List.append_nil]; exact hv, ⟨rfl, rfl, rfl, Nat.le_refl _, fun _ _ _ => rfl⟩⟩
  · obtain ⟨v', w', hr, ho, hgr, -⟩ := run_append_own (P := Try.prog) w B 23 ty 5 i (.int .u8 0) 1 1 Try.underlying23 hi hz hs hb rfl (by decide) v ys.length _ hv ⟨g, 0, none⟩ zs.length cap (zs.map (Value.int .u8)) (by simp) (hu.cells (g := g) rfl) (by simp [Value.oneCell']) (by unfold maxLen; omega) (by omega) hB
    refine ⟨v', w', hr, ?_, hgr⟩
    unfold DatB
    rw [List.length_append, List.map_append]
    exact ho

end Go.Proofs.Ytejcclcckgdbgaa
