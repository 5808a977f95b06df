/- The examples that every statement asks first: they hold. No condition. -/
import Derived.Test.YtgpjelcihmbiiaaWWn
import Derived.Laws.BytesArg
namespace Go.Proofs.Ytgpjelcihmbiiaa
open Go.RowKit
set_option linter.unusedVariables false
set_option linter.unusedSimpArgs false
set_option maxRecDepth 100000

theorem Put.yes {b : Nat} {W : WS} {r : Int} {ys : List Int} {w w' : World} {e : Ending} (h : Put b W r ys w e w') (hr : r = 0) : e = .returned (.int .i64 0) ∧ ∃ v', Wtr w' b { W with xs := W.xs ++ ys, v := v' } ∧ ButW b W.v w w' ∧ (v'.ownBlock = W.v.ownBlock ∨ ∀ g, v'.ownBlock = some g → w.heap.size ≤ g) := by
  obtain ⟨he, ⟨h, -⟩ | ⟨-, h⟩⟩ := h
  · exact absurd hr h
  · exact ⟨hr ▸ he, h⟩
theorem Put.no {b : Nat} {W : WS} {r : Int} {ys : List Int} {w w' : World} {e : Ending} (h : Put b W r ys w e w') (hr : r ≠ 0) : e = .returned (.int .i64 r) ∧ w' = w := by
  obtain ⟨he, ⟨-, h⟩ | ⟨h, -⟩⟩ := h
  · exact ⟨he, h⟩
  · exact absurd h hr
theorem Wtr.below {w w' : World} {b : Nat} {W : WS} (h : Wtr w b W) (k : Below w.heap.size w w') : Wtr w' b W := ⟨h.1.below k h.1.lt, h.2.1.below k, h.2.2⟩
/-- Where the writer's own blocks lie. -/
def Own (B b : Nat) (v : Value) : Prop := B ≤ b ∧ ∀ g, v.ownBlock = some g → B ≤ g
theorem Own.next {B b : Nat} {v v' : Value} {w : World} (h : Own B b v) (hs : B ≤ w.heap.size) (o : v'.ownBlock = v.ownBlock ∨ ∀ g, v'.ownBlock = some g → w.heap.size ≤ g) : Own B b v' :=
  ⟨h.1, fun g hg => o.elim (fun e => h.2 g (e ▸ hg)) (fun f => Nat.le_trans hs (f g hg))⟩
theorem dat_string {w : World} {v : Value} {xs : List Int} (h : Dat w v xs) (h0 : xs ≠ []) : (convert 23 9 v).run Try.prog w = .ok (.string (strOfNums xs)) w := by
  rcases h.form with ⟨-, e⟩ | ⟨g, cap, cs, rfl, h1, h2, hb, h3, h4⟩
  · exact absurd e h0
  · exact run_convert_bytes_arg w _ _ Try.underlying23 Try.underlying5 g 0 _ _ xs rfl (fun i hi => hb.cell _ (by rw [Nat.zero_add]; exact take_at h4 i hi)) _ Try.underlying9
theorem seg_lit (w : World) (xs : List Int) : Seg (w.alloc (.cells (xs.map (Value.int .u8)).toArray 5)) (.slice (some ⟨w.heap.size, 0, none⟩) xs.length xs.length) xs :=
  ⟨_, _, rfl, Nat.le_refl _, fun i hi => ⟨w.heap.size, 0, rfl, (Blk.new w 5 (xs.map (Value.int .u8))).cell _ (by simp [List.getD_eq_getElem?_getD, hi])⟩⟩

end Go.Proofs.Ytgpjelcihmbiiaa
