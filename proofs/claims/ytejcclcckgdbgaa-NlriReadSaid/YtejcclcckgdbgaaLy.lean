/- layoutOf: the map of the layouts, made anew, and what it holds. No condition. -/
import Derived.Test.YtejcclcckgdbgaaNK
import Derived.Maps.OwnSet
import Derived.Carry
namespace Go.Proofs.Ytejcclcckgdbgaa
open Go.RowKit Go.Sort
set_option linter.unusedVariables false
set_option linter.unusedSimpArgs false
set_option maxRecDepth 100000

theorem upd (w : World) (r : Nat) (es : Array MapEntry) (c : Nat) (x : Int) (val : Value) (hb : w.heap[r]? = some (.map es c)) (hf : Instr.findNow (.int .i64) (.int .i64 x) es.toList 0 = some none) :
    ∃ w', (Instr.mapUpdate 98 (.map (some r)) (.int .i64 x) val).run Try.prog w = .ok () w' ∧ w'.heap[r]? = some (.map (es.push { key := .int .i64 x, val := val, born := c }) (c + 1)) ∧ But w.heap.size r w w' := by
  have hlt : r < w.heap.size := by
    rcases Nat.lt_or_ge r w.heap.size with h | h
    · exact h
    · rw [Array.getElem?_eq_none h] at hb; cases hb
  refine ⟨{ w with heap := w.heap.setIfInBounds r (.map (es.push { key := .int .i64 x, val := val, born := c }) (c + 1)) }, ?_, by simp [hlt], ⟨rfl, rfl, rfl, by simp, fun k hk hn => by simp [Array.getElem?_setIfInBounds, Ne.symm hn]⟩⟩
  have hm := Try.underlying98
  have hi := Try.underlying3
  have hc : (Instr.checkKey false 10000 3 (.int .i64 x)).run Try.prog w = .ok () w := MapKept.run_checkKey (k := .int .i64 x) hi (by simp [MapKept.IsKey]) false 9999
  simp [Instr.mapUpdate, run_underlying hm, MapKept.run_getObj_map hb, hc, MapKept.run_findKey hi hf, MapKept.run_setObj_map _ hb, Result.andThen]

def entries : Array MapEntry := #[⟨.int .i64 1, .iface 93 (.agg #[]), 0⟩, ⟨.int .i64 2, .iface 94 (.agg #[]), 1⟩, ⟨.int .i64 3, .iface 95 (.agg #[]), 2⟩, ⟨.int .i64 4, .iface 96 (.agg #[]), 3⟩, ⟨.int .i64 5, .iface 97 (.agg #[]), 4⟩]
/-- The layout of a kind. -/
def lay (k : Int) : Option TypeId := if k = 1 then some 93 else if k = 2 then some 94 else if k = 3 then some 95 else if k = 4 then some 96 else if k = 5 then some 97 else none
def layV : Option TypeId → Value
  | some t => .tuple #[.iface t (.agg #[]), .bool true]
  | none => .tuple #[.nilIface, .bool false]
theorem look (w : World) (r : Nat) (x : Int) (hb : w.heap[r]? = some (.map entries 5)) :
    (Instr.lookup 98 (.map (some r)) (.int .i64 x) true).run Try.prog w = .ok (layV (lay x)) w := by
  have hm := Try.underlying98
  have hi := Try.underlying3
  have hc : (Instr.checkKey false 10000 3 (.int .i64 x)).run Try.prog w = .ok () w := MapKept.run_checkKey (k := .int .i64 x) hi (by simp [MapKept.IsKey]) false 9999
  have hz : (zeroValue 61).run Try.prog w = .ok .nilIface w := by kernel_rfl
  have key : ∀ a, Instr.findNow (.int .i64) (.int .i64 x) entries.toList 0 = some a → (match a with | some (_, v) => Value.tuple #[v, .bool true] | none => Value.tuple #[.nilIface, .bool false]) = layV (lay x) → (Instr.lookup 98 (.map (some r)) (.int .i64 x) true).run Try.prog w = .ok (layV (lay x)) w := by
    intro a ha h
    rw [← h]
    cases a with
    | none => simp [Instr.lookup, run_underlying hm, MapKept.run_getObj_map hb, MapKept.run_findKey hi ha, Result.andThen, hz, show entries.isEmpty = false from rfl, hc]
    | some p => simp [Instr.lookup, run_underlying hm, MapKept.run_getObj_map hb, MapKept.run_findKey hi ha, Result.andThen, hz, show entries.isEmpty = false from rfl, hc]
  by_cases h1 : x = 1
  · subst h1; exact key _ rfl rfl
  by_cases h2 : x = 2
  · subst h2; exact key _ rfl rfl
  by_cases h3 : x = 3
  · subst h3; exact key _ rfl rfl
  by_cases h4 : x = 4
  · subst h4; exact key _ rfl rfl
  by_cases h5 : x = 5
  · subst h5; exact key _ rfl rfl
  refine key none ?_ ?_
  · have b1 : (x == 1) = false := by simp [h1]
    have b2 : (x == 2) = false := by simp [h2]
    have b3 : (x == 3) = false := by simp [h3]
    have b4 : (x == 4) = false := by simp [h4]
    have b5 : (x == 5) = false := by simp [h5]
    simp [Instr.findNow, Instr.sameNow, entries, b1, b2, b3, b4, b5]
  · simp [lay, h1, h2, h3, h4, h5, layV]

theorem layout_is (k : Int) (w : World) :
    Calls Try.prog 29 #[.int .i64 k] w fun r w' => r = .returned (layV (lay k)) ∧ Below w.heap.size w w' := by
  have hmm := @run_makeMap Try.prog
  have hb0 : (w.alloc (.map #[] 0)).heap[w.heap.size]? = some (.map #[] 0) := by
    show (w.heap.push _)[w.heap.size]? = _
    simp
  have k0 : Below w.heap.size w (w.alloc (.map #[] 0)) := (Below.refl _ _).alloc (Nat.le_refl _) _
  obtain ⟨w1, hr1, hb1, d1⟩ := upd _ _ _ _ 1 (.iface 93 (.agg #[])) hb0 rfl
  have k1 := But.below k0 d1 (Nat.le_refl _) k0.size
  obtain ⟨w2, hr2, hb2, d2⟩ := upd _ _ _ _ 2 (.iface 94 (.agg #[])) hb1 rfl
  have k2 := But.below k1 d2 (Nat.le_refl _) k1.size
  obtain ⟨w3, hr3, hb3, d3⟩ := upd _ _ _ _ 3 (.iface 95 (.agg #[])) hb2 rfl
  have k3 := But.below k2 d3 (Nat.le_refl _) k2.size
  obtain ⟨w4, hr4, hb4, d4⟩ := upd _ _ _ _ 4 (.iface 96 (.agg #[])) hb3 rfl
  have k4 := But.below k3 d4 (Nat.le_refl _) k3.size
  obtain ⟨w5, hr5, hb5, d5⟩ := upd _ _ _ _ 5 (.iface 97 (.agg #[])) hb4 rfl
  have k5 := But.below k4 d5 (Nat.le_refl _) k4.size
  have hl := look w5 w.heap.size k hb5
  clear hb0 hb1 hb2 hb3 hb4 hb5 d1 d2 d3 d4 d5 k0 k1 k2 k3 k4
  generalize hL : lay k = L at hl ⊢
  clear hL
  go_enter Try.func29, Try.ntmps29
  cases L with
  | none =>
    unfold layV at hl ⊢
    go_wp2
    go_ret2
    exact ⟨rfl, k5⟩
  | some t =>
    unfold layV at hl ⊢
    go_wp2
    go_ret2
    exact ⟨rfl, k5⟩
end Go.Proofs.Ytejcclcckgdbgaa
