/- Helpers of the laws: a slice appended to another one; equality of slices. No condition. -/
import Derived.Test.YtailaenkmknpiaaVRm
import Derived.Test.YtailaenkmknpiaaWQb
import Derived.LoopTactic
import Derived.Laws.AppendOwnNone
namespace Go.Proofs.Ytailaenkmknpiaa
open Go.RowKit Go.Sort
set_option linter.unusedVariables false
set_option linter.unusedSimpArgs false
set_option maxRecDepth 100000

def pk (x : Int) (n : Nat) : Nat := (if x.tmod n < 0 then x.tmod n + n else x.tmod n).toNat
theorem pk_lt (x : Int) (n : Nat) (h : 0 < n) : pk x n < n := by
  have b1 := Int.tmod_lt_of_pos x (show (0 : Int) < n by omega)
  have b2 : -(n : Int) < x.tmod n := Int.lt_tmod_of_pos x (show (0 : Int) < n by omega)
  unfold pk
  split <;> omega
theorem pick_eq (x : Int) (n : Nat) (h0 : 0 < n) (h1 : n ≤ 4611686018427387904) (hx : -9223372036854775808 ≤ x ∧ x ≤ 9223372036854775807) (w : World) :
    Calls Try.prog 9 #[.int .i64 x, .int .i64 n] w fun e w' => e = .returned (.int .i64 (pk x n)) ∧ w' = w := by
  have hn : ¬ (n : Int) = 0 := by omega
  have hn' : ((n : Int) == 0) = false := by simpa using hn
  have b1 := Int.tmod_lt_of_pos x (show (0 : Int) < n by omega)
  have b2 : -(n : Int) < x.tmod n := Int.lt_tmod_of_pos x (show (0 : Int) < n by omega)
  by_cases hneg : x.tmod n < 0
  · have e : ((pk x n : Nat) : Int) = x.tmod n + n := by
      unfold pk
      rw [if_pos hneg, Int.toNat_of_nonneg (by omega)]
    rw [e]
    clear e
    go_enter Try.func9, Try.ntmps9
    go_wp2
    go_ret
    exact ⟨rfl, rfl⟩
  · have e : ((pk x n : Nat) : Int) = x.tmod n := by
      unfold pk
      rw [if_neg hneg, Int.toNat_of_nonneg (by omega)]
    rw [e]
    clear e
    go_enter Try.func9, Try.ntmps9
    go_wp2
    go_ret
    exact ⟨rfl, rfl⟩

/-- A slice of octets that lies from block B on. -/
def DatB (B : Nat) (w : World) (v : Value) (xs : List Int) : Prop := w.ownsRow B 5 1 v xs.length (xs.map (Value.int .u8))
theorem DatB.dat {B : Nat} {w : World} {v : Value} {xs : List Int} (h : DatB B w v xs) : Dat w v xs := World.ownsRow.mono h (Nat.zero_le _)
theorem append_dat (w : World) (ty : TypeId) (B : Nat) (v u : Value) (ys zs : List Int) (hv : DatB B w v ys) (hu : Dat w u zs) (hB : B ≤ w.heap.size) (hl : ys.length + zs.length ≤ 1099511627776) :
    ∃ v' w', (Builtin.append_ #[33, 33] ty #[v, u]).run Try.prog w = .ok v' w' ∧ DatB B w' v' (ys ++ zs) ∧ w.grownBy w' v.ownBlock := by
  obtain ⟨i, hi, hz, hs, hb⟩ := info_u8
  rcases hu.form with ⟨rfl, rfl⟩ | ⟨g, cap, cs, rfl, h1, h2, hg, h3, h4⟩
  · refine ⟨v, w, run_append_owned_none w B _ ty _ i 1 Try.underlying33 hi v _ _ hv, by rw [List.append_nil]; exact hv, ⟨rfl, rfl, rfl, Nat.le_refl _, fun _ _ _ => rfl⟩⟩
  · obtain ⟨v', w', hr, ho, hgr, -⟩ := run_append_own (P := Try.prog) w B 33 ty 5 i (.int .u8 0) 1 1 Try.underlying33 hi hz hs hb rfl (by decide) v ys.length _ hv ⟨g, 0, none⟩ zs.length cap (zs.map (Value.int .u8)) (by simp) (hu.cells (g := g) rfl) (by simp [Value.oneCell']) (by unfold maxLen; omega) (by omega) hB
    refine ⟨v', w', hr, ?_, hgr⟩
    unfold DatB
    rw [List.length_append, List.map_append]
    exact ho

theorem same_yes (w : World) (u v : Value) (xs : List Int) (hu : Seg w u xs) (hv : Seg w v xs) (hl : xs.length ≤ 1099511627776) :
    Calls Try.prog 22 #[u, v] w fun e w' => e = .returned (.bool true) ∧ Below w.heap.size w w' := by
  obtain ⟨a, c, rfl, -, hx⟩ := hu
  obtain ⟨a', c', rfl, -, hx'⟩ := hv
  go_enter Try.func22, Try.ntmps22
  go_wp2
  go_loopw [5] (fun vi wr => ∃ i : Nat, i ≤ xs.length ∧ vi = .int .i64 i ∧ Below w.heap.size w wr) (fun vi _ => xs.length - (intOf vi).toNat)
  case atStart => exact ⟨0, Nat.zero_le _, rfl, Below.refl _ _⟩
  case round =>
    obtain ⟨i, hi, rfl, hB⟩ := hrel
    by_cases hlt : i < xs.length
    · obtain ⟨g, o, rfl, hc⟩ := hx i hlt
      obtain ⟨g', o', rfl, hc'⟩ := hx' i hlt
      have k1 := (hB.cell (p := ⟨g, o + i, none⟩) (block_lt_of_cell hc)).trans hc
      have k2 := (hB.cell (p := ⟨g', o' + i, none⟩) (block_lt_of_cell hc')).trans hc'
      have hil : (i : Int) < xs.length := by omega
      generalize xs.getD i 0 = y at k1 k2
      clear hx hx' hc hc'
      go_wp2
      go_quiet (fail)
      go_wp2
      exact ⟨⟨i + 1, hlt, rfl, hB.trans (below_drewN _ _ _)⟩, by simp [intOf]; omega⟩
    · obtain rfl : i = xs.length := by omega
      clear hx hx'
      go_wp2
      go_ret
      exact ⟨rfl, hB⟩
end Go.Proofs.Ytailaenkmknpiaa
