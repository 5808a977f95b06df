/- The text in lower case. No condition. -/
import Derived.Test.YtipmfcbpkbkceaaDoorTxt
import Derived.Laws.IdiomStrings
import Derived.Laws.BytesArg
import Derived.OwnWalk
namespace Go.Proofs.YtipmfcbpkbkceaaDoor
open Go.RowKit Go.Shelf Go.Sort
set_option linter.unusedVariables false
set_option linter.unusedSimpArgs false
set_option maxRecDepth 100000
def lowI (x : Int) : Int := if 65 ≤ x ∧ x ≤ 90 then x + 32 else x
def lowStr (s : List UInt8) : ByteArray := strOfNums (s.map fun b => lowI (b.toNat : Int))
theorem conv_is (s : List UInt8) (w : World) : ∃ cap W1, (convert 9 58 (.string ⟨s.toArray⟩)).run Tryd.prog w = .ok (.slice (some ⟨w.heap.size, 0, none⟩) s.length cap) W1 ∧
    (∀ j, j < s.length → W1.cell? ⟨w.heap.size, j, none⟩ = some (.int .u8 ((s.getD j 0).toNat : Int)) ∧ W1.frozen? ⟨w.heap.size, j, none⟩ = false) ∧ Below w.heap.size w W1 := by
  have hr := run_bytes_of_string (P := Tryd.prog) w 9 58 5 ⟨s.toArray⟩ Tryd.underlying9 Tryd.underlying58 Tryd.underlying5
  have hz : (ByteArray.mk s.toArray).size = s.length := by simp [ByteArray.size]
  rw [hz] at hr
  refine ⟨_, _, hr, fun j hj => ?_, ⟨rfl, rfl, rfl, by simp, fun k hk => by
    show (w.heap.push _)[k]? = _
    rw [Array.getElem?_push]
    rw [if_neg (by omega)]⟩⟩
  have hb := bytesRow_at ⟨s.toArray⟩ (grownCap w s.length 0 5) j (by simpa using hj)
  have hsz : s.length ≤ (bytesRow ⟨s.toArray⟩ (grownCap w s.length 0 5)).size := by simp [bytesRow]
  have hh : (w.drew.alloc (.cells (bytesRow ⟨s.toArray⟩ (grownCap w s.length 0 5)) 5 ((bytesRow ⟨s.toArray⟩ (grownCap w s.length 0 5)).size, (bytesRow ⟨s.toArray⟩ (grownCap w s.length 0 5)).size + 1))).heap[w.heap.size]? = some (.cells (bytesRow ⟨s.toArray⟩ (grownCap w s.length 0 5)) 5 ((bytesRow ⟨s.toArray⟩ (grownCap w s.length 0 5)).size, (bytesRow ⟨s.toArray⟩ (grownCap w s.length 0 5)).size + 1)) := by
    show (w.heap.push _)[w.heap.size]? = _
    simp
  constructor
  · unfold World.cell?
    rw [hh]
    simp only
    rw [hb]
    simp [List.getD_eq_getElem?_getD, hj]
  · unfold World.frozen?
    rw [hh]
    simp
    try omega
/-- The class of the loop. -/
def Lw (w0 : World) (R n : Nat) (e : Nat → Int) (i : Nat) (wr : World) : Prop := (∀ j, j < n → wr.cell? ⟨R, j, none⟩ = some (.int .u8 (if j < i then lowI (e j) else e j)) ∧ wr.frozen? ⟨R, j, none⟩ = false) ∧ Below w0.heap.size w0 wr
theorem Lw.at {w0 wr : World} {R n i : Nat} {e : Nat → Int} (h : Lw w0 R n e i wr) (hi : i < n) : wr.cell? ⟨R, i, none⟩ = some (.int .u8 (e i)) ∧ wr.frozen? ⟨R, i, none⟩ = false := by
  obtain ⟨c, f⟩ := h.1 i hi
  rw [if_neg (Nat.lt_irrefl _)] at c
  exact ⟨c, f⟩
theorem Lw.same {w0 wr : World} {R n i : Nat} {e : Nat → Int} (h : Lw w0 R n e i wr) (hx : ¬ (65 ≤ e i ∧ e i ≤ 90)) : Lw w0 R n e (i + 1) wr := ⟨fun j hj => by
  obtain ⟨c, f⟩ := h.1 j hj
  refine ⟨?_, f⟩
  rw [c]
  by_cases h1 : j < i
  · rw [if_pos h1, if_pos (by omega)]
  · by_cases h2 : j = i
    · subst h2
      rw [if_neg h1, if_pos (by omega)]
      unfold lowI
      rw [if_neg hx]
    · rw [if_neg h1, if_neg (by omega)], h.2⟩
theorem Lw.set {w0 wr : World} {n i : Nat} {e : Nat → Int} (h : Lw w0 w0.heap.size n e i wr) (hi : i < n) (hx : 65 ≤ e i ∧ e i ≤ 90) : Lw w0 w0.heap.size n e (i + 1) (wr.setCell ⟨w0.heap.size, i, none⟩ (.int .u8 (e i + 32))) := by
  refine ⟨fun j hj => ⟨?_, by rw [World.frozen?_setCell]; exact (h.1 j hj).2⟩, h.2.setCell (p := ⟨w0.heap.size, i, none⟩) (Nat.le_refl _) _⟩
  by_cases h2 : j = i
  · subst h2
    rw [World.cell?_setCell_same' _ _ _ (by rw [(h.1 j hj).1]; rfl), if_pos (by omega)]
    unfold lowI
    rw [if_pos hx]
  · rw [World.cell?_setCell_other _ _ _ _ (fun q => h2 (congrArg Addr.off q).symm), (h.1 j hj).1]
    by_cases h1 : j < i
    · rw [if_pos h1, if_pos (by omega)]
    · rw [if_neg h1, if_neg (by omega)]
set_option maxHeartbeats 2000000 in
theorem lowerText_is (s : List UInt8) (hs : s.length ≤ 200) (w : World) :
    Calls Tryd.prog 14 #[.string ⟨s.toArray⟩] w fun e w' => e = .returned (.string (lowStr s)) ∧ Below w.heap.size w w' := by
  obtain ⟨cap, W1, hr, hc, hB⟩ := conv_is s w
  obtain ⟨e, he⟩ : ∃ e : Nat → Int, e = fun j => ((s.getD j 0).toNat : Int) := ⟨_, rfl⟩
  have H0 : Lw w w.heap.size s.length e 0 W1 := ⟨fun j hj => by rw [if_neg (Nat.not_lt_zero _), he]; exact hc j hj, hB⟩
  have hb : ∀ j, 0 ≤ e j ∧ e j < 256 := fun j => by
    rw [he]
    have := (s.getD j 0).toNat_lt
    dsimp only
    omega
  have hlow : strOfNums ((List.range s.length).map fun j => lowI (e j)) = lowStr s := by
    unfold lowStr
    congr 1
    apply List.ext_getElem
    · simp
    · intro j h1 h2
      have h3 : j < s.length := by simpa using h2
      simp [he, List.getD_eq_getElem?_getD, h3]
  obtain ⟨n, hn⟩ : ∃ n, n = s.length := ⟨_, rfl⟩
  rw [← hlow]
  clear hlow he hc hB
  go_enter Tryd.func14, Tryd.ntmps14
  go_wp2
  go_loopw [4] (fun vi wr => ∃ i : Nat, i ≤ s.length ∧ vi = .int .i64 i ∧ Lw w w.heap.size s.length e i wr) (fun vi _ => s.length - (intOf vi).toNat)
  case atStart => exact ⟨0, Nat.zero_le _, rfl, H0⟩
  case round =>
    obtain ⟨i, hi, rfl, H⟩ := hrel
    clear hr H0
    by_cases hlt : i < s.length
    · have hil : (i : Int) < s.length := by omega
      obtain ⟨c, fz⟩ := H.at hlt
      obtain ⟨hx0, hx⟩ := hb i
      by_cases h1 : 65 ≤ e i ∧ e i ≤ 90
      · have N := H.set hlt h1
        obtain ⟨g1, g2⟩ := h1
        go_wp2
        exact ⟨⟨i + 1, hlt, rfl, N⟩, by simp [intOf]; omega⟩
      · have N := H.same h1
        by_cases g1 : 65 ≤ e i
        · have g2 : ¬ e i ≤ 90 := fun g => h1 ⟨g1, g⟩
          clear h1
          go_wp2
          exact ⟨⟨i + 1, hlt, rfl, N⟩, by simp [intOf]; omega⟩
        · clear h1
          go_wp2
          exact ⟨⟨i + 1, hlt, rfl, N⟩, by simp [intOf]; omega⟩
    · obtain rfl : i = s.length := by omega
      have hcv := run_convert_bytes_arg (P := Tryd.prog) wr 58 5 Tryd.underlying58 Tryd.underlying5 w.heap.size 0 s.length cap ((List.range s.length).map fun j => lowI (e j)) (by simp) (fun j hj => by
        have hj' : j < s.length := by simpa using hj
        rw [Nat.zero_add, (H.1 j hj').1, if_pos hj']
        simp [hj']) 9 Tryd.underlying9
      go_wp2
      go_ret
      exact ⟨rfl, H.2⟩
end Go.Proofs.YtipmfcbpkbkceaaDoor
