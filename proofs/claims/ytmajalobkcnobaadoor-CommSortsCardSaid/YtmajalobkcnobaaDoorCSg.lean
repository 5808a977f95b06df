/- The library's sort of a list of communities. No condition. -/
import Derived.Test.YtmajalobkcnobaaDoorCSf
namespace Go.Proofs.YtmajalobkcnobaaDoor
open Go.RowKit Go.Sort Go.Shelf Go.Lib
set_option linter.unusedVariables false
set_option linter.unusedSimpArgs false
set_option maxRecDepth 100000

theorem cmp_neg : ∀ a b : List UInt8, Lib.compareBytes a b < 0 ↔ a < b
  | [], [] => by simp [Lib.compareBytes]
  | [], _ :: _ => by simp [Lib.compareBytes]
  | _ :: _, [] => by simp [Lib.compareBytes]
  | x :: a, y :: b => by
    rw [List.cons_lt_cons_iff]
    unfold Lib.compareBytes
    have ih := cmp_neg a b
    by_cases h1 : x < y
    · simp [h1]
    · by_cases h2 : y < x
      · have h3 : x ≠ y := fun h => by subst h; exact h1 h2
        simp [h1, h2, h3]
      · have h3 : x = y := by
          rw [UInt8.lt_iff_toNat_lt] at h1 h2
          exact UInt8.toNat_inj.1 (by omega)
        simp [h1, h2, h3, ih]
theorem lt_cmpC (x y : Nat → Int) : ltOf cmpC x y = ltStr (cb x) (cb y) := by
  unfold ltOf cmpC ltStr
  simp only [cmp_neg]
theorem swoC : SWO (ltOf cmpC) where
  irrefl x := by rw [lt_cmpC]; exact swo_ltStr.irrefl _
  trans x y z h1 h2 := by rw [lt_cmpC] at *; exact swo_ltStr.trans _ _ _ h1 h2
  ntrans x y z h1 h2 := by rw [lt_cmpC] at *; exact swo_ltStr.ntrans _ _ _ h1 h2

theorem sort_row (g cap : Nat) (d : Array (Nat → Int)) (w : World) (hH : HoldsK c8 8 w g 0 d) (hg : g < w.heap.size) (hsz : d.size < 4611686018427387904) :
    Calls Tryd.prog 57 #[.slice (some ⟨g, 0, none⟩) d.size cap, .func (.func 58) #[] #[]] w fun e w' => e = .returned (.tuple #[]) ∧ ∃ d' n os, PermIn 0 d.size d d' ∧ SortedIn (ltOf cmpC) 0 d.size d' ∧ w' = sortWorldK c8 8 w g 0 n d' os := by
  have eg : ∀ args w, (callFunc 58 args).run Tryd.prog w = .ok (.enter 58 args) w := enters_of Tryd.func58 (by kernel_rfl) rfl
  exact AnyQ.slices_SortFunc Tryd.sortC 8 (fun w => Tryd.isAgg24 w) (fun w => Tryd.sizeOf24 w) c8 (fun _ => rfl) (fun x v hv => c8_one x v hv) cmpC swoC 58 #[] g 0 cap d w eg (fun m os dk hs x y => closure x y _) hH hg hsz

theorem flat_get (d : Array (Nat → Int)) (i : Nat) (hi : i < d.size * 8) : (flatK c8 8 d)[i]? = (fl8 d.toList)[i]? := by
  have hs : i < (flatK c8 8 d).size := by simpa using hi
  have h8 : i / 8 < d.size := by omega
  have he : d.toList[i / 8]? = some d[i / 8]! := by
    rw [getElem!_pos d _ h8]
    simp [h8]
  have h1 := fl8_get d.toList (i / 8) (i % 8) _ he (by omega)
  rw [show i / 8 * 8 + i % 8 = i by omega] at h1
  rw [h1, Array.getElem?_eq_getElem hs, ← getElem!_pos _ i hs, get_flatK _ _ _ _ hi]
  have h9 : i % 8 < (c8 d[i / 8]!).length := by rw [c8_len]; omega
  rw [List.getElem?_eq_getElem h9, getElem!_pos (c8 d[i / 8]!) (i % 8) h9]
theorem NuC.holdsK {B : Nat} {w : World} {v : Value} {E : List (Nat → Int)} (h : NuC B w v E) : (v = .slice none 0 0 ∧ E = []) ∨ ∃ g cap cur, v = .slice (some ⟨g, 0, none⟩) E.toArray.size cap ∧ E.toArray.size ≤ cap ∧ cap ≤ maxLen ∧ B ≤ g ∧ g < w.heap.size ∧ w.heap[g]? = some (.cells cur 24 (0, 0)) ∧ cur.size = cap * 8 ∧ HoldsK c8 8 w g 0 E.toArray := by
  have hlt := World.ownsRow.lt h
  have hcl := fun g hg => World.ownsRow.cells h (g := g) hg
  obtain ⟨_, ⟨hv, hn⟩ | ⟨g, cap, cur, hv, hB, hg, h1, h2, h3, h4⟩⟩ := h
  · exact .inl ⟨hv, List.length_eq_zero_iff.1 hn⟩
  · refine .inr ⟨g, cap, cur, by simpa using hv, by simpa using h1, h2, hB, (hlt g (by rw [hv]; rfl)).2, hg, by simpa using h3, fun j hj => ⟨?_, ?_⟩⟩
    · have hj' : j < E.toArray.size * 8 := by simpa using hj
      have hf := flat_get E.toArray j hj'
      rw [Array.getElem?_eq_getElem hj] at hf
      have := hcl g (by rw [hv]; rfl) j _ (by simpa using hf.symm)
      rw [Addr.add_mid] at this
      rw [this, getElem!_pos _ j hj]
      rfl
    · unfold World.frozen?
      simp [hg]
theorem sorted_own {B : Nat} {w : World} {g cap n : Nat} {cur : Array Value} {d : Array (Nat → Int)} {os : Array Obj} (hB : B ≤ g) (hgw : g < w.heap.size) (hg : w.heap[g]? = some (.cells cur 24 (0, 0))) (hc : d.size ≤ cap) (hm : cap ≤ maxLen) (hs : cur.size = cap * 8) :
    NuC B (sortWorldK c8 8 w g 0 n d os) (.slice (some ⟨g, 0, none⟩) d.size cap) d.toList := by
  have hd : d.toList.length = d.size := by simp
  unfold NuC
  rw [hd]
  refine ⟨by rw [fl8_len, hd], .inr ⟨g, cap, putCells id 0 (flatK c8 8 d) cur, rfl, hB, ?_, hc, hm, ?_, ?_⟩⟩
  · unfold sortWorldK grow putRowK putRow mapBlock
    have hgm : g < ((Sort.ahead w n).heap.modify g (onCells (putCells id 0 (flatK c8 8 d)))).size := by simpa using hgw
    show ((Sort.ahead w n).heap.modify g (onCells (putCells id 0 (flatK c8 8 d))) ++ os)[g]? = _
    rw [Array.getElem?_append_left hgm, Array.getElem?_modify]
    simp [hg, onCells]
  · simpa [putCells] using hs
  · apply List.ext_getElem?
    intro i
    by_cases hi : i < d.size * 8
    · rw [List.getElem?_take_of_lt hi, ← flat_get d i hi]
      have hF : i < (flatK c8 8 d).size := by simpa using hi
      have hcs : i < cur.size := by rw [hs]; have := Nat.mul_le_mul_right 8 hc; omega
      rw [Array.getElem?_eq_getElem hF]
      have hp : i < (putCells id 0 (flatK c8 8 d) cur).toList.length := by simpa [putCells] using hcs
      rw [List.getElem?_eq_getElem hp]
      simp only [putCells, Array.getElem_toList, Array.getElem_mapIdx]
      rw [if_pos ⟨Nat.zero_le _, by rw [Nat.zero_add]; exact hF⟩, Nat.sub_zero, getElem!_pos _ i hF]
      rfl
    · rw [List.getElem?_eq_none (by rw [List.length_take]; omega), List.getElem?_eq_none (by rw [fl8_len, hd]; omega)]
theorem sorted_below {B : Nat} {w0 w : World} (h : Below B w0 w) {g : Nat} (hg : B ≤ g) (hBw : B ≤ w.heap.size) (n : Nat) (d : Array (Nat → Int)) (os : Array Obj) : Below B w0 (sortWorldK c8 8 w g 0 n d os) := by
  refine h.trans ⟨rfl, rfl, rfl, ?_, fun k hk => ?_⟩
  · unfold sortWorldK grow putRowK putRow mapBlock
    simp
  · have hne : ¬ g = k := by omega
    unfold sortWorldK grow putRowK putRow mapBlock
    show ((Sort.ahead w n).heap.modify g (onCells (putCells id 0 (flatK c8 8 d))) ++ os)[k]? = _
    rw [Array.getElem?_append_left (by simp; omega), Array.getElem?_modify, if_neg hne]
    rfl
end Go.Proofs.YtmajalobkcnobaaDoor
