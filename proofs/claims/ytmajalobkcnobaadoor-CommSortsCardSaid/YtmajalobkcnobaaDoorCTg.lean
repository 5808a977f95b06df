/- Lists of communities and of numbers; the targets of a list. No condition but the sort's. -/
import Derived.Test.YtmajalobkcnobaaDoorCCt
import Derived.Test.YtmajalobkcnobaaDoorCIs
import Derived.Deep.MidRow
import Derived.Laws.AppendOwn
namespace Go.Proofs.YtmajalobkcnobaaDoor
open Go.RowKit Go.Sort
set_option linter.unusedVariables false
set_option linter.unusedSimpArgs false
set_option maxRecDepth 100000

/-- The slice v reads as these communities, wherever it lies. -/
def CSeg (w : World) (v : Value) (E : List (Nat → Int)) : Prop := ∃ a c, v = .slice a E.length c ∧ E.length ≤ c ∧ ∀ i e, E[i]? = some e → ∃ b o, a = some ⟨b, o, none⟩ ∧ b < w.heap.size ∧ w.rangeAt b (o + i * 8) [.int .u8 (e 0), .int .u8 (e 1), .int .u8 (e 2), .int .u8 (e 3), .int .u8 (e 4), .int .u8 (e 5), .int .u8 (e 6), .int .u8 (e 7)]
theorem CSeg.below {w w' : World} {v : Value} {E : List (Nat → Int)} (h : CSeg w v E) (k : Below w.heap.size w w') : CSeg w' v E := by
  obtain ⟨a, c, rfl, hc, hx⟩ := h
  refine ⟨a, c, rfl, hc, fun i e hi => ?_⟩
  obtain ⟨b, o, ha, hb, hr⟩ := hx i e hi
  exact ⟨b, o, ha, Nat.lt_of_lt_of_le hb k.size, fun j v hv => (k.cell (p := ⟨b, o + i * 8 + j, none⟩) hb).trans (hr j v hv)⟩
/-- .. as these numbers. -/
def USeg (w : World) (v : Value) (xs : List Int) : Prop := ∃ a c, v = .slice a xs.length c ∧ xs.length ≤ c ∧ ∀ i, i < xs.length → ∃ b o, a = some ⟨b, o, none⟩ ∧ b < w.heap.size ∧ w.cell? ⟨b, o + i, none⟩ = some (.int .u32 (xs.getD i 0))
theorem USeg.below {w w' : World} {v : Value} {xs : List Int} (h : USeg w v xs) (k : Below w.heap.size w w') : USeg w' v xs := by
  obtain ⟨a, c, rfl, hc, hx⟩ := h
  refine ⟨a, c, rfl, hc, fun i hi => ?_⟩
  obtain ⟨b, o, ha, hb, hr⟩ := hx i hi
  exact ⟨b, o, ha, Nat.lt_of_lt_of_le hb k.size, (k.cell (p := ⟨b, o + i, none⟩) hb).trans hr⟩

/-- A slice of numbers in a block of its own, from B on. -/
def Nu (B : Nat) (w : World) (v : Value) (xs : List Int) : Prop := w.ownsRow B 28 1 v xs.length (xs.map (Value.int .u32))
theorem Nu.nil (B : Nat) (w : World) : Nu B w (.slice none 0 0) [] := World.ownsRow_nil w _ _ _
theorem Nu.form {B : Nat} {w : World} {v : Value} {xs : List Int} (h : Nu B w v xs) : (v = .slice none 0 0 ∧ xs = []) ∨ ∃ g cap cs, v = .slice (some ⟨g, 0, none⟩) xs.length cap ∧ xs.length ≤ cap ∧ cap ≤ maxLen ∧ B ≤ g ∧ Blk w g 28 cs ∧ cs.length = cap ∧ cs.take xs.length = xs.map (Value.int .u32) := by
  obtain ⟨_, ⟨hv, hn⟩ | ⟨g, cap, cur, hv, hB, hg, h1, h2, h3, h4⟩⟩ := h
  · exact .inl ⟨hv, List.length_eq_zero_iff.1 hn⟩
  · exact .inr ⟨g, cap, cur.toList, hv, h1, h2, hB, by unfold Blk; simpa using hg, by simpa using h3, by simpa using h4⟩
theorem Nu.mk {B : Nat} {w : World} {xs : List Int} {g cap : Nat} {cs : List Value} (h1 : xs.length ≤ cap) (h2 : cap ≤ maxLen) (hB : B ≤ g) (hb : Blk w g 28 cs) (h3 : cs.length = cap) (h4 : cs.take xs.length = xs.map (Value.int .u32)) : Nu B w (.slice (some ⟨g, 0, none⟩) xs.length cap) xs :=
  ⟨by simp, .inr ⟨g, cap, cs.toArray, rfl, hB, hb, h1, h2, by simpa using h3, by simpa using h4⟩⟩
theorem Nu.below {B : Nat} {w w' : World} {v : Value} {xs : List Int} (h : Nu B w v xs) (k : Below w.heap.size w w') : Nu B w' v xs := by
  rcases h.form with ⟨rfl, rfl⟩ | ⟨g, cap, cs, rfl, h1, h2, hB, hb, h3, h4⟩
  · exact Nu.nil _ _
  · exact Nu.mk h1 h2 hB (hb.below k hb.lt) h3 h4
theorem Nu.holds {B : Nat} {w : World} {v : Value} {xs : List Int} (h : Nu B w v xs) : (v = .slice none 0 0 ∧ xs = []) ∨ ∃ g cap, v = .slice (some ⟨g, 0, none⟩) xs.toArray.size cap ∧ xs.toArray.size ≤ cap ∧ B ≤ g ∧ g < w.heap.size ∧ Holds (Value.int .u32) w g 0 xs.toArray := by
  rcases h.form with ⟨rfl, rfl⟩ | ⟨g, cap, cs, rfl, h1, h2, hB, hb, h3, h4⟩
  · exact .inl ⟨rfl, rfl⟩
  · refine .inr ⟨g, cap, by simp, by simpa using h1, hB, hb.lt, fun j hj => ⟨?_, hb.frozen _⟩⟩
    have hj' : j < xs.length := by simpa using hj
    refine hb.cell _ ?_
    have e : (cs.take xs.length)[j]? = (xs.map (Value.int .u32))[j]? := by rw [h4]
    rw [List.getElem?_take_of_lt hj', List.getElem?_map] at e
    rw [Nat.zero_add, e]
    simp [hj']

/-- The number of a target of the fabric. -/
def isT (e : Nat → Int) : Bool := decide (kd (e 0) (e 1) = 1) && decide (ct e 6 / 4294967296 = 65000)
def nums (E : List (Nat → Int)) : List Int := (E.filter isT).map fun e => ct e 6 % 4294967296
theorem nums_le (E : List (Nat → Int)) : (nums E).length ≤ E.length := by
  unfold nums
  rw [List.length_map]
  exact List.length_filter_le _ _
theorem nums_snoc (E : List (Nat → Int)) (e : Nat → Int) : nums (E ++ [e]) = nums E ++ (if isT e = true then [ct e 6 % 4294967296] else []) := by
  unfold nums
  rw [List.filter_append, List.map_append]
  congr 1
  cases h : isT e <;> simp [h]
theorem ctake_step (E : List (Nat → Int)) (i : Nat) (e : Nat → Int) (h : E[i]? = some e) : E.take (i + 1) = E.take i ++ [e] := by
  rw [List.take_add_one, h]
  rfl

/-- What the sort makes of a row. -/
def Srt (d d' : Array Int) : Prop := d'.size = d.size ∧ d'.toList.Perm d.toList ∧ d'.toList.Pairwise (· ≤ ·)
def SortOK (N : Nat) : Prop := ∀ (blk cap : Nat) (d : Array Int) (w : World), Holds (Value.int .u32) w blk 0 d → d.size ≤ N →
  Calls Tryd.prog 71 #[.slice (some ⟨blk, 0, none⟩) d.size cap] w fun e w' => e = .returned (.tuple #[]) ∧ ∃ n d', Srt d d' ∧ w' = putRow (Value.int .u32) (Sort.ahead w n) blk 0 d'

theorem info_u32 : ∃ i, Tryd.prog.info? 28 = some i ∧ i.zero = some (.int .u32 0) ∧ i.size = 1 ∧ i.bytes = 4 :=
  info_parts (show (Tryd.prog.info? 28).map (fun i => (i.zero, i.size, i.bytes)) = some (some (.int .u32 0), 1, 4) by kernel_rfl)

theorem compact_short (a : Option Addr) (n c : Nat) (h : n < 2) (w : World) : Calls Tryd.prog 72 #[.slice a n c] w fun e w' => e = .returned (.slice a n c) ∧ w = w' := by
  have h2 : (n : Int) < 2 := by omega
  go_enter Tryd.func72, Tryd.ntmps72
  go_wp2
  go_ret
  exact ⟨rfl, rfl⟩
theorem compact_u (blk cap : Nat) (d : Array Int) (w : World) (hH : Holds (Value.int .u32) w blk 0 d) (hsz : d.size ≤ 1000000) (hcap : d.size ≤ cap) :
    Calls Tryd.prog 72 #[.slice (some ⟨blk, 0, none⟩) d.size cap] w fun e w' => e = .returned (.slice (some ⟨blk, 0, none⟩) (Lib.compactUpTo d d.size).length cap) ∧ ∃ q, w' = putRow (Value.int .u32) (Sort.ahead w q) blk 0 (Lib.compactUpTo d d.size ++ List.replicate (d.size - (Lib.compactUpTo d d.size).length) 0).toArray := by
  have h := AnyE.slices_Compact Tryd.compactU (Value.int .u32) (fun _ => rfl) (EqlAt.intD _ _ .u32) (NeqAt.intD _ _ .u32) 0 (fun w => Tryd.zeroValue28 w) blk 0 cap d w hH (by omega) hcap
  exact h
end Go.Proofs.YtmajalobkcnobaaDoor
