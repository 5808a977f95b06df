/- The library's Compact over a list of communities. No condition. -/
import Derived.Test.YtmajalobkcnobaaDoorCSg
import Derived.Lib.LazyBuf
import Derived.Deep.MidRow
namespace Go.Proofs.YtmajalobkcnobaaDoor
open Go.RowKit Go.Sort Go.Shelf Go.Lib
set_option linter.unusedVariables false
set_option linter.unusedSimpArgs false
set_option maxRecDepth 100000

/-- Block g holds a row of communities, the first n of them these. -/
def Rw (g cap n : Nat) (G : Nat → Nat → Int) (w : World) : Prop := ∃ cur, w.heap[g]? = some (.cells cur 24 (0, 0)) ∧ cur.size = cap * 8 ∧ ∀ i, i < n → ∀ j, j < 8 → cur[i * 8 + j]? = some (.int .u8 (G i j))
theorem Rw.lt {g cap n : Nat} {G : Nat → Nat → Int} {w : World} (h : Rw g cap n G w) : g < w.heap.size := by
  obtain ⟨cur, hg, _⟩ := h
  rcases Nat.lt_or_ge g w.heap.size with q | q
  · exact q
  · rw [Array.getElem?_eq_none q] at hg
    cases hg
theorem Rw.below {g cap n : Nat} {G : Nat → Nat → Int} {w w' : World} (h : Rw g cap n G w) (k : Below w.heap.size w w') : Rw g cap n G w' := by
  have hl := h.lt
  obtain ⟨cur, hg, r⟩ := h
  exact ⟨cur, (k.block g hl).trans hg, r⟩
theorem Rw.cell {g cap n : Nat} {G : Nat → Nat → Int} {w : World} (h : Rw g cap n G w) (i : Nat) (hi : i < n) (j : Nat) (hj : j < 8) : w.cell? ⟨g, i * 8 + j, none⟩ = some (.int .u8 (G i j)) := by
  obtain ⟨cur, hg, _, hc⟩ := h
  rw [cell_of_row w g _ _ _ _ hg]
  exact hc i hi j hj
theorem Rw.at {g cap n : Nat} {G : Nat → Nat → Int} {w : World} (h : Rw g cap n G w) (i : Nat) (hi : i < n) (o : Nat) (ho : o = i * 8) : (∀ d os, (grow (redrawn w d) os).cell? ⟨g, o, none⟩ = some (.int .u8 (G i 0))) ∧ (∀ d os, (grow (redrawn w d) os).cell? ⟨g, o + 1, none⟩ = some (.int .u8 (G i 1))) ∧ (∀ d os, (grow (redrawn w d) os).cell? ⟨g, o + 2, none⟩ = some (.int .u8 (G i 2))) ∧ (∀ d os, (grow (redrawn w d) os).cell? ⟨g, o + 3, none⟩ = some (.int .u8 (G i 3))) ∧ (∀ d os, (grow (redrawn w d) os).cell? ⟨g, o + 4, none⟩ = some (.int .u8 (G i 4))) ∧ (∀ d os, (grow (redrawn w d) os).cell? ⟨g, o + 5, none⟩ = some (.int .u8 (G i 5))) ∧ (∀ d os, (grow (redrawn w d) os).cell? ⟨g, o + 6, none⟩ = some (.int .u8 (G i 6))) ∧ (∀ d os, (grow (redrawn w d) os).cell? ⟨g, o + 7, none⟩ = some (.int .u8 (G i 7))) := by
  subst ho
  have k : ∀ i, i < n → ∀ j, j < 8 → ∀ d os, (grow (redrawn w d) os).cell? ⟨g, i * 8 + j, none⟩ = some (.int .u8 (G i j)) := fun i hi j hj d os => (h.below (below_regrown w d os)).cell i hi j hj
  exact ⟨k i hi 0 (by omega), k i hi 1 (by omega), k i hi 2 (by omega), k i hi 3 (by omega), k i hi 4 (by omega), k i hi 5 (by omega), k i hi 6 (by omega), k i hi 7 (by omega)⟩
theorem Rw.now {g cap n : Nat} {G : Nat → Nat → Int} {w : World} (h : Rw g cap n G w) (i : Nat) (hi : i < n) (o : Nat) (ho : o = i * 8) : w.cell? ⟨g, o, none⟩ = some (.int .u8 (G i 0)) ∧ w.cell? ⟨g, o + 1, none⟩ = some (.int .u8 (G i 1)) ∧ w.cell? ⟨g, o + 2, none⟩ = some (.int .u8 (G i 2)) ∧ w.cell? ⟨g, o + 3, none⟩ = some (.int .u8 (G i 3)) ∧ w.cell? ⟨g, o + 4, none⟩ = some (.int .u8 (G i 4)) ∧ w.cell? ⟨g, o + 5, none⟩ = some (.int .u8 (G i 5)) ∧ w.cell? ⟨g, o + 6, none⟩ = some (.int .u8 (G i 6)) ∧ w.cell? ⟨g, o + 7, none⟩ = some (.int .u8 (G i 7)) := by
  subst ho
  exact ⟨h.cell i hi 0 (by omega), h.cell i hi 1 (by omega), h.cell i hi 2 (by omega), h.cell i hi 3 (by omega), h.cell i hi 4 (by omega), h.cell i hi 5 (by omega), h.cell i hi 6 (by omega), h.cell i hi 7 (by omega)⟩
theorem Rw.frozen {g cap n : Nat} {G : Nat → Nat → Int} {w : World} (h : Rw g cap n G w) (o : Nat) : w.frozen? ⟨g, o, none⟩ = false := by
  obtain ⟨cur, hg, _⟩ := h
  simp [World.frozen?, hg]
theorem Rw.congr {g cap n : Nat} {G H : Nat → Nat → Int} {w : World} (h : Rw g cap n G w) (k : ∀ i, i < n → H i = G i) : Rw g cap n H w := by
  obtain ⟨cur, hg, hs, hc⟩ := h
  exact ⟨cur, hg, hs, fun i hi j hj => by rw [k i hi]; exact hc i hi j hj⟩
theorem Rw.row {g cap n : Nat} {G : Nat → Nat → Int} {w : World} (h : Rw g cap n G w) : ∃ f : Nat → Value, w.rowIs g 24 (cap * 8) f ∧ ∀ i, i < n → i < cap ∧ ∀ j, j < 8 → f (i * 8 + j) = .int .u8 (G i j) := by
  obtain ⟨cur, hg, hs, hc⟩ := h
  have hb : ∀ i, i < n → i < cap := fun i hi => by
    have := hc i hi 7 (by omega)
    have := (Array.getElem?_eq_some_iff.1 this).1
    omega
  refine ⟨fun i => cur[i]?.getD default, ⟨cur, hg, hs, fun i hi => ?_⟩, fun i hi => ⟨hb i hi, fun j hj => ?_⟩⟩
  · show cur[i]? = some (cur[i]?.getD default)
    rw [Array.getElem?_eq_getElem (by omega)]
    rfl
  · show (cur[i * 8 + j]?).getD default = _
    rw [hc i hi j hj]
    rfl
theorem Rw.of {g cap n : Nat} {G : Nat → Nat → Int} {w : World} {f : Nat → Value} (h : w.rowIs g 24 (cap * 8) f) (hn : n ≤ cap) (k : ∀ i, i < n → ∀ j, j < 8 → f (i * 8 + j) = .int .u8 (G i j)) : Rw g cap n G w := by
  obtain ⟨cur, hg, hs, hc⟩ := h
  exact ⟨cur, hg, hs, fun i hi j hj => by rw [hc _ (by omega), k i hi j hj]⟩
def upd (H : Nat → Nat → Int) (k : Nat) (x : Nat → Int) (i : Nat) : Nat → Int := if i = k then x else H i
theorem c8_at (e : Nat → Int) (j : Nat) (hj : j < 8) : (c8 e)[j]? = some (.int .u8 (e j)) := by
  rcases j with _ | _ | _ | _ | _ | _ | _ | _ | j
  all_goals first | rfl | omega
theorem Rw.put {g cap n : Nat} {H : Nat → Nat → Int} {w : World} (h : Rw g cap n H w) (hn : n ≤ cap) (k : Nat) (x : Nat → Int) : Rw g cap n (upd H k x) (w.setCells g (k * 8) (c8 x)) := by
  obtain ⟨f, hr, hf⟩ := h.row
  refine Rw.of (Go.rowIs_setCells (c8 x) (k * 8) w f hr) hn fun i hi j hj => ?_
  unfold upd
  by_cases e : i = k
  · subst e
    rw [if_pos (by rw [c8_len]; omega), if_pos rfl, show i * 8 + j - i * 8 = j by omega, c8_at x j hj]
    rfl
  · rw [if_neg (by rw [c8_len]; omega), if_neg e]
    exact (hf i hi).2 j hj
theorem Rw.cut {g cap n : Nat} {H : Nat → Nat → Int} {w : World} (h : Rw g cap n H w) (hn : n ≤ cap) (k : Nat) (hk : k ≤ n) (vs : List Value) : Rw g cap k H (w.setCells g (k * 8) vs) := by
  obtain ⟨f, hr, hf⟩ := h.row
  refine Rw.of (Go.rowIs_setCells vs (k * 8) w f hr) (by omega) fun i hi j hj => ?_
  rw [if_neg (by omega)]
  exact (hf i (by omega)).2 j hj

/-- Place j is the first, or holds another community than the place before it. -/
def kp (G : Nat → Nat → Int) (j : Nat) : Bool := decide (j = 0) || !eqC (G j) (G (j - 1))
theorem kp_one (G : Nat → Nat → Int) : ∀ j, j < 1 → kp G j = true := fun j hj => by
  have : j = 0 := by omega
  subst this
  rfl
theorem kp_next (G : Nat → Nat → Int) (j : Nat) : kp G (j + 1) = !eqC (G (j + 1)) (G j) := by simp [kp]
def kept (G : Nat → Nat → Int) (m : Nat) : List (Nat → Int) := ((List.range m).filter (kp G)).map G
theorem kept_succ (G : Nat → Nat → Int) (m : Nat) : kept G (m + 1) = kept G m ++ (if kp G m then [G m] else []) := by
  unfold kept
  rw [List.range_succ, List.filter_append, List.map_append]
  congr 1
  by_cases h : kp G m <;> simp [h]
theorem kept_all (G : Nat → Nat → Int) (m : Nat) (h : ∀ j, j < m → kp G j = true) : kept G m = (List.range m).map G := by
  unfold kept
  rw [List.filter_eq_self.2 (fun j hj => h j (List.mem_range.1 hj))]
theorem kept_le (G : Nat → Nat → Int) (m : Nat) : (kept G m).length ≤ m := by
  unfold kept
  rw [List.length_map]
  exact Nat.le_trans (List.length_filter_le _ _) (by simp)
/-- Behind m places: k are kept, and lie at the row's head; from place k on the row is as it was. -/
structure CI (G : Nat → Nat → Int) (m k : Nat) (H : Nat → Nat → Int) : Prop where
  lt : k < m
  len : (kept G m).length = k
  low : ∀ j, j < k → (kept G m)[j]? = some (H j)
  high : ∀ j, k ≤ j → H j = G j
theorem CI.start {G : Nat → Nat → Int} {k : Nat} (hall : ∀ j, j < k → kp G j = true) (hd : kp G k = false) : CI G (k + 1) k G where
  lt := Nat.lt_succ_self _
  len := by rw [kept_succ, hd, kept_all G k hall]; simp
  low := fun j hj => by rw [kept_succ, hd, kept_all G k hall]; simp [hj]
  high := fun _ _ => rfl
theorem CI.keep {G H : Nat → Nat → Int} {m k : Nat} (h : CI G m k H) (hk : kp G m = true) : CI G (m + 1) (k + 1) (upd H k (G m)) where
  lt := by have := h.lt; omega
  len := by rw [kept_succ, hk]; simp [h.len]
  low := fun j hj => by
    rw [kept_succ, hk, if_pos rfl]
    unfold upd
    by_cases e : j = k
    · subst e
      rw [List.getElem?_append_right (by rw [h.len]; exact Nat.le_refl _), h.len, Nat.sub_self, if_pos rfl]
      rfl
    · rw [List.getElem?_append_left (by rw [h.len]; omega), h.low j (by omega), if_neg e]
  high := fun j hj => by
    unfold upd
    rw [if_neg (by omega), h.high j (by omega)]
theorem CI.skip {G H : Nat → Nat → Int} {m k : Nat} (h : CI G m k H) (hk : kp G m = false) : CI G (m + 1) k H where
  lt := by have := h.lt; omega
  len := by rw [kept_succ, hk]; simpa using h.len
  low := fun j hj => by rw [kept_succ, hk]; simpa using h.low j hj
  high := h.high
/-- Such a row, of this length, is a list of its own. -/
theorem Rw.own {B g cap k : Nat} {H : Nat → Nat → Int} {w : World} {L : List (Nat → Int)} (h : Rw g cap k H w) (hB : B ≤ g) (hl : L.length = k) (hk : k ≤ cap) (hm : cap ≤ maxLen) (hL : ∀ j, j < k → L[j]? = some (H j)) : NuC B w (.slice (some ⟨g, 0, none⟩) L.length cap) L := by
  obtain ⟨cur, hg, hs, hc⟩ := h
  unfold NuC
  refine ⟨by rw [fl8_len], .inr ⟨g, cap, cur, rfl, hB, hg, by omega, hm, hs, ?_⟩⟩
  apply List.ext_getElem?
  intro i
  by_cases hi : i < k * 8
  · rw [List.getElem?_take_of_lt (by rw [hl]; exact hi)]
    have h1 := fl8_get L (i / 8) (i % 8) _ (hL (i / 8) (by omega)) (by omega)
    rw [show i / 8 * 8 + i % 8 = i by omega, c8_at _ _ (by omega)] at h1
    have h2 := hc (i / 8) (by omega) (i % 8) (by omega)
    rw [show i / 8 * 8 + i % 8 = i by omega] at h2
    rw [h1, ← h2, Array.getElem?_toList]
  · rw [List.getElem?_eq_none (by rw [List.length_take, hl]; omega), List.getElem?_eq_none (by rw [fl8_len, hl]; omega)]

/-- Clear, over communities. -/
def zs (n : Nat) : List Value := (Builtin.zeroCells (Value.agg #[.int .u8 0, .int .u8 0, .int .u8 0, .int .u8 0, .int .u8 0, .int .u8 0, .int .u8 0, .int .u8 0]).cells n).toList
theorem zs_len (n : Nat) : (zs n).length = n * 8 := by
  simp [zs, Builtin.zeroCells, Value.cells]
theorem zs_one (n : Nat) : ∀ v ∈ zs n, v.oneCell' = true := by
  intro v hv
  simp only [zs, Builtin.zeroCells, Value.cells, Array.toList_map, List.mem_map] at hv
  obtain ⟨i, _, rfl⟩ := hv
  have h8 : i % 8 < 8 := Nat.mod_lt _ (by omega)
  show ((#[.int .u8 0, .int .u8 0, .int .u8 0, .int .u8 0, .int .u8 0, .int .u8 0, .int .u8 0, .int .u8 0] : Array Value)[i % 8]!).oneCell' = true
  generalize i % 8 = j at h8
  rcases j with _ | _ | _ | _ | _ | _ | _ | _ | j
  all_goals first | rfl | omega
theorem run_clear (w : World) (ty : TypeId) (g o n c : Nat) (hn : 0 < n) (hc : ∀ j, j < n * 8 → (w.cell? ⟨g, o + j, none⟩).isSome = true) (hf : ∀ j, j < n * 8 → w.frozen? ⟨g, o + j, none⟩ = false) :
    (Builtin.clear_ #[35] ty #[.slice (some ⟨g, o, none⟩) n c]).run Tryd.prog w = .ok (.tuple #[]) (w.setCells g o (zs n)) := by
  have hst := run_storeCells_cells (P := Tryd.prog) g o (zs n) 0 w (by rw [zs_len]; simpa using hc) (by rw [zs_len]; simpa using hf) (zs_one n)
  simp only [Nat.add_zero] at hst
  have hz : ∀ w, (zeroValue 24).run Tryd.prog w = .ok (.agg #[.int .u8 0, .int .u8 0, .int .u8 0, .int .u8 0, .int .u8 0, .int .u8 0, .int .u8 0, .int .u8 0]) w := fun w => by kernel_rfl
  unfold zs at hst ⊢
  obtain ⟨m, rfl⟩ : ∃ m, n = m + 1 := ⟨n - 1, by omega⟩
  simp [Builtin.clear_, run_underlying Tryd.underlying35, hz, hst]

/-- A community's store into the row, cell by cell. -/
theorem Rw.steps {g cap n : Nat} {H : Nat → Nat → Int} {w : World} (h : Rw g cap n H w) (k : Nat) (hk : k < n) (o : Nat) (ho : o = k * 8) (x : Nat → Int) : ∃ w1 w2 w3 w4 w5 w6 w7 w8, w.setCell ⟨g, o, none⟩ (.int .u8 (x 0)) = w1 ∧ w1.setCell ⟨g, o + 1, none⟩ (.int .u8 (x 1)) = w2 ∧ w2.setCell ⟨g, o + 2, none⟩ (.int .u8 (x 2)) = w3 ∧ w3.setCell ⟨g, o + 3, none⟩ (.int .u8 (x 3)) = w4 ∧ w4.setCell ⟨g, o + 4, none⟩ (.int .u8 (x 4)) = w5 ∧ w5.setCell ⟨g, o + 5, none⟩ (.int .u8 (x 5)) = w6 ∧ w6.setCell ⟨g, o + 6, none⟩ (.int .u8 (x 6)) = w7 ∧ w7.setCell ⟨g, o + 7, none⟩ (.int .u8 (x 7)) = w8 ∧ w.cell? ⟨g, o, none⟩ = some (.int .u8 (H k 0)) ∧ w1.cell? ⟨g, o + 1, none⟩ = some (.int .u8 (H k 1)) ∧ w2.cell? ⟨g, o + 2, none⟩ = some (.int .u8 (H k 2)) ∧ w3.cell? ⟨g, o + 3, none⟩ = some (.int .u8 (H k 3)) ∧ w4.cell? ⟨g, o + 4, none⟩ = some (.int .u8 (H k 4)) ∧ w5.cell? ⟨g, o + 5, none⟩ = some (.int .u8 (H k 5)) ∧ w6.cell? ⟨g, o + 6, none⟩ = some (.int .u8 (H k 6)) ∧ w7.cell? ⟨g, o + 7, none⟩ = some (.int .u8 (H k 7)) ∧ w.frozen? ⟨g, o, none⟩ = false ∧ w1.frozen? ⟨g, o + 1, none⟩ = false ∧ w2.frozen? ⟨g, o + 2, none⟩ = false ∧ w3.frozen? ⟨g, o + 3, none⟩ = false ∧ w4.frozen? ⟨g, o + 4, none⟩ = false ∧ w5.frozen? ⟨g, o + 5, none⟩ = false ∧ w6.frozen? ⟨g, o + 6, none⟩ = false ∧ w7.frozen? ⟨g, o + 7, none⟩ = false ∧ w8 = w.setCells g o (c8 x) := by
  subst ho
  have c := fun j hj => h.cell k hk j hj
  have f := fun o => h.frozen o
  generalize k * 8 = o at c ⊢
  have co : ∀ (w : World) (p q : Nat) (v : Value), p ≠ q → (w.setCell ⟨g, p, none⟩ v).cell? ⟨g, q, none⟩ = w.cell? ⟨g, q, none⟩ := fun w p q v hpq => World.cell?_setCell_other _ _ _ _ (fun e => hpq (by injection e))
  refine ⟨_, _, _, _, _, _, _, _, rfl, rfl, rfl, rfl, rfl, rfl, rfl, rfl, c 0 (by omega), ?_, ?_, ?_, ?_, ?_, ?_, ?_, f _, ?_, ?_, ?_, ?_, ?_, ?_, ?_, rfl⟩
  all_goals first
    | (simp only [World.frozen?_setCell]; exact f _)
    | (repeat (rw [co _ _ _ _ (by omega)])
       exact c _ (by omega))
end Go.Proofs.YtmajalobkcnobaaDoor
