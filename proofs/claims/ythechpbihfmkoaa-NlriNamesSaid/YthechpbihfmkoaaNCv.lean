/- Octets of a string: the conversion; appending one octet to them. No condition. -/
import Derived.Test.YthechpbihfmkoaaNSm
import Derived.Test.YthechpbihfmkoaaNLi
import Derived.Lib.AppendStr
import Derived.Lib.ConvBytes
import Derived.Laws.IdiomCopy
namespace Go.Proofs.Ythechpbihfmkoaa
open Go.RowKit Go.Sort
set_option linter.unusedVariables false
set_option linter.unusedSimpArgs false
set_option maxRecDepth 100000

theorem reads_first {lo : Nat} {xs : List Int} {w : World} {V : Value} {E A : Int} (h0 : 0 < xs.length) (hne : ge xs 0 ≠ 0) (h : ReadsTo lo xs w V E A) : V = .slice none 0 0 ∧ E = ge xs 0 ∧ A = 0 := by
  rcases h with ⟨m, h1, h2, h3, -⟩ | ⟨m, h1, h2, h4, h5, h6, h7, h8⟩
  · cases m with
    | zero => exact absurd h1 (by show ¬ xs.length ≤ 0; omega)
    | succ m => exact absurd (h3 0 (by omega)) hne
  · cases m with
    | zero => exact ⟨h8, by rw [h5, if_neg (by decide)], h7⟩
    | succ m => exact absurd (h2 0 (by omega)) hne
theorem reads_second {lo : Nat} {xs : List Int} {w : World} {V : Value} {E A : Int} (h0 : ge xs 0 = 0) (h1 : ofs xs 1 < xs.length) (hne : ge xs 1 ≠ 0) (h : ReadsTo lo xs w V E A) : V = .slice none 0 0 ∧ E = ge xs 1 ∧ A = (ofs xs 1 : Nat) := by
  have hz : 0 < xs.length := by omega
  rcases h with ⟨m, q1, q2, q3, -⟩ | ⟨m, q1, q2, q4, q5, q6, q7, q8⟩
  · match m with
    | 0 => exact absurd q1 (by show ¬ xs.length ≤ 0; omega)
    | 1 => omega
    | m + 2 => exact absurd (q3 1 (by omega)) hne
  · match m with
    | 0 => exact absurd (by rw [q5, if_neg (by decide)]; exact h0) q6
    | 1 => exact ⟨q8, by rw [q5, if_neg (by decide)], q7⟩
    | m + 2 => exact absurd (q2 1 (by omega)) hne
/-- The route of the example. -/
def exM : NL := ⟨2, 0, fun _ => 0, 0, 2199023255559, 0, false, 0, 0, 0, 100, 0⟩
theorem exM_ok : exM.Ok := ⟨by decide, fun _ => by show (0 : Int) ≤ 0 ∧ (0 : Int) < 256; decide, by decide, by decide, by decide, by decide, by decide, by decide, by decide⟩
theorem exM_chk : exM.chk = 0 := by decide +kernel
theorem exM_good : Good exM := ⟨exM_ok, exM_chk⟩
theorem exM_code : exM.code = [2, 33, 0, 0, 0, 0, 0, 0, 0, 0, 0, 0, 0, 0, 0, 0, 0, 0, 0, 0, 0, 0, 0, 0, 48, 2, 0, 0, 0, 0, 7, 0, 0, 0, 100] := by decide +kernel
theorem oct_dec {xs : List Int} (h : xs.all (fun x => decide (0 ≤ x ∧ x < 256)) = true) : Oct xs := fun x hx => by
  have := List.all_eq_true.1 h x hx
  simpa using this
theorem ge_a : ge [3, 17, 0] 0 = 4 := by decide +kernel
theorem ge_b : ge [6, 0] 0 = 6 := by decide +kernel
theorem ge_c : ge [3, 0] 0 = 3 := by decide +kernel
theorem read_a (v : Value) (w : World) (hs : Seg w v [3, 17, 0]) : Calls Try.prog 12 #[v] w fun r w' => r = .returned (.tuple #[.slice none 0 0, .agg #[.int .i64 4, .int .i64 0]]) ∧ Below w.heap.size w w' :=
  (read_is [3, 17, 0] (oct_dec (by decide)) (by decide) v w hs).mono fun r w' ⟨V, E, A, ⟨hr, h⟩, k⟩ => by
    obtain ⟨rfl, rfl, rfl⟩ := reads_first (by decide) (by rw [ge_a]; decide) h
    rw [ge_a] at hr
    exact ⟨hr, k⟩
theorem read_b (v : Value) (w : World) (hs : Seg w v [6, 0]) : Calls Try.prog 12 #[v] w fun r w' => r = .returned (.tuple #[.slice none 0 0, .agg #[.int .i64 6, .int .i64 0]]) ∧ Below w.heap.size w w' :=
  (read_is [6, 0] (oct_dec (by decide)) (by decide) v w hs).mono fun r w' ⟨V, E, A, ⟨hr, h⟩, k⟩ => by
    obtain ⟨rfl, rfl, rfl⟩ := reads_first (by decide) (by rw [ge_b]; decide) h
    rw [ge_b] at hr
    exact ⟨hr, k⟩
theorem read_c (v : Value) (w : World) (hs : Seg w v [3, 0]) : Calls Try.prog 12 #[v] w fun r w' => r = .returned (.tuple #[.slice none 0 0, .agg #[.int .i64 3, .int .i64 0]]) ∧ Below w.heap.size w w' :=
  (read_is [3, 0] (oct_dec (by decide)) (by decide) v w hs).mono fun r w' ⟨V, E, A, ⟨hr, h⟩, k⟩ => by
    obtain ⟨rfl, rfl, rfl⟩ := reads_first (by decide) (by rw [ge_c]; decide) h
    rw [ge_c] at hr
    exact ⟨hr, k⟩
theorem ex_second : ge (exM.code ++ [1]) 0 = 0 ∧ ofs (exM.code ++ [1]) 1 = 35 ∧ ge (exM.code ++ [1]) 1 = 4 := by
  have h1 : ofs (exM.code ++ [1]) 1 = 35 := by decide +kernel
  refine ⟨?_, h1, ?_⟩
  · have := px_codes [exM] [1] 0 exM rfl
    rw [codes_one] at this
    unfold ge
    rw [this]
    exact (code_good exM_good).1
  · decide +kernel
theorem read_d (v : Value) (w : World) (hs : Seg w v (exM.code ++ [1])) : Calls Try.prog 12 #[v] w fun r w' => r = .returned (.tuple #[.slice none 0 0, .agg #[.int .i64 4, .int .i64 35]]) ∧ Below w.heap.size w w' :=
  (read_is (exM.code ++ [1]) (oct_dec (by rw [exM_code]; decide)) (by decide +kernel) v w hs).mono fun r w' ⟨V, E, A, ⟨hr, h⟩, k⟩ => by
    obtain ⟨e1, e2, e3⟩ := ex_second
    obtain ⟨rfl, rfl, rfl⟩ := reads_second e1 (by rw [e2]; decide +kernel) (by rw [e3]; decide) h
    rw [e3, e2] at hr
    exact ⟨hr, k⟩
theorem ex_good : ∀ n ∈ [exM], Good n := fun n hn => (List.mem_singleton.1 hn) ▸ exM_good
theorem read_e (v : Value) (w : World) (hs : Seg w v exM.code) : Calls Try.prog 12 #[v] w fun r w' => ∃ V, r = .returned (.tuple #[V, .agg #[.int .i64 0, .int .i64 0]]) ∧ NuN w.heap.size w' V [exM] ∧ Below w.heap.size w w' := by
  rw [← codes_one] at hs
  refine (read_is (codes [exM]) (codes_oct ex_good) (by rw [codes_one, exM_code]; decide) v w hs).mono fun r w' ⟨V, E, A, ⟨hr, h⟩, k⟩ => ?_
  obtain ⟨rfl, rfl, h3, -⟩ := reads_codes ex_good (by decide) h
  exact ⟨V, hr, h3, k⟩
set_option maxHeartbeats 2000000 in
theorem times_is (w : World) : Calls Try.prog 11 #[.string ⟨#[0]⟩, .int .i64 22] w fun r w' => r = .returned (.string ⟨#[0, 0, 0, 0, 0, 0, 0, 0, 0, 0, 0, 0, 0, 0, 0, 0, 0, 0, 0, 0, 0, 0]⟩) ∧ Below w.heap.size w w' := by
  obtain ⟨i0, hi0, hz0, hs0, hb0⟩ := info_u8
  go_enter Try.func11, Try.ntmps11
  go_wp2_with (refine wpList_make_own w rfl _ _ 23 rfl w.heap.size 5 i0 (.int .u8 0) 1 Try.underlying23 hi0 hz0 hs0 .i64 .i64 22 22 rfl rfl rfl (by rw [hb0]; decide) (by decide) (Nat.le_refl _) ?_; intro w1 o1 g1)
  have B1 : Below w.heap.size w w1 := (Below.refl _ _).grown g1 (Nat.le_refl _) fun j e => by cases e
  go_wp2_with fail
  go_loopw [5, 6] (fun v5 v6 wr => ∃ i : Nat, i ≤ 22 ∧ v6 = .int .i64 i ∧ wr.ownsRow w.heap.size 5 1 v5 i (List.replicate i (.int .u8 0)) ∧ Below w.heap.size w wr) (fun _ v6 _ => 22 - (intOf v6).toNat)
  case atStart => exact ⟨0, by decide, rfl, o1, B1⟩
  case round =>
    clear o1 g1 B1
    obtain ⟨i, hi, rfl, ho, hB⟩ := hrel
    by_cases hlt : i < 22
    · have hil : (i : Int) < 22 := by omega
      have HB := hB.size
      go_wp2_with (at_builtin; refine Lib.wpList_append_own_string _ rfl _ _ 23 9 rfl w.heap.size 5 i0 Try.underlying23 Try.underlying9 hi0 hz0 hs0 hb0 _ i _ rfl ho ⟨#[0]⟩ rfl (by show i + 1 ≤ maxLen; unfold maxLen; omega) (by show i + 1 ≤ _; omega) HB ?_; intro v' w2 o2 g2 _)
      have o3 : w2.ownsRow w.heap.size 5 1 v' (i + 1) (List.replicate (i + 1) (.int .u8 0)) := by
        rw [List.replicate_succ']
        exact o2
      have hB2 := hB.grown g2 HB fun k hk => (World.ownsRow.lt ho k hk).1
      clear o2 ho hB
      go_wp2
      go_roundw
      case rel => exact ⟨i + 1, by omega, by go_num, o3, hB2⟩
      case measure => simp [intOf]; omega
    · obtain rfl : i = 22 := by omega
      have D : Dat wr u5 (List.replicate 22 0) := World.ownsRow.mono ho (Nat.zero_le _)
      have hcv := dat_string D (by decide)
      rw [show strOfNums _ = (⟨#[0, 0, 0, 0, 0, 0, 0, 0, 0, 0, 0, 0, 0, 0, 0, 0, 0, 0, 0, 0, 0, 0]⟩ : ByteArray) from rfl] at hcv
      clear D ho
      go_wp2
      go_ret
      exact ⟨rfl, hB⟩
end Go.Proofs.Ythechpbihfmkoaa
namespace Go.Proofs.Ythechpbihfmkoaa
open Go.RowKit Go.Sort
set_option linter.unusedVariables false
set_option linter.unusedSimpArgs false
set_option maxRecDepth 100000

/-- What the conversion of a string makes: octets in a block of their own, of which nothing may not be written. -/
def Cv (B : Nat) (w : World) (v : Value) (xs : List Int) : Prop := ∃ g cur, v = .slice (some ⟨g, 0, none⟩) xs.length cur.size ∧ B ≤ g ∧ w.heap[g]? = some (.cells cur 5 (cur.size, cur.size + 1)) ∧ xs.length ≤ cur.size ∧ cur.size ≤ maxLen ∧ cur.toList.take xs.length = xs.map (Value.int .u8)
theorem Cv.cell {B : Nat} {w : World} {xs : List Int} {g : Nat} {cur : Array Value} (hg : w.heap[g]? = some (.cells cur 5 (cur.size, cur.size + 1))) (hl : xs.length ≤ cur.size) (ht : cur.toList.take xs.length = xs.map (Value.int .u8)) (i : Nat) (hi : i < xs.length) : w.cell? ⟨g, i, none⟩ = some (.int .u8 (xs.getD i 0)) := by
  have h1 : (cur.toList.take xs.length)[i]? = some (.int .u8 (xs.getD i 0)) := by
    rw [ht, List.getElem?_map, List.getD_eq_getElem?_getD, List.getElem?_eq_getElem hi]
    rfl
  rw [List.getElem?_take_of_lt hi] at h1
  simp only [World.cell?, hg]
  simpa using h1
theorem Cv.seg {B : Nat} {w : World} {v : Value} {xs : List Int} (h : Cv B w v xs) : Seg w v xs := by
  obtain ⟨g, cur, rfl, -, hg, hl, -, ht⟩ := h
  exact ⟨_, _, rfl, hl, fun i hi => ⟨g, 0, rfl, by rw [Nat.zero_add]; exact Cv.cell (B := B) hg hl ht i hi⟩⟩
theorem conv_is (w : World) (s : ByteArray) (xs : List Int) (hx : s.data.toList.map (fun b => (b.toNat : Int)) = xs) (hm : xs.length ≤ 1000) : ∃ v w', (convert 9 23 (.string s)).run Try.prog w = .ok v w' ∧ Cv w.heap.size w' v xs ∧ Below w.heap.size w w' := by
  have hl : s.size = xs.length := by rw [← hx]; simp
  have hge := grownCap_ge w s.size 0 5
  have hcm : grownCap w s.size 0 5 ≤ maxLen := grownCap_le_maxLen w s.size 0 5 (by unfold maxLen; omega)
  have hsz : (Lib.bytesCells w 5 s).size = grownCap w s.size 0 5 := by
    simp only [Lib.bytesCells, Array.size_append, Array.size_map, Array.size_replicate]
    show s.size + _ = _
    omega
  refine ⟨_, _, Lib.run_convert_string_bytes w 9 23 5 s Try.underlying9 Try.underlying23 Try.underlying5, ⟨w.heap.size, Lib.bytesCells w 5 s, by rw [hsz, hl], Nat.le_refl _, Lib.bytesWorld_at_new w _ s, by rw [hsz, ← hl]; exact hge, by rw [hsz]; exact hcm, ?_⟩, ?_⟩
  · rw [← hx]
    simp only [Lib.bytesCells, Array.toList_append, Array.toList_map, List.length_map]
    rw [List.take_append_of_le_length (by simp)]
    simp only [List.map_map, Function.comp_def]
    exact List.take_of_length_le (by rw [List.length_map]; exact Nat.le_refl _)
  · exact ⟨rfl, rfl, rfl, by rw [Lib.bytesWorld_size]; omega, fun k hk => Lib.bytesWorld_at_old w _ s k hk⟩
theorem append_cv (w : World) (ty : TypeId) (B : Nat) (v : Value) (xs : List Int) (t c : Nat) (y : Int) (hv : Cv B w v xs) (hy : w.cell? ⟨t, 0, none⟩ = some (.int .u8 y)) (hB : B ≤ w.heap.size) (hm : xs.length ≤ 1000) :
    ∃ v' w', (Builtin.append_ #[23, 23] ty #[v, .slice (some ⟨t, 0, none⟩) 1 c]).run Try.prog w = .ok v' w' ∧ Seg w' v' (xs ++ [y]) ∧ Below B w w' := by
  obtain ⟨i, hi, hz, hs, hb⟩ := info_u8
  obtain ⟨g, cur, rfl, hBg, hg, hl, hc, ht⟩ := hv
  have hcell := Cv.cell (B := B) hg hl ht
  have hnews : ∀ j u, ([Value.int .u8 y] : List Value)[j]? = some u → w.cell? ((⟨t, 0, none⟩ : Addr).add j) = some u := fun j u hu => by
    match j, hu with
    | 0, hu =>
      cases hu
      exact hy
  by_cases hroom : xs.length + 1 ≤ cur.size
  · have hgl := (Array.getElem?_eq_some_iff.1 hg).1
    have hex : (w.cell? ⟨g, xs.length, none⟩).isSome = true := by
      simp only [World.cell?, hg]
      simp
      omega
    have hfz : w.frozen? ⟨g, xs.length, none⟩ = false := by
      simp only [World.frozen?, hg]
      simp
      omega
    have hz0 : ∀ j, j < ([Value.int .u8 y] : List Value).length → j = 0 := fun j hj => by simpa using hj
    have hst := run_storeCells_cells (P := Try.prog) g xs.length [.int .u8 y] 0 w (fun j hj => by rw [hz0 j hj]; exact hex) (fun j hj => by rw [hz0 j hj]; exact hfz) (fun u hu => by rw [List.mem_singleton.1 hu]; rfl)
    have hf := run_firstCells_some (P := Try.prog) w i.size 1 ⟨t, 0, none⟩ 1 c [.int .u8 y] (by rw [hs]; rfl) hnews
    rw [hs] at hf
    refine ⟨.slice (some ⟨g, 0, none⟩) (xs.length + 1) cur.size, w.setCell ⟨g, xs.length, none⟩ (.int .u8 y), ?_, ?_, ?_⟩
    · have ht' := Try.underlying23
      simp only [Nat.add_zero] at hst
      have hst' : (storeCells ⟨g, xs.length, none⟩ [.int .u8 y] 0).run Try.prog w = .ok () (w.setCell ⟨g, xs.length, none⟩ (.int .u8 y)) := hst
      simp [Builtin.append_, run_underlying ht', sizeOf, typeInfo, hi, Builtin.lenOf, hroom, hf, hs, Addr.add_lit, hst']
    · refine ⟨_, _, by rw [List.length_append]; rfl, by rw [List.length_append]; exact hroom, fun j hj => ⟨g, 0, rfl, ?_⟩⟩
      rw [Nat.zero_add]
      rw [List.length_append] at hj
      by_cases hjl : j < xs.length
      · have e0 : (w.setCell ⟨g, xs.length, none⟩ (.int .u8 y)).cell? ⟨g, j, none⟩ = w.cell? ⟨g, j, none⟩ := by
          apply World.cell?_setCell_other
          intro e
          injection e with e1 e2 e3
          omega
        rw [e0, hcell j hjl]
        rw [List.getD_eq_getElem?_getD, List.getD_eq_getElem?_getD, List.getElem?_append_left hjl]
      · obtain rfl : j = xs.length := by simp at hj; omega
        rw [World.cell?_setCell_same' _ _ _ hex]
        rw [List.getD_eq_getElem?_getD, List.getElem?_append_right (Nat.le_refl _), Nat.sub_self]
        rfl
    · exact (Below.refl B w).setCell (p := ⟨g, xs.length, none⟩) hBg _
  · have hr := run_append_grow (P := Try.prog) w 23 ty 5 i (.int .u8 0) Try.underlying23 hi hz ⟨g, 0, none⟩ xs.length cur.size (xs.map (Value.int .u8)) (by simp [hs]) (fun j u hu => by
        have hj : j < xs.length := by
          rcases Nat.lt_or_ge j xs.length with q | q
          · exact q
          · rw [List.getElem?_eq_none (by simpa using q)] at hu
            cases hu
        have := hcell j hj
        rw [List.getElem?_map, List.getElem?_eq_getElem hj] at hu
        simp only [Option.map_some, Option.some.injEq] at hu
        rw [List.getD_eq_getElem?_getD, List.getElem?_eq_getElem hj] at this
        rw [show Addr.add ⟨g, 0, none⟩ j = ⟨g, 0 + j, none⟩ from add_is _ _ _, Nat.zero_add, this, ← hu]
        rfl) ⟨t, 0, none⟩ 1 c [.int .u8 y] (by rw [hs]; rfl) hnews (by omega) (by omega) (growslice_fits (by omega) (by rw [hb]; omega))
    have hge := grownCap_ge w (xs.length + 1) cur.size 5
    refine ⟨_, _, hr, ⟨_, _, by rw [List.length_append]; rfl, by rw [List.length_append]; exact hge, fun j hj => ⟨w.heap.size, 0, rfl, ?_⟩⟩, ?_⟩
    · rw [Nat.zero_add]
      show (w.drew.alloc _).cell? ⟨w.drew.heap.size, j, none⟩ = _
      rw [World.cell?_alloc_at _ _ _ _ rfl]
      rw [List.length_append] at hj
      have : ((xs.map (Value.int .u8)).toArray ++ [Value.int .u8 y].toArray ++ Builtin.zeroCells (Value.int .u8 0).cells (grownCap w (xs.length + 1) cur.size 5 - (xs.length + 1)))[j]? = some (.int .u8 ((xs ++ [y]).getD j 0)) := by
        rw [Array.getElem?_append_left (by simp at hj ⊢; omega)]
        rw [List.append_toArray, List.getElem?_toArray, ← List.map_singleton, ← List.map_append, List.getElem?_map, List.getD_eq_getElem?_getD, List.getElem?_eq_getElem (by rw [List.length_append]; exact hj)]
        rfl
      exact this
    · exact ⟨rfl, rfl, rfl, by simp, fun k hk => (Below.heap_alloc _ _ k (by simp; omega)).trans rfl⟩
end Go.Proofs.Ythechpbihfmkoaa
