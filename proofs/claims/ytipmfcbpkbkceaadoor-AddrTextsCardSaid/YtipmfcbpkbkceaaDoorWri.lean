/- write: the texts of bytes, with a separator between them. The tables that strconv reads are as the program lays them. -/
import Derived.Test.YtipmfcbpkbkceaaDoorApp
import Derived.Test.YtipmfcbpkbkceaaDoorPrt
import Derived.Maps.AppendAt
import Derived.Laws.BytesArg
namespace Go.Proofs.YtipmfcbpkbkceaaDoor
open Go.RowKit Go.Shelf Go.Sort
attribute [local go_sem] Oper.semAt_some
set_option linter.unusedVariables false
set_option linter.unusedSimpArgs false

/-- The text of bytes, with a separator between them. -/
def wrt {n : Nat} (sep : Nat) (txt : Nat → List Nat) (e : Nat → Nat) (xs : List (Fin n)) : List Nat := xs.foldl (fun acc x => acc ++ (if 0 < x.val then [sep] else []) ++ txt (e x.val)) []
theorem wrt_snoc {n : Nat} (sep : Nat) (txt : Nat → List Nat) (e : Nat → Nat) (pre : List (Fin n)) (x : Fin n) : wrt sep txt e (pre ++ [x]) = wrt sep txt e pre ++ (if 0 < x.val then [sep] else []) ++ txt (e x.val) := by
  simp [wrt]
theorem wrt_len {n : Nat} (sep : Nat) (txt : Nat → List Nat) (e : Nat → Nat) (ht : ∀ b, b < 256 → (txt b).length ≤ 3) (he : ∀ i, i < n → e i < 256) : ∀ (pre : List (Fin n)), (wrt sep txt e pre).length ≤ 4 * pre.length := by
  intro pre
  have : ∀ (l : List (Fin n)) (acc : List Nat), (l.foldl (fun acc x => acc ++ (if 0 < x.val then [sep] else []) ++ txt (e x.val)) acc).length ≤ acc.length + 4 * l.length := by
    intro l
    induction l with
    | nil => intro acc; simp
    | cons x r ih =>
      intro acc
      rw [List.foldl_cons]
      refine Nat.le_trans (ih _) ?_
      have h3 := ht (e x.val) (he x.val x.isLt)
      have h1 : (if 0 < x.val then [sep] else ([] : List Nat)).length ≤ 1 := by split <;> simp
      simp only [List.length_append, List.length_cons]
      omega
  simpa [wrt] using this pre []
theorem own_kept {A B : World} {row : Option Nat} {bs e n : Nat} {v : Value} {xs : List Value} (h : A.ownsRow bs e 1 v n xs) (hg : A.grownBy B row) (hr : ∀ r, row = some r → ∃ o, A.heap[r]? = some o ∧ o.isCells = false) : B.ownsRow bs e 1 v n xs := by
  refine h.kept hg ?_
  rcases h.2 with ⟨rfl, _⟩ | ⟨g, cap, cur, rfl, _, hgb, _⟩
  · exact .inl rfl
  · refine .inr (fun e => ?_)
    obtain ⟨o, ho, hc⟩ := hr g e.symm
    rw [hgb] at ho
    cases ho
    cases hc
theorem own_string {W : World} {bs n : Nat} {v : Value} {l : List Nat} (h : W.ownsRow bs 5 1 v n (l.map byteV)) : (convert 58 9 v).run Tryd.prog W = .ok (.string (strOfNums (l.map (fun b : Nat => (b : Int))))) W := by
  have hl := h.1
  simp only [List.length_map, Nat.mul_one] at hl
  rcases h.2 with ⟨rfl, h0⟩ | ⟨g, cap, cur, rfl, _⟩
  · have : l = [] := List.length_eq_zero_iff.1 (by omega)
    subst this
    exact run_convert_bytes_nil W _ _ Tryd.underlying58 Tryd.underlying5 0 0 _ Tryd.underlying9
  · refine run_convert_bytes_arg W _ _ Tryd.underlying58 Tryd.underlying5 g 0 n cap _ (by simp [hl]) (fun i hi => ?_) _ Tryd.underlying9
    rw [Nat.zero_add, h.cellAt i (by omega)]
    simp [List.getD, List.getElem?_map, List.getElem?_eq_getElem (show i < l.length by omega), byteV]

set_option maxRecDepth 100000 in
set_option maxHeartbeats 8000000 in
theorem writeMAC_in (B : Nat) (N : Int) (h0N : 0 ≤ N) (w : World) (hB : B + 1 < w.heap.size) (hc : w.cell? ⟨B, 0, none⟩ = some (.int .u64 N)) (hc2 : w.cell? ⟨B + 1, 0, none⟩ = some (.int .i64 6)) (hT : Tabs w)
    (txt : Nat → List Nat) (htx : ∀ b, b < 256 → (txt b).length ≤ 3) (hA : Adds 25 txt) :
    CallsIn Fence.wide 5 Tryd.prog 19 #[.func (.func 39) #[] #[.pointer (some ⟨B + 1, 0, none⟩), .pointer (some ⟨B, 0, none⟩)], .int .u8 58, .func (.func 25) #[] #[]] w fun r W' => r = .returned (.string (strOfNums ((wrt 58 txt (fun i => (bytMAC N i).toNat) (upto finMAC 6)).map (fun b : Nat => (b : Int))))) ∧ Below w.heap.size w W' := by
  obtain ⟨i0, hi, hz0, hz1, hz2⟩ := info_parts (show (Tryd.prog.info? 5).map (fun i => (i.zero, i.size, i.bytes)) = some (some (.int .u8 0), 1, 1) by kernel_rfl)
  have HC := Lib.hid hc; have HC2 := Lib.hid hc2
  clear hc hc2
  refine callsIn_of_wp_marks Tryd.func19 rfl trivial ?_ rfl
  simp only [Tryd.ntmps19, List.size_toArray, List.length_cons, List.length_nil, Nat.reduceAdd, Nat.reduceSub, Array.replicate_succ, Array.replicate_zero, List.push_toArray, List.append_toArray, List.nil_append, List.cons_append]
  gi_wp2
  have hS0 : (((w.alloc (.cells #[.int .u8 58] 5)).alloc (.cells #[.func (.func 25) #[] #[]] 57)).alloc (.cells #[.slice none 0 0] 58)).heap.size = w.heap.size + 1 + 1 + 1 := by simp
  have hs0 := ((Boxed.new w 5 (.int .u8 58)).alloc (.cells #[.func (.func 25) #[] #[]] 57)).alloc (.cells #[.slice none 0 0] 58)
  have ha0 := (Boxed.new (w.alloc (.cells #[.int .u8 58] 5)) 57 (.func (.func 25) #[] #[])).alloc (.cells #[.slice none 0 0] 58)
  have ht0 := Boxed.new ((w.alloc (.cells #[.int .u8 58] 5)).alloc (.cells #[.func (.func 25) #[] #[]] 57)) 58 (.slice none 0 0)
  simp only [World.size_alloc] at ha0 ht0
  have hB0 : Below w.heap.size w (((w.alloc (.cells #[.int .u8 58] 5)).alloc (.cells #[.func (.func 25) #[] #[]] 57)).alloc (.cells #[.slice none 0 0] 58)) := (((Below.refl _ w).alloc (Nat.le_refl _) _).alloc (by simp) _).alloc (by simp; omega) _
  refine wpIn_rangeFunc_ownF rfl (by decide) (gf := 39) (lb := #[.pointer (some ⟨B + 1, 0, none⟩), .pointer (some ⟨B, 0, none⟩)]) rfl trivial (enters_of Tryd.func39 (by kernel_rfl) rfl)
    (partsMAC_stops Fence.wide (5 - 1) trivial rfl (by decide) B w.heap.size N h0N _ hB (by rw [hS0]; omega) ((hB0.cell (p := ⟨B, 0, none⟩) (by simp; omega)).trans HC.out) ((hB0.cell (p := ⟨B + 1, 0, none⟩) hB).trans HC2.out)) belowK_t (belowK_b (by rw [hS0]; omega)) (Below.refl _ _) (fun _ => rfl)
    (fun pre W => ((∃ v, W.cell? ⟨w.heap.size + 1 + 1, 0, none⟩ = some v ∧ W.frozen? ⟨w.heap.size + 1 + 1, 0, none⟩ = false ∧ W.ownsRow (w.heap.size + 1 + 1 + 1) 5 1 v (wrt 58 txt (fun i => (bytMAC N i).toNat) pre).length ((wrt 58 txt (fun i => (bytMAC N i).toNat) pre).map byteV)) ∧ W.cell? ⟨w.heap.size, 0, none⟩ = some (.int .u8 58) ∧ W.cell? ⟨w.heap.size + 1, 0, none⟩ = some (.func (.func 25) #[] #[])) ∧ Below w.heap.size w W)
    (fun _ _ _ => False)
    (OwnFrom.and (Own.from (fun s A B row hs hg hr => ⟨⟨_, cell_kept hs.1.choose_spec.1 hg hr, (frozen_kept hs.1.choose_spec.1 hg hr).trans hs.1.choose_spec.2.1, own_kept hs.1.choose_spec.2.2 hg hr⟩, cell_kept hs.2.1 hg hr, cell_kept hs.2.2 hg hr⟩) _) (ownFrom_below (Nat.le_refl _) (by rw [hS0]; omega)))
    (fun _ _ _ _ _ hs _ _ => hs)
    ⟨⟨⟨_, ht0.cell, ht0.frozen, World.ownsRow_nil _ _ _ _⟩, hs0.cell, ha0.cell⟩, hB0⟩
    (fun x => { tmps := #[.func (.func 39) #[] #[.pointer (some ⟨B + 1, 0, none⟩), .pointer (some ⟨B, 0, none⟩)], .int .u8 58, .func (.func 25) #[] #[], undef, .pointer (some ⟨w.heap.size, 0, none⟩), .pointer (some ⟨w.heap.size + 1, 0, none⟩), .string ⟨#[]⟩, .pointer (some ⟨w.heap.size + 1 + 1, 0, none⟩), .int .i64 (x.val : Int), .int .u8 (bytMAC N x.val), .func (.func 39) #[] #[.pointer (some ⟨B + 1, 0, none⟩), .pointer (some ⟨B, 0, none⟩)], .int .i64 (x.val : Int), .int .u8 (bytMAC N x.val), undef, undef, undef, undef, undef, undef, undef, undef, undef, undef, undef, undef], defers := [] }) ?assign ?body ?done ?stop
  case assign =>
    intro l x W K hK
    gi_wp2
    exact hK
  case body =>
    rintro l pre x W ⟨⟨⟨v, hv, hf, hrow⟩, hs, ha⟩, hBW⟩ hlt
    have hb0 : ∀ i, 0 ≤ bytMAC N i ∧ bytMAC N i < 256 := fun i => by unfold bytMAC; omega
    have hlen := wrt_len 58 txt (fun i => (bytMAC N i).toNat) htx (fun i _ => by have := hb0 i; omega) pre
    have hsn : wrt 58 txt (fun i => (bytMAC N i).toNat) (pre ++ [x]) = wrt 58 txt (fun i => (bytMAC N i).toNat) pre ++ (if 0 < x.val then [58] else []) ++ txt (bytMAC N x.val).toNat := wrt_snoc _ _ _ pre x
    have hb256 : (bytMAC N x.val).toNat < 256 := by have := hb0 x.val; omega
    have hAx : ∀ (n : Nat) (sv : Value) (xs : List Value) (W1 : World), W1.ownsRow (w.heap.size + 1 + 1 + 1) 5 1 sv n xs → w.heap.size + 1 + 1 + 1 ≤ W1.heap.size → n ≤ 100 → Below w.heap.size w W1 →
        Calls Tryd.prog 25 #[sv, .int .u8 (bytMAC N x.val)] W1 fun r w' => (∃ ao cap, r = .returned (.slice ao (n + (txt (bytMAC N x.val).toNat).length) cap) ∧ w'.ownsRow (w.heap.size + 1 + 1 + 1) 5 1 (.slice ao (n + (txt (bytMAC N x.val).toNat).length) cap) (n + (txt (bytMAC N x.val).toNat).length) (xs ++ (txt (bytMAC N x.val).toNat).map byteV)) ∧ Below (w.heap.size + 1 + 1 + 1) W1 w' ∧ KeepsOthers W1 w' := by
      intro n sv xs W1 ho hle hn hbw
      have h := hA (w.heap.size + 1 + 1 + 1) n (bytMAC N x.val).toNat sv xs W1 hb256 ho hle (by omega) (fun w' hb => hT.below (hbw.trans (hb.mono (by omega))))
      rw [Int.toNat_of_nonneg (hb0 x.val).1] at h
      refine h.mono ?_
      rintro e w' ⟨⟨v', rfl, hv'⟩, h2⟩
      obtain ⟨ao, cap, rfl⟩ := own_slice hv'
      exact ⟨⟨ao, cap, rfl, hv'⟩, h2⟩
    have HA := Lib.hid hAx
    clear hAx
    obtain ⟨ao, cap, rfl⟩ := own_slice hrow
    have hbs : w.heap.size + 1 + 1 < W.heap.size := block_lt_of_cell hv
    generalize wrt 58 txt (fun i => (bytMAC N i).toNat) pre = T at hsn hlen hrow hv
    have hxl := x.isLt
    have hT100 : T.length ≤ 4 * 6 := by omega
    generalize bytMAC N x.val = bv at HA hsn hb256 ⊢
    clear hA htx hlen hb0 hT HC HC2 hs0 ha0 ht0 hB0 hS0
    by_cases hx : x.val = 0
    · rw [if_neg (by omega), List.append_nil] at hsn
      replace hsn := Lib.hid hsn
      have hx0 : ¬ (0 < (x.val : Int)) := by omega
      clear hx
      gi_wp2_with (refine ⟨trivial, ?_⟩; gi_at_call 25; refine ((callsIn_wide.2 (HA.out _ _ _ _ hrow (by omega) (by omega) hBW)).inRound l).mono ?_; rintro e w2 ⟨⟨ao2, cap2, rfl, hv2⟩, hb2, hk2⟩; have hc2 := (hb2.cell (p := ⟨w.heap.size + 1 + 1, 0, none⟩) (by simp)).trans hv; have hf2 := (hb2.frozen (p := ⟨w.heap.size + 1 + 1, 0, none⟩) (by simp)).trans hf)
      refine ⟨hk2.trans (KeepsOthers.setCell _ _ _), (hb2.mono (by omega)).setCell (p := ⟨w.heap.size + 1 + 1, 0, none⟩) (by simp; omega) _, ⟨⟨_, World.cell?_setCell_same' _ _ _ (by rw [hc2]; rfl), by rw [World.frozen?_setCell]; exact hf2, ?_⟩, ?_, ?_⟩, (hBW.trans (hb2.mono (by omega))).setCell (p := ⟨w.heap.size + 1 + 1, 0, none⟩) (by simp; omega) _⟩
      · rw [hsn.out, List.length_append, List.map_append]
        exact ownsRow_setCell_below hv2 (by simp) _
      · rw [World.cell?_setCell_other _ _ _ _ (fun q => by have := congrArg Addr.block q; simp at this <;> omega)]
        exact (hb2.cell (p := ⟨w.heap.size, 0, none⟩) (by simp; omega)).trans hs
      · rw [World.cell?_setCell_other _ _ _ _ (fun q => by have := congrArg Addr.block q; simp at this <;> omega)]
        exact (hb2.cell (p := ⟨w.heap.size + 1, 0, none⟩) (by simp)).trans ha
    · rw [if_pos (by omega)] at hsn
      replace hsn := Lib.hid hsn
      have hx0 : 0 < (x.val : Int) := by omega
      clear hx
      gi_wp2_with (gi_at_builtin; refine wpListIn_append_own _ rfl _ _ 58 rfl (w.heap.size + 1 + 1 + 1) 5 i0 (.int .u8 0) 1 1 Tryd.underlying58 hi hz0 hz1 hz2 rfl (by decide) _ _ _ rfl (hrow.alloc _) ⟨W.heap.size, 0, none⟩ 1 1 [byteV 58] rfl rfl (cell_one_new _ _ _) (fun y hy => by simp at hy; subst hy; rfl) (by unfold maxLen; omega) (by omega) (by simp; omega) ?_; intro v' w1 hown' hgrow _; obtain ⟨ao1, cap1, rfl⟩ := own_slice hown'; have hb1 : Below (w.heap.size + 1 + 1 + 1) W w1 := ((Below.refl _ _).alloc (by omega) _).grown hgrow (by simp; omega) (fun q hq => (hrow.lt q hq).1); have hk1 : KeepsOthers W w1 := (KeepsOthers.alloc _ _).trans (own_others (hrow.alloc _) hgrow); have hc1 := (hb1.cell (p := ⟨w.heap.size + 1 + 1, 0, none⟩) (by simp)).trans hv; have hf1 := (hb1.frozen (p := ⟨w.heap.size + 1 + 1, 0, none⟩) (by simp)).trans hf; have ha1 := (hb1.cell (p := ⟨w.heap.size + 1, 0, none⟩) (by simp)).trans ha; have hs1 := (hb1.cell (p := ⟨w.heap.size, 0, none⟩) (by simp; omega)).trans hs; have hsz1 := hb1.size)
      have ho2 := ownsRow_setCell_below hown' (a := ⟨w.heap.size + 1 + 1, 0, none⟩) (by simp) (Value.slice ao1 (T.length + 1) cap1)
      have hc2 := World.cell?_setCell_same' w1 ⟨w.heap.size + 1 + 1, 0, none⟩ (Value.slice ao1 (T.length + 1) cap1) (by rw [hc1]; rfl)
      have hf2 : (w1.setCell ⟨w.heap.size + 1 + 1, 0, none⟩ (Value.slice ao1 (T.length + 1) cap1)).frozen? ⟨w.heap.size + 1 + 1, 0, none⟩ = false := by rw [World.frozen?_setCell]; exact hf1
      have hs2 : (w1.setCell ⟨w.heap.size + 1 + 1, 0, none⟩ (Value.slice ao1 (T.length + 1) cap1)).cell? ⟨w.heap.size, 0, none⟩ = some (.int .u8 58) := by
        rw [World.cell?_setCell_other _ _ _ _ (fun q => by have := congrArg Addr.block q; simp at this <;> omega)]; exact hs1
      have ha2 : (w1.setCell ⟨w.heap.size + 1 + 1, 0, none⟩ (Value.slice ao1 (T.length + 1) cap1)).cell? ⟨w.heap.size + 1, 0, none⟩ = some (.func (.func 25) #[] #[]) := by
        rw [World.cell?_setCell_other _ _ _ _ (fun q => by have := congrArg Addr.block q; simp at this <;> omega)]; exact ha1
      have hk2 := hk1.trans (KeepsOthers.setCell w1 ⟨w.heap.size + 1 + 1, 0, none⟩ (Value.slice ao1 (T.length + 1) cap1))
      have hb2 := (hb1.mono (show w.heap.size ≤ w.heap.size + 1 + 1 + 1 by omega)).setCell (p := ⟨w.heap.size + 1 + 1, 0, none⟩) (by simp; omega) (Value.slice ao1 (T.length + 1) cap1)
      generalize w1.setCell ⟨w.heap.size + 1 + 1, 0, none⟩ (Value.slice ao1 (T.length + 1) cap1) = W2 at ho2 hc2 hf2 hs2 ha2 hk2 hb2 ⊢
      have hsz2 := hb2.size
      have hbW2 := hBW.trans hb2
      clear hc1 hf1 hs1 ha1 hb1 hk1 hown' hgrow hsz1 hv hf hs ha hrow hi hz0 hz1 hz2
      refine ⟨trivial, ?_⟩
      refine ((callsIn_wide.2 (HA.out _ _ _ _ ho2 (by omega) (by omega) hbW2)).inRound l).mono ?_
      rintro e w3 ⟨⟨ao3, cap3, rfl, hv3⟩, hb3, hk3⟩
      have hc3 := (hb3.cell (p := ⟨w.heap.size + 1 + 1, 0, none⟩) (by simp)).trans hc2
      have hf3 := (hb3.frozen (p := ⟨w.heap.size + 1 + 1, 0, none⟩) (by simp)).trans hf2
      gi_wp2
      refine ⟨(hk2.trans hk3).trans (KeepsOthers.setCell _ _ _), (hb2.trans (hb3.mono (by omega))).setCell (p := ⟨w.heap.size + 1 + 1, 0, none⟩) (by simp; omega) _, ⟨⟨_, World.cell?_setCell_same' _ _ _ (by rw [hc3]; rfl), by rw [World.frozen?_setCell]; exact hf3, ?_⟩, ?_, ?_⟩, (hbW2.trans (hb3.mono (by omega))).setCell (p := ⟨w.heap.size + 1 + 1, 0, none⟩) (by simp; omega) _⟩
      · have h := ownsRow_setCell_below hv3 (a := ⟨w.heap.size + 1 + 1, 0, none⟩) (by simp) (Value.slice ao3 (T.length + 1 + (txt bv.toNat).length) cap3)
        rw [hsn.out, List.length_append, List.length_append, List.map_append, List.map_append]
        exact h
      · rw [World.cell?_setCell_other _ _ _ _ (fun q => by have := congrArg Addr.block q; simp at this <;> omega)]
        exact (hb3.cell (p := ⟨w.heap.size, 0, none⟩) (by simp; omega)).trans hs2
      · rw [World.cell?_setCell_other _ _ _ _ (fun q => by have := congrArg Addr.block q; simp at this <;> omega)]
        exact (hb3.cell (p := ⟨w.heap.size + 1, 0, none⟩) (by simp)).trans ha2
  case done =>
    rintro D ys W hD rfl ⟨⟨⟨v, hv, hf, hrow⟩, hs, ha⟩, hBW⟩ hK
    have hcv := own_string hrow
    obtain ⟨ao, cap, rfl⟩ := own_slice hrow
    clear hrow
    gi_wp2
    refine ⟨by simp, .inl ⟨_, _, rfl, run_takeDeferred hK, ?_⟩⟩
    exact ⟨_, results_tmp rfl _ _ _, rfl, hBW.trans (belowK_b (w := w) (Nat.le_refl _) W D _ _ (by rw [hS0] at hD; omega) hK rfl rfl)⟩
  case stop =>
    rintro D c pre W _ _ h _
    exact h.elim

theorem writeMAC_any (B : Nat) (N : Int) (h0N : 0 ≤ N) (w : World) (hB : B + 1 < w.heap.size) (hc : w.cell? ⟨B, 0, none⟩ = some (.int .u64 N)) (hc2 : w.cell? ⟨B + 1, 0, none⟩ = some (.int .i64 6)) (hT : Tabs w)
    (txt : Nat → List Nat) (htx : ∀ b, b < 256 → (txt b).length ≤ 3) (hA : Adds 25 txt) :
    Calls Tryd.prog 19 #[.func (.func 39) #[] #[.pointer (some ⟨B + 1, 0, none⟩), .pointer (some ⟨B, 0, none⟩)], .int .u8 58, .func (.func 25) #[] #[]] w fun r W' => r = .returned (.string (strOfNums ((wrt 58 txt (fun i => (bytMAC N i).toNat) (upto finMAC 6)).map (fun b : Nat => (b : Int))))) ∧ Below w.heap.size w W' :=
  callsIn_wide.1 (writeMAC_in B N h0N w hB hc hc2 hT txt htx hA)

set_option maxRecDepth 100000 in
set_option maxHeartbeats 8000000 in
theorem writeIP_in (B : Nat) (N : Int) (h0N : 0 ≤ N) (w : World) (hB : B + 1 < w.heap.size) (hc : w.cell? ⟨B, 0, none⟩ = some (.int .u32 N)) (hc2 : w.cell? ⟨B + 1, 0, none⟩ = some (.int .i64 4)) (hT : Tabs w)
    (txt : Nat → List Nat) (htx : ∀ b, b < 256 → (txt b).length ≤ 3) (hA : Adds 21 txt) :
    CallsIn Fence.wide 5 Tryd.prog 19 #[.func (.func 36) #[] #[.pointer (some ⟨B + 1, 0, none⟩), .pointer (some ⟨B, 0, none⟩)], .int .u8 46, .func (.func 21) #[] #[]] w fun r W' => r = .returned (.string (strOfNums ((wrt 46 txt (fun i => (bytIP N i).toNat) (upto finIP 4)).map (fun b : Nat => (b : Int))))) ∧ Below w.heap.size w W' := by
  obtain ⟨i0, hi, hz0, hz1, hz2⟩ := info_parts (show (Tryd.prog.info? 5).map (fun i => (i.zero, i.size, i.bytes)) = some (some (.int .u8 0), 1, 1) by kernel_rfl)
  have HC := Lib.hid hc; have HC2 := Lib.hid hc2
  clear hc hc2
  refine callsIn_of_wp_marks Tryd.func19 rfl trivial ?_ rfl
  simp only [Tryd.ntmps19, List.size_toArray, List.length_cons, List.length_nil, Nat.reduceAdd, Nat.reduceSub, Array.replicate_succ, Array.replicate_zero, List.push_toArray, List.append_toArray, List.nil_append, List.cons_append]
  gi_wp2
  have hS0 : (((w.alloc (.cells #[.int .u8 46] 5)).alloc (.cells #[.func (.func 21) #[] #[]] 57)).alloc (.cells #[.slice none 0 0] 58)).heap.size = w.heap.size + 1 + 1 + 1 := by simp
  have hs0 := ((Boxed.new w 5 (.int .u8 46)).alloc (.cells #[.func (.func 21) #[] #[]] 57)).alloc (.cells #[.slice none 0 0] 58)
  have ha0 := (Boxed.new (w.alloc (.cells #[.int .u8 46] 5)) 57 (.func (.func 21) #[] #[])).alloc (.cells #[.slice none 0 0] 58)
  have ht0 := Boxed.new ((w.alloc (.cells #[.int .u8 46] 5)).alloc (.cells #[.func (.func 21) #[] #[]] 57)) 58 (.slice none 0 0)
  simp only [World.size_alloc] at ha0 ht0
  have hB0 : Below w.heap.size w (((w.alloc (.cells #[.int .u8 46] 5)).alloc (.cells #[.func (.func 21) #[] #[]] 57)).alloc (.cells #[.slice none 0 0] 58)) := (((Below.refl _ w).alloc (Nat.le_refl _) _).alloc (by simp) _).alloc (by simp; omega) _
  refine wpIn_rangeFunc_ownF rfl (by decide) (gf := 36) (lb := #[.pointer (some ⟨B + 1, 0, none⟩), .pointer (some ⟨B, 0, none⟩)]) rfl trivial (enters_of Tryd.func36 (by kernel_rfl) rfl)
    (partsIP_stops Fence.wide (5 - 1) trivial rfl (by decide) B w.heap.size N h0N _ hB (by rw [hS0]; omega) ((hB0.cell (p := ⟨B, 0, none⟩) (by simp; omega)).trans HC.out) ((hB0.cell (p := ⟨B + 1, 0, none⟩) hB).trans HC2.out)) belowK_t (belowK_b (by rw [hS0]; omega)) (Below.refl _ _) (fun _ => rfl)
    (fun pre W => ((∃ v, W.cell? ⟨w.heap.size + 1 + 1, 0, none⟩ = some v ∧ W.frozen? ⟨w.heap.size + 1 + 1, 0, none⟩ = false ∧ W.ownsRow (w.heap.size + 1 + 1 + 1) 5 1 v (wrt 46 txt (fun i => (bytIP N i).toNat) pre).length ((wrt 46 txt (fun i => (bytIP N i).toNat) pre).map byteV)) ∧ W.cell? ⟨w.heap.size, 0, none⟩ = some (.int .u8 46) ∧ W.cell? ⟨w.heap.size + 1, 0, none⟩ = some (.func (.func 21) #[] #[])) ∧ Below w.heap.size w W)
    (fun _ _ _ => False)
    (OwnFrom.and (Own.from (fun s A B row hs hg hr => ⟨⟨_, cell_kept hs.1.choose_spec.1 hg hr, (frozen_kept hs.1.choose_spec.1 hg hr).trans hs.1.choose_spec.2.1, own_kept hs.1.choose_spec.2.2 hg hr⟩, cell_kept hs.2.1 hg hr, cell_kept hs.2.2 hg hr⟩) _) (ownFrom_below (Nat.le_refl _) (by rw [hS0]; omega)))
    (fun _ _ _ _ _ hs _ _ => hs)
    ⟨⟨⟨_, ht0.cell, ht0.frozen, World.ownsRow_nil _ _ _ _⟩, hs0.cell, ha0.cell⟩, hB0⟩
    (fun x => { tmps := #[.func (.func 36) #[] #[.pointer (some ⟨B + 1, 0, none⟩), .pointer (some ⟨B, 0, none⟩)], .int .u8 46, .func (.func 21) #[] #[], undef, .pointer (some ⟨w.heap.size, 0, none⟩), .pointer (some ⟨w.heap.size + 1, 0, none⟩), .string ⟨#[]⟩, .pointer (some ⟨w.heap.size + 1 + 1, 0, none⟩), .int .i64 (x.val : Int), .int .u8 (bytIP N x.val), .func (.func 36) #[] #[.pointer (some ⟨B + 1, 0, none⟩), .pointer (some ⟨B, 0, none⟩)], .int .i64 (x.val : Int), .int .u8 (bytIP N x.val), undef, undef, undef, undef, undef, undef, undef, undef, undef, undef, undef, undef], defers := [] }) ?assign ?body ?done ?stop
  case assign =>
    intro l x W K hK
    gi_wp2
    exact hK
  case body =>
    rintro l pre x W ⟨⟨⟨v, hv, hf, hrow⟩, hs, ha⟩, hBW⟩ hlt
    have hb0 : ∀ i, 0 ≤ bytIP N i ∧ bytIP N i < 256 := fun i => by unfold bytIP; omega
    have hlen := wrt_len 46 txt (fun i => (bytIP N i).toNat) htx (fun i _ => by have := hb0 i; omega) pre
    have hsn : wrt 46 txt (fun i => (bytIP N i).toNat) (pre ++ [x]) = wrt 46 txt (fun i => (bytIP N i).toNat) pre ++ (if 0 < x.val then [46] else []) ++ txt (bytIP N x.val).toNat := wrt_snoc _ _ _ pre x
    have hb256 : (bytIP N x.val).toNat < 256 := by have := hb0 x.val; omega
    have hAx : ∀ (n : Nat) (sv : Value) (xs : List Value) (W1 : World), W1.ownsRow (w.heap.size + 1 + 1 + 1) 5 1 sv n xs → w.heap.size + 1 + 1 + 1 ≤ W1.heap.size → n ≤ 100 → Below w.heap.size w W1 →
        Calls Tryd.prog 21 #[sv, .int .u8 (bytIP N x.val)] W1 fun r w' => (∃ ao cap, r = .returned (.slice ao (n + (txt (bytIP N x.val).toNat).length) cap) ∧ w'.ownsRow (w.heap.size + 1 + 1 + 1) 5 1 (.slice ao (n + (txt (bytIP N x.val).toNat).length) cap) (n + (txt (bytIP N x.val).toNat).length) (xs ++ (txt (bytIP N x.val).toNat).map byteV)) ∧ Below (w.heap.size + 1 + 1 + 1) W1 w' ∧ KeepsOthers W1 w' := by
      intro n sv xs W1 ho hle hn hbw
      have h := hA (w.heap.size + 1 + 1 + 1) n (bytIP N x.val).toNat sv xs W1 hb256 ho hle (by omega) (fun w' hb => hT.below (hbw.trans (hb.mono (by omega))))
      rw [Int.toNat_of_nonneg (hb0 x.val).1] at h
      refine h.mono ?_
      rintro e w' ⟨⟨v', rfl, hv'⟩, h2⟩
      obtain ⟨ao, cap, rfl⟩ := own_slice hv'
      exact ⟨⟨ao, cap, rfl, hv'⟩, h2⟩
    have HA := Lib.hid hAx
    clear hAx
    obtain ⟨ao, cap, rfl⟩ := own_slice hrow
    have hbs : w.heap.size + 1 + 1 < W.heap.size := block_lt_of_cell hv
    generalize wrt 46 txt (fun i => (bytIP N i).toNat) pre = T at hsn hlen hrow hv
    have hxl := x.isLt
    have hT100 : T.length ≤ 4 * 4 := by omega
    generalize bytIP N x.val = bv at HA hsn hb256 ⊢
    clear hA htx hlen hb0 hT HC HC2 hs0 ha0 ht0 hB0 hS0
    by_cases hx : x.val = 0
    · rw [if_neg (by omega), List.append_nil] at hsn
      replace hsn := Lib.hid hsn
      have hx0 : ¬ (0 < (x.val : Int)) := by omega
      clear hx
      gi_wp2_with (refine ⟨trivial, ?_⟩; gi_at_call 21; refine ((callsIn_wide.2 (HA.out _ _ _ _ hrow (by omega) (by omega) hBW)).inRound l).mono ?_; rintro e w2 ⟨⟨ao2, cap2, rfl, hv2⟩, hb2, hk2⟩; have hc2 := (hb2.cell (p := ⟨w.heap.size + 1 + 1, 0, none⟩) (by simp)).trans hv; have hf2 := (hb2.frozen (p := ⟨w.heap.size + 1 + 1, 0, none⟩) (by simp)).trans hf)
      refine ⟨hk2.trans (KeepsOthers.setCell _ _ _), (hb2.mono (by omega)).setCell (p := ⟨w.heap.size + 1 + 1, 0, none⟩) (by simp; omega) _, ⟨⟨_, World.cell?_setCell_same' _ _ _ (by rw [hc2]; rfl), by rw [World.frozen?_setCell]; exact hf2, ?_⟩, ?_, ?_⟩, (hBW.trans (hb2.mono (by omega))).setCell (p := ⟨w.heap.size + 1 + 1, 0, none⟩) (by simp; omega) _⟩
      · rw [hsn.out, List.length_append, List.map_append]
        exact ownsRow_setCell_below hv2 (by simp) _
      · rw [World.cell?_setCell_other _ _ _ _ (fun q => by have := congrArg Addr.block q; simp at this <;> omega)]
        exact (hb2.cell (p := ⟨w.heap.size, 0, none⟩) (by simp; omega)).trans hs
      · rw [World.cell?_setCell_other _ _ _ _ (fun q => by have := congrArg Addr.block q; simp at this <;> omega)]
        exact (hb2.cell (p := ⟨w.heap.size + 1, 0, none⟩) (by simp)).trans ha
    · rw [if_pos (by omega)] at hsn
      replace hsn := Lib.hid hsn
      have hx0 : 0 < (x.val : Int) := by omega
      clear hx
      gi_wp2_with (gi_at_builtin; refine wpListIn_append_own _ rfl _ _ 58 rfl (w.heap.size + 1 + 1 + 1) 5 i0 (.int .u8 0) 1 1 Tryd.underlying58 hi hz0 hz1 hz2 rfl (by decide) _ _ _ rfl (hrow.alloc _) ⟨W.heap.size, 0, none⟩ 1 1 [byteV 46] rfl rfl (cell_one_new _ _ _) (fun y hy => by simp at hy; subst hy; rfl) (by unfold maxLen; omega) (by omega) (by simp; omega) ?_; intro v' w1 hown' hgrow _; obtain ⟨ao1, cap1, rfl⟩ := own_slice hown'; have hb1 : Below (w.heap.size + 1 + 1 + 1) W w1 := ((Below.refl _ _).alloc (by omega) _).grown hgrow (by simp; omega) (fun q hq => (hrow.lt q hq).1); have hk1 : KeepsOthers W w1 := (KeepsOthers.alloc _ _).trans (own_others (hrow.alloc _) hgrow); have hc1 := (hb1.cell (p := ⟨w.heap.size + 1 + 1, 0, none⟩) (by simp)).trans hv; have hf1 := (hb1.frozen (p := ⟨w.heap.size + 1 + 1, 0, none⟩) (by simp)).trans hf; have ha1 := (hb1.cell (p := ⟨w.heap.size + 1, 0, none⟩) (by simp)).trans ha; have hs1 := (hb1.cell (p := ⟨w.heap.size, 0, none⟩) (by simp; omega)).trans hs; have hsz1 := hb1.size)
      have ho2 := ownsRow_setCell_below hown' (a := ⟨w.heap.size + 1 + 1, 0, none⟩) (by simp) (Value.slice ao1 (T.length + 1) cap1)
      have hc2 := World.cell?_setCell_same' w1 ⟨w.heap.size + 1 + 1, 0, none⟩ (Value.slice ao1 (T.length + 1) cap1) (by rw [hc1]; rfl)
      have hf2 : (w1.setCell ⟨w.heap.size + 1 + 1, 0, none⟩ (Value.slice ao1 (T.length + 1) cap1)).frozen? ⟨w.heap.size + 1 + 1, 0, none⟩ = false := by rw [World.frozen?_setCell]; exact hf1
      have hs2 : (w1.setCell ⟨w.heap.size + 1 + 1, 0, none⟩ (Value.slice ao1 (T.length + 1) cap1)).cell? ⟨w.heap.size, 0, none⟩ = some (.int .u8 46) := by
        rw [World.cell?_setCell_other _ _ _ _ (fun q => by have := congrArg Addr.block q; simp at this <;> omega)]; exact hs1
      have ha2 : (w1.setCell ⟨w.heap.size + 1 + 1, 0, none⟩ (Value.slice ao1 (T.length + 1) cap1)).cell? ⟨w.heap.size + 1, 0, none⟩ = some (.func (.func 21) #[] #[]) := by
        rw [World.cell?_setCell_other _ _ _ _ (fun q => by have := congrArg Addr.block q; simp at this <;> omega)]; exact ha1
      have hk2 := hk1.trans (KeepsOthers.setCell w1 ⟨w.heap.size + 1 + 1, 0, none⟩ (Value.slice ao1 (T.length + 1) cap1))
      have hb2 := (hb1.mono (show w.heap.size ≤ w.heap.size + 1 + 1 + 1 by omega)).setCell (p := ⟨w.heap.size + 1 + 1, 0, none⟩) (by simp; omega) (Value.slice ao1 (T.length + 1) cap1)
      generalize w1.setCell ⟨w.heap.size + 1 + 1, 0, none⟩ (Value.slice ao1 (T.length + 1) cap1) = W2 at ho2 hc2 hf2 hs2 ha2 hk2 hb2 ⊢
      have hsz2 := hb2.size
      have hbW2 := hBW.trans hb2
      clear hc1 hf1 hs1 ha1 hb1 hk1 hown' hgrow hsz1 hv hf hs ha hrow hi hz0 hz1 hz2
      refine ⟨trivial, ?_⟩
      refine ((callsIn_wide.2 (HA.out _ _ _ _ ho2 (by omega) (by omega) hbW2)).inRound l).mono ?_
      rintro e w3 ⟨⟨ao3, cap3, rfl, hv3⟩, hb3, hk3⟩
      have hc3 := (hb3.cell (p := ⟨w.heap.size + 1 + 1, 0, none⟩) (by simp)).trans hc2
      have hf3 := (hb3.frozen (p := ⟨w.heap.size + 1 + 1, 0, none⟩) (by simp)).trans hf2
      gi_wp2
      refine ⟨(hk2.trans hk3).trans (KeepsOthers.setCell _ _ _), (hb2.trans (hb3.mono (by omega))).setCell (p := ⟨w.heap.size + 1 + 1, 0, none⟩) (by simp; omega) _, ⟨⟨_, World.cell?_setCell_same' _ _ _ (by rw [hc3]; rfl), by rw [World.frozen?_setCell]; exact hf3, ?_⟩, ?_, ?_⟩, (hbW2.trans (hb3.mono (by omega))).setCell (p := ⟨w.heap.size + 1 + 1, 0, none⟩) (by simp; omega) _⟩
      · have h := ownsRow_setCell_below hv3 (a := ⟨w.heap.size + 1 + 1, 0, none⟩) (by simp) (Value.slice ao3 (T.length + 1 + (txt bv.toNat).length) cap3)
        rw [hsn.out, List.length_append, List.length_append, List.map_append, List.map_append]
        exact h
      · rw [World.cell?_setCell_other _ _ _ _ (fun q => by have := congrArg Addr.block q; simp at this <;> omega)]
        exact (hb3.cell (p := ⟨w.heap.size, 0, none⟩) (by simp; omega)).trans hs2
      · rw [World.cell?_setCell_other _ _ _ _ (fun q => by have := congrArg Addr.block q; simp at this <;> omega)]
        exact (hb3.cell (p := ⟨w.heap.size + 1, 0, none⟩) (by simp)).trans ha2
  case done =>
    rintro D ys W hD rfl ⟨⟨⟨v, hv, hf, hrow⟩, hs, ha⟩, hBW⟩ hK
    have hcv := own_string hrow
    obtain ⟨ao, cap, rfl⟩ := own_slice hrow
    clear hrow
    gi_wp2
    refine ⟨by simp, .inl ⟨_, _, rfl, run_takeDeferred hK, ?_⟩⟩
    exact ⟨_, results_tmp rfl _ _ _, rfl, hBW.trans (belowK_b (w := w) (Nat.le_refl _) W D _ _ (by rw [hS0] at hD; omega) hK rfl rfl)⟩
  case stop =>
    rintro D c pre W _ _ h _
    exact h.elim

theorem writeIP_any (B : Nat) (N : Int) (h0N : 0 ≤ N) (w : World) (hB : B + 1 < w.heap.size) (hc : w.cell? ⟨B, 0, none⟩ = some (.int .u32 N)) (hc2 : w.cell? ⟨B + 1, 0, none⟩ = some (.int .i64 4)) (hT : Tabs w)
    (txt : Nat → List Nat) (htx : ∀ b, b < 256 → (txt b).length ≤ 3) (hA : Adds 21 txt) :
    Calls Tryd.prog 19 #[.func (.func 36) #[] #[.pointer (some ⟨B + 1, 0, none⟩), .pointer (some ⟨B, 0, none⟩)], .int .u8 46, .func (.func 21) #[] #[]] w fun r W' => r = .returned (.string (strOfNums ((wrt 46 txt (fun i => (bytIP N i).toNat) (upto finIP 4)).map (fun b : Nat => (b : Int))))) ∧ Below w.heap.size w W' :=
  callsIn_wide.1 (writeIP_in B N h0N w hB hc hc2 hT txt htx hA)

set_option maxRecDepth 100000 in
set_option maxHeartbeats 8000000 in
theorem writeESI_in (B : Nat) (e : Nat → Int) (hbd : ∀ j, 0 ≤ e j ∧ e j < 256) (w : World) (hB : B < w.heap.size) (hc : ∀ j, j < 10 → w.cell? ⟨B, j, none⟩ = some (.int .u8 (e j))) (hT : Tabs w)
    (txt : Nat → List Nat) (htx : ∀ b, b < 256 → (txt b).length ≤ 3) (hA : Adds 25 txt) :
    CallsIn Fence.wide 5 Tryd.prog 19 #[.func (.func 38) #[] #[.pointer (some ⟨B, 0, none⟩)], .int .u8 58, .func (.func 25) #[] #[]] w fun r W' => r = .returned (.string (strOfNums ((wrt 58 txt (fun i => (e i).toNat) (upto fin 10)).map (fun b : Nat => (b : Int))))) ∧ Below w.heap.size w W' := by
  obtain ⟨i0, hi, hz0, hz1, hz2⟩ := info_parts (show (Tryd.prog.info? 5).map (fun i => (i.zero, i.size, i.bytes)) = some (some (.int .u8 0), 1, 1) by kernel_rfl)
  have HC := Lib.hid hc
  clear hc
  refine callsIn_of_wp_marks Tryd.func19 rfl trivial ?_ rfl
  simp only [Tryd.ntmps19, List.size_toArray, List.length_cons, List.length_nil, Nat.reduceAdd, Nat.reduceSub, Array.replicate_succ, Array.replicate_zero, List.push_toArray, List.append_toArray, List.nil_append, List.cons_append]
  gi_wp2
  have hS0 : (((w.alloc (.cells #[.int .u8 58] 5)).alloc (.cells #[.func (.func 25) #[] #[]] 57)).alloc (.cells #[.slice none 0 0] 58)).heap.size = w.heap.size + 1 + 1 + 1 := by simp
  have hs0 := ((Boxed.new w 5 (.int .u8 58)).alloc (.cells #[.func (.func 25) #[] #[]] 57)).alloc (.cells #[.slice none 0 0] 58)
  have ha0 := (Boxed.new (w.alloc (.cells #[.int .u8 58] 5)) 57 (.func (.func 25) #[] #[])).alloc (.cells #[.slice none 0 0] 58)
  have ht0 := Boxed.new ((w.alloc (.cells #[.int .u8 58] 5)).alloc (.cells #[.func (.func 25) #[] #[]] 57)) 58 (.slice none 0 0)
  simp only [World.size_alloc] at ha0 ht0
  have hB0 : Below w.heap.size w (((w.alloc (.cells #[.int .u8 58] 5)).alloc (.cells #[.func (.func 25) #[] #[]] 57)).alloc (.cells #[.slice none 0 0] 58)) := (((Below.refl _ w).alloc (Nat.le_refl _) _).alloc (by simp) _).alloc (by simp; omega) _
  refine wpIn_rangeFunc_ownF rfl (by decide) (gf := 38) (lb := #[.pointer (some ⟨B, 0, none⟩)]) rfl trivial (enters_of Tryd.func38 (by kernel_rfl) rfl)
    (octets_stops Fence.wide (5 - 1) trivial rfl (by decide) B w.heap.size e _ (by rw [hS0]; omega) (fun j hj => (hB0.cell (p := ⟨B, j, none⟩) hB).trans (HC.out j hj))) belowK_t (belowK_b (by rw [hS0]; omega)) (Below.refl _ _) (fun _ => rfl)
    (fun pre W => ((∃ v, W.cell? ⟨w.heap.size + 1 + 1, 0, none⟩ = some v ∧ W.frozen? ⟨w.heap.size + 1 + 1, 0, none⟩ = false ∧ W.ownsRow (w.heap.size + 1 + 1 + 1) 5 1 v (wrt 58 txt (fun i => (e i).toNat) pre).length ((wrt 58 txt (fun i => (e i).toNat) pre).map byteV)) ∧ W.cell? ⟨w.heap.size, 0, none⟩ = some (.int .u8 58) ∧ W.cell? ⟨w.heap.size + 1, 0, none⟩ = some (.func (.func 25) #[] #[])) ∧ Below w.heap.size w W)
    (fun _ _ _ => False)
    (OwnFrom.and (Own.from (fun s A B row hs hg hr => ⟨⟨_, cell_kept hs.1.choose_spec.1 hg hr, (frozen_kept hs.1.choose_spec.1 hg hr).trans hs.1.choose_spec.2.1, own_kept hs.1.choose_spec.2.2 hg hr⟩, cell_kept hs.2.1 hg hr, cell_kept hs.2.2 hg hr⟩) _) (ownFrom_below (Nat.le_refl _) (by rw [hS0]; omega)))
    (fun _ _ _ _ _ hs _ _ => hs)
    ⟨⟨⟨_, ht0.cell, ht0.frozen, World.ownsRow_nil _ _ _ _⟩, hs0.cell, ha0.cell⟩, hB0⟩
    (fun x => { tmps := #[.func (.func 38) #[] #[.pointer (some ⟨B, 0, none⟩)], .int .u8 58, .func (.func 25) #[] #[], undef, .pointer (some ⟨w.heap.size, 0, none⟩), .pointer (some ⟨w.heap.size + 1, 0, none⟩), .string ⟨#[]⟩, .pointer (some ⟨w.heap.size + 1 + 1, 0, none⟩), .int .i64 (x.val : Int), .int .u8 (e x.val), .func (.func 38) #[] #[.pointer (some ⟨B, 0, none⟩)], .int .i64 (x.val : Int), .int .u8 (e x.val), undef, undef, undef, undef, undef, undef, undef, undef, undef, undef, undef, undef], defers := [] }) ?assign ?body ?done ?stop
  case assign =>
    intro l x W K hK
    gi_wp2
    exact hK
  case body =>
    rintro l pre x W ⟨⟨⟨v, hv, hf, hrow⟩, hs, ha⟩, hBW⟩ hlt
    have hb0 : ∀ i, 0 ≤ e i ∧ e i < 256 := hbd
    have hlen := wrt_len 58 txt (fun i => (e i).toNat) htx (fun i _ => by have := hb0 i; omega) pre
    have hsn : wrt 58 txt (fun i => (e i).toNat) (pre ++ [x]) = wrt 58 txt (fun i => (e i).toNat) pre ++ (if 0 < x.val then [58] else []) ++ txt (e x.val).toNat := wrt_snoc _ _ _ pre x
    have hb256 : (e x.val).toNat < 256 := by have := hb0 x.val; omega
    have hAx : ∀ (n : Nat) (sv : Value) (xs : List Value) (W1 : World), W1.ownsRow (w.heap.size + 1 + 1 + 1) 5 1 sv n xs → w.heap.size + 1 + 1 + 1 ≤ W1.heap.size → n ≤ 100 → Below w.heap.size w W1 →
        Calls Tryd.prog 25 #[sv, .int .u8 (e x.val)] W1 fun r w' => (∃ ao cap, r = .returned (.slice ao (n + (txt (e x.val).toNat).length) cap) ∧ w'.ownsRow (w.heap.size + 1 + 1 + 1) 5 1 (.slice ao (n + (txt (e x.val).toNat).length) cap) (n + (txt (e x.val).toNat).length) (xs ++ (txt (e x.val).toNat).map byteV)) ∧ Below (w.heap.size + 1 + 1 + 1) W1 w' ∧ KeepsOthers W1 w' := by
      intro n sv xs W1 ho hle hn hbw
      have h := hA (w.heap.size + 1 + 1 + 1) n (e x.val).toNat sv xs W1 hb256 ho hle (by omega) (fun w' hb => hT.below (hbw.trans (hb.mono (by omega))))
      rw [Int.toNat_of_nonneg (hb0 x.val).1] at h
      refine h.mono ?_
      rintro e w' ⟨⟨v', rfl, hv'⟩, h2⟩
      obtain ⟨ao, cap, rfl⟩ := own_slice hv'
      exact ⟨⟨ao, cap, rfl, hv'⟩, h2⟩
    have HA := Lib.hid hAx
    clear hAx
    obtain ⟨ao, cap, rfl⟩ := own_slice hrow
    have hbs : w.heap.size + 1 + 1 < W.heap.size := block_lt_of_cell hv
    generalize wrt 58 txt (fun i => (e i).toNat) pre = T at hsn hlen hrow hv
    have hxl := x.isLt
    have hT100 : T.length ≤ 4 * 10 := by omega
    generalize e x.val = bv at HA hsn hb256 ⊢
    clear hA htx hlen hb0 hT HC hs0 ha0 ht0 hB0 hS0
    by_cases hx : x.val = 0
    · rw [if_neg (by omega), List.append_nil] at hsn
      replace hsn := Lib.hid hsn
      have hx0 : ¬ (0 < (x.val : Int)) := by omega
      clear hx
      gi_wp2_with (refine ⟨trivial, ?_⟩; gi_at_call 25; refine ((callsIn_wide.2 (HA.out _ _ _ _ hrow (by omega) (by omega) hBW)).inRound l).mono ?_; rintro e w2 ⟨⟨ao2, cap2, rfl, hv2⟩, hb2, hk2⟩; have hc2 := (hb2.cell (p := ⟨w.heap.size + 1 + 1, 0, none⟩) (by simp)).trans hv; have hf2 := (hb2.frozen (p := ⟨w.heap.size + 1 + 1, 0, none⟩) (by simp)).trans hf)
      refine ⟨hk2.trans (KeepsOthers.setCell _ _ _), (hb2.mono (by omega)).setCell (p := ⟨w.heap.size + 1 + 1, 0, none⟩) (by simp; omega) _, ⟨⟨_, World.cell?_setCell_same' _ _ _ (by rw [hc2]; rfl), by rw [World.frozen?_setCell]; exact hf2, ?_⟩, ?_, ?_⟩, (hBW.trans (hb2.mono (by omega))).setCell (p := ⟨w.heap.size + 1 + 1, 0, none⟩) (by simp; omega) _⟩
      · rw [hsn.out, List.length_append, List.map_append]
        exact ownsRow_setCell_below hv2 (by simp) _
      · rw [World.cell?_setCell_other _ _ _ _ (fun q => by have := congrArg Addr.block q; simp at this <;> omega)]
        exact (hb2.cell (p := ⟨w.heap.size, 0, none⟩) (by simp; omega)).trans hs
      · rw [World.cell?_setCell_other _ _ _ _ (fun q => by have := congrArg Addr.block q; simp at this <;> omega)]
        exact (hb2.cell (p := ⟨w.heap.size + 1, 0, none⟩) (by simp)).trans ha
    · rw [if_pos (by omega)] at hsn
      replace hsn := Lib.hid hsn
      have hx0 : 0 < (x.val : Int) := by omega
      clear hx
      gi_wp2_with (gi_at_builtin; refine wpListIn_append_own _ rfl _ _ 58 rfl (w.heap.size + 1 + 1 + 1) 5 i0 (.int .u8 0) 1 1 Tryd.underlying58 hi hz0 hz1 hz2 rfl (by decide) _ _ _ rfl (hrow.alloc _) ⟨W.heap.size, 0, none⟩ 1 1 [byteV 58] rfl rfl (cell_one_new _ _ _) (fun y hy => by simp at hy; subst hy; rfl) (by unfold maxLen; omega) (by omega) (by simp; omega) ?_; intro v' w1 hown' hgrow _; obtain ⟨ao1, cap1, rfl⟩ := own_slice hown'; have hb1 : Below (w.heap.size + 1 + 1 + 1) W w1 := ((Below.refl _ _).alloc (by omega) _).grown hgrow (by simp; omega) (fun q hq => (hrow.lt q hq).1); have hk1 : KeepsOthers W w1 := (KeepsOthers.alloc _ _).trans (own_others (hrow.alloc _) hgrow); have hc1 := (hb1.cell (p := ⟨w.heap.size + 1 + 1, 0, none⟩) (by simp)).trans hv; have hf1 := (hb1.frozen (p := ⟨w.heap.size + 1 + 1, 0, none⟩) (by simp)).trans hf; have ha1 := (hb1.cell (p := ⟨w.heap.size + 1, 0, none⟩) (by simp)).trans ha; have hs1 := (hb1.cell (p := ⟨w.heap.size, 0, none⟩) (by simp; omega)).trans hs; have hsz1 := hb1.size)
      have ho2 := ownsRow_setCell_below hown' (a := ⟨w.heap.size + 1 + 1, 0, none⟩) (by simp) (Value.slice ao1 (T.length + 1) cap1)
      have hc2 := World.cell?_setCell_same' w1 ⟨w.heap.size + 1 + 1, 0, none⟩ (Value.slice ao1 (T.length + 1) cap1) (by rw [hc1]; rfl)
      have hf2 : (w1.setCell ⟨w.heap.size + 1 + 1, 0, none⟩ (Value.slice ao1 (T.length + 1) cap1)).frozen? ⟨w.heap.size + 1 + 1, 0, none⟩ = false := by rw [World.frozen?_setCell]; exact hf1
      have hs2 : (w1.setCell ⟨w.heap.size + 1 + 1, 0, none⟩ (Value.slice ao1 (T.length + 1) cap1)).cell? ⟨w.heap.size, 0, none⟩ = some (.int .u8 58) := by
        rw [World.cell?_setCell_other _ _ _ _ (fun q => by have := congrArg Addr.block q; simp at this <;> omega)]; exact hs1
      have ha2 : (w1.setCell ⟨w.heap.size + 1 + 1, 0, none⟩ (Value.slice ao1 (T.length + 1) cap1)).cell? ⟨w.heap.size + 1, 0, none⟩ = some (.func (.func 25) #[] #[]) := by
        rw [World.cell?_setCell_other _ _ _ _ (fun q => by have := congrArg Addr.block q; simp at this <;> omega)]; exact ha1
      have hk2 := hk1.trans (KeepsOthers.setCell w1 ⟨w.heap.size + 1 + 1, 0, none⟩ (Value.slice ao1 (T.length + 1) cap1))
      have hb2 := (hb1.mono (show w.heap.size ≤ w.heap.size + 1 + 1 + 1 by omega)).setCell (p := ⟨w.heap.size + 1 + 1, 0, none⟩) (by simp; omega) (Value.slice ao1 (T.length + 1) cap1)
      generalize w1.setCell ⟨w.heap.size + 1 + 1, 0, none⟩ (Value.slice ao1 (T.length + 1) cap1) = W2 at ho2 hc2 hf2 hs2 ha2 hk2 hb2 ⊢
      have hsz2 := hb2.size
      have hbW2 := hBW.trans hb2
      clear hc1 hf1 hs1 ha1 hb1 hk1 hown' hgrow hsz1 hv hf hs ha hrow hi hz0 hz1 hz2
      refine ⟨trivial, ?_⟩
      refine ((callsIn_wide.2 (HA.out _ _ _ _ ho2 (by omega) (by omega) hbW2)).inRound l).mono ?_
      rintro e w3 ⟨⟨ao3, cap3, rfl, hv3⟩, hb3, hk3⟩
      have hc3 := (hb3.cell (p := ⟨w.heap.size + 1 + 1, 0, none⟩) (by simp)).trans hc2
      have hf3 := (hb3.frozen (p := ⟨w.heap.size + 1 + 1, 0, none⟩) (by simp)).trans hf2
      gi_wp2
      refine ⟨(hk2.trans hk3).trans (KeepsOthers.setCell _ _ _), (hb2.trans (hb3.mono (by omega))).setCell (p := ⟨w.heap.size + 1 + 1, 0, none⟩) (by simp; omega) _, ⟨⟨_, World.cell?_setCell_same' _ _ _ (by rw [hc3]; rfl), by rw [World.frozen?_setCell]; exact hf3, ?_⟩, ?_, ?_⟩, (hbW2.trans (hb3.mono (by omega))).setCell (p := ⟨w.heap.size + 1 + 1, 0, none⟩) (by simp; omega) _⟩
      · have h := ownsRow_setCell_below hv3 (a := ⟨w.heap.size + 1 + 1, 0, none⟩) (by simp) (Value.slice ao3 (T.length + 1 + (txt bv.toNat).length) cap3)
        rw [hsn.out, List.length_append, List.length_append, List.map_append, List.map_append]
        exact h
      · rw [World.cell?_setCell_other _ _ _ _ (fun q => by have := congrArg Addr.block q; simp at this <;> omega)]
        exact (hb3.cell (p := ⟨w.heap.size, 0, none⟩) (by simp; omega)).trans hs2
      · rw [World.cell?_setCell_other _ _ _ _ (fun q => by have := congrArg Addr.block q; simp at this <;> omega)]
        exact (hb3.cell (p := ⟨w.heap.size + 1, 0, none⟩) (by simp)).trans ha2
  case done =>
    rintro D ys W hD rfl ⟨⟨⟨v, hv, hf, hrow⟩, hs, ha⟩, hBW⟩ hK
    have hcv := own_string hrow
    obtain ⟨ao, cap, rfl⟩ := own_slice hrow
    clear hrow
    gi_wp2
    refine ⟨by simp, .inl ⟨_, _, rfl, run_takeDeferred hK, ?_⟩⟩
    exact ⟨_, results_tmp rfl _ _ _, rfl, hBW.trans (belowK_b (w := w) (Nat.le_refl _) W D _ _ (by rw [hS0] at hD; omega) hK rfl rfl)⟩
  case stop =>
    rintro D c pre W _ _ h _
    exact h.elim

theorem writeESI_any (B : Nat) (e : Nat → Int) (hbd : ∀ j, 0 ≤ e j ∧ e j < 256) (w : World) (hB : B < w.heap.size) (hc : ∀ j, j < 10 → w.cell? ⟨B, j, none⟩ = some (.int .u8 (e j))) (hT : Tabs w)
    (txt : Nat → List Nat) (htx : ∀ b, b < 256 → (txt b).length ≤ 3) (hA : Adds 25 txt) :
    Calls Tryd.prog 19 #[.func (.func 38) #[] #[.pointer (some ⟨B, 0, none⟩)], .int .u8 58, .func (.func 25) #[] #[]] w fun r W' => r = .returned (.string (strOfNums ((wrt 58 txt (fun i => (e i).toNat) (upto fin 10)).map (fun b : Nat => (b : Int))))) ∧ Below w.heap.size w W' :=
  callsIn_wide.1 (writeESI_in B e hbd w hB hc hT txt htx hA)
end Go.Proofs.YtipmfcbpkbkceaaDoor
