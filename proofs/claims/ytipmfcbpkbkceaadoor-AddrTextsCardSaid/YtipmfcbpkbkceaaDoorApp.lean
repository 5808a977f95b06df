/- appendHex, appendDecimal: the text of one byte. The tables that strconv reads are as the program lays them. -/
import Derived.Test.YtipmfcbpkbkceaaDoorHxb
import Derived.Lib.SmallJoins
namespace Go.Proofs.YtipmfcbpkbkceaaDoor
open Go.RowKit Go.Shelf Go.Sort
set_option linter.unusedVariables false
set_option linter.unusedSimpArgs false

/-- The tables that strconv reads. -/
def Tabs (w : World) : Prop := w.cell? ⟨5, 15, none⟩ = some (.int .u8 4) ∧ Lib.TabIs Tryd.prog w "internal/strconv.uint64pow10" .u64 Lib.pow10Tab
theorem Tabs.below {w w' : World} (h : Tabs w) (hb : Below w.heap.size w w') : Tabs w' :=
  ⟨(hb.cell (p := ⟨5, 15, none⟩) (block_lt_of_cell h.1)).trans h.1, Lib.tabBelow_of_tabIs h.2 w' hb⟩

/-- What a function says that appends the text of a byte. -/
def Adds (f : Nat) (txt : Nat → List Nat) : Prop := ∀ (B n b : Nat) (sv : Value) (xs : List Value) (w : World), b < 256 → w.ownsRow B 5 1 sv n xs → B ≤ w.heap.size → n + 40 ≤ 140737488355328 → (∀ w', Below B w w' → Tabs w') →
  Calls Tryd.prog f #[sv, .int .u8 (b : Int)] w fun e w' => (∃ v', e = .returned v' ∧ w'.ownsRow B 5 1 v' (n + (txt b).length) (xs ++ (txt b).map byteV)) ∧ Below B w w' ∧ KeepsOthers w w'

theorem others_of {w w' : World} (h : Lib.OthersKept 5 none w w') (hs : w.heap.size ≤ w'.heap.size) : KeepsOthers w w' :=
  ⟨hs, fun k o hk ho => h k o hk (fun e => by cases e) (fun c fz e => by rw [e] at ho; cases ho)⟩

def hexTxt (b : Nat) : List Nat := [hexd (b / 16), hexd (b % 16)]
def decTxt (b : Nat) : List Nat := (Lib.decDigits b).map (·.toNat)

set_option maxHeartbeats 4000000 in
set_option maxRecDepth 100000 in
theorem appendHex_is : Adds 25 hexTxt := by
  intro B n b sv xs w hb hown hBw hlim hTB
  obtain ⟨i0, hi, hz0, hz1, hz2⟩ := info_parts (show (Tryd.prog.info? 5).map (fun i => (i.zero, i.size, i.bytes)) = some (some (.int .u8 0), 1, 1) by kernel_rfl)
  by_cases h : b < 16
  · have hd : hexTxt b = [48, hexd b] := by
      unfold hexTxt
      rw [Nat.div_eq_of_lt h, Nat.mod_eq_of_lt h]
      rfl
    have hx : hexDig b = [byteV (hexd b)] := by unfold hexDig; rw [if_pos h]
    rw [hd]
    go_enter Tryd.func25, Tryd.ntmps25
    go_wp2_with (at_builtin; refine wpList_append_own _ rfl _ _ 58 rfl B 5 i0 (.int .u8 0) 1 1 Tryd.underlying58 hi hz0 hz1 hz2 rfl (by decide) _ _ _ rfl (hown.alloc _) ⟨w.heap.size, 0, none⟩ 1 1 [byteV 48] rfl rfl (cell_one_new _ _ _) (fun y hy => by simp at hy; subst hy; rfl) (by unfold maxLen; omega) (by omega) (by simp; omega) ?_; intro v' w3 hown' hgrow3 hnil3)
    have HB : Below B w w3 := ((Below.refl _ _).alloc hBw _).grown hgrow3 (by simp; omega) (fun q hq => (hown.lt q hq).1)
    have HK : KeepsOthers w w3 := (KeepsOthers.alloc _ _).trans (own_others (hown.alloc _) hgrow3)
    have h3 : B ≤ w3.heap.size := Nat.le_trans hBw HB.size
    have hC := appendUint16 B (n + 1) b hb v' _ w3 hown' h3 (by omega) (hTB _ HB).1
    rw [hx] at hC
    clear hown hown' hgrow3 hnil3 hi hTB
    go_at_call 37
    refine hC.mono ?_
    rintro e w4 ⟨⟨v4, rfl, hv⟩, hb4⟩
    go_wp2
    go_ret
    refine ⟨⟨_, rfl, ?_⟩, HB.trans hb4.1, HK.trans hb4.2⟩
    have e1 : n + 1 + [byteV (hexd b)].length = n + [48, hexd b].length := rfl
    rw [e1] at hv
    simpa using hv
  · have hx : hexDig b = (hexTxt b).map byteV := by unfold hexDig; rw [if_neg h]; rfl
    have hC := appendUint16 B n b hb sv xs w hown hBw (by omega) (hTB _ (Below.refl _ _)).1
    rw [hx, List.length_map] at hC
    clear hown hi hTB
    go_enter Tryd.func25, Tryd.ntmps25
    go_wp2_with (go_at_call 37; refine hC.mono ?_; rintro e w4 ⟨⟨v4, rfl, hv⟩, hb4⟩)
    go_ret
    exact ⟨⟨_, rfl, hv⟩, hb4⟩

theorem appendDecimal_is : Adds 21 decTxt := by
  intro B n b sv xs w hb hown hBw hlim hTB
  have hC := Tryd.internal_strconv_AppendUint_10 B n b (by omega) sv xs w hown hBw (by omega) (hTB _ (Below.refl _ _)).2
  have hm : (decTxt b).map byteV = Lib.byteCells (Lib.decDigits b) := by simp [decTxt, byteV, Lib.byteCells, List.map_map, Function.comp_def]
  have hl : (decTxt b).length = (Lib.decDigits b).length := by simp [decTxt]
  rw [hm, hl]
  clear hown hTB
  have hD : Calls Tryd.prog 37 #[sv, .int .u64 (b : Int), .int .i64 10] w fun e w' => (∃ v', e = .returned v' ∧ w'.ownsRow B 5 1 v' (n + (Lib.decDigits b).length) (xs ++ Lib.byteCells (Lib.decDigits b))) ∧ Below B w w' ∧ KeepsOthers w w' := by
    go_enter Tryd.func37, Tryd.ntmps37
    go_wp2_with (go_at_call 44; refine hC.mono ?_; rintro e w' ⟨v', rfl, hv, hb', hok⟩)
    go_ret
    exact ⟨⟨_, rfl, hv⟩, hb', others_of hok hb'.size⟩
  clear hC
  go_enter Tryd.func21, Tryd.ntmps21
  go_wp2_with (go_at_call 37; refine hD.mono ?_; rintro e w' ⟨⟨v', rfl, hv⟩, hb'⟩)
  go_ret
  exact ⟨⟨_, rfl, hv⟩, hb'⟩
end Go.Proofs.YtipmfcbpkbkceaaDoor
