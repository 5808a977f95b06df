/- ParsePrefix. The variables that the readers name hold what they hold. -/
import Derived.Test.YtipmfcbpkbkceaaDoorRnu
import Derived.Test.YtipmfcbpkbkceaaDoorCln
namespace Go.Proofs.YtipmfcbpkbkceaaDoor
open Go.RowKit Go.Shelf Go.Sort
set_option linter.unusedVariables false
set_option linter.unusedSimpArgs false

def pfxErr (c : Int) : Value := .tuple #[.agg #[.int .u32 0, .int .i64 0], .int .i64 c]
def pfxRes (s : List UInt8) : Value := match groups 46 decRd 4 (Lib.cut s [47]).1, decRd ⟨(Lib.cut s [47]).2.1.toArray⟩ with
  | some l, some n => if n ≤ 32 then (if cln (numB l) n = numB l then .tuple #[.agg #[.int .u32 (numB l : Int), .int .i64 (n : Int)], .int .i64 0] else pfxErr 3) else pfxErr 19
  | _, _ => pfxErr 19
/-- A box of two cells that was made at w's top, later on. -/
theorem box2_on {w w1 : World} {x y : Value} {T : TypeId} (h : Below (w.alloc (.cells #[x, y] T)).heap.size (w.alloc (.cells #[x, y] T)) w1) :
    w1.cell? ⟨w.heap.size, 0, none⟩ = some x ∧ w1.cell? ⟨w.heap.size, 1, none⟩ = some y ∧ w1.frozen? ⟨w.heap.size, 0, none⟩ = false ∧ w1.frozen? ⟨w.heap.size, 1, none⟩ = false ∧ w.heap.size < w1.heap.size :=
  ⟨(h.cell (p := ⟨w.heap.size, 0, none⟩) (by simp)).trans (cell2_new w x y T).1, (h.cell (p := ⟨w.heap.size, 1, none⟩) (by simp)).trans (cell2_new w x y T).2,
   (h.frozen (p := ⟨w.heap.size, 0, none⟩) (by simp)).trans (World.frozen?_alloc_at _ _ _ _ rfl), (h.frozen (p := ⟨w.heap.size, 1, none⟩) (by simp)).trans (World.frozen?_alloc_at _ _ _ _ rfl),
   by have := h.size; simp at this; omega⟩
theorem set2 (W : World) (b : Nat) (x y x0 y0 : Value) (h0 : W.cell? ⟨b, 0, none⟩ = some x0) (h1 : W.cell? ⟨b, 1, none⟩ = some y0) :
    ((W.setCell ⟨b, 0, none⟩ x).setCell ⟨b, 1, none⟩ y).cell? ⟨b, 0, none⟩ = some x ∧ ((W.setCell ⟨b, 0, none⟩ x).setCell ⟨b, 1, none⟩ y).cell? ⟨b, 1, none⟩ = some y := by
  constructor
  · rw [World.cell?_setCell_other _ _ _ _ (fun q => by have := congrArg Addr.off q; simp at this)]
    exact World.cell?_setCell_same' _ _ _ (by rw [h0]; rfl)
  · refine World.cell?_setCell_same' _ _ _ ?_
    rw [World.cell?_setCell_other _ _ _ _ (fun q => by have := congrArg Addr.off q; simp at this), h1]
    rfl

set_option maxHeartbeats 8000000 in
set_option maxRecDepth 100000 in
theorem parsePrefix_none1 (s : List UInt8) (hs : s.length < 4294967281) (w : World) (hV : Vars w) (hG : groups 46 decRd 4 (Lib.cut s [47]).1 = none) (hD : decRd ⟨(Lib.cut s [47]).2.1.toArray⟩ = decRd ⟨(Lib.cut s [47]).2.1.toArray⟩) :
    Calls Tryd.prog 13 #[.string ⟨s.toArray⟩] w fun e w' => e = .returned (pfxErr 19) ∧ Below w.heap.size w w' := by
  have hb0 : Below w.heap.size w (w.alloc (.cells #[.int .u32 0, .int .i64 0] 27)) := (Below.refl w.heap.size w).alloc (Nat.le_refl _) _
  have hV1 := hV.below hb0
  have hC := cut_is s 47 hs _ hV1
  have hcl := cut_len s [47]
  generalize Lib.cut s [47] = X at hC hcl hG hD
  obtain ⟨g, r, m⟩ := X
  simp only at hC hcl hG hD
  have HC := Lib.hid hC
  have HV := Lib.hid hV1
  have HG := Lib.hid hG
  have HD := Lib.hid hD
  have HB := Lib.hid hb0
  clear hC hV1 hV hG hD hb0
  go_enter Tryd.func13, Tryd.ntmps13
  go_wp2_with (go_at_call 32; refine HC.out.mono ?_; rintro e w1 ⟨rfl, hb1⟩)
  have hV2 := HV.out.below hb1
  clear HV HC
  have hP := parseIP_is g (by omega) w1 hV2
  rw [HG.out] at hP
  simp only [numResIP] at hP
  go_at_call 5
  refine hP.mono ?_
  rintro e w2 ⟨rfl, hb2⟩
  have hV3 := hV2.below hb2
  have hbT := hb1.trans (hb2.mono hb1.size)
  clear hV2 hP hb1 hb2
  have hR := readDecimal_is ⟨r.toArray⟩ (by simp [ByteArray.size]; omega) w2 hV3.2
  have HR := Lib.hid hR
  clear hR
  go_wp2_with (go_at_call 18; refine HR.out.mono ?_; rintro e w3 ⟨⟨b, rfl, hbv⟩, hb3⟩; have hbT := hbT.trans (hb3.mono hbT.size); obtain ⟨c0, c1, f0, f1, hz⟩ := box2_on hbT)
  clear hbv
  have s2 := set2 w3 w.heap.size (.int .u32 0) (.int .i64 0) _ _ c0 c1
  have k0 : (((w3.setCell ⟨w.heap.size, 0, none⟩ (.int .u32 0)).setCell ⟨w.heap.size, 1, none⟩ (.int .i64 0)).alloc (.cells #[.int .u32 0, .int .i64 (wrap64 b)] 27)).cell? ⟨w.heap.size, 0, none⟩ = some (.int .u32 0) := by
    rw [World.cell?_alloc_lt _ _ _ (by simpa using hz)]; exact s2.1
  have k1 : (((w3.setCell ⟨w.heap.size, 0, none⟩ (.int .u32 0)).setCell ⟨w.heap.size, 1, none⟩ (.int .i64 0)).alloc (.cells #[.int .u32 0, .int .i64 (wrap64 b)] 27)).cell? ⟨w.heap.size, 1, none⟩ = some (.int .i64 0) := by
    rw [World.cell?_alloc_lt _ _ _ (by simpa using hz)]; exact s2.2
  have hB3 : Below w.heap.size w w3 := HB.out.trans (hbT.mono (by simp))
  have hBF : Below w.heap.size w (((w3.setCell ⟨w.heap.size, 0, none⟩ (.int .u32 0)).setCell ⟨w.heap.size, 1, none⟩ (.int .i64 0)).alloc (.cells #[.int .u32 0, .int .i64 (wrap64 b)] 27)) := ((hB3.setCell (p := ⟨w.heap.size, 0, none⟩) (by simp) _).setCell (p := ⟨w.heap.size, 1, none⟩) (by simp) _).alloc (by simp; omega) _
  generalize (((w3.setCell ⟨w.heap.size, 0, none⟩ (.int .u32 0)).setCell ⟨w.heap.size, 1, none⟩ (.int .i64 0)).alloc (.cells #[.int .u32 0, .int .i64 (wrap64 b)] 27)) = WF at k0 k1 hBF ⊢
  exact bodyPost_ret (v := pfxErr 19) (by simp [results, Tryd.results13, go_sem, k0, k1, pfxErr]) rfl ⟨rfl, hBF⟩

set_option maxHeartbeats 8000000 in
set_option maxRecDepth 100000 in
theorem parsePrefix_none2 (s : List UInt8) (hs : s.length < 4294967281) (w : World) (hV : Vars w) (l : List Nat) (hG : groups 46 decRd 4 (Lib.cut s [47]).1 = some l) (hD : decRd ⟨(Lib.cut s [47]).2.1.toArray⟩ = none) :
    Calls Tryd.prog 13 #[.string ⟨s.toArray⟩] w fun e w' => e = .returned (pfxErr 19) ∧ Below w.heap.size w w' := by
  have hb0 : Below w.heap.size w (w.alloc (.cells #[.int .u32 0, .int .i64 0] 27)) := (Below.refl w.heap.size w).alloc (Nat.le_refl _) _
  have hV1 := hV.below hb0
  have hC := cut_is s 47 hs _ hV1
  have hcl := cut_len s [47]
  generalize Lib.cut s [47] = X at hC hcl hG hD
  obtain ⟨g, r, m⟩ := X
  simp only at hC hcl hG hD
  have HC := Lib.hid hC
  have HV := Lib.hid hV1
  have HG := Lib.hid hG
  have HD := Lib.hid hD
  have HB := Lib.hid hb0
  clear hC hV1 hV hG hD hb0
  go_enter Tryd.func13, Tryd.ntmps13
  go_wp2_with (go_at_call 32; refine HC.out.mono ?_; rintro e w1 ⟨rfl, hb1⟩)
  have hV2 := HV.out.below hb1
  clear HV HC
  have hP := parseIP_is g (by omega) w1 hV2
  rw [HG.out] at hP
  simp only [numResIP] at hP
  go_at_call 5
  refine hP.mono ?_
  rintro e w2 ⟨rfl, hb2⟩
  have hV3 := hV2.below hb2
  have hbT := hb1.trans (hb2.mono hb1.size)
  clear hV2 hP hb1 hb2
  have hR := readDecimal_is ⟨r.toArray⟩ (by simp [ByteArray.size]; omega) w2 hV3.2
  rw [HD.out] at hR
  have HR := Lib.hid hR
  clear hR
  go_wp2_with (go_at_call 18; refine HR.out.mono ?_; rintro e w3 ⟨⟨b, rfl, hbv⟩, hb3⟩; have hbT := hbT.trans (hb3.mono hbT.size); obtain ⟨c0, c1, f0, f1, hz⟩ := box2_on hbT)
  clear hbv
  have s2 := set2 w3 w.heap.size (.int .u32 0) (.int .i64 0) _ _ c0 c1
  have k0 : (((w3.setCell ⟨w.heap.size, 0, none⟩ (.int .u32 0)).setCell ⟨w.heap.size, 1, none⟩ (.int .i64 0)).alloc (.cells #[.int .u32 (numB l : Int), .int .i64 (wrap64 b)] 27)).cell? ⟨w.heap.size, 0, none⟩ = some (.int .u32 0) := by
    rw [World.cell?_alloc_lt _ _ _ (by simpa using hz)]; exact s2.1
  have k1 : (((w3.setCell ⟨w.heap.size, 0, none⟩ (.int .u32 0)).setCell ⟨w.heap.size, 1, none⟩ (.int .i64 0)).alloc (.cells #[.int .u32 (numB l : Int), .int .i64 (wrap64 b)] 27)).cell? ⟨w.heap.size, 1, none⟩ = some (.int .i64 0) := by
    rw [World.cell?_alloc_lt _ _ _ (by simpa using hz)]; exact s2.2
  have hB3 : Below w.heap.size w w3 := HB.out.trans (hbT.mono (by simp))
  have hBF : Below w.heap.size w (((w3.setCell ⟨w.heap.size, 0, none⟩ (.int .u32 0)).setCell ⟨w.heap.size, 1, none⟩ (.int .i64 0)).alloc (.cells #[.int .u32 (numB l : Int), .int .i64 (wrap64 b)] 27)) := ((hB3.setCell (p := ⟨w.heap.size, 0, none⟩) (by simp) _).setCell (p := ⟨w.heap.size, 1, none⟩) (by simp) _).alloc (by simp; omega) _
  generalize (((w3.setCell ⟨w.heap.size, 0, none⟩ (.int .u32 0)).setCell ⟨w.heap.size, 1, none⟩ (.int .i64 0)).alloc (.cells #[.int .u32 (numB l : Int), .int .i64 (wrap64 b)] 27)) = WF at k0 k1 hBF ⊢
  exact bodyPost_ret (v := pfxErr 19) (by simp [results, Tryd.results13, go_sem, k0, k1, pfxErr]) rfl ⟨rfl, hBF⟩

set_option maxHeartbeats 8000000 in
set_option maxRecDepth 100000 in
theorem parsePrefix_far (s : List UInt8) (hs : s.length < 4294967281) (w : World) (hV : Vars w) (l : List Nat) (n : Nat) (hG : groups 46 decRd 4 (Lib.cut s [47]).1 = some l) (hD : decRd ⟨(Lib.cut s [47]).2.1.toArray⟩ = some n) (hn : ¬ n ≤ 32) :
    Calls Tryd.prog 13 #[.string ⟨s.toArray⟩] w fun e w' => e = .returned (pfxErr 19) ∧ Below w.heap.size w w' := by
  have hb0 : Below w.heap.size w (w.alloc (.cells #[.int .u32 0, .int .i64 0] 27)) := (Below.refl w.heap.size w).alloc (Nat.le_refl _) _
  have hV1 := hV.below hb0
  have hC := cut_is s 47 hs _ hV1
  have hcl := cut_len s [47]
  generalize Lib.cut s [47] = X at hC hcl hG hD
  obtain ⟨g, r, m⟩ := X
  simp only at hC hcl hG hD
  have HV2 : Hid (vld (n : Int) = false) := Lib.hid (by simp [vld]; omega)
  have hn256 := decRd_lt hD
  have HC := Lib.hid hC
  have HV := Lib.hid hV1
  have HG := Lib.hid hG
  have HD := Lib.hid hD
  have HB := Lib.hid hb0
  clear hC hV1 hV hG hD hb0
  go_enter Tryd.func13, Tryd.ntmps13
  go_wp2_with (go_at_call 32; refine HC.out.mono ?_; rintro e w1 ⟨rfl, hb1⟩)
  have hV2 := HV.out.below hb1
  clear HV HC
  have hP := parseIP_is g (by omega) w1 hV2
  rw [HG.out] at hP
  simp only [numResIP] at hP
  go_at_call 5
  refine hP.mono ?_
  rintro e w2 ⟨rfl, hb2⟩
  have hV3 := hV2.below hb2
  have hbT := hb1.trans (hb2.mono hb1.size)
  clear hV2 hP hb1 hb2
  have hR := readDecimal_is ⟨r.toArray⟩ (by simp [ByteArray.size]; omega) w2 hV3.2
  rw [HD.out] at hR
  have HR := Lib.hid hR
  clear hR
  go_wp2_with (first | (go_at_call 18; refine HR.out.mono ?_; rintro e w3 ⟨⟨b, rfl, hbv⟩, hb3⟩; obtain rfl := hbv _ rfl; have hbT := hbT.trans (hb3.mono hbT.size); obtain ⟨c0, c1, f0, f1, hz⟩ := box2_on hbT) | (go_at_call 29; refine (valid_is _ _ HV2.out _).mono ?_; rintro e w4 ⟨rfl, hb4⟩; obtain ⟨p0, p1, g0, g1, hz4⟩ := box2_on hb4; have q0 := (hb4.cell (p := ⟨w.heap.size, 0, none⟩) (by simp; omega)).trans ((World.cell?_alloc_lt _ _ _ hz).trans c0); have q1 := (hb4.cell (p := ⟨w.heap.size, 1, none⟩) (by simp; omega)).trans ((World.cell?_alloc_lt _ _ _ hz).trans c1); have r0 := (hb4.frozen (p := ⟨w.heap.size, 0, none⟩) (by simp; omega)).trans ((World.frozen?_alloc_old _ _ _ (by simp; omega)).trans f0); have r1 := (hb4.frozen (p := ⟨w.heap.size, 1, none⟩) (by simp; omega)).trans ((World.frozen?_alloc_old _ _ _ (by simp; omega)).trans f1); have hz5 : w.heap.size < w4.heap.size := by omega))
  have s2 := set2 w4 w.heap.size (.int .u32 0) (.int .i64 0) _ _ q0 q1
  have hB3 : Below w.heap.size w w3 := HB.out.trans (hbT.mono (by simp))
  have hB4 : Below w.heap.size w w4 := (hB3.alloc (by omega) _).trans (hb4.mono (by simp; omega))
  have hBl := hB4
  have hBF := (hBl.setCell (p := ⟨w.heap.size, 0, none⟩) (by simp) (.int .u32 0)).setCell (p := ⟨w.heap.size, 1, none⟩) (by simp) (.int .i64 0)
  generalize (w4.setCell ⟨w.heap.size, 0, none⟩ (.int .u32 0)).setCell ⟨w.heap.size, 1, none⟩ (.int .i64 0) = WF at s2 hBF ⊢
  exact bodyPost_ret (v := pfxErr 19) (by simp [results, Tryd.results13, go_sem, s2.1, s2.2, pfxErr]) rfl ⟨rfl, hBF⟩

set_option maxHeartbeats 8000000 in
set_option maxRecDepth 100000 in
theorem parsePrefix_dirty (s : List UInt8) (hs : s.length < 4294967281) (w : World) (hV : Vars w) (l : List Nat) (n : Nat) (hG : groups 46 decRd 4 (Lib.cut s [47]).1 = some l) (hD : decRd ⟨(Lib.cut s [47]).2.1.toArray⟩ = some n) (hn : n ≤ 32) (hc : ¬ cln (numB l) n = numB l) :
    Calls Tryd.prog 13 #[.string ⟨s.toArray⟩] w fun e w' => e = .returned (pfxErr 3) ∧ Below w.heap.size w w' := by
  have hb0 : Below w.heap.size w (w.alloc (.cells #[.int .u32 0, .int .i64 0] 27)) := (Below.refl w.heap.size w).alloc (Nat.le_refl _) _
  have hV1 := hV.below hb0
  have hC := cut_is s 47 hs _ hV1
  have hcl := cut_len s [47]
  generalize Lib.cut s [47] = X at hC hcl hG hD
  obtain ⟨g, r, m⟩ := X
  simp only at hC hcl hG hD
  have HV2 : Hid (vld (n : Int) = true) := Lib.hid (by simp [vld]; omega)
  have hn256 := decRd_lt hD
  have HC := Lib.hid hC
  have HV := Lib.hid hV1
  have HG := Lib.hid hG
  have HD := Lib.hid hD
  have HB := Lib.hid hb0
  clear hC hV1 hV hG hD hb0
  go_enter Tryd.func13, Tryd.ntmps13
  go_wp2_with (go_at_call 32; refine HC.out.mono ?_; rintro e w1 ⟨rfl, hb1⟩)
  have hV2 := HV.out.below hb1
  clear HV HC
  have hP := parseIP_is g (by omega) w1 hV2
  rw [HG.out] at hP
  simp only [numResIP] at hP
  go_at_call 5
  refine hP.mono ?_
  rintro e w2 ⟨rfl, hb2⟩
  have hV3 := hV2.below hb2
  have hbT := hb1.trans (hb2.mono hb1.size)
  clear hV2 hP hb1 hb2
  have hR := readDecimal_is ⟨r.toArray⟩ (by simp [ByteArray.size]; omega) w2 hV3.2
  rw [HD.out] at hR
  have HR := Lib.hid hR
  clear hR
  go_wp2_with (first | (go_at_call 18; refine HR.out.mono ?_; rintro e w3 ⟨⟨b, rfl, hbv⟩, hb3⟩; obtain rfl := hbv _ rfl; have hbT := hbT.trans (hb3.mono hbT.size); obtain ⟨c0, c1, f0, f1, hz⟩ := box2_on hbT) | (go_at_call 29; refine (valid_is _ _ HV2.out _).mono ?_; rintro e w4 ⟨rfl, hb4⟩; obtain ⟨p0, p1, g0, g1, hz4⟩ := box2_on hb4; have q0 := (hb4.cell (p := ⟨w.heap.size, 0, none⟩) (by simp; omega)).trans ((World.cell?_alloc_lt _ _ _ hz).trans c0); have q1 := (hb4.cell (p := ⟨w.heap.size, 1, none⟩) (by simp; omega)).trans ((World.cell?_alloc_lt _ _ _ hz).trans c1); have r0 := (hb4.frozen (p := ⟨w.heap.size, 0, none⟩) (by simp; omega)).trans ((World.frozen?_alloc_old _ _ _ (by simp; omega)).trans f0); have r1 := (hb4.frozen (p := ⟨w.heap.size, 1, none⟩) (by simp; omega)).trans ((World.frozen?_alloc_old _ _ _ (by simp; omega)).trans f1); have hz5 : w.heap.size < w4.heap.size := by omega) | (go_at_call 11; refine (clean_yes _ _ HV2.out _).mono ?_; rintro e w5 ⟨rfl, hb5⟩; have P0 := (hb5.cell (p := ⟨w3.heap.size, 0, none⟩) (by simp; omega)).trans p0; have P1 := (hb5.cell (p := ⟨w3.heap.size, 1, none⟩) (by simp; omega)).trans p1; have Q0 := (hb5.cell (p := ⟨w.heap.size, 0, none⟩) (by simp; omega)).trans q0; have Q1 := (hb5.cell (p := ⟨w.heap.size, 1, none⟩) (by simp; omega)).trans q1; have R0 := (hb5.frozen (p := ⟨w.heap.size, 0, none⟩) (by simp; omega)).trans r0; have R1 := (hb5.frozen (p := ⟨w.heap.size, 1, none⟩) (by simp; omega)).trans r1; have hz6 := hb5.size; have hz7 : w3.heap.size < w5.heap.size := (by omega); have hz8 : w.heap.size < w5.heap.size := (by omega)))
  have s2 := set2 w5 w.heap.size (.int .u32 0) (.int .i64 0) _ _ Q0 Q1
  have k0 : (((w5.setCell ⟨w.heap.size, 0, none⟩ (.int .u32 0)).setCell ⟨w.heap.size, 1, none⟩ (.int .i64 0)).alloc (.cells #[.int .u32 (cln (numB l) n), .int .i64 (n : Int)] 27)).cell? ⟨w.heap.size, 0, none⟩ = some (.int .u32 0) := by
    rw [World.cell?_alloc_lt _ _ _ (by simpa using hz8)]; exact s2.1
  have k1 : (((w5.setCell ⟨w.heap.size, 0, none⟩ (.int .u32 0)).setCell ⟨w.heap.size, 1, none⟩ (.int .i64 0)).alloc (.cells #[.int .u32 (cln (numB l) n), .int .i64 (n : Int)] 27)).cell? ⟨w.heap.size, 1, none⟩ = some (.int .i64 0) := by
    rw [World.cell?_alloc_lt _ _ _ (by simpa using hz8)]; exact s2.2
  have hB3 : Below w.heap.size w w3 := HB.out.trans (hbT.mono (by simp))
  have hB4 : Below w.heap.size w w4 := (hB3.alloc (by omega) _).trans (hb4.mono (by simp; omega))
  have hB5 : Below w.heap.size w w5 := hB4.trans (hb5.mono (by omega))
  have hBF : Below w.heap.size w (((w5.setCell ⟨w.heap.size, 0, none⟩ (.int .u32 0)).setCell ⟨w.heap.size, 1, none⟩ (.int .i64 0)).alloc (.cells #[.int .u32 (cln (numB l) n), .int .i64 (n : Int)] 27)) := ((hB5.setCell (p := ⟨w.heap.size, 0, none⟩) (by simp) (.int .u32 0)).setCell (p := ⟨w.heap.size, 1, none⟩) (by simp) (.int .i64 0)).alloc (by simp; omega) _
  generalize (((w5.setCell ⟨w.heap.size, 0, none⟩ (.int .u32 0)).setCell ⟨w.heap.size, 1, none⟩ (.int .i64 0)).alloc (.cells #[.int .u32 (cln (numB l) n), .int .i64 (n : Int)] 27)) = WF at k0 k1 hBF ⊢
  exact bodyPost_ret (v := pfxErr 3) (by simp [results, Tryd.results13, go_sem, k0, k1, pfxErr]) rfl ⟨rfl, hBF⟩

set_option maxHeartbeats 8000000 in
set_option maxRecDepth 100000 in
theorem parsePrefix_yes (s : List UInt8) (hs : s.length < 4294967281) (w : World) (hV : Vars w) (l : List Nat) (n : Nat) (hG : groups 46 decRd 4 (Lib.cut s [47]).1 = some l) (hD : decRd ⟨(Lib.cut s [47]).2.1.toArray⟩ = some n) (hn : n ≤ 32) (hc : cln (numB l) n = numB l) :
    Calls Tryd.prog 13 #[.string ⟨s.toArray⟩] w fun e w' => e = .returned (.tuple #[.agg #[.int .u32 (numB l : Int), .int .i64 (n : Int)], .int .i64 0]) ∧ Below w.heap.size w w' := by
  have hb0 : Below w.heap.size w (w.alloc (.cells #[.int .u32 0, .int .i64 0] 27)) := (Below.refl w.heap.size w).alloc (Nat.le_refl _) _
  have hV1 := hV.below hb0
  have hC := cut_is s 47 hs _ hV1
  have hcl := cut_len s [47]
  generalize Lib.cut s [47] = X at hC hcl hG hD
  obtain ⟨g, r, m⟩ := X
  simp only at hC hcl hG hD
  have HV2 : Hid (vld (n : Int) = true) := Lib.hid (by simp [vld]; omega)
  have hn256 := decRd_lt hD
  have HC := Lib.hid hC
  have HV := Lib.hid hV1
  have HG := Lib.hid hG
  have HD := Lib.hid hD
  have HB := Lib.hid hb0
  clear hC hV1 hV hG hD hb0
  go_enter Tryd.func13, Tryd.ntmps13
  go_wp2_with (go_at_call 32; refine HC.out.mono ?_; rintro e w1 ⟨rfl, hb1⟩)
  have hV2 := HV.out.below hb1
  clear HV HC
  have hP := parseIP_is g (by omega) w1 hV2
  rw [HG.out] at hP
  simp only [numResIP] at hP
  go_at_call 5
  refine hP.mono ?_
  rintro e w2 ⟨rfl, hb2⟩
  have hV3 := hV2.below hb2
  have hbT := hb1.trans (hb2.mono hb1.size)
  clear hV2 hP hb1 hb2
  have hR := readDecimal_is ⟨r.toArray⟩ (by simp [ByteArray.size]; omega) w2 hV3.2
  rw [HD.out] at hR
  have HR := Lib.hid hR
  clear hR
  go_wp2_with (first | (go_at_call 18; refine HR.out.mono ?_; rintro e w3 ⟨⟨b, rfl, hbv⟩, hb3⟩; obtain rfl := hbv _ rfl; have hbT := hbT.trans (hb3.mono hbT.size); obtain ⟨c0, c1, f0, f1, hz⟩ := box2_on hbT) | (go_at_call 29; refine (valid_is _ _ HV2.out _).mono ?_; rintro e w4 ⟨rfl, hb4⟩; obtain ⟨p0, p1, g0, g1, hz4⟩ := box2_on hb4; have q0 := (hb4.cell (p := ⟨w.heap.size, 0, none⟩) (by simp; omega)).trans ((World.cell?_alloc_lt _ _ _ hz).trans c0); have q1 := (hb4.cell (p := ⟨w.heap.size, 1, none⟩) (by simp; omega)).trans ((World.cell?_alloc_lt _ _ _ hz).trans c1); have r0 := (hb4.frozen (p := ⟨w.heap.size, 0, none⟩) (by simp; omega)).trans ((World.frozen?_alloc_old _ _ _ (by simp; omega)).trans f0); have r1 := (hb4.frozen (p := ⟨w.heap.size, 1, none⟩) (by simp; omega)).trans ((World.frozen?_alloc_old _ _ _ (by simp; omega)).trans f1); have hz5 : w.heap.size < w4.heap.size := by omega) | (go_at_call 11; refine (clean_yes _ _ HV2.out _).mono ?_; rintro e w5 ⟨rfl, hb5⟩; have P0 := (hb5.cell (p := ⟨w3.heap.size, 0, none⟩) (by simp; omega)).trans p0; have P1 := (hb5.cell (p := ⟨w3.heap.size, 1, none⟩) (by simp; omega)).trans p1; have Q0 := (hb5.cell (p := ⟨w.heap.size, 0, none⟩) (by simp; omega)).trans q0; have Q1 := (hb5.cell (p := ⟨w.heap.size, 1, none⟩) (by simp; omega)).trans q1; have R0 := (hb5.frozen (p := ⟨w.heap.size, 0, none⟩) (by simp; omega)).trans r0; have R1 := (hb5.frozen (p := ⟨w.heap.size, 1, none⟩) (by simp; omega)).trans r1; have hz6 := hb5.size; have hz7 : w3.heap.size < w5.heap.size := (by omega); have hz8 : w.heap.size < w5.heap.size := (by omega)))
  have s2 := set2 w5 w.heap.size (.int .u32 (numB l : Int)) (.int .i64 (n : Int)) _ _ Q0 Q1
  have k0 : (((w5.setCell ⟨w.heap.size, 0, none⟩ (.int .u32 (numB l : Int))).setCell ⟨w.heap.size, 1, none⟩ (.int .i64 (n : Int))).alloc (.cells #[.int .u32 (numB l : Int), .int .i64 (n : Int)] 27)).cell? ⟨w.heap.size, 0, none⟩ = some (.int .u32 (numB l : Int)) := by
    rw [World.cell?_alloc_lt _ _ _ (by simpa using hz8)]; exact s2.1
  have k1 : (((w5.setCell ⟨w.heap.size, 0, none⟩ (.int .u32 (numB l : Int))).setCell ⟨w.heap.size, 1, none⟩ (.int .i64 (n : Int))).alloc (.cells #[.int .u32 (numB l : Int), .int .i64 (n : Int)] 27)).cell? ⟨w.heap.size, 1, none⟩ = some (.int .i64 (n : Int)) := by
    rw [World.cell?_alloc_lt _ _ _ (by simpa using hz8)]; exact s2.2
  have hB3 : Below w.heap.size w w3 := HB.out.trans (hbT.mono (by simp))
  have hB4 : Below w.heap.size w w4 := (hB3.alloc (by omega) _).trans (hb4.mono (by simp; omega))
  have hB5 : Below w.heap.size w w5 := hB4.trans (hb5.mono (by omega))
  have hBF : Below w.heap.size w (((w5.setCell ⟨w.heap.size, 0, none⟩ (.int .u32 (numB l : Int))).setCell ⟨w.heap.size, 1, none⟩ (.int .i64 (n : Int))).alloc (.cells #[.int .u32 (numB l : Int), .int .i64 (n : Int)] 27)) := ((hB5.setCell (p := ⟨w.heap.size, 0, none⟩) (by simp) (.int .u32 (numB l : Int))).setCell (p := ⟨w.heap.size, 1, none⟩) (by simp) (.int .i64 (n : Int))).alloc (by simp; omega) _
  generalize (((w5.setCell ⟨w.heap.size, 0, none⟩ (.int .u32 (numB l : Int))).setCell ⟨w.heap.size, 1, none⟩ (.int .i64 (n : Int))).alloc (.cells #[.int .u32 (numB l : Int), .int .i64 (n : Int)] 27)) = WF at k0 k1 hBF ⊢
  exact bodyPost_ret (v := .tuple #[.agg #[.int .u32 (numB l : Int), .int .i64 (n : Int)], .int .i64 0]) (by simp [results, Tryd.results13, go_sem, k0, k1, pfxErr]) rfl ⟨rfl, hBF⟩

theorem parsePrefix_is (s : List UInt8) (hs : s.length < 4294967281) (w : World) (hV : Vars w) :
    Calls Tryd.prog 13 #[.string ⟨s.toArray⟩] w fun e w' => e = .returned (pfxRes s) ∧ Below w.heap.size w w' := by
  unfold pfxRes
  rcases hG : groups 46 decRd 4 (Lib.cut s [47]).1 with _ | l
  · exact parsePrefix_none1 s hs w hV hG rfl
  · rcases hD : decRd ⟨(Lib.cut s [47]).2.1.toArray⟩ with _ | n
    · exact parsePrefix_none2 s hs w hV l hG hD
    · by_cases hn : n ≤ 32
      · by_cases hc : cln (numB l) n = numB l
        · simp only [if_pos hn, if_pos hc]
          exact parsePrefix_yes s hs w hV l n hG hD hn hc
        · simp only [if_pos hn, if_neg hc]
          exact parsePrefix_dirty s hs w hV l n hG hD hn hc
      · simp only [if_neg hn]
        exact parsePrefix_far s hs w hV l n hG hD hn
end Go.Proofs.YtipmfcbpkbkceaaDoor
