/- WireNames: the law returns true. No condition. -/
import Derived.Test.YtlkobpmbecljkabWPt
namespace Go.Proofs.Ytlkobpmbecljkab
open Go.RowKit Go.Maps Go.MapKept
set_option linter.unusedVariables false
set_option linter.unusedSimpArgs false
set_option maxRecDepth 100000

theorem patched_ex : patched [0, 0, 7, 8] 0 = [0, 2, 7, 8] := by decide +kernel
theorem mks_new {w : World} {m : Nat} (h : w.heap[m]? = some (.map #[] 0)) : Mks w m 0 (.map []) := ⟨#[], 0, h, ⟨by simp, stamped_empty 0, by simp⟩, Nat.le_refl _, rfl⟩
theorem Mks.butW {w w' : World} {b m n : Nat} {D : DataW Unit} {W : WS} (h : Mks w m n D) (hw : Wtr w b W) (k : ButW b W.v w w') : Mks w' m n D := mks_kept h (k.block _ h.lt (mks_ne h hw.1) (mks_own h hw.2.1))
theorem Mks.below {w w' : World} {m n : Nat} {D : DataW Unit} (h : Mks w m n D) (k : Below w.heap.size w w') : Mks w' m n D := mks_kept h (k.block _ h.lt)
theorem Own.mine {B b : Nat} {W : WS} (h : Own B b W.v) (hm : B ≤ W.mb) : ∀ i, i < B → ¬ W.mine b i := by
  rintro i hi (rfl | rfl | e)
  · have := h.1
    omega
  · omega
  · have := h.2 i e.symm
    omega
theorem Rdr.other {w w' : World} {c d : Nat} {R S : RS} (h : Rdr w c R) (hd : Rdr w d S) (k : But w.heap.size d w w') (hn : c ≠ d) : Rdr w' c R := by
  obtain ⟨⟨v, hb, hv⟩, h2⟩ := h
  obtain ⟨⟨u, hu, -⟩, -⟩ := hd
  exact ⟨⟨v, k.blk hb hb.lt hn, hv.but k hu (by decide)⟩, h2⟩

theorem Wtr.but {w w' : World} {b c : Nat} {W : WS} {R : RS} (h : Wtr w b W) (hr : Rdr w c R) (k : But w.heap.size c w w') (hn : c ≠ b) : Wtr w' b W := by
  obtain ⟨⟨u, hu, -⟩, -⟩ := hr
  exact ⟨k.blk h.1 h.1.lt (Ne.symm hn), h.2.1.but k hu (by decide), h.2.2⟩
set_option maxHeartbeats 8000000 in
theorem names_walk (w : World) : Calls Try.prog 3 #[] w fun e w' => e = .returned (.bool true) ∧ Below w.heap.size w w' := by
  go_enter Try.func3, Try.ntmps3
  go_wp2_with fail
  go_at_call 9
  refine (lives_is w).mono ?_
  rintro e w1 ⟨rfl, B1⟩
  try dsimp only
  repeat (first | go_skip | go_guarded | go_step | go_upon)
  go_at_call 10
  refine (wr_New w1 4 (by decide)).mono ?_
  rintro e w2 ⟨b, rfl, m, W2, hbb, hmm, hm2, k2⟩
  have M2 := mks_new hm2
  have B2 := B1.trans (k2.mono B1.size)
  have hm : w.heap.size ≤ m := Nat.le_trans B1.size hmm
  have O2 : Own w.heap.size b (.slice none 0 0) := ⟨Nat.le_trans B1.size hbb, fun g hg => by simp [Value.ownBlock] at hg⟩
  clear hbb hmm hm2 k2 B1
  try dsimp only
  repeat (first | go_skip | go_guarded | go_step | go_upon)
  go_at_call 11
  refine (wr_Mark w2 b _ 0 _ W2 M2 (by decide) (by show 0 + 2 ≤ 4; decide)).mono ?_
  rintro e w3 ⟨rfl, v3, W3, M3, k3, o3⟩
  change Wtr w3 b ⟨4, [0, 0], v3, m⟩ at W3
  have B3 := k3.below B2 (Own.mine O2 hm) B2.size
  have O3 := O2.next B2.size o3
  clear k3 o3 O2 B2 W2 M2
  try dsimp only
  repeat (first | go_skip | go_guarded | go_step | go_upon)
  go_at_call 12
  refine (wr_U8 w3 b _ 7 W3 (by decide)).mono ?_
  rintro e w4 hp
  obtain ⟨rfl, v4, W4, k4, o4⟩ := hp.yes rfl
  change Wtr w4 b ⟨4, [0, 0, 7], v4, m⟩ at W4
  have M4 := Mks.butW M3 W3 k4
  have B4 := k4.below B3 O3.1 O3.2 B3.size
  have O4 := O3.next B3.size o4
  clear hp k4 o4 O3 B3 W3 M3
  try dsimp only
  repeat (first | go_skip | go_guarded | go_step | go_upon)
  go_at_call 12
  refine (wr_U8 w4 b _ 8 W4 (by decide)).mono ?_
  rintro e w5 hp
  obtain ⟨rfl, v5, W5, k5, o5⟩ := hp.yes rfl
  change Wtr w5 b ⟨4, [0, 0, 7, 8], v5, m⟩ at W5
  have M5 := Mks.butW M4 W4 k5
  have B5 := k5.below B4 O4.1 O4.2 B4.size
  have O5 := O4.next B4.size o5
  clear hp k5 o5 O4 B4 W4 M4
  try dsimp only
  repeat (first | go_skip | go_guarded | go_step | go_upon)
  go_at_call 12
  refine (wr_U8 w5 b _ 9 W5 (by decide)).mono ?_
  rintro e wx hp
  obtain ⟨rfl, hw⟩ := hp.no (show (7 : Int) ≠ 0 by decide)
  obtain rfl := hw.symm
  rw [show WS.res _ 1 9 = 7 from rfl]
  clear hp
  try dsimp only
  repeat (first | go_skip | go_guarded | go_step | go_upon)
  go_at_call 13
  refine (wr_Patch w5 b _ _ _ 0 W5 M5 rfl (by show 0 + 2 ≤ 4; decide) (by show 4 - 0 - 2 ≤ 65535; decide)).mono ?_
  rintro e w6 ⟨rfl, W6, M6, k6⟩
  have W6s : Wtr w6 b ⟨4, patched [0, 0, 7, 8] 0, v5, m⟩ := W6
  rw [patched_ex] at W6s
  clear W6
  have W6 := W6s
  clear W6s
  have B6 := k6.below B5 (Own.mine O5 hm) B5.size
  clear k6 O5 B5 W5 M5
  try dsimp only
  repeat (first | go_skip | go_guarded | go_step | go_upon)
  go_at_call 13
  refine (wr_Patch_no w6 b _ _ _ 0 W6 M6 (by decide) rfl).mono ?_
  rintro e w7 ⟨rfl, k7⟩
  have B7 := B6.trans (k7.mono B6.size)
  have W7 := W6.below k7
  clear k7 W6 B6 M6
  try dsimp only
  repeat (first | go_skip | go_guarded | go_step | go_upon)
  go_at_call 14
  refine (rd_New _ _ [1, 2, 3, 4] (seg_lit w7 [1, 2, 3, 4]) (by unfold Oct; decide) (by decide)).mono ?_
  rintro e w8 ⟨c, rfl, hc0, R8, k8⟩
  have l8 : Below w7.heap.size w7 (w7.alloc (.cells ([1, 2, 3, 4].map (Value.int .u8)).toArray 5)) := (Below.refl _ _).alloc (Nat.le_refl _) _
  have m8 : Below w7.heap.size w7 w8 := l8.trans (k8.mono l8.size)
  have B8 : Below w.heap.size w w8 := B7.trans (m8.mono B7.size)
  have W8 := W7.below m8
  have hcb : c ≠ b := by
    have h1 := W7.1.lt
    have h2 := l8.size
    omega
  have hc : w.heap.size ≤ c := Nat.le_trans (Nat.le_trans B7.size l8.size) hc0
  clear hc0 k8 l8 m8 B7 W7
  try dsimp only
  repeat (first | go_skip | go_guarded | go_step | go_upon)
  go_at_call 15
  refine (rd_U8 w8 c ⟨0, 0, [1, 2, 3, 4], 0, 0⟩ R8).mono ?_
  rintro e w9 ⟨rfl, R9, k9⟩
  have B9 := But.below B8 k9 hc B8.size
  have W9 := W8.but R8 k9 hcb
  rw [show be (RS.part ⟨0, 0, [1, 2, 3, 4], 0, 0⟩ 1) = 1 from rfl]
  rw [show RS.next ⟨0, 0, [1, 2, 3, 4], 0, 0⟩ 1 = ⟨0, 1, [1, 2, 3, 4], 0, 0⟩ from rfl] at R9
  clear B8 W8 k9 R8
  try dsimp only
  repeat (first | go_skip | go_guarded | go_step | go_upon)
  go_at_call 16
  refine (rd_Sub w9 c ⟨0, 1, [1, 2, 3, 4], 0, 0⟩ 2 R9).mono ?_
  rintro e w10 ⟨d, rfl, hd0, S10, R10, k10⟩
  have B10 := But.below B9 k10 hc B9.size
  have W10 := W9.but R9 k10 hcb
  have hdc : d ≠ c := by
    have := R9.lt
    omega
  have hdb : d ≠ b := by
    have := W9.1.lt
    omega
  have hd : w.heap.size ≤ d := Nat.le_trans B9.size hd0
  rw [show RS.sub ⟨0, 1, [1, 2, 3, 4], 0, 0⟩ 2 = ⟨1, 0, [2, 3], 0, 0⟩ from rfl] at S10
  rw [show RS.next ⟨0, 1, [1, 2, 3, 4], 0, 0⟩ 2 = ⟨0, 3, [1, 2, 3, 4], 0, 0⟩ from rfl] at R10
  clear B9 W9 k10 R9 hd0
  try dsimp only
  repeat (first | go_skip | go_guarded | go_step | go_upon)
  go_at_call 15
  refine (rd_U8 w10 d ⟨1, 0, [2, 3], 0, 0⟩ S10).mono ?_
  rintro e w11 ⟨rfl, S11, k11⟩
  have B11 := But.below B10 k11 hd B10.size
  have W11 := W10.but S10 k11 hdb
  have R11 := R10.other S10 k11 (Ne.symm hdc)
  rw [show be (RS.part ⟨1, 0, [2, 3], 0, 0⟩ 1) = 2 from rfl]
  rw [show RS.next ⟨1, 0, [2, 3], 0, 0⟩ 1 = ⟨1, 1, [2, 3], 0, 0⟩ from rfl] at S11
  clear B10 W10 k11 S10 R10
  try dsimp only
  repeat (first | go_skip | go_guarded | go_step | go_upon)
  go_at_call 17
  refine (rd_At w11 d ⟨1, 1, [2, 3], 0, 0⟩ S11).mono ?_
  rintro e wx ⟨rfl, hw⟩
  obtain rfl := hw.symm
  rw [show ((RS.f ⟨1, 1, [2, 3], 0, 0⟩ : Nat) : Int) + ((RS.n ⟨1, 1, [2, 3], 0, 0⟩ : Nat) : Int) = 2 from rfl]
  try dsimp only
  repeat (first | go_skip | go_guarded | go_step | go_upon)
  go_at_call 18
  refine (rd_U16 w11 d ⟨1, 1, [2, 3], 0, 0⟩ S11).mono ?_
  rintro e w12 ⟨rfl, S12, k12⟩
  have B12 := But.below B11 k12 hd B11.size
  have W12 := W11.but S11 k12 hdb
  have R12 := R11.other S11 k12 (Ne.symm hdc)
  rw [show be (RS.part ⟨1, 1, [2, 3], 0, 0⟩ 2) = 0 from rfl]
  rw [show RS.next ⟨1, 1, [2, 3], 0, 0⟩ 2 = ⟨1, 1, [2, 3], 4, 2⟩ from rfl] at S12
  clear B11 W11 k12 S11 R11
  try dsimp only
  repeat (first | go_skip | go_guarded | go_step | go_upon)
  go_at_call 19
  refine (rd_Fault w12 d ⟨1, 1, [2, 3], 4, 2⟩ S12).mono ?_
  rintro e w13 ⟨rfl, k13⟩
  have B13 := B12.trans (k13.mono B12.size)
  have W13 := W12.below k13
  have R13 := R12.below k13
  clear B12 W12 R12 S12 k13
  try dsimp only
  repeat (first | go_skip | go_guarded | go_step | go_upon)
  go_at_call 15
  refine (rd_U8 w13 c ⟨0, 3, [1, 2, 3, 4], 0, 0⟩ R13).mono ?_
  rintro e w14 ⟨rfl, R14, k14⟩
  have B14 := But.below B13 k14 hc B13.size
  have W14 := W13.but R13 k14 hcb
  rw [show be (RS.part ⟨0, 3, [1, 2, 3, 4], 0, 0⟩ 1) = 4 from rfl]
  rw [show RS.next ⟨0, 3, [1, 2, 3, 4], 0, 0⟩ 1 = ⟨0, 4, [1, 2, 3, 4], 0, 0⟩ from rfl] at R14
  clear B13 W13 k14 R13
  try dsimp only
  repeat (first | go_skip | go_guarded | go_step | go_upon)
  have E15 := Blk.new w14 39 [.int .i64 4, .int .i64 2]
  have a15 : Below w14.heap.size w14 (w14.alloc (.cells [.int .i64 4, .int .i64 2].toArray 39)) := (Below.refl _ _).alloc (Nat.le_refl _) _
  have B15 := B14.trans (a15.mono B14.size)
  have W15 := W14.below a15
  clear B14 W14 R14 a15
  generalize hX : w14.alloc (.cells #[.int .i64 4, .int .i64 2] 39) = w15 at E15 B15 W15 ⊢
  generalize w14.heap.size = q at E15 ⊢
  clear hX
  have W15s : Wtr w15 b ⟨4, [0, 2, 7, 8], v5, m⟩ := W15
  clear W15
  try dsimp only
  repeat (first | go_skip | go_guarded | go_step | go_upon)
  go_at_call 10
  refine (nw_New w15 (-1) (.inl (by decide))).mono ?_
  rintro e wx ⟨rfl, hw⟩
  obtain rfl := hw.symm
  try dsimp only
  repeat (first | go_skip | go_guarded | go_step | go_upon)
  go_at_call 10
  refine (nw_New w15 65537 (.inr (by decide))).mono ?_
  rintro e wx ⟨rfl, hw⟩
  obtain rfl := hw.symm
  try dsimp only
  repeat (first | go_skip | go_guarded | go_step | go_upon)
  go_at_call 11
  refine (nw_Mark w15).mono ?_
  rintro e wx ⟨rfl, hw⟩
  obtain rfl := hw.symm
  try dsimp only
  repeat (first | go_skip | go_guarded | go_step | go_upon)
  go_at_call 20
  refine (nr_Fail w15).mono ?_
  rintro e wx ⟨rfl, hw⟩
  obtain rfl := hw.symm
  try dsimp only
  repeat (first | go_skip | go_guarded | go_step | go_upon)
  go_at_call 12
  refine (nw_U8 w15).mono ?_
  rintro e wx ⟨rfl, hw⟩
  obtain rfl := hw.symm
  try dsimp only
  repeat (first | go_skip | go_guarded | go_step | go_upon)
  go_at_call 21
  refine (nw_U64 w15).mono ?_
  rintro e wx ⟨rfl, hw⟩
  obtain rfl := hw.symm
  try dsimp only
  repeat (first | go_skip | go_guarded | go_step | go_upon)
  go_at_call 22
  refine (nw_Bytes w15).mono ?_
  rintro e wx ⟨rfl, hw⟩
  obtain rfl := hw.symm
  try dsimp only
  repeat (first | go_skip | go_guarded | go_step | go_upon)
  go_at_call 13
  refine (nw_Patch w15).mono ?_
  rintro e wx ⟨rfl, hw⟩
  obtain rfl := hw.symm
  try dsimp only
  repeat (first | go_skip | go_guarded | go_step | go_upon)
  go_at_call 23
  refine (nw_Len w15).mono ?_
  rintro e wx ⟨rfl, hw⟩
  obtain rfl := hw.symm
  try dsimp only
  repeat (first | go_skip | go_guarded | go_step | go_upon)
  go_at_call 24
  refine (nw_Out w15).mono ?_
  rintro e wx ⟨rfl, hw⟩
  obtain rfl := hw.symm
  try dsimp only
  repeat (first | go_skip | go_guarded | go_step | go_upon)
  go_at_call 15
  refine (nr_U8 w15).mono ?_
  rintro e wx ⟨rfl, hw⟩
  obtain rfl := hw.symm
  try dsimp only
  repeat (first | go_skip | go_guarded | go_step | go_upon)
  go_at_call 25
  refine (nr_U48 w15).mono ?_
  rintro e wx ⟨rfl, hw⟩
  obtain rfl := hw.symm
  try dsimp only
  repeat (first | go_skip | go_guarded | go_step | go_upon)
  go_at_call 26
  refine (nr_Bytes w15).mono ?_
  rintro e wx ⟨rfl, hw⟩
  obtain rfl := hw.symm
  try dsimp only
  repeat (first | go_skip | go_guarded | go_step | go_upon)
  go_at_call 16
  refine (nr_Sub w15).mono ?_
  rintro e wx ⟨rfl, hw⟩
  obtain rfl := hw.symm
  try dsimp only
  repeat (first | go_skip | go_guarded | go_step | go_upon)
  go_at_call 27
  refine (nr_Left w15).mono ?_
  rintro e wx ⟨rfl, hw⟩
  obtain rfl := hw.symm
  try dsimp only
  repeat (first | go_skip | go_guarded | go_step | go_upon)
  go_at_call 17
  refine (nr_At w15).mono ?_
  rintro e wx ⟨rfl, hw⟩
  obtain rfl := hw.symm
  try dsimp only
  repeat (first | go_skip | go_guarded | go_step | go_upon)
  go_at_call 19
  refine (nr_Fault w15).mono ?_
  rintro e w16 ⟨rfl, k16⟩
  have B16 := B15.trans (k16.mono B15.size)
  have W16 := W15s.below k16
  have E16 := E15.below k16 E15.lt
  clear B15 W15s E15 k16
  try dsimp only
  repeat (first | go_skip | go_guarded | go_step | go_upon)
  go_at_call 24
  refine (wr_Out w16 b _ W16).mono ?_
  rintro e w17 ⟨v, rfl, D17, k17⟩
  have hcv := dat_string D17 (by simp)
  rw [show strOfNums _ = (⟨#[0, 2, 7, 8]⟩ : ByteArray) from rfl] at hcv
  have B17 := B16.trans (k17.mono B16.size)
  have E17 := E16.below k17 E16.lt
  have c0 := E17.cell 0 (v := .int .i64 4) rfl
  have c1 := E17.cell 1 (v := .int .i64 2) rfl
  clear B16 W16 E16 k17 D17 E17
  try dsimp only
  repeat (first | go_skip | go_guarded | go_step | go_upon)
  go_ret
  exact ⟨rfl, B17⟩
end Go.Proofs.Ytlkobpmbecljkab
