/- VxlanNames: the walk. No condition. -/
import Derived.Test.YtgpjelcihmbiiaaVNl
import Derived.Test.YtgpjelcihmbiiaaPOx
namespace Go.Proofs.Ytgpjelcihmbiiaa
open Go.RowKit Go.Sort
set_option linter.unusedVariables false
set_option linter.unusedSimpArgs false
set_option maxRecDepth 100000

set_option maxHeartbeats 8000000 in
theorem vnames_is (w : World) : Calls Try.prog 9 #[] w fun r w' => r = .returned (.bool true) ∧ Below w.heap.size w w' := by
  have hE := fun w => example_is w
  have hM := fun w => vbytes_ok exP exP_ok exP_chk w
  have hmk35 : ∀ w, (Instr.makeSlice 23 (.int .i64 35) (.int .i64 35)).run Try.prog w = .ok (.slice (some ⟨w.heap.size, 0, none⟩) 35 35) (w.alloc (.cells #[.int .u8 0, .int .u8 0, .int .u8 0, .int .u8 0, .int .u8 0, .int .u8 0, .int .u8 0, .int .u8 0, .int .u8 0, .int .u8 0, .int .u8 0, .int .u8 0, .int .u8 0, .int .u8 0, .int .u8 0, .int .u8 0, .int .u8 0, .int .u8 0, .int .u8 0, .int .u8 0, .int .u8 0, .int .u8 0, .int .u8 0, .int .u8 0, .int .u8 0, .int .u8 0, .int .u8 0, .int .u8 0, .int .u8 0, .int .u8 0, .int .u8 0, .int .u8 0, .int .u8 0, .int .u8 0, .int .u8 0] 5)) := fun _ => by kernel_rfl
  have hmk36 : ∀ w, (Instr.makeSlice 23 (.int .i64 36) (.int .i64 36)).run Try.prog w = .ok (.slice (some ⟨w.heap.size, 0, none⟩) 36 36) (w.alloc (.cells #[.int .u8 0, .int .u8 0, .int .u8 0, .int .u8 0, .int .u8 0, .int .u8 0, .int .u8 0, .int .u8 0, .int .u8 0, .int .u8 0, .int .u8 0, .int .u8 0, .int .u8 0, .int .u8 0, .int .u8 0, .int .u8 0, .int .u8 0, .int .u8 0, .int .u8 0, .int .u8 0, .int .u8 0, .int .u8 0, .int .u8 0, .int .u8 0, .int .u8 0, .int .u8 0, .int .u8 0, .int .u8 0, .int .u8 0, .int .u8 0, .int .u8 0, .int .u8 0, .int .u8 0, .int .u8 0, .int .u8 0, .int .u8 0] 5)) := fun _ => by kernel_rfl
  have hl := exP_len
  have hg3 : exP.enc.getD 23 0 = 181 := by rw [exP_enc]; rfl
  have hg5 : exP.enc.getD 35 0 = 0 := by rw [exP_enc]; rfl
  have hR1 := fun v w h => vread_is [0, 0, 0, 0, 0, 0, 0, 0, 0, 0, 0, 0, 0, 0, 0, 0, 0, 0, 0, 0, 0, 0, 0, 0, 0, 0, 0, 0, 0, 0, 0, 0, 0, 0, 0] (by unfold Oct; decide) (by decide) v w h
  have hR2 := fun v w h => vread_is [0, 0, 0, 0, 0, 0, 0, 0, 0, 0, 0, 0, 0, 0, 0, 0, 0, 0, 0, 0, 0, 0, 0, 0, 0, 0, 0, 0, 0, 0, 0, 0, 0, 0, 0, 0] (by unfold Oct; decide) (by decide) v w h
  have hR3 := fun v w h => vread_is (exP.enc.take 57) ((penc_oct exP).take 57) (by rw [List.length_take, hl]; decide) v w h
  have hR4 := fun v w h => vread_is (exP.enc.set 23 182) (oct_set (penc_oct exP) _ _ (by decide)) (by rw [List.length_set, hl]; decide) v w h
  have hR5 := fun v w h => vread_is (exP.enc.set 35 1) (oct_set (penc_oct exP) _ _ (by decide)) (by rw [List.length_set, hl]; decide) v w h
  unfold VReads at hR1 hR2 hR3 hR4 hR5
  rw [nm_1.1, nm_1.2.1, nm_1.2.2] at hR1
  rw [nm_2.1, nm_2.2.1, nm_2.2.2] at hR2
  rw [nm_3.1, nm_3.2.1, nm_3.2.2] at hR3
  rw [nm_4.1, nm_4.2.1, nm_4.2.2] at hR4
  rw [nm_5.1, nm_5.2.1, nm_5.2.2] at hR5
  unfold PL.v at hR1 hR2 hR3 hR4 hR5 hM hE
  have HR1 := Lib.hid hR1; have HR2 := Lib.hid hR2; have HR3 := Lib.hid hR3; have HR4 := Lib.hid hR4; have HR5 := Lib.hid hR5
  clear hR1 hR2 hR3 hR4 hR5
  generalize exP.enc = xs at *
  have HX2 := Lib.hid hl
  have HG3 := Lib.hid hg3; have HG5 := Lib.hid hg5
  have HE := Lib.hid hE; have HM := Lib.hid hM
  clear hl hg3 hg5 hE hM
  go_enter Try.func9, Try.ntmps9
  go_wp2_with (go_at_call 28; refine (vlives_is w).mono ?_; rintro e w2 ⟨rfl, bL⟩)
  go_at_call 29
  refine (HR1.out _ _ (seg_lit w2 [0, 0, 0, 0, 0, 0, 0, 0, 0, 0, 0, 0, 0, 0, 0, 0, 0, 0, 0, 0, 0, 0, 0, 0, 0, 0, 0, 0, 0, 0, 0, 0, 0, 0, 0])).mono ?_
  rintro e r1 ⟨rfl, k1⟩
  have K1 : Below w2.heap.size w2 r1 := ((Below.refl _ w2).alloc (Nat.le_refl _) _).trans (k1.mono (by simp))
  clear k1
  go_wp2_with (first
    | (refine at_new rfl 55 P0.cs rfl run_newPk ?_; rintro a1 X11 ka1 sa1; go_simp)
    | (refine at_new rfl 38 FZ rfl run_newFt ?_; rintro b1 Y12 kb1 sb1; rw [sa1] at Y12; have X12 := X11.below kb1 X11.lt; have Q12 := ka1.trans (kb1.mono ka1.size); clear ka1 kb1 X11 sb1; try go_simp)
    | (refine at_put rfl 55 _ _ rfl rfl r1.heap.size rfl P0.cs rfl X12 rfl szP (pcs_one _) ?_; rintro c1 gc1; have Y13 := gc1.but.blk Y12 Y12.lt (show r1.heap.size + 1 ≠ r1.heap.size by omega); have Q13 := gc1.below Q12 (Nat.le_refl _); clear gc1 X12 Y12 Q12)
    | (refine at_put rfl 38 _ _ rfl rfl (r1.heap.size + 1) rfl (flt 4 35) rfl Y13 rfl szFt (flt_one _ _) ?_; rintro x1 gd1; have Y1 := gd1.blk; have Q1 := gd1.below Q13 (Nat.le_succ _); clear gd1 Y13 Q13))
  go_at_call 29
  refine (HR2.out _ _ (seg_lit x1 [0, 0, 0, 0, 0, 0, 0, 0, 0, 0, 0, 0, 0, 0, 0, 0, 0, 0, 0, 0, 0, 0, 0, 0, 0, 0, 0, 0, 0, 0, 0, 0, 0, 0, 0, 0])).mono ?_
  rintro e r2 ⟨rfl, k2⟩
  have K2 : Below x1.heap.size x1 r2 := ((Below.refl _ x1).alloc (Nat.le_refl _) _).trans (k2.mono (by simp))
  clear k2 hmk35 hmk36
  go_wp2_with (first
    | (refine at_new rfl 55 P0.cs rfl run_newPk ?_; rintro a2 X21 ka2 sa2; go_simp)
    | (refine at_new rfl 38 FZ rfl run_newFt ?_; rintro b2 Y22 kb2 sb2; rw [sa2] at Y22; have X22 := X21.below kb2 X21.lt; have Q22 := ka2.trans (kb2.mono ka2.size); clear ka2 kb2 X21 sb2; try go_simp)
    | (refine at_put rfl 55 _ _ rfl rfl r2.heap.size rfl P0.cs rfl X22 rfl szP (pcs_one _) ?_; rintro c2 gc2; have Y23 := gc2.but.blk Y22 Y22.lt (show r2.heap.size + 1 ≠ r2.heap.size by omega); have Q23 := gc2.below Q22 (Nat.le_refl _); clear gc2 X22 Y22 Q22)
    | (refine at_put rfl 38 _ _ rfl rfl (r2.heap.size + 1) rfl (flt 6 9) rfl Y23 rfl szFt (flt_one _ _) ?_; rintro x2 gd2; have Y2 := gd2.blk; have Q2 := gd2.below Q23 (Nat.le_succ _); clear gd2 Y23 Q23))
  go_at_call 31
  refine (HE.out x2).mono ?_
  rintro e w5 ⟨rfl, k5⟩
  go_wp2_with fail
  go_at_call 30
  refine (HM.out w5).mono ?_
  rintro e w6 ⟨vb, rfl, db, k6⟩
  have KB : Below x2.heap.size x2 w6 := k5.trans (k6.mono k5.size)
  obtain ⟨s57, hs57, hg57⟩ := slice_b db.dat.seg 57 (by rw [HX2.out]; decide)
  rw [show ((57 : Nat) : Int) = 57 from rfl] at hs57
  obtain ⟨va, vc, hve⟩ := db.dat.shape
  rw [HX2.out] at hve
  subst hve
  clear k5 k6
  go_wp2_with (refine at_sliceH rfl 23 under_b _ _ rfl (.slice va 58 vc) (.int .i64 57) s57 rfl rfl hs57 ?_)
  go_at_call 29
  refine (HR3.out _ w6 hg57).mono ?_
  rintro e r3 ⟨rfl, K3⟩
  clear hs57 hg57
  go_wp2_with (first
    | (refine at_new rfl 55 P0.cs rfl run_newPk ?_; rintro a3 X31 ka3 sa3; go_simp)
    | (refine at_new rfl 38 FZ rfl run_newFt ?_; rintro b3 Y32 kb3 sb3; rw [sa3] at Y32; have X32 := X31.below kb3 X31.lt; have Q32 := ka3.trans (kb3.mono ka3.size); clear ka3 kb3 X31 sb3; try go_simp)
    | (refine at_put rfl 55 _ _ rfl rfl r3.heap.size rfl P0.cs rfl X32 rfl szP (pcs_one _) ?_; rintro c3 gc3; have Y33 := gc3.but.blk Y32 Y32.lt (show r3.heap.size + 1 ≠ r3.heap.size by omega); have Q33 := gc3.below Q32 (Nat.le_refl _); clear gc3 X32 Y32 Q32)
    | (refine at_put rfl 38 _ _ rfl rfl (r3.heap.size + 1) rfl (flt 4 57) rfl Y33 rfl szFt (flt_one _ _) ?_; rintro x3 gd3; have Y3 := gd3.blk; have Q3 := gd3.below Q33 (Nat.le_succ _); clear gd3 Y33 Q33))
  have D3 := (db.below K3).below Q3
  go_at_call 18
  refine (own_is x3 _ xs D3.dat.seg (by rw [HX2.out]; decide)).mono ?_
  rintro e w13 ⟨ov3, rfl, d13, k13⟩
  obtain ⟨g3, cap3, cs3, rfl, hg3, f1, f2, f3, f4, f5⟩ := d13.form (by rw [HX2.out]; decide)
  have hcq := f3.cell 23 (take_at f5 23 (by rw [HX2.out]; decide))
  rw [HG3.out] at hcq
  have F1 := Lib.hid f1; have F2 := Lib.hid f2; have F4 := Lib.hid f4; have F5 := Lib.hid f5
  have FC := Lib.hid (show 23 < cs3.length by have := HX2.out; omega)
  rw [HX2.out]
  clear d13 f1 f2 f4 f5
  go_wp2_with (refine at_set rfl 5 _ _ rfl rfl g3 23 rfl 5 cs3 (cs3.set 23 (.int .u8 182)) (.int .u8 182) rfl f3 rfl rfl rfl u8_one FC.out ?_; rintro wo3 go3)
  have KO3 : Below x3.heap.size x3 wo3 := go3.below k13 hg3
  have DO3 := dat_set F1.out F2.out F4.out F5.out 23 182 go3.blk
  rw [HX2.out] at DO3
  clear go3 k13 hcq f3 F1 F2 F4 F5 FC
  go_wp2_with fail
  go_at_call 29
  refine (HR4.out _ wo3 DO3.seg).mono ?_
  rintro e r4 ⟨rfl, k4⟩
  have K4 : Below x3.heap.size x3 r4 := KO3.trans (k4.mono KO3.size)
  clear k4 KO3 DO3
  go_wp2_with (first
    | (refine at_new rfl 55 P0.cs rfl run_newPk ?_; rintro a4 X41 ka4 sa4; go_simp)
    | (refine at_new rfl 38 FZ rfl run_newFt ?_; rintro b4 Y42 kb4 sb4; rw [sa4] at Y42; have X42 := X41.below kb4 X41.lt; have Q42 := ka4.trans (kb4.mono ka4.size); clear ka4 kb4 X41 sb4; try go_simp)
    | (refine at_put rfl 55 _ _ rfl rfl r4.heap.size rfl P0.cs rfl X42 rfl szP (pcs_one _) ?_; rintro c4 gc4; have Y43 := gc4.but.blk Y42 Y42.lt (show r4.heap.size + 1 ≠ r4.heap.size by omega); have Q43 := gc4.below Q42 (Nat.le_refl _); clear gc4 X42 Y42 Q42)
    | (refine at_put rfl 38 _ _ rfl rfl (r4.heap.size + 1) rfl (flt 6 22) rfl Y43 rfl szFt (flt_one _ _) ?_; rintro x4 gd4; have Y4 := gd4.blk; have Q4 := gd4.below Q43 (Nat.le_succ _); clear gd4 Y43 Q43))
  have D4 := (D3.below K4).below Q4
  clear D3
  go_at_call 18
  refine (own_is x4 _ xs D4.dat.seg (by rw [HX2.out]; decide)).mono ?_
  rintro e w14 ⟨ov4, rfl, d14, k14⟩
  obtain ⟨g4, cap4, cs4, rfl, hg4, f1, f2, f3, f4, f5⟩ := d14.form (by rw [HX2.out]; decide)
  have hcq := f3.cell 35 (take_at f5 35 (by rw [HX2.out]; decide))
  rw [HG5.out] at hcq
  have F1 := Lib.hid f1; have F2 := Lib.hid f2; have F4 := Lib.hid f4; have F5 := Lib.hid f5
  have FC := Lib.hid (show 35 < cs4.length by have := HX2.out; omega)
  rw [HX2.out]
  clear d14 f1 f2 f4 f5
  go_wp2_with (refine at_set rfl 5 _ _ rfl rfl g4 35 rfl 5 cs4 (cs4.set 35 (.int .u8 1)) (.int .u8 1) rfl f3 rfl rfl rfl u8_one FC.out ?_; rintro wo4 go4)
  have KO4 : Below x4.heap.size x4 wo4 := go4.below k14 hg4
  have DO4 := dat_set F1.out F2.out F4.out F5.out 35 1 go4.blk
  rw [HX2.out] at DO4
  clear go4 k14 hcq f3 F1 F2 F4 F5 FC
  go_wp2_with fail
  go_at_call 29
  refine (HR5.out _ wo4 DO4.seg).mono ?_
  rintro e r5 ⟨rfl, k5⟩
  have K5 : Below x4.heap.size x4 r5 := KO4.trans (k5.mono KO4.size)
  clear k5 KO4 DO4 D4 db HR1 HR2 HR3 HR4 HR5 HM HG3 HG5 HX2
  go_wp2_with (first
    | (refine at_new rfl 55 P0.cs rfl run_newPk ?_; rintro a5 X51 ka5 sa5; go_simp)
    | (refine at_new rfl 38 FZ rfl run_newFt ?_; rintro b5 Y52 kb5 sb5; rw [sa5] at Y52; have X52 := X51.below kb5 X51.lt; have Q52 := ka5.trans (kb5.mono ka5.size); clear ka5 kb5 X51 sb5; try go_simp)
    | (refine at_put rfl 55 _ _ rfl rfl r5.heap.size rfl P0.cs rfl X52 rfl szP (pcs_one _) ?_; rintro c5 gc5; have Y53 := gc5.but.blk Y52 Y52.lt (show r5.heap.size + 1 ≠ r5.heap.size by omega); have Q53 := gc5.below Q52 (Nat.le_refl _); clear gc5 X52 Y52 Q52)
    | (refine at_put rfl 38 _ _ rfl rfl (r5.heap.size + 1) rfl (flt 3 0) rfl Y53 rfl szFt (flt_one _ _) ?_; rintro x5 gd5; have Y5 := gd5.blk; have Q5 := gd5.below Q53 (Nat.le_succ _); clear gd5 Y53 Q53))
  go_at_call 31
  refine (HE.out x5).mono ?_
  rintro e e1 ⟨rfl, j1⟩
  have J1 : Below x5.heap.size x5 e1 := j1
  clear j1
  go_wp2_with fail
  go_at_call 31
  refine (HE.out e1).mono ?_
  rintro e e2 ⟨rfl, j2⟩
  have J2 : Below x5.heap.size x5 e2 := J1.trans (j2.mono J1.size)
  clear j2 J1
  go_wp2_with fail
  go_at_call 31
  refine (HE.out e2).mono ?_
  rintro e e3 ⟨rfl, j3⟩
  have J3 : Below x5.heap.size x5 e3 := J2.trans (j3.mono J2.size)
  clear j3 J2
  go_wp2_with fail
  go_at_call 31
  refine (HE.out e3).mono ?_
  rintro e e4 ⟨rfl, j4⟩
  have J4 : Below x5.heap.size x5 e4 := J3.trans (j4.mono J3.size)
  clear j4 J3
  go_wp2_with fail
  go_at_call 31
  refine (HE.out e4).mono ?_
  rintro e e5 ⟨rfl, j5⟩
  have J5 : Below x5.heap.size x5 e5 := J4.trans (j5.mono J4.size)
  clear j5 J4
  go_wp2_with (first
    | (refine at_lit5 rfl (.tmp 65) (.tmp 66) (.tmp 67) (.tmp 68) (.tmp 69) rfl rfl rfl rfl rfl rfl ?_; rintro z0 hz0 kz sz; have Z0 : Below x5.heap.size x5 z0 := J5.trans (kz.mono J5.size); have GE := Lib.hid J5.size; clear kz J5)
    | (refine at_set rfl 3 _ _ rfl rfl e5.heap.size 2 rfl 55 (bd0) (bd1) (.int .i64 256) rfl hz0 bd_set0 rfl rfl i64_one (by rw [bd_len0]; decide) ?_; rintro z1 gz0; have hz1 := gz0.blk; have Z1 := gz0.below Z0 GE.out; clear gz0 hz0 Z0)
    | (refine at_set rfl 3 _ _ rfl rfl e5.heap.size 24 rfl 55 (bd1) (bd2) (.int .i64 (-1)) rfl hz1 bd_set1 rfl rfl i64_one (by rw [bd_len1]; decide) ?_; rintro z2 gz1; have hz2 := gz1.blk; have Z2 := gz1.below Z1 GE.out; clear gz1 hz1 Z1)
    | (refine at_set rfl 29 _ _ rfl rfl e5.heap.size 46 rfl 55 (bd2) (bd3) (.int .u32 16777216) rfl hz2 bd_set2 rfl rfl u32_one (by rw [bd_len2]; decide) ?_; rintro z3 gz2; have hz3 := gz2.blk; have Z3 := gz2.below Z2 GE.out; clear gz2 hz2 Z2)
    | (refine at_set rfl 29 _ _ rfl rfl e5.heap.size 68 rfl 55 (bd3) (bd4) (.int .u32 16777216) rfl hz3 bd_set3 rfl rfl u32_one (by rw [bd_len3]; decide) ?_; rintro z4 gz3; have hz4 := gz3.blk; have Z4 := gz3.below Z3 GE.out; clear gz3 hz3 Z3)
    | (refine at_set rfl 3 _ _ rfl rfl e5.heap.size 92 rfl 55 (bd4) (bd5) (.int .i64 7) rfl hz4 bd_set4 rfl rfl i64_one (by rw [bd_len4]; decide) ?_; rintro z5 gz4; have hz5 := gz4.blk; have Z5 := gz4.below Z4 GE.out; clear gz4 hz4 Z4)
    | (refine at_verrs rfl rfl ?_; rintro wy hy ky sy))
  have hbz := hz5.lt
  rw [bd_end] at hz5
  have zeq : e5.heap.size < wy.heap.size := Nat.lt_of_lt_of_le hbz ky.size
  have Hy := Lib.hid hy
  have Hz := Lib.hid (fun i hi => vbad_range hz5 i hi)
  have c5 : Below x5.heap.size x5 wy := Z5.trans (ky.mono Z5.size)
  have c4 : Below x4.heap.size x4 x5 := K5.trans (Q5.mono K5.size)
  have d4 := c4.trans (c5.mono c4.size)
  have c3 : Below x3.heap.size x3 x4 := K4.trans (Q4.mono K4.size)
  have d3 := c3.trans (d4.mono c3.size)
  have q3 : Below w6.heap.size w6 x3 := K3.trans (Q3.mono K3.size)
  have c2 : Below x2.heap.size x2 x3 := KB.trans (q3.mono KB.size)
  have d2 := c2.trans (d3.mono c2.size)
  have c1 : Below x1.heap.size x1 x2 := K2.trans (Q2.mono K2.size)
  have d1 := c1.trans (d2.mono c1.size)
  have c0 : Below w2.heap.size w2 x1 := K1.trans (Q1.mono K1.size)
  have d0 := c0.trans (d1.mono c0.size)
  have dw : Below w.heap.size w wy := bL.trans (d0.mono bL.size)
  have G1 := Y1.below d1 Y1.lt
  have G2 := Y2.below d2 Y2.lt
  have G3 := Y3.below d3 Y3.lt
  have G4 := Y4.below d4 Y4.lt
  have G5 := Y5.below c5 Y5.lt
  have l1 := G1.lt
  have l2 := G2.lt
  have l3 := G3.lt
  have l4 := G4.lt
  have l5 := G5.lt
  clear Y1 Y2 Y3 Y4 Y5 Q1 Q2 Q3 Q4 Q5 K1 K2 K3 K4 K5 KB bL c0 c1 c2 c3 c4 c5 d0 d1 d2 d3 d4 q3 hy hz5 HE Z5 GE
  go_loopw [17] (fun v17 wr => ∃ i : Nat, i ≤ 5 ∧ v17 = .int .i64 i ∧ Below wy.heap.size wy wr) (fun v17 _ => 5 - (intOf v17).toNat)
  case atStart => exact ⟨0, by omega, rfl, Below.refl _ _⟩
  case round =>
    obtain ⟨i, hi, rfl, hB⟩ := hrel
    by_cases hlt : i < 5
    · have hil : (i : Int) < 5 := by omega
      have r1' := rangeP hbz (Hz.out i hlt) (ky.trans (hB.mono ky.size))
      have z1 : z5.heap.size < wr.heap.size := by have := hB.size; omega
      have e1 := (hB.cell (p := ⟨z5.heap.size, i, none⟩) (by show z5.heap.size < _; omega)).trans (Hy.out i hlt)
      have e1 : wr.cell? ⟨z5.heap.size, i, none⟩ = some (.int .i64 (verrs.getD i 0)) := e1
      have hC := fun w => vcheck_is (vbad i) w
      rw [vbad_chk i hlt] at hC
      generalize verrs.getD i 0 = e at e1 hC
      have e2 := cellE (w := wr) z1 e1
      have hee : (e != e) = false := by simp
      generalize vbad i = N at r1' hC
      unfold PL.v at hC
      clear G1 G2 G3 G4 G5 dw l1 l2 l3 l4 l5
      go_wp2_with fail
      refine wp_region_qb (by kernel_rfl) (by kernel_rfl) ?_
      repeat (first
        | go_big_quiet_skip
        | (go_big_quiet_want; refine q_loadP (.tmp 96) rfl e5.heap.size (i * 21) rfl N r1' ?_; go_simp; go_big_quiet_on)
        | (go_big_quiet_want; refine q_loadE (.tmp 101) rfl z5.heap.size i rfl e e2 ?_; go_simp; go_big_quiet_on)
        | (go_big_quiet_want; refine q_loadE (.tmp 101) rfl z5.heap.size (0 + i) rfl e (by rw [Nat.zero_add]; exact e2) ?_; go_simp; go_big_quiet_on)
        | (go_big_quiet_want; refine q_loadP (.tmp 96) rfl e5.heap.size (0 + i * 21) rfl N (by rw [Nat.zero_add]; exact r1') ?_; go_simp; go_big_quiet_on)
        | (go_big_quiet_want; go_big_quiet_op; first | go_big_quiet_on | go_big_quiet_call (with_reducible exact Calls.regrown_of (hC _)))
        | (go_big_quiet_step (fail)))
      refine wpQuiet_nil ?_
      intro w' hw'
      have hb2 := hB.trans (hw'.mono hB.size)
      clear r1' e1 e2 z1 hee hC hw' hB
      go_wp2
      go_roundw
      case rel => exact ⟨i + 1, by omega, by go_num, hb2⟩
      case measure => simp [intOf]; omega
    · obtain rfl : i = 5 := by omega
      have F1 := G1.below hB l1
      have F2 := G2.below hB l2
      have F3 := G3.below hB l3
      have F4 := G4.below hB l4
      have F5 := G5.below hB l5
      have hw := dw.trans (hB.mono dw.size)
      have hH : ∀ v w, Seg w v [0] → Calls Try.prog 33 #[v] w fun e w' => e = .returned (.int .u32 84696351) ∧ w' = w := fun v w h => by
        have := hash_is [0] v w h (by unfold Oct; decide) (by decide)
        rwa [hsh_0] at this
      have HH := Lib.hid hH
      clear G1 G2 G3 G4 G5 dw hB Hy Hz ky sy l1 l2 l3 l4 l5 hbz hH
      go_upto_region 23 with fail
      refine wp_region_lit ?_
      repeat (first
        | go_skip
        | (refine at_mid rfl 38 _ rfl (r1.heap.size + 1) 0 rfl F1 (flt 4 35) rfl _ Try.underlying38 rfl szFt ?_)
        | (refine at_cmp rfl .eql 38 _ _ rfl (.agg (flt 4 35).toArray) (.agg (flt 4 35).toArray) rfl rfl true (by kernel_rfl) (by rw [eqlT]; simp) ?_)
        | (refine at_mid rfl 38 _ rfl (r2.heap.size + 1) 0 rfl F2 (flt 6 9) rfl _ Try.underlying38 rfl szFt ?_)
        | (refine at_cmp rfl .eql 38 _ _ rfl (.agg (flt 6 9).toArray) (.agg (flt 6 9).toArray) rfl rfl true (by kernel_rfl) (by rw [eqlT]; simp) ?_)
        | (refine at_mid rfl 38 _ rfl (r3.heap.size + 1) 0 rfl F3 (flt 4 57) rfl _ Try.underlying38 rfl szFt ?_)
        | (refine at_cmp rfl .eql 38 _ _ rfl (.agg (flt 4 57).toArray) (.agg (flt 4 57).toArray) rfl rfl true (by kernel_rfl) (by rw [eqlT]; simp) ?_)
        | (refine at_mid rfl 38 _ rfl (r4.heap.size + 1) 0 rfl F4 (flt 6 22) rfl _ Try.underlying38 rfl szFt ?_)
        | (refine at_cmp rfl .eql 38 _ _ rfl (.agg (flt 6 22).toArray) (.agg (flt 6 22).toArray) rfl rfl true (by kernel_rfl) (by rw [eqlT]; simp) ?_)
        | (refine at_mid rfl 38 _ rfl (r5.heap.size + 1) 0 rfl F5 (flt 3 0) rfl _ Try.underlying38 rfl szFt ?_)
        | (refine at_cmp rfl .eql 38 _ _ rfl (.agg (flt 3 0).toArray) (.agg (flt 3 0).toArray) rfl rfl true (by kernel_rfl) (by rw [eqlT]; simp) ?_)
        | (go_at_call 33; refine (HH.out _ _ (seg_lit wr [0])).mono ?_; rintro e wa ⟨rfl, ka⟩; have ha : Below w.heap.size w wa := by rw [ka]; exact hw.trans (((Below.refl _ wr).alloc (Nat.le_refl _) _).mono hw.size)
           clear ka; dsimp only)
        | go_guarded | go_step | go_upon)
      go_wp2
      go_ret
      exact ⟨rfl, ha⟩
end Go.Proofs.Ytgpjelcihmbiiaa
