/- The reference of layer 7: Read, a frame of ARP. No condition. -/
import Derived.Test.YtgpjelcihmbiiaaWq
import Derived.Test.YtgpjelcihmbiiaaPZk
import Derived.Test.YtgpjelcihmbiiaaQt
namespace Go.Proofs.Ytgpjelcihmbiiaa
open Go.RowKit Go.Sort
set_option linter.unusedVariables false
set_option linter.unusedSimpArgs false
set_option maxRecDepth 100000

set_option maxHeartbeats 4000000 in
theorem rr_bad11 (xs : List Int) (ho : Oct xs) (hl : xs.length ≤ 1000000) (h14 : 14 ≤ xs.length) (hty : tyAt xs = 2054) (hz : xs.length = 50) (hc : FL.chk (FL.mk (tk xs 6 6) (tk xs 0 6) 1 (tk xs 20 2) (tk xs 22 6) (tk xs 28 4) (tk xs 32 6) (tk xs 38 4) 0 0 0 0 0 0 (tk xs 42 8)) ≠ 0) (v : Value) (w : World) (hv : Seg w v xs) : Calls Try.prog 26 #[v] w fun r w' => r = .returned (.tuple #[FL.v F0, .agg (flt 3 0).toArray]) ∧ Below w.heap.size w w' := by
  have hlen : ¬ (xs.length : Int) < 14 := by omega
  have hlz : ¬ (xs.length : Int) < 50 := by omega
  have hlm : ¬ (50 : Int) < xs.length := by omega
  have hf := decF_ok (k := 1) ho
  rw [dec1 hz] at hf
  have HB := fun w => rbytes_bad _ hf hc w
  have A : (FL.chk (FL.mk (tk xs 6 6) (tk xs 0 6) 1 (tk xs 20 2) (tk xs 22 6) (tk xs 28 4) (tk xs 32 6) (tk xs 38 4) 0 0 0 0 0 0 (tk xs 42 8)) != 0) = true := by simpa using hc
  generalize FL.chk (FL.mk (tk xs 6 6) (tk xs 0 6) 1 (tk xs 20 2) (tk xs 22 6) (tk xs 28 4) (tk xs 32 6) (tk xs 38 4) 0 0 0 0 0 0 (tk xs 42 8)) = Y at HB A
  clear hc hf
  unfold FL.v at HB
  have T0 := fun w' (h : Seg w' v xs) => take_is xs v w' h ho hl 0 6 (by decide) (by omega)
  have z0 : 0 ≤ tk xs 0 6 ∧ tk xs 0 6 < 281474976710656 := by have := tk_lt ho 0 6 (by omega); simpa using this
  have T6 := fun w' (h : Seg w' v xs) => take_is xs v w' h ho hl 6 6 (by decide) (by omega)
  have z6 : 0 ≤ tk xs 6 6 ∧ tk xs 6 6 < 281474976710656 := by have := tk_lt ho 6 6 (by omega); simpa using this
  have T20 := fun w' (h : Seg w' v xs) => take_is xs v w' h ho hl 20 2 (by decide) (by omega)
  have z20 : 0 ≤ tk xs 20 2 ∧ tk xs 20 2 < 65536 := by have := tk_lt ho 20 2 (by omega); simpa using this
  have T22 := fun w' (h : Seg w' v xs) => take_is xs v w' h ho hl 22 6 (by decide) (by omega)
  have z22 : 0 ≤ tk xs 22 6 ∧ tk xs 22 6 < 281474976710656 := by have := tk_lt ho 22 6 (by omega); simpa using this
  have T28 := fun w' (h : Seg w' v xs) => take_is xs v w' h ho hl 28 4 (by decide) (by omega)
  have z28 : 0 ≤ tk xs 28 4 ∧ tk xs 28 4 < 4294967296 := by have := tk_lt ho 28 4 (by omega); simpa using this
  have T32 := fun w' (h : Seg w' v xs) => take_is xs v w' h ho hl 32 6 (by decide) (by omega)
  have z32 : 0 ≤ tk xs 32 6 ∧ tk xs 32 6 < 281474976710656 := by have := tk_lt ho 32 6 (by omega); simpa using this
  have T38 := fun w' (h : Seg w' v xs) => take_is xs v w' h ho hl 38 4 (by decide) (by omega)
  have z38 : 0 ≤ tk xs 38 4 ∧ tk xs 38 4 < 4294967296 := by have := tk_lt ho 38 4 (by omega); simpa using this
  have T42 := fun w' (h : Seg w' v xs) => take_is xs v w' h ho hl 42 8 (by decide) (by omega)
  have z42 : 0 ≤ tk xs 42 8 ∧ tk xs 42 8 < 18446744073709551616 := by have := tk_lt ho 42 8 (by omega); simpa using this
  have T12 := fun w' (h : Seg w' v xs) => take_is xs v w' h ho hl 12 2 (by decide) (by omega)
  have z12 : 0 ≤ tk xs 12 2 ∧ tk xs 12 2 < 65536 := by have := tk_lt ho 12 2 (by omega); simpa using this
  rw [tyAt_tk ho h14, hty] at T12
  clear z12 hty
  generalize tk xs 0 6 = d at *
  generalize tk xs 6 6 = s at *
  generalize tk xs 20 2 = op at *
  generalize tk xs 22 6 = sm at *
  generalize tk xs 28 4 = si at *
  generalize tk xs 32 6 = tm at *
  generalize tk xs 38 4 = ti at *
  generalize tk xs 42 8 = x at *
  have HX0 : Hid (xs ≠ []) := Lib.hid (fun q => by rw [q] at h14; exact absurd h14 (by decide))
  clear hz
  have HV := Lib.hid hv
  obtain ⟨va, vc, rfl, -⟩ := id hv
  clear hv
  unfold FL.v
  go_enter Try.func26, Try.ntmps26
  go_wp2_with (first
    | (refine at_new rfl 36 F0.cs rfl run_newFr ?_; rintro w1 H1 k1 s1)
    | (refine at_new rfl 38 FZ rfl run_newFt ?_; rintro w2 G2 k2 s2; rw [s1] at G2; have H2 := H1.below k2 H1.lt; have b2 := k1.trans (k2.mono k1.size); have SS := Lib.hid s2; have l2 := G2.lt; clear k1 k2 H1 s2; try go_simp))
  go_at_call 54
  refine (T0 w2 (HV.out.below b2)).mono ?_
  rintro e w' ⟨rfl, hw⟩
  obtain rfl := hw.symm
  go_wp2_with fail
  go_at_call 54
  refine (T6 w2 (HV.out.below b2)).mono ?_
  rintro e w' ⟨rfl, hw⟩
  obtain rfl := hw.symm
  go_wp2_with (first
    | (refine at_bld rfl 36 _ rfl (FL.cs (FL.mk s d 0 0 0 0 0 0 0 0 0 0 0 0 0)) (by kernel_rfl) ?_)
    | (refine at_new rfl 36 F0.cs rfl run_newFr ?_; rintro w3 X3 k3 s3; have b3 := b2.trans (k3.mono b2.size); have H3 := H2.below k3 H2.lt; have G3 := G2.below k3 G2.lt; have FB := b2.size; clear b2 H2 G2 k3 s3; try go_simp)
    | (refine at_put rfl 36 _ _ rfl rfl w2.heap.size rfl (FL.cs (FL.mk s d 0 0 0 0 0 0 0 0 0 0 0 0 0)) rfl X3 rfl szF (cs_one _) ?_; rintro w4 g4; have X4 := g4.blk; have b4 := g4.below b3 FB; have H4 := g4.but.blk H3 H3.lt (show w.heap.size ≠ w2.heap.size by omega); have G4 := g4.but.blk G3 G3.lt (show w.heap.size + 1 ≠ w2.heap.size by omega); clear b3 H3 G3 X3 g4))
  go_at_call 54
  refine (T12 w4 (HV.out.below b4)).mono ?_
  rintro e w' ⟨rfl, hw⟩
  obtain rfl := hw.symm
  go_wp2_with (refine at_set rfl 3 _ _ rfl rfl w2.heap.size 2 rfl 36 (FL.cs (FL.mk s d 0 0 0 0 0 0 0 0 0 0 0 0 0)) (FL.cs (FL.mk s d 1 0 0 0 0 0 0 0 0 0 0 0 0)) (.int .i64 1) rfl X4 rfl rfl rfl int_one (show 2 < 15 by decide) ?_; rintro w5 g5; have X5 := g5.blk; have b5 := g5.below b4 FB; have H5 := g5.but.blk H4 H4.lt (show w.heap.size ≠ w2.heap.size by omega); have G5 := g5.but.blk G4 G4.lt (show w.heap.size + 1 ≠ w2.heap.size by omega); have c2 := Blk.cell X5 2 (v := .int .i64 1) rfl; clear b4 H4 G4 X4 g5)
  go_at_call 54
  refine (T20 w5 (HV.out.below b5)).mono ?_
  rintro e w' ⟨rfl, hw⟩
  obtain rfl := hw.symm
  go_wp2_with fail
  go_at_call 54
  refine (T22 w5 (HV.out.below b5)).mono ?_
  rintro e w' ⟨rfl, hw⟩
  obtain rfl := hw.symm
  go_wp2_with fail
  go_at_call 54
  refine (T28 w5 (HV.out.below b5)).mono ?_
  rintro e w' ⟨rfl, hw⟩
  obtain rfl := hw.symm
  go_wp2_with fail
  go_at_call 54
  refine (T32 w5 (HV.out.below b5)).mono ?_
  rintro e w' ⟨rfl, hw⟩
  obtain rfl := hw.symm
  go_wp2_with fail
  go_at_call 54
  refine (T38 w5 (HV.out.below b5)).mono ?_
  rintro e w' ⟨rfl, hw⟩
  obtain rfl := hw.symm
  clear c2
  go_wp2_with (first
    | (refine at_bld rfl 34 _ rfl [.int .i64 op, .int .u64 sm, .int .u32 si, .int .u64 tm, .int .u32 ti] (by kernel_rfl) ?_)
    | (refine at_setMid rfl 34 _ _ rfl rfl w2.heap.size 3 rfl 36 (FL.cs (FL.mk s d 1 0 0 0 0 0 0 0 0 0 0 0 0)) (FL.cs (FL.mk s d 1 op sm si tm ti 0 0 0 0 0 0 0)) [.int .i64 op, .int .u64 sm, .int .u32 si, .int .u64 tm, .int .u32 ti] rfl X5 rfl (by simp [Value.oneCell']) szA (show 3 + 5 ≤ 15 by decide) ?_; rintro w6 g6; have X6 := g6.blk; have b6 := g6.below b5 FB; have H6 := g6.but.blk H5 H5.lt (show w.heap.size ≠ w2.heap.size by omega); have G6 := g6.but.blk G5 G5.lt (show w.heap.size + 1 ≠ w2.heap.size by omega); clear b5 H5 G5 X5 g6))
  go_at_call 54
  refine (T42 w6 (HV.out.below b6)).mono ?_
  rintro e w' ⟨rfl, hw⟩
  obtain rfl := hw.symm
  go_wp2_with (first
    | (refine at_set rfl 27 _ _ rfl rfl w2.heap.size 14 rfl 36 (FL.cs (FL.mk s d 1 op sm si tm ti 0 0 0 0 0 0 0)) (FL.cs (FL.mk s d 1 op sm si tm ti 0 0 0 0 0 0 x)) (.int .u64 x) rfl X6 rfl rfl rfl u64_one (show 14 < 15 by decide) ?_; rintro we ge; have Xe := ge.blk; have be' := ge.below b6 FB; have He := ge.but.blk H6 H6.lt (show w.heap.size ≠ w2.heap.size by omega); have Ge := ge.but.blk G6 G6.lt (show w.heap.size + 1 ≠ w2.heap.size by omega); clear b6 H6 G6 X6 ge)
    | (refine at_mid rfl 36 _ rfl w2.heap.size 0 rfl Xe (FL.cs (FL.mk s d 1 op sm si tm ti 0 0 0 0 0 0 x)) rfl _ Try.underlying36 rfl szF ?_))
  go_at_call 22
  refine (HB we).mono ?_
  rintro e wa ⟨rfl, ka⟩
  have ba := be'.trans (ka.mono be'.size)
  have Ha := He.below ka He.lt
  have Ga := Ge.below ka Ge.lt
  have Xa := Xe.below ka Xe.lt
  clear be' He Ge Xe ka HB
  go_wp2_with (first
    | (refine at_bld rfl 36 _ rfl (FL.cs F0) (by kernel_rfl) ?_)
    | (refine at_bld rfl 38 _ rfl (flt 3 0) (by kernel_rfl) ?_)
    | (refine at_put rfl 36 _ _ rfl rfl w.heap.size rfl (FL.cs F0) rfl Ha rfl szF (cs_one _) ?_; rintro w8 g8; have H8 := g8.blk; have G8 := g8.but.blk Ga Ga.lt (show w.heap.size + 1 ≠ w.heap.size by omega); have b8 := g8.below ba (Nat.le_refl _); clear Ha Ga ba g8)
    | (refine at_put rfl 38 _ _ rfl rfl (w.heap.size + 1) rfl (flt 3 0) rfl G8 rfl szFt (flt_one _ _) ?_; rintro w9 g9; have G9 := g9.blk; have H9 := g9.but.blk H8 H8.lt (show w.heap.size ≠ w.heap.size + 1 by omega); have b9 := g9.below b8 (Nat.le_succ _); clear H8 G8 b8 g9))
  exact bodyPost_ret (results_rows (by rfl) _ _ w.heap.size (w.heap.size + 1) _ _ (FL.cs F0).toArray (flt 3 0).toArray _ _ _ _ rfl H9 Try.underlying36 rfl szF rfl G9 Try.underlying38 rfl szFt) rfl ⟨rfl, b9⟩
set_option maxHeartbeats 4000000 in
theorem rr_bad21 (xs : List Int) (ho : Oct xs) (hl : xs.length ≤ 1000000) (h14 : 14 ≤ xs.length) (hty : tyAt xs = 2054) (hz : xs.length = 50) (hc : FL.chk (FL.mk (tk xs 6 6) (tk xs 0 6) 1 (tk xs 20 2) (tk xs 22 6) (tk xs 28 4) (tk xs 32 6) (tk xs 38 4) 0 0 0 0 0 0 (tk xs 42 8)) = 0) (heq : FL.enc (FL.mk (tk xs 6 6) (tk xs 0 6) 1 (tk xs 20 2) (tk xs 22 6) (tk xs 28 4) (tk xs 32 6) (tk xs 38 4) 0 0 0 0 0 0 (tk xs 42 8)) ≠ xs) (v : Value) (w : World) (hv : Seg w v xs) : Calls Try.prog 26 #[v] w fun r w' => r = .returned (.tuple #[FL.v F0, .agg (flt 3 0).toArray]) ∧ Below w.heap.size w w' := by
  have hlen : ¬ (xs.length : Int) < 14 := by omega
  have hlz : ¬ (xs.length : Int) < 50 := by omega
  have hlm : ¬ (50 : Int) < xs.length := by omega
  have hf := decF_ok (k := 1) ho
  rw [dec1 hz] at hf
  have HB := fun w => rbytes_ok _ hf hc w
  have HQ : ((strOfNums (FL.enc (FL.mk (tk xs 6 6) (tk xs 0 6) 1 (tk xs 20 2) (tk xs 22 6) (tk xs 28 4) (tk xs 32 6) (tk xs 38 4) 0 0 0 0 0 0 (tk xs 42 8)))).toList == (strOfNums xs).toList) = false := by rw [str_eq (enc_octets _) ho]; simpa using heq
  have HNE := Lib.hid (show FL.enc (FL.mk (tk xs 6 6) (tk xs 0 6) 1 (tk xs 20 2) (tk xs 22 6) (tk xs 28 4) (tk xs 32 6) (tk xs 38 4) 0 0 0 0 0 0 (tk xs 42 8)) ≠ [] from enc_some _)
  clear heq hc hf
  unfold FL.v at HB
  have T0 := fun w' (h : Seg w' v xs) => take_is xs v w' h ho hl 0 6 (by decide) (by omega)
  have z0 : 0 ≤ tk xs 0 6 ∧ tk xs 0 6 < 281474976710656 := by have := tk_lt ho 0 6 (by omega); simpa using this
  have T6 := fun w' (h : Seg w' v xs) => take_is xs v w' h ho hl 6 6 (by decide) (by omega)
  have z6 : 0 ≤ tk xs 6 6 ∧ tk xs 6 6 < 281474976710656 := by have := tk_lt ho 6 6 (by omega); simpa using this
  have T20 := fun w' (h : Seg w' v xs) => take_is xs v w' h ho hl 20 2 (by decide) (by omega)
  have z20 : 0 ≤ tk xs 20 2 ∧ tk xs 20 2 < 65536 := by have := tk_lt ho 20 2 (by omega); simpa using this
  have T22 := fun w' (h : Seg w' v xs) => take_is xs v w' h ho hl 22 6 (by decide) (by omega)
  have z22 : 0 ≤ tk xs 22 6 ∧ tk xs 22 6 < 281474976710656 := by have := tk_lt ho 22 6 (by omega); simpa using this
  have T28 := fun w' (h : Seg w' v xs) => take_is xs v w' h ho hl 28 4 (by decide) (by omega)
  have z28 : 0 ≤ tk xs 28 4 ∧ tk xs 28 4 < 4294967296 := by have := tk_lt ho 28 4 (by omega); simpa using this
  have T32 := fun w' (h : Seg w' v xs) => take_is xs v w' h ho hl 32 6 (by decide) (by omega)
  have z32 : 0 ≤ tk xs 32 6 ∧ tk xs 32 6 < 281474976710656 := by have := tk_lt ho 32 6 (by omega); simpa using this
  have T38 := fun w' (h : Seg w' v xs) => take_is xs v w' h ho hl 38 4 (by decide) (by omega)
  have z38 : 0 ≤ tk xs 38 4 ∧ tk xs 38 4 < 4294967296 := by have := tk_lt ho 38 4 (by omega); simpa using this
  have T42 := fun w' (h : Seg w' v xs) => take_is xs v w' h ho hl 42 8 (by decide) (by omega)
  have z42 : 0 ≤ tk xs 42 8 ∧ tk xs 42 8 < 18446744073709551616 := by have := tk_lt ho 42 8 (by omega); simpa using this
  have T12 := fun w' (h : Seg w' v xs) => take_is xs v w' h ho hl 12 2 (by decide) (by omega)
  have z12 : 0 ≤ tk xs 12 2 ∧ tk xs 12 2 < 65536 := by have := tk_lt ho 12 2 (by omega); simpa using this
  rw [tyAt_tk ho h14, hty] at T12
  clear z12 hty
  generalize tk xs 0 6 = d at *
  generalize tk xs 6 6 = s at *
  generalize tk xs 20 2 = op at *
  generalize tk xs 22 6 = sm at *
  generalize tk xs 28 4 = si at *
  generalize tk xs 32 6 = tm at *
  generalize tk xs 38 4 = ti at *
  generalize tk xs 42 8 = x at *
  generalize FL.enc (FL.mk s d 1 op sm si tm ti 0 0 0 0 0 0 x) = E at *
  have HX0 : Hid (xs ≠ []) := Lib.hid (fun q => by rw [q] at h14; exact absurd h14 (by decide))
  clear hz
  have HV := Lib.hid hv
  obtain ⟨va, vc, rfl, -⟩ := id hv
  clear hv
  unfold FL.v
  go_enter Try.func26, Try.ntmps26
  go_wp2_with (first
    | (refine at_new rfl 36 F0.cs rfl run_newFr ?_; rintro w1 H1 k1 s1)
    | (refine at_new rfl 38 FZ rfl run_newFt ?_; rintro w2 G2 k2 s2; rw [s1] at G2; have H2 := H1.below k2 H1.lt; have b2 := k1.trans (k2.mono k1.size); have SS := Lib.hid s2; have l2 := G2.lt; clear k1 k2 H1 s2; try go_simp))
  go_at_call 54
  refine (T0 w2 (HV.out.below b2)).mono ?_
  rintro e w' ⟨rfl, hw⟩
  obtain rfl := hw.symm
  go_wp2_with fail
  go_at_call 54
  refine (T6 w2 (HV.out.below b2)).mono ?_
  rintro e w' ⟨rfl, hw⟩
  obtain rfl := hw.symm
  go_wp2_with (first
    | (refine at_bld rfl 36 _ rfl (FL.cs (FL.mk s d 0 0 0 0 0 0 0 0 0 0 0 0 0)) (by kernel_rfl) ?_)
    | (refine at_new rfl 36 F0.cs rfl run_newFr ?_; rintro w3 X3 k3 s3; have b3 := b2.trans (k3.mono b2.size); have H3 := H2.below k3 H2.lt; have G3 := G2.below k3 G2.lt; have FB := b2.size; clear b2 H2 G2 k3 s3; try go_simp)
    | (refine at_put rfl 36 _ _ rfl rfl w2.heap.size rfl (FL.cs (FL.mk s d 0 0 0 0 0 0 0 0 0 0 0 0 0)) rfl X3 rfl szF (cs_one _) ?_; rintro w4 g4; have X4 := g4.blk; have b4 := g4.below b3 FB; have H4 := g4.but.blk H3 H3.lt (show w.heap.size ≠ w2.heap.size by omega); have G4 := g4.but.blk G3 G3.lt (show w.heap.size + 1 ≠ w2.heap.size by omega); clear b3 H3 G3 X3 g4))
  go_at_call 54
  refine (T12 w4 (HV.out.below b4)).mono ?_
  rintro e w' ⟨rfl, hw⟩
  obtain rfl := hw.symm
  go_wp2_with (refine at_set rfl 3 _ _ rfl rfl w2.heap.size 2 rfl 36 (FL.cs (FL.mk s d 0 0 0 0 0 0 0 0 0 0 0 0 0)) (FL.cs (FL.mk s d 1 0 0 0 0 0 0 0 0 0 0 0 0)) (.int .i64 1) rfl X4 rfl rfl rfl int_one (show 2 < 15 by decide) ?_; rintro w5 g5; have X5 := g5.blk; have b5 := g5.below b4 FB; have H5 := g5.but.blk H4 H4.lt (show w.heap.size ≠ w2.heap.size by omega); have G5 := g5.but.blk G4 G4.lt (show w.heap.size + 1 ≠ w2.heap.size by omega); have c2 := Blk.cell X5 2 (v := .int .i64 1) rfl; clear b4 H4 G4 X4 g5)
  go_at_call 54
  refine (T20 w5 (HV.out.below b5)).mono ?_
  rintro e w' ⟨rfl, hw⟩
  obtain rfl := hw.symm
  go_wp2_with fail
  go_at_call 54
  refine (T22 w5 (HV.out.below b5)).mono ?_
  rintro e w' ⟨rfl, hw⟩
  obtain rfl := hw.symm
  go_wp2_with fail
  go_at_call 54
  refine (T28 w5 (HV.out.below b5)).mono ?_
  rintro e w' ⟨rfl, hw⟩
  obtain rfl := hw.symm
  go_wp2_with fail
  go_at_call 54
  refine (T32 w5 (HV.out.below b5)).mono ?_
  rintro e w' ⟨rfl, hw⟩
  obtain rfl := hw.symm
  go_wp2_with fail
  go_at_call 54
  refine (T38 w5 (HV.out.below b5)).mono ?_
  rintro e w' ⟨rfl, hw⟩
  obtain rfl := hw.symm
  clear c2
  go_wp2_with (first
    | (refine at_bld rfl 34 _ rfl [.int .i64 op, .int .u64 sm, .int .u32 si, .int .u64 tm, .int .u32 ti] (by kernel_rfl) ?_)
    | (refine at_setMid rfl 34 _ _ rfl rfl w2.heap.size 3 rfl 36 (FL.cs (FL.mk s d 1 0 0 0 0 0 0 0 0 0 0 0 0)) (FL.cs (FL.mk s d 1 op sm si tm ti 0 0 0 0 0 0 0)) [.int .i64 op, .int .u64 sm, .int .u32 si, .int .u64 tm, .int .u32 ti] rfl X5 rfl (by simp [Value.oneCell']) szA (show 3 + 5 ≤ 15 by decide) ?_; rintro w6 g6; have X6 := g6.blk; have b6 := g6.below b5 FB; have H6 := g6.but.blk H5 H5.lt (show w.heap.size ≠ w2.heap.size by omega); have G6 := g6.but.blk G5 G5.lt (show w.heap.size + 1 ≠ w2.heap.size by omega); clear b5 H5 G5 X5 g6))
  go_at_call 54
  refine (T42 w6 (HV.out.below b6)).mono ?_
  rintro e w' ⟨rfl, hw⟩
  obtain rfl := hw.symm
  go_wp2_with (first
    | (refine at_set rfl 27 _ _ rfl rfl w2.heap.size 14 rfl 36 (FL.cs (FL.mk s d 1 op sm si tm ti 0 0 0 0 0 0 0)) (FL.cs (FL.mk s d 1 op sm si tm ti 0 0 0 0 0 0 x)) (.int .u64 x) rfl X6 rfl rfl rfl u64_one (show 14 < 15 by decide) ?_; rintro we ge; have Xe := ge.blk; have be' := ge.below b6 FB; have He := ge.but.blk H6 H6.lt (show w.heap.size ≠ w2.heap.size by omega); have Ge := ge.but.blk G6 G6.lt (show w.heap.size + 1 ≠ w2.heap.size by omega); clear b6 H6 G6 X6 ge)
    | (refine at_mid rfl 36 _ rfl w2.heap.size 0 rfl Xe (FL.cs (FL.mk s d 1 op sm si tm ti 0 0 0 0 0 0 x)) rfl _ Try.underlying36 rfl szF ?_))
  go_at_call 22
  refine (HB we).mono ?_
  rintro e wa ⟨u, rfl, da, ka⟩
  have ba := be'.trans (ka.mono be'.size)
  have Ha := He.below ka He.lt
  have Ga := Ge.below ka Ge.lt
  have Xa := Xe.below ka Xe.lt
  clear be' He Ge Xe ka HB
  have hs1 := seg_string da.dat.seg HNE.out
  have hs2 := seg_string (HV.out.below ba) HX0.out
  obtain ⟨ua, uc, rfl⟩ := da.dat.shape
  clear da
  generalize strOfNums E = str1 at *
  generalize strOfNums xs = str2 at *
  go_wp2_with (first
    | (refine at_bld rfl 36 _ rfl (FL.cs F0) (by kernel_rfl) ?_)
    | (refine at_bld rfl 38 _ rfl (flt 3 0) (by kernel_rfl) ?_)
    | (refine at_put rfl 36 _ _ rfl rfl w.heap.size rfl (FL.cs F0) rfl Ha rfl szF (cs_one _) ?_; rintro w8 g8; have H8 := g8.blk; have G8 := g8.but.blk Ga Ga.lt (show w.heap.size + 1 ≠ w.heap.size by omega); have b8 := g8.below ba (Nat.le_refl _); clear Ha Ga ba g8)
    | (refine at_put rfl 38 _ _ rfl rfl (w.heap.size + 1) rfl (flt 3 0) rfl G8 rfl szFt (flt_one _ _) ?_; rintro w9 g9; have G9 := g9.blk; have H9 := g9.but.blk H8 H8.lt (show w.heap.size ≠ w.heap.size + 1 by omega); have b9 := g9.below b8 (Nat.le_succ _); clear H8 G8 b8 g9))
  exact bodyPost_ret (results_rows (by rfl) _ _ w.heap.size (w.heap.size + 1) _ _ (FL.cs F0).toArray (flt 3 0).toArray _ _ _ _ rfl H9 Try.underlying36 rfl szF rfl G9 Try.underlying38 rfl szFt) rfl ⟨rfl, b9⟩
set_option maxHeartbeats 4000000 in
theorem rr_ok1 (xs : List Int) (ho : Oct xs) (hl : xs.length ≤ 1000000) (h14 : 14 ≤ xs.length) (hty : tyAt xs = 2054) (hz : xs.length = 50) (hc : FL.chk (FL.mk (tk xs 6 6) (tk xs 0 6) 1 (tk xs 20 2) (tk xs 22 6) (tk xs 28 4) (tk xs 32 6) (tk xs 38 4) 0 0 0 0 0 0 (tk xs 42 8)) = 0) (heq : FL.enc (FL.mk (tk xs 6 6) (tk xs 0 6) 1 (tk xs 20 2) (tk xs 22 6) (tk xs 28 4) (tk xs 32 6) (tk xs 38 4) 0 0 0 0 0 0 (tk xs 42 8)) = xs) (v : Value) (w : World) (hv : Seg w v xs) : Calls Try.prog 26 #[v] w fun r w' => r = .returned (.tuple #[FL.v (FL.mk (tk xs 6 6) (tk xs 0 6) 1 (tk xs 20 2) (tk xs 22 6) (tk xs 28 4) (tk xs 32 6) (tk xs 38 4) 0 0 0 0 0 0 (tk xs 42 8)), .agg (flt 0 0).toArray]) ∧ Below w.heap.size w w' := by
  have hlen : ¬ (xs.length : Int) < 14 := by omega
  have hlz : ¬ (xs.length : Int) < 50 := by omega
  have hlm : ¬ (50 : Int) < xs.length := by omega
  have hf := decF_ok (k := 1) ho
  rw [dec1 hz] at hf
  have HB := fun w => rbytes_ok _ hf hc w
  have HQ : ((strOfNums (FL.enc (FL.mk (tk xs 6 6) (tk xs 0 6) 1 (tk xs 20 2) (tk xs 22 6) (tk xs 28 4) (tk xs 32 6) (tk xs 38 4) 0 0 0 0 0 0 (tk xs 42 8)))).toList == (strOfNums xs).toList) = true := by rw [str_eq (enc_octets _) ho]; simpa using heq
  have HNE := Lib.hid (show FL.enc (FL.mk (tk xs 6 6) (tk xs 0 6) 1 (tk xs 20 2) (tk xs 22 6) (tk xs 28 4) (tk xs 32 6) (tk xs 38 4) 0 0 0 0 0 0 (tk xs 42 8)) ≠ [] from enc_some _)
  clear heq hc hf
  unfold FL.v at HB
  have T0 := fun w' (h : Seg w' v xs) => take_is xs v w' h ho hl 0 6 (by decide) (by omega)
  have z0 : 0 ≤ tk xs 0 6 ∧ tk xs 0 6 < 281474976710656 := by have := tk_lt ho 0 6 (by omega); simpa using this
  have T6 := fun w' (h : Seg w' v xs) => take_is xs v w' h ho hl 6 6 (by decide) (by omega)
  have z6 : 0 ≤ tk xs 6 6 ∧ tk xs 6 6 < 281474976710656 := by have := tk_lt ho 6 6 (by omega); simpa using this
  have T20 := fun w' (h : Seg w' v xs) => take_is xs v w' h ho hl 20 2 (by decide) (by omega)
  have z20 : 0 ≤ tk xs 20 2 ∧ tk xs 20 2 < 65536 := by have := tk_lt ho 20 2 (by omega); simpa using this
  have T22 := fun w' (h : Seg w' v xs) => take_is xs v w' h ho hl 22 6 (by decide) (by omega)
  have z22 : 0 ≤ tk xs 22 6 ∧ tk xs 22 6 < 281474976710656 := by have := tk_lt ho 22 6 (by omega); simpa using this
  have T28 := fun w' (h : Seg w' v xs) => take_is xs v w' h ho hl 28 4 (by decide) (by omega)
  have z28 : 0 ≤ tk xs 28 4 ∧ tk xs 28 4 < 4294967296 := by have := tk_lt ho 28 4 (by omega); simpa using this
  have T32 := fun w' (h : Seg w' v xs) => take_is xs v w' h ho hl 32 6 (by decide) (by omega)
  have z32 : 0 ≤ tk xs 32 6 ∧ tk xs 32 6 < 281474976710656 := by have := tk_lt ho 32 6 (by omega); simpa using this
  have T38 := fun w' (h : Seg w' v xs) => take_is xs v w' h ho hl 38 4 (by decide) (by omega)
  have z38 : 0 ≤ tk xs 38 4 ∧ tk xs 38 4 < 4294967296 := by have := tk_lt ho 38 4 (by omega); simpa using this
  have T42 := fun w' (h : Seg w' v xs) => take_is xs v w' h ho hl 42 8 (by decide) (by omega)
  have z42 : 0 ≤ tk xs 42 8 ∧ tk xs 42 8 < 18446744073709551616 := by have := tk_lt ho 42 8 (by omega); simpa using this
  have T12 := fun w' (h : Seg w' v xs) => take_is xs v w' h ho hl 12 2 (by decide) (by omega)
  have z12 : 0 ≤ tk xs 12 2 ∧ tk xs 12 2 < 65536 := by have := tk_lt ho 12 2 (by omega); simpa using this
  rw [tyAt_tk ho h14, hty] at T12
  clear z12 hty
  generalize tk xs 0 6 = d at *
  generalize tk xs 6 6 = s at *
  generalize tk xs 20 2 = op at *
  generalize tk xs 22 6 = sm at *
  generalize tk xs 28 4 = si at *
  generalize tk xs 32 6 = tm at *
  generalize tk xs 38 4 = ti at *
  generalize tk xs 42 8 = x at *
  generalize FL.enc (FL.mk s d 1 op sm si tm ti 0 0 0 0 0 0 x) = E at *
  have HX0 : Hid (xs ≠ []) := Lib.hid (fun q => by rw [q] at h14; exact absurd h14 (by decide))
  clear hz
  have HV := Lib.hid hv
  obtain ⟨va, vc, rfl, -⟩ := id hv
  clear hv
  unfold FL.v
  go_enter Try.func26, Try.ntmps26
  go_wp2_with (first
    | (refine at_new rfl 36 F0.cs rfl run_newFr ?_; rintro w1 H1 k1 s1)
    | (refine at_new rfl 38 FZ rfl run_newFt ?_; rintro w2 G2 k2 s2; rw [s1] at G2; have H2 := H1.below k2 H1.lt; have b2 := k1.trans (k2.mono k1.size); have SS := Lib.hid s2; have l2 := G2.lt; clear k1 k2 H1 s2; try go_simp))
  go_at_call 54
  refine (T0 w2 (HV.out.below b2)).mono ?_
  rintro e w' ⟨rfl, hw⟩
  obtain rfl := hw.symm
  go_wp2_with fail
  go_at_call 54
  refine (T6 w2 (HV.out.below b2)).mono ?_
  rintro e w' ⟨rfl, hw⟩
  obtain rfl := hw.symm
  go_wp2_with (first
    | (refine at_bld rfl 36 _ rfl (FL.cs (FL.mk s d 0 0 0 0 0 0 0 0 0 0 0 0 0)) (by kernel_rfl) ?_)
    | (refine at_new rfl 36 F0.cs rfl run_newFr ?_; rintro w3 X3 k3 s3; have b3 := b2.trans (k3.mono b2.size); have H3 := H2.below k3 H2.lt; have G3 := G2.below k3 G2.lt; have FB := b2.size; clear b2 H2 G2 k3 s3; try go_simp)
    | (refine at_put rfl 36 _ _ rfl rfl w2.heap.size rfl (FL.cs (FL.mk s d 0 0 0 0 0 0 0 0 0 0 0 0 0)) rfl X3 rfl szF (cs_one _) ?_; rintro w4 g4; have X4 := g4.blk; have b4 := g4.below b3 FB; have H4 := g4.but.blk H3 H3.lt (show w.heap.size ≠ w2.heap.size by omega); have G4 := g4.but.blk G3 G3.lt (show w.heap.size + 1 ≠ w2.heap.size by omega); clear b3 H3 G3 X3 g4))
  go_at_call 54
  refine (T12 w4 (HV.out.below b4)).mono ?_
  rintro e w' ⟨rfl, hw⟩
  obtain rfl := hw.symm
  go_wp2_with (refine at_set rfl 3 _ _ rfl rfl w2.heap.size 2 rfl 36 (FL.cs (FL.mk s d 0 0 0 0 0 0 0 0 0 0 0 0 0)) (FL.cs (FL.mk s d 1 0 0 0 0 0 0 0 0 0 0 0 0)) (.int .i64 1) rfl X4 rfl rfl rfl int_one (show 2 < 15 by decide) ?_; rintro w5 g5; have X5 := g5.blk; have b5 := g5.below b4 FB; have H5 := g5.but.blk H4 H4.lt (show w.heap.size ≠ w2.heap.size by omega); have G5 := g5.but.blk G4 G4.lt (show w.heap.size + 1 ≠ w2.heap.size by omega); have c2 := Blk.cell X5 2 (v := .int .i64 1) rfl; clear b4 H4 G4 X4 g5)
  go_at_call 54
  refine (T20 w5 (HV.out.below b5)).mono ?_
  rintro e w' ⟨rfl, hw⟩
  obtain rfl := hw.symm
  go_wp2_with fail
  go_at_call 54
  refine (T22 w5 (HV.out.below b5)).mono ?_
  rintro e w' ⟨rfl, hw⟩
  obtain rfl := hw.symm
  go_wp2_with fail
  go_at_call 54
  refine (T28 w5 (HV.out.below b5)).mono ?_
  rintro e w' ⟨rfl, hw⟩
  obtain rfl := hw.symm
  go_wp2_with fail
  go_at_call 54
  refine (T32 w5 (HV.out.below b5)).mono ?_
  rintro e w' ⟨rfl, hw⟩
  obtain rfl := hw.symm
  go_wp2_with fail
  go_at_call 54
  refine (T38 w5 (HV.out.below b5)).mono ?_
  rintro e w' ⟨rfl, hw⟩
  obtain rfl := hw.symm
  clear c2
  go_wp2_with (first
    | (refine at_bld rfl 34 _ rfl [.int .i64 op, .int .u64 sm, .int .u32 si, .int .u64 tm, .int .u32 ti] (by kernel_rfl) ?_)
    | (refine at_setMid rfl 34 _ _ rfl rfl w2.heap.size 3 rfl 36 (FL.cs (FL.mk s d 1 0 0 0 0 0 0 0 0 0 0 0 0)) (FL.cs (FL.mk s d 1 op sm si tm ti 0 0 0 0 0 0 0)) [.int .i64 op, .int .u64 sm, .int .u32 si, .int .u64 tm, .int .u32 ti] rfl X5 rfl (by simp [Value.oneCell']) szA (show 3 + 5 ≤ 15 by decide) ?_; rintro w6 g6; have X6 := g6.blk; have b6 := g6.below b5 FB; have H6 := g6.but.blk H5 H5.lt (show w.heap.size ≠ w2.heap.size by omega); have G6 := g6.but.blk G5 G5.lt (show w.heap.size + 1 ≠ w2.heap.size by omega); clear b5 H5 G5 X5 g6))
  go_at_call 54
  refine (T42 w6 (HV.out.below b6)).mono ?_
  rintro e w' ⟨rfl, hw⟩
  obtain rfl := hw.symm
  go_wp2_with (first
    | (refine at_set rfl 27 _ _ rfl rfl w2.heap.size 14 rfl 36 (FL.cs (FL.mk s d 1 op sm si tm ti 0 0 0 0 0 0 0)) (FL.cs (FL.mk s d 1 op sm si tm ti 0 0 0 0 0 0 x)) (.int .u64 x) rfl X6 rfl rfl rfl u64_one (show 14 < 15 by decide) ?_; rintro we ge; have Xe := ge.blk; have be' := ge.below b6 FB; have He := ge.but.blk H6 H6.lt (show w.heap.size ≠ w2.heap.size by omega); have Ge := ge.but.blk G6 G6.lt (show w.heap.size + 1 ≠ w2.heap.size by omega); clear b6 H6 G6 X6 ge)
    | (refine at_mid rfl 36 _ rfl w2.heap.size 0 rfl Xe (FL.cs (FL.mk s d 1 op sm si tm ti 0 0 0 0 0 0 x)) rfl _ Try.underlying36 rfl szF ?_))
  go_at_call 22
  refine (HB we).mono ?_
  rintro e wa ⟨u, rfl, da, ka⟩
  have ba := be'.trans (ka.mono be'.size)
  have Ha := He.below ka He.lt
  have Ga := Ge.below ka Ge.lt
  have Xa := Xe.below ka Xe.lt
  clear be' He Ge Xe ka HB
  have hs1 := seg_string da.dat.seg HNE.out
  have hs2 := seg_string (HV.out.below ba) HX0.out
  obtain ⟨ua, uc, rfl⟩ := da.dat.shape
  clear da
  generalize strOfNums E = str1 at *
  generalize strOfNums xs = str2 at *
  go_wp2_with (first
    | (refine at_mid rfl 36 _ rfl w2.heap.size 0 rfl Xa (FL.cs (FL.mk s d 1 op sm si tm ti 0 0 0 0 0 0 x)) rfl _ Try.underlying36 rfl szF ?_)
    | (refine at_bld rfl 36 _ rfl (FL.cs F0) (by kernel_rfl) ?_)
    | (refine at_bld rfl 38 _ rfl (flt 0 0) (by kernel_rfl) ?_)
    | (refine at_put rfl 36 _ _ rfl rfl w.heap.size rfl (FL.cs (FL.mk s d 1 op sm si tm ti 0 0 0 0 0 0 x)) rfl Ha rfl szF (cs_one _) ?_; rintro w8 g8; have H8 := g8.blk; have G8 := g8.but.blk Ga Ga.lt (show w.heap.size + 1 ≠ w.heap.size by omega); have b8 := g8.below ba (Nat.le_refl _); clear Ha Ga ba g8)
    | (refine at_put rfl 38 _ _ rfl rfl (w.heap.size + 1) rfl (flt 0 0) rfl G8 rfl szFt (flt_one _ _) ?_; rintro w9 g9; have G9 := g9.blk; have H9 := g9.but.blk H8 H8.lt (show w.heap.size ≠ w.heap.size + 1 by omega); have b9 := g9.below b8 (Nat.le_succ _); clear H8 G8 b8 g9))
  exact bodyPost_ret (results_rows (by rfl) _ _ w.heap.size (w.heap.size + 1) _ _ (FL.cs (FL.mk s d 1 op sm si tm ti 0 0 0 0 0 0 x)).toArray (flt 0 0).toArray _ _ _ _ rfl H9 Try.underlying36 rfl szF rfl G9 Try.underlying38 rfl szFt) rfl ⟨rfl, b9⟩
end Go.Proofs.Ytgpjelcihmbiiaa
