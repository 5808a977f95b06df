/- The reference of layer 7: Read, octets that are too short, or of no known type. No condition. The reference of layer 7: Read, octets of another size than their type has. No condition. The reference of layer 7: Read, a frame of data. No condition. -/
import Derived.Test.YtgpjelcihmbiiaaWq
import Derived.Test.YtgpjelcihmbiiaaPZk
import Derived.Test.YtgpjelcihmbiiaaQt
namespace Go.Proofs.Ytgpjelcihmbiiaa
open Go.RowKit Go.Sort
set_option linter.unusedVariables false
set_option linter.unusedSimpArgs false
set_option maxRecDepth 100000

set_option maxHeartbeats 4000000 in
theorem rr_short (xs : List Int) (ho : Oct xs) (hl : xs.length ≤ 1000000) (h : xs.length < 14) (v : Value) (w : World) (hv : Seg w v xs) : Calls Try.prog 26 #[v] w fun r w' => r = .returned (.tuple #[FL.v F0, .agg (flt 4 (xs.length : Int)).toArray]) ∧ Below w.heap.size w w' := by
  have hlen : (xs.length : Int) < 14 := by omega
  have HV := Lib.hid hv
  obtain ⟨va, vc, rfl, -⟩ := id hv
  clear hv
  unfold FL.v
  go_enter Try.func26, Try.ntmps26
  go_wp2_with (first
    | (refine at_new rfl 36 F0.cs rfl run_newFr ?_; rintro w1 H1 k1 s1)
    | (refine at_new rfl 38 FZ rfl run_newFt ?_; rintro w2 G2 k2 s2; rw [s1] at G2; have H2 := H1.below k2 H1.lt; have b2 := k1.trans (k2.mono k1.size); have SS := Lib.hid s2; have l2 := G2.lt; clear k1 k2 H1 s2; try go_simp)
    | (refine at_bld rfl 36 _ rfl (FL.cs F0) (by kernel_rfl) ?_)
    | (refine at_bld rfl 38 _ rfl (flt 4 (xs.length : Int)) (by kernel_rfl) ?_)
    | (refine at_put rfl 36 _ _ rfl rfl w.heap.size rfl (FL.cs F0) rfl H2 rfl szF (cs_one _) ?_; rintro w8 g8; have H8 := g8.blk; have G8 := g8.but.blk G2 G2.lt (show w.heap.size + 1 ≠ w.heap.size by omega); have b8 := g8.below b2 (Nat.le_refl _); clear H2 G2 b2 g8)
    | (refine at_put rfl 38 _ _ rfl rfl (w.heap.size + 1) rfl (flt 4 (xs.length : Int)) rfl G8 rfl szFt (flt_one _ _) ?_; rintro w9 g9; have G9 := g9.blk; have H9 := g9.but.blk H8 H8.lt (show w.heap.size ≠ w.heap.size + 1 by omega); have b9 := g9.below b8 (Nat.le_succ _); clear H8 G8 b8 g9))
  exact bodyPost_ret (results_rows (by rfl) _ _ w.heap.size (w.heap.size + 1) _ _ (FL.cs F0).toArray (flt 4 (xs.length : Int)).toArray _ _ _ _ rfl H9 Try.underlying36 rfl szF rfl G9 Try.underlying38 rfl szFt) rfl ⟨rfl, b9⟩
set_option maxHeartbeats 4000000 in
theorem rr_type (xs : List Int) (ho : Oct xs) (hl : xs.length ≤ 1000000) (h : 14 ≤ xs.length) (hk : knOf (tyAt xs) = false) (v : Value) (w : World) (hv : Seg w v xs) : Calls Try.prog 26 #[v] w fun r w' => r = .returned (.tuple #[FL.v F0, .agg (flt 6 12).toArray]) ∧ Below w.heap.size w w' := by
  have hlen : ¬ (xs.length : Int) < 14 := by omega
  have T0 := fun w' (h : Seg w' v xs) => take_is xs v w' h ho hl 0 6 (by decide) (by omega)
  have z0 : 0 ≤ tk xs 0 6 ∧ tk xs 0 6 < 281474976710656 := by have := tk_lt ho 0 6 (by omega); simpa using this
  have T6 := fun w' (h : Seg w' v xs) => take_is xs v w' h ho hl 6 6 (by decide) (by omega)
  have z6 : 0 ≤ tk xs 6 6 ∧ tk xs 6 6 < 281474976710656 := by have := tk_lt ho 6 6 (by omega); simpa using this
  have T12 := fun w' (h : Seg w' v xs) => take_is xs v w' h ho hl 12 2 (by decide) (by omega)
  have z12 : 0 ≤ tk xs 12 2 ∧ tk xs 12 2 < 65536 := by have := tk_lt ho 12 2 (by omega); simpa using this
  rw [tyAt_tk ho h] at T12
  obtain ⟨q1, q2, q3⟩ : tyAt xs ≠ 34997 ∧ tyAt xs ≠ 2054 ∧ tyAt xs ≠ 2048 := by simpa [knOf] using hk
  clear z12 hk
  generalize tyAt xs = ty at *
  generalize tk xs 0 6 = d at *
  generalize tk xs 6 6 = s at *
  clear h ho hl
  have HV := Lib.hid hv
  obtain ⟨va, vc, rfl, -⟩ := id hv
  clear hv
  unfold FL.v
  go_enter Try.func26, Try.ntmps26
  go_wp2_with (first
    | (refine at_new rfl 36 F0.cs rfl run_newFr ?_; rintro w1 H1 k1 s1)
    | (refine at_new rfl 38 FZ rfl run_newFt ?_; rintro w2 G2 k2 s2; rw [s1] at G2; have H2 := H1.below k2 H1.lt; have b2 := k1.trans (k2.mono k1.size); have SS := Lib.hid s2; have l2 := G2.lt; clear k1 k2 H1 s2; try go_simp))
  go_at_call 54
  refine (T0 w2 (HV.out.below b2)).mono ?_
  rintro e w' ⟨rfl, hw⟩
  obtain rfl := hw.symm
  go_wp2_with fail
  go_at_call 54
  refine (T6 w2 (HV.out.below b2)).mono ?_
  rintro e w' ⟨rfl, hw⟩
  obtain rfl := hw.symm
  go_wp2_with (first
    | (refine at_bld rfl 36 _ rfl (FL.cs (FL.mk s d 0 0 0 0 0 0 0 0 0 0 0 0 0)) (by kernel_rfl) ?_)
    | (refine at_new rfl 36 F0.cs rfl run_newFr ?_; rintro w3 X3 k3 s3; have b3 := b2.trans (k3.mono b2.size); have H3 := H2.below k3 H2.lt; have G3 := G2.below k3 G2.lt; have FB := b2.size; clear b2 H2 G2 k3 s3; try go_simp)
    | (refine at_put rfl 36 _ _ rfl rfl w2.heap.size rfl (FL.cs (FL.mk s d 0 0 0 0 0 0 0 0 0 0 0 0 0)) rfl X3 rfl szF (cs_one _) ?_; rintro w4 g4; have X4 := g4.blk; have b4 := g4.below b3 FB; have H4 := g4.but.blk H3 H3.lt (show w.heap.size ≠ w2.heap.size by omega); have G4 := g4.but.blk G3 G3.lt (show w.heap.size + 1 ≠ w2.heap.size by omega); clear b3 H3 G3 X3 g4))
  go_at_call 54
  refine (T12 w4 (HV.out.below b4)).mono ?_
  rintro e w' ⟨rfl, hw⟩
  obtain rfl := hw.symm
  go_wp2_with (first
    | (refine at_bld rfl 36 _ rfl (FL.cs F0) (by kernel_rfl) ?_)
    | (refine at_bld rfl 38 _ rfl (flt 6 12) (by kernel_rfl) ?_)
    | (refine at_put rfl 36 _ _ rfl rfl w.heap.size rfl (FL.cs F0) rfl H4 rfl szF (cs_one _) ?_; rintro w8 g8; have H8 := g8.blk; have G8 := g8.but.blk G4 G4.lt (show w.heap.size + 1 ≠ w.heap.size by omega); have b8 := g8.below b4 (Nat.le_refl _); clear H4 G4 b4 g8)
    | (refine at_put rfl 38 _ _ rfl rfl (w.heap.size + 1) rfl (flt 6 12) rfl G8 rfl szFt (flt_one _ _) ?_; rintro w9 g9; have G9 := g9.blk; have H9 := g9.but.blk H8 H8.lt (show w.heap.size ≠ w.heap.size + 1 by omega); have b9 := g9.below b8 (Nat.le_succ _); clear H8 G8 b8 g9))
  exact bodyPost_ret (results_rows (by rfl) _ _ w.heap.size (w.heap.size + 1) _ _ (FL.cs F0).toArray (flt 6 12).toArray _ _ _ _ rfl H9 Try.underlying36 rfl szF rfl G9 Try.underlying38 rfl szFt) rfl ⟨rfl, b9⟩
end Go.Proofs.Ytgpjelcihmbiiaa
namespace Go.Proofs.Ytgpjelcihmbiiaa
open Go.RowKit Go.Sort
set_option linter.unusedVariables false
set_option linter.unusedSimpArgs false
set_option maxRecDepth 100000

set_option maxHeartbeats 4000000 in
theorem rr_less0 (xs : List Int) (ho : Oct xs) (hl : xs.length ≤ 1000000) (h14 : 14 ≤ xs.length) (hty : tyAt xs = 34997) (hz : xs.length < 22) (v : Value) (w : World) (hv : Seg w v xs) : Calls Try.prog 26 #[v] w fun r w' => r = .returned (.tuple #[FL.v F0, .agg (flt 4 (xs.length : Int)).toArray]) ∧ Below w.heap.size w w' := by
  have hlen : ¬ (xs.length : Int) < 14 := by omega
  have hlz : (xs.length : Int) < 22 := by omega
  have T0 := fun w' (h : Seg w' v xs) => take_is xs v w' h ho hl 0 6 (by decide) (by omega)
  have z0 : 0 ≤ tk xs 0 6 ∧ tk xs 0 6 < 281474976710656 := by have := tk_lt ho 0 6 (by omega); simpa using this
  have T6 := fun w' (h : Seg w' v xs) => take_is xs v w' h ho hl 6 6 (by decide) (by omega)
  have z6 : 0 ≤ tk xs 6 6 ∧ tk xs 6 6 < 281474976710656 := by have := tk_lt ho 6 6 (by omega); simpa using this
  have T12 := fun w' (h : Seg w' v xs) => take_is xs v w' h ho hl 12 2 (by decide) (by omega)
  have z12 : 0 ≤ tk xs 12 2 ∧ tk xs 12 2 < 65536 := by have := tk_lt ho 12 2 (by omega); simpa using this
  rw [tyAt_tk ho h14, hty] at T12
  clear z12 hty
  generalize tk xs 0 6 = d at *
  generalize tk xs 6 6 = s at *
  have HV := Lib.hid hv
  obtain ⟨va, vc, rfl, -⟩ := id hv
  clear hv
  unfold FL.v
  go_enter Try.func26, Try.ntmps26
  go_wp2_with (first
    | (refine at_new rfl 36 F0.cs rfl run_newFr ?_; rintro w1 H1 k1 s1)
    | (refine at_new rfl 38 FZ rfl run_newFt ?_; rintro w2 G2 k2 s2; rw [s1] at G2; have H2 := H1.below k2 H1.lt; have b2 := k1.trans (k2.mono k1.size); have SS := Lib.hid s2; have l2 := G2.lt; clear k1 k2 H1 s2; try go_simp))
  go_at_call 54
  refine (T0 w2 (HV.out.below b2)).mono ?_
  rintro e w' ⟨rfl, hw⟩
  obtain rfl := hw.symm
  go_wp2_with fail
  go_at_call 54
  refine (T6 w2 (HV.out.below b2)).mono ?_
  rintro e w' ⟨rfl, hw⟩
  obtain rfl := hw.symm
  go_wp2_with (first
    | (refine at_bld rfl 36 _ rfl (FL.cs (FL.mk s d 0 0 0 0 0 0 0 0 0 0 0 0 0)) (by kernel_rfl) ?_)
    | (refine at_new rfl 36 F0.cs rfl run_newFr ?_; rintro w3 X3 k3 s3; have b3 := b2.trans (k3.mono b2.size); have H3 := H2.below k3 H2.lt; have G3 := G2.below k3 G2.lt; have FB := b2.size; clear b2 H2 G2 k3 s3; try go_simp)
    | (refine at_put rfl 36 _ _ rfl rfl w2.heap.size rfl (FL.cs (FL.mk s d 0 0 0 0 0 0 0 0 0 0 0 0 0)) rfl X3 rfl szF (cs_one _) ?_; rintro w4 g4; have X4 := g4.blk; have b4 := g4.below b3 FB; have H4 := g4.but.blk H3 H3.lt (show w.heap.size ≠ w2.heap.size by omega); have G4 := g4.but.blk G3 G3.lt (show w.heap.size + 1 ≠ w2.heap.size by omega); clear b3 H3 G3 X3 g4))
  go_at_call 54
  refine (T12 w4 (HV.out.below b4)).mono ?_
  rintro e w' ⟨rfl, hw⟩
  obtain rfl := hw.symm
  go_wp2_with (first
    | (refine at_bld rfl 36 _ rfl (FL.cs F0) (by kernel_rfl) ?_)
    | (refine at_bld rfl 38 _ rfl (flt 4 (xs.length : Int)) (by kernel_rfl) ?_)
    | (refine at_put rfl 36 _ _ rfl rfl w.heap.size rfl (FL.cs F0) rfl H4 rfl szF (cs_one _) ?_; rintro w8 g8; have H8 := g8.blk; have G8 := g8.but.blk G4 G4.lt (show w.heap.size + 1 ≠ w.heap.size by omega); have b8 := g8.below b4 (Nat.le_refl _); clear H4 G4 b4 g8)
    | (refine at_put rfl 38 _ _ rfl rfl (w.heap.size + 1) rfl (flt 4 (xs.length : Int)) rfl G8 rfl szFt (flt_one _ _) ?_; rintro w9 g9; have G9 := g9.blk; have H9 := g9.but.blk H8 H8.lt (show w.heap.size ≠ w.heap.size + 1 by omega); have b9 := g9.below b8 (Nat.le_succ _); clear H8 G8 b8 g9))
  exact bodyPost_ret (results_rows (by rfl) _ _ w.heap.size (w.heap.size + 1) _ _ (FL.cs F0).toArray (flt 4 (xs.length : Int)).toArray _ _ _ _ rfl H9 Try.underlying36 rfl szF rfl G9 Try.underlying38 rfl szFt) rfl ⟨rfl, b9⟩
set_option maxHeartbeats 4000000 in
theorem rr_more0 (xs : List Int) (ho : Oct xs) (hl : xs.length ≤ 1000000) (h14 : 14 ≤ xs.length) (hty : tyAt xs = 34997) (hz : 22 < xs.length) (v : Value) (w : World) (hv : Seg w v xs) : Calls Try.prog 26 #[v] w fun r w' => r = .returned (.tuple #[FL.v F0, .agg (flt 5 22).toArray]) ∧ Below w.heap.size w w' := by
  have hlen : ¬ (xs.length : Int) < 14 := by omega
  have hlz : ¬ (xs.length : Int) < 22 := by omega
  have hlm : (22 : Int) < xs.length := by omega
  have T0 := fun w' (h : Seg w' v xs) => take_is xs v w' h ho hl 0 6 (by decide) (by omega)
  have z0 : 0 ≤ tk xs 0 6 ∧ tk xs 0 6 < 281474976710656 := by have := tk_lt ho 0 6 (by omega); simpa using this
  have T6 := fun w' (h : Seg w' v xs) => take_is xs v w' h ho hl 6 6 (by decide) (by omega)
  have z6 : 0 ≤ tk xs 6 6 ∧ tk xs 6 6 < 281474976710656 := by have := tk_lt ho 6 6 (by omega); simpa using this
  have T12 := fun w' (h : Seg w' v xs) => take_is xs v w' h ho hl 12 2 (by decide) (by omega)
  have z12 : 0 ≤ tk xs 12 2 ∧ tk xs 12 2 < 65536 := by have := tk_lt ho 12 2 (by omega); simpa using this
  rw [tyAt_tk ho h14, hty] at T12
  clear z12 hty
  generalize tk xs 0 6 = d at *
  generalize tk xs 6 6 = s at *
  have HV := Lib.hid hv
  obtain ⟨va, vc, rfl, -⟩ := id hv
  clear hv
  unfold FL.v
  go_enter Try.func26, Try.ntmps26
  go_wp2_with (first
    | (refine at_new rfl 36 F0.cs rfl run_newFr ?_; rintro w1 H1 k1 s1)
    | (refine at_new rfl 38 FZ rfl run_newFt ?_; rintro w2 G2 k2 s2; rw [s1] at G2; have H2 := H1.below k2 H1.lt; have b2 := k1.trans (k2.mono k1.size); have SS := Lib.hid s2; have l2 := G2.lt; clear k1 k2 H1 s2; try go_simp))
  go_at_call 54
  refine (T0 w2 (HV.out.below b2)).mono ?_
  rintro e w' ⟨rfl, hw⟩
  obtain rfl := hw.symm
  go_wp2_with fail
  go_at_call 54
  refine (T6 w2 (HV.out.below b2)).mono ?_
  rintro e w' ⟨rfl, hw⟩
  obtain rfl := hw.symm
  go_wp2_with (first
    | (refine at_bld rfl 36 _ rfl (FL.cs (FL.mk s d 0 0 0 0 0 0 0 0 0 0 0 0 0)) (by kernel_rfl) ?_)
    | (refine at_new rfl 36 F0.cs rfl run_newFr ?_; rintro w3 X3 k3 s3; have b3 := b2.trans (k3.mono b2.size); have H3 := H2.below k3 H2.lt; have G3 := G2.below k3 G2.lt; have FB := b2.size; clear b2 H2 G2 k3 s3; try go_simp)
    | (refine at_put rfl 36 _ _ rfl rfl w2.heap.size rfl (FL.cs (FL.mk s d 0 0 0 0 0 0 0 0 0 0 0 0 0)) rfl X3 rfl szF (cs_one _) ?_; rintro w4 g4; have X4 := g4.blk; have b4 := g4.below b3 FB; have H4 := g4.but.blk H3 H3.lt (show w.heap.size ≠ w2.heap.size by omega); have G4 := g4.but.blk G3 G3.lt (show w.heap.size + 1 ≠ w2.heap.size by omega); clear b3 H3 G3 X3 g4))
  go_at_call 54
  refine (T12 w4 (HV.out.below b4)).mono ?_
  rintro e w' ⟨rfl, hw⟩
  obtain rfl := hw.symm
  go_wp2_with (first
    | (refine at_bld rfl 36 _ rfl (FL.cs F0) (by kernel_rfl) ?_)
    | (refine at_bld rfl 38 _ rfl (flt 5 22) (by kernel_rfl) ?_)
    | (refine at_put rfl 36 _ _ rfl rfl w.heap.size rfl (FL.cs F0) rfl H4 rfl szF (cs_one _) ?_; rintro w8 g8; have H8 := g8.blk; have G8 := g8.but.blk G4 G4.lt (show w.heap.size + 1 ≠ w.heap.size by omega); have b8 := g8.below b4 (Nat.le_refl _); clear H4 G4 b4 g8)
    | (refine at_put rfl 38 _ _ rfl rfl (w.heap.size + 1) rfl (flt 5 22) rfl G8 rfl szFt (flt_one _ _) ?_; rintro w9 g9; have G9 := g9.blk; have H9 := g9.but.blk H8 H8.lt (show w.heap.size ≠ w.heap.size + 1 by omega); have b9 := g9.below b8 (Nat.le_succ _); clear H8 G8 b8 g9))
  exact bodyPost_ret (results_rows (by rfl) _ _ w.heap.size (w.heap.size + 1) _ _ (FL.cs F0).toArray (flt 5 22).toArray _ _ _ _ rfl H9 Try.underlying36 rfl szF rfl G9 Try.underlying38 rfl szFt) rfl ⟨rfl, b9⟩
set_option maxHeartbeats 4000000 in
theorem rr_less1 (xs : List Int) (ho : Oct xs) (hl : xs.length ≤ 1000000) (h14 : 14 ≤ xs.length) (hty : tyAt xs = 2054) (hz : xs.length < 50) (v : Value) (w : World) (hv : Seg w v xs) : Calls Try.prog 26 #[v] w fun r w' => r = .returned (.tuple #[FL.v F0, .agg (flt 4 (xs.length : Int)).toArray]) ∧ Below w.heap.size w w' := by
  have hlen : ¬ (xs.length : Int) < 14 := by omega
  have hlz : (xs.length : Int) < 50 := by omega
  have T0 := fun w' (h : Seg w' v xs) => take_is xs v w' h ho hl 0 6 (by decide) (by omega)
  have z0 : 0 ≤ tk xs 0 6 ∧ tk xs 0 6 < 281474976710656 := by have := tk_lt ho 0 6 (by omega); simpa using this
  have T6 := fun w' (h : Seg w' v xs) => take_is xs v w' h ho hl 6 6 (by decide) (by omega)
  have z6 : 0 ≤ tk xs 6 6 ∧ tk xs 6 6 < 281474976710656 := by have := tk_lt ho 6 6 (by omega); simpa using this
  have T12 := fun w' (h : Seg w' v xs) => take_is xs v w' h ho hl 12 2 (by decide) (by omega)
  have z12 : 0 ≤ tk xs 12 2 ∧ tk xs 12 2 < 65536 := by have := tk_lt ho 12 2 (by omega); simpa using this
  rw [tyAt_tk ho h14, hty] at T12
  clear z12 hty
  generalize tk xs 0 6 = d at *
  generalize tk xs 6 6 = s at *
  have HV := Lib.hid hv
  obtain ⟨va, vc, rfl, -⟩ := id hv
  clear hv
  unfold FL.v
  go_enter Try.func26, Try.ntmps26
  go_wp2_with (first
    | (refine at_new rfl 36 F0.cs rfl run_newFr ?_; rintro w1 H1 k1 s1)
    | (refine at_new rfl 38 FZ rfl run_newFt ?_; rintro w2 G2 k2 s2; rw [s1] at G2; have H2 := H1.below k2 H1.lt; have b2 := k1.trans (k2.mono k1.size); have SS := Lib.hid s2; have l2 := G2.lt; clear k1 k2 H1 s2; try go_simp))
  go_at_call 54
  refine (T0 w2 (HV.out.below b2)).mono ?_
  rintro e w' ⟨rfl, hw⟩
  obtain rfl := hw.symm
  go_wp2_with fail
  go_at_call 54
  refine (T6 w2 (HV.out.below b2)).mono ?_
  rintro e w' ⟨rfl, hw⟩
  obtain rfl := hw.symm
  go_wp2_with (first
    | (refine at_bld rfl 36 _ rfl (FL.cs (FL.mk s d 0 0 0 0 0 0 0 0 0 0 0 0 0)) (by kernel_rfl) ?_)
    | (refine at_new rfl 36 F0.cs rfl run_newFr ?_; rintro w3 X3 k3 s3; have b3 := b2.trans (k3.mono b2.size); have H3 := H2.below k3 H2.lt; have G3 := G2.below k3 G2.lt; have FB := b2.size; clear b2 H2 G2 k3 s3; try go_simp)
    | (refine at_put rfl 36 _ _ rfl rfl w2.heap.size rfl (FL.cs (FL.mk s d 0 0 0 0 0 0 0 0 0 0 0 0 0)) rfl X3 rfl szF (cs_one _) ?_; rintro w4 g4; have X4 := g4.blk; have b4 := g4.below b3 FB; have H4 := g4.but.blk H3 H3.lt (show w.heap.size ≠ w2.heap.size by omega); have G4 := g4.but.blk G3 G3.lt (show w.heap.size + 1 ≠ w2.heap.size by omega); clear b3 H3 G3 X3 g4))
  go_at_call 54
  refine (T12 w4 (HV.out.below b4)).mono ?_
  rintro e w' ⟨rfl, hw⟩
  obtain rfl := hw.symm
  go_wp2_with (first
    | (refine at_set rfl 3 _ _ rfl rfl w2.heap.size 2 rfl 36 (FL.cs (FL.mk s d 0 0 0 0 0 0 0 0 0 0 0 0 0)) (FL.cs (FL.mk s d 1 0 0 0 0 0 0 0 0 0 0 0 0)) (.int .i64 1) rfl X4 rfl rfl rfl int_one (show 2 < 15 by decide) ?_; rintro w5 g5; have X5 := g5.blk; have b5 := g5.below b4 FB; have H5 := g5.but.blk H4 H4.lt (show w.heap.size ≠ w2.heap.size by omega); have G5 := g5.but.blk G4 G4.lt (show w.heap.size + 1 ≠ w2.heap.size by omega); clear b4 H4 G4 X4 g5)
    | (refine at_bld rfl 36 _ rfl (FL.cs F0) (by kernel_rfl) ?_)
    | (refine at_bld rfl 38 _ rfl (flt 4 (xs.length : Int)) (by kernel_rfl) ?_)
    | (refine at_put rfl 36 _ _ rfl rfl w.heap.size rfl (FL.cs F0) rfl H5 rfl szF (cs_one _) ?_; rintro w8 g8; have H8 := g8.blk; have G8 := g8.but.blk G5 G5.lt (show w.heap.size + 1 ≠ w.heap.size by omega); have b8 := g8.below b5 (Nat.le_refl _); clear H5 G5 b5 g8)
    | (refine at_put rfl 38 _ _ rfl rfl (w.heap.size + 1) rfl (flt 4 (xs.length : Int)) rfl G8 rfl szFt (flt_one _ _) ?_; rintro w9 g9; have G9 := g9.blk; have H9 := g9.but.blk H8 H8.lt (show w.heap.size ≠ w.heap.size + 1 by omega); have b9 := g9.below b8 (Nat.le_succ _); clear H8 G8 b8 g9))
  exact bodyPost_ret (results_rows (by rfl) _ _ w.heap.size (w.heap.size + 1) _ _ (FL.cs F0).toArray (flt 4 (xs.length : Int)).toArray _ _ _ _ rfl H9 Try.underlying36 rfl szF rfl G9 Try.underlying38 rfl szFt) rfl ⟨rfl, b9⟩
set_option maxHeartbeats 4000000 in
theorem rr_more1 (xs : List Int) (ho : Oct xs) (hl : xs.length ≤ 1000000) (h14 : 14 ≤ xs.length) (hty : tyAt xs = 2054) (hz : 50 < xs.length) (v : Value) (w : World) (hv : Seg w v xs) : Calls Try.prog 26 #[v] w fun r w' => r = .returned (.tuple #[FL.v F0, .agg (flt 5 50).toArray]) ∧ Below w.heap.size w w' := by
  have hlen : ¬ (xs.length : Int) < 14 := by omega
  have hlz : ¬ (xs.length : Int) < 50 := by omega
  have hlm : (50 : Int) < xs.length := by omega
  have T0 := fun w' (h : Seg w' v xs) => take_is xs v w' h ho hl 0 6 (by decide) (by omega)
  have z0 : 0 ≤ tk xs 0 6 ∧ tk xs 0 6 < 281474976710656 := by have := tk_lt ho 0 6 (by omega); simpa using this
  have T6 := fun w' (h : Seg w' v xs) => take_is xs v w' h ho hl 6 6 (by decide) (by omega)
  have z6 : 0 ≤ tk xs 6 6 ∧ tk xs 6 6 < 281474976710656 := by have := tk_lt ho 6 6 (by omega); simpa using this
  have T12 := fun w' (h : Seg w' v xs) => take_is xs v w' h ho hl 12 2 (by decide) (by omega)
  have z12 : 0 ≤ tk xs 12 2 ∧ tk xs 12 2 < 65536 := by have := tk_lt ho 12 2 (by omega); simpa using this
  rw [tyAt_tk ho h14, hty] at T12
  clear z12 hty
  generalize tk xs 0 6 = d at *
  generalize tk xs 6 6 = s at *
  have HV := Lib.hid hv
  obtain ⟨va, vc, rfl, -⟩ := id hv
  clear hv
  unfold FL.v
  go_enter Try.func26, Try.ntmps26
  go_wp2_with (first
    | (refine at_new rfl 36 F0.cs rfl run_newFr ?_; rintro w1 H1 k1 s1)
    | (refine at_new rfl 38 FZ rfl run_newFt ?_; rintro w2 G2 k2 s2; rw [s1] at G2; have H2 := H1.below k2 H1.lt; have b2 := k1.trans (k2.mono k1.size); have SS := Lib.hid s2; have l2 := G2.lt; clear k1 k2 H1 s2; try go_simp))
  go_at_call 54
  refine (T0 w2 (HV.out.below b2)).mono ?_
  rintro e w' ⟨rfl, hw⟩
  obtain rfl := hw.symm
  go_wp2_with fail
  go_at_call 54
  refine (T6 w2 (HV.out.below b2)).mono ?_
  rintro e w' ⟨rfl, hw⟩
  obtain rfl := hw.symm
  go_wp2_with (first
    | (refine at_bld rfl 36 _ rfl (FL.cs (FL.mk s d 0 0 0 0 0 0 0 0 0 0 0 0 0)) (by kernel_rfl) ?_)
    | (refine at_new rfl 36 F0.cs rfl run_newFr ?_; rintro w3 X3 k3 s3; have b3 := b2.trans (k3.mono b2.size); have H3 := H2.below k3 H2.lt; have G3 := G2.below k3 G2.lt; have FB := b2.size; clear b2 H2 G2 k3 s3; try go_simp)
    | (refine at_put rfl 36 _ _ rfl rfl w2.heap.size rfl (FL.cs (FL.mk s d 0 0 0 0 0 0 0 0 0 0 0 0 0)) rfl X3 rfl szF (cs_one _) ?_; rintro w4 g4; have X4 := g4.blk; have b4 := g4.below b3 FB; have H4 := g4.but.blk H3 H3.lt (show w.heap.size ≠ w2.heap.size by omega); have G4 := g4.but.blk G3 G3.lt (show w.heap.size + 1 ≠ w2.heap.size by omega); clear b3 H3 G3 X3 g4))
  go_at_call 54
  refine (T12 w4 (HV.out.below b4)).mono ?_
  rintro e w' ⟨rfl, hw⟩
  obtain rfl := hw.symm
  go_wp2_with (first
    | (refine at_set rfl 3 _ _ rfl rfl w2.heap.size 2 rfl 36 (FL.cs (FL.mk s d 0 0 0 0 0 0 0 0 0 0 0 0 0)) (FL.cs (FL.mk s d 1 0 0 0 0 0 0 0 0 0 0 0 0)) (.int .i64 1) rfl X4 rfl rfl rfl int_one (show 2 < 15 by decide) ?_; rintro w5 g5; have X5 := g5.blk; have b5 := g5.below b4 FB; have H5 := g5.but.blk H4 H4.lt (show w.heap.size ≠ w2.heap.size by omega); have G5 := g5.but.blk G4 G4.lt (show w.heap.size + 1 ≠ w2.heap.size by omega); clear b4 H4 G4 X4 g5)
    | (refine at_bld rfl 36 _ rfl (FL.cs F0) (by kernel_rfl) ?_)
    | (refine at_bld rfl 38 _ rfl (flt 5 50) (by kernel_rfl) ?_)
    | (refine at_put rfl 36 _ _ rfl rfl w.heap.size rfl (FL.cs F0) rfl H5 rfl szF (cs_one _) ?_; rintro w8 g8; have H8 := g8.blk; have G8 := g8.but.blk G5 G5.lt (show w.heap.size + 1 ≠ w.heap.size by omega); have b8 := g8.below b5 (Nat.le_refl _); clear H5 G5 b5 g8)
    | (refine at_put rfl 38 _ _ rfl rfl (w.heap.size + 1) rfl (flt 5 50) rfl G8 rfl szFt (flt_one _ _) ?_; rintro w9 g9; have G9 := g9.blk; have H9 := g9.but.blk H8 H8.lt (show w.heap.size ≠ w.heap.size + 1 by omega); have b9 := g9.below b8 (Nat.le_succ _); clear H8 G8 b8 g9))
  exact bodyPost_ret (results_rows (by rfl) _ _ w.heap.size (w.heap.size + 1) _ _ (FL.cs F0).toArray (flt 5 50).toArray _ _ _ _ rfl H9 Try.underlying36 rfl szF rfl G9 Try.underlying38 rfl szFt) rfl ⟨rfl, b9⟩
set_option maxHeartbeats 4000000 in
theorem rr_less2s (xs : List Int) (ho : Oct xs) (hl : xs.length ≤ 1000000) (h14 : 14 ≤ xs.length) (hty : tyAt xs = 2048) (hz : xs.length < 34) (v : Value) (w : World) (hv : Seg w v xs) : Calls Try.prog 26 #[v] w fun r w' => r = .returned (.tuple #[FL.v F0, .agg (flt 4 (xs.length : Int)).toArray]) ∧ Below w.heap.size w w' := by
  have hlen : ¬ (xs.length : Int) < 14 := by omega
  have hlz : (xs.length : Int) < 42 := by omega
  have hl34 : ¬ (34 : Int) ≤ xs.length := by omega
  have T0 := fun w' (h : Seg w' v xs) => take_is xs v w' h ho hl 0 6 (by decide) (by omega)
  have z0 : 0 ≤ tk xs 0 6 ∧ tk xs 0 6 < 281474976710656 := by have := tk_lt ho 0 6 (by omega); simpa using this
  have T6 := fun w' (h : Seg w' v xs) => take_is xs v w' h ho hl 6 6 (by decide) (by omega)
  have z6 : 0 ≤ tk xs 6 6 ∧ tk xs 6 6 < 281474976710656 := by have := tk_lt ho 6 6 (by omega); simpa using this
  have T12 := fun w' (h : Seg w' v xs) => take_is xs v w' h ho hl 12 2 (by decide) (by omega)
  have z12 : 0 ≤ tk xs 12 2 ∧ tk xs 12 2 < 65536 := by have := tk_lt ho 12 2 (by omega); simpa using this
  rw [tyAt_tk ho h14, hty] at T12
  clear z12 hty
  generalize tk xs 0 6 = d at *
  generalize tk xs 6 6 = s at *
  have HV := Lib.hid hv
  obtain ⟨va, vc, rfl, -⟩ := id hv
  obtain ⟨bb, oo, rfl, -⟩ := Seg.some hv (by omega)
  clear hv
  unfold FL.v
  go_enter Try.func26, Try.ntmps26
  go_wp2_with (first
    | (refine at_new rfl 36 F0.cs rfl run_newFr ?_; rintro w1 H1 k1 s1)
    | (refine at_new rfl 38 FZ rfl run_newFt ?_; rintro w2 G2 k2 s2; rw [s1] at G2; have H2 := H1.below k2 H1.lt; have b2 := k1.trans (k2.mono k1.size); have SS := Lib.hid s2; have l2 := G2.lt; clear k1 k2 H1 s2; try go_simp))
  go_at_call 54
  refine (T0 w2 (HV.out.below b2)).mono ?_
  rintro e w' ⟨rfl, hw⟩
  obtain rfl := hw.symm
  go_wp2_with fail
  go_at_call 54
  refine (T6 w2 (HV.out.below b2)).mono ?_
  rintro e w' ⟨rfl, hw⟩
  obtain rfl := hw.symm
  go_wp2_with (first
    | (refine at_bld rfl 36 _ rfl (FL.cs (FL.mk s d 0 0 0 0 0 0 0 0 0 0 0 0 0)) (by kernel_rfl) ?_)
    | (refine at_new rfl 36 F0.cs rfl run_newFr ?_; rintro w3 X3 k3 s3; have b3 := b2.trans (k3.mono b2.size); have H3 := H2.below k3 H2.lt; have G3 := G2.below k3 G2.lt; have FB := b2.size; clear b2 H2 G2 k3 s3; try go_simp)
    | (refine at_put rfl 36 _ _ rfl rfl w2.heap.size rfl (FL.cs (FL.mk s d 0 0 0 0 0 0 0 0 0 0 0 0 0)) rfl X3 rfl szF (cs_one _) ?_; rintro w4 g4; have X4 := g4.blk; have b4 := g4.below b3 FB; have H4 := g4.but.blk H3 H3.lt (show w.heap.size ≠ w2.heap.size by omega); have G4 := g4.but.blk G3 G3.lt (show w.heap.size + 1 ≠ w2.heap.size by omega); clear b3 H3 G3 X3 g4))
  go_at_call 54
  refine (T12 w4 (HV.out.below b4)).mono ?_
  rintro e w' ⟨rfl, hw⟩
  obtain rfl := hw.symm
  go_wp2_with (first
    | (refine at_set rfl 3 _ _ rfl rfl w2.heap.size 2 rfl 36 (FL.cs (FL.mk s d 0 0 0 0 0 0 0 0 0 0 0 0 0)) (FL.cs (FL.mk s d 2 0 0 0 0 0 0 0 0 0 0 0 0)) (.int .i64 2) rfl X4 rfl rfl rfl int_one (show 2 < 15 by decide) ?_; rintro w5 g5; have X5 := g5.blk; have b5 := g5.below b4 FB; have H5 := g5.but.blk H4 H4.lt (show w.heap.size ≠ w2.heap.size by omega); have G5 := g5.but.blk G4 G4.lt (show w.heap.size + 1 ≠ w2.heap.size by omega); clear b4 H4 G4 X4 g5)
    | (refine at_bld rfl 36 _ rfl (FL.cs F0) (by kernel_rfl) ?_)
    | (refine at_bld rfl 38 _ rfl (flt 4 (xs.length : Int)) (by kernel_rfl) ?_)
    | (refine at_put rfl 36 _ _ rfl rfl w.heap.size rfl (FL.cs F0) rfl H5 rfl szF (cs_one _) ?_; rintro w8 g8; have H8 := g8.blk; have G8 := g8.but.blk G5 G5.lt (show w.heap.size + 1 ≠ w.heap.size by omega); have b8 := g8.below b5 (Nat.le_refl _); clear H5 G5 b5 g8)
    | (refine at_put rfl 38 _ _ rfl rfl (w.heap.size + 1) rfl (flt 4 (xs.length : Int)) rfl G8 rfl szFt (flt_one _ _) ?_; rintro w9 g9; have G9 := g9.blk; have H9 := g9.but.blk H8 H8.lt (show w.heap.size ≠ w.heap.size + 1 by omega); have b9 := g9.below b8 (Nat.le_succ _); clear H8 G8 b8 g9))
  exact bodyPost_ret (results_rows (by rfl) _ _ w.heap.size (w.heap.size + 1) _ _ (FL.cs F0).toArray (flt 4 (xs.length : Int)).toArray _ _ _ _ rfl H9 Try.underlying36 rfl szF rfl G9 Try.underlying38 rfl szFt) rfl ⟨rfl, b9⟩
set_option maxHeartbeats 4000000 in
theorem rr_less2n (xs : List Int) (ho : Oct xs) (hl : xs.length ≤ 1000000) (h14 : 14 ≤ xs.length) (hty : tyAt xs = 2048) (h34 : 34 ≤ xs.length) (hz : xs.length < 42) (hp : pt (xs.getD 23 0) = false) (v : Value) (w : World) (hv : Seg w v xs) : Calls Try.prog 26 #[v] w fun r w' => r = .returned (.tuple #[FL.v F0, .agg (flt 4 (xs.length : Int)).toArray]) ∧ Below w.heap.size w w' := by
  have hlen : ¬ (xs.length : Int) < 14 := by omega
  have hlz : (xs.length : Int) < 42 := by omega
  have hl34 : (34 : Int) ≤ xs.length := by omega
  have T0 := fun w' (h : Seg w' v xs) => take_is xs v w' h ho hl 0 6 (by decide) (by omega)
  have z0 : 0 ≤ tk xs 0 6 ∧ tk xs 0 6 < 281474976710656 := by have := tk_lt ho 0 6 (by omega); simpa using this
  have T6 := fun w' (h : Seg w' v xs) => take_is xs v w' h ho hl 6 6 (by decide) (by omega)
  have z6 : 0 ≤ tk xs 6 6 ∧ tk xs 6 6 < 281474976710656 := by have := tk_lt ho 6 6 (by omega); simpa using this
  have T12 := fun w' (h : Seg w' v xs) => take_is xs v w' h ho hl 12 2 (by decide) (by omega)
  have z12 : 0 ≤ tk xs 12 2 ∧ tk xs 12 2 < 65536 := by have := tk_lt ho 12 2 (by omega); simpa using this
  rw [tyAt_tk ho h14, hty] at T12
  clear z12 hty
  have HP := fun w => rported_is (xs.getD 23 0) w
  rw [hp] at HP
  have zpr := ho.getD 23
  obtain ⟨pr, hpr⟩ : ∃ pr, xs.getD 23 0 = pr := ⟨_, rfl⟩
  rw [hpr] at HP zpr
  have HPR := Lib.hid hpr
  clear hp
  generalize tk xs 0 6 = d at *
  generalize tk xs 6 6 = s at *
  have HLE := Lib.hid hpr
  clear hpr
  have HV := Lib.hid hv
  obtain ⟨va, vc, rfl, -⟩ := id hv
  obtain ⟨bb, oo, rfl, -⟩ := Seg.some hv (by omega)
  clear hv
  unfold FL.v
  go_enter Try.func26, Try.ntmps26
  go_wp2_with (first
    | (refine at_new rfl 36 F0.cs rfl run_newFr ?_; rintro w1 H1 k1 s1)
    | (refine at_new rfl 38 FZ rfl run_newFt ?_; rintro w2 G2 k2 s2; rw [s1] at G2; have H2 := H1.below k2 H1.lt; have b2 := k1.trans (k2.mono k1.size); have SS := Lib.hid s2; have l2 := G2.lt; clear k1 k2 H1 s2; try go_simp))
  go_at_call 54
  refine (T0 w2 (HV.out.below b2)).mono ?_
  rintro e w' ⟨rfl, hw⟩
  obtain rfl := hw.symm
  go_wp2_with fail
  go_at_call 54
  refine (T6 w2 (HV.out.below b2)).mono ?_
  rintro e w' ⟨rfl, hw⟩
  obtain rfl := hw.symm
  go_wp2_with (first
    | (refine at_bld rfl 36 _ rfl (FL.cs (FL.mk s d 0 0 0 0 0 0 0 0 0 0 0 0 0)) (by kernel_rfl) ?_)
    | (refine at_new rfl 36 F0.cs rfl run_newFr ?_; rintro w3 X3 k3 s3; have b3 := b2.trans (k3.mono b2.size); have H3 := H2.below k3 H2.lt; have G3 := G2.below k3 G2.lt; have FB := b2.size; clear b2 H2 G2 k3 s3; try go_simp)
    | (refine at_put rfl 36 _ _ rfl rfl w2.heap.size rfl (FL.cs (FL.mk s d 0 0 0 0 0 0 0 0 0 0 0 0 0)) rfl X3 rfl szF (cs_one _) ?_; rintro w4 g4; have X4 := g4.blk; have b4 := g4.below b3 FB; have H4 := g4.but.blk H3 H3.lt (show w.heap.size ≠ w2.heap.size by omega); have G4 := g4.but.blk G3 G3.lt (show w.heap.size + 1 ≠ w2.heap.size by omega); clear b3 H3 G3 X3 g4))
  go_at_call 54
  refine (T12 w4 (HV.out.below b4)).mono ?_
  rintro e w' ⟨rfl, hw⟩
  obtain rfl := hw.symm
  go_wp2_with (refine at_set rfl 3 _ _ rfl rfl w2.heap.size 2 rfl 36 (FL.cs (FL.mk s d 0 0 0 0 0 0 0 0 0 0 0 0 0)) (FL.cs (FL.mk s d 2 0 0 0 0 0 0 0 0 0 0 0 0)) (.int .i64 2) rfl X4 rfl rfl rfl int_one (show 2 < 15 by decide) ?_; rintro w5 g5; have X5 := g5.blk; have b5 := g5.below b4 FB; have H5 := g5.but.blk H4 H4.lt (show w.heap.size ≠ w2.heap.size by omega); have G5 := g5.but.blk G4 G4.lt (show w.heap.size + 1 ≠ w2.heap.size by omega); have c23 : w5.cell? ⟨bb, oo + 23, none⟩ = some (.int .u8 pr) := (by obtain ⟨b', o', e, -, -, hx⟩ := Seg.some (HV.out.below b5) (by omega); cases e; rw [← HPR.out]; exact hx 23 (by omega)); clear b4 H4 G4 X4 g5)
  go_at_call 25
  refine (HP _).mono ?_
  rintro e w' ⟨rfl, hw⟩
  obtain rfl := hw.symm
  clear HP c23
  go_wp2_with (first
    | (refine at_bld rfl 36 _ rfl (FL.cs F0) (by kernel_rfl) ?_)
    | (refine at_bld rfl 38 _ rfl (flt 4 (xs.length : Int)) (by kernel_rfl) ?_)
    | (refine at_put rfl 36 _ _ rfl rfl w.heap.size rfl (FL.cs F0) rfl H5 rfl szF (cs_one _) ?_; rintro w8 g8; have H8 := g8.blk; have G8 := g8.but.blk G5 G5.lt (show w.heap.size + 1 ≠ w.heap.size by omega); have b8 := g8.below b5 (Nat.le_refl _); clear H5 G5 b5 g8)
    | (refine at_put rfl 38 _ _ rfl rfl (w.heap.size + 1) rfl (flt 4 (xs.length : Int)) rfl G8 rfl szFt (flt_one _ _) ?_; rintro w9 g9; have G9 := g9.blk; have H9 := g9.but.blk H8 H8.lt (show w.heap.size ≠ w.heap.size + 1 by omega); have b9 := g9.below b8 (Nat.le_succ _); clear H8 G8 b8 g9))
  exact bodyPost_ret (results_rows (by rfl) _ _ w.heap.size (w.heap.size + 1) _ _ (FL.cs F0).toArray (flt 4 (xs.length : Int)).toArray _ _ _ _ rfl H9 Try.underlying36 rfl szF rfl G9 Try.underlying38 rfl szFt) rfl ⟨rfl, b9⟩
set_option maxHeartbeats 4000000 in
theorem rr_more2n (xs : List Int) (ho : Oct xs) (hl : xs.length ≤ 1000000) (h14 : 14 ≤ xs.length) (hty : tyAt xs = 2048) (hz : 42 < xs.length) (hp : pt (xs.getD 23 0) = false) (v : Value) (w : World) (hv : Seg w v xs) : Calls Try.prog 26 #[v] w fun r w' => r = .returned (.tuple #[FL.v F0, .agg (flt 5 42).toArray]) ∧ Below w.heap.size w w' := by
  have hlen : ¬ (xs.length : Int) < 14 := by omega
  have hlz : ¬ (xs.length : Int) < 42 := by omega
  have hlm : (42 : Int) < xs.length := by omega
  have hl34 : (34 : Int) ≤ xs.length := by omega
  have T0 := fun w' (h : Seg w' v xs) => take_is xs v w' h ho hl 0 6 (by decide) (by omega)
  have z0 : 0 ≤ tk xs 0 6 ∧ tk xs 0 6 < 281474976710656 := by have := tk_lt ho 0 6 (by omega); simpa using this
  have T6 := fun w' (h : Seg w' v xs) => take_is xs v w' h ho hl 6 6 (by decide) (by omega)
  have z6 : 0 ≤ tk xs 6 6 ∧ tk xs 6 6 < 281474976710656 := by have := tk_lt ho 6 6 (by omega); simpa using this
  have T12 := fun w' (h : Seg w' v xs) => take_is xs v w' h ho hl 12 2 (by decide) (by omega)
  have z12 : 0 ≤ tk xs 12 2 ∧ tk xs 12 2 < 65536 := by have := tk_lt ho 12 2 (by omega); simpa using this
  rw [tyAt_tk ho h14, hty] at T12
  clear z12 hty
  have HP := fun w => rported_is (xs.getD 23 0) w
  rw [hp] at HP
  have zpr := ho.getD 23
  obtain ⟨pr, hpr⟩ : ∃ pr, xs.getD 23 0 = pr := ⟨_, rfl⟩
  rw [hpr] at HP zpr
  have HPR := Lib.hid hpr
  clear hp
  generalize tk xs 0 6 = d at *
  generalize tk xs 6 6 = s at *
  clear hpr
  have HV := Lib.hid hv
  obtain ⟨va, vc, rfl, -⟩ := id hv
  obtain ⟨bb, oo, rfl, -⟩ := Seg.some hv (by omega)
  clear hv
  unfold FL.v
  go_enter Try.func26, Try.ntmps26
  go_wp2_with (first
    | (refine at_new rfl 36 F0.cs rfl run_newFr ?_; rintro w1 H1 k1 s1)
    | (refine at_new rfl 38 FZ rfl run_newFt ?_; rintro w2 G2 k2 s2; rw [s1] at G2; have H2 := H1.below k2 H1.lt; have b2 := k1.trans (k2.mono k1.size); have SS := Lib.hid s2; have l2 := G2.lt; clear k1 k2 H1 s2; try go_simp))
  go_at_call 54
  refine (T0 w2 (HV.out.below b2)).mono ?_
  rintro e w' ⟨rfl, hw⟩
  obtain rfl := hw.symm
  go_wp2_with fail
  go_at_call 54
  refine (T6 w2 (HV.out.below b2)).mono ?_
  rintro e w' ⟨rfl, hw⟩
  obtain rfl := hw.symm
  go_wp2_with (first
    | (refine at_bld rfl 36 _ rfl (FL.cs (FL.mk s d 0 0 0 0 0 0 0 0 0 0 0 0 0)) (by kernel_rfl) ?_)
    | (refine at_new rfl 36 F0.cs rfl run_newFr ?_; rintro w3 X3 k3 s3; have b3 := b2.trans (k3.mono b2.size); have H3 := H2.below k3 H2.lt; have G3 := G2.below k3 G2.lt; have FB := b2.size; clear b2 H2 G2 k3 s3; try go_simp)
    | (refine at_put rfl 36 _ _ rfl rfl w2.heap.size rfl (FL.cs (FL.mk s d 0 0 0 0 0 0 0 0 0 0 0 0 0)) rfl X3 rfl szF (cs_one _) ?_; rintro w4 g4; have X4 := g4.blk; have b4 := g4.below b3 FB; have H4 := g4.but.blk H3 H3.lt (show w.heap.size ≠ w2.heap.size by omega); have G4 := g4.but.blk G3 G3.lt (show w.heap.size + 1 ≠ w2.heap.size by omega); clear b3 H3 G3 X3 g4))
  go_at_call 54
  refine (T12 w4 (HV.out.below b4)).mono ?_
  rintro e w' ⟨rfl, hw⟩
  obtain rfl := hw.symm
  go_wp2_with (refine at_set rfl 3 _ _ rfl rfl w2.heap.size 2 rfl 36 (FL.cs (FL.mk s d 0 0 0 0 0 0 0 0 0 0 0 0 0)) (FL.cs (FL.mk s d 2 0 0 0 0 0 0 0 0 0 0 0 0)) (.int .i64 2) rfl X4 rfl rfl rfl int_one (show 2 < 15 by decide) ?_; rintro w5 g5; have X5 := g5.blk; have b5 := g5.below b4 FB; have H5 := g5.but.blk H4 H4.lt (show w.heap.size ≠ w2.heap.size by omega); have G5 := g5.but.blk G4 G4.lt (show w.heap.size + 1 ≠ w2.heap.size by omega); have c23 : w5.cell? ⟨bb, oo + 23, none⟩ = some (.int .u8 pr) := (by obtain ⟨b', o', e, -, -, hx⟩ := Seg.some (HV.out.below b5) (by omega); cases e; rw [← HPR.out]; exact hx 23 (by omega)); clear b4 H4 G4 X4 g5)
  go_at_call 25
  refine (HP _).mono ?_
  rintro e w' ⟨rfl, hw⟩
  obtain rfl := hw.symm
  clear HP c23
  go_wp2_with (first
    | (refine at_bld rfl 36 _ rfl (FL.cs F0) (by kernel_rfl) ?_)
    | (refine at_bld rfl 38 _ rfl (flt 5 42) (by kernel_rfl) ?_)
    | (refine at_put rfl 36 _ _ rfl rfl w.heap.size rfl (FL.cs F0) rfl H5 rfl szF (cs_one _) ?_; rintro w8 g8; have H8 := g8.blk; have G8 := g8.but.blk G5 G5.lt (show w.heap.size + 1 ≠ w.heap.size by omega); have b8 := g8.below b5 (Nat.le_refl _); clear H5 G5 b5 g8)
    | (refine at_put rfl 38 _ _ rfl rfl (w.heap.size + 1) rfl (flt 5 42) rfl G8 rfl szFt (flt_one _ _) ?_; rintro w9 g9; have G9 := g9.blk; have H9 := g9.but.blk H8 H8.lt (show w.heap.size ≠ w.heap.size + 1 by omega); have b9 := g9.below b8 (Nat.le_succ _); clear H8 G8 b8 g9))
  exact bodyPost_ret (results_rows (by rfl) _ _ w.heap.size (w.heap.size + 1) _ _ (FL.cs F0).toArray (flt 5 42).toArray _ _ _ _ rfl H9 Try.underlying36 rfl szF rfl G9 Try.underlying38 rfl szFt) rfl ⟨rfl, b9⟩
set_option maxHeartbeats 4000000 in
theorem rr_less2y (xs : List Int) (ho : Oct xs) (hl : xs.length ≤ 1000000) (h14 : 14 ≤ xs.length) (hty : tyAt xs = 2048) (h34 : 34 ≤ xs.length) (hz : xs.length < 50) (hp : pt (xs.getD 23 0) = true) (v : Value) (w : World) (hv : Seg w v xs) : Calls Try.prog 26 #[v] w fun r w' => r = .returned (.tuple #[FL.v F0, .agg (flt 4 (xs.length : Int)).toArray]) ∧ Below w.heap.size w w' := by
  have hlen : ¬ (xs.length : Int) < 14 := by omega
  have hlz : (xs.length : Int) < 50 := by omega
  have hl34 : (34 : Int) ≤ xs.length := by omega
  have T0 := fun w' (h : Seg w' v xs) => take_is xs v w' h ho hl 0 6 (by decide) (by omega)
  have z0 : 0 ≤ tk xs 0 6 ∧ tk xs 0 6 < 281474976710656 := by have := tk_lt ho 0 6 (by omega); simpa using this
  have T6 := fun w' (h : Seg w' v xs) => take_is xs v w' h ho hl 6 6 (by decide) (by omega)
  have z6 : 0 ≤ tk xs 6 6 ∧ tk xs 6 6 < 281474976710656 := by have := tk_lt ho 6 6 (by omega); simpa using this
  have T12 := fun w' (h : Seg w' v xs) => take_is xs v w' h ho hl 12 2 (by decide) (by omega)
  have z12 : 0 ≤ tk xs 12 2 ∧ tk xs 12 2 < 65536 := by have := tk_lt ho 12 2 (by omega); simpa using this
  rw [tyAt_tk ho h14, hty] at T12
  clear z12 hty
  have HP := fun w => rported_is (xs.getD 23 0) w
  rw [hp] at HP
  have zpr := ho.getD 23
  obtain ⟨pr, hpr⟩ : ∃ pr, xs.getD 23 0 = pr := ⟨_, rfl⟩
  rw [hpr] at HP zpr
  have HPR := Lib.hid hpr
  clear hp
  generalize tk xs 0 6 = d at *
  generalize tk xs 6 6 = s at *
  have HLE := Lib.hid hpr
  clear hpr
  have HV := Lib.hid hv
  obtain ⟨va, vc, rfl, -⟩ := id hv
  obtain ⟨bb, oo, rfl, -⟩ := Seg.some hv (by omega)
  clear hv
  unfold FL.v
  go_enter Try.func26, Try.ntmps26
  go_wp2_with (first
    | (refine at_new rfl 36 F0.cs rfl run_newFr ?_; rintro w1 H1 k1 s1)
    | (refine at_new rfl 38 FZ rfl run_newFt ?_; rintro w2 G2 k2 s2; rw [s1] at G2; have H2 := H1.below k2 H1.lt; have b2 := k1.trans (k2.mono k1.size); have SS := Lib.hid s2; have l2 := G2.lt; clear k1 k2 H1 s2; try go_simp))
  go_at_call 54
  refine (T0 w2 (HV.out.below b2)).mono ?_
  rintro e w' ⟨rfl, hw⟩
  obtain rfl := hw.symm
  go_wp2_with fail
  go_at_call 54
  refine (T6 w2 (HV.out.below b2)).mono ?_
  rintro e w' ⟨rfl, hw⟩
  obtain rfl := hw.symm
  go_wp2_with (first
    | (refine at_bld rfl 36 _ rfl (FL.cs (FL.mk s d 0 0 0 0 0 0 0 0 0 0 0 0 0)) (by kernel_rfl) ?_)
    | (refine at_new rfl 36 F0.cs rfl run_newFr ?_; rintro w3 X3 k3 s3; have b3 := b2.trans (k3.mono b2.size); have H3 := H2.below k3 H2.lt; have G3 := G2.below k3 G2.lt; have FB := b2.size; clear b2 H2 G2 k3 s3; try go_simp)
    | (refine at_put rfl 36 _ _ rfl rfl w2.heap.size rfl (FL.cs (FL.mk s d 0 0 0 0 0 0 0 0 0 0 0 0 0)) rfl X3 rfl szF (cs_one _) ?_; rintro w4 g4; have X4 := g4.blk; have b4 := g4.below b3 FB; have H4 := g4.but.blk H3 H3.lt (show w.heap.size ≠ w2.heap.size by omega); have G4 := g4.but.blk G3 G3.lt (show w.heap.size + 1 ≠ w2.heap.size by omega); clear b3 H3 G3 X3 g4))
  go_at_call 54
  refine (T12 w4 (HV.out.below b4)).mono ?_
  rintro e w' ⟨rfl, hw⟩
  obtain rfl := hw.symm
  go_wp2_with (refine at_set rfl 3 _ _ rfl rfl w2.heap.size 2 rfl 36 (FL.cs (FL.mk s d 0 0 0 0 0 0 0 0 0 0 0 0 0)) (FL.cs (FL.mk s d 2 0 0 0 0 0 0 0 0 0 0 0 0)) (.int .i64 2) rfl X4 rfl rfl rfl int_one (show 2 < 15 by decide) ?_; rintro w5 g5; have X5 := g5.blk; have b5 := g5.below b4 FB; have H5 := g5.but.blk H4 H4.lt (show w.heap.size ≠ w2.heap.size by omega); have G5 := g5.but.blk G4 G4.lt (show w.heap.size + 1 ≠ w2.heap.size by omega); have c23 : w5.cell? ⟨bb, oo + 23, none⟩ = some (.int .u8 pr) := (by obtain ⟨b', o', e, -, -, hx⟩ := Seg.some (HV.out.below b5) (by omega); cases e; rw [← HPR.out]; exact hx 23 (by omega)); clear b4 H4 G4 X4 g5)
  go_at_call 25
  refine (HP _).mono ?_
  rintro e w' ⟨rfl, hw⟩
  obtain rfl := hw.symm
  clear HP c23
  go_wp2_with (first
    | (refine at_bld rfl 36 _ rfl (FL.cs F0) (by kernel_rfl) ?_)
    | (refine at_bld rfl 38 _ rfl (flt 4 (xs.length : Int)) (by kernel_rfl) ?_)
    | (refine at_put rfl 36 _ _ rfl rfl w.heap.size rfl (FL.cs F0) rfl H5 rfl szF (cs_one _) ?_; rintro w8 g8; have H8 := g8.blk; have G8 := g8.but.blk G5 G5.lt (show w.heap.size + 1 ≠ w.heap.size by omega); have b8 := g8.below b5 (Nat.le_refl _); clear H5 G5 b5 g8)
    | (refine at_put rfl 38 _ _ rfl rfl (w.heap.size + 1) rfl (flt 4 (xs.length : Int)) rfl G8 rfl szFt (flt_one _ _) ?_; rintro w9 g9; have G9 := g9.blk; have H9 := g9.but.blk H8 H8.lt (show w.heap.size ≠ w.heap.size + 1 by omega); have b9 := g9.below b8 (Nat.le_succ _); clear H8 G8 b8 g9))
  exact bodyPost_ret (results_rows (by rfl) _ _ w.heap.size (w.heap.size + 1) _ _ (FL.cs F0).toArray (flt 4 (xs.length : Int)).toArray _ _ _ _ rfl H9 Try.underlying36 rfl szF rfl G9 Try.underlying38 rfl szFt) rfl ⟨rfl, b9⟩
set_option maxHeartbeats 4000000 in
theorem rr_more2y (xs : List Int) (ho : Oct xs) (hl : xs.length ≤ 1000000) (h14 : 14 ≤ xs.length) (hty : tyAt xs = 2048) (hz : 50 < xs.length) (hp : pt (xs.getD 23 0) = true) (v : Value) (w : World) (hv : Seg w v xs) : Calls Try.prog 26 #[v] w fun r w' => r = .returned (.tuple #[FL.v F0, .agg (flt 5 50).toArray]) ∧ Below w.heap.size w w' := by
  have hlen : ¬ (xs.length : Int) < 14 := by omega
  have hlz : ¬ (xs.length : Int) < 50 := by omega
  have hlm : (50 : Int) < xs.length := by omega
  have hl34 : (34 : Int) ≤ xs.length := by omega
  have T0 := fun w' (h : Seg w' v xs) => take_is xs v w' h ho hl 0 6 (by decide) (by omega)
  have z0 : 0 ≤ tk xs 0 6 ∧ tk xs 0 6 < 281474976710656 := by have := tk_lt ho 0 6 (by omega); simpa using this
  have T6 := fun w' (h : Seg w' v xs) => take_is xs v w' h ho hl 6 6 (by decide) (by omega)
  have z6 : 0 ≤ tk xs 6 6 ∧ tk xs 6 6 < 281474976710656 := by have := tk_lt ho 6 6 (by omega); simpa using this
  have T12 := fun w' (h : Seg w' v xs) => take_is xs v w' h ho hl 12 2 (by decide) (by omega)
  have z12 : 0 ≤ tk xs 12 2 ∧ tk xs 12 2 < 65536 := by have := tk_lt ho 12 2 (by omega); simpa using this
  rw [tyAt_tk ho h14, hty] at T12
  clear z12 hty
  have HP := fun w => rported_is (xs.getD 23 0) w
  rw [hp] at HP
  have zpr := ho.getD 23
  obtain ⟨pr, hpr⟩ : ∃ pr, xs.getD 23 0 = pr := ⟨_, rfl⟩
  rw [hpr] at HP zpr
  have HPR := Lib.hid hpr
  clear hp
  generalize tk xs 0 6 = d at *
  generalize tk xs 6 6 = s at *
  clear hpr
  have HV := Lib.hid hv
  obtain ⟨va, vc, rfl, -⟩ := id hv
  obtain ⟨bb, oo, rfl, -⟩ := Seg.some hv (by omega)
  clear hv
  unfold FL.v
  go_enter Try.func26, Try.ntmps26
  go_wp2_with (first
    | (refine at_new rfl 36 F0.cs rfl run_newFr ?_; rintro w1 H1 k1 s1)
    | (refine at_new rfl 38 FZ rfl run_newFt ?_; rintro w2 G2 k2 s2; rw [s1] at G2; have H2 := H1.below k2 H1.lt; have b2 := k1.trans (k2.mono k1.size); have SS := Lib.hid s2; have l2 := G2.lt; clear k1 k2 H1 s2; try go_simp))
  go_at_call 54
  refine (T0 w2 (HV.out.below b2)).mono ?_
  rintro e w' ⟨rfl, hw⟩
  obtain rfl := hw.symm
  go_wp2_with fail
  go_at_call 54
  refine (T6 w2 (HV.out.below b2)).mono ?_
  rintro e w' ⟨rfl, hw⟩
  obtain rfl := hw.symm
  go_wp2_with (first
    | (refine at_bld rfl 36 _ rfl (FL.cs (FL.mk s d 0 0 0 0 0 0 0 0 0 0 0 0 0)) (by kernel_rfl) ?_)
    | (refine at_new rfl 36 F0.cs rfl run_newFr ?_; rintro w3 X3 k3 s3; have b3 := b2.trans (k3.mono b2.size); have H3 := H2.below k3 H2.lt; have G3 := G2.below k3 G2.lt; have FB := b2.size; clear b2 H2 G2 k3 s3; try go_simp)
    | (refine at_put rfl 36 _ _ rfl rfl w2.heap.size rfl (FL.cs (FL.mk s d 0 0 0 0 0 0 0 0 0 0 0 0 0)) rfl X3 rfl szF (cs_one _) ?_; rintro w4 g4; have X4 := g4.blk; have b4 := g4.below b3 FB; have H4 := g4.but.blk H3 H3.lt (show w.heap.size ≠ w2.heap.size by omega); have G4 := g4.but.blk G3 G3.lt (show w.heap.size + 1 ≠ w2.heap.size by omega); clear b3 H3 G3 X3 g4))
  go_at_call 54
  refine (T12 w4 (HV.out.below b4)).mono ?_
  rintro e w' ⟨rfl, hw⟩
  obtain rfl := hw.symm
  go_wp2_with (refine at_set rfl 3 _ _ rfl rfl w2.heap.size 2 rfl 36 (FL.cs (FL.mk s d 0 0 0 0 0 0 0 0 0 0 0 0 0)) (FL.cs (FL.mk s d 2 0 0 0 0 0 0 0 0 0 0 0 0)) (.int .i64 2) rfl X4 rfl rfl rfl int_one (show 2 < 15 by decide) ?_; rintro w5 g5; have X5 := g5.blk; have b5 := g5.below b4 FB; have H5 := g5.but.blk H4 H4.lt (show w.heap.size ≠ w2.heap.size by omega); have G5 := g5.but.blk G4 G4.lt (show w.heap.size + 1 ≠ w2.heap.size by omega); have c23 : w5.cell? ⟨bb, oo + 23, none⟩ = some (.int .u8 pr) := (by obtain ⟨b', o', e, -, -, hx⟩ := Seg.some (HV.out.below b5) (by omega); cases e; rw [← HPR.out]; exact hx 23 (by omega)); clear b4 H4 G4 X4 g5)
  go_at_call 25
  refine (HP _).mono ?_
  rintro e w' ⟨rfl, hw⟩
  obtain rfl := hw.symm
  clear HP c23
  go_wp2_with (first
    | (refine at_bld rfl 36 _ rfl (FL.cs F0) (by kernel_rfl) ?_)
    | (refine at_bld rfl 38 _ rfl (flt 5 50) (by kernel_rfl) ?_)
    | (refine at_put rfl 36 _ _ rfl rfl w.heap.size rfl (FL.cs F0) rfl H5 rfl szF (cs_one _) ?_; rintro w8 g8; have H8 := g8.blk; have G8 := g8.but.blk G5 G5.lt (show w.heap.size + 1 ≠ w.heap.size by omega); have b8 := g8.below b5 (Nat.le_refl _); clear H5 G5 b5 g8)
    | (refine at_put rfl 38 _ _ rfl rfl (w.heap.size + 1) rfl (flt 5 50) rfl G8 rfl szFt (flt_one _ _) ?_; rintro w9 g9; have G9 := g9.blk; have H9 := g9.but.blk H8 H8.lt (show w.heap.size ≠ w.heap.size + 1 by omega); have b9 := g9.below b8 (Nat.le_succ _); clear H8 G8 b8 g9))
  exact bodyPost_ret (results_rows (by rfl) _ _ w.heap.size (w.heap.size + 1) _ _ (FL.cs F0).toArray (flt 5 50).toArray _ _ _ _ rfl H9 Try.underlying36 rfl szF rfl G9 Try.underlying38 rfl szFt) rfl ⟨rfl, b9⟩
end Go.Proofs.Ytgpjelcihmbiiaa
namespace Go.Proofs.Ytgpjelcihmbiiaa
open Go.RowKit Go.Sort
set_option linter.unusedVariables false
set_option linter.unusedSimpArgs false
set_option maxRecDepth 100000

set_option maxHeartbeats 4000000 in
theorem rr_bad10 (xs : List Int) (ho : Oct xs) (hl : xs.length ≤ 1000000) (h14 : 14 ≤ xs.length) (hty : tyAt xs = 34997) (hz : xs.length = 22) (hc : FL.chk (FL.mk (tk xs 6 6) (tk xs 0 6) 0 0 0 0 0 0 0 0 0 0 0 0 (tk xs 14 8)) ≠ 0) (v : Value) (w : World) (hv : Seg w v xs) : Calls Try.prog 26 #[v] w fun r w' => r = .returned (.tuple #[FL.v F0, .agg (flt 3 0).toArray]) ∧ Below w.heap.size w w' := by
  have hlen : ¬ (xs.length : Int) < 14 := by omega
  have hlz : ¬ (xs.length : Int) < 22 := by omega
  have hlm : ¬ (22 : Int) < xs.length := by omega
  have hf := decF_ok (k := 0) ho
  rw [dec0 hz] at hf
  have HB := fun w => rbytes_bad _ hf hc w
  have A : (FL.chk (FL.mk (tk xs 6 6) (tk xs 0 6) 0 0 0 0 0 0 0 0 0 0 0 0 (tk xs 14 8)) != 0) = true := by simpa using hc
  generalize FL.chk (FL.mk (tk xs 6 6) (tk xs 0 6) 0 0 0 0 0 0 0 0 0 0 0 0 (tk xs 14 8)) = Y at HB A
  clear hc hf
  unfold FL.v at HB
  have T0 := fun w' (h : Seg w' v xs) => take_is xs v w' h ho hl 0 6 (by decide) (by omega)
  have z0 : 0 ≤ tk xs 0 6 ∧ tk xs 0 6 < 281474976710656 := by have := tk_lt ho 0 6 (by omega); simpa using this
  have T6 := fun w' (h : Seg w' v xs) => take_is xs v w' h ho hl 6 6 (by decide) (by omega)
  have z6 : 0 ≤ tk xs 6 6 ∧ tk xs 6 6 < 281474976710656 := by have := tk_lt ho 6 6 (by omega); simpa using this
  have T14 := fun w' (h : Seg w' v xs) => take_is xs v w' h ho hl 14 8 (by decide) (by omega)
  have z14 : 0 ≤ tk xs 14 8 ∧ tk xs 14 8 < 18446744073709551616 := by have := tk_lt ho 14 8 (by omega); simpa using this
  have T12 := fun w' (h : Seg w' v xs) => take_is xs v w' h ho hl 12 2 (by decide) (by omega)
  have z12 : 0 ≤ tk xs 12 2 ∧ tk xs 12 2 < 65536 := by have := tk_lt ho 12 2 (by omega); simpa using this
  rw [tyAt_tk ho h14, hty] at T12
  clear z12 hty
  generalize tk xs 0 6 = d at *
  generalize tk xs 6 6 = s at *
  generalize tk xs 14 8 = x at *
  have HX0 : Hid (xs ≠ []) := Lib.hid (fun q => by rw [q] at h14; exact absurd h14 (by decide))
  clear hz
  have HV := Lib.hid hv
  obtain ⟨va, vc, rfl, -⟩ := id hv
  clear hv
  unfold FL.v
  go_enter Try.func26, Try.ntmps26
  go_wp2_with (first
    | (refine at_new rfl 36 F0.cs rfl run_newFr ?_; rintro w1 H1 k1 s1)
    | (refine at_new rfl 38 FZ rfl run_newFt ?_; rintro w2 G2 k2 s2; rw [s1] at G2; have H2 := H1.below k2 H1.lt; have b2 := k1.trans (k2.mono k1.size); have SS := Lib.hid s2; have l2 := G2.lt; clear k1 k2 H1 s2; try go_simp))
  go_at_call 54
  refine (T0 w2 (HV.out.below b2)).mono ?_
  rintro e w' ⟨rfl, hw⟩
  obtain rfl := hw.symm
  go_wp2_with fail
  go_at_call 54
  refine (T6 w2 (HV.out.below b2)).mono ?_
  rintro e w' ⟨rfl, hw⟩
  obtain rfl := hw.symm
  go_wp2_with (first
    | (refine at_bld rfl 36 _ rfl (FL.cs (FL.mk s d 0 0 0 0 0 0 0 0 0 0 0 0 0)) (by kernel_rfl) ?_)
    | (refine at_new rfl 36 F0.cs rfl run_newFr ?_; rintro w3 X3 k3 s3; have b3 := b2.trans (k3.mono b2.size); have H3 := H2.below k3 H2.lt; have G3 := G2.below k3 G2.lt; have FB := b2.size; clear b2 H2 G2 k3 s3; try go_simp)
    | (refine at_put rfl 36 _ _ rfl rfl w2.heap.size rfl (FL.cs (FL.mk s d 0 0 0 0 0 0 0 0 0 0 0 0 0)) rfl X3 rfl szF (cs_one _) ?_; rintro w4 g4; have X4 := g4.blk; have b4 := g4.below b3 FB; have H4 := g4.but.blk H3 H3.lt (show w.heap.size ≠ w2.heap.size by omega); have G4 := g4.but.blk G3 G3.lt (show w.heap.size + 1 ≠ w2.heap.size by omega); clear b3 H3 G3 X3 g4))
  go_at_call 54
  refine (T12 w4 (HV.out.below b4)).mono ?_
  rintro e w' ⟨rfl, hw⟩
  obtain rfl := hw.symm
  have c2 := Blk.cell X4 2 (v := .int .i64 0) rfl
  go_wp2_with fail
  go_at_call 54
  refine (T14 w4 (HV.out.below b4)).mono ?_
  rintro e w' ⟨rfl, hw⟩
  obtain rfl := hw.symm
  clear c2
  go_wp2_with (first
    | (refine at_set rfl 27 _ _ rfl rfl w2.heap.size 14 rfl 36 (FL.cs (FL.mk s d 0 0 0 0 0 0 0 0 0 0 0 0 0)) (FL.cs (FL.mk s d 0 0 0 0 0 0 0 0 0 0 0 0 x)) (.int .u64 x) rfl X4 rfl rfl rfl u64_one (show 14 < 15 by decide) ?_; rintro we ge; have Xe := ge.blk; have be' := ge.below b4 FB; have He := ge.but.blk H4 H4.lt (show w.heap.size ≠ w2.heap.size by omega); have Ge := ge.but.blk G4 G4.lt (show w.heap.size + 1 ≠ w2.heap.size by omega); clear b4 H4 G4 X4 ge)
    | (refine at_mid rfl 36 _ rfl w2.heap.size 0 rfl Xe (FL.cs (FL.mk s d 0 0 0 0 0 0 0 0 0 0 0 0 x)) rfl _ Try.underlying36 rfl szF ?_))
  go_at_call 22
  refine (HB we).mono ?_
  rintro e wa ⟨rfl, ka⟩
  have ba := be'.trans (ka.mono be'.size)
  have Ha := He.below ka He.lt
  have Ga := Ge.below ka Ge.lt
  have Xa := Xe.below ka Xe.lt
  clear be' He Ge Xe ka HB
  go_wp2_with (first
    | (refine at_bld rfl 36 _ rfl (FL.cs F0) (by kernel_rfl) ?_)
    | (refine at_bld rfl 38 _ rfl (flt 3 0) (by kernel_rfl) ?_)
    | (refine at_put rfl 36 _ _ rfl rfl w.heap.size rfl (FL.cs F0) rfl Ha rfl szF (cs_one _) ?_; rintro w8 g8; have H8 := g8.blk; have G8 := g8.but.blk Ga Ga.lt (show w.heap.size + 1 ≠ w.heap.size by omega); have b8 := g8.below ba (Nat.le_refl _); clear Ha Ga ba g8)
    | (refine at_put rfl 38 _ _ rfl rfl (w.heap.size + 1) rfl (flt 3 0) rfl G8 rfl szFt (flt_one _ _) ?_; rintro w9 g9; have G9 := g9.blk; have H9 := g9.but.blk H8 H8.lt (show w.heap.size ≠ w.heap.size + 1 by omega); have b9 := g9.below b8 (Nat.le_succ _); clear H8 G8 b8 g9))
  exact bodyPost_ret (results_rows (by rfl) _ _ w.heap.size (w.heap.size + 1) _ _ (FL.cs F0).toArray (flt 3 0).toArray _ _ _ _ rfl H9 Try.underlying36 rfl szF rfl G9 Try.underlying38 rfl szFt) rfl ⟨rfl, b9⟩
set_option maxHeartbeats 4000000 in
theorem rr_bad20 (xs : List Int) (ho : Oct xs) (hl : xs.length ≤ 1000000) (h14 : 14 ≤ xs.length) (hty : tyAt xs = 34997) (hz : xs.length = 22) (hc : FL.chk (FL.mk (tk xs 6 6) (tk xs 0 6) 0 0 0 0 0 0 0 0 0 0 0 0 (tk xs 14 8)) = 0) (heq : FL.enc (FL.mk (tk xs 6 6) (tk xs 0 6) 0 0 0 0 0 0 0 0 0 0 0 0 (tk xs 14 8)) ≠ xs) (v : Value) (w : World) (hv : Seg w v xs) : Calls Try.prog 26 #[v] w fun r w' => r = .returned (.tuple #[FL.v F0, .agg (flt 3 0).toArray]) ∧ Below w.heap.size w w' := by
  have hlen : ¬ (xs.length : Int) < 14 := by omega
  have hlz : ¬ (xs.length : Int) < 22 := by omega
  have hlm : ¬ (22 : Int) < xs.length := by omega
  have hf := decF_ok (k := 0) ho
  rw [dec0 hz] at hf
  have HB := fun w => rbytes_ok _ hf hc w
  have HQ : ((strOfNums (FL.enc (FL.mk (tk xs 6 6) (tk xs 0 6) 0 0 0 0 0 0 0 0 0 0 0 0 (tk xs 14 8)))).toList == (strOfNums xs).toList) = false := by rw [str_eq (enc_octets _) ho]; simpa using heq
  have HNE := Lib.hid (show FL.enc (FL.mk (tk xs 6 6) (tk xs 0 6) 0 0 0 0 0 0 0 0 0 0 0 0 (tk xs 14 8)) ≠ [] from enc_some _)
  clear heq hc hf
  unfold FL.v at HB
  have T0 := fun w' (h : Seg w' v xs) => take_is xs v w' h ho hl 0 6 (by decide) (by omega)
  have z0 : 0 ≤ tk xs 0 6 ∧ tk xs 0 6 < 281474976710656 := by have := tk_lt ho 0 6 (by omega); simpa using this
  have T6 := fun w' (h : Seg w' v xs) => take_is xs v w' h ho hl 6 6 (by decide) (by omega)
  have z6 : 0 ≤ tk xs 6 6 ∧ tk xs 6 6 < 281474976710656 := by have := tk_lt ho 6 6 (by omega); simpa using this
  have T14 := fun w' (h : Seg w' v xs) => take_is xs v w' h ho hl 14 8 (by decide) (by omega)
  have z14 : 0 ≤ tk xs 14 8 ∧ tk xs 14 8 < 18446744073709551616 := by have := tk_lt ho 14 8 (by omega); simpa using this
  have T12 := fun w' (h : Seg w' v xs) => take_is xs v w' h ho hl 12 2 (by decide) (by omega)
  have z12 : 0 ≤ tk xs 12 2 ∧ tk xs 12 2 < 65536 := by have := tk_lt ho 12 2 (by omega); simpa using this
  rw [tyAt_tk ho h14, hty] at T12
  clear z12 hty
  generalize tk xs 0 6 = d at *
  generalize tk xs 6 6 = s at *
  generalize tk xs 14 8 = x at *
  generalize FL.enc (FL.mk s d 0 0 0 0 0 0 0 0 0 0 0 0 x) = E at *
  have HX0 : Hid (xs ≠ []) := Lib.hid (fun q => by rw [q] at h14; exact absurd h14 (by decide))
  clear hz
  have HV := Lib.hid hv
  obtain ⟨va, vc, rfl, -⟩ := id hv
  clear hv
  unfold FL.v
  go_enter Try.func26, Try.ntmps26
  go_wp2_with (first
    | (refine at_new rfl 36 F0.cs rfl run_newFr ?_; rintro w1 H1 k1 s1)
    | (refine at_new rfl 38 FZ rfl run_newFt ?_; rintro w2 G2 k2 s2; rw [s1] at G2; have H2 := H1.below k2 H1.lt; have b2 := k1.trans (k2.mono k1.size); have SS := Lib.hid s2; have l2 := G2.lt; clear k1 k2 H1 s2; try go_simp))
  go_at_call 54
  refine (T0 w2 (HV.out.below b2)).mono ?_
  rintro e w' ⟨rfl, hw⟩
  obtain rfl := hw.symm
  go_wp2_with fail
  go_at_call 54
  refine (T6 w2 (HV.out.below b2)).mono ?_
  rintro e w' ⟨rfl, hw⟩
  obtain rfl := hw.symm
  go_wp2_with (first
    | (refine at_bld rfl 36 _ rfl (FL.cs (FL.mk s d 0 0 0 0 0 0 0 0 0 0 0 0 0)) (by kernel_rfl) ?_)
    | (refine at_new rfl 36 F0.cs rfl run_newFr ?_; rintro w3 X3 k3 s3; have b3 := b2.trans (k3.mono b2.size); have H3 := H2.below k3 H2.lt; have G3 := G2.below k3 G2.lt; have FB := b2.size; clear b2 H2 G2 k3 s3; try go_simp)
    | (refine at_put rfl 36 _ _ rfl rfl w2.heap.size rfl (FL.cs (FL.mk s d 0 0 0 0 0 0 0 0 0 0 0 0 0)) rfl X3 rfl szF (cs_one _) ?_; rintro w4 g4; have X4 := g4.blk; have b4 := g4.below b3 FB; have H4 := g4.but.blk H3 H3.lt (show w.heap.size ≠ w2.heap.size by omega); have G4 := g4.but.blk G3 G3.lt (show w.heap.size + 1 ≠ w2.heap.size by omega); clear b3 H3 G3 X3 g4))
  go_at_call 54
  refine (T12 w4 (HV.out.below b4)).mono ?_
  rintro e w' ⟨rfl, hw⟩
  obtain rfl := hw.symm
  have c2 := Blk.cell X4 2 (v := .int .i64 0) rfl
  go_wp2_with fail
  go_at_call 54
  refine (T14 w4 (HV.out.below b4)).mono ?_
  rintro e w' ⟨rfl, hw⟩
  obtain rfl := hw.symm
  clear c2
  go_wp2_with (first
    | (refine at_set rfl 27 _ _ rfl rfl w2.heap.size 14 rfl 36 (FL.cs (FL.mk s d 0 0 0 0 0 0 0 0 0 0 0 0 0)) (FL.cs (FL.mk s d 0 0 0 0 0 0 0 0 0 0 0 0 x)) (.int .u64 x) rfl X4 rfl rfl rfl u64_one (show 14 < 15 by decide) ?_; rintro we ge; have Xe := ge.blk; have be' := ge.below b4 FB; have He := ge.but.blk H4 H4.lt (show w.heap.size ≠ w2.heap.size by omega); have Ge := ge.but.blk G4 G4.lt (show w.heap.size + 1 ≠ w2.heap.size by omega); clear b4 H4 G4 X4 ge)
    | (refine at_mid rfl 36 _ rfl w2.heap.size 0 rfl Xe (FL.cs (FL.mk s d 0 0 0 0 0 0 0 0 0 0 0 0 x)) rfl _ Try.underlying36 rfl szF ?_))
  go_at_call 22
  refine (HB we).mono ?_
  rintro e wa ⟨u, rfl, da, ka⟩
  have ba := be'.trans (ka.mono be'.size)
  have Ha := He.below ka He.lt
  have Ga := Ge.below ka Ge.lt
  have Xa := Xe.below ka Xe.lt
  clear be' He Ge Xe ka HB
  have hs1 := seg_string da.dat.seg HNE.out
  have hs2 := seg_string (HV.out.below ba) HX0.out
  obtain ⟨ua, uc, rfl⟩ := da.dat.shape
  clear da
  generalize strOfNums E = str1 at *
  generalize strOfNums xs = str2 at *
  go_wp2_with (first
    | (refine at_bld rfl 36 _ rfl (FL.cs F0) (by kernel_rfl) ?_)
    | (refine at_bld rfl 38 _ rfl (flt 3 0) (by kernel_rfl) ?_)
    | (refine at_put rfl 36 _ _ rfl rfl w.heap.size rfl (FL.cs F0) rfl Ha rfl szF (cs_one _) ?_; rintro w8 g8; have H8 := g8.blk; have G8 := g8.but.blk Ga Ga.lt (show w.heap.size + 1 ≠ w.heap.size by omega); have b8 := g8.below ba (Nat.le_refl _); clear Ha Ga ba g8)
    | (refine at_put rfl 38 _ _ rfl rfl (w.heap.size + 1) rfl (flt 3 0) rfl G8 rfl szFt (flt_one _ _) ?_; rintro w9 g9; have G9 := g9.blk; have H9 := g9.but.blk H8 H8.lt (show w.heap.size ≠ w.heap.size + 1 by omega); have b9 := g9.below b8 (Nat.le_succ _); clear H8 G8 b8 g9))
  exact bodyPost_ret (results_rows (by rfl) _ _ w.heap.size (w.heap.size + 1) _ _ (FL.cs F0).toArray (flt 3 0).toArray _ _ _ _ rfl H9 Try.underlying36 rfl szF rfl G9 Try.underlying38 rfl szFt) rfl ⟨rfl, b9⟩
set_option maxHeartbeats 4000000 in
theorem rr_ok0 (xs : List Int) (ho : Oct xs) (hl : xs.length ≤ 1000000) (h14 : 14 ≤ xs.length) (hty : tyAt xs = 34997) (hz : xs.length = 22) (hc : FL.chk (FL.mk (tk xs 6 6) (tk xs 0 6) 0 0 0 0 0 0 0 0 0 0 0 0 (tk xs 14 8)) = 0) (heq : FL.enc (FL.mk (tk xs 6 6) (tk xs 0 6) 0 0 0 0 0 0 0 0 0 0 0 0 (tk xs 14 8)) = xs) (v : Value) (w : World) (hv : Seg w v xs) : Calls Try.prog 26 #[v] w fun r w' => r = .returned (.tuple #[FL.v (FL.mk (tk xs 6 6) (tk xs 0 6) 0 0 0 0 0 0 0 0 0 0 0 0 (tk xs 14 8)), .agg (flt 0 0).toArray]) ∧ Below w.heap.size w w' := by
  have hlen : ¬ (xs.length : Int) < 14 := by omega
  have hlz : ¬ (xs.length : Int) < 22 := by omega
  have hlm : ¬ (22 : Int) < xs.length := by omega
  have hf := decF_ok (k := 0) ho
  rw [dec0 hz] at hf
  have HB := fun w => rbytes_ok _ hf hc w
  have HQ : ((strOfNums (FL.enc (FL.mk (tk xs 6 6) (tk xs 0 6) 0 0 0 0 0 0 0 0 0 0 0 0 (tk xs 14 8)))).toList == (strOfNums xs).toList) = true := by rw [str_eq (enc_octets _) ho]; simpa using heq
  have HNE := Lib.hid (show FL.enc (FL.mk (tk xs 6 6) (tk xs 0 6) 0 0 0 0 0 0 0 0 0 0 0 0 (tk xs 14 8)) ≠ [] from enc_some _)
  clear heq hc hf
  unfold FL.v at HB
  have T0 := fun w' (h : Seg w' v xs) => take_is xs v w' h ho hl 0 6 (by decide) (by omega)
  have z0 : 0 ≤ tk xs 0 6 ∧ tk xs 0 6 < 281474976710656 := by have := tk_lt ho 0 6 (by omega); simpa using this
  have T6 := fun w' (h : Seg w' v xs) => take_is xs v w' h ho hl 6 6 (by decide) (by omega)
  have z6 : 0 ≤ tk xs 6 6 ∧ tk xs 6 6 < 281474976710656 := by have := tk_lt ho 6 6 (by omega); simpa using this
  have T14 := fun w' (h : Seg w' v xs) => take_is xs v w' h ho hl 14 8 (by decide) (by omega)
  have z14 : 0 ≤ tk xs 14 8 ∧ tk xs 14 8 < 18446744073709551616 := by have := tk_lt ho 14 8 (by omega); simpa using this
  have T12 := fun w' (h : Seg w' v xs) => take_is xs v w' h ho hl 12 2 (by decide) (by omega)
  have z12 : 0 ≤ tk xs 12 2 ∧ tk xs 12 2 < 65536 := by have := tk_lt ho 12 2 (by omega); simpa using this
  rw [tyAt_tk ho h14, hty] at T12
  clear z12 hty
  generalize tk xs 0 6 = d at *
  generalize tk xs 6 6 = s at *
  generalize tk xs 14 8 = x at *
  generalize FL.enc (FL.mk s d 0 0 0 0 0 0 0 0 0 0 0 0 x) = E at *
  have HX0 : Hid (xs ≠ []) := Lib.hid (fun q => by rw [q] at h14; exact absurd h14 (by decide))
  clear hz
  have HV := Lib.hid hv
  obtain ⟨va, vc, rfl, -⟩ := id hv
  clear hv
  unfold FL.v
  go_enter Try.func26, Try.ntmps26
  go_wp2_with (first
    | (refine at_new rfl 36 F0.cs rfl run_newFr ?_; rintro w1 H1 k1 s1)
    | (refine at_new rfl 38 FZ rfl run_newFt ?_; rintro w2 G2 k2 s2; rw [s1] at G2; have H2 := H1.below k2 H1.lt; have b2 := k1.trans (k2.mono k1.size); have SS := Lib.hid s2; have l2 := G2.lt; clear k1 k2 H1 s2; try go_simp))
  go_at_call 54
  refine (T0 w2 (HV.out.below b2)).mono ?_
  rintro e w' ⟨rfl, hw⟩
  obtain rfl := hw.symm
  go_wp2_with fail
  go_at_call 54
  refine (T6 w2 (HV.out.below b2)).mono ?_
  rintro e w' ⟨rfl, hw⟩
  obtain rfl := hw.symm
  go_wp2_with (first
    | (refine at_bld rfl 36 _ rfl (FL.cs (FL.mk s d 0 0 0 0 0 0 0 0 0 0 0 0 0)) (by kernel_rfl) ?_)
    | (refine at_new rfl 36 F0.cs rfl run_newFr ?_; rintro w3 X3 k3 s3; have b3 := b2.trans (k3.mono b2.size); have H3 := H2.below k3 H2.lt; have G3 := G2.below k3 G2.lt; have FB := b2.size; clear b2 H2 G2 k3 s3; try go_simp)
    | (refine at_put rfl 36 _ _ rfl rfl w2.heap.size rfl (FL.cs (FL.mk s d 0 0 0 0 0 0 0 0 0 0 0 0 0)) rfl X3 rfl szF (cs_one _) ?_; rintro w4 g4; have X4 := g4.blk; have b4 := g4.below b3 FB; have H4 := g4.but.blk H3 H3.lt (show w.heap.size ≠ w2.heap.size by omega); have G4 := g4.but.blk G3 G3.lt (show w.heap.size + 1 ≠ w2.heap.size by omega); clear b3 H3 G3 X3 g4))
  go_at_call 54
  refine (T12 w4 (HV.out.below b4)).mono ?_
  rintro e w' ⟨rfl, hw⟩
  obtain rfl := hw.symm
  have c2 := Blk.cell X4 2 (v := .int .i64 0) rfl
  go_wp2_with fail
  go_at_call 54
  refine (T14 w4 (HV.out.below b4)).mono ?_
  rintro e w' ⟨rfl, hw⟩
  obtain rfl := hw.symm
  clear c2
  go_wp2_with (first
    | (refine at_set rfl 27 _ _ rfl rfl w2.heap.size 14 rfl 36 (FL.cs (FL.mk s d 0 0 0 0 0 0 0 0 0 0 0 0 0)) (FL.cs (FL.mk s d 0 0 0 0 0 0 0 0 0 0 0 0 x)) (.int .u64 x) rfl X4 rfl rfl rfl u64_one (show 14 < 15 by decide) ?_; rintro we ge; have Xe := ge.blk; have be' := ge.below b4 FB; have He := ge.but.blk H4 H4.lt (show w.heap.size ≠ w2.heap.size by omega); have Ge := ge.but.blk G4 G4.lt (show w.heap.size + 1 ≠ w2.heap.size by omega); clear b4 H4 G4 X4 ge)
    | (refine at_mid rfl 36 _ rfl w2.heap.size 0 rfl Xe (FL.cs (FL.mk s d 0 0 0 0 0 0 0 0 0 0 0 0 x)) rfl _ Try.underlying36 rfl szF ?_))
  go_at_call 22
  refine (HB we).mono ?_
  rintro e wa ⟨u, rfl, da, ka⟩
  have ba := be'.trans (ka.mono be'.size)
  have Ha := He.below ka He.lt
  have Ga := Ge.below ka Ge.lt
  have Xa := Xe.below ka Xe.lt
  clear be' He Ge Xe ka HB
  have hs1 := seg_string da.dat.seg HNE.out
  have hs2 := seg_string (HV.out.below ba) HX0.out
  obtain ⟨ua, uc, rfl⟩ := da.dat.shape
  clear da
  generalize strOfNums E = str1 at *
  generalize strOfNums xs = str2 at *
  go_wp2_with (first
    | (refine at_mid rfl 36 _ rfl w2.heap.size 0 rfl Xa (FL.cs (FL.mk s d 0 0 0 0 0 0 0 0 0 0 0 0 x)) rfl _ Try.underlying36 rfl szF ?_)
    | (refine at_bld rfl 36 _ rfl (FL.cs F0) (by kernel_rfl) ?_)
    | (refine at_bld rfl 38 _ rfl (flt 0 0) (by kernel_rfl) ?_)
    | (refine at_put rfl 36 _ _ rfl rfl w.heap.size rfl (FL.cs (FL.mk s d 0 0 0 0 0 0 0 0 0 0 0 0 x)) rfl Ha rfl szF (cs_one _) ?_; rintro w8 g8; have H8 := g8.blk; have G8 := g8.but.blk Ga Ga.lt (show w.heap.size + 1 ≠ w.heap.size by omega); have b8 := g8.below ba (Nat.le_refl _); clear Ha Ga ba g8)
    | (refine at_put rfl 38 _ _ rfl rfl (w.heap.size + 1) rfl (flt 0 0) rfl G8 rfl szFt (flt_one _ _) ?_; rintro w9 g9; have G9 := g9.blk; have H9 := g9.but.blk H8 H8.lt (show w.heap.size ≠ w.heap.size + 1 by omega); have b9 := g9.below b8 (Nat.le_succ _); clear H8 G8 b8 g9))
  exact bodyPost_ret (results_rows (by rfl) _ _ w.heap.size (w.heap.size + 1) _ _ (FL.cs (FL.mk s d 0 0 0 0 0 0 0 0 0 0 0 0 x)).toArray (flt 0 0).toArray _ _ _ _ rfl H9 Try.underlying36 rfl szF rfl G9 Try.underlying38 rfl szFt) rfl ⟨rfl, b9⟩
end Go.Proofs.Ytgpjelcihmbiiaa
