/- Read of a packet: what has a frame. No condition. -/
import Derived.Test.YtgpjelcihmbiiaaVRa
namespace Go.Proofs.Ytgpjelcihmbiiaa
open Go.RowKit
set_option linter.unusedVariables false
set_option linter.unusedSimpArgs false
set_option maxRecDepth 100000

set_option maxHeartbeats 4000000 in
theorem vr_bad1 (xs : List Int) (ho : Oct xs) (hl : xs.length ≤ 1000000) (h : hfE xs = 0) (hx : rdX (xs.drop 36) = 0) (hc : (vP xs).chk ≠ 0) (v : Value) (w : World) (hv : Seg w v xs) : Calls Try.prog 29 #[v] w fun r w' => r = .returned (.tuple #[PL.v P0, .agg (flt 3 0).toArray]) ∧ Below w.heap.size w w' := by
  have HH := fun w h => head_is xs ho hl v w h
  have HV := Lib.hid hv
  obtain ⟨h36, -, -, hz⟩ := hfE_zero h
  rw [h, hz] at HH
  have HR := fun w h => rframe_is xs ho hl h36 v w h
  have hok := vP_ok ho h36
  have h36l : (xs.take 36).length = 36 := by simp; omega
  have HD := fun v w h => headers_is (xs.take 36) (ho.take 36) h36l v w h
  have hhd : hdP (xs.take 36) = ⟨tk xs 12 4, tk xs 16 4, tk xs 8 1, tk xs 20 2, tk xs 32 3, tk xs 29 3, F0⟩ := by
    unfold hdP
    rw [tk_take _ _ _ _ (by decide), tk_take _ _ _ _ (by decide), tk_take _ _ _ _ (by decide), tk_take _ _ _ _ (by decide), tk_take _ _ _ _ (by decide), tk_take _ _ _ _ (by decide)]
  rw [hhd] at HD
  have haz : fA (xs.drop 36) = rdA (xs.drop 36) := by unfold fA; rw [if_pos hx]
  rw [hx] at HR
  generalize fA (xs.drop 36) = a at *
  have HB := fun w => vbytes_bad _ hc w
  have hne : ((vP xs).chk != 0) = true := by simpa using hc
  generalize (vP xs).chk = Y at HB hne
  unfold vP at HB
  unfold FL.v at HR
  generalize rdF (xs.drop 36) = F at *
  generalize tk xs 12 4 = src at *
  generalize tk xs 16 4 = dst at *
  generalize tk xs 8 1 = ttl at *
  generalize tk xs 20 2 = ent at *
  generalize tk xs 32 3 = vni at *
  generalize tk xs 29 3 = mark at *
  unfold PL.v at HD HB
  obtain ⟨sv, hsr, -⟩ := slice_b hv 36 h36
  have hseg : ∀ w', Below w.heap.size w w' → Seg w' sv (xs.take 36) := fun w' b => by
    obtain ⟨s2, q1, q2⟩ := slice_b (hv.below b) 36 h36
    have e := (hsr w').symm.trans (q1 w')
    injection e with e1 e2
    rw [e1]
    exact q2
  have HSG := Lib.hid hseg
  obtain ⟨sa, sc, hsv⟩ : ∃ sa sc, sv = .slice sa 36 sc := by
    obtain ⟨sa, sc, h, -⟩ := hseg w (Below.refl _ _)
    exact ⟨sa, sc, by rw [h, h36l]⟩
  subst hsv
  rw [show ((36 : Nat) : Int) = 36 from rfl] at hsr
  have HSL := Lib.hid hsr
  obtain ⟨va, vc, rfl, -⟩ := id hv
  clear hv h hx hz h36 ho hl hc hok h36l hhd haz hsr hseg
  unfold PL.v
  go_enter Try.func29, Try.ntmps29
  go_wp2_with (first
    | (refine at_new rfl 55 P0.cs rfl run_newPk ?_; rintro w1 H1 k1 s1)
    | (refine at_new rfl 38 FZ rfl run_newFt ?_; rintro w2 G2 k2 s2; rw [s1] at G2; have H2 := H1.below k2 H1.lt; have b2 := k1.trans (k2.mono k1.size); have SS := Lib.hid s2; have l2 := G2.lt; clear k1 k2 H1 s2; try go_simp))
  go_at_call 55
  refine (HH w2 (HV.out.below b2)).mono ?_
  rintro r w3 ⟨rfl, k3⟩
  have b3 := b2.trans (k3.mono b2.size)
  have H3 := H2.below k3 H2.lt
  have G3 := G2.below k3 G2.lt
  have l3 := G3.lt
  clear b2 H2 G2 k3 HH
  go_wp2_with (first
    | (refine at_new rfl 38 FZ rfl run_newFt ?_; rintro w4 T4 k4 s4; have b4 := b3.trans (k4.mono b3.size); have H4 := H3.below k4 H3.lt; have G4 := G3.below k4 G3.lt; have FB3 := b3.size; have S4 := Lib.hid s4; clear b3 H3 G3 k4 s4; try go_simp)
    | (refine at_put rfl 38 _ _ rfl rfl w3.heap.size rfl (flt 0 0) rfl T4 rfl szFt (flt_one _ _) ?_; rintro w5 g5; have T5 := g5.blk; have b5 := g5.below b4 FB3; have H5 := g5.but.blk H4 H4.lt (show w.heap.size ≠ w3.heap.size by omega); have G5 := g5.but.blk G4 G4.lt (show w.heap.size + 1 ≠ w3.heap.size by omega); have c0 := T5.cell 0 (v := .int .i64 0) rfl; clear b4 H4 G4 T4 g5))
  go_at_call 56
  refine (HR w5 (HV.out.below b5)).mono ?_
  rintro r w6 ⟨rfl, k6⟩
  have b6 := b5.trans (k6.mono b5.size)
  have H6 := H5.below k6 H5.lt
  have G6 := G5.below k6 G5.lt
  have l6 := G6.lt
  clear b5 H5 G5 T5 k6 HR c0
  go_wp2_with (first
    | (refine at_new rfl 36 F0.cs rfl run_newFr ?_; rintro w7 X7 k7 s7; have b7 := b6.trans (k7.mono b6.size); have H7 := H6.below k7 H6.lt; have G7 := G6.below k7 G6.lt; have FB6 := b6.size; clear b6 H6 G6 k7; try go_simp)
    | (refine at_new rfl 38 FZ rfl run_newFt ?_; rintro w8 T8 k8 s8; rw [s7] at T8; have b8 := b7.trans (k8.mono b7.size); have H8 := H7.below k8 H7.lt; have G8 := G7.below k8 G7.lt; have X8 := X7.below k8 X7.lt; have S8 := Lib.hid s8; clear b7 H7 G7 X7 k8 s8; try go_simp)
    | (refine at_put rfl 36 _ _ rfl rfl w6.heap.size rfl (FL.cs F) rfl X8 rfl szF (cs_one _) ?_; rintro w9 g9; have X9 := g9.blk; have b9 := g9.below b8 FB6; have H9 := g9.but.blk H8 H8.lt (show w.heap.size ≠ w6.heap.size by omega); have G9 := g9.but.blk G8 G8.lt (show w.heap.size + 1 ≠ w6.heap.size by omega); have T9 := g9.but.blk T8 T8.lt (show w6.heap.size + 1 ≠ w6.heap.size by omega); clear b8 H8 G8 T8 X8 g9)
    | (refine at_put rfl 38 _ _ rfl rfl (w6.heap.size + 1) rfl (flt 0 a) rfl T9 rfl szFt (flt_one _ _) ?_; rintro w10 g10; have T10 := g10.blk; have b10 := g10.below b9 (Nat.le_succ_of_le FB6); have H10 := g10.but.blk H9 H9.lt (show w.heap.size ≠ w6.heap.size + 1 by omega); have G10 := g10.but.blk G9 G9.lt (show w.heap.size + 1 ≠ w6.heap.size + 1 by omega); have X10 := g10.but.blk X9 X9.lt (show w6.heap.size ≠ w6.heap.size + 1 by omega); have c0 := T10.cell 0 (v := .int .i64 0) rfl; clear b9 H9 G9 T9 X9 g10)
    | (refine at_sliceH rfl 23 under_b _ _ rfl (.slice va xs.length vc) (.int .i64 36) (.slice sa 36 sc) rfl rfl HSL.out ?_))
  go_at_call 57
  refine (HD _ w10 (HSG.out w10 b10)).mono ?_
  rintro r w11 ⟨rfl, k11⟩
  have b11 := b10.trans (k11.mono b10.size)
  have H11 := H10.below k11 H10.lt
  have G11 := G10.below k11 G10.lt
  have X11 := X10.below k11 X10.lt
  have l11 := X11.lt
  have m11 := G11.lt
  clear b10 H10 G10 X10 T10 k11 HD c0
  go_wp2_with (first
    | (refine at_new rfl 55 P0.cs rfl run_newPk ?_; rintro w12 U12 k12 s12; have b12 := b11.trans (k12.mono b11.size); have H12 := H11.below k12 H11.lt; have G12 := G11.below k12 G11.lt; have X12 := X11.below k12 X11.lt; have FB11 := b11.size; have S12 := Lib.hid s12; clear b11 H11 G11 X11 k12 s12; try go_simp)
    | (refine at_put rfl 55 _ _ rfl rfl w11.heap.size rfl (PL.cs ⟨src, dst, ttl, ent, vni, mark, F0⟩) rfl U12 rfl szP (pcs_one _) ?_; rintro w13 g13; have U13 := g13.blk; have b13 := g13.below b12 FB11; have H13 := g13.but.blk H12 H12.lt (show w.heap.size ≠ w11.heap.size by omega); have G13 := g13.but.blk G12 G12.lt (show w.heap.size + 1 ≠ w11.heap.size by omega); have X13 := g13.but.blk X12 X12.lt (show w6.heap.size ≠ w11.heap.size by omega); clear b12 H12 G12 X12 U12 g13)
    | (refine at_mid rfl 36 _ rfl w6.heap.size 0 rfl X13 (FL.cs F) rfl _ Try.underlying36 rfl szF ?_)
    | (refine at_setMid rfl 36 _ _ rfl rfl w11.heap.size 6 rfl 55 (PL.cs ⟨src, dst, ttl, ent, vni, mark, F0⟩) (PL.cs ⟨src, dst, ttl, ent, vni, mark, F⟩) (FL.cs F) rfl U13 rfl (cs_one _) szF (show 6 + 15 ≤ 21 by decide) ?_; rintro w14 g14; have U14 := g14.blk; have b14 := g14.below b13 FB11; have H14 := g14.but.blk H13 H13.lt (show w.heap.size ≠ w11.heap.size by omega); have G14 := g14.but.blk G13 G13.lt (show w.heap.size + 1 ≠ w11.heap.size by omega); clear b13 H13 G13 X13 U13 g14)
    | (refine at_mid rfl 55 _ rfl w11.heap.size 0 rfl U14 (PL.cs ⟨src, dst, ttl, ent, vni, mark, F⟩) rfl _ Try.underlying55 rfl szP ?_))
  go_at_call 30
  refine (HB w14).mono ?_
  rintro r w15 ⟨rfl, k15⟩
  have b15 := b14.trans (k15.mono b14.size)
  have H15 := H14.below k15 H14.lt
  have G15 := G14.below k15 G14.lt
  have U15 := U14.below k15 U14.lt
  clear b14 H14 G14 U14 k15 HB
  go_wp2_with (first
    | (refine at_bld rfl 55 _ rfl P0.cs (by kernel_rfl) ?_)
    | (refine at_bld rfl 38 _ rfl (flt 3 0) (by kernel_rfl) ?_)
    | (refine at_put rfl 55 _ _ rfl rfl w.heap.size rfl (PL.cs P0) rfl H15 rfl szP (pcs_one _) ?_; rintro w16 g16; have H16 := g16.blk; have G16 := g16.but.blk G15 G15.lt (show w.heap.size + 1 ≠ w.heap.size by omega); have b16 := g16.below b15 (Nat.le_refl _); clear H15 G15 b15 g16)
    | (refine at_put rfl 38 _ _ rfl rfl (w.heap.size + 1) rfl (flt 3 0) rfl G16 rfl szFt (flt_one _ _) ?_; rintro w17 g17; have G17 := g17.blk; have H17 := g17.but.blk H16 H16.lt (show w.heap.size ≠ w.heap.size + 1 by omega); have b17 := g17.below b16 (Nat.le_succ _); clear H16 G16 b16 g17))
  exact bodyPost_ret (results_rows (by rfl) _ _ w.heap.size (w.heap.size + 1) _ _ (PL.cs P0).toArray (flt 3 0).toArray _ _ _ _ rfl H17 Try.underlying55 rfl szP rfl G17 Try.underlying38 rfl szFt) rfl ⟨rfl, b17⟩
set_option maxHeartbeats 4000000 in
theorem vr_bad2 (xs : List Int) (ho : Oct xs) (hl : xs.length ≤ 1000000) (h : hfE xs = 0) (hx : rdX (xs.drop 36) = 0) (hc : (vP xs).chk = 0) (heq : (vP xs).enc ≠ xs) (v : Value) (w : World) (hv : Seg w v xs) : Calls Try.prog 29 #[v] w fun r w' => r = .returned (.tuple #[PL.v P0, .agg (flt 3 0).toArray]) ∧ Below w.heap.size w w' := by
  have HH := fun w h => head_is xs ho hl v w h
  have HV := Lib.hid hv
  obtain ⟨h36, -, -, hz⟩ := hfE_zero h
  rw [h, hz] at HH
  have HR := fun w h => rframe_is xs ho hl h36 v w h
  have hok := vP_ok ho h36
  have h36l : (xs.take 36).length = 36 := by simp; omega
  have HD := fun v w h => headers_is (xs.take 36) (ho.take 36) h36l v w h
  have hhd : hdP (xs.take 36) = ⟨tk xs 12 4, tk xs 16 4, tk xs 8 1, tk xs 20 2, tk xs 32 3, tk xs 29 3, F0⟩ := by
    unfold hdP
    rw [tk_take _ _ _ _ (by decide), tk_take _ _ _ _ (by decide), tk_take _ _ _ _ (by decide), tk_take _ _ _ _ (by decide), tk_take _ _ _ _ (by decide), tk_take _ _ _ _ (by decide)]
  rw [hhd] at HD
  have haz : fA (xs.drop 36) = rdA (xs.drop 36) := by unfold fA; rw [if_pos hx]
  rw [hx] at HR
  generalize fA (xs.drop 36) = a at *
  have HB := fun w => vbytes_ok _ hok hc w
  have HO := Lib.hid (penc_oct (vP xs))
  have HOX := Lib.hid ho
  have HE := Lib.hid heq
  generalize (vP xs).enc = Z at HB HO HE heq
  unfold vP at HB
  unfold FL.v at HR
  generalize rdF (xs.drop 36) = F at *
  generalize tk xs 12 4 = src at *
  generalize tk xs 16 4 = dst at *
  generalize tk xs 8 1 = ttl at *
  generalize tk xs 20 2 = ent at *
  generalize tk xs 32 3 = vni at *
  generalize tk xs 29 3 = mark at *
  unfold PL.v at HD HB
  obtain ⟨sv, hsr, -⟩ := slice_b hv 36 h36
  have hseg : ∀ w', Below w.heap.size w w' → Seg w' sv (xs.take 36) := fun w' b => by
    obtain ⟨s2, q1, q2⟩ := slice_b (hv.below b) 36 h36
    have e := (hsr w').symm.trans (q1 w')
    injection e with e1 e2
    rw [e1]
    exact q2
  have HSG := Lib.hid hseg
  obtain ⟨sa, sc, hsv⟩ : ∃ sa sc, sv = .slice sa 36 sc := by
    obtain ⟨sa, sc, h, -⟩ := hseg w (Below.refl _ _)
    exact ⟨sa, sc, by rw [h, h36l]⟩
  subst hsv
  rw [show ((36 : Nat) : Int) = 36 from rfl] at hsr
  have HSL := Lib.hid hsr
  obtain ⟨va, vc, rfl, -⟩ := id hv
  clear hv h hx hz h36 ho hl hc hok h36l hhd haz hsr hseg heq
  unfold PL.v
  go_enter Try.func29, Try.ntmps29
  go_wp2_with (first
    | (refine at_new rfl 55 P0.cs rfl run_newPk ?_; rintro w1 H1 k1 s1)
    | (refine at_new rfl 38 FZ rfl run_newFt ?_; rintro w2 G2 k2 s2; rw [s1] at G2; have H2 := H1.below k2 H1.lt; have b2 := k1.trans (k2.mono k1.size); have SS := Lib.hid s2; have l2 := G2.lt; clear k1 k2 H1 s2; try go_simp))
  go_at_call 55
  refine (HH w2 (HV.out.below b2)).mono ?_
  rintro r w3 ⟨rfl, k3⟩
  have b3 := b2.trans (k3.mono b2.size)
  have H3 := H2.below k3 H2.lt
  have G3 := G2.below k3 G2.lt
  have l3 := G3.lt
  clear b2 H2 G2 k3 HH
  go_wp2_with (first
    | (refine at_new rfl 38 FZ rfl run_newFt ?_; rintro w4 T4 k4 s4; have b4 := b3.trans (k4.mono b3.size); have H4 := H3.below k4 H3.lt; have G4 := G3.below k4 G3.lt; have FB3 := b3.size; have S4 := Lib.hid s4; clear b3 H3 G3 k4 s4; try go_simp)
    | (refine at_put rfl 38 _ _ rfl rfl w3.heap.size rfl (flt 0 0) rfl T4 rfl szFt (flt_one _ _) ?_; rintro w5 g5; have T5 := g5.blk; have b5 := g5.below b4 FB3; have H5 := g5.but.blk H4 H4.lt (show w.heap.size ≠ w3.heap.size by omega); have G5 := g5.but.blk G4 G4.lt (show w.heap.size + 1 ≠ w3.heap.size by omega); have c0 := T5.cell 0 (v := .int .i64 0) rfl; clear b4 H4 G4 T4 g5))
  go_at_call 56
  refine (HR w5 (HV.out.below b5)).mono ?_
  rintro r w6 ⟨rfl, k6⟩
  have b6 := b5.trans (k6.mono b5.size)
  have H6 := H5.below k6 H5.lt
  have G6 := G5.below k6 G5.lt
  have l6 := G6.lt
  clear b5 H5 G5 T5 k6 HR c0
  go_wp2_with (first
    | (refine at_new rfl 36 F0.cs rfl run_newFr ?_; rintro w7 X7 k7 s7; have b7 := b6.trans (k7.mono b6.size); have H7 := H6.below k7 H6.lt; have G7 := G6.below k7 G6.lt; have FB6 := b6.size; clear b6 H6 G6 k7; try go_simp)
    | (refine at_new rfl 38 FZ rfl run_newFt ?_; rintro w8 T8 k8 s8; rw [s7] at T8; have b8 := b7.trans (k8.mono b7.size); have H8 := H7.below k8 H7.lt; have G8 := G7.below k8 G7.lt; have X8 := X7.below k8 X7.lt; have S8 := Lib.hid s8; clear b7 H7 G7 X7 k8 s8; try go_simp)
    | (refine at_put rfl 36 _ _ rfl rfl w6.heap.size rfl (FL.cs F) rfl X8 rfl szF (cs_one _) ?_; rintro w9 g9; have X9 := g9.blk; have b9 := g9.below b8 FB6; have H9 := g9.but.blk H8 H8.lt (show w.heap.size ≠ w6.heap.size by omega); have G9 := g9.but.blk G8 G8.lt (show w.heap.size + 1 ≠ w6.heap.size by omega); have T9 := g9.but.blk T8 T8.lt (show w6.heap.size + 1 ≠ w6.heap.size by omega); clear b8 H8 G8 T8 X8 g9)
    | (refine at_put rfl 38 _ _ rfl rfl (w6.heap.size + 1) rfl (flt 0 a) rfl T9 rfl szFt (flt_one _ _) ?_; rintro w10 g10; have T10 := g10.blk; have b10 := g10.below b9 (Nat.le_succ_of_le FB6); have H10 := g10.but.blk H9 H9.lt (show w.heap.size ≠ w6.heap.size + 1 by omega); have G10 := g10.but.blk G9 G9.lt (show w.heap.size + 1 ≠ w6.heap.size + 1 by omega); have X10 := g10.but.blk X9 X9.lt (show w6.heap.size ≠ w6.heap.size + 1 by omega); have c0 := T10.cell 0 (v := .int .i64 0) rfl; clear b9 H9 G9 T9 X9 g10)
    | (refine at_sliceH rfl 23 under_b _ _ rfl (.slice va xs.length vc) (.int .i64 36) (.slice sa 36 sc) rfl rfl HSL.out ?_))
  go_at_call 57
  refine (HD _ w10 (HSG.out w10 b10)).mono ?_
  rintro r w11 ⟨rfl, k11⟩
  have b11 := b10.trans (k11.mono b10.size)
  have H11 := H10.below k11 H10.lt
  have G11 := G10.below k11 G10.lt
  have X11 := X10.below k11 X10.lt
  have l11 := X11.lt
  have m11 := G11.lt
  clear b10 H10 G10 X10 T10 k11 HD c0
  go_wp2_with (first
    | (refine at_new rfl 55 P0.cs rfl run_newPk ?_; rintro w12 U12 k12 s12; have b12 := b11.trans (k12.mono b11.size); have H12 := H11.below k12 H11.lt; have G12 := G11.below k12 G11.lt; have X12 := X11.below k12 X11.lt; have FB11 := b11.size; have S12 := Lib.hid s12; clear b11 H11 G11 X11 k12 s12; try go_simp)
    | (refine at_put rfl 55 _ _ rfl rfl w11.heap.size rfl (PL.cs ⟨src, dst, ttl, ent, vni, mark, F0⟩) rfl U12 rfl szP (pcs_one _) ?_; rintro w13 g13; have U13 := g13.blk; have b13 := g13.below b12 FB11; have H13 := g13.but.blk H12 H12.lt (show w.heap.size ≠ w11.heap.size by omega); have G13 := g13.but.blk G12 G12.lt (show w.heap.size + 1 ≠ w11.heap.size by omega); have X13 := g13.but.blk X12 X12.lt (show w6.heap.size ≠ w11.heap.size by omega); clear b12 H12 G12 X12 U12 g13)
    | (refine at_mid rfl 36 _ rfl w6.heap.size 0 rfl X13 (FL.cs F) rfl _ Try.underlying36 rfl szF ?_)
    | (refine at_setMid rfl 36 _ _ rfl rfl w11.heap.size 6 rfl 55 (PL.cs ⟨src, dst, ttl, ent, vni, mark, F0⟩) (PL.cs ⟨src, dst, ttl, ent, vni, mark, F⟩) (FL.cs F) rfl U13 rfl (cs_one _) szF (show 6 + 15 ≤ 21 by decide) ?_; rintro w14 g14; have U14 := g14.blk; have b14 := g14.below b13 FB11; have H14 := g14.but.blk H13 H13.lt (show w.heap.size ≠ w11.heap.size by omega); have G14 := g14.but.blk G13 G13.lt (show w.heap.size + 1 ≠ w11.heap.size by omega); clear b13 H13 G13 X13 U13 g14)
    | (refine at_mid rfl 55 _ rfl w11.heap.size 0 rfl U14 (PL.cs ⟨src, dst, ttl, ent, vni, mark, F⟩) rfl _ Try.underlying55 rfl szP ?_))
  go_at_call 30
  refine (HB w14).mono ?_
  rintro r w15 ⟨u, rfl, d15, k15⟩
  have b15 := b14.trans (k15.mono b14.size)
  have H15 := H14.below k15 H14.lt
  have G15 := G14.below k15 G14.lt
  have U15 := U14.below k15 U14.lt
  clear b14 H14 G14 U14 k15 HB
  have HQ := equal_is (d15.dat.seg) (HV.out.below b15) HO.out HOX.out
  rw [show decide (Z = xs) = false by simpa using HE.out] at HQ
  obtain ⟨ua, uc, rfl⟩ := d15.dat.shape
  clear d15
  go_wp2_with (first
    | (go_at_call 48; refine HQ.mono ?_; rintro e w' ⟨rfl, hw⟩; obtain rfl := hw.symm; clear HQ)
    | (refine at_bld rfl 55 _ rfl P0.cs (by kernel_rfl) ?_)
    | (refine at_bld rfl 38 _ rfl (flt 3 0) (by kernel_rfl) ?_)
    | (refine at_put rfl 55 _ _ rfl rfl w.heap.size rfl (PL.cs P0) rfl H15 rfl szP (pcs_one _) ?_; rintro w16 g16; have H16 := g16.blk; have G16 := g16.but.blk G15 G15.lt (show w.heap.size + 1 ≠ w.heap.size by omega); have b16 := g16.below b15 (Nat.le_refl _); clear H15 G15 b15 g16)
    | (refine at_put rfl 38 _ _ rfl rfl (w.heap.size + 1) rfl (flt 3 0) rfl G16 rfl szFt (flt_one _ _) ?_; rintro w17 g17; have G17 := g17.blk; have H17 := g17.but.blk H16 H16.lt (show w.heap.size ≠ w.heap.size + 1 by omega); have b17 := g17.below b16 (Nat.le_succ _); clear H16 G16 b16 g17))
  exact bodyPost_ret (results_rows (by rfl) _ _ w.heap.size (w.heap.size + 1) _ _ (PL.cs P0).toArray (flt 3 0).toArray _ _ _ _ rfl H17 Try.underlying55 rfl szP rfl G17 Try.underlying38 rfl szFt) rfl ⟨rfl, b17⟩
set_option maxHeartbeats 4000000 in
theorem vr_ok (xs : List Int) (ho : Oct xs) (hl : xs.length ≤ 1000000) (h : hfE xs = 0) (hx : rdX (xs.drop 36) = 0) (hc : (vP xs).chk = 0) (heq : (vP xs).enc = xs) (v : Value) (w : World) (hv : Seg w v xs) : Calls Try.prog 29 #[v] w fun r w' => r = .returned (.tuple #[PL.v (vP xs), .agg (flt 0 0).toArray]) ∧ Below w.heap.size w w' := by
  have HH := fun w h => head_is xs ho hl v w h
  have HV := Lib.hid hv
  obtain ⟨h36, -, -, hz⟩ := hfE_zero h
  rw [h, hz] at HH
  have HR := fun w h => rframe_is xs ho hl h36 v w h
  have hok := vP_ok ho h36
  have h36l : (xs.take 36).length = 36 := by simp; omega
  have HD := fun v w h => headers_is (xs.take 36) (ho.take 36) h36l v w h
  have hhd : hdP (xs.take 36) = ⟨tk xs 12 4, tk xs 16 4, tk xs 8 1, tk xs 20 2, tk xs 32 3, tk xs 29 3, F0⟩ := by
    unfold hdP
    rw [tk_take _ _ _ _ (by decide), tk_take _ _ _ _ (by decide), tk_take _ _ _ _ (by decide), tk_take _ _ _ _ (by decide), tk_take _ _ _ _ (by decide), tk_take _ _ _ _ (by decide)]
  rw [hhd] at HD
  have haz : fA (xs.drop 36) = rdA (xs.drop 36) := by unfold fA; rw [if_pos hx]
  rw [hx] at HR
  generalize fA (xs.drop 36) = a at *
  have HB := fun w => vbytes_ok _ hok hc w
  have HO := Lib.hid (penc_oct (vP xs))
  have HOX := Lib.hid ho
  have HE := Lib.hid heq
  generalize (vP xs).enc = Z at HB HO HE heq
  unfold vP at HB
  unfold vP
  unfold FL.v at HR
  generalize rdF (xs.drop 36) = F at *
  generalize tk xs 12 4 = src at *
  generalize tk xs 16 4 = dst at *
  generalize tk xs 8 1 = ttl at *
  generalize tk xs 20 2 = ent at *
  generalize tk xs 32 3 = vni at *
  generalize tk xs 29 3 = mark at *
  unfold PL.v at HD HB
  obtain ⟨sv, hsr, -⟩ := slice_b hv 36 h36
  have hseg : ∀ w', Below w.heap.size w w' → Seg w' sv (xs.take 36) := fun w' b => by
    obtain ⟨s2, q1, q2⟩ := slice_b (hv.below b) 36 h36
    have e := (hsr w').symm.trans (q1 w')
    injection e with e1 e2
    rw [e1]
    exact q2
  have HSG := Lib.hid hseg
  obtain ⟨sa, sc, hsv⟩ : ∃ sa sc, sv = .slice sa 36 sc := by
    obtain ⟨sa, sc, h, -⟩ := hseg w (Below.refl _ _)
    exact ⟨sa, sc, by rw [h, h36l]⟩
  subst hsv
  rw [show ((36 : Nat) : Int) = 36 from rfl] at hsr
  have HSL := Lib.hid hsr
  obtain ⟨va, vc, rfl, -⟩ := id hv
  clear hv h hx hz h36 ho hl hc hok h36l hhd haz hsr hseg heq
  unfold PL.v
  go_enter Try.func29, Try.ntmps29
  go_wp2_with (first
    | (refine at_new rfl 55 P0.cs rfl run_newPk ?_; rintro w1 H1 k1 s1)
    | (refine at_new rfl 38 FZ rfl run_newFt ?_; rintro w2 G2 k2 s2; rw [s1] at G2; have H2 := H1.below k2 H1.lt; have b2 := k1.trans (k2.mono k1.size); have SS := Lib.hid s2; have l2 := G2.lt; clear k1 k2 H1 s2; try go_simp))
  go_at_call 55
  refine (HH w2 (HV.out.below b2)).mono ?_
  rintro r w3 ⟨rfl, k3⟩
  have b3 := b2.trans (k3.mono b2.size)
  have H3 := H2.below k3 H2.lt
  have G3 := G2.below k3 G2.lt
  have l3 := G3.lt
  clear b2 H2 G2 k3 HH
  go_wp2_with (first
    | (refine at_new rfl 38 FZ rfl run_newFt ?_; rintro w4 T4 k4 s4; have b4 := b3.trans (k4.mono b3.size); have H4 := H3.below k4 H3.lt; have G4 := G3.below k4 G3.lt; have FB3 := b3.size; have S4 := Lib.hid s4; clear b3 H3 G3 k4 s4; try go_simp)
    | (refine at_put rfl 38 _ _ rfl rfl w3.heap.size rfl (flt 0 0) rfl T4 rfl szFt (flt_one _ _) ?_; rintro w5 g5; have T5 := g5.blk; have b5 := g5.below b4 FB3; have H5 := g5.but.blk H4 H4.lt (show w.heap.size ≠ w3.heap.size by omega); have G5 := g5.but.blk G4 G4.lt (show w.heap.size + 1 ≠ w3.heap.size by omega); have c0 := T5.cell 0 (v := .int .i64 0) rfl; clear b4 H4 G4 T4 g5))
  go_at_call 56
  refine (HR w5 (HV.out.below b5)).mono ?_
  rintro r w6 ⟨rfl, k6⟩
  have b6 := b5.trans (k6.mono b5.size)
  have H6 := H5.below k6 H5.lt
  have G6 := G5.below k6 G5.lt
  have l6 := G6.lt
  clear b5 H5 G5 T5 k6 HR c0
  go_wp2_with (first
    | (refine at_new rfl 36 F0.cs rfl run_newFr ?_; rintro w7 X7 k7 s7; have b7 := b6.trans (k7.mono b6.size); have H7 := H6.below k7 H6.lt; have G7 := G6.below k7 G6.lt; have FB6 := b6.size; clear b6 H6 G6 k7; try go_simp)
    | (refine at_new rfl 38 FZ rfl run_newFt ?_; rintro w8 T8 k8 s8; rw [s7] at T8; have b8 := b7.trans (k8.mono b7.size); have H8 := H7.below k8 H7.lt; have G8 := G7.below k8 G7.lt; have X8 := X7.below k8 X7.lt; have S8 := Lib.hid s8; clear b7 H7 G7 X7 k8 s8; try go_simp)
    | (refine at_put rfl 36 _ _ rfl rfl w6.heap.size rfl (FL.cs F) rfl X8 rfl szF (cs_one _) ?_; rintro w9 g9; have X9 := g9.blk; have b9 := g9.below b8 FB6; have H9 := g9.but.blk H8 H8.lt (show w.heap.size ≠ w6.heap.size by omega); have G9 := g9.but.blk G8 G8.lt (show w.heap.size + 1 ≠ w6.heap.size by omega); have T9 := g9.but.blk T8 T8.lt (show w6.heap.size + 1 ≠ w6.heap.size by omega); clear b8 H8 G8 T8 X8 g9)
    | (refine at_put rfl 38 _ _ rfl rfl (w6.heap.size + 1) rfl (flt 0 a) rfl T9 rfl szFt (flt_one _ _) ?_; rintro w10 g10; have T10 := g10.blk; have b10 := g10.below b9 (Nat.le_succ_of_le FB6); have H10 := g10.but.blk H9 H9.lt (show w.heap.size ≠ w6.heap.size + 1 by omega); have G10 := g10.but.blk G9 G9.lt (show w.heap.size + 1 ≠ w6.heap.size + 1 by omega); have X10 := g10.but.blk X9 X9.lt (show w6.heap.size ≠ w6.heap.size + 1 by omega); have c0 := T10.cell 0 (v := .int .i64 0) rfl; clear b9 H9 G9 T9 X9 g10)
    | (refine at_sliceH rfl 23 under_b _ _ rfl (.slice va xs.length vc) (.int .i64 36) (.slice sa 36 sc) rfl rfl HSL.out ?_))
  go_at_call 57
  refine (HD _ w10 (HSG.out w10 b10)).mono ?_
  rintro r w11 ⟨rfl, k11⟩
  have b11 := b10.trans (k11.mono b10.size)
  have H11 := H10.below k11 H10.lt
  have G11 := G10.below k11 G10.lt
  have X11 := X10.below k11 X10.lt
  have l11 := X11.lt
  have m11 := G11.lt
  clear b10 H10 G10 X10 T10 k11 HD c0
  go_wp2_with (first
    | (refine at_new rfl 55 P0.cs rfl run_newPk ?_; rintro w12 U12 k12 s12; have b12 := b11.trans (k12.mono b11.size); have H12 := H11.below k12 H11.lt; have G12 := G11.below k12 G11.lt; have X12 := X11.below k12 X11.lt; have FB11 := b11.size; have S12 := Lib.hid s12; clear b11 H11 G11 X11 k12 s12; try go_simp)
    | (refine at_put rfl 55 _ _ rfl rfl w11.heap.size rfl (PL.cs ⟨src, dst, ttl, ent, vni, mark, F0⟩) rfl U12 rfl szP (pcs_one _) ?_; rintro w13 g13; have U13 := g13.blk; have b13 := g13.below b12 FB11; have H13 := g13.but.blk H12 H12.lt (show w.heap.size ≠ w11.heap.size by omega); have G13 := g13.but.blk G12 G12.lt (show w.heap.size + 1 ≠ w11.heap.size by omega); have X13 := g13.but.blk X12 X12.lt (show w6.heap.size ≠ w11.heap.size by omega); clear b12 H12 G12 X12 U12 g13)
    | (refine at_mid rfl 36 _ rfl w6.heap.size 0 rfl X13 (FL.cs F) rfl _ Try.underlying36 rfl szF ?_)
    | (refine at_setMid rfl 36 _ _ rfl rfl w11.heap.size 6 rfl 55 (PL.cs ⟨src, dst, ttl, ent, vni, mark, F0⟩) (PL.cs ⟨src, dst, ttl, ent, vni, mark, F⟩) (FL.cs F) rfl U13 rfl (cs_one _) szF (show 6 + 15 ≤ 21 by decide) ?_; rintro w14 g14; have U14 := g14.blk; have b14 := g14.below b13 FB11; have H14 := g14.but.blk H13 H13.lt (show w.heap.size ≠ w11.heap.size by omega); have G14 := g14.but.blk G13 G13.lt (show w.heap.size + 1 ≠ w11.heap.size by omega); clear b13 H13 G13 X13 U13 g14)
    | (refine at_mid rfl 55 _ rfl w11.heap.size 0 rfl U14 (PL.cs ⟨src, dst, ttl, ent, vni, mark, F⟩) rfl _ Try.underlying55 rfl szP ?_))
  go_at_call 30
  refine (HB w14).mono ?_
  rintro r w15 ⟨u, rfl, d15, k15⟩
  have b15 := b14.trans (k15.mono b14.size)
  have H15 := H14.below k15 H14.lt
  have G15 := G14.below k15 G14.lt
  have U15 := U14.below k15 U14.lt
  clear b14 H14 G14 U14 k15 HB
  have HQ := equal_is (d15.dat.seg) (HV.out.below b15) HO.out HOX.out
  rw [show decide (Z = xs) = true by simpa using HE.out] at HQ
  obtain ⟨ua, uc, rfl⟩ := d15.dat.shape
  clear d15
  go_wp2_with (first
    | (go_at_call 48; refine HQ.mono ?_; rintro e w' ⟨rfl, hw⟩; obtain rfl := hw.symm; clear HQ)
    | (refine at_mid rfl 55 _ rfl w11.heap.size 0 rfl U15 (PL.cs ⟨src, dst, ttl, ent, vni, mark, F⟩) rfl _ Try.underlying55 rfl szP ?_)
    | (refine at_bld rfl 55 _ rfl P0.cs (by kernel_rfl) ?_)
    | (refine at_bld rfl 38 _ rfl (flt 0 0) (by kernel_rfl) ?_)
    | (refine at_put rfl 55 _ _ rfl rfl w.heap.size rfl (PL.cs ⟨src, dst, ttl, ent, vni, mark, F⟩) rfl H15 rfl szP (pcs_one _) ?_; rintro w16 g16; have H16 := g16.blk; have G16 := g16.but.blk G15 G15.lt (show w.heap.size + 1 ≠ w.heap.size by omega); have b16 := g16.below b15 (Nat.le_refl _); clear H15 G15 b15 g16)
    | (refine at_put rfl 38 _ _ rfl rfl (w.heap.size + 1) rfl (flt 0 0) rfl G16 rfl szFt (flt_one _ _) ?_; rintro w17 g17; have G17 := g17.blk; have H17 := g17.but.blk H16 H16.lt (show w.heap.size ≠ w.heap.size + 1 by omega); have b17 := g17.below b16 (Nat.le_succ _); clear H16 G16 b16 g17))
  exact bodyPost_ret (results_rows (by rfl) _ _ w.heap.size (w.heap.size + 1) _ _ (PL.cs ⟨src, dst, ttl, ent, vni, mark, F⟩).toArray (flt 0 0).toArray _ _ _ _ rfl H17 Try.underlying55 rfl szP rfl G17 Try.underlying38 rfl szFt) rfl ⟨rfl, b17⟩
theorem vread_is (xs : List Int) (ho : Oct xs) (hl : xs.length ≤ 1000000) (v : Value) (w : World) (hv : Seg w v xs) : VReads 29 xs v w := by
  unfold VReads
  by_cases h : hfE xs = 0
  · by_cases hx : rdX (xs.drop 36) = 0
    · by_cases hc : (vP xs).chk = 0
      · by_cases he : (vP xs).enc = xs
        · have hp : Pack xs := ⟨h, hx, hc, he⟩
          rw [show vQ xs = vP xs by unfold vQ; rw [if_pos hp], show vE xs = 0 by unfold vE; rw [if_neg (by simpa using h), if_neg (by simpa using hx), if_pos hp], show vA xs = 0 by unfold vA; rw [if_neg (by simpa using h), if_neg (by simpa using hx)]]
          exact vr_ok xs ho hl h hx hc he v w hv
        · have hp : ¬ Pack xs := fun q => he q.2.2.2
          rw [show vQ xs = P0 by unfold vQ; rw [if_neg hp], show vE xs = 3 by unfold vE; rw [if_neg (by simpa using h), if_neg (by simpa using hx), if_neg hp], show vA xs = 0 by unfold vA; rw [if_neg (by simpa using h), if_neg (by simpa using hx)]]
          exact vr_bad2 xs ho hl h hx hc he v w hv
      · have hp : ¬ Pack xs := fun q => hc q.2.2.1
        rw [show vQ xs = P0 by unfold vQ; rw [if_neg hp], show vE xs = 3 by unfold vE; rw [if_neg (by simpa using h), if_neg (by simpa using hx), if_neg hp], show vA xs = 0 by unfold vA; rw [if_neg (by simpa using h), if_neg (by simpa using hx)]]
        exact vr_bad1 xs ho hl h hx hc v w hv
    · have hp : ¬ Pack xs := fun q => hx q.2.1
      rw [show vQ xs = P0 by unfold vQ; rw [if_neg hp], show vE xs = rdX (xs.drop 36) by unfold vE; rw [if_neg (by simpa using h), if_pos hx], show vA xs = fA (xs.drop 36) by unfold vA; rw [if_neg (by simpa using h), if_pos hx]]
      exact vr_frame xs ho hl h hx v w hv
  · have hp : ¬ Pack xs := fun q => h q.1
    rw [show vQ xs = P0 by unfold vQ; rw [if_neg hp], show vE xs = hfE xs by unfold vE; rw [if_pos h], show vA xs = hfA xs by unfold vA; rw [if_pos h]]
    exact vr_head xs ho hl h v w hv
end Go.Proofs.Ytgpjelcihmbiiaa
