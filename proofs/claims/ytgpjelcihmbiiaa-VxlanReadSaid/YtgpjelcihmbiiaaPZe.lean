/- The reference of layer 7: Read, a frame of IP without ports. No condition. -/
import Derived.Test.YtgpjelcihmbiiaaWq
import Derived.Test.YtgpjelcihmbiiaaPZk
import Derived.Test.YtgpjelcihmbiiaaQt
namespace Go.Proofs.Ytgpjelcihmbiiaa
open Go.RowKit Go.Sort
set_option linter.unusedVariables false
set_option linter.unusedSimpArgs false
set_option maxRecDepth 100000

set_option maxHeartbeats 4000000 in
theorem rr_bad1n (xs : List Int) (ho : Oct xs) (hl : xs.length ≤ 1000000) (h14 : 14 ≤ xs.length) (hty : tyAt xs = 2048) (hz : xs.length = 42) (hp : pt (xs.getD 23 0) = false) (hc : FL.chk (FL.mk (tk xs 6 6) (tk xs 0 6) 2 0 0 0 0 0 (tk xs 26 4) (tk xs 30 4) (xs.getD 22 0) (xs.getD 23 0) 0 0 (tk xs 34 8)) ≠ 0) (v : Value) (w : World) (hv : Seg w v xs) : Calls Try.prog 26 #[v] w fun r w' => r = .returned (.tuple #[FL.v F0, .agg (flt 3 0).toArray]) ∧ Below w.heap.size w w' := by
  have hlen : ¬ (xs.length : Int) < 14 := by omega
  have hlz : ¬ (xs.length : Int) < 42 := by omega
  have hlm : ¬ (42 : Int) < xs.length := by omega
  have hl34 : (34 : Int) ≤ xs.length := by omega
  have hl22 : (22 : Int) < xs.length := by omega
  have hl23 : (23 : Int) < xs.length := by omega
  have hf := decF_ok (k := 2) ho
  rw [dec2n ho hz hp] at hf
  have HB := fun w => rbytes_bad _ hf hc w
  have A : (FL.chk (FL.mk (tk xs 6 6) (tk xs 0 6) 2 0 0 0 0 0 (tk xs 26 4) (tk xs 30 4) (xs.getD 22 0) (xs.getD 23 0) 0 0 (tk xs 34 8)) != 0) = true := by simpa using hc
  generalize FL.chk (FL.mk (tk xs 6 6) (tk xs 0 6) 2 0 0 0 0 0 (tk xs 26 4) (tk xs 30 4) (xs.getD 22 0) (xs.getD 23 0) 0 0 (tk xs 34 8)) = Y at HB A
  clear hc hf
  unfold FL.v at HB
  have T0 := fun w' (h : Seg w' v xs) => take_is xs v w' h ho hl 0 6 (by decide) (by omega)
  have z0 : 0 ≤ tk xs 0 6 ∧ tk xs 0 6 < 281474976710656 := by have := tk_lt ho 0 6 (by omega); simpa using this
  have T6 := fun w' (h : Seg w' v xs) => take_is xs v w' h ho hl 6 6 (by decide) (by omega)
  have z6 : 0 ≤ tk xs 6 6 ∧ tk xs 6 6 < 281474976710656 := by have := tk_lt ho 6 6 (by omega); simpa using this
  have T26 := fun w' (h : Seg w' v xs) => take_is xs v w' h ho hl 26 4 (by decide) (by omega)
  have z26 : 0 ≤ tk xs 26 4 ∧ tk xs 26 4 < 4294967296 := by have := tk_lt ho 26 4 (by omega); simpa using this
  have T30 := fun w' (h : Seg w' v xs) => take_is xs v w' h ho hl 30 4 (by decide) (by omega)
  have z30 : 0 ≤ tk xs 30 4 ∧ tk xs 30 4 < 4294967296 := by have := tk_lt ho 30 4 (by omega); simpa using this
  have T34 := fun w' (h : Seg w' v xs) => take_is xs v w' h ho hl 34 8 (by decide) (by omega)
  have z34 : 0 ≤ tk xs 34 8 ∧ tk xs 34 8 < 18446744073709551616 := by have := tk_lt ho 34 8 (by omega); simpa using this
  have T12 := fun w' (h : Seg w' v xs) => take_is xs v w' h ho hl 12 2 (by decide) (by omega)
  have z12 : 0 ≤ tk xs 12 2 ∧ tk xs 12 2 < 65536 := by have := tk_lt ho 12 2 (by omega); simpa using this
  rw [tyAt_tk ho h14, hty] at T12
  clear z12 hty
  have HP := fun w => rported_is (xs.getD 23 0) w
  rw [hp] at HP
  have zpr := ho.getD 23
  obtain ⟨pr, hpr⟩ : ∃ pr, xs.getD 23 0 = pr := ⟨_, rfl⟩
  rw [hpr] at HP zpr
  have HPR := Lib.hid hpr
  clear hp
  have ztt := ho.getD 22
  obtain ⟨tt, htt⟩ : ∃ tt, xs.getD 22 0 = tt := ⟨_, rfl⟩
  rw [htt] at ztt
  have HTT := Lib.hid htt
  rw [htt, hpr] at HB
  clear htt hpr
  generalize tk xs 0 6 = d at *
  generalize tk xs 6 6 = s at *
  generalize tk xs 26 4 = hs at *
  generalize tk xs 30 4 = hd at *
  generalize tk xs 34 8 = x at *
  have HX0 : Hid (xs ≠ []) := Lib.hid (fun q => by rw [q] at h14; exact absurd h14 (by decide))
  clear hz
  have HV := Lib.hid hv
  obtain ⟨va, vc, rfl, -⟩ := id hv
  obtain ⟨bb, oo, rfl, -⟩ := Seg.some hv (by omega)
  clear hv
  unfold FL.v
  go_enter Try.func26, Try.ntmps26
  go_wp2_with (first
    | (refine at_new rfl 36 F0.cs rfl run_newFr ?_; rintro w1 H1 k1 s1)
    | (refine at_new rfl 38 FZ rfl run_newFt ?_; rintro w2 G2 k2 s2; rw [s1] at G2; have H2 := H1.below k2 H1.lt; have b2 := k1.trans (k2.mono k1.size); have SS := Lib.hid s2; have l2 := G2.lt; clear k1 k2 H1 s2; try go_simp))
  go_at_call 54
  refine (T0 w2 (HV.out.below b2)).mono ?_
  rintro e w' ⟨rfl, hw⟩
  obtain rfl := hw.symm
  go_wp2_with fail
  go_at_call 54
  refine (T6 w2 (HV.out.below b2)).mono ?_
  rintro e w' ⟨rfl, hw⟩
  obtain rfl := hw.symm
  go_wp2_with (first
    | (refine at_bld rfl 36 _ rfl (FL.cs (FL.mk s d 0 0 0 0 0 0 0 0 0 0 0 0 0)) (by kernel_rfl) ?_)
    | (refine at_new rfl 36 F0.cs rfl run_newFr ?_; rintro w3 X3 k3 s3; have b3 := b2.trans (k3.mono b2.size); have H3 := H2.below k3 H2.lt; have G3 := G2.below k3 G2.lt; have FB := b2.size; clear b2 H2 G2 k3 s3; try go_simp)
    | (refine at_put rfl 36 _ _ rfl rfl w2.heap.size rfl (FL.cs (FL.mk s d 0 0 0 0 0 0 0 0 0 0 0 0 0)) rfl X3 rfl szF (cs_one _) ?_; rintro w4 g4; have X4 := g4.blk; have b4 := g4.below b3 FB; have H4 := g4.but.blk H3 H3.lt (show w.heap.size ≠ w2.heap.size by omega); have G4 := g4.but.blk G3 G3.lt (show w.heap.size + 1 ≠ w2.heap.size by omega); clear b3 H3 G3 X3 g4))
  go_at_call 54
  refine (T12 w4 (HV.out.below b4)).mono ?_
  rintro e w' ⟨rfl, hw⟩
  obtain rfl := hw.symm
  go_wp2_with (refine at_set rfl 3 _ _ rfl rfl w2.heap.size 2 rfl 36 (FL.cs (FL.mk s d 0 0 0 0 0 0 0 0 0 0 0 0 0)) (FL.cs (FL.mk s d 2 0 0 0 0 0 0 0 0 0 0 0 0)) (.int .i64 2) rfl X4 rfl rfl rfl int_one (show 2 < 15 by decide) ?_; rintro w5 g5; have X5 := g5.blk; have b5 := g5.below b4 FB; have H5 := g5.but.blk H4 H4.lt (show w.heap.size ≠ w2.heap.size by omega); have G5 := g5.but.blk G4 G4.lt (show w.heap.size + 1 ≠ w2.heap.size by omega); have c23 : w5.cell? ⟨bb, oo + 23, none⟩ = some (.int .u8 pr) := (by obtain ⟨b', o', e, -, -, hx⟩ := Seg.some (HV.out.below b5) (by omega); cases e; rw [← HPR.out]; exact hx 23 (by omega)); clear b4 H4 G4 X4 g5)
  go_at_call 25
  refine (HP _).mono ?_
  rintro e w' ⟨rfl, hw⟩
  obtain rfl := hw.symm
  clear HP c23
  have c2 := Blk.cell X5 2 (v := .int .i64 2) rfl
  go_upto_region 22 with fail
  clear c2
  have cc : ∀ i : Nat, i < xs.length → w5.cell? ⟨bb, oo + i, none⟩ = some (.int .u8 (xs.getD i 0)) := by
    obtain ⟨b', o', e, -, -, hx⟩ := Seg.some (HV.out.below b5) (by omega)
    cases e
    exact hx
  have c22 := cc 22 (by omega)
  have c23 := cc 23 (by omega)
  rw [HTT.out] at c22
  rw [HPR.out] at c23
  have lb := block_lt_of_cell c22
  have C22 : ∀ d os, (grow (redrawn w5 d) os).cell? ⟨bb, oo + 22, none⟩ = some (.int .u8 tt) := fun d os => ((below_regrown w5 d os).cell (p := ⟨bb, oo + 22, none⟩) lb).trans c22
  have C23 : ∀ d os, (grow (redrawn w5 d) os).cell? ⟨bb, oo + 23, none⟩ = some (.int .u8 pr) := fun d os => ((below_regrown w5 d os).cell (p := ⟨bb, oo + 23, none⟩) lb).trans c23
  have Q26 : ∀ d os, Calls Try.prog 54 #[.slice (some ⟨bb, oo, none⟩) xs.length vc, .int .i64 26, .int .i64 4] (grow (redrawn w5 d) os) fun e w' => e = .returned (.int .u64 hs) ∧ Below (grow (redrawn w5 d) os).heap.size (grow (redrawn w5 d) os) w' := fun d os => (T26 _ ((HV.out.below b5).below (below_regrown w5 d os))).mono fun r w' ⟨h1, h2⟩ => ⟨h1, by subst h2; exact Below.refl _ _⟩
  have Q30 : ∀ d os, Calls Try.prog 54 #[.slice (some ⟨bb, oo, none⟩) xs.length vc, .int .i64 30, .int .i64 4] (grow (redrawn w5 d) os) fun e w' => e = .returned (.int .u64 hd) ∧ Below (grow (redrawn w5 d) os).heap.size (grow (redrawn w5 d) os) w' := fun d os => (T30 _ ((HV.out.below b5).below (below_regrown w5 d os))).mono fun r w' ⟨h1, h2⟩ => ⟨h1, by subst h2; exact Below.refl _ _⟩
  clear cc c22 c23
  refine wp_region_qtail 16 (by kernel_rfl) (by kernel_rfl) ?_
  dsimp only [List.take, List.drop]
  repeat (first
    | go_big_quiet_skip
    | (go_big_quiet_want; go_big_quiet_op; first | go_big_quiet_on | go_big_quiet_call (first
        | (with_reducible exact Calls.regrown_of (Q26 _ _)) | (with_reducible exact Calls.regrown_of (Q30 _ _)))))
  refine wpQuiet_nil ?_
  intro w6 k6
  clear C22 C23 Q26 Q30
  have b6 := b5.trans (k6.mono b5.size)
  have H6 := H5.below k6 H5.lt
  have G6 := G5.below k6 G5.lt
  have X6 := X5.below k6 X5.lt
  clear b5 H5 G5 X5 k6
  go_wp2_with (refine at_setMid rfl 32 _ _ rfl rfl w2.heap.size 8 rfl 36 (FL.cs (FL.mk s d 2 0 0 0 0 0 0 0 0 0 0 0 0)) (FL.cs (FL.mk s d 2 0 0 0 0 0 hs hd tt pr 0 0 0)) [.int .u32 hs, .int .u32 hd, .int .i64 tt, .int .i64 pr, .int .i64 0, .int .i64 0] rfl X6 rfl (by simp [Value.oneCell']) szH (show 8 + 6 ≤ 15 by decide) ?_; rintro w7 g7; have X7 := g7.blk; have b7 := g7.below b6 FB; have H7 := g7.but.blk H6 H6.lt (show w.heap.size ≠ w2.heap.size by omega); have G7 := g7.but.blk G6 G6.lt (show w.heap.size + 1 ≠ w2.heap.size by omega); clear b6 H6 G6 X6 g7)
  go_at_call 54
  refine (T34 w7 (HV.out.below b7)).mono ?_
  rintro e w' ⟨rfl, hw⟩
  obtain rfl := hw.symm
  go_wp2_with (first
    | (refine at_set rfl 27 _ _ rfl rfl w2.heap.size 14 rfl 36 (FL.cs (FL.mk s d 2 0 0 0 0 0 hs hd tt pr 0 0 0)) (FL.cs (FL.mk s d 2 0 0 0 0 0 hs hd tt pr 0 0 x)) (.int .u64 x) rfl X7 rfl rfl rfl u64_one (show 14 < 15 by decide) ?_; rintro we ge; have Xe := ge.blk; have be' := ge.below b7 FB; have He := ge.but.blk H7 H7.lt (show w.heap.size ≠ w2.heap.size by omega); have Ge := ge.but.blk G7 G7.lt (show w.heap.size + 1 ≠ w2.heap.size by omega); clear b7 H7 G7 X7 ge)
    | (refine at_mid rfl 36 _ rfl w2.heap.size 0 rfl Xe (FL.cs (FL.mk s d 2 0 0 0 0 0 hs hd tt pr 0 0 x)) rfl _ Try.underlying36 rfl szF ?_))
  go_at_call 22
  refine (HB we).mono ?_
  rintro e wa ⟨rfl, ka⟩
  have ba := be'.trans (ka.mono be'.size)
  have Ha := He.below ka He.lt
  have Ga := Ge.below ka Ge.lt
  have Xa := Xe.below ka Xe.lt
  clear be' He Ge Xe ka HB
  go_wp2_with (first
    | (refine at_bld rfl 36 _ rfl (FL.cs F0) (by kernel_rfl) ?_)
    | (refine at_bld rfl 38 _ rfl (flt 3 0) (by kernel_rfl) ?_)
    | (refine at_put rfl 36 _ _ rfl rfl w.heap.size rfl (FL.cs F0) rfl Ha rfl szF (cs_one _) ?_; rintro w8 g8; have H8 := g8.blk; have G8 := g8.but.blk Ga Ga.lt (show w.heap.size + 1 ≠ w.heap.size by omega); have b8 := g8.below ba (Nat.le_refl _); clear Ha Ga ba g8)
    | (refine at_put rfl 38 _ _ rfl rfl (w.heap.size + 1) rfl (flt 3 0) rfl G8 rfl szFt (flt_one _ _) ?_; rintro w9 g9; have G9 := g9.blk; have H9 := g9.but.blk H8 H8.lt (show w.heap.size ≠ w.heap.size + 1 by omega); have b9 := g9.below b8 (Nat.le_succ _); clear H8 G8 b8 g9))
  exact bodyPost_ret (results_rows (by rfl) _ _ w.heap.size (w.heap.size + 1) _ _ (FL.cs F0).toArray (flt 3 0).toArray _ _ _ _ rfl H9 Try.underlying36 rfl szF rfl G9 Try.underlying38 rfl szFt) rfl ⟨rfl, b9⟩
set_option maxHeartbeats 4000000 in
theorem rr_bad2n (xs : List Int) (ho : Oct xs) (hl : xs.length ≤ 1000000) (h14 : 14 ≤ xs.length) (hty : tyAt xs = 2048) (hz : xs.length = 42) (hp : pt (xs.getD 23 0) = false) (hc : FL.chk (FL.mk (tk xs 6 6) (tk xs 0 6) 2 0 0 0 0 0 (tk xs 26 4) (tk xs 30 4) (xs.getD 22 0) (xs.getD 23 0) 0 0 (tk xs 34 8)) = 0) (heq : FL.enc (FL.mk (tk xs 6 6) (tk xs 0 6) 2 0 0 0 0 0 (tk xs 26 4) (tk xs 30 4) (xs.getD 22 0) (xs.getD 23 0) 0 0 (tk xs 34 8)) ≠ xs) (v : Value) (w : World) (hv : Seg w v xs) : Calls Try.prog 26 #[v] w fun r w' => r = .returned (.tuple #[FL.v F0, .agg (flt 3 0).toArray]) ∧ Below w.heap.size w w' := by
  have hlen : ¬ (xs.length : Int) < 14 := by omega
  have hlz : ¬ (xs.length : Int) < 42 := by omega
  have hlm : ¬ (42 : Int) < xs.length := by omega
  have hl34 : (34 : Int) ≤ xs.length := by omega
  have hl22 : (22 : Int) < xs.length := by omega
  have hl23 : (23 : Int) < xs.length := by omega
  have hf := decF_ok (k := 2) ho
  rw [dec2n ho hz hp] at hf
  have HB := fun w => rbytes_ok _ hf hc w
  have HQ : ((strOfNums (FL.enc (FL.mk (tk xs 6 6) (tk xs 0 6) 2 0 0 0 0 0 (tk xs 26 4) (tk xs 30 4) (xs.getD 22 0) (xs.getD 23 0) 0 0 (tk xs 34 8)))).toList == (strOfNums xs).toList) = false := by rw [str_eq (enc_octets _) ho]; simpa using heq
  have HNE := Lib.hid (show FL.enc (FL.mk (tk xs 6 6) (tk xs 0 6) 2 0 0 0 0 0 (tk xs 26 4) (tk xs 30 4) (xs.getD 22 0) (xs.getD 23 0) 0 0 (tk xs 34 8)) ≠ [] from enc_some _)
  clear heq hc hf
  unfold FL.v at HB
  have T0 := fun w' (h : Seg w' v xs) => take_is xs v w' h ho hl 0 6 (by decide) (by omega)
  have z0 : 0 ≤ tk xs 0 6 ∧ tk xs 0 6 < 281474976710656 := by have := tk_lt ho 0 6 (by omega); simpa using this
  have T6 := fun w' (h : Seg w' v xs) => take_is xs v w' h ho hl 6 6 (by decide) (by omega)
  have z6 : 0 ≤ tk xs 6 6 ∧ tk xs 6 6 < 281474976710656 := by have := tk_lt ho 6 6 (by omega); simpa using this
  have T26 := fun w' (h : Seg w' v xs) => take_is xs v w' h ho hl 26 4 (by decide) (by omega)
  have z26 : 0 ≤ tk xs 26 4 ∧ tk xs 26 4 < 4294967296 := by have := tk_lt ho 26 4 (by omega); simpa using this
  have T30 := fun w' (h : Seg w' v xs) => take_is xs v w' h ho hl 30 4 (by decide) (by omega)
  have z30 : 0 ≤ tk xs 30 4 ∧ tk xs 30 4 < 4294967296 := by have := tk_lt ho 30 4 (by omega); simpa using this
  have T34 := fun w' (h : Seg w' v xs) => take_is xs v w' h ho hl 34 8 (by decide) (by omega)
  have z34 : 0 ≤ tk xs 34 8 ∧ tk xs 34 8 < 18446744073709551616 := by have := tk_lt ho 34 8 (by omega); simpa using this
  have T12 := fun w' (h : Seg w' v xs) => take_is xs v w' h ho hl 12 2 (by decide) (by omega)
  have z12 : 0 ≤ tk xs 12 2 ∧ tk xs 12 2 < 65536 := by have := tk_lt ho 12 2 (by omega); simpa using this
  rw [tyAt_tk ho h14, hty] at T12
  clear z12 hty
  have HP := fun w => rported_is (xs.getD 23 0) w
  rw [hp] at HP
  have zpr := ho.getD 23
  obtain ⟨pr, hpr⟩ : ∃ pr, xs.getD 23 0 = pr := ⟨_, rfl⟩
  rw [hpr] at HP zpr
  have HPR := Lib.hid hpr
  clear hp
  have ztt := ho.getD 22
  obtain ⟨tt, htt⟩ : ∃ tt, xs.getD 22 0 = tt := ⟨_, rfl⟩
  rw [htt] at ztt
  have HTT := Lib.hid htt
  rw [htt, hpr] at HB
  rw [htt, hpr] at HQ HNE
  clear htt hpr
  generalize tk xs 0 6 = d at *
  generalize tk xs 6 6 = s at *
  generalize tk xs 26 4 = hs at *
  generalize tk xs 30 4 = hd at *
  generalize tk xs 34 8 = x at *
  generalize FL.enc (FL.mk s d 2 0 0 0 0 0 hs hd tt pr 0 0 x) = E at *
  have HX0 : Hid (xs ≠ []) := Lib.hid (fun q => by rw [q] at h14; exact absurd h14 (by decide))
  clear hz
  have HV := Lib.hid hv
  obtain ⟨va, vc, rfl, -⟩ := id hv
  obtain ⟨bb, oo, rfl, -⟩ := Seg.some hv (by omega)
  clear hv
  unfold FL.v
  go_enter Try.func26, Try.ntmps26
  go_wp2_with (first
    | (refine at_new rfl 36 F0.cs rfl run_newFr ?_; rintro w1 H1 k1 s1)
    | (refine at_new rfl 38 FZ rfl run_newFt ?_; rintro w2 G2 k2 s2; rw [s1] at G2; have H2 := H1.below k2 H1.lt; have b2 := k1.trans (k2.mono k1.size); have SS := Lib.hid s2; have l2 := G2.lt; clear k1 k2 H1 s2; try go_simp))
  go_at_call 54
  refine (T0 w2 (HV.out.below b2)).mono ?_
  rintro e w' ⟨rfl, hw⟩
  obtain rfl := hw.symm
  go_wp2_with fail
  go_at_call 54
  refine (T6 w2 (HV.out.below b2)).mono ?_
  rintro e w' ⟨rfl, hw⟩
  obtain rfl := hw.symm
  go_wp2_with (first
    | (refine at_bld rfl 36 _ rfl (FL.cs (FL.mk s d 0 0 0 0 0 0 0 0 0 0 0 0 0)) (by kernel_rfl) ?_)
    | (refine at_new rfl 36 F0.cs rfl run_newFr ?_; rintro w3 X3 k3 s3; have b3 := b2.trans (k3.mono b2.size); have H3 := H2.below k3 H2.lt; have G3 := G2.below k3 G2.lt; have FB := b2.size; clear b2 H2 G2 k3 s3; try go_simp)
    | (refine at_put rfl 36 _ _ rfl rfl w2.heap.size rfl (FL.cs (FL.mk s d 0 0 0 0 0 0 0 0 0 0 0 0 0)) rfl X3 rfl szF (cs_one _) ?_; rintro w4 g4; have X4 := g4.blk; have b4 := g4.below b3 FB; have H4 := g4.but.blk H3 H3.lt (show w.heap.size ≠ w2.heap.size by omega); have G4 := g4.but.blk G3 G3.lt (show w.heap.size + 1 ≠ w2.heap.size by omega); clear b3 H3 G3 X3 g4))
  go_at_call 54
  refine (T12 w4 (HV.out.below b4)).mono ?_
  rintro e w' ⟨rfl, hw⟩
  obtain rfl := hw.symm
  go_wp2_with (refine at_set rfl 3 _ _ rfl rfl w2.heap.size 2 rfl 36 (FL.cs (FL.mk s d 0 0 0 0 0 0 0 0 0 0 0 0 0)) (FL.cs (FL.mk s d 2 0 0 0 0 0 0 0 0 0 0 0 0)) (.int .i64 2) rfl X4 rfl rfl rfl int_one (show 2 < 15 by decide) ?_; rintro w5 g5; have X5 := g5.blk; have b5 := g5.below b4 FB; have H5 := g5.but.blk H4 H4.lt (show w.heap.size ≠ w2.heap.size by omega); have G5 := g5.but.blk G4 G4.lt (show w.heap.size + 1 ≠ w2.heap.size by omega); have c23 : w5.cell? ⟨bb, oo + 23, none⟩ = some (.int .u8 pr) := (by obtain ⟨b', o', e, -, -, hx⟩ := Seg.some (HV.out.below b5) (by omega); cases e; rw [← HPR.out]; exact hx 23 (by omega)); clear b4 H4 G4 X4 g5)
  go_at_call 25
  refine (HP _).mono ?_
  rintro e w' ⟨rfl, hw⟩
  obtain rfl := hw.symm
  clear HP c23
  have c2 := Blk.cell X5 2 (v := .int .i64 2) rfl
  go_upto_region 22 with fail
  clear c2
  have cc : ∀ i : Nat, i < xs.length → w5.cell? ⟨bb, oo + i, none⟩ = some (.int .u8 (xs.getD i 0)) := by
    obtain ⟨b', o', e, -, -, hx⟩ := Seg.some (HV.out.below b5) (by omega)
    cases e
    exact hx
  have c22 := cc 22 (by omega)
  have c23 := cc 23 (by omega)
  rw [HTT.out] at c22
  rw [HPR.out] at c23
  have lb := block_lt_of_cell c22
  have C22 : ∀ d os, (grow (redrawn w5 d) os).cell? ⟨bb, oo + 22, none⟩ = some (.int .u8 tt) := fun d os => ((below_regrown w5 d os).cell (p := ⟨bb, oo + 22, none⟩) lb).trans c22
  have C23 : ∀ d os, (grow (redrawn w5 d) os).cell? ⟨bb, oo + 23, none⟩ = some (.int .u8 pr) := fun d os => ((below_regrown w5 d os).cell (p := ⟨bb, oo + 23, none⟩) lb).trans c23
  have Q26 : ∀ d os, Calls Try.prog 54 #[.slice (some ⟨bb, oo, none⟩) xs.length vc, .int .i64 26, .int .i64 4] (grow (redrawn w5 d) os) fun e w' => e = .returned (.int .u64 hs) ∧ Below (grow (redrawn w5 d) os).heap.size (grow (redrawn w5 d) os) w' := fun d os => (T26 _ ((HV.out.below b5).below (below_regrown w5 d os))).mono fun r w' ⟨h1, h2⟩ => ⟨h1, by subst h2; exact Below.refl _ _⟩
  have Q30 : ∀ d os, Calls Try.prog 54 #[.slice (some ⟨bb, oo, none⟩) xs.length vc, .int .i64 30, .int .i64 4] (grow (redrawn w5 d) os) fun e w' => e = .returned (.int .u64 hd) ∧ Below (grow (redrawn w5 d) os).heap.size (grow (redrawn w5 d) os) w' := fun d os => (T30 _ ((HV.out.below b5).below (below_regrown w5 d os))).mono fun r w' ⟨h1, h2⟩ => ⟨h1, by subst h2; exact Below.refl _ _⟩
  clear cc c22 c23
  refine wp_region_qtail 16 (by kernel_rfl) (by kernel_rfl) ?_
  dsimp only [List.take, List.drop]
  repeat (first
    | go_big_quiet_skip
    | (go_big_quiet_want; go_big_quiet_op; first | go_big_quiet_on | go_big_quiet_call (first
        | (with_reducible exact Calls.regrown_of (Q26 _ _)) | (with_reducible exact Calls.regrown_of (Q30 _ _)))))
  refine wpQuiet_nil ?_
  intro w6 k6
  clear C22 C23 Q26 Q30
  have b6 := b5.trans (k6.mono b5.size)
  have H6 := H5.below k6 H5.lt
  have G6 := G5.below k6 G5.lt
  have X6 := X5.below k6 X5.lt
  clear b5 H5 G5 X5 k6
  go_wp2_with (refine at_setMid rfl 32 _ _ rfl rfl w2.heap.size 8 rfl 36 (FL.cs (FL.mk s d 2 0 0 0 0 0 0 0 0 0 0 0 0)) (FL.cs (FL.mk s d 2 0 0 0 0 0 hs hd tt pr 0 0 0)) [.int .u32 hs, .int .u32 hd, .int .i64 tt, .int .i64 pr, .int .i64 0, .int .i64 0] rfl X6 rfl (by simp [Value.oneCell']) szH (show 8 + 6 ≤ 15 by decide) ?_; rintro w7 g7; have X7 := g7.blk; have b7 := g7.below b6 FB; have H7 := g7.but.blk H6 H6.lt (show w.heap.size ≠ w2.heap.size by omega); have G7 := g7.but.blk G6 G6.lt (show w.heap.size + 1 ≠ w2.heap.size by omega); clear b6 H6 G6 X6 g7)
  go_at_call 54
  refine (T34 w7 (HV.out.below b7)).mono ?_
  rintro e w' ⟨rfl, hw⟩
  obtain rfl := hw.symm
  go_wp2_with (first
    | (refine at_set rfl 27 _ _ rfl rfl w2.heap.size 14 rfl 36 (FL.cs (FL.mk s d 2 0 0 0 0 0 hs hd tt pr 0 0 0)) (FL.cs (FL.mk s d 2 0 0 0 0 0 hs hd tt pr 0 0 x)) (.int .u64 x) rfl X7 rfl rfl rfl u64_one (show 14 < 15 by decide) ?_; rintro we ge; have Xe := ge.blk; have be' := ge.below b7 FB; have He := ge.but.blk H7 H7.lt (show w.heap.size ≠ w2.heap.size by omega); have Ge := ge.but.blk G7 G7.lt (show w.heap.size + 1 ≠ w2.heap.size by omega); clear b7 H7 G7 X7 ge)
    | (refine at_mid rfl 36 _ rfl w2.heap.size 0 rfl Xe (FL.cs (FL.mk s d 2 0 0 0 0 0 hs hd tt pr 0 0 x)) rfl _ Try.underlying36 rfl szF ?_))
  go_at_call 22
  refine (HB we).mono ?_
  rintro e wa ⟨u, rfl, da, ka⟩
  have ba := be'.trans (ka.mono be'.size)
  have Ha := He.below ka He.lt
  have Ga := Ge.below ka Ge.lt
  have Xa := Xe.below ka Xe.lt
  clear be' He Ge Xe ka HB
  have hs1 := seg_string da.dat.seg HNE.out
  have hs2 := seg_string (HV.out.below ba) HX0.out
  obtain ⟨ua, uc, rfl⟩ := da.dat.shape
  clear da
  generalize strOfNums E = str1 at *
  generalize strOfNums xs = str2 at *
  go_wp2_with (first
    | (refine at_bld rfl 36 _ rfl (FL.cs F0) (by kernel_rfl) ?_)
    | (refine at_bld rfl 38 _ rfl (flt 3 0) (by kernel_rfl) ?_)
    | (refine at_put rfl 36 _ _ rfl rfl w.heap.size rfl (FL.cs F0) rfl Ha rfl szF (cs_one _) ?_; rintro w8 g8; have H8 := g8.blk; have G8 := g8.but.blk Ga Ga.lt (show w.heap.size + 1 ≠ w.heap.size by omega); have b8 := g8.below ba (Nat.le_refl _); clear Ha Ga ba g8)
    | (refine at_put rfl 38 _ _ rfl rfl (w.heap.size + 1) rfl (flt 3 0) rfl G8 rfl szFt (flt_one _ _) ?_; rintro w9 g9; have G9 := g9.blk; have H9 := g9.but.blk H8 H8.lt (show w.heap.size ≠ w.heap.size + 1 by omega); have b9 := g9.below b8 (Nat.le_succ _); clear H8 G8 b8 g9))
  exact bodyPost_ret (results_rows (by rfl) _ _ w.heap.size (w.heap.size + 1) _ _ (FL.cs F0).toArray (flt 3 0).toArray _ _ _ _ rfl H9 Try.underlying36 rfl szF rfl G9 Try.underlying38 rfl szFt) rfl ⟨rfl, b9⟩
set_option maxHeartbeats 4000000 in
theorem rr_okn (xs : List Int) (ho : Oct xs) (hl : xs.length ≤ 1000000) (h14 : 14 ≤ xs.length) (hty : tyAt xs = 2048) (hz : xs.length = 42) (hp : pt (xs.getD 23 0) = false) (hc : FL.chk (FL.mk (tk xs 6 6) (tk xs 0 6) 2 0 0 0 0 0 (tk xs 26 4) (tk xs 30 4) (xs.getD 22 0) (xs.getD 23 0) 0 0 (tk xs 34 8)) = 0) (heq : FL.enc (FL.mk (tk xs 6 6) (tk xs 0 6) 2 0 0 0 0 0 (tk xs 26 4) (tk xs 30 4) (xs.getD 22 0) (xs.getD 23 0) 0 0 (tk xs 34 8)) = xs) (v : Value) (w : World) (hv : Seg w v xs) : Calls Try.prog 26 #[v] w fun r w' => r = .returned (.tuple #[FL.v (FL.mk (tk xs 6 6) (tk xs 0 6) 2 0 0 0 0 0 (tk xs 26 4) (tk xs 30 4) (xs.getD 22 0) (xs.getD 23 0) 0 0 (tk xs 34 8)), .agg (flt 0 0).toArray]) ∧ Below w.heap.size w w' := by
  have hlen : ¬ (xs.length : Int) < 14 := by omega
  have hlz : ¬ (xs.length : Int) < 42 := by omega
  have hlm : ¬ (42 : Int) < xs.length := by omega
  have hl34 : (34 : Int) ≤ xs.length := by omega
  have hl22 : (22 : Int) < xs.length := by omega
  have hl23 : (23 : Int) < xs.length := by omega
  have hf := decF_ok (k := 2) ho
  rw [dec2n ho hz hp] at hf
  have HB := fun w => rbytes_ok _ hf hc w
  have HQ : ((strOfNums (FL.enc (FL.mk (tk xs 6 6) (tk xs 0 6) 2 0 0 0 0 0 (tk xs 26 4) (tk xs 30 4) (xs.getD 22 0) (xs.getD 23 0) 0 0 (tk xs 34 8)))).toList == (strOfNums xs).toList) = true := by rw [str_eq (enc_octets _) ho]; simpa using heq
  have HNE := Lib.hid (show FL.enc (FL.mk (tk xs 6 6) (tk xs 0 6) 2 0 0 0 0 0 (tk xs 26 4) (tk xs 30 4) (xs.getD 22 0) (xs.getD 23 0) 0 0 (tk xs 34 8)) ≠ [] from enc_some _)
  clear heq hc hf
  unfold FL.v at HB
  have T0 := fun w' (h : Seg w' v xs) => take_is xs v w' h ho hl 0 6 (by decide) (by omega)
  have z0 : 0 ≤ tk xs 0 6 ∧ tk xs 0 6 < 281474976710656 := by have := tk_lt ho 0 6 (by omega); simpa using this
  have T6 := fun w' (h : Seg w' v xs) => take_is xs v w' h ho hl 6 6 (by decide) (by omega)
  have z6 : 0 ≤ tk xs 6 6 ∧ tk xs 6 6 < 281474976710656 := by have := tk_lt ho 6 6 (by omega); simpa using this
  have T26 := fun w' (h : Seg w' v xs) => take_is xs v w' h ho hl 26 4 (by decide) (by omega)
  have z26 : 0 ≤ tk xs 26 4 ∧ tk xs 26 4 < 4294967296 := by have := tk_lt ho 26 4 (by omega); simpa using this
  have T30 := fun w' (h : Seg w' v xs) => take_is xs v w' h ho hl 30 4 (by decide) (by omega)
  have z30 : 0 ≤ tk xs 30 4 ∧ tk xs 30 4 < 4294967296 := by have := tk_lt ho 30 4 (by omega); simpa using this
  have T34 := fun w' (h : Seg w' v xs) => take_is xs v w' h ho hl 34 8 (by decide) (by omega)
  have z34 : 0 ≤ tk xs 34 8 ∧ tk xs 34 8 < 18446744073709551616 := by have := tk_lt ho 34 8 (by omega); simpa using this
  have T12 := fun w' (h : Seg w' v xs) => take_is xs v w' h ho hl 12 2 (by decide) (by omega)
  have z12 : 0 ≤ tk xs 12 2 ∧ tk xs 12 2 < 65536 := by have := tk_lt ho 12 2 (by omega); simpa using this
  rw [tyAt_tk ho h14, hty] at T12
  clear z12 hty
  have HP := fun w => rported_is (xs.getD 23 0) w
  rw [hp] at HP
  have zpr := ho.getD 23
  obtain ⟨pr, hpr⟩ : ∃ pr, xs.getD 23 0 = pr := ⟨_, rfl⟩
  rw [hpr] at HP zpr
  have HPR := Lib.hid hpr
  clear hp
  have ztt := ho.getD 22
  obtain ⟨tt, htt⟩ : ∃ tt, xs.getD 22 0 = tt := ⟨_, rfl⟩
  rw [htt] at ztt
  have HTT := Lib.hid htt
  rw [htt, hpr] at HB
  rw [htt, hpr] at HQ HNE
  rw [htt, hpr]
  clear htt hpr
  generalize tk xs 0 6 = d at *
  generalize tk xs 6 6 = s at *
  generalize tk xs 26 4 = hs at *
  generalize tk xs 30 4 = hd at *
  generalize tk xs 34 8 = x at *
  generalize FL.enc (FL.mk s d 2 0 0 0 0 0 hs hd tt pr 0 0 x) = E at *
  have HX0 : Hid (xs ≠ []) := Lib.hid (fun q => by rw [q] at h14; exact absurd h14 (by decide))
  clear hz
  have HV := Lib.hid hv
  obtain ⟨va, vc, rfl, -⟩ := id hv
  obtain ⟨bb, oo, rfl, -⟩ := Seg.some hv (by omega)
  clear hv
  unfold FL.v
  go_enter Try.func26, Try.ntmps26
  go_wp2_with (first
    | (refine at_new rfl 36 F0.cs rfl run_newFr ?_; rintro w1 H1 k1 s1)
    | (refine at_new rfl 38 FZ rfl run_newFt ?_; rintro w2 G2 k2 s2; rw [s1] at G2; have H2 := H1.below k2 H1.lt; have b2 := k1.trans (k2.mono k1.size); have SS := Lib.hid s2; have l2 := G2.lt; clear k1 k2 H1 s2; try go_simp))
  go_at_call 54
  refine (T0 w2 (HV.out.below b2)).mono ?_
  rintro e w' ⟨rfl, hw⟩
  obtain rfl := hw.symm
  go_wp2_with fail
  go_at_call 54
  refine (T6 w2 (HV.out.below b2)).mono ?_
  rintro e w' ⟨rfl, hw⟩
  obtain rfl := hw.symm
  go_wp2_with (first
    | (refine at_bld rfl 36 _ rfl (FL.cs (FL.mk s d 0 0 0 0 0 0 0 0 0 0 0 0 0)) (by kernel_rfl) ?_)
    | (refine at_new rfl 36 F0.cs rfl run_newFr ?_; rintro w3 X3 k3 s3; have b3 := b2.trans (k3.mono b2.size); have H3 := H2.below k3 H2.lt; have G3 := G2.below k3 G2.lt; have FB := b2.size; clear b2 H2 G2 k3 s3; try go_simp)
    | (refine at_put rfl 36 _ _ rfl rfl w2.heap.size rfl (FL.cs (FL.mk s d 0 0 0 0 0 0 0 0 0 0 0 0 0)) rfl X3 rfl szF (cs_one _) ?_; rintro w4 g4; have X4 := g4.blk; have b4 := g4.below b3 FB; have H4 := g4.but.blk H3 H3.lt (show w.heap.size ≠ w2.heap.size by omega); have G4 := g4.but.blk G3 G3.lt (show w.heap.size + 1 ≠ w2.heap.size by omega); clear b3 H3 G3 X3 g4))
  go_at_call 54
  refine (T12 w4 (HV.out.below b4)).mono ?_
  rintro e w' ⟨rfl, hw⟩
  obtain rfl := hw.symm
  go_wp2_with (refine at_set rfl 3 _ _ rfl rfl w2.heap.size 2 rfl 36 (FL.cs (FL.mk s d 0 0 0 0 0 0 0 0 0 0 0 0 0)) (FL.cs (FL.mk s d 2 0 0 0 0 0 0 0 0 0 0 0 0)) (.int .i64 2) rfl X4 rfl rfl rfl int_one (show 2 < 15 by decide) ?_; rintro w5 g5; have X5 := g5.blk; have b5 := g5.below b4 FB; have H5 := g5.but.blk H4 H4.lt (show w.heap.size ≠ w2.heap.size by omega); have G5 := g5.but.blk G4 G4.lt (show w.heap.size + 1 ≠ w2.heap.size by omega); have c23 : w5.cell? ⟨bb, oo + 23, none⟩ = some (.int .u8 pr) := (by obtain ⟨b', o', e, -, -, hx⟩ := Seg.some (HV.out.below b5) (by omega); cases e; rw [← HPR.out]; exact hx 23 (by omega)); clear b4 H4 G4 X4 g5)
  go_at_call 25
  refine (HP _).mono ?_
  rintro e w' ⟨rfl, hw⟩
  obtain rfl := hw.symm
  clear HP c23
  have c2 := Blk.cell X5 2 (v := .int .i64 2) rfl
  go_upto_region 22 with fail
  clear c2
  have cc : ∀ i : Nat, i < xs.length → w5.cell? ⟨bb, oo + i, none⟩ = some (.int .u8 (xs.getD i 0)) := by
    obtain ⟨b', o', e, -, -, hx⟩ := Seg.some (HV.out.below b5) (by omega)
    cases e
    exact hx
  have c22 := cc 22 (by omega)
  have c23 := cc 23 (by omega)
  rw [HTT.out] at c22
  rw [HPR.out] at c23
  have lb := block_lt_of_cell c22
  have C22 : ∀ d os, (grow (redrawn w5 d) os).cell? ⟨bb, oo + 22, none⟩ = some (.int .u8 tt) := fun d os => ((below_regrown w5 d os).cell (p := ⟨bb, oo + 22, none⟩) lb).trans c22
  have C23 : ∀ d os, (grow (redrawn w5 d) os).cell? ⟨bb, oo + 23, none⟩ = some (.int .u8 pr) := fun d os => ((below_regrown w5 d os).cell (p := ⟨bb, oo + 23, none⟩) lb).trans c23
  have Q26 : ∀ d os, Calls Try.prog 54 #[.slice (some ⟨bb, oo, none⟩) xs.length vc, .int .i64 26, .int .i64 4] (grow (redrawn w5 d) os) fun e w' => e = .returned (.int .u64 hs) ∧ Below (grow (redrawn w5 d) os).heap.size (grow (redrawn w5 d) os) w' := fun d os => (T26 _ ((HV.out.below b5).below (below_regrown w5 d os))).mono fun r w' ⟨h1, h2⟩ => ⟨h1, by subst h2; exact Below.refl _ _⟩
  have Q30 : ∀ d os, Calls Try.prog 54 #[.slice (some ⟨bb, oo, none⟩) xs.length vc, .int .i64 30, .int .i64 4] (grow (redrawn w5 d) os) fun e w' => e = .returned (.int .u64 hd) ∧ Below (grow (redrawn w5 d) os).heap.size (grow (redrawn w5 d) os) w' := fun d os => (T30 _ ((HV.out.below b5).below (below_regrown w5 d os))).mono fun r w' ⟨h1, h2⟩ => ⟨h1, by subst h2; exact Below.refl _ _⟩
  clear cc c22 c23
  refine wp_region_qtail 16 (by kernel_rfl) (by kernel_rfl) ?_
  dsimp only [List.take, List.drop]
  repeat (first
    | go_big_quiet_skip
    | (go_big_quiet_want; go_big_quiet_op; first | go_big_quiet_on | go_big_quiet_call (first
        | (with_reducible exact Calls.regrown_of (Q26 _ _)) | (with_reducible exact Calls.regrown_of (Q30 _ _)))))
  refine wpQuiet_nil ?_
  intro w6 k6
  clear C22 C23 Q26 Q30
  have b6 := b5.trans (k6.mono b5.size)
  have H6 := H5.below k6 H5.lt
  have G6 := G5.below k6 G5.lt
  have X6 := X5.below k6 X5.lt
  clear b5 H5 G5 X5 k6
  go_wp2_with (refine at_setMid rfl 32 _ _ rfl rfl w2.heap.size 8 rfl 36 (FL.cs (FL.mk s d 2 0 0 0 0 0 0 0 0 0 0 0 0)) (FL.cs (FL.mk s d 2 0 0 0 0 0 hs hd tt pr 0 0 0)) [.int .u32 hs, .int .u32 hd, .int .i64 tt, .int .i64 pr, .int .i64 0, .int .i64 0] rfl X6 rfl (by simp [Value.oneCell']) szH (show 8 + 6 ≤ 15 by decide) ?_; rintro w7 g7; have X7 := g7.blk; have b7 := g7.below b6 FB; have H7 := g7.but.blk H6 H6.lt (show w.heap.size ≠ w2.heap.size by omega); have G7 := g7.but.blk G6 G6.lt (show w.heap.size + 1 ≠ w2.heap.size by omega); clear b6 H6 G6 X6 g7)
  go_at_call 54
  refine (T34 w7 (HV.out.below b7)).mono ?_
  rintro e w' ⟨rfl, hw⟩
  obtain rfl := hw.symm
  go_wp2_with (first
    | (refine at_set rfl 27 _ _ rfl rfl w2.heap.size 14 rfl 36 (FL.cs (FL.mk s d 2 0 0 0 0 0 hs hd tt pr 0 0 0)) (FL.cs (FL.mk s d 2 0 0 0 0 0 hs hd tt pr 0 0 x)) (.int .u64 x) rfl X7 rfl rfl rfl u64_one (show 14 < 15 by decide) ?_; rintro we ge; have Xe := ge.blk; have be' := ge.below b7 FB; have He := ge.but.blk H7 H7.lt (show w.heap.size ≠ w2.heap.size by omega); have Ge := ge.but.blk G7 G7.lt (show w.heap.size + 1 ≠ w2.heap.size by omega); clear b7 H7 G7 X7 ge)
    | (refine at_mid rfl 36 _ rfl w2.heap.size 0 rfl Xe (FL.cs (FL.mk s d 2 0 0 0 0 0 hs hd tt pr 0 0 x)) rfl _ Try.underlying36 rfl szF ?_))
  go_at_call 22
  refine (HB we).mono ?_
  rintro e wa ⟨u, rfl, da, ka⟩
  have ba := be'.trans (ka.mono be'.size)
  have Ha := He.below ka He.lt
  have Ga := Ge.below ka Ge.lt
  have Xa := Xe.below ka Xe.lt
  clear be' He Ge Xe ka HB
  have hs1 := seg_string da.dat.seg HNE.out
  have hs2 := seg_string (HV.out.below ba) HX0.out
  obtain ⟨ua, uc, rfl⟩ := da.dat.shape
  clear da
  generalize strOfNums E = str1 at *
  generalize strOfNums xs = str2 at *
  go_wp2_with (first
    | (refine at_mid rfl 36 _ rfl w2.heap.size 0 rfl Xa (FL.cs (FL.mk s d 2 0 0 0 0 0 hs hd tt pr 0 0 x)) rfl _ Try.underlying36 rfl szF ?_)
    | (refine at_bld rfl 36 _ rfl (FL.cs F0) (by kernel_rfl) ?_)
    | (refine at_bld rfl 38 _ rfl (flt 0 0) (by kernel_rfl) ?_)
    | (refine at_put rfl 36 _ _ rfl rfl w.heap.size rfl (FL.cs (FL.mk s d 2 0 0 0 0 0 hs hd tt pr 0 0 x)) rfl Ha rfl szF (cs_one _) ?_; rintro w8 g8; have H8 := g8.blk; have G8 := g8.but.blk Ga Ga.lt (show w.heap.size + 1 ≠ w.heap.size by omega); have b8 := g8.below ba (Nat.le_refl _); clear Ha Ga ba g8)
    | (refine at_put rfl 38 _ _ rfl rfl (w.heap.size + 1) rfl (flt 0 0) rfl G8 rfl szFt (flt_one _ _) ?_; rintro w9 g9; have G9 := g9.blk; have H9 := g9.but.blk H8 H8.lt (show w.heap.size ≠ w.heap.size + 1 by omega); have b9 := g9.below b8 (Nat.le_succ _); clear H8 G8 b8 g9))
  exact bodyPost_ret (results_rows (by rfl) _ _ w.heap.size (w.heap.size + 1) _ _ (FL.cs (FL.mk s d 2 0 0 0 0 0 hs hd tt pr 0 0 x)).toArray (flt 0 0).toArray _ _ _ _ rfl H9 Try.underlying36 rfl szF rfl G9 Try.underlying38 rfl szFt) rfl ⟨rfl, b9⟩
end Go.Proofs.Ytgpjelcihmbiiaa
