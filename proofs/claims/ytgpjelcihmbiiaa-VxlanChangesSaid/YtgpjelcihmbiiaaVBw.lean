/- VxlanBack: the law is walked. No condition. -/
import Derived.Test.YtgpjelcihmbiiaaVMt
import Derived.Test.YtgpjelcihmbiiaaPLv
namespace Go.Proofs.Ytgpjelcihmbiiaa
open Go.RowKit
set_option linter.unusedVariables false
set_option linter.unusedSimpArgs false
set_option maxRecDepth 100000

theorem neqT (e a e' a' : Int) (w : World) : (binOp .neq 38 (.agg (flt e a).toArray) (.agg (flt e' a').toArray)).run Try.prog w = .ok (.bool (!((e == e') && (a == a')))) w := by
  have h2 : Sem.run Try.prog (Op.equal 38 (.agg (flt e a).toArray) (.agg (flt e' a').toArray)) w = .ok ((e == e') && (a == a')) w := eqT 9998 e a e' a' w
  simp [binOp, h2]
theorem peqb_refl (p : PL) : p.eqb p = true := (peqb_iff p p).2 rfl
set_option maxHeartbeats 4000000 in
theorem vback_nn (p : PL) (hp : p.Ok) (hc : p.chk ≠ 0) (xs : List Int) (ho : Oct xs) (hl : xs.length ≤ 300) (hb : ¬ Pack xs) (v : Value) (w : World) (hv : Seg w v xs) : Calls Try.prog 12 #[p.v, v] w fun r w' => r = .returned (.bool true) ∧ Below w.heap.size w w' := by
  have HV := Lib.hid hv
  have hl' : ¬ (300 : Int) < xs.length := by omega
  have hC := fun w => vcheck_is p w
  have hR := fun v w h => vread_is xs ho (by omega) v w h
  unfold VReads at hR
  have hB := fun w => vbytes_bad p hc w
  have A : (p.chk != 0) = true := by simpa using hc
  have A2 : (p.chk == 0) = false := by simpa using hc
  generalize p.chk = y at *
  obtain ⟨y1, y2, y4, y5⟩ := vread_bad hb
  rw [y1] at hR
  have E1 : (vE xs != 0) = true := by simpa using y2
  have hEP : ∀ w, (binOp .eql 55 (.agg P0.cs.toArray) (.agg P0.cs.toArray)).run Try.prog w = .ok (.bool true) w := fun w => by
    have := eqlP P0 P0 w
    rw [peqb_refl] at this
    exact this
  generalize vE xs = E at *
  generalize vA xs = a at *
  clear y1 y2
  unfold PL.v at hR
  unfold PL.v at hC hB ⊢
  obtain ⟨va, vc, rfl, -⟩ := id hv
  clear hv ho hl hb hp hc
  go_enter Try.func12, Try.ntmps12
  go_wp2_with (first
    | (refine at_box rfl 55 _ rfl (PL.cs p) rfl ?_; rintro w1 H1 k1 s1)
    | (go_at_call 28; refine (vlives_is w1).mono ?_; rintro e w2 ⟨rfl, k2⟩; have b2 := k1.trans (k2.mono k1.size); have H2 := H1.below k2 H1.lt; clear k1 k2 H1)
    | (refine at_mid rfl 55 _ rfl w.heap.size 0 rfl H2 (PL.cs p) rfl _ Try.underlying55 rfl szP ?_))
  go_at_call 30
  refine (hB w2).mono ?_
  rintro r w3 ⟨rfl, k3⟩
  have b3 := b2.trans (k3.mono b2.size)
  have H3 := H2.below k3 H2.lt
  clear b2 H2 k3 hB
  go_wp2_with (refine at_mid rfl 55 _ rfl w.heap.size 0 rfl H3 (PL.cs p) rfl _ Try.underlying55 rfl szP ?_)
  go_at_call 32
  refine (hC w3).mono ?_
  rintro r w4 ⟨rfl, k4⟩
  have b4 := b3.trans (k4.mono b3.size)
  have H4 := H3.below k4 H3.lt
  clear b3 H3 k4 hC
  go_wp2_with fail
  go_at_call 29
  refine (hR _ w4 (HV.out.below b4)).mono ?_
  rintro r w5 ⟨rfl, k5⟩
  have b5 := b4.trans (k5.mono b4.size)
  clear b4 H4 k5 hR
  go_wp2_with (first
    | (refine at_new rfl 55 P0.cs rfl run_newPk ?_; rintro w6 U6 k6 s6; have FB5 := b5.size; have b6 := b5.trans (k6.mono b5.size); clear k6 b5; try go_simp)
    | (refine at_new rfl 38 FZ rfl run_newFt ?_; rintro w7 V7 k7 s7; rw [s6] at V7; have U7 := U6.below k7 U6.lt; have b7 := b6.trans (k7.mono b6.size); have S7 := Lib.hid s7; clear k7 b6 U6  s7; try go_simp)
    | (refine at_put rfl 55 _ _ rfl rfl w5.heap.size rfl (PL.cs P0) rfl U7 rfl szP (pcs_one _) ?_; rintro w8 g8; have U8 := g8.blk; have V8 := g8.but.blk V7 V7.lt (show w5.heap.size + 1 ≠ w5.heap.size by omega); have b8 := g8.below b7 FB5; clear g8 U7 V7  b7)
    | (refine at_put rfl 38 _ _ rfl rfl (w5.heap.size + 1) rfl (flt E a) rfl V8 rfl szFt (flt_one _ _) ?_; rintro w9 g9; have V9 := g9.blk; have U9 := g9.but.blk U8 U8.lt (show w5.heap.size ≠ w5.heap.size + 1 by omega); have b9 := g9.below b8 (Nat.le_succ_of_le FB5); have c0 := V9.cell 0 (v := .int .i64 E) rfl; have c1 := V9.cell 1 (v := .int .i64 a) rfl; clear g9 U8 V8  b8)
    | (refine at_mid (by kernel_rfl) 55 _ rfl (w5.heap.size) 0 rfl U9 (PL.cs P0) rfl _ Try.underlying55 rfl szP ?_)
    | (refine at_bld rfl 55 _ rfl P0.cs (by kernel_rfl) ?_)
    | (refine at_cmp (by kernel_rfl) .eql 55 _ _ rfl (.agg (P0.cs).toArray) (.agg (P0.cs).toArray) rfl rfl true (by kernel_rfl) (hEP _) ?_))
  go_ret
  exact ⟨rfl, b9⟩
set_option maxHeartbeats 4000000 in
theorem vback_ny (p : PL) (hp : p.Ok) (hc : p.chk ≠ 0) (xs : List Int) (ho : Oct xs) (hl : xs.length ≤ 300) (hb : Pack xs) (v : Value) (w : World) (hv : Seg w v xs) : Calls Try.prog 12 #[p.v, v] w fun r w' => r = .returned (.bool true) ∧ Below w.heap.size w w' := by
  have HV := Lib.hid hv
  have hl' : ¬ (300 : Int) < xs.length := by omega
  have hC := fun w => vcheck_is p w
  have hR := fun v w h => vread_is xs ho (by omega) v w h
  unfold VReads at hR
  have hB := fun w => vbytes_bad p hc w
  have A : (p.chk != 0) = true := by simpa using hc
  have A2 : (p.chk == 0) = false := by simpa using hc
  generalize p.chk = y at *
  obtain ⟨y1, y2, y3⟩ := pack_short hb
  rw [y1, y2, y3] at hR
  have hB2 := fun w => vbytes_ok (vP xs) (vP_ok ho (hfE_zero hb.1).1) hb.2.2.1 w
  rw [hb.2.2.2] at hB2
  have h36 := (hfE_zero hb.1).1
  have HX0 : Hid (xs ≠ []) := Lib.hid (fun q => by rw [q] at h36; exact absurd h36 (by decide))
  generalize vP xs = Q at *
  clear h36 y1 y2 y3
  unfold PL.v at hR hB2
  unfold PL.v at hC hB ⊢
  obtain ⟨va, vc, rfl, -⟩ := id hv
  clear hv ho hl hb hp hc
  go_enter Try.func12, Try.ntmps12
  go_wp2_with (first
    | (refine at_box rfl 55 _ rfl (PL.cs p) rfl ?_; rintro w1 H1 k1 s1)
    | (go_at_call 28; refine (vlives_is w1).mono ?_; rintro e w2 ⟨rfl, k2⟩; have b2 := k1.trans (k2.mono k1.size); have H2 := H1.below k2 H1.lt; clear k1 k2 H1)
    | (refine at_mid rfl 55 _ rfl w.heap.size 0 rfl H2 (PL.cs p) rfl _ Try.underlying55 rfl szP ?_))
  go_at_call 30
  refine (hB w2).mono ?_
  rintro r w3 ⟨rfl, k3⟩
  have b3 := b2.trans (k3.mono b2.size)
  have H3 := H2.below k3 H2.lt
  clear b2 H2 k3 hB
  go_wp2_with (refine at_mid rfl 55 _ rfl w.heap.size 0 rfl H3 (PL.cs p) rfl _ Try.underlying55 rfl szP ?_)
  go_at_call 32
  refine (hC w3).mono ?_
  rintro r w4 ⟨rfl, k4⟩
  have b4 := b3.trans (k4.mono b3.size)
  have H4 := H3.below k4 H3.lt
  clear b3 H3 k4 hC
  go_wp2_with fail
  go_at_call 29
  refine (hR _ w4 (HV.out.below b4)).mono ?_
  rintro r w5 ⟨rfl, k5⟩
  have b5 := b4.trans (k5.mono b4.size)
  clear b4 H4 k5 hR
  go_wp2_with (first
    | (refine at_new rfl 55 P0.cs rfl run_newPk ?_; rintro w6 U6 k6 s6; have FB5 := b5.size; have b6 := b5.trans (k6.mono b5.size); clear k6 b5; try go_simp)
    | (refine at_new rfl 38 FZ rfl run_newFt ?_; rintro w7 V7 k7 s7; rw [s6] at V7; have U7 := U6.below k7 U6.lt; have b7 := b6.trans (k7.mono b6.size); have S7 := Lib.hid s7; clear k7 b6 U6  s7; try go_simp)
    | (refine at_put rfl 55 _ _ rfl rfl w5.heap.size rfl (PL.cs Q) rfl U7 rfl szP (pcs_one _) ?_; rintro w8 g8; have U8 := g8.blk; have V8 := g8.but.blk V7 V7.lt (show w5.heap.size + 1 ≠ w5.heap.size by omega); have b8 := g8.below b7 FB5; clear g8 U7 V7  b7)
    | (refine at_put rfl 38 _ _ rfl rfl (w5.heap.size + 1) rfl (flt 0 0) rfl V8 rfl szFt (flt_one _ _) ?_; rintro w9 g9; have V9 := g9.blk; have U9 := g9.but.blk U8 U8.lt (show w5.heap.size ≠ w5.heap.size + 1 by omega); have b9 := g9.below b8 (Nat.le_succ_of_le FB5); have c0 := V9.cell 0 (v := .int .i64 0) rfl; have c1 := V9.cell 1 (v := .int .i64 0) rfl; clear g9 U8 V8  b8)
    | (refine at_mid (by kernel_rfl) 55 _ rfl (w5.heap.size) 0 rfl U9 (PL.cs Q) rfl _ Try.underlying55 rfl szP ?_))
  go_at_call 30
  refine (hB2 w9).mono ?_
  rintro r w10 ⟨x, rfl, dx, k10⟩
  have b10 := b9.trans (k10.mono b9.size)
  have hs1 := seg_string dx.dat.seg HX0.out
  have hs2 := seg_string (HV.out.below b10) HX0.out
  obtain ⟨xa, xc, rfl⟩ := dx.dat.shape
  generalize strOfNums xs = str at hs1 hs2
  clear dx k10 hB2 b9 U9 V9 c0 c1
  go_wp2
  go_ret
  exact ⟨rfl, b10⟩
set_option maxHeartbeats 4000000 in
theorem vback_yn (p : PL) (hp : p.Ok) (hc : p.chk = 0) (xs : List Int) (ho : Oct xs) (hl : xs.length ≤ 300) (hb : ¬ Pack xs) (v : Value) (w : World) (hv : Seg w v xs) : Calls Try.prog 12 #[p.v, v] w fun r w' => r = .returned (.bool true) ∧ Below w.heap.size w w' := by
  have HV := Lib.hid hv
  have hl' : ¬ (300 : Int) < xs.length := by omega
  have hC := fun w => vcheck_is p w
  have hR := fun v w h => vread_is xs ho (by omega) v w h
  unfold VReads at hR
  have hB := fun w => vbytes_ok p hp hc w
  rw [hc] at hC
  have hR0 := fun v w h => vread_is p.enc (penc_oct p) (by rw [penc_length]; have := enc_short hp.f (pchk_zero hc).2; omega) v w h
  unfold VReads at hR0
  obtain ⟨z1, z2, z3⟩ := vread_enc hp hc
  rw [z1, z2, z3] at hR0
  have hNP : ∀ w, (binOp .neq 55 (.agg p.cs.toArray) (.agg p.cs.toArray)).run Try.prog w = .ok (.bool false) w := fun w => by
    have := neqP p p w
    rw [peqb_refl] at this
    exact this
  generalize p.enc = ps at *
  obtain ⟨y1, y2, y4, y5⟩ := vread_bad hb
  rw [y1] at hR
  have E1 : (vE xs != 0) = true := by simpa using y2
  have hEP : ∀ w, (binOp .eql 55 (.agg P0.cs.toArray) (.agg P0.cs.toArray)).run Try.prog w = .ok (.bool true) w := fun w => by
    have := eqlP P0 P0 w
    rw [peqb_refl] at this
    exact this
  generalize vE xs = E at *
  generalize vA xs = a at *
  clear y1 y2
  unfold PL.v at hR
  unfold PL.v at hC hB hR0 ⊢
  obtain ⟨va, vc, rfl, -⟩ := id hv
  clear hv ho hl hb hp z1 z2 z3 hc
  go_enter Try.func12, Try.ntmps12
  go_wp2_with (first
    | (refine at_box rfl 55 _ rfl (PL.cs p) rfl ?_; rintro w1 H1 k1 s1)
    | (go_at_call 28; refine (vlives_is w1).mono ?_; rintro e w2 ⟨rfl, k2⟩; have b2 := k1.trans (k2.mono k1.size); have H2 := H1.below k2 H1.lt; clear k1 k2 H1)
    | (refine at_mid rfl 55 _ rfl w.heap.size 0 rfl H2 (PL.cs p) rfl _ Try.underlying55 rfl szP ?_))
  go_at_call 30
  refine (hB w2).mono ?_
  rintro r w3 ⟨u, rfl, d3, k3⟩
  obtain ⟨ua, uc, rfl⟩ := d3.dat.shape
  have b3 := b2.trans (k3.mono b2.size)
  have H3 := H2.below k3 H2.lt
  clear b2 H2 k3 hB
  go_wp2_with (refine at_mid rfl 55 _ rfl w.heap.size 0 rfl H3 (PL.cs p) rfl _ Try.underlying55 rfl szP ?_)
  go_at_call 32
  refine (hC w3).mono ?_
  rintro r w4 ⟨rfl, k4⟩
  have b4 := b3.trans (k4.mono b3.size)
  have H4 := H3.below k4 H3.lt
  have d4 := d3.dat.seg.below k4
  clear b3 H3 k4 hC d3
  go_wp2_with fail
  go_at_call 29
  refine (hR0 _ w4 d4).mono ?_
  rintro r w5 ⟨rfl, k5⟩
  have b5 := b4.trans (k5.mono b4.size)
  have H5 := H4.below k5 H4.lt
  clear b4 H4 k5 hR0 d4
  go_wp2_with (first
    | (refine at_new rfl 55 P0.cs rfl run_newPk ?_; rintro w6 X6 k6 s6; have lH5 := H5.lt; have FB5 := b5.size; have b6 := b5.trans (k6.mono b5.size); have H6 := H5.below k6 H5.lt; clear k6 b5 H5; try go_simp)
    | (refine at_new rfl 38 FZ rfl run_newFt ?_; rintro w7 Y7 k7 s7; rw [s6] at Y7; have X7 := X6.below k7 X6.lt; have b7 := b6.trans (k7.mono b6.size); have H7 := H6.below k7 H6.lt; have S7 := Lib.hid s7; clear k7 b6 X6 H6 s7; try go_simp)
    | (refine at_put rfl 55 _ _ rfl rfl w5.heap.size rfl (PL.cs p) rfl X7 rfl szP (pcs_one _) ?_; rintro w8 g8; have X8 := g8.blk; have Y8 := g8.but.blk Y7 Y7.lt (show w5.heap.size + 1 ≠ w5.heap.size by omega); have b8 := g8.below b7 FB5; have H8 := g8.but.blk H7 H7.lt (show w.heap.size ≠ w5.heap.size by omega); clear g8 X7 Y7 H7 b7)
    | (refine at_put rfl 38 _ _ rfl rfl (w5.heap.size + 1) rfl (flt 0 0) rfl Y8 rfl szFt (flt_one _ _) ?_; rintro w9 g9; have Y9 := g9.blk; have X9 := g9.but.blk X8 X8.lt (show w5.heap.size ≠ w5.heap.size + 1 by omega); have b9 := g9.below b8 (Nat.le_succ_of_le FB5); have H9 := g9.but.blk H8 H8.lt (show w.heap.size ≠ w5.heap.size + 1 by omega); clear g9 X8 Y8 H8 b8)
    | (refine at_mid (by kernel_rfl) 38 _ rfl (w5.heap.size + 1) 0 rfl Y9 (flt 0 0) rfl _ Try.underlying38 rfl szFt ?_)
    | (refine at_mid (by kernel_rfl) 55 _ rfl (w5.heap.size) 0 rfl X9 (PL.cs p) rfl _ Try.underlying55 rfl szP ?_)
    | (refine at_mid (by kernel_rfl) 55 _ rfl (w.heap.size) 0 rfl H9 (PL.cs p) rfl _ Try.underlying55 rfl szP ?_)
    | (refine at_bld rfl 38 _ rfl (flt 0 0) (by kernel_rfl) ?_)
    | (refine at_cmp (by kernel_rfl) .neq 38 _ _ rfl (.agg (flt 0 0).toArray) (.agg (flt 0 0).toArray) rfl rfl false (by kernel_rfl) (neqT 0 0 0 0 _) ?_)
    | (refine at_cmp (by kernel_rfl) .neq 55 _ _ rfl (.agg (p.cs).toArray) (.agg (p.cs).toArray) rfl rfl false (by kernel_rfl) (hNP _) ?_))
  go_at_call 29
  refine (hR _ w9 (HV.out.below b9)).mono ?_
  rintro r w10 ⟨rfl, k10⟩
  have b10 := b9.trans (k10.mono b9.size)
  clear b9 H9 k10 hR X9 Y9
  go_wp2_with (first
    | (refine at_new rfl 55 P0.cs rfl run_newPk ?_; rintro w11 U11 k11 s11; have FB10 := b10.size; have b11 := b10.trans (k11.mono b10.size); clear k11 b10; try go_simp)
    | (refine at_new rfl 38 FZ rfl run_newFt ?_; rintro w12 V12 k12 s12; rw [s11] at V12; have U12 := U11.below k12 U11.lt; have b12 := b11.trans (k12.mono b11.size); have S12 := Lib.hid s12; clear k12 b11 U11  s12; try go_simp)
    | (refine at_put rfl 55 _ _ rfl rfl w10.heap.size rfl (PL.cs P0) rfl U12 rfl szP (pcs_one _) ?_; rintro w13 g13; have U13 := g13.blk; have V13 := g13.but.blk V12 V12.lt (show w10.heap.size + 1 ≠ w10.heap.size by omega); have b13 := g13.below b12 FB10; clear g13 U12 V12  b12)
    | (refine at_put rfl 38 _ _ rfl rfl (w10.heap.size + 1) rfl (flt E a) rfl V13 rfl szFt (flt_one _ _) ?_; rintro w14 g14; have V14 := g14.blk; have U14 := g14.but.blk U13 U13.lt (show w10.heap.size ≠ w10.heap.size + 1 by omega); have b14 := g14.below b13 (Nat.le_succ_of_le FB10); have c0 := V14.cell 0 (v := .int .i64 E) rfl; have c1 := V14.cell 1 (v := .int .i64 a) rfl; clear g14 U13 V13  b13)
    | (refine at_mid (by kernel_rfl) 55 _ rfl (w10.heap.size) 0 rfl U14 (PL.cs P0) rfl _ Try.underlying55 rfl szP ?_)
    | (refine at_bld rfl 55 _ rfl P0.cs (by kernel_rfl) ?_)
    | (refine at_cmp (by kernel_rfl) .eql 55 _ _ rfl (.agg (P0.cs).toArray) (.agg (P0.cs).toArray) rfl rfl true (by kernel_rfl) (hEP _) ?_))
  go_ret
  exact ⟨rfl, b14⟩
set_option maxHeartbeats 4000000 in
theorem vback_yy (p : PL) (hp : p.Ok) (hc : p.chk = 0) (xs : List Int) (ho : Oct xs) (hl : xs.length ≤ 300) (hb : Pack xs) (v : Value) (w : World) (hv : Seg w v xs) : Calls Try.prog 12 #[p.v, v] w fun r w' => r = .returned (.bool true) ∧ Below w.heap.size w w' := by
  have HV := Lib.hid hv
  have hl' : ¬ (300 : Int) < xs.length := by omega
  have hC := fun w => vcheck_is p w
  have hR := fun v w h => vread_is xs ho (by omega) v w h
  unfold VReads at hR
  have hB := fun w => vbytes_ok p hp hc w
  rw [hc] at hC
  have hR0 := fun v w h => vread_is p.enc (penc_oct p) (by rw [penc_length]; have := enc_short hp.f (pchk_zero hc).2; omega) v w h
  unfold VReads at hR0
  obtain ⟨z1, z2, z3⟩ := vread_enc hp hc
  rw [z1, z2, z3] at hR0
  have hNP : ∀ w, (binOp .neq 55 (.agg p.cs.toArray) (.agg p.cs.toArray)).run Try.prog w = .ok (.bool false) w := fun w => by
    have := neqP p p w
    rw [peqb_refl] at this
    exact this
  generalize p.enc = ps at *
  obtain ⟨y1, y2, y3⟩ := pack_short hb
  rw [y1, y2, y3] at hR
  have hB2 := fun w => vbytes_ok (vP xs) (vP_ok ho (hfE_zero hb.1).1) hb.2.2.1 w
  rw [hb.2.2.2] at hB2
  have h36 := (hfE_zero hb.1).1
  have HX0 : Hid (xs ≠ []) := Lib.hid (fun q => by rw [q] at h36; exact absurd h36 (by decide))
  generalize vP xs = Q at *
  clear h36 y1 y2 y3
  unfold PL.v at hR hB2
  unfold PL.v at hC hB hR0 ⊢
  obtain ⟨va, vc, rfl, -⟩ := id hv
  clear hv ho hl hb hp z1 z2 z3 hc
  go_enter Try.func12, Try.ntmps12
  go_wp2_with (first
    | (refine at_box rfl 55 _ rfl (PL.cs p) rfl ?_; rintro w1 H1 k1 s1)
    | (go_at_call 28; refine (vlives_is w1).mono ?_; rintro e w2 ⟨rfl, k2⟩; have b2 := k1.trans (k2.mono k1.size); have H2 := H1.below k2 H1.lt; clear k1 k2 H1)
    | (refine at_mid rfl 55 _ rfl w.heap.size 0 rfl H2 (PL.cs p) rfl _ Try.underlying55 rfl szP ?_))
  go_at_call 30
  refine (hB w2).mono ?_
  rintro r w3 ⟨u, rfl, d3, k3⟩
  obtain ⟨ua, uc, rfl⟩ := d3.dat.shape
  have b3 := b2.trans (k3.mono b2.size)
  have H3 := H2.below k3 H2.lt
  clear b2 H2 k3 hB
  go_wp2_with (refine at_mid rfl 55 _ rfl w.heap.size 0 rfl H3 (PL.cs p) rfl _ Try.underlying55 rfl szP ?_)
  go_at_call 32
  refine (hC w3).mono ?_
  rintro r w4 ⟨rfl, k4⟩
  have b4 := b3.trans (k4.mono b3.size)
  have H4 := H3.below k4 H3.lt
  have d4 := d3.dat.seg.below k4
  clear b3 H3 k4 hC d3
  go_wp2_with fail
  go_at_call 29
  refine (hR0 _ w4 d4).mono ?_
  rintro r w5 ⟨rfl, k5⟩
  have b5 := b4.trans (k5.mono b4.size)
  have H5 := H4.below k5 H4.lt
  clear b4 H4 k5 hR0 d4
  go_wp2_with (first
    | (refine at_new rfl 55 P0.cs rfl run_newPk ?_; rintro w6 X6 k6 s6; have lH5 := H5.lt; have FB5 := b5.size; have b6 := b5.trans (k6.mono b5.size); have H6 := H5.below k6 H5.lt; clear k6 b5 H5; try go_simp)
    | (refine at_new rfl 38 FZ rfl run_newFt ?_; rintro w7 Y7 k7 s7; rw [s6] at Y7; have X7 := X6.below k7 X6.lt; have b7 := b6.trans (k7.mono b6.size); have H7 := H6.below k7 H6.lt; have S7 := Lib.hid s7; clear k7 b6 X6 H6 s7; try go_simp)
    | (refine at_put rfl 55 _ _ rfl rfl w5.heap.size rfl (PL.cs p) rfl X7 rfl szP (pcs_one _) ?_; rintro w8 g8; have X8 := g8.blk; have Y8 := g8.but.blk Y7 Y7.lt (show w5.heap.size + 1 ≠ w5.heap.size by omega); have b8 := g8.below b7 FB5; have H8 := g8.but.blk H7 H7.lt (show w.heap.size ≠ w5.heap.size by omega); clear g8 X7 Y7 H7 b7)
    | (refine at_put rfl 38 _ _ rfl rfl (w5.heap.size + 1) rfl (flt 0 0) rfl Y8 rfl szFt (flt_one _ _) ?_; rintro w9 g9; have Y9 := g9.blk; have X9 := g9.but.blk X8 X8.lt (show w5.heap.size ≠ w5.heap.size + 1 by omega); have b9 := g9.below b8 (Nat.le_succ_of_le FB5); have H9 := g9.but.blk H8 H8.lt (show w.heap.size ≠ w5.heap.size + 1 by omega); clear g9 X8 Y8 H8 b8)
    | (refine at_mid (by kernel_rfl) 38 _ rfl (w5.heap.size + 1) 0 rfl Y9 (flt 0 0) rfl _ Try.underlying38 rfl szFt ?_)
    | (refine at_mid (by kernel_rfl) 55 _ rfl (w5.heap.size) 0 rfl X9 (PL.cs p) rfl _ Try.underlying55 rfl szP ?_)
    | (refine at_mid (by kernel_rfl) 55 _ rfl (w.heap.size) 0 rfl H9 (PL.cs p) rfl _ Try.underlying55 rfl szP ?_)
    | (refine at_bld rfl 38 _ rfl (flt 0 0) (by kernel_rfl) ?_)
    | (refine at_cmp (by kernel_rfl) .neq 38 _ _ rfl (.agg (flt 0 0).toArray) (.agg (flt 0 0).toArray) rfl rfl false (by kernel_rfl) (neqT 0 0 0 0 _) ?_)
    | (refine at_cmp (by kernel_rfl) .neq 55 _ _ rfl (.agg (p.cs).toArray) (.agg (p.cs).toArray) rfl rfl false (by kernel_rfl) (hNP _) ?_))
  go_at_call 29
  refine (hR _ w9 (HV.out.below b9)).mono ?_
  rintro r w10 ⟨rfl, k10⟩
  have b10 := b9.trans (k10.mono b9.size)
  clear b9 H9 k10 hR X9 Y9
  go_wp2_with (first
    | (refine at_new rfl 55 P0.cs rfl run_newPk ?_; rintro w11 U11 k11 s11; have FB10 := b10.size; have b11 := b10.trans (k11.mono b10.size); clear k11 b10; try go_simp)
    | (refine at_new rfl 38 FZ rfl run_newFt ?_; rintro w12 V12 k12 s12; rw [s11] at V12; have U12 := U11.below k12 U11.lt; have b12 := b11.trans (k12.mono b11.size); have S12 := Lib.hid s12; clear k12 b11 U11  s12; try go_simp)
    | (refine at_put rfl 55 _ _ rfl rfl w10.heap.size rfl (PL.cs Q) rfl U12 rfl szP (pcs_one _) ?_; rintro w13 g13; have U13 := g13.blk; have V13 := g13.but.blk V12 V12.lt (show w10.heap.size + 1 ≠ w10.heap.size by omega); have b13 := g13.below b12 FB10; clear g13 U12 V12  b12)
    | (refine at_put rfl 38 _ _ rfl rfl (w10.heap.size + 1) rfl (flt 0 0) rfl V13 rfl szFt (flt_one _ _) ?_; rintro w14 g14; have V14 := g14.blk; have U14 := g14.but.blk U13 U13.lt (show w10.heap.size ≠ w10.heap.size + 1 by omega); have b14 := g14.below b13 (Nat.le_succ_of_le FB10); have c0 := V14.cell 0 (v := .int .i64 0) rfl; have c1 := V14.cell 1 (v := .int .i64 0) rfl; clear g14 U13 V13  b13)
    | (refine at_mid (by kernel_rfl) 55 _ rfl (w10.heap.size) 0 rfl U14 (PL.cs Q) rfl _ Try.underlying55 rfl szP ?_))
  go_at_call 30
  refine (hB2 w14).mono ?_
  rintro r w15 ⟨x, rfl, dx, k15⟩
  have b15 := b14.trans (k15.mono b14.size)
  have hs1 := seg_string dx.dat.seg HX0.out
  have hs2 := seg_string (HV.out.below b15) HX0.out
  obtain ⟨xa, xc, rfl⟩ := dx.dat.shape
  generalize strOfNums xs = str at hs1 hs2
  clear dx k15 hB2 b14 U14 V14 c0 c1
  go_wp2
  go_ret
  exact ⟨rfl, b15⟩
theorem vback_long (p : PL) (xs : List Int) (hl : 300 < xs.length) (v : Value) (w : World) (hv : Seg w v xs) : Calls Try.prog 12 #[p.v, v] w fun r w' => r = .returned (.bool true) ∧ Below w.heap.size w w' := by
  have hl' : (300 : Int) < xs.length := by omega
  obtain ⟨va, vc, rfl, -⟩ := id hv
  clear hv
  unfold PL.v
  go_enter Try.func12, Try.ntmps12
  go_wp2_with (first
    | (refine at_box rfl 55 _ rfl (PL.cs p) rfl ?_; rintro w1 H1 k1 s1)
    | (go_at_call 28; refine (vlives_is w1).mono ?_; rintro e w2 ⟨rfl, k2⟩; have b2 := k1.trans (k2.mono k1.size); clear k1 k2 H1))
  go_ret
  exact ⟨rfl, b2⟩
theorem vback_is (p : PL) (hp : p.Ok) (xs : List Int) (ho : Oct xs) (v : Value) (w : World) (hv : Seg w v xs) : Calls Try.prog 12 #[p.v, v] w fun r w' => r = .returned (.bool true) ∧ Below w.heap.size w w' := by
  rcases Nat.lt_or_ge 300 xs.length with hl | hl
  · exact vback_long p xs hl v w hv
  by_cases hc : p.chk = 0
  · by_cases hb : Pack xs
    · exact vback_yy p hp hc xs ho hl hb v w hv
    · exact vback_yn p hp hc xs ho hl hb v w hv
  · by_cases hb : Pack xs
    · exact vback_ny p hp hc xs ho hl hb v w hv
    · exact vback_nn p hp hc xs ho hl hb v w hv
end Go.Proofs.Ytgpjelcihmbiiaa
