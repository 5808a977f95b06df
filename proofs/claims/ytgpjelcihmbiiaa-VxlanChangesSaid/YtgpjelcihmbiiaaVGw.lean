/- VxlanChanges: the law is walked. No condition. -/
import Derived.Test.YtgpjelcihmbiiaaVGm
import Derived.Test.YtgpjelcihmbiiaaVBw
namespace Go.Proofs.Ytgpjelcihmbiiaa
open Go.RowKit
set_option linter.unusedVariables false
set_option linter.unusedSimpArgs false
set_option maxRecDepth 100000

theorem vch_bad (p : PL) (hc : p.chk ≠ 0) (at_ y : Int) (w : World) : Calls Try.prog 14 #[p.v, .int .i64 at_, .int .u8 y] w fun r w' => r = .returned (.bool true) ∧ Below w.heap.size w w' := by
  have hB := fun w => vbytes_bad p hc w
  have A : (p.chk != 0) = true := by simpa using hc
  generalize p.chk = e at *
  clear hc
  unfold PL.v at hB ⊢
  go_enter Try.func14, Try.ntmps14
  go_wp2_with (first
    | (refine at_box rfl 55 _ rfl (PL.cs p) rfl ?_; rintro w1 H1 k1 s1)
    | (go_at_call 28; refine (vlives_is w1).mono ?_; rintro e w2 ⟨rfl, k2⟩; have b2 := k1.trans (k2.mono k1.size); have H2 := H1.below k2 H1.lt; clear k1 k2 H1)
    | (refine at_mid rfl 55 _ rfl w.heap.size 0 rfl H2 (PL.cs p) rfl _ Try.underlying55 rfl szP ?_)
    | (go_at_call 30; refine (hB w2).mono ?_; rintro e w3 ⟨rfl, k3⟩; have b3 := b2.trans (k3.mono b2.size); clear k3 b2 H2 hB))
  go_ret
  exact ⟨rfl, b3⟩
theorem at_bldG {ops : Array Oper} {rest : List Oper} {o : Oper} {a : Act} {w : World} {Q : Exit → Act → World → Prop} (hw : Region.wanted o (yielded ops a.tmps) = true) (ty : TypeId) (parts : Array (Nat × Operand)) (ho : o.op = .build ty parts) (cs : List Value)
    (hb : Try.prog.built ty (parts.map fun (i, x) => (i, a.eval x)).toList = some cs.toArray) (h : wpList Try.prog ops Q rest (a.put o.dst (.agg cs.toArray)) w) : wpList Try.prog ops Q (o :: rest) a w :=
  wpList_wanted hw fun _ hK => wp_build ty parts ho (by rw [hb]; rfl) (by rw [hb]; exact hK _ _ h)
set_option maxHeartbeats 4000000 in
theorem vch_same (p : PL) (hp : p.Ok) (hc : p.chk = 0) (at_ y : Int) (ha : -9223372036854775808 ≤ at_ ∧ at_ ≤ 9223372036854775807) (hy : 0 ≤ y ∧ y < 256) (hq : y = p.enc.getD (pk at_ 36) 0) (w : World) : Calls Try.prog 14 #[p.v, .int .i64 at_, .int .u8 y] w fun r w' => r = .returned (.bool true) ∧ Below w.heap.size w w' := by
  have hB := fun w => vbytes_ok p hp hc w
  have hP := fun w => pick_eq at_ 36 (by decide) (by decide) ha w
  have hi36 := pk_lt at_ 36 (by decide)
  have hel := penc_length p
  have hes := enc_short hp.f (pchk_zero hc).2
  have hRd := fun v w h => vread_is (p.enc.set (pk at_ 36) y) (oct_set (penc_oct p) _ _ hy) (by rw [List.length_set]; omega) v w h
  unfold VReads at hRd
  have hse := set_same p.enc (pk at_ 36) y (by omega) hq
  obtain ⟨z1, z2, z3⟩ := vread_enc hp hc
  rw [show vQ (p.enc.set (pk at_ 36) y) = p by rw [hse]; exact z1, show vE (p.enc.set (pk at_ 36) y) = 0 by rw [hse]; exact z2, show vA (p.enc.set (pk at_ 36) y) = 0 by rw [hse]; exact z3] at hRd
  clear hse
  have hEP : ∀ w, (binOp .eql 55 (.agg p.cs.toArray) (.agg p.cs.toArray)).run Try.prog w = .ok (.bool true) w := fun w => by
    have := eqlP p p w
    rw [peqb_refl] at this
    exact this
  clear z1 z2 z3
  have hqb : (y == p.enc.getD (pk at_ 36) 0) = true := by simpa using hq
  have HRD := Lib.hid hRd
  have ho := (penc_oct p).getD (pk at_ 36)
  have hl36 : ¬ (p.enc.length : Int) < 36 := by omega
  have hil : ((pk at_ 36 : Nat) : Int) < p.enc.length := by omega
  have hl1 : 0 < p.enc.length := by omega
  clear hc hp hel hes ha hRd hq
  unfold PL.v at hB ⊢
  generalize pk at_ 36 = i at *
  generalize hxs : p.enc = xs at *
  clear hxs
  obtain ⟨u, hu⟩ : ∃ u, xs.getD i 0 = u := ⟨_, rfl⟩
  rw [hu] at hqb ho
  have HU := Lib.hid hu
  clear hu
  go_enter Try.func14, Try.ntmps14
  go_wp2_with (first
    | (refine at_box rfl 55 _ rfl (PL.cs p) rfl ?_; rintro w1 H1 k1 s1)
    | (go_at_call 28; refine (vlives_is w1).mono ?_; rintro e w2 ⟨rfl, k2⟩; have b2 := k1.trans (k2.mono k1.size); have H2 := H1.below k2 H1.lt; clear k1 k2 H1)
    | (refine at_mid rfl 55 _ rfl w.heap.size 0 rfl H2 (PL.cs p) rfl _ Try.underlying55 rfl szP ?_))
  go_at_call 30
  refine (hB w2).mono ?_
  rintro e w3 ⟨v, rfl, d3, k3⟩
  have b3 := b2.trans (k3.mono b2.size)
  have H3 := H2.below k3 H2.lt
  obtain ⟨g, cap, cs, rfl, hg0, f1, f2, f3, f4, f5⟩ := d3.form hl1
  have hg : w.heap.size ≤ g := Nat.le_trans b2.size hg0
  have hcq := f3.cell i (take_at f5 i (by omega))
  rw [HU.out] at hcq
  have hgn : w.heap.size ≠ g := H3.ne f3 (by decide)
  have F1 := Lib.hid f1; have F2 := Lib.hid f2; have F4 := Lib.hid f4; have F5 := Lib.hid f5
  have FC := Lib.hid (show i < cs.length by omega)
  clear k3 b2 H2 hB d3 f1 f2 f4 f5
  go_wp2_with (first
    | (go_at_call 27; refine (hP w3).mono ?_; rintro e w' ⟨rfl, hw⟩; obtain rfl := hw.symm; clear hP)
    | (refine at_set rfl 5 _ _ rfl rfl g i rfl 5 cs (cs.set i (.int .u8 y)) (.int .u8 y) rfl f3 rfl rfl rfl u8_one FC.out ?_; rintro w5 g5))
  have b5 := g5.below b3 hg
  have H5 := g5.but.blk H3 H3.lt hgn
  have D5 := dat_set F1.out F2.out F4.out F5.out i y g5.blk
  clear b3 g5 f3 hcq H3
  go_at_call 29
  refine (HRD.out _ w5 D5.seg).mono ?_
  rintro e w6 ⟨rfl, k6⟩
  have b6 := b5.trans (k6.mono b5.size)
  have H6 := H5.below k6 H5.lt
  clear k6 b5 H5 D5
  go_wp2_with (first
    | (refine at_new rfl 55 P0.cs rfl run_newPk ?_; rintro w7 X7 k7 s7; have lH6 := H6.lt; have FB6 := b6.size; have b7 := b6.trans (k7.mono b6.size); have H7 := H6.below k7 H6.lt; clear k7 b6 H6; try go_simp)
    | (refine at_new rfl 38 FZ rfl run_newFt ?_; rintro w8 Y8 k8 s8; rw [s7] at Y8; have X8 := X7.below k8 X7.lt; have b8 := b7.trans (k8.mono b7.size); have H8 := H7.below k8 H7.lt; have S8 := Lib.hid s8; clear k8 b7 X7 H7 s8; try go_simp)
    | (refine at_put rfl 55 _ _ rfl rfl w6.heap.size rfl (PL.cs p) rfl X8 rfl szP (pcs_one _) ?_; rintro w9 g9; have X9 := g9.blk; have Y9 := g9.but.blk Y8 Y8.lt (show w6.heap.size + 1 ≠ w6.heap.size by omega); have b9 := g9.below b8 FB6; have H9 := g9.but.blk H8 H8.lt (show w.heap.size ≠ w6.heap.size by omega); clear g9 X8 Y8 H8 b8)
    | (refine at_put rfl 38 _ _ rfl rfl (w6.heap.size + 1) rfl (flt 0 0) rfl Y9 rfl szFt (flt_one _ _) ?_; rintro w10 g10; have Y10 := g10.blk; have X10 := g10.but.blk X9 X9.lt (show w6.heap.size ≠ w6.heap.size + 1 by omega); have b10 := g10.below b9 (Nat.le_succ_of_le FB6); have H10 := g10.but.blk H9 H9.lt (show w.heap.size ≠ w6.heap.size + 1 by omega); have c0 := Y10.cell 0 (v := .int .i64 0) rfl; clear g10 X9 Y9 H9 b9)
    | (refine at_mid (by kernel_rfl) 38 _ rfl (w6.heap.size + 1) 0 rfl Y10 (flt 0 0) rfl _ Try.underlying38 rfl szFt ?_)
    | (refine at_mid (by kernel_rfl) 55 _ rfl (w6.heap.size) 0 rfl X10 (PL.cs p) rfl _ Try.underlying55 rfl szP ?_)
    | (refine at_mid (by kernel_rfl) 55 _ rfl (w.heap.size) 0 rfl H10 (PL.cs p) rfl _ Try.underlying55 rfl szP ?_)
    | (refine at_bld rfl 38 _ rfl (flt 0 0) (by kernel_rfl) ?_)
    | (refine at_cmp (by kernel_rfl) .eql 38 _ _ rfl (.agg (flt 0 0).toArray) (.agg (flt 0 0).toArray) rfl rfl true (by kernel_rfl) (eqlT 0 0 0 0 _) ?_)
    | (refine at_cmp (by kernel_rfl) .eql 55 _ _ rfl (.agg (p.cs).toArray) (.agg (p.cs).toArray) rfl rfl true (by kernel_rfl) (hEP _) ?_))
  go_ret
  exact ⟨rfl, b10⟩
set_option maxHeartbeats 4000000 in
theorem vch_fixA (p : PL) (hp : p.Ok) (hc : p.chk = 0) (at_ y : Int) (ha : -9223372036854775808 ≤ at_ ∧ at_ ≤ 9223372036854775807) (hy : 0 ≤ y ∧ y < 256) (hq : y ≠ p.enc.getD (pk at_ 36) 0) (hi : pk at_ 36 < 20) (w : World) : Calls Try.prog 14 #[p.v, .int .i64 at_, .int .u8 y] w fun r w' => r = .returned (.bool true) ∧ Below w.heap.size w w' := by
  have hB := fun w => vbytes_ok p hp hc w
  have hP := fun w => pick_eq at_ 36 (by decide) (by decide) ha w
  have hi36 := pk_lt at_ 36 (by decide)
  have hel := penc_length p
  have hes := enc_short hp.f (pchk_zero hc).2
  have hRd := fun v w h => vread_is (p.enc.set (pk at_ 36) y) (oct_set (penc_oct p) _ _ hy) (by rw [List.length_set]; omega) v w h
  unfold VReads at hRd
  obtain ⟨z1, z2, -, -⟩ := vread_bad (set_bad hp hc (pk at_ 36) (by omega) y hy hq)
  rw [z1] at hRd
  have E1 : (vE (p.enc.set (pk at_ 36) y) != 0) = true := by simpa using z2
  have hEP : ∀ w, (binOp .eql 55 (.agg P0.cs.toArray) (.agg P0.cs.toArray)).run Try.prog w = .ok (.bool true) w := fun w => by
    have := eqlP P0 P0 w
    rw [peqb_refl] at this
    exact this
  generalize vE (p.enc.set (pk at_ 36) y) = E at *
  generalize vA (p.enc.set (pk at_ 36) y) = a at *
  clear z1 z2
  have hqb : (y == p.enc.getD (pk at_ 36) 0) = false := by simpa using hq
  have HRD := Lib.hid hRd
  have ho := (penc_oct p).getD (pk at_ 36)
  have B20 : decide (((pk at_ 36 : Nat) : Int) < 20) = true := by simp; omega
  have B21 : decide ((21 : Int) < ((pk at_ 36 : Nat) : Int)) = false := by simp; omega
  have B29 : decide (((pk at_ 36 : Nat) : Int) < 29) = true := by simp; omega
  have B35 : ((((pk at_ 36 : Nat) : Int)) == 35) = false := by simp; omega
  have hl36 : ¬ (p.enc.length : Int) < 36 := by omega
  have hil : ((pk at_ 36 : Nat) : Int) < p.enc.length := by omega
  have hl1 : 0 < p.enc.length := by omega
  clear hc hp hel hes ha hRd hq hi
  unfold PL.v at hB ⊢
  generalize pk at_ 36 = i at *
  generalize hxs : p.enc = xs at *
  clear hxs
  obtain ⟨u, hu⟩ : ∃ u, xs.getD i 0 = u := ⟨_, rfl⟩
  rw [hu] at hqb ho
  have HU := Lib.hid hu
  clear hu
  go_enter Try.func14, Try.ntmps14
  go_wp2_with (first
    | (refine at_box rfl 55 _ rfl (PL.cs p) rfl ?_; rintro w1 H1 k1 s1)
    | (go_at_call 28; refine (vlives_is w1).mono ?_; rintro e w2 ⟨rfl, k2⟩; have b2 := k1.trans (k2.mono k1.size); have H2 := H1.below k2 H1.lt; clear k1 k2 H1)
    | (refine at_mid rfl 55 _ rfl w.heap.size 0 rfl H2 (PL.cs p) rfl _ Try.underlying55 rfl szP ?_))
  go_at_call 30
  refine (hB w2).mono ?_
  rintro e w3 ⟨v, rfl, d3, k3⟩
  have b3 := b2.trans (k3.mono b2.size)
  have H3 := H2.below k3 H2.lt
  obtain ⟨g, cap, cs, rfl, hg0, f1, f2, f3, f4, f5⟩ := d3.form hl1
  have hg : w.heap.size ≤ g := Nat.le_trans b2.size hg0
  have hcq := f3.cell i (take_at f5 i (by omega))
  rw [HU.out] at hcq
  have hgn : w.heap.size ≠ g := H3.ne f3 (by decide)
  have F1 := Lib.hid f1; have F2 := Lib.hid f2; have F4 := Lib.hid f4; have F5 := Lib.hid f5
  have FC := Lib.hid (show i < cs.length by omega)
  clear k3 b2 H2 hB d3 f1 f2 f4 f5
  go_wp2_with (first
    | (go_at_call 27; refine (hP w3).mono ?_; rintro e w' ⟨rfl, hw⟩; obtain rfl := hw.symm; clear hP)
    | (refine at_set rfl 5 _ _ rfl rfl g i rfl 5 cs (cs.set i (.int .u8 y)) (.int .u8 y) rfl f3 rfl rfl rfl u8_one FC.out ?_; rintro w5 g5))
  have b5 := g5.below b3 hg
  have H5 := g5.but.blk H3 H3.lt hgn
  have D5 := dat_set F1.out F2.out F4.out F5.out i y g5.blk
  clear b3 g5 f3 hcq H3
  go_at_call 29
  refine (HRD.out _ w5 D5.seg).mono ?_
  rintro e w6 ⟨rfl, k6⟩
  have b6 := b5.trans (k6.mono b5.size)
  have H6 := H5.below k6 H5.lt
  clear k6 b5 H5 D5
  go_wp2_with (first
    | (refine at_new rfl 55 P0.cs rfl run_newPk ?_; rintro w7 X7 k7 s7; have lH6 := H6.lt; have FB6 := b6.size; have b7 := b6.trans (k7.mono b6.size); have H7 := H6.below k7 H6.lt; clear k7 b6 H6; try go_simp)
    | (refine at_new rfl 38 FZ rfl run_newFt ?_; rintro w8 Y8 k8 s8; rw [s7] at Y8; have X8 := X7.below k8 X7.lt; have b8 := b7.trans (k8.mono b7.size); have H8 := H7.below k8 H7.lt; have S8 := Lib.hid s8; clear k8 b7 X7 H7 s8; try go_simp)
    | (refine at_put rfl 55 _ _ rfl rfl w6.heap.size rfl (PL.cs P0) rfl X8 rfl szP (pcs_one _) ?_; rintro w9 g9; have X9 := g9.blk; have Y9 := g9.but.blk Y8 Y8.lt (show w6.heap.size + 1 ≠ w6.heap.size by omega); have b9 := g9.below b8 FB6; have H9 := g9.but.blk H8 H8.lt (show w.heap.size ≠ w6.heap.size by omega); clear g9 X8 Y8 H8 b8)
    | (refine at_put rfl 38 _ _ rfl rfl (w6.heap.size + 1) rfl (flt E a) rfl Y9 rfl szFt (flt_one _ _) ?_; rintro w10 g10; have Y10 := g10.blk; have X10 := g10.but.blk X9 X9.lt (show w6.heap.size ≠ w6.heap.size + 1 by omega); have b10 := g10.below b9 (Nat.le_succ_of_le FB6); have H10 := g10.but.blk H9 H9.lt (show w.heap.size ≠ w6.heap.size + 1 by omega); have c0 := Y10.cell 0 (v := .int .i64 E) rfl; clear g10 X9 Y9 H9 b9)
    | (refine at_mid (by kernel_rfl) 38 _ rfl (w6.heap.size + 1) 0 rfl Y10 (flt E a) rfl _ Try.underlying38 rfl szFt ?_)
    | (refine at_mid (by kernel_rfl) 55 _ rfl (w6.heap.size) 0 rfl X10 (PL.cs P0) rfl _ Try.underlying55 rfl szP ?_)
    | (refine at_mid (by kernel_rfl) 55 _ rfl (w.heap.size) 0 rfl H10 (PL.cs p) rfl _ Try.underlying55 rfl szP ?_)
    | (refine at_bld rfl 38 _ rfl (flt 0 0) (by kernel_rfl) ?_)
    | (refine at_bldG (by kernel_rfl) 55 _ rfl P0.cs (by kernel_rfl) ?_)
    | (refine at_cmp (by kernel_rfl) .eql 55 _ _ rfl (.agg (P0.cs).toArray) (.agg (P0.cs).toArray) rfl rfl true (by kernel_rfl) (hEP _) ?_))
  go_ret
  exact ⟨rfl, b10⟩
set_option maxHeartbeats 4000000 in
theorem vch_fixB (p : PL) (hp : p.Ok) (hc : p.chk = 0) (at_ y : Int) (ha : -9223372036854775808 ≤ at_ ∧ at_ ≤ 9223372036854775807) (hy : 0 ≤ y ∧ y < 256) (hq : y ≠ p.enc.getD (pk at_ 36) 0) (hi : 21 < pk at_ 36 ∧ pk at_ 36 < 29) (w : World) : Calls Try.prog 14 #[p.v, .int .i64 at_, .int .u8 y] w fun r w' => r = .returned (.bool true) ∧ Below w.heap.size w w' := by
  have hB := fun w => vbytes_ok p hp hc w
  have hP := fun w => pick_eq at_ 36 (by decide) (by decide) ha w
  have hi36 := pk_lt at_ 36 (by decide)
  have hel := penc_length p
  have hes := enc_short hp.f (pchk_zero hc).2
  have hRd := fun v w h => vread_is (p.enc.set (pk at_ 36) y) (oct_set (penc_oct p) _ _ hy) (by rw [List.length_set]; omega) v w h
  unfold VReads at hRd
  obtain ⟨z1, z2, -, -⟩ := vread_bad (set_bad hp hc (pk at_ 36) (by omega) y hy hq)
  rw [z1] at hRd
  have E1 : (vE (p.enc.set (pk at_ 36) y) != 0) = true := by simpa using z2
  have hEP : ∀ w, (binOp .eql 55 (.agg P0.cs.toArray) (.agg P0.cs.toArray)).run Try.prog w = .ok (.bool true) w := fun w => by
    have := eqlP P0 P0 w
    rw [peqb_refl] at this
    exact this
  generalize vE (p.enc.set (pk at_ 36) y) = E at *
  generalize vA (p.enc.set (pk at_ 36) y) = a at *
  clear z1 z2
  have hqb : (y == p.enc.getD (pk at_ 36) 0) = false := by simpa using hq
  have HRD := Lib.hid hRd
  have ho := (penc_oct p).getD (pk at_ 36)
  have B20 : decide (((pk at_ 36 : Nat) : Int) < 20) = false := by simp; omega
  have B21 : decide ((21 : Int) < ((pk at_ 36 : Nat) : Int)) = true := by simp; omega
  have B29 : decide (((pk at_ 36 : Nat) : Int) < 29) = true := by simp; omega
  have B35 : ((((pk at_ 36 : Nat) : Int)) == 35) = false := by simp; omega
  have hl36 : ¬ (p.enc.length : Int) < 36 := by omega
  have hil : ((pk at_ 36 : Nat) : Int) < p.enc.length := by omega
  have hl1 : 0 < p.enc.length := by omega
  clear hc hp hel hes ha hRd hq hi
  unfold PL.v at hB ⊢
  generalize pk at_ 36 = i at *
  generalize hxs : p.enc = xs at *
  clear hxs
  obtain ⟨u, hu⟩ : ∃ u, xs.getD i 0 = u := ⟨_, rfl⟩
  rw [hu] at hqb ho
  have HU := Lib.hid hu
  clear hu
  go_enter Try.func14, Try.ntmps14
  go_wp2_with (first
    | (refine at_box rfl 55 _ rfl (PL.cs p) rfl ?_; rintro w1 H1 k1 s1)
    | (go_at_call 28; refine (vlives_is w1).mono ?_; rintro e w2 ⟨rfl, k2⟩; have b2 := k1.trans (k2.mono k1.size); have H2 := H1.below k2 H1.lt; clear k1 k2 H1)
    | (refine at_mid rfl 55 _ rfl w.heap.size 0 rfl H2 (PL.cs p) rfl _ Try.underlying55 rfl szP ?_))
  go_at_call 30
  refine (hB w2).mono ?_
  rintro e w3 ⟨v, rfl, d3, k3⟩
  have b3 := b2.trans (k3.mono b2.size)
  have H3 := H2.below k3 H2.lt
  obtain ⟨g, cap, cs, rfl, hg0, f1, f2, f3, f4, f5⟩ := d3.form hl1
  have hg : w.heap.size ≤ g := Nat.le_trans b2.size hg0
  have hcq := f3.cell i (take_at f5 i (by omega))
  rw [HU.out] at hcq
  have hgn : w.heap.size ≠ g := H3.ne f3 (by decide)
  have F1 := Lib.hid f1; have F2 := Lib.hid f2; have F4 := Lib.hid f4; have F5 := Lib.hid f5
  have FC := Lib.hid (show i < cs.length by omega)
  clear k3 b2 H2 hB d3 f1 f2 f4 f5
  go_wp2_with (first
    | (go_at_call 27; refine (hP w3).mono ?_; rintro e w' ⟨rfl, hw⟩; obtain rfl := hw.symm; clear hP)
    | (refine at_set rfl 5 _ _ rfl rfl g i rfl 5 cs (cs.set i (.int .u8 y)) (.int .u8 y) rfl f3 rfl rfl rfl u8_one FC.out ?_; rintro w5 g5))
  have b5 := g5.below b3 hg
  have H5 := g5.but.blk H3 H3.lt hgn
  have D5 := dat_set F1.out F2.out F4.out F5.out i y g5.blk
  clear b3 g5 f3 hcq H3
  go_at_call 29
  refine (HRD.out _ w5 D5.seg).mono ?_
  rintro e w6 ⟨rfl, k6⟩
  have b6 := b5.trans (k6.mono b5.size)
  have H6 := H5.below k6 H5.lt
  clear k6 b5 H5 D5
  go_wp2_with (first
    | (refine at_new rfl 55 P0.cs rfl run_newPk ?_; rintro w7 X7 k7 s7; have lH6 := H6.lt; have FB6 := b6.size; have b7 := b6.trans (k7.mono b6.size); have H7 := H6.below k7 H6.lt; clear k7 b6 H6; try go_simp)
    | (refine at_new rfl 38 FZ rfl run_newFt ?_; rintro w8 Y8 k8 s8; rw [s7] at Y8; have X8 := X7.below k8 X7.lt; have b8 := b7.trans (k8.mono b7.size); have H8 := H7.below k8 H7.lt; have S8 := Lib.hid s8; clear k8 b7 X7 H7 s8; try go_simp)
    | (refine at_put rfl 55 _ _ rfl rfl w6.heap.size rfl (PL.cs P0) rfl X8 rfl szP (pcs_one _) ?_; rintro w9 g9; have X9 := g9.blk; have Y9 := g9.but.blk Y8 Y8.lt (show w6.heap.size + 1 ≠ w6.heap.size by omega); have b9 := g9.below b8 FB6; have H9 := g9.but.blk H8 H8.lt (show w.heap.size ≠ w6.heap.size by omega); clear g9 X8 Y8 H8 b8)
    | (refine at_put rfl 38 _ _ rfl rfl (w6.heap.size + 1) rfl (flt E a) rfl Y9 rfl szFt (flt_one _ _) ?_; rintro w10 g10; have Y10 := g10.blk; have X10 := g10.but.blk X9 X9.lt (show w6.heap.size ≠ w6.heap.size + 1 by omega); have b10 := g10.below b9 (Nat.le_succ_of_le FB6); have H10 := g10.but.blk H9 H9.lt (show w.heap.size ≠ w6.heap.size + 1 by omega); have c0 := Y10.cell 0 (v := .int .i64 E) rfl; clear g10 X9 Y9 H9 b9)
    | (refine at_mid (by kernel_rfl) 38 _ rfl (w6.heap.size + 1) 0 rfl Y10 (flt E a) rfl _ Try.underlying38 rfl szFt ?_)
    | (refine at_mid (by kernel_rfl) 55 _ rfl (w6.heap.size) 0 rfl X10 (PL.cs P0) rfl _ Try.underlying55 rfl szP ?_)
    | (refine at_mid (by kernel_rfl) 55 _ rfl (w.heap.size) 0 rfl H10 (PL.cs p) rfl _ Try.underlying55 rfl szP ?_)
    | (refine at_bld rfl 38 _ rfl (flt 0 0) (by kernel_rfl) ?_)
    | (refine at_bldG (by kernel_rfl) 55 _ rfl P0.cs (by kernel_rfl) ?_)
    | (refine at_cmp (by kernel_rfl) .eql 55 _ _ rfl (.agg (P0.cs).toArray) (.agg (P0.cs).toArray) rfl rfl true (by kernel_rfl) (hEP _) ?_))
  go_ret
  exact ⟨rfl, b10⟩
set_option maxHeartbeats 4000000 in
theorem vch_fixC (p : PL) (hp : p.Ok) (hc : p.chk = 0) (at_ y : Int) (ha : -9223372036854775808 ≤ at_ ∧ at_ ≤ 9223372036854775807) (hy : 0 ≤ y ∧ y < 256) (hq : y ≠ p.enc.getD (pk at_ 36) 0) (hi : pk at_ 36 = 35) (w : World) : Calls Try.prog 14 #[p.v, .int .i64 at_, .int .u8 y] w fun r w' => r = .returned (.bool true) ∧ Below w.heap.size w w' := by
  have hB := fun w => vbytes_ok p hp hc w
  have hP := fun w => pick_eq at_ 36 (by decide) (by decide) ha w
  have hi36 := pk_lt at_ 36 (by decide)
  have hel := penc_length p
  have hes := enc_short hp.f (pchk_zero hc).2
  have hRd := fun v w h => vread_is (p.enc.set (pk at_ 36) y) (oct_set (penc_oct p) _ _ hy) (by rw [List.length_set]; omega) v w h
  unfold VReads at hRd
  obtain ⟨z1, z2, -, -⟩ := vread_bad (set_bad hp hc (pk at_ 36) (by omega) y hy hq)
  rw [z1] at hRd
  have E1 : (vE (p.enc.set (pk at_ 36) y) != 0) = true := by simpa using z2
  have hEP : ∀ w, (binOp .eql 55 (.agg P0.cs.toArray) (.agg P0.cs.toArray)).run Try.prog w = .ok (.bool true) w := fun w => by
    have := eqlP P0 P0 w
    rw [peqb_refl] at this
    exact this
  generalize vE (p.enc.set (pk at_ 36) y) = E at *
  generalize vA (p.enc.set (pk at_ 36) y) = a at *
  clear z1 z2
  have hqb : (y == p.enc.getD (pk at_ 36) 0) = false := by simpa using hq
  have HRD := Lib.hid hRd
  have ho := (penc_oct p).getD (pk at_ 36)
  have B20 : decide (((pk at_ 36 : Nat) : Int) < 20) = false := by simp; omega
  have B21 : decide ((21 : Int) < ((pk at_ 36 : Nat) : Int)) = true := by simp; omega
  have B29 : decide (((pk at_ 36 : Nat) : Int) < 29) = false := by simp; omega
  have B35 : ((((pk at_ 36 : Nat) : Int)) == 35) = true := by simp; omega
  have hl36 : ¬ (p.enc.length : Int) < 36 := by omega
  have hil : ((pk at_ 36 : Nat) : Int) < p.enc.length := by omega
  have hl1 : 0 < p.enc.length := by omega
  clear hc hp hel hes ha hRd hq hi
  unfold PL.v at hB ⊢
  generalize pk at_ 36 = i at *
  generalize hxs : p.enc = xs at *
  clear hxs
  obtain ⟨u, hu⟩ : ∃ u, xs.getD i 0 = u := ⟨_, rfl⟩
  rw [hu] at hqb ho
  have HU := Lib.hid hu
  clear hu
  go_enter Try.func14, Try.ntmps14
  go_wp2_with (first
    | (refine at_box rfl 55 _ rfl (PL.cs p) rfl ?_; rintro w1 H1 k1 s1)
    | (go_at_call 28; refine (vlives_is w1).mono ?_; rintro e w2 ⟨rfl, k2⟩; have b2 := k1.trans (k2.mono k1.size); have H2 := H1.below k2 H1.lt; clear k1 k2 H1)
    | (refine at_mid rfl 55 _ rfl w.heap.size 0 rfl H2 (PL.cs p) rfl _ Try.underlying55 rfl szP ?_))
  go_at_call 30
  refine (hB w2).mono ?_
  rintro e w3 ⟨v, rfl, d3, k3⟩
  have b3 := b2.trans (k3.mono b2.size)
  have H3 := H2.below k3 H2.lt
  obtain ⟨g, cap, cs, rfl, hg0, f1, f2, f3, f4, f5⟩ := d3.form hl1
  have hg : w.heap.size ≤ g := Nat.le_trans b2.size hg0
  have hcq := f3.cell i (take_at f5 i (by omega))
  rw [HU.out] at hcq
  have hgn : w.heap.size ≠ g := H3.ne f3 (by decide)
  have F1 := Lib.hid f1; have F2 := Lib.hid f2; have F4 := Lib.hid f4; have F5 := Lib.hid f5
  have FC := Lib.hid (show i < cs.length by omega)
  clear k3 b2 H2 hB d3 f1 f2 f4 f5
  go_wp2_with (first
    | (go_at_call 27; refine (hP w3).mono ?_; rintro e w' ⟨rfl, hw⟩; obtain rfl := hw.symm; clear hP)
    | (refine at_set rfl 5 _ _ rfl rfl g i rfl 5 cs (cs.set i (.int .u8 y)) (.int .u8 y) rfl f3 rfl rfl rfl u8_one FC.out ?_; rintro w5 g5))
  have b5 := g5.below b3 hg
  have H5 := g5.but.blk H3 H3.lt hgn
  have D5 := dat_set F1.out F2.out F4.out F5.out i y g5.blk
  clear b3 g5 f3 hcq H3
  go_at_call 29
  refine (HRD.out _ w5 D5.seg).mono ?_
  rintro e w6 ⟨rfl, k6⟩
  have b6 := b5.trans (k6.mono b5.size)
  have H6 := H5.below k6 H5.lt
  clear k6 b5 H5 D5
  go_wp2_with (first
    | (refine at_new rfl 55 P0.cs rfl run_newPk ?_; rintro w7 X7 k7 s7; have lH6 := H6.lt; have FB6 := b6.size; have b7 := b6.trans (k7.mono b6.size); have H7 := H6.below k7 H6.lt; clear k7 b6 H6; try go_simp)
    | (refine at_new rfl 38 FZ rfl run_newFt ?_; rintro w8 Y8 k8 s8; rw [s7] at Y8; have X8 := X7.below k8 X7.lt; have b8 := b7.trans (k8.mono b7.size); have H8 := H7.below k8 H7.lt; have S8 := Lib.hid s8; clear k8 b7 X7 H7 s8; try go_simp)
    | (refine at_put rfl 55 _ _ rfl rfl w6.heap.size rfl (PL.cs P0) rfl X8 rfl szP (pcs_one _) ?_; rintro w9 g9; have X9 := g9.blk; have Y9 := g9.but.blk Y8 Y8.lt (show w6.heap.size + 1 ≠ w6.heap.size by omega); have b9 := g9.below b8 FB6; have H9 := g9.but.blk H8 H8.lt (show w.heap.size ≠ w6.heap.size by omega); clear g9 X8 Y8 H8 b8)
    | (refine at_put rfl 38 _ _ rfl rfl (w6.heap.size + 1) rfl (flt E a) rfl Y9 rfl szFt (flt_one _ _) ?_; rintro w10 g10; have Y10 := g10.blk; have X10 := g10.but.blk X9 X9.lt (show w6.heap.size ≠ w6.heap.size + 1 by omega); have b10 := g10.below b9 (Nat.le_succ_of_le FB6); have H10 := g10.but.blk H9 H9.lt (show w.heap.size ≠ w6.heap.size + 1 by omega); have c0 := Y10.cell 0 (v := .int .i64 E) rfl; clear g10 X9 Y9 H9 b9)
    | (refine at_mid (by kernel_rfl) 38 _ rfl (w6.heap.size + 1) 0 rfl Y10 (flt E a) rfl _ Try.underlying38 rfl szFt ?_)
    | (refine at_mid (by kernel_rfl) 55 _ rfl (w6.heap.size) 0 rfl X10 (PL.cs P0) rfl _ Try.underlying55 rfl szP ?_)
    | (refine at_mid (by kernel_rfl) 55 _ rfl (w.heap.size) 0 rfl H10 (PL.cs p) rfl _ Try.underlying55 rfl szP ?_)
    | (refine at_bld rfl 38 _ rfl (flt 0 0) (by kernel_rfl) ?_)
    | (refine at_bldG (by kernel_rfl) 55 _ rfl P0.cs (by kernel_rfl) ?_)
    | (refine at_cmp (by kernel_rfl) .eql 55 _ _ rfl (.agg (P0.cs).toArray) (.agg (P0.cs).toArray) rfl rfl true (by kernel_rfl) (hEP _) ?_))
  go_ret
  exact ⟨rfl, b10⟩
set_option maxHeartbeats 4000000 in
theorem vch_othA (p : PL) (hp : p.Ok) (hc : p.chk = 0) (at_ y : Int) (ha : -9223372036854775808 ≤ at_ ∧ at_ ≤ 9223372036854775807) (hy : 0 ≤ y ∧ y < 256) (hq : y ≠ p.enc.getD (pk at_ 36) 0) (hi : 20 ≤ pk at_ 36 ∧ pk at_ 36 ≤ 21) (w : World) : Calls Try.prog 14 #[p.v, .int .i64 at_, .int .u8 y] w fun r w' => r = .returned (.bool true) ∧ Below w.heap.size w w' := by
  have hB := fun w => vbytes_ok p hp hc w
  have hP := fun w => pick_eq at_ 36 (by decide) (by decide) ha w
  have hi36 := pk_lt at_ 36 (by decide)
  have hel := penc_length p
  have hes := enc_short hp.f (pchk_zero hc).2
  have hRd := fun v w h => vread_is (p.enc.set (pk at_ 36) y) (oct_set (penc_oct p) _ _ hy) (by rw [List.length_set]; omega) v w h
  unfold VReads at hRd
  obtain ⟨q, g1, g2, g3⟩ := set_good hp hc (pk at_ 36) (by omega) y hy
  obtain ⟨z1, z2, z3⟩ := vread_enc g1 g2
  rw [g3] at z1 z2 z3
  rw [z1, z2, z3] at hRd
  have hqp : q ≠ p := fun e => by
    subst e
    have h5 := getD_set q.enc (pk at_ 36) (pk at_ 36) y (by omega)
    rw [← g3, if_pos rfl] at h5
    exact hq h5.symm
  have hNP : ∀ w, (binOp .neq 55 (.agg q.cs.toArray) (.agg p.cs.toArray)).run Try.prog w = .ok (.bool true) w := fun w => by
    have := neqP q p w
    rw [show q.eqb p = false by cases e : q.eqb p with
      | false => rfl
      | true => exact absurd ((peqb_iff q p).1 e) hqp] at this
    exact this
  clear z1 z2 z3 g1 g2 g3 hqp
  have hqb : (y == p.enc.getD (pk at_ 36) 0) = false := by simpa using hq
  have HRD := Lib.hid hRd
  have ho := (penc_oct p).getD (pk at_ 36)
  have B20 : decide (((pk at_ 36 : Nat) : Int) < 20) = false := by simp; omega
  have B21 : decide ((21 : Int) < ((pk at_ 36 : Nat) : Int)) = false := by simp; omega
  have B29 : decide (((pk at_ 36 : Nat) : Int) < 29) = true := by simp; omega
  have B35 : ((((pk at_ 36 : Nat) : Int)) == 35) = false := by simp; omega
  have hl36 : ¬ (p.enc.length : Int) < 36 := by omega
  have hil : ((pk at_ 36 : Nat) : Int) < p.enc.length := by omega
  have hl1 : 0 < p.enc.length := by omega
  clear hc hp hel hes ha hRd hq hi
  unfold PL.v at hB ⊢
  generalize pk at_ 36 = i at *
  generalize hxs : p.enc = xs at *
  clear hxs
  obtain ⟨u, hu⟩ : ∃ u, xs.getD i 0 = u := ⟨_, rfl⟩
  rw [hu] at hqb ho
  have HU := Lib.hid hu
  clear hu
  go_enter Try.func14, Try.ntmps14
  go_wp2_with (first
    | (refine at_box rfl 55 _ rfl (PL.cs p) rfl ?_; rintro w1 H1 k1 s1)
    | (go_at_call 28; refine (vlives_is w1).mono ?_; rintro e w2 ⟨rfl, k2⟩; have b2 := k1.trans (k2.mono k1.size); have H2 := H1.below k2 H1.lt; clear k1 k2 H1)
    | (refine at_mid rfl 55 _ rfl w.heap.size 0 rfl H2 (PL.cs p) rfl _ Try.underlying55 rfl szP ?_))
  go_at_call 30
  refine (hB w2).mono ?_
  rintro e w3 ⟨v, rfl, d3, k3⟩
  have b3 := b2.trans (k3.mono b2.size)
  have H3 := H2.below k3 H2.lt
  obtain ⟨g, cap, cs, rfl, hg0, f1, f2, f3, f4, f5⟩ := d3.form hl1
  have hg : w.heap.size ≤ g := Nat.le_trans b2.size hg0
  have hcq := f3.cell i (take_at f5 i (by omega))
  rw [HU.out] at hcq
  have hgn : w.heap.size ≠ g := H3.ne f3 (by decide)
  have F1 := Lib.hid f1; have F2 := Lib.hid f2; have F4 := Lib.hid f4; have F5 := Lib.hid f5
  have FC := Lib.hid (show i < cs.length by omega)
  clear k3 b2 H2 hB d3 f1 f2 f4 f5
  go_wp2_with (first
    | (go_at_call 27; refine (hP w3).mono ?_; rintro e w' ⟨rfl, hw⟩; obtain rfl := hw.symm; clear hP)
    | (refine at_set rfl 5 _ _ rfl rfl g i rfl 5 cs (cs.set i (.int .u8 y)) (.int .u8 y) rfl f3 rfl rfl rfl u8_one FC.out ?_; rintro w5 g5))
  have b5 := g5.below b3 hg
  have H5 := g5.but.blk H3 H3.lt hgn
  have D5 := dat_set F1.out F2.out F4.out F5.out i y g5.blk
  clear b3 g5 f3 hcq H3
  go_at_call 29
  refine (HRD.out _ w5 D5.seg).mono ?_
  rintro e w6 ⟨rfl, k6⟩
  have b6 := b5.trans (k6.mono b5.size)
  have H6 := H5.below k6 H5.lt
  clear k6 b5 H5 D5
  go_wp2_with (first
    | (refine at_new rfl 55 P0.cs rfl run_newPk ?_; rintro w7 X7 k7 s7; have lH6 := H6.lt; have FB6 := b6.size; have b7 := b6.trans (k7.mono b6.size); have H7 := H6.below k7 H6.lt; clear k7 b6 H6; try go_simp)
    | (refine at_new rfl 38 FZ rfl run_newFt ?_; rintro w8 Y8 k8 s8; rw [s7] at Y8; have X8 := X7.below k8 X7.lt; have b8 := b7.trans (k8.mono b7.size); have H8 := H7.below k8 H7.lt; have S8 := Lib.hid s8; clear k8 b7 X7 H7 s8; try go_simp)
    | (refine at_put rfl 55 _ _ rfl rfl w6.heap.size rfl (PL.cs q) rfl X8 rfl szP (pcs_one _) ?_; rintro w9 g9; have X9 := g9.blk; have Y9 := g9.but.blk Y8 Y8.lt (show w6.heap.size + 1 ≠ w6.heap.size by omega); have b9 := g9.below b8 FB6; have H9 := g9.but.blk H8 H8.lt (show w.heap.size ≠ w6.heap.size by omega); clear g9 X8 Y8 H8 b8)
    | (refine at_put rfl 38 _ _ rfl rfl (w6.heap.size + 1) rfl (flt 0 0) rfl Y9 rfl szFt (flt_one _ _) ?_; rintro w10 g10; have Y10 := g10.blk; have X10 := g10.but.blk X9 X9.lt (show w6.heap.size ≠ w6.heap.size + 1 by omega); have b10 := g10.below b9 (Nat.le_succ_of_le FB6); have H10 := g10.but.blk H9 H9.lt (show w.heap.size ≠ w6.heap.size + 1 by omega); have c0 := Y10.cell 0 (v := .int .i64 0) rfl; clear g10 X9 Y9 H9 b9)
    | (refine at_mid (by kernel_rfl) 38 _ rfl (w6.heap.size + 1) 0 rfl Y10 (flt 0 0) rfl _ Try.underlying38 rfl szFt ?_)
    | (refine at_mid (by kernel_rfl) 55 _ rfl (w6.heap.size) 0 rfl X10 (PL.cs q) rfl _ Try.underlying55 rfl szP ?_)
    | (refine at_mid (by kernel_rfl) 55 _ rfl (w.heap.size) 0 rfl H10 (PL.cs p) rfl _ Try.underlying55 rfl szP ?_)
    | (refine at_bld rfl 38 _ rfl (flt 0 0) (by kernel_rfl) ?_)
    | (refine at_cmp (by kernel_rfl) .eql 38 _ _ rfl (.agg (flt 0 0).toArray) (.agg (flt 0 0).toArray) rfl rfl true (by kernel_rfl) (eqlT 0 0 0 0 _) ?_)
    | (refine at_cmp (by kernel_rfl) .neq 55 _ _ rfl (.agg (q.cs).toArray) (.agg (p.cs).toArray) rfl rfl true (by kernel_rfl) (hNP _) ?_))
  go_ret
  exact ⟨rfl, b10⟩
set_option maxHeartbeats 4000000 in
theorem vch_othB (p : PL) (hp : p.Ok) (hc : p.chk = 0) (at_ y : Int) (ha : -9223372036854775808 ≤ at_ ∧ at_ ≤ 9223372036854775807) (hy : 0 ≤ y ∧ y < 256) (hq : y ≠ p.enc.getD (pk at_ 36) 0) (hi : 29 ≤ pk at_ 36 ∧ pk at_ 36 ≤ 34) (w : World) : Calls Try.prog 14 #[p.v, .int .i64 at_, .int .u8 y] w fun r w' => r = .returned (.bool true) ∧ Below w.heap.size w w' := by
  have hB := fun w => vbytes_ok p hp hc w
  have hP := fun w => pick_eq at_ 36 (by decide) (by decide) ha w
  have hi36 := pk_lt at_ 36 (by decide)
  have hel := penc_length p
  have hes := enc_short hp.f (pchk_zero hc).2
  have hRd := fun v w h => vread_is (p.enc.set (pk at_ 36) y) (oct_set (penc_oct p) _ _ hy) (by rw [List.length_set]; omega) v w h
  unfold VReads at hRd
  obtain ⟨q, g1, g2, g3⟩ := set_good hp hc (pk at_ 36) (by omega) y hy
  obtain ⟨z1, z2, z3⟩ := vread_enc g1 g2
  rw [g3] at z1 z2 z3
  rw [z1, z2, z3] at hRd
  have hqp : q ≠ p := fun e => by
    subst e
    have h5 := getD_set q.enc (pk at_ 36) (pk at_ 36) y (by omega)
    rw [← g3, if_pos rfl] at h5
    exact hq h5.symm
  have hNP : ∀ w, (binOp .neq 55 (.agg q.cs.toArray) (.agg p.cs.toArray)).run Try.prog w = .ok (.bool true) w := fun w => by
    have := neqP q p w
    rw [show q.eqb p = false by cases e : q.eqb p with
      | false => rfl
      | true => exact absurd ((peqb_iff q p).1 e) hqp] at this
    exact this
  clear z1 z2 z3 g1 g2 g3 hqp
  have hqb : (y == p.enc.getD (pk at_ 36) 0) = false := by simpa using hq
  have HRD := Lib.hid hRd
  have ho := (penc_oct p).getD (pk at_ 36)
  have B20 : decide (((pk at_ 36 : Nat) : Int) < 20) = false := by simp; omega
  have B21 : decide ((21 : Int) < ((pk at_ 36 : Nat) : Int)) = true := by simp; omega
  have B29 : decide (((pk at_ 36 : Nat) : Int) < 29) = false := by simp; omega
  have B35 : ((((pk at_ 36 : Nat) : Int)) == 35) = false := by simp; omega
  have hl36 : ¬ (p.enc.length : Int) < 36 := by omega
  have hil : ((pk at_ 36 : Nat) : Int) < p.enc.length := by omega
  have hl1 : 0 < p.enc.length := by omega
  clear hc hp hel hes ha hRd hq hi
  unfold PL.v at hB ⊢
  generalize pk at_ 36 = i at *
  generalize hxs : p.enc = xs at *
  clear hxs
  obtain ⟨u, hu⟩ : ∃ u, xs.getD i 0 = u := ⟨_, rfl⟩
  rw [hu] at hqb ho
  have HU := Lib.hid hu
  clear hu
  go_enter Try.func14, Try.ntmps14
  go_wp2_with (first
    | (refine at_box rfl 55 _ rfl (PL.cs p) rfl ?_; rintro w1 H1 k1 s1)
    | (go_at_call 28; refine (vlives_is w1).mono ?_; rintro e w2 ⟨rfl, k2⟩; have b2 := k1.trans (k2.mono k1.size); have H2 := H1.below k2 H1.lt; clear k1 k2 H1)
    | (refine at_mid rfl 55 _ rfl w.heap.size 0 rfl H2 (PL.cs p) rfl _ Try.underlying55 rfl szP ?_))
  go_at_call 30
  refine (hB w2).mono ?_
  rintro e w3 ⟨v, rfl, d3, k3⟩
  have b3 := b2.trans (k3.mono b2.size)
  have H3 := H2.below k3 H2.lt
  obtain ⟨g, cap, cs, rfl, hg0, f1, f2, f3, f4, f5⟩ := d3.form hl1
  have hg : w.heap.size ≤ g := Nat.le_trans b2.size hg0
  have hcq := f3.cell i (take_at f5 i (by omega))
  rw [HU.out] at hcq
  have hgn : w.heap.size ≠ g := H3.ne f3 (by decide)
  have F1 := Lib.hid f1; have F2 := Lib.hid f2; have F4 := Lib.hid f4; have F5 := Lib.hid f5
  have FC := Lib.hid (show i < cs.length by omega)
  clear k3 b2 H2 hB d3 f1 f2 f4 f5
  go_wp2_with (first
    | (go_at_call 27; refine (hP w3).mono ?_; rintro e w' ⟨rfl, hw⟩; obtain rfl := hw.symm; clear hP)
    | (refine at_set rfl 5 _ _ rfl rfl g i rfl 5 cs (cs.set i (.int .u8 y)) (.int .u8 y) rfl f3 rfl rfl rfl u8_one FC.out ?_; rintro w5 g5))
  have b5 := g5.below b3 hg
  have H5 := g5.but.blk H3 H3.lt hgn
  have D5 := dat_set F1.out F2.out F4.out F5.out i y g5.blk
  clear b3 g5 f3 hcq H3
  go_at_call 29
  refine (HRD.out _ w5 D5.seg).mono ?_
  rintro e w6 ⟨rfl, k6⟩
  have b6 := b5.trans (k6.mono b5.size)
  have H6 := H5.below k6 H5.lt
  clear k6 b5 H5 D5
  go_wp2_with (first
    | (refine at_new rfl 55 P0.cs rfl run_newPk ?_; rintro w7 X7 k7 s7; have lH6 := H6.lt; have FB6 := b6.size; have b7 := b6.trans (k7.mono b6.size); have H7 := H6.below k7 H6.lt; clear k7 b6 H6; try go_simp)
    | (refine at_new rfl 38 FZ rfl run_newFt ?_; rintro w8 Y8 k8 s8; rw [s7] at Y8; have X8 := X7.below k8 X7.lt; have b8 := b7.trans (k8.mono b7.size); have H8 := H7.below k8 H7.lt; have S8 := Lib.hid s8; clear k8 b7 X7 H7 s8; try go_simp)
    | (refine at_put rfl 55 _ _ rfl rfl w6.heap.size rfl (PL.cs q) rfl X8 rfl szP (pcs_one _) ?_; rintro w9 g9; have X9 := g9.blk; have Y9 := g9.but.blk Y8 Y8.lt (show w6.heap.size + 1 ≠ w6.heap.size by omega); have b9 := g9.below b8 FB6; have H9 := g9.but.blk H8 H8.lt (show w.heap.size ≠ w6.heap.size by omega); clear g9 X8 Y8 H8 b8)
    | (refine at_put rfl 38 _ _ rfl rfl (w6.heap.size + 1) rfl (flt 0 0) rfl Y9 rfl szFt (flt_one _ _) ?_; rintro w10 g10; have Y10 := g10.blk; have X10 := g10.but.blk X9 X9.lt (show w6.heap.size ≠ w6.heap.size + 1 by omega); have b10 := g10.below b9 (Nat.le_succ_of_le FB6); have H10 := g10.but.blk H9 H9.lt (show w.heap.size ≠ w6.heap.size + 1 by omega); have c0 := Y10.cell 0 (v := .int .i64 0) rfl; clear g10 X9 Y9 H9 b9)
    | (refine at_mid (by kernel_rfl) 38 _ rfl (w6.heap.size + 1) 0 rfl Y10 (flt 0 0) rfl _ Try.underlying38 rfl szFt ?_)
    | (refine at_mid (by kernel_rfl) 55 _ rfl (w6.heap.size) 0 rfl X10 (PL.cs q) rfl _ Try.underlying55 rfl szP ?_)
    | (refine at_mid (by kernel_rfl) 55 _ rfl (w.heap.size) 0 rfl H10 (PL.cs p) rfl _ Try.underlying55 rfl szP ?_)
    | (refine at_bld rfl 38 _ rfl (flt 0 0) (by kernel_rfl) ?_)
    | (refine at_cmp (by kernel_rfl) .eql 38 _ _ rfl (.agg (flt 0 0).toArray) (.agg (flt 0 0).toArray) rfl rfl true (by kernel_rfl) (eqlT 0 0 0 0 _) ?_)
    | (refine at_cmp (by kernel_rfl) .neq 55 _ _ rfl (.agg (q.cs).toArray) (.agg (p.cs).toArray) rfl rfl true (by kernel_rfl) (hNP _) ?_))
  go_ret
  exact ⟨rfl, b10⟩
theorem vchanges_is (p : PL) (hp : p.Ok) (at_ y : Int) (ha : -9223372036854775808 ≤ at_ ∧ at_ ≤ 9223372036854775807) (hy : 0 ≤ y ∧ y < 256) (w : World) : Calls Try.prog 14 #[p.v, .int .i64 at_, .int .u8 y] w fun r w' => r = .returned (.bool true) ∧ Below w.heap.size w w' := by
  by_cases hc : p.chk = 0
  · by_cases hq : y = p.enc.getD (pk at_ 36) 0
    · exact vch_same p hp hc at_ y ha hy hq w
    · have := pk_lt at_ 36 (by decide)
      rcases (show pk at_ 36 < 20 ∨ (20 ≤ pk at_ 36 ∧ pk at_ 36 ≤ 21) ∨ (21 < pk at_ 36 ∧ pk at_ 36 < 29) ∨ (29 ≤ pk at_ 36 ∧ pk at_ 36 ≤ 34) ∨ pk at_ 36 = 35 by omega) with h | h | h | h | h
      · exact vch_fixA p hp hc at_ y ha hy hq h w
      · exact vch_othA p hp hc at_ y ha hy hq h w
      · exact vch_fixB p hp hc at_ y ha hy hq h w
      · exact vch_othB p hp hc at_ y ha hy hq h w
      · exact vch_fixC p hp hc at_ y ha hy hq h w
  · exact vch_bad p hc at_ y w
end Go.Proofs.Ytgpjelcihmbiiaa
