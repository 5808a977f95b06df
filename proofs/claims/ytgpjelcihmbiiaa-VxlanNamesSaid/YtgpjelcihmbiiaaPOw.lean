/- PacketOnly: the walk. No condition. -/
import Derived.Test.YtgpjelcihmbiiaaPOl
namespace Go.Proofs.Ytgpjelcihmbiiaa
open Go.RowKit
set_option linter.unusedVariables false
set_option linter.unusedSimpArgs false
set_option maxRecDepth 100000

set_option maxHeartbeats 4000000 in
theorem only_big1 (xs : List Int) (ho : Oct xs) (v : Value) (cut : Int) (zs : List Int) (u : Value) (w : World) (hv : Seg w v xs) (hu : Seg w u zs) (h : 300 < xs.length) : Calls Try.prog 7 #[v, .int .i64 cut, u] w fun r w' => r = .returned (.bool true) ∧ Below w.heap.size w w' := by
  have q : decide ((300 : Int) < xs.length) = true := by simp; omega
  obtain ⟨va, vc, rfl, -⟩ := id hv
  obtain ⟨ua, uc, rfl, -⟩ := id hu
  clear hv hu
  go_enter Try.func7, Try.ntmps7
  go_wp2_with (go_at_call 15; refine (lives_is w).mono ?_; rintro e w2 ⟨rfl, b2⟩)
  go_ret
  exact ⟨rfl, b2⟩
set_option maxHeartbeats 4000000 in
theorem only_big2 (xs : List Int) (ho : Oct xs) (v : Value) (cut : Int) (zs : List Int) (u : Value) (w : World) (hv : Seg w v xs) (hu : Seg w u zs) (h0 : xs.length ≤ 300) (h : 300 < zs.length) : Calls Try.prog 7 #[v, .int .i64 cut, u] w fun r w' => r = .returned (.bool true) ∧ Below w.heap.size w w' := by
  have q0 : decide ((300 : Int) < xs.length) = false := by simp; omega
  have q : decide ((300 : Int) < zs.length) = true := by simp; omega
  obtain ⟨va, vc, rfl, -⟩ := id hv
  obtain ⟨ua, uc, rfl, -⟩ := id hu
  clear hv hu
  go_enter Try.func7, Try.ntmps7
  go_wp2_with (go_at_call 15; refine (lives_is w).mono ?_; rintro e w2 ⟨rfl, b2⟩)
  go_ret
  exact ⟨rfl, b2⟩
set_option maxHeartbeats 4000000 in
theorem only_bad (xs : List Int) (ho : Oct xs) (v : Value) (cut : Int) (zs : List Int) (u : Value) (w : World) (hv : Seg w v xs) (hu : Seg w u zs) (h0 : xs.length ≤ 300) (h1 : zs.length ≤ 300) (hR : ∀ w' v, Seg w' v xs → Calls Try.prog 17 #[v] w' fun r w'' => (∃ (e a : Int), r = .returned (.tuple #[.agg F0.cs.toArray, .agg (flt e a).toArray]) ∧ e ≠ 0 ∧ 0 ≤ a ∧ a ≤ xs.length) ∧ Below w'.heap.size w' w'') : Calls Try.prog 7 #[v, .int .i64 cut, u] w fun r w' => r = .returned (.bool true) ∧ Below w.heap.size w w' := by
  have hE := fun w => eqlF F0 F0 w
  rw [eqb_refl] at hE
  unfold FL.v at hE
  have q0 : decide ((300 : Int) < xs.length) = false := by simp; omega
  have q1 : decide ((300 : Int) < zs.length) = false := by simp; omega
  have HV := Lib.hid hv
  have HU := Lib.hid hu
  obtain ⟨va, vc, rfl, -⟩ := id hv
  obtain ⟨ua, uc, rfl, -⟩ := id hu
  clear hv hu
  go_enter Try.func7, Try.ntmps7
  go_wp2_with (go_at_call 15; refine (lives_is w).mono ?_; rintro e w2 ⟨rfl, b2⟩)
  go_at_call 17
  refine (hR w2 _ (HV.out.below b2)).mono ?_
  rintro e w3 ⟨⟨E, A, rfl, e1, e2, e3⟩, k3⟩
  have b3 := b2.trans (k3.mono b2.size)
  have n1 : (E != 0) = true := by simpa using e1
  clear k3 b2 hR e1
  go_wp2_with (first
    | (refine at_new rfl 36 F0.cs rfl run_newFr ?_; rintro w4 X4 k4 s4; have FB3 := b3.size; have b4 := b3.trans (k4.mono b3.size); clear k4 b3; try go_simp)
    | (refine at_new rfl 38 FZ rfl run_newFt ?_; rintro w5 Y5 k5 s5; rw [s4] at Y5; have X5 := X4.below k5 X4.lt; have b5 := b4.trans (k5.mono b4.size); have S5 := Lib.hid s5; clear k5 b4 X4 s5; try go_simp)
    | (refine at_put rfl 36 _ _ rfl rfl w3.heap.size rfl (FL.cs F0) rfl X5 rfl szF (cs_one _) ?_; rintro w6 g6; have X6 := g6.blk; have Y6 := g6.but.blk Y5 Y5.lt (show w3.heap.size + 1 ≠ w3.heap.size by omega); have b6 := g6.below b5 (show w.heap.size ≤ w3.heap.size by omega); clear g6 X5 Y5 b5)
    | (refine at_put rfl 38 _ _ rfl rfl (w3.heap.size + 1) rfl (flt E A) rfl Y6 rfl szFt (flt_one _ _) ?_; rintro w7 g7; have Y7 := g7.blk; have X7 := g7.but.blk X6 X6.lt (show w3.heap.size ≠ w3.heap.size + 1 by omega); have b7 := g7.below b6 (show w.heap.size ≤ w3.heap.size + 1 by omega); have c0 := Blk.cell Y7 0 (v := .int .i64 E) rfl; have c1 := Blk.cell Y7 1 (v := .int .i64 A) rfl; clear g7 X6 Y6 b6)
    | (refine at_mid rfl 36 _ rfl w3.heap.size 0 rfl X7 (FL.cs F0) rfl _ Try.underlying36 rfl szF ?_)
    | (refine at_bld rfl 36 _ rfl (FL.cs F0) (by kernel_rfl) ?_)
    | (refine at_cmp (by kernel_rfl) .eql 36 _ _ rfl (.agg F0.cs.toArray) (.agg F0.cs.toArray) rfl rfl true (by kernel_rfl) (hE _) ?_))
  go_ret
  exact ⟨rfl, b7⟩
theorem at_bldW {ops : Array Oper} {rest : List Oper} {o : Oper} {a : Act} {w : World} {Q : Exit → Act → World → Prop} (hw : Region.wanted o (yielded ops a.tmps) = true) (ty : TypeId) (parts : Array (Nat × Operand)) (ho : o.op = .build ty parts) (cs : List Value)
    (hb : Try.prog.built ty (parts.map fun (i, x) => (i, a.eval x)).toList = some cs.toArray) (h : wpList Try.prog ops Q rest (a.put o.dst (.agg cs.toArray)) w) : wpList Try.prog ops Q (o :: rest) a w :=
  wpList_wanted hw fun _ hK => wp_build ty parts ho (by rw [hb]; rfl) (by rw [hb]; exact hK _ _ h)
set_option maxHeartbeats 4000000 in
theorem only_e (xs : List Int) (ho : Oct xs) (v : Value) (cut : Int) (zs : List Int) (u : Value) (w : World) (hv : Seg w v xs) (hu : Seg w u zs) (D : FL) (f_len : Nat) (hxl : xs.length = f_len) (hx0 : 0 < f_len) (hcut : -9223372036854775808 ≤ cut ∧ cut ≤ 9223372036854775807) (h0 : xs.length ≤ 300) (h1 : zs.length ≤ 300) (hz : zs.length = 0)
    (hR : ∀ w' v, Seg w' v xs → Calls Try.prog 17 #[v] w' fun r w'' => r = .returned (.tuple #[.agg D.cs.toArray, .agg (flt 0 0).toArray]) ∧ Below w'.heap.size w' w'')
    (hB : ∀ w', Calls Try.prog 16 #[.agg D.cs.toArray] w' fun r w'' => ∃ v, r = .returned (.tuple #[v, .int .i64 0]) ∧ DatB w'.heap.size w'' v xs ∧ Below w'.heap.size w' w'')
    (hR2 : ∀ w' v c, c < xs.length → Seg w' v (xs.take c) → Calls Try.prog 17 #[v] w' fun r w'' => r = .returned (.tuple #[.agg F0.cs.toArray, .agg (flt 4 c).toArray]) ∧ Below w'.heap.size w' w'')
    (hR3 : ∀ w' v, Seg w' v (xs ++ zs) → Calls Try.prog 17 #[v] w' fun r w'' => r = .returned (.tuple #[.agg D.cs.toArray, .agg (flt 0 0).toArray]) ∧ Below w'.heap.size w' w'') : Calls Try.prog 7 #[v, .int .i64 cut, u] w fun r w' => r = .returned (.bool true) ∧ Below w.heap.size w w' := by
  have HX0 := Lib.hid (show xs ≠ [] by intro e; rw [e] at hxl; simp at hxl; omega)
  have hP := fun w => pick_eq cut f_len hx0 (by omega) hcut w
  have hp0 := pk_lt cut f_len hx0
  have hp : pk cut f_len < xs.length := by omega
  clear hp0
  have HP2 := Lib.hid hp
  have q0 : decide ((300 : Int) < xs.length) = false := by simp; omega
  have q1 : decide ((300 : Int) < zs.length) = false := by simp; omega
  have HV := Lib.hid hv
  have HU := Lib.hid hu
  obtain ⟨va, vc, rfl, -⟩ := id hv
  obtain ⟨ua, uc, rfl, -⟩ := id hu
  clear hv hu
  have hlz : ((zs.length : Int) == 0) = true := by rw [beq_iff_eq]; omega
  rw [hxl] at q0
  have HXL := Lib.hid hxl
  have H300 := Lib.hid h0
  have HZ := Lib.hid h1
  rw [hxl]
  clear hp hxl h0 h1 hcut hz
  go_enter Try.func7, Try.ntmps7
  go_wp2_with (go_at_call 15; refine (lives_is w).mono ?_; rintro e w2 ⟨rfl, b2⟩)
  go_at_call 17
  refine (hR w2 _ (by rw [← HXL.out]; exact HV.out.below b2)).mono ?_
  rintro e w3 ⟨rfl, k3⟩
  have b3 := b2.trans (k3.mono b2.size)
  clear k3 b2 hR
  go_wp2_with (first
    | (refine at_new rfl 36 F0.cs rfl run_newFr ?_; rintro w4 X4 k4 s4; have FB3 := b3.size; have b4 := b3.trans (k4.mono b3.size); clear k4 b3; try go_simp)
    | (refine at_new rfl 38 FZ rfl run_newFt ?_; rintro w5 Y5 k5 s5; rw [s4] at Y5; have X5 := X4.below k5 X4.lt; have b5 := b4.trans (k5.mono b4.size); have S5 := Lib.hid s5; clear k5 b4 X4 s5; try go_simp)
    | (refine at_put rfl 36 _ _ rfl rfl w3.heap.size rfl (FL.cs D) rfl X5 rfl szF (cs_one _) ?_; rintro w6 g6; have X6 := g6.blk; have Y6 := g6.but.blk Y5 Y5.lt (show w3.heap.size + 1 ≠ w3.heap.size by omega); have b6 := g6.below b5 (show w.heap.size ≤ w3.heap.size by omega); clear g6 X5 Y5 b5)
    | (refine at_put rfl 38 _ _ rfl rfl (w3.heap.size + 1) rfl (flt 0 0) rfl Y6 rfl szFt (flt_one _ _) ?_; rintro w7 g7; have Y7 := g7.blk; have X7 := g7.but.blk X6 X6.lt (show w3.heap.size ≠ w3.heap.size + 1 by omega); have b7 := g7.below b6 (show w.heap.size ≤ w3.heap.size + 1 by omega); have c0 := Blk.cell Y7 0 (v := .int .i64 0) rfl; clear g7 X6 Y6 b6)
    | (refine at_mid rfl 36 _ rfl w3.heap.size 0 rfl X7 (FL.cs D) rfl _ Try.underlying36 rfl szF ?_))
  go_at_call 16
  refine (hB w7).mono ?_
  rintro e w8 ⟨x, rfl, d8, k8⟩
  have b8 := b7.trans (k8.mono b7.size)
  have hs1 := dat_string d8.dat HX0.out
  have hs2 := seg_string (HV.out.below b8) HX0.out
  obtain ⟨xa, xc, rfl⟩ := d8.dat.shape
  rw [HXL.out] at hs1 hs2 ⊢
  generalize strOfNums xs = str at hs1 hs2
  obtain ⟨sv, hsr, hss⟩ := slice_b (HV.out.below b8) (pk cut f_len) (Nat.le_of_lt HP2.out)
  rw [HXL.out] at hsr
  clear k8 b7 hB d8 X7 Y7 c0
  go_wp2_with (first
    | (go_at_call 27; refine (hP w8).mono ?_; rintro e w' ⟨rfl, hw⟩; obtain rfl := hw.symm; clear hP)
    | (refine at_sliceH rfl 23 under_b _ _ rfl (.slice va f_len vc) (.int .i64 (pk cut f_len : Nat)) sv rfl rfl hsr ?_))
  go_at_call 17
  refine (hR2 w8 sv _ HP2.out hss).mono ?_
  rintro e w9 ⟨rfl, k9⟩
  have b9 := b8.trans (k9.mono b8.size)
  clear k9 b8 hR2 hss hsr hs1 hs2
  go_wp2_with (first
    | (refine at_new rfl 36 F0.cs rfl run_newFr ?_; rintro w10 X10 k10 s10; have FB9 := b9.size; have b10 := b9.trans (k10.mono b9.size); clear k10 b9; try go_simp)
    | (refine at_new rfl 38 FZ rfl run_newFt ?_; rintro w11 Y11 k11 s11; rw [s10] at Y11; have X11 := X10.below k11 X10.lt; have b11 := b10.trans (k11.mono b10.size); have S11 := Lib.hid s11; clear k11 b10 X10 s11; try go_simp)
    | (refine at_put rfl 36 _ _ rfl rfl w9.heap.size rfl (FL.cs F0) rfl X11 rfl szF (cs_one _) ?_; rintro w12 g12; have X12 := g12.blk; have Y12 := g12.but.blk Y11 Y11.lt (show w9.heap.size + 1 ≠ w9.heap.size by omega); have b12 := g12.below b11 (show w.heap.size ≤ w9.heap.size by omega); clear g12 X11 Y11 b11)
    | (refine at_put rfl 38 _ _ rfl rfl (w9.heap.size + 1) rfl (flt 4 (pk cut f_len : Nat)) rfl Y12 rfl szFt (flt_one _ _) ?_; rintro w13 g13; have Y13 := g13.blk; have X13 := g13.but.blk X12 X12.lt (show w9.heap.size ≠ w9.heap.size + 1 by omega); have b13 := g13.below b12 (show w.heap.size ≤ w9.heap.size + 1 by omega);  clear g13 X12 Y12 b12))
  go_at_call 18
  refine (own_is w13 _ xs (by rw [← HXL.out]; exact HV.out.below b13) (by have := H300.out; omega)).mono ?_
  rintro e w14 ⟨ov, rfl, d14, k14⟩
  have b14 := b13.trans (k14.mono b13.size)
  have Y14 := Y13.below k14 Y13.lt
  have l14 := Y14.lt
  obtain ⟨av, w15, hr, hd, hg⟩ := append_any w14 23 w13.heap.size ov _ xs zs d14 (HU.out.below b14) k14.size (by have := H300.out; have := HZ.out; omega)
  have k15 : Below w13.heap.size w14 w15 := (Below.refl _ _).grown hg k14.size fun q hq => (World.ownsRow.lt d14 q hq).1
  have b15 : Below w.heap.size w w15 := b14.trans (k15.mono b13.size)
  have Y15 := Y14.below k15 Y13.lt
  have l15 := Y15.lt
  obtain ⟨oa, oc, rfl⟩ := d14.dat.shape
  clear k14 b13 Y13 X13 b14 Y14 hg d14 k15
  go_wp2_with (at_builtin; refine Lib.wpList_append_run _ rfl (.tmp 75) (.tmp 76) 23 23 rfl _ _ rfl rfl _ _ hr ?_)
  go_at_call 17
  refine (hR3 w15 av hd.dat.seg).mono ?_
  rintro e w16 ⟨rfl, k16⟩
  have b16 := b15.trans (k16.mono b15.size)
  have Z16 := Y15.below k16 l15
  have l16 := Z16.lt
  clear k16 b15 Y15 hR3 hd hr
  go_upto_region 14 with (first
    | (refine at_new rfl 36 F0.cs rfl run_newFr ?_; rintro w17 X17 k17 s17; have FB16 := b16.size; have b17 := b16.trans (k17.mono b16.size); have Z17 := Z16.below k17 Z16.lt; clear k17 b16; try go_simp)
    | (refine at_new rfl 38 FZ rfl run_newFt ?_; rintro w18 Y18 k18 s18; rw [s17] at Y18; have X18 := X17.below k18 X17.lt; have b18 := b17.trans (k18.mono b17.size); have Z18 := Z17.below k18 Z17.lt; have S18 := Lib.hid s18; clear k18 b17 X17 s18; try go_simp)
    | (refine at_put rfl 36 _ _ rfl rfl w16.heap.size rfl (FL.cs D) rfl X18 rfl szF (cs_one _) ?_; rintro w19 g19; have X19 := g19.blk; have Y19 := g19.but.blk Y18 Y18.lt (show w16.heap.size + 1 ≠ w16.heap.size by omega); have b19 := g19.below b18 (show w.heap.size ≤ w16.heap.size by omega); have Z19 := g19.but.blk Z18 Z18.lt (show w9.heap.size + 1 ≠ w16.heap.size by omega); clear g19 X18 Y18 b18)
    | (refine at_put rfl 38 _ _ rfl rfl (w16.heap.size + 1) rfl (flt 0 0) rfl Y19 rfl szFt (flt_one _ _) ?_; rintro w20 g20; have Y20 := g20.blk; have X20 := g20.but.blk X19 X19.lt (show w16.heap.size ≠ w16.heap.size + 1 by omega); have b20 := g20.below b19 (show w.heap.size ≤ w16.heap.size + 1 by omega); have Z20 := g20.but.blk Z19 Z19.lt (show w9.heap.size + 1 ≠ w16.heap.size + 1 by omega);  clear g20 X19 Y19 b19))
  refine wp_region_lit ?_
  repeat (first
    | go_skip
    | (refine at_mid rfl 38 _ rfl (w9.heap.size + 1) 0 rfl Z20 (flt 4 (pk cut f_len : Nat)) rfl _ Try.underlying38 rfl szFt ?_)
    | (refine at_mid rfl 38 _ rfl (w16.heap.size + 1) 0 rfl Y20 (flt 0 0) rfl _ Try.underlying38 rfl szFt ?_)
    | (refine at_bldW rfl 38 #[(0, .const (.int .i64 4)), (1, .tmp 82)] rfl (flt 4 (pk cut f_len : Nat)) (by kernel_rfl) ?_)
    | (refine at_cmp rfl .eql 38 _ _ rfl (.agg (flt 4 (pk cut f_len : Nat)).toArray) (.agg (flt 4 (pk cut f_len : Nat)).toArray) rfl rfl true (by kernel_rfl) (by rw [eqlT]; simp) ?_)
    | (refine at_bldW rfl 38 #[] rfl (flt 0 0) (by kernel_rfl) ?_)
    | (refine at_cmp rfl .eql 38 _ _ rfl (.agg (flt 0 0).toArray) (.agg (flt 0 0).toArray) rfl rfl true (by kernel_rfl) (by rw [eqlT]; simp) ?_)
    | go_guarded | go_step | go_upon)
  go_wp2
  go_ret
  exact ⟨rfl, b20⟩
set_option maxHeartbeats 4000000 in
theorem only_n (xs : List Int) (ho : Oct xs) (v : Value) (cut : Int) (zs : List Int) (u : Value) (w : World) (hv : Seg w v xs) (hu : Seg w u zs) (D : FL) (f_len : Nat) (hxl : xs.length = f_len) (hx0 : 0 < f_len) (hcut : -9223372036854775808 ≤ cut ∧ cut ≤ 9223372036854775807) (h0 : xs.length ≤ 300) (h1 : zs.length ≤ 300) (hz : 0 < zs.length)
    (hR : ∀ w' v, Seg w' v xs → Calls Try.prog 17 #[v] w' fun r w'' => r = .returned (.tuple #[.agg D.cs.toArray, .agg (flt 0 0).toArray]) ∧ Below w'.heap.size w' w'')
    (hB : ∀ w', Calls Try.prog 16 #[.agg D.cs.toArray] w' fun r w'' => ∃ v, r = .returned (.tuple #[v, .int .i64 0]) ∧ DatB w'.heap.size w'' v xs ∧ Below w'.heap.size w' w'')
    (hR2 : ∀ w' v c, c < xs.length → Seg w' v (xs.take c) → Calls Try.prog 17 #[v] w' fun r w'' => r = .returned (.tuple #[.agg F0.cs.toArray, .agg (flt 4 c).toArray]) ∧ Below w'.heap.size w' w'')
    (hR3 : ∀ w' v, Seg w' v (xs ++ zs) → Calls Try.prog 17 #[v] w' fun r w'' => r = .returned (.tuple #[.agg F0.cs.toArray, .agg (flt 5 (f_len : Int)).toArray]) ∧ Below w'.heap.size w' w'') : Calls Try.prog 7 #[v, .int .i64 cut, u] w fun r w' => r = .returned (.bool true) ∧ Below w.heap.size w w' := by
  have HX0 := Lib.hid (show xs ≠ [] by intro e; rw [e] at hxl; simp at hxl; omega)
  have hP := fun w => pick_eq cut f_len hx0 (by omega) hcut w
  have hp0 := pk_lt cut f_len hx0
  have hp : pk cut f_len < xs.length := by omega
  clear hp0
  have HP2 := Lib.hid hp
  have q0 : decide ((300 : Int) < xs.length) = false := by simp; omega
  have q1 : decide ((300 : Int) < zs.length) = false := by simp; omega
  have HV := Lib.hid hv
  have HU := Lib.hid hu
  obtain ⟨va, vc, rfl, -⟩ := id hv
  obtain ⟨ua, uc, rfl, -⟩ := id hu
  clear hv hu
  have hlz : ((zs.length : Int) == 0) = false := by rw [beq_eq_false_iff_ne]; omega
  have hlz2 : decide ((0 : Int) < zs.length) = true := by simp; omega
  rw [hxl] at q0
  have HXL := Lib.hid hxl
  have H300 := Lib.hid h0
  have HZ := Lib.hid h1
  rw [hxl]
  clear hp hxl h0 h1 hcut
  go_enter Try.func7, Try.ntmps7
  go_wp2_with (go_at_call 15; refine (lives_is w).mono ?_; rintro e w2 ⟨rfl, b2⟩)
  go_at_call 17
  refine (hR w2 _ (by rw [← HXL.out]; exact HV.out.below b2)).mono ?_
  rintro e w3 ⟨rfl, k3⟩
  have b3 := b2.trans (k3.mono b2.size)
  clear k3 b2 hR
  go_wp2_with (first
    | (refine at_new rfl 36 F0.cs rfl run_newFr ?_; rintro w4 X4 k4 s4; have FB3 := b3.size; have b4 := b3.trans (k4.mono b3.size); clear k4 b3; try go_simp)
    | (refine at_new rfl 38 FZ rfl run_newFt ?_; rintro w5 Y5 k5 s5; rw [s4] at Y5; have X5 := X4.below k5 X4.lt; have b5 := b4.trans (k5.mono b4.size); have S5 := Lib.hid s5; clear k5 b4 X4 s5; try go_simp)
    | (refine at_put rfl 36 _ _ rfl rfl w3.heap.size rfl (FL.cs D) rfl X5 rfl szF (cs_one _) ?_; rintro w6 g6; have X6 := g6.blk; have Y6 := g6.but.blk Y5 Y5.lt (show w3.heap.size + 1 ≠ w3.heap.size by omega); have b6 := g6.below b5 (show w.heap.size ≤ w3.heap.size by omega); clear g6 X5 Y5 b5)
    | (refine at_put rfl 38 _ _ rfl rfl (w3.heap.size + 1) rfl (flt 0 0) rfl Y6 rfl szFt (flt_one _ _) ?_; rintro w7 g7; have Y7 := g7.blk; have X7 := g7.but.blk X6 X6.lt (show w3.heap.size ≠ w3.heap.size + 1 by omega); have b7 := g7.below b6 (show w.heap.size ≤ w3.heap.size + 1 by omega); have c0 := Blk.cell Y7 0 (v := .int .i64 0) rfl; clear g7 X6 Y6 b6)
    | (refine at_mid rfl 36 _ rfl w3.heap.size 0 rfl X7 (FL.cs D) rfl _ Try.underlying36 rfl szF ?_))
  go_at_call 16
  refine (hB w7).mono ?_
  rintro e w8 ⟨x, rfl, d8, k8⟩
  have b8 := b7.trans (k8.mono b7.size)
  have hs1 := dat_string d8.dat HX0.out
  have hs2 := seg_string (HV.out.below b8) HX0.out
  obtain ⟨xa, xc, rfl⟩ := d8.dat.shape
  rw [HXL.out] at hs1 hs2 ⊢
  generalize strOfNums xs = str at hs1 hs2
  obtain ⟨sv, hsr, hss⟩ := slice_b (HV.out.below b8) (pk cut f_len) (Nat.le_of_lt HP2.out)
  rw [HXL.out] at hsr
  clear k8 b7 hB d8 X7 Y7 c0
  go_wp2_with (first
    | (go_at_call 27; refine (hP w8).mono ?_; rintro e w' ⟨rfl, hw⟩; obtain rfl := hw.symm; clear hP)
    | (refine at_sliceH rfl 23 under_b _ _ rfl (.slice va f_len vc) (.int .i64 (pk cut f_len : Nat)) sv rfl rfl hsr ?_))
  go_at_call 17
  refine (hR2 w8 sv _ HP2.out hss).mono ?_
  rintro e w9 ⟨rfl, k9⟩
  have b9 := b8.trans (k9.mono b8.size)
  clear k9 b8 hR2 hss hsr hs1 hs2
  go_wp2_with (first
    | (refine at_new rfl 36 F0.cs rfl run_newFr ?_; rintro w10 X10 k10 s10; have FB9 := b9.size; have b10 := b9.trans (k10.mono b9.size); clear k10 b9; try go_simp)
    | (refine at_new rfl 38 FZ rfl run_newFt ?_; rintro w11 Y11 k11 s11; rw [s10] at Y11; have X11 := X10.below k11 X10.lt; have b11 := b10.trans (k11.mono b10.size); have S11 := Lib.hid s11; clear k11 b10 X10 s11; try go_simp)
    | (refine at_put rfl 36 _ _ rfl rfl w9.heap.size rfl (FL.cs F0) rfl X11 rfl szF (cs_one _) ?_; rintro w12 g12; have X12 := g12.blk; have Y12 := g12.but.blk Y11 Y11.lt (show w9.heap.size + 1 ≠ w9.heap.size by omega); have b12 := g12.below b11 (show w.heap.size ≤ w9.heap.size by omega); clear g12 X11 Y11 b11)
    | (refine at_put rfl 38 _ _ rfl rfl (w9.heap.size + 1) rfl (flt 4 (pk cut f_len : Nat)) rfl Y12 rfl szFt (flt_one _ _) ?_; rintro w13 g13; have Y13 := g13.blk; have X13 := g13.but.blk X12 X12.lt (show w9.heap.size ≠ w9.heap.size + 1 by omega); have b13 := g13.below b12 (show w.heap.size ≤ w9.heap.size + 1 by omega);  clear g13 X12 Y12 b12))
  go_at_call 18
  refine (own_is w13 _ xs (by rw [← HXL.out]; exact HV.out.below b13) (by have := H300.out; omega)).mono ?_
  rintro e w14 ⟨ov, rfl, d14, k14⟩
  have b14 := b13.trans (k14.mono b13.size)
  have Y14 := Y13.below k14 Y13.lt
  have l14 := Y14.lt
  obtain ⟨av, w15, hr, hd, hg⟩ := append_any w14 23 w13.heap.size ov _ xs zs d14 (HU.out.below b14) k14.size (by have := H300.out; have := HZ.out; omega)
  have k15 : Below w13.heap.size w14 w15 := (Below.refl _ _).grown hg k14.size fun q hq => (World.ownsRow.lt d14 q hq).1
  have b15 : Below w.heap.size w w15 := b14.trans (k15.mono b13.size)
  have Y15 := Y14.below k15 Y13.lt
  have l15 := Y15.lt
  obtain ⟨oa, oc, rfl⟩ := d14.dat.shape
  clear k14 b13 Y13 X13 b14 Y14 hg d14 k15
  go_wp2_with (at_builtin; refine Lib.wpList_append_run _ rfl (.tmp 75) (.tmp 76) 23 23 rfl _ _ rfl rfl _ _ hr ?_)
  go_at_call 17
  refine (hR3 w15 av hd.dat.seg).mono ?_
  rintro e w16 ⟨rfl, k16⟩
  have b16 := b15.trans (k16.mono b15.size)
  have Z16 := Y15.below k16 l15
  have l16 := Z16.lt
  clear k16 b15 Y15 hR3 hd hr
  go_upto_region 14 with (first
    | (refine at_new rfl 36 F0.cs rfl run_newFr ?_; rintro w17 X17 k17 s17; have FB16 := b16.size; have b17 := b16.trans (k17.mono b16.size); have Z17 := Z16.below k17 Z16.lt; clear k17 b16; try go_simp)
    | (refine at_new rfl 38 FZ rfl run_newFt ?_; rintro w18 Y18 k18 s18; rw [s17] at Y18; have X18 := X17.below k18 X17.lt; have b18 := b17.trans (k18.mono b17.size); have Z18 := Z17.below k18 Z17.lt; have S18 := Lib.hid s18; clear k18 b17 X17 s18; try go_simp)
    | (refine at_put rfl 36 _ _ rfl rfl w16.heap.size rfl (FL.cs F0) rfl X18 rfl szF (cs_one _) ?_; rintro w19 g19; have X19 := g19.blk; have Y19 := g19.but.blk Y18 Y18.lt (show w16.heap.size + 1 ≠ w16.heap.size by omega); have b19 := g19.below b18 (show w.heap.size ≤ w16.heap.size by omega); have Z19 := g19.but.blk Z18 Z18.lt (show w9.heap.size + 1 ≠ w16.heap.size by omega); clear g19 X18 Y18 b18)
    | (refine at_put rfl 38 _ _ rfl rfl (w16.heap.size + 1) rfl (flt 5 (f_len : Int)) rfl Y19 rfl szFt (flt_one _ _) ?_; rintro w20 g20; have Y20 := g20.blk; have X20 := g20.but.blk X19 X19.lt (show w16.heap.size ≠ w16.heap.size + 1 by omega); have b20 := g20.below b19 (show w.heap.size ≤ w16.heap.size + 1 by omega); have Z20 := g20.but.blk Z19 Z19.lt (show w9.heap.size + 1 ≠ w16.heap.size + 1 by omega);  clear g20 X19 Y19 b19))
  refine wp_region_lit ?_
  repeat (first
    | go_skip
    | (refine at_mid rfl 38 _ rfl (w9.heap.size + 1) 0 rfl Z20 (flt 4 (pk cut f_len : Nat)) rfl _ Try.underlying38 rfl szFt ?_)
    | (refine at_mid rfl 38 _ rfl (w16.heap.size + 1) 0 rfl Y20 (flt 5 (f_len : Int)) rfl _ Try.underlying38 rfl szFt ?_)
    | (refine at_bldW rfl 38 #[(0, .const (.int .i64 4)), (1, .tmp 82)] rfl (flt 4 (pk cut f_len : Nat)) (by kernel_rfl) ?_)
    | (refine at_cmp rfl .eql 38 _ _ rfl (.agg (flt 4 (pk cut f_len : Nat)).toArray) (.agg (flt 4 (pk cut f_len : Nat)).toArray) rfl rfl true (by kernel_rfl) (by rw [eqlT]; simp) ?_)
    | (refine at_bldW rfl 38 #[(0, .const (.int .i64 5)), (1, .tmp 101)] rfl (flt 5 (f_len : Int)) (by kernel_rfl) ?_)
    | (refine at_cmp rfl .eql 38 _ _ rfl (.agg (flt 5 (f_len : Int)).toArray) (.agg (flt 5 (f_len : Int)).toArray) rfl rfl true (by kernel_rfl) (by rw [eqlT]; simp) ?_)
    | go_guarded | go_step | go_upon)
  go_wp2
  go_ret
  exact ⟨rfl, b20⟩
end Go.Proofs.Ytgpjelcihmbiiaa
