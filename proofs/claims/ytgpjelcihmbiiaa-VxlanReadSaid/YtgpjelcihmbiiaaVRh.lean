/- The headers of a packet that is read. No condition. -/
import Derived.Test.YtgpjelcihmbiiaaVLv
namespace Go.Proofs.Ytgpjelcihmbiiaa
open Go.RowKit
set_option linter.unusedVariables false
set_option linter.unusedSimpArgs false
set_option maxRecDepth 100000

/-- The port of the header of UDP. -/
def pn (xs : List Int) : Int := xs.getD 22 0 * 256 + xs.getD 23 0
def hfE (xs : List Int) : Int := if xs.length < 36 then 4 else if xs.getD 9 0 ≠ 17 then 6 else if pn xs ≠ 4789 then 6 else 0
def hfA (xs : List Int) : Int := if xs.length < 36 then xs.length else if xs.getD 9 0 ≠ 17 then 9 else if pn xs ≠ 4789 then 22 else 0
theorem seg_cell {w : World} {b o n c : Nat} {xs : List Int} (h : Seg w (.slice (some ⟨b, o, none⟩) n c) xs) (i : Nat) (hi : i < xs.length) : w.cell? ⟨b, o + i, none⟩ = some (.int .u8 (xs.getD i 0)) := by
  obtain ⟨b', o', e, -, -, hx⟩ := Seg.some h (by omega)
  cases e
  exact hx i hi
set_option maxHeartbeats 1000000 in
theorem head_1 (xs : List Int) (ho : Oct xs) (hl : xs.length ≤ 1000000) (h : xs.length < 36) (v : Value) (w : World) (hv : Seg w v xs) : Calls Try.prog 55 #[v] w fun r w' => r = .returned (.agg (flt 4 (xs.length : Int)).toArray) ∧ Below w.heap.size w w' := by
  have HV := Lib.hid hv
  obtain ⟨va, vc, rfl, -⟩ := id hv
  have hlen : (xs.length : Int) < 36 := by omega
  clear hv
  go_enter Try.func55, Try.ntmps55
  go_wp2_with (first
    | (refine at_new rfl 38 FZ rfl run_newFt ?_; rintro w1 H1 k1 s1)
    | (refine at_bld rfl 38 _ rfl (flt 4 (xs.length : Int)) (by kernel_rfl) ?_)
    | (refine at_put rfl 38 _ _ rfl rfl w.heap.size rfl (flt 4 (xs.length : Int)) rfl H1 rfl szFt (flt_one _ _) ?_; rintro w2 g2; have H2 := g2.blk; have b2 := g2.below k1 (Nat.le_refl _)))
  exact bodyPost_ret (results_cell_row (by rfl) _ _ w.heap.size _ (flt 4 (xs.length : Int)).toArray _ _ rfl H2 Try.underlying38 rfl szFt) rfl ⟨rfl, b2⟩
set_option maxHeartbeats 1000000 in
theorem head_2 (xs : List Int) (ho : Oct xs) (hl : xs.length ≤ 1000000) (h : 36 ≤ xs.length) (h9 : xs.getD 9 0 ≠ 17) (v : Value) (w : World) (hv : Seg w v xs) : Calls Try.prog 55 #[v] w fun r w' => r = .returned (.agg (flt 6 9).toArray) ∧ Below w.heap.size w w' := by
  have HV := Lib.hid hv
  obtain ⟨va, vc, rfl, -⟩ := id hv
  have hlen : ¬ (xs.length : Int) < 36 := by omega
  have hl9 : (9 : Int) < xs.length := by omega
  have hl22 : (22 : Int) < xs.length := by omega
  have hl23 : (23 : Int) < xs.length := by omega
  obtain ⟨bb, oo, rfl, -⟩ := Seg.some hv (by omega)
  clear hv
  have o9 := ho.getD 9
  have e9 := fun w' h => seg_cell (w := w') (b := bb) (o := oo) (n := xs.length) (c := vc) (xs := xs) h 9 (by omega)
  have q9 : (xs.getD 9 0 != 17) = true := by simpa using h9
  generalize xs.getD 9 0 = x9 at *
  have E9 := Lib.hid e9
  clear h9 h hl ho e9
  go_enter Try.func55, Try.ntmps55
  go_wp2_with (first
    | (refine at_new rfl 38 FZ rfl run_newFt ?_; rintro w1 H1 k1 s1; have c9 := E9.out _ (HV.out.below k1))
    | (refine at_bld rfl 38 _ rfl (flt 6 9) (by kernel_rfl) ?_)
    | (refine at_put rfl 38 _ _ rfl rfl w.heap.size rfl (flt 6 9) rfl H1 rfl szFt (flt_one _ _) ?_; rintro w2 g2; have H2 := g2.blk; have b2 := g2.below k1 (Nat.le_refl _)))
  exact bodyPost_ret (results_cell_row (by rfl) _ _ w.heap.size _ (flt 6 9).toArray _ _ rfl H2 Try.underlying38 rfl szFt) rfl ⟨rfl, b2⟩
set_option maxHeartbeats 1000000 in
theorem head_3 (xs : List Int) (ho : Oct xs) (hl : xs.length ≤ 1000000) (h : 36 ≤ xs.length) (h9 : xs.getD 9 0 = 17) (hp : pn xs ≠ 4789) (v : Value) (w : World) (hv : Seg w v xs) : Calls Try.prog 55 #[v] w fun r w' => r = .returned (.agg (flt 6 22).toArray) ∧ Below w.heap.size w w' := by
  have HV := Lib.hid hv
  obtain ⟨va, vc, rfl, -⟩ := id hv
  have hlen : ¬ (xs.length : Int) < 36 := by omega
  have hl9 : (9 : Int) < xs.length := by omega
  have hl22 : (22 : Int) < xs.length := by omega
  have hl23 : (23 : Int) < xs.length := by omega
  obtain ⟨bb, oo, rfl, -⟩ := Seg.some hv (by omega)
  clear hv
  have o9 := ho.getD 9
  have e9 := fun w' h => seg_cell (w := w') (b := bb) (o := oo) (n := xs.length) (c := vc) (xs := xs) h 9 (by omega)
  have o22 := ho.getD 22
  have o23 := ho.getD 23
  have e22 := fun w' h => seg_cell (w := w') (b := bb) (o := oo) (n := xs.length) (c := vc) (xs := xs) h 22 (by omega)
  have e23 := fun w' h => seg_cell (w := w') (b := bb) (o := oo) (n := xs.length) (c := vc) (xs := xs) h 23 (by omega)
  unfold pn at hp
  rw [h9] at e9
  generalize xs.getD 22 0 = x at *
  generalize xs.getD 23 0 = y at *
  have hor := or_i64 x y o22.1 o22.2 o23.1 o23.2
  have hxm : x * 256 < 65536 := by omega
  have qp : (x * 256 + y != 4789) = true := by simpa using hp
  generalize x * 256 + y = s at *
  have E9 := Lib.hid e9; have E22 := Lib.hid e22; have E23 := Lib.hid e23
  clear h9 h hl ho e9 e22 e23 hp o9
  go_enter Try.func55, Try.ntmps55
  go_upto_region 5 with (first
    | (refine at_new rfl 38 FZ rfl run_newFt ?_; rintro w1 H1 k1 s1; have c9 := E9.out _ (HV.out.below k1); have c22 := E22.out _ (HV.out.below k1); have c23 := E23.out _ (HV.out.below k1)))
  go_quiet (fail)
  go_wp2_with (first
    | (refine at_bld rfl 38 _ rfl (flt 6 22) (by kernel_rfl) ?_)
    | (refine at_put rfl 38 _ _ rfl rfl w.heap.size rfl (flt 6 22) rfl H1 rfl szFt (flt_one _ _) ?_; rintro w2 g2; have H2 := g2.blk; have b2 := g2.below (k1.trans (below_drewN _ _ _)) (Nat.le_refl _)))
  exact bodyPost_ret (results_cell_row (by rfl) _ _ w.heap.size _ (flt 6 22).toArray _ _ rfl H2 Try.underlying38 rfl szFt) rfl ⟨rfl, b2⟩
set_option maxHeartbeats 1000000 in
theorem head_4 (xs : List Int) (ho : Oct xs) (hl : xs.length ≤ 1000000) (h : 36 ≤ xs.length) (h9 : xs.getD 9 0 = 17) (hp : pn xs = 4789) (v : Value) (w : World) (hv : Seg w v xs) : Calls Try.prog 55 #[v] w fun r w' => r = .returned (.agg (flt 0 0).toArray) ∧ Below w.heap.size w w' := by
  have HV := Lib.hid hv
  obtain ⟨va, vc, rfl, -⟩ := id hv
  have hlen : ¬ (xs.length : Int) < 36 := by omega
  have hl9 : (9 : Int) < xs.length := by omega
  have hl22 : (22 : Int) < xs.length := by omega
  have hl23 : (23 : Int) < xs.length := by omega
  obtain ⟨bb, oo, rfl, -⟩ := Seg.some hv (by omega)
  clear hv
  have o9 := ho.getD 9
  have e9 := fun w' h => seg_cell (w := w') (b := bb) (o := oo) (n := xs.length) (c := vc) (xs := xs) h 9 (by omega)
  have o22 := ho.getD 22
  have o23 := ho.getD 23
  have e22 := fun w' h => seg_cell (w := w') (b := bb) (o := oo) (n := xs.length) (c := vc) (xs := xs) h 22 (by omega)
  have e23 := fun w' h => seg_cell (w := w') (b := bb) (o := oo) (n := xs.length) (c := vc) (xs := xs) h 23 (by omega)
  unfold pn at hp
  rw [h9] at e9
  generalize xs.getD 22 0 = x at *
  generalize xs.getD 23 0 = y at *
  have hor := or_i64 x y o22.1 o22.2 o23.1 o23.2
  have hxm : x * 256 < 65536 := by omega
  rw [hp] at hor
  have E9 := Lib.hid e9; have E22 := Lib.hid e22; have E23 := Lib.hid e23
  clear h9 h hl ho e9 e22 e23 hp o9
  go_enter Try.func55, Try.ntmps55
  go_upto_region 5 with (first
    | (refine at_new rfl 38 FZ rfl run_newFt ?_; rintro w1 H1 k1 s1; have c9 := E9.out _ (HV.out.below k1); have c22 := E22.out _ (HV.out.below k1); have c23 := E23.out _ (HV.out.below k1)))
  go_quiet (fail)
  go_wp2_with (first
    | (refine at_bld rfl 38 _ rfl (flt 0 0) (by kernel_rfl) ?_)
    | (refine at_put rfl 38 _ _ rfl rfl w.heap.size rfl (flt 0 0) rfl H1 rfl szFt (flt_one _ _) ?_; rintro w2 g2; have H2 := g2.blk; have b2 := g2.below (k1.trans (below_drewN _ _ _)) (Nat.le_refl _)))
  exact bodyPost_ret (results_cell_row (by rfl) _ _ w.heap.size _ (flt 0 0).toArray _ _ rfl H2 Try.underlying38 rfl szFt) rfl ⟨rfl, b2⟩
theorem head_is (xs : List Int) (ho : Oct xs) (hl : xs.length ≤ 1000000) (v : Value) (w : World) (hv : Seg w v xs) : Calls Try.prog 55 #[v] w fun r w' => r = .returned (.agg (flt (hfE xs) (hfA xs)).toArray) ∧ Below w.heap.size w w' := by
  by_cases h : xs.length < 36
  · have e1 : hfE xs = 4 := by unfold hfE; rw [if_pos h]
    have e2 : hfA xs = xs.length := by unfold hfA; rw [if_pos h]
    rw [e1, e2]
    exact head_1 xs ho hl h v w hv
  by_cases h9 : xs.getD 9 0 ≠ 17
  · have e1 : hfE xs = 6 := by unfold hfE; rw [if_neg h, if_pos h9]
    have e2 : hfA xs = 9 := by unfold hfA; rw [if_neg h, if_pos h9]
    rw [e1, e2]
    exact head_2 xs ho hl (by omega) h9 v w hv
  by_cases hp : pn xs ≠ 4789
  · have e1 : hfE xs = 6 := by unfold hfE; rw [if_neg h, if_neg h9, if_pos hp]
    have e2 : hfA xs = 22 := by unfold hfA; rw [if_neg h, if_neg h9, if_pos hp]
    rw [e1, e2]
    exact head_3 xs ho hl (by omega) (by omega) hp v w hv
  have e1 : hfE xs = 0 := by unfold hfE; rw [if_neg h, if_neg h9, if_neg hp]
  have e2 : hfA xs = 0 := by unfold hfA; rw [if_neg h, if_neg h9, if_neg hp]
  rw [e1, e2]
  exact head_4 xs ho hl (by omega) (by omega) (by omega) v w hv
theorem u32_one : (Try.prog.info? 29).map (·.size) = some 1 := by kernel_rfl
/-- What the headers say. -/
def hdP (xs : List Int) : PL := ⟨tk xs 12 4, tk xs 16 4, tk xs 8 1, tk xs 20 2, tk xs 32 3, tk xs 29 3, F0⟩
set_option maxHeartbeats 4000000 in
theorem headers_is (xs : List Int) (ho : Oct xs) (hl : xs.length = 36) (v : Value) (w : World) (hv : Seg w v xs) : Calls Try.prog 57 #[v] w fun r w' => r = .returned (hdP xs).v ∧ Below w.heap.size w w' := by
  have R0 := fun w rb (h : Rdr w rb (ra xs 0)) => rd_U64 w rb (ra xs 0) h
  rw [ra_next 0 8 8 rfl (by omega), ra_part 0 8 8 rfl (by omega)] at R0
  have R1 := fun w rb (h : Rdr w rb (ra xs 8)) => rd_U8 w rb (ra xs 8) h
  rw [ra_next 8 1 1 rfl (by omega), ra_part 8 1 1 rfl (by omega)] at R1
  have z1 : 0 ≤ tk xs 8 1 ∧ tk xs 8 1 < 256 := by have := tk_lt ho 8 1 (by omega); simpa using this
  have R2 := fun w rb (h : Rdr w rb (ra xs 9)) => rd_U24 w rb (ra xs 9) h
  rw [ra_next 9 3 3 rfl (by omega), ra_part 9 3 3 rfl (by omega)] at R2
  have R3 := fun w rb (h : Rdr w rb (ra xs 12)) => rd_U32 w rb (ra xs 12) h
  rw [ra_next 12 4 4 rfl (by omega), ra_part 12 4 4 rfl (by omega)] at R3
  have z3 : 0 ≤ tk xs 12 4 ∧ tk xs 12 4 < 4294967296 := by have := tk_lt ho 12 4 (by omega); simpa using this
  have R4 := fun w rb (h : Rdr w rb (ra xs 16)) => rd_U32 w rb (ra xs 16) h
  rw [ra_next 16 4 4 rfl (by omega), ra_part 16 4 4 rfl (by omega)] at R4
  have z4 : 0 ≤ tk xs 16 4 ∧ tk xs 16 4 < 4294967296 := by have := tk_lt ho 16 4 (by omega); simpa using this
  have R5 := fun w rb (h : Rdr w rb (ra xs 20)) => rd_U16 w rb (ra xs 20) h
  rw [ra_next 20 2 2 rfl (by omega), ra_part 20 2 2 rfl (by omega)] at R5
  have z5 : 0 ≤ tk xs 20 2 ∧ tk xs 20 2 < 65536 := by have := tk_lt ho 20 2 (by omega); simpa using this
  have R6 := fun w rb (h : Rdr w rb (ra xs 22)) => rd_U48 w rb (ra xs 22) h
  rw [ra_next 22 6 6 rfl (by omega), ra_part 22 6 6 rfl (by omega)] at R6
  have R7 := fun w rb (h : Rdr w rb (ra xs 28)) => rd_U8 w rb (ra xs 28) h
  rw [ra_next 28 1 1 rfl (by omega), ra_part 28 1 1 rfl (by omega)] at R7
  have R8 := fun w rb (h : Rdr w rb (ra xs 29)) => rd_U24 w rb (ra xs 29) h
  rw [ra_next 29 3 3 rfl (by omega), ra_part 29 3 3 rfl (by omega)] at R8
  have z8 : 0 ≤ tk xs 29 3 ∧ tk xs 29 3 < 16777216 := by have := tk_lt ho 29 3 (by omega); simpa using this
  have R9 := fun w rb (h : Rdr w rb (ra xs 32)) => rd_U24 w rb (ra xs 32) h
  rw [ra_next 32 3 3 rfl (by omega), ra_part 32 3 3 rfl (by omega)] at R9
  have z9 : 0 ≤ tk xs 32 3 ∧ tk xs 32 3 < 16777216 := by have := tk_lt ho 32 3 (by omega); simpa using this
  have RN := fun w h => rd_New w v xs h ho (by omega)
  have HX := Lib.hid ho
  have HV := Lib.hid hv
  unfold hdP PL.v
  generalize tk xs 8 1 = ttl at *
  generalize tk xs 12 4 = src at *
  generalize tk xs 16 4 = dst at *
  generalize tk xs 20 2 = ent at *
  generalize tk xs 29 3 = mark at *
  generalize tk xs 32 3 = vni at *
  obtain ⟨va, vc, rfl, -⟩ := id hv
  clear hv ho hl
  go_enter Try.func57, Try.ntmps57
  go_upto_region 1 with (refine at_new rfl 55 P0.cs rfl run_newPk ?_; rintro w1 Y1 k1 s1)
  go_wp2_with (refine at_new rfl 55 P0.cs rfl run_newPk ?_; rintro w2 X2 k2 s2; rw [s1] at X2; have Y2 := Y1.below k2 Y1.lt; have b2 := k1.trans (k2.mono k1.size); have S2 := Lib.hid s2; clear k1 k2 Y1 s2; try go_simp)
  go_at_call 73
  refine (RN w2 (HV.out.below b2)).mono ?_
  rintro e w3 ⟨rb, rfl, hrb3, r3, k3⟩
  have hrb : w.heap.size ≤ rb := Nat.le_trans b2.size hrb3
  have b3 := b2.trans (k3.mono b2.size)
  have x3 := X2.below k3 X2.lt
  have y3 := Y2.below k3 Y2.lt
  have r3 : Rdr w3 rb (ra xs 0) := r3
  clear b2 X2 Y2 k3 RN hrb3
  go_wp2_with fail
  go_at_call 74
  refine (R0 w3 rb r3).mono ?_
  rintro e w4 ⟨rfl, r4, q4⟩
  have x4 := r3.keep q4 x3 (by decide)
  have y4 := r3.keep q4 y3 (by decide)
  have b4 := But.bel b3 q4 hrb b3.size
  clear r3 q4 x3 b3 y3 R0
  go_wp2_with fail
  go_at_call 75
  refine (R1 w4 rb r4).mono ?_
  rintro e w5 ⟨rfl, r5, q5⟩
  have x5 := r4.keep q5 x4 (by decide)
  have y5 := r4.keep q5 y4 (by decide)
  have b5 := But.bel b4 q5 hrb b4.size
  clear r4 q5 x4 b4 y4 R1
  go_wp2_with (refine at_set rfl 3 _ _ rfl rfl (w.heap.size + 1) 2 rfl 55 (PL.cs (PL.mk 0 0 0 0 0 0 F0)) (PL.cs (PL.mk 0 0 ttl 0 0 0 F0)) (.int .i64 ttl) rfl x5 rfl rfl rfl int_one (show 2 < 21 by decide) ?_; rintro w6 g6; have r6 := r5.but g6.but x5 (by decide) (by decide); have b6 := g6.below b5 (Nat.le_succ _); have x6 := g6.blk; have y6 := g6.but.blk y5 y5.lt (show w.heap.size ≠ w.heap.size + 1 by omega); clear r5 b5 x5 g6 y5)
  go_wp2_with fail
  go_at_call 76
  refine (R2 w6 rb r6).mono ?_
  rintro e w7 ⟨rfl, r7, q7⟩
  have x7 := r6.keep q7 x6 (by decide)
  have y7 := r6.keep q7 y6 (by decide)
  have b7 := But.bel b6 q7 hrb b6.size
  clear r6 q7 x6 b6 y6 R2
  go_wp2_with fail
  go_at_call 77
  refine (R3 w7 rb r7).mono ?_
  rintro e w8 ⟨rfl, r8, q8⟩
  have x8 := r7.keep q8 x7 (by decide)
  have y8 := r7.keep q8 y7 (by decide)
  have b8 := But.bel b7 q8 hrb b7.size
  clear r7 q8 x7 b7 y7 R3
  go_wp2_with (refine at_set rfl 30 _ _ rfl rfl (w.heap.size + 1) 0 rfl 55 (PL.cs (PL.mk 0 0 ttl 0 0 0 F0)) (PL.cs (PL.mk src 0 ttl 0 0 0 F0)) (.int .u32 src) rfl x8 rfl rfl rfl ip_one (show 0 < 21 by decide) ?_; rintro w9 g9; have r9 := r8.but g9.but x8 (by decide) (by decide); have b9 := g9.below b8 (Nat.le_succ _); have x9 := g9.blk; have y9 := g9.but.blk y8 y8.lt (show w.heap.size ≠ w.heap.size + 1 by omega); clear r8 b8 x8 g9 y8)
  go_wp2_with fail
  go_at_call 77
  refine (R4 w9 rb r9).mono ?_
  rintro e w10 ⟨rfl, r10, q10⟩
  have x10 := r9.keep q10 x9 (by decide)
  have y10 := r9.keep q10 y9 (by decide)
  have b10 := But.bel b9 q10 hrb b9.size
  clear r9 q10 x9 b9 y9 R4
  go_wp2_with (refine at_set rfl 30 _ _ rfl rfl (w.heap.size + 1) 1 rfl 55 (PL.cs (PL.mk src 0 ttl 0 0 0 F0)) (PL.cs (PL.mk src dst ttl 0 0 0 F0)) (.int .u32 dst) rfl x10 rfl rfl rfl ip_one (show 1 < 21 by decide) ?_; rintro w11 g11; have r11 := r10.but g11.but x10 (by decide) (by decide); have b11 := g11.below b10 (Nat.le_succ _); have x11 := g11.blk; have y11 := g11.but.blk y10 y10.lt (show w.heap.size ≠ w.heap.size + 1 by omega); clear r10 b10 x10 g11 y10)
  go_wp2_with fail
  go_at_call 78
  refine (R5 w11 rb r11).mono ?_
  rintro e w12 ⟨rfl, r12, q12⟩
  have x12 := r11.keep q12 x11 (by decide)
  have y12 := r11.keep q12 y11 (by decide)
  have b12 := But.bel b11 q12 hrb b11.size
  clear r11 q12 x11 b11 y11 R5
  go_wp2_with (refine at_set rfl 3 _ _ rfl rfl (w.heap.size + 1) 3 rfl 55 (PL.cs (PL.mk src dst ttl 0 0 0 F0)) (PL.cs (PL.mk src dst ttl ent 0 0 F0)) (.int .i64 ent) rfl x12 rfl rfl rfl int_one (show 3 < 21 by decide) ?_; rintro w13 g13; have r13 := r12.but g13.but x12 (by decide) (by decide); have b13 := g13.below b12 (Nat.le_succ _); have x13 := g13.blk; have y13 := g13.but.blk y12 y12.lt (show w.heap.size ≠ w.heap.size + 1 by omega); clear r12 b12 x12 g13 y12)
  go_wp2_with fail
  go_at_call 79
  refine (R6 w13 rb r13).mono ?_
  rintro e w14 ⟨rfl, r14, q14⟩
  have x14 := r13.keep q14 x13 (by decide)
  have y14 := r13.keep q14 y13 (by decide)
  have b14 := But.bel b13 q14 hrb b13.size
  clear r13 q14 x13 b13 y13 R6
  go_wp2_with fail
  go_at_call 75
  refine (R7 w14 rb r14).mono ?_
  rintro e w15 ⟨rfl, r15, q15⟩
  have x15 := r14.keep q15 x14 (by decide)
  have y15 := r14.keep q15 y14 (by decide)
  have b15 := But.bel b14 q15 hrb b14.size
  clear r14 q15 x14 b14 y14 R7
  go_wp2_with fail
  go_at_call 76
  refine (R8 w15 rb r15).mono ?_
  rintro e w16 ⟨rfl, r16, q16⟩
  have x16 := r15.keep q16 x15 (by decide)
  have y16 := r15.keep q16 y15 (by decide)
  have b16 := But.bel b15 q16 hrb b15.size
  clear r15 q16 x15 b15 y15 R8
  go_wp2_with (refine at_set rfl 29 _ _ rfl rfl (w.heap.size + 1) 5 rfl 55 (PL.cs (PL.mk src dst ttl ent 0 0 F0)) (PL.cs (PL.mk src dst ttl ent 0 mark F0)) (.int .u32 mark) rfl x16 rfl rfl rfl u32_one (show 5 < 21 by decide) ?_; rintro w17 g17; have r17 := r16.but g17.but x16 (by decide) (by decide); have b17 := g17.below b16 (Nat.le_succ _); have x17 := g17.blk; have y17 := g17.but.blk y16 y16.lt (show w.heap.size ≠ w.heap.size + 1 by omega); clear r16 b16 x16 g17 y16)
  go_wp2_with fail
  go_at_call 76
  refine (R9 w17 rb r17).mono ?_
  rintro e w18 ⟨rfl, r18, q18⟩
  have x18 := r17.keep q18 x17 (by decide)
  have y18 := r17.keep q18 y17 (by decide)
  have b18 := But.bel b17 q18 hrb b17.size
  clear r17 q18 x17 b17 y17 R9
  go_wp2_with (first
    | (refine at_set rfl 29 _ _ rfl rfl (w.heap.size + 1) 4 rfl 55 (PL.cs (PL.mk src dst ttl ent 0 mark F0)) (PL.cs (PL.mk src dst ttl ent vni mark F0)) (.int .u32 vni) rfl x18 rfl rfl rfl u32_one (show 4 < 21 by decide) ?_; rintro w19 g19; have r19 := r18.but g19.but x18 (by decide) (by decide); have b19 := g19.below b18 (Nat.le_succ _); have x19 := g19.blk; have y19 := g19.but.blk y18 y18.lt (show w.heap.size ≠ w.heap.size + 1 by omega); clear r18 b18 x18 g19 y18)
    | (refine at_mid rfl 55 _ rfl (w.heap.size + 1) 0 rfl x19 (PL.cs (PL.mk src dst ttl ent vni mark F0)) rfl _ Try.underlying55 rfl szP ?_)
    | (refine at_put rfl 55 _ _ rfl rfl w.heap.size rfl (PL.cs (PL.mk src dst ttl ent vni mark F0)) rfl y19 rfl szP (pcs_one _) ?_; rintro w20 g20; have y20 := g20.blk; have b20 := g20.below b19 (Nat.le_refl _); clear b19 x19 y19 g20))
  exact bodyPost_ret (results_cell_row (by rfl) _ _ w.heap.size _ (PL.cs (PL.mk src dst ttl ent vni mark F0)).toArray _ _ rfl y20 Try.underlying55 rfl szP) rfl ⟨rfl, b20⟩
end Go.Proofs.Ytgpjelcihmbiiaa
