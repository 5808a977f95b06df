/- PacketNames: the walk. No condition. -/
import Derived.Test.YtomhojcnphmdcaaPNl
import Derived.Test.YtomhojcnphmdcaaPOx
namespace Go.Proofs.Ytomhojcnphmdcaa
open Go.RowKit Go.Sort
set_option linter.unusedVariables false
set_option linter.unusedSimpArgs false
set_option maxRecDepth 100000

theorem at_sliceW {ops : Array Oper} {rest : List Oper} {o : Oper} {a : Act} {w : World} {Q : Exit → Act → World → Prop} (hw : Region.wanted o (yielded ops a.tmps) = true) (ty : TypeId) (x l h : Operand) (ho : o.op = .slice ty x (some l) (some h) none) (v lo hi v1 : Value) (hx : a.eval x = v) (hl : a.eval l = lo) (hh : a.eval h = hi) (hr : (Instr.sliceAt ty v (some lo) (some hi) none).run Try.prog w = .ok v1 w)
    (k : wpList Try.prog ops Q rest (a.put o.dst v1) w) : wpList Try.prog ops Q (o :: rest) a w :=
  wpList_wanted hw fun _ hK => by
    unfold Oper.wp execOp
    simp only [ho, Option.map_some, Option.map_none, hx, hl, hh, Sem.run_bind, hr, Sem.run_pure, Result.andThen_ok]
    exact hK _ _ k
set_option maxHeartbeats 4000000 in
theorem names_is (w : World) : Calls Try.prog 3 #[] w fun r w' => r = .returned (.bool true) ∧ Below w.heap.size w w' := by
  have hM := fun w => bytes_ok ex ex_ok ex_chk w
  have hl : ex.enc.length = 42 := by rw [ex_enc]; rfl
  have hmk13 : ∀ w, (Instr.makeSlice 23 (.int .i64 13) (.int .i64 13)).run Try.prog w = .ok (.slice (some ⟨w.heap.size, 0, none⟩) 13 13) (w.alloc (.cells #[.int .u8 0, .int .u8 0, .int .u8 0, .int .u8 0, .int .u8 0, .int .u8 0, .int .u8 0, .int .u8 0, .int .u8 0, .int .u8 0, .int .u8 0, .int .u8 0, .int .u8 0] 5)) := fun _ => by kernel_rfl
  have hmk14 : ∀ w, (Instr.makeSlice 23 (.int .i64 14) (.int .i64 14)).run Try.prog w = .ok (.slice (some ⟨w.heap.size, 0, none⟩) 14 14) (w.alloc (.cells #[.int .u8 0, .int .u8 0, .int .u8 0, .int .u8 0, .int .u8 0, .int .u8 0, .int .u8 0, .int .u8 0, .int .u8 0, .int .u8 0, .int .u8 0, .int .u8 0, .int .u8 0, .int .u8 0] 5)) := fun _ => by kernel_rfl
  have hR1 := fun w v h => read_short [0, 0, 0, 0, 0, 0, 0, 0, 0, 0, 0, 0, 0] (by unfold Oct; decide) (by decide) (by decide) v w h
  have hR2 := fun w v h => read_type [0, 0, 0, 0, 0, 0, 0, 0, 0, 0, 0, 0, 0, 0] (by unfold Oct; decide) (by decide) (by decide) (by decide) v w h
  have hR3 := fun w v h => read_cut ex ex_ok ex_chk 41 (by rw [hl]; decide) v w h
  have hR4 := fun w v h => read_long ex ex_ok ex_chk [0] (by decide) (by unfold Oct; decide) (by decide) v w h
  rw [hl] at hR4
  unfold FL.v at hR1 hR2 hR3 hR4
  have HR3 := Lib.hid hR3; have HR4 := Lib.hid hR4; have HR1 := Lib.hid hR1; have HR2 := Lib.hid hR2
  clear hR1 hR2 hR3 hR4
  have hs : strOfNums ((ex.enc.drop 14).take 20) = (⟨#[69, 0, 0, 28, 0, 0, 0, 0, 64, 1, 102, 221, 10, 1, 0, 1, 10, 1, 0, 2]⟩ : ByteArray) := by rw [ex_enc]; rfl
  have hlp : ((ex.enc.drop 14).take 20).length = 20 := by rw [ex_enc]; rfl
  have HSO := Lib.hid (show ((ex.enc.drop 14).take 20) ≠ [] by intro e; rw [e] at hlp; simp at hlp)
  have HS := Lib.hid hs
  have HX := Lib.hid hl
  unfold FL.v ex at hM
  generalize hxs : FL.enc (FL.mk 2199023255552 0 2 0 0 0 0 0 167837697 167837698 64 1 0 0 0) = xs at hM
  have HXS := Lib.hid (show ex.enc = xs from hxs)
  have HX2 := Lib.hid (show xs.length = 42 by rw [← hxs]; exact hl)
  clear hs hlp hl hxs
  go_enter Try.func3, Try.ntmps3
  go_wp2_with (go_at_call 9; refine (lives_is w).mono ?_; rintro e w2 ⟨rfl, b2⟩)
  go_at_call 10
  refine (hM w2).mono ?_
  rintro r w3 ⟨vb, rfl, db, k3⟩
  have b3 := b2.trans (k3.mono b2.size)
  obtain ⟨sv, hsr, hss⟩ := dat_slice db.dat 14 20 (by rw [HX2.out]; decide)
  rw [show ((14 : Nat) : Int) = 14 from rfl, show ((20 : Nat) : Int) = 20 from rfl, show (14 : Int) + 20 = 34 from rfl] at hsr
  rw [← HXS.out] at hss
  have hcv := seg_string hss HSO.out
  rw [HS.out] at hcv
  obtain ⟨va, vc, hve⟩ := db.dat.shape
  rw [HX2.out] at hve
  subst hve
  have hsr' : (Instr.sliceAt 23 (.slice va 42 vc) (some (.int .i64 14)) (some (.int .i64 34)) none).run Try.prog w3 = .ok sv w3 := by rw [run_sliceAt_slice _ _ _ _ _ _ under_b]; exact hsr
  clear k3 b2 hM hsr
  go_upto_region 4 with fail
  refine wp_region_lit ?_
  repeat (first
    | go_skip
    | (refine at_sliceW rfl 23 _ _ _ rfl (.slice va 42 vc) (.int .i64 14) (.int .i64 34) sv rfl rfl rfl hsr' ?_)
    | go_guarded | go_step | go_upon)
  clear hsr' hcv hss
  go_wp2_with fail
  go_at_call 11
  refine (HR1.out _ _ (seg_lit w3 [0, 0, 0, 0, 0, 0, 0, 0, 0, 0, 0, 0, 0])).mono ?_
  rintro e r1 ⟨rfl, k1⟩
  have K1 : Below w3.heap.size w3 r1 := ((Below.refl _ w3).alloc (Nat.le_refl _) _).trans (k1.mono (by simp))
  clear k1
  go_wp2_with (first
    | (refine at_new rfl 36 F0.cs rfl run_newFr ?_; rintro a1 X11 ka1 sa1; go_simp)
    | (refine at_new rfl 38 FZ rfl run_newFt ?_; rintro b1 Y12 kb1 sb1; rw [sa1] at Y12; have X12 := X11.below kb1 X11.lt; have Q12 := ka1.trans (kb1.mono ka1.size); clear ka1 kb1 X11 sb1; try go_simp)
    | (refine at_put rfl 36 _ _ rfl rfl r1.heap.size rfl F0.cs rfl X12 rfl szF (cs_one _) ?_; rintro c1 gc1; have Y13 := gc1.but.blk Y12 Y12.lt (show r1.heap.size + 1 ≠ r1.heap.size by omega); have Q13 := gc1.below Q12 (Nat.le_refl _); clear gc1 X12 Y12 Q12)
    | (refine at_put rfl 38 _ _ rfl rfl (r1.heap.size + 1) rfl (flt 4 13) rfl Y13 rfl szFt (flt_one _ _) ?_; rintro x1 gd1; have Y1 := gd1.blk; have Q1 := gd1.below Q13 (Nat.le_succ _); clear gd1 Y13 Q13))
  go_at_call 11
  refine (HR2.out _ _ (seg_lit x1 [0, 0, 0, 0, 0, 0, 0, 0, 0, 0, 0, 0, 0, 0])).mono ?_
  rintro e r2 ⟨rfl, k2⟩
  have K2 : Below x1.heap.size x1 r2 := ((Below.refl _ x1).alloc (Nat.le_refl _) _).trans (k2.mono (by simp))
  have b41 : Below w.heap.size w r2 := (b3.trans ((K1.trans (Q1.mono K1.size)).mono b3.size)).trans (K2.mono (b3.trans ((K1.trans (Q1.mono K1.size)).mono b3.size)).size)
  clear k2
  have D41 : DatB w2.heap.size r2 (.slice va 42 vc) xs := ((db.below K1).below Q1).below K2
  obtain ⟨s41, hs41, hg41⟩ := slice_b D41.dat.seg 41 (by rw [HX2.out]; decide)
  rw [show ((41 : Nat) : Int) = 41 from rfl] at hs41
  go_wp2_with (first
    | (refine at_new rfl 36 F0.cs rfl run_newFr ?_; rintro a2 X21 ka2 sa2; go_simp)
    | (refine at_new rfl 38 FZ rfl run_newFt ?_; rintro b2 Y22 kb2 sb2; rw [sa2] at Y22; have X22 := X21.below kb2 X21.lt; have Q22 := ka2.trans (kb2.mono ka2.size); clear ka2 kb2 X21 sb2; try go_simp)
    | (refine at_put rfl 36 _ _ rfl rfl r2.heap.size rfl F0.cs rfl X22 rfl szF (cs_one _) ?_; rintro c2 gc2; have Y23 := gc2.but.blk Y22 Y22.lt (show r2.heap.size + 1 ≠ r2.heap.size by omega); have Q23 := gc2.below Q22 (Nat.le_refl _); clear gc2 X22 Y22 Q22)
    | (refine at_put rfl 38 _ _ rfl rfl (r2.heap.size + 1) rfl (flt 6 12) rfl Y23 rfl szFt (flt_one _ _) ?_; rintro x2 gd2; have Y2 := gd2.blk; have Q2 := gd2.below Q23 (Nat.le_succ _); clear gd2 Y23 Q23)
    | (refine at_sliceH rfl 23 under_b _ _ rfl (.slice va 42 vc) (.int .i64 41) s41 rfl rfl hs41 ?_))
  go_at_call 11
  refine (HR3.out x2 s41 (by rw [HXS.out]; exact hg41.below Q2)).mono ?_
  rintro e r3 ⟨rfl, k3⟩
  have b42 : Below w.heap.size w r3 := (b41.trans (Q2.mono b41.size)).trans (k3.mono (b41.trans (Q2.mono b41.size)).size)
  have K3 : Below x2.heap.size x2 r3 := k3
  have D42 : DatB w2.heap.size r3 (.slice va 42 vc) xs := (D41.below Q2).below k3
  clear k3 hs41 hg41 D41
  go_wp2_with (first
    | (refine at_new rfl 36 F0.cs rfl run_newFr ?_; rintro a3 X31 ka3 sa3; go_simp)
    | (refine at_new rfl 38 FZ rfl run_newFt ?_; rintro b3 Y32 kb3 sb3; rw [sa3] at Y32; have X32 := X31.below kb3 X31.lt; have Q32 := ka3.trans (kb3.mono ka3.size); clear ka3 kb3 X31 sb3; try go_simp)
    | (refine at_put rfl 36 _ _ rfl rfl r3.heap.size rfl F0.cs rfl X32 rfl szF (cs_one _) ?_; rintro c3 gc3; have Y33 := gc3.but.blk Y32 Y32.lt (show r3.heap.size + 1 ≠ r3.heap.size by omega); have Q33 := gc3.below Q32 (Nat.le_refl _); clear gc3 X32 Y32 Q32)
    | (refine at_put rfl 38 _ _ rfl rfl (r3.heap.size + 1) rfl (flt 4 41) rfl Y33 rfl szFt (flt_one _ _) ?_; rintro x3 gd3; have Y3 := gd3.blk; have Q3 := gd3.below Q33 (Nat.le_succ _); clear gd3 Y33 Q33))
  go_at_call 12
  refine (own_is x3 _ xs (D42.below Q3).dat.seg (by rw [HX2.out]; decide)).mono ?_
  rintro e w14 ⟨ov, rfl, d14, k14⟩
  have hsg := seg_lit w14 [0]
  have k14a : Below w14.heap.size w14 (w14.alloc (.cells ([0].map (Value.int .u8)).toArray 5)) := (Below.refl _ _).alloc (Nat.le_refl _) _
  obtain ⟨av, w15, hr, hd, hg⟩ := append_any (w14.alloc (.cells ([0].map (Value.int .u8)).toArray 5)) 23 x3.heap.size ov _ xs [0] (d14.below k14a) hsg (Nat.le_trans k14.size k14a.size) (by rw [HX2.out]; decide)
  have k15 : Below x3.heap.size (w14.alloc (.cells ([0].map (Value.int .u8)).toArray 5)) w15 := (Below.refl _ _).grown hg (Nat.le_trans k14.size k14a.size) fun q hq => (World.ownsRow.lt (d14.below k14a) q hq).1
  have KA : Below x3.heap.size x3 w15 := (k14.trans (k14a.mono k14.size)).trans k15
  obtain ⟨oa, oc, rfl⟩ := d14.dat.shape
  clear hg d14 k14 k14a k15 hsg D42
  go_wp2_with (at_builtin; refine Lib.wpList_append_run _ rfl (.tmp 53) (.tmp 54) 23 23 rfl _ _ rfl rfl _ _ hr ?_)
  go_at_call 11
  refine (HR4.out w15 av (by rw [HXS.out]; exact hd.dat.seg)).mono ?_
  rintro e r4 ⟨rfl, k4⟩
  have K4 : Below x3.heap.size x3 r4 := KA.trans (k4.mono KA.size)
  clear k4 KA hd hr hmk13 hmk14
  go_wp2_with (first
    | (refine at_new rfl 36 F0.cs rfl run_newFr ?_; rintro a4 X41 ka4 sa4; go_simp)
    | (refine at_new rfl 38 FZ rfl run_newFt ?_; rintro b4 Y42 kb4 sb4; rw [sa4] at Y42; have X42 := X41.below kb4 X41.lt; have Q42 := ka4.trans (kb4.mono ka4.size); clear ka4 kb4 X41 sb4; try go_simp)
    | (refine at_put rfl 36 _ _ rfl rfl r4.heap.size rfl F0.cs rfl X42 rfl szF (cs_one _) ?_; rintro c4 gc4; have Y43 := gc4.but.blk Y42 Y42.lt (show r4.heap.size + 1 ≠ r4.heap.size by omega); have Q43 := gc4.below Q42 (Nat.le_refl _); clear gc4 X42 Y42 Q42)
    | (refine at_put rfl 38 _ _ rfl rfl (r4.heap.size + 1) rfl (flt 5 42) rfl Y43 rfl szFt (flt_one _ _) ?_; rintro x4 gd4; have Y4 := gd4.blk; have Q4 := gd4.below Q43 (Nat.le_succ _); clear gd4 Y43 Q43)
    | (refine at_lit12 rfl (.tmp 59) (.tmp 60) (.tmp 61) (.tmp 62) (.tmp 64) (.tmp 66) (.tmp 67) (.tmp 69) (.tmp 71) (.tmp 73) (.tmp 75) (.tmp 77) rfl rfl rfl rfl rfl rfl rfl rfl rfl rfl rfl rfl rfl ?_; rintro wz hz kz)
    | (refine at_errs rfl rfl ?_; rintro wy hy ky sy))
  have hbz : x4.heap.size < wz.heap.size := (Array.getElem?_eq_some_iff.1 hz).1
  have Hy := Lib.hid hy
  have Hz := Lib.hid (fun i hi => bad_range hz i hi)
  have c4 : Below x4.heap.size x4 wy := kz.trans (ky.mono kz.size)
  have c3 : Below x3.heap.size x3 x4 := K4.trans (Q4.mono K4.size)
  have d3 := c3.trans (c4.mono c3.size)
  have c2 : Below x2.heap.size x2 x3 := K3.trans (Q3.mono K3.size)
  have d2 := c2.trans (d3.mono c2.size)
  have c1 : Below x1.heap.size x1 x2 := K2.trans (Q2.mono K2.size)
  have d1 := c1.trans (d2.mono c1.size)
  have dx : Below w.heap.size w x3 := b42.trans (Q3.mono b42.size)
  have dw : Below w.heap.size w wy := dx.trans (d3.mono dx.size)
  have G1 := Y1.below d1 Y1.lt
  have G2 := Y2.below d2 Y2.lt
  have G3 := Y3.below d3 Y3.lt
  have G4 := Y4.below c4 Y4.lt
  have l1 := G1.lt
  have l2 := G2.lt
  have l3 := G3.lt
  have l4 := G4.lt
  clear Y1 Y2 Y3 Y4 Q1 Q2 Q3 Q4 K1 K2 K3 K4 b3 b41 b42 db c1 c2 c3 c4 d1 d2 d3 dx hy hz kz HR1 HR2 HR3 HR4 HSO HS HX HXS HX2
  go_loopw [13] (fun v13 wr => ∃ i : Nat, i ≤ 12 ∧ v13 = .int .i64 i ∧ Below wy.heap.size wy wr) (fun v13 _ => 12 - (intOf v13).toNat)
  case atStart => exact ⟨0, by omega, rfl, Below.refl _ _⟩
  case round =>
    obtain ⟨i, hi, rfl, hB⟩ := hrel
    by_cases hlt : i < 12
    · have hil : (i : Int) < 12 := by omega
      have r1' := rangeF hbz (Hz.out i hlt) (ky.trans (hB.mono ky.size))
      have z1 : wz.heap.size < wr.heap.size := by have := hB.size; omega
      have e1 := (hB.cell (p := ⟨wz.heap.size, i, none⟩) (by show wz.heap.size < _; omega)).trans (Hy.out i hlt)
      have e1 : wr.cell? ⟨wz.heap.size, i, none⟩ = some (.int .i64 (errs.getD i 0)) := e1
      have hC := fun w => check_is (bad i) w
      rw [bad_chk i hlt] at hC
      generalize errs.getD i 0 = e at e1 hC
      have e2 := cellE (w := wr) z1 e1
      have hee : (e != e) = false := by simp
      generalize bad i = N at r1' hC
      unfold FL.v at hC
      clear G1 G2 G3 G4 dw l1 l2 l3 l4
      go_wp2_with fail
      refine wp_region_qb (by kernel_rfl) (by kernel_rfl) ?_
      repeat (first
        | go_big_quiet_skip
        | (go_big_quiet_want; refine q_loadF (.tmp 88) rfl x4.heap.size (i * 15) rfl N r1' ?_; go_simp; go_big_quiet_on)
        | (go_big_quiet_want; refine q_loadE (.tmp 93) rfl wz.heap.size i rfl e e2 ?_; go_simp; go_big_quiet_on)
        | (go_big_quiet_want; refine q_loadE (.tmp 93) rfl wz.heap.size (0 + i) rfl e (by rw [Nat.zero_add]; exact e2) ?_; go_simp; go_big_quiet_on)
        | (go_big_quiet_want; refine q_loadF (.tmp 88) rfl x4.heap.size (0 + i * 15) rfl N (by rw [Nat.zero_add]; exact r1') ?_; go_simp; go_big_quiet_on)
        | (go_big_quiet_want; go_big_quiet_op; first | go_big_quiet_on | go_big_quiet_call (with_reducible exact Calls.regrown_of (hC _)))
        | (go_big_quiet_step (fail)))
      refine wpQuiet_nil ?_
      intro w' hw'
      have hb2 := hB.trans (hw'.mono hB.size)
      clear r1' e1 e2 z1 hee hC hw' hB
      go_wp2
      go_roundw
      case rel => exact ⟨i + 1, by omega, by go_num, hb2⟩
      case measure => simp [intOf]; omega
    · obtain rfl : i = 12 := by omega
      have F1 := G1.below hB l1
      have F2 := G2.below hB l2
      have F3 := G3.below hB l3
      have F4 := G4.below hB l4
      have hw := dw.trans (hB.mono dw.size)
      have hS0 := fun w => sum_is [] (.slice none 0 0) w (Seg.nil w) (by unfold Oct; simp) (by simp)
      rw [show sumI [] = 65535 by decide] at hS0
      have hS1 := fun v w h => sum_is [1] v w h (by unfold Oct; decide) (by decide)
      rw [show sumI [1] = 65279 by decide] at hS1
      have hP1 := fun w => ported_is 17 w
      rw [show pt 17 = true by decide] at hP1
      have hP2 := fun w => ported_is 1 w
      rw [show pt 1 = false by decide] at hP2
      clear G1 G2 G3 G4 dw hB Hy Hz ky sy l1 l2 l3 l4 hbz
      go_upto_region 17 with fail
      refine wp_region_lit ?_
      repeat (first
        | go_skip
        | (refine at_mid rfl 38 _ rfl (r1.heap.size + 1) 0 rfl F1 (flt 4 13) rfl _ Try.underlying38 rfl szFt ?_)
        | (refine at_mid rfl 38 _ rfl (r2.heap.size + 1) 0 rfl F2 (flt 6 12) rfl _ Try.underlying38 rfl szFt ?_)
        | (refine at_mid rfl 38 _ rfl (r3.heap.size + 1) 0 rfl F3 (flt 4 41) rfl _ Try.underlying38 rfl szFt ?_)
        | (refine at_mid rfl 38 _ rfl (r4.heap.size + 1) 0 rfl F4 (flt 5 42) rfl _ Try.underlying38 rfl szFt ?_)
        | (refine at_cmp rfl .eql 38 _ _ rfl (.agg (flt 4 13).toArray) (.agg (flt 4 13).toArray) rfl rfl true (by kernel_rfl) (by rw [eqlT]; simp) ?_)
        | (refine at_cmp rfl .eql 38 _ _ rfl (.agg (flt 6 12).toArray) (.agg (flt 6 12).toArray) rfl rfl true (by kernel_rfl) (by rw [eqlT]; simp) ?_)
        | (refine at_cmp rfl .eql 38 _ _ rfl (.agg (flt 4 41).toArray) (.agg (flt 4 41).toArray) rfl rfl true (by kernel_rfl) (by rw [eqlT]; simp) ?_)
        | (refine at_cmp rfl .eql 38 _ _ rfl (.agg (flt 5 42).toArray) (.agg (flt 5 42).toArray) rfl rfl true (by kernel_rfl) (by rw [eqlT]; simp) ?_)
        | (go_at_call 14; (with_reducible refine (hS0 _).mono ?_); rintro e wa ⟨rfl, ka⟩; have ha := hw.trans (ka.mono hw.size); dsimp only)
        | (go_at_call 14; (refine (hS1 _ _ (seg_lit wa [1])).mono ?_); rintro e wb ⟨rfl, kb⟩; have hb := ha.trans ((((Below.refl _ wa).alloc (Nat.le_refl _) _).trans (kb.mono (by simp))).mono ha.size); dsimp only)
        | (go_at_call 15; (with_reducible refine (hP1 _).mono ?_); rintro e w' ⟨rfl, hwq⟩; obtain rfl := hwq.symm; dsimp only)
        | (go_at_call 15; (with_reducible refine (hP2 _).mono ?_); rintro e w' ⟨rfl, hwq⟩; obtain rfl := hwq.symm; dsimp only)
        | go_guarded | go_step | go_upon)
      go_wp2
      go_ret
      exact ⟨rfl, hb⟩
end Go.Proofs.Ytomhojcnphmdcaa
