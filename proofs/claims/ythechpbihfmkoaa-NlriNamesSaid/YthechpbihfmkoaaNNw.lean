/- NlriNames: the law's walk. No condition. -/
import Derived.Test.YthechpbihfmkoaaNNl
namespace Go.Proofs.Ythechpbihfmkoaa
open Go.RowKit Go.Sort
set_option linter.unusedVariables false
set_option linter.unusedSimpArgs false
set_option maxRecDepth 100000

set_option maxHeartbeats 2000000 in
theorem names_is (w : World) : Calls Try.prog 3 #[] w fun r w' => r = .returned (.bool true) ∧ Below w.heap.size w w' := by
  have hM := fun w => bytes_ok exM exM_ok exM_chk w
  go_enter Try.func3, Try.ntmps3
  go_wp2_with fail
  go_at_call 9
  refine (lives_is w).mono ?_
  rintro r w1 ⟨rfl, k1⟩
  go_wp2_with (refine at_build rfl _ rfl exM (by kernel_rfl) ?_)
  go_at_call 10
  refine (hM _).mono ?_
  rintro r w2 ⟨vb, rfl, Db, k2⟩
  have hcv := dat_string Db (by rw [exM_code]; decide)
  rw [exS_is] at hcv
  go_wp2_with fail
  go_at_call 11
  refine (times_is _).mono ?_
  rintro r w3 ⟨rfl, k3⟩
  go_wp2_with fail
  rw [exS_app]
  clear hM hcv
  go_at_call 12
  refine (read_a _ _ (seg_lit w3 [3, 17, 0])).mono ?_
  rintro r wr1 ⟨rfl, kr1⟩
  have K1 : Below w3.heap.size w3 wr1 := ((Below.refl _ w3).alloc (Nat.le_refl _) _).trans (kr1.mono (by simp))
  go_wp2_with (first
    | (refine at_newF rfl rfl ?_; rintro wn1 fn1 kn1 sn1; clear sn1; go_simp)
    | (refine at_storeF rfl _ _ rfl rfl wr1.heap.size rfl 0 0 _ _ rfl fn1 ?_; rintro x1 F1 bn1 zn1; clear zn1; have Q1 := But.below kn1 bn1 (Nat.le_refl _) kn1.size; clear fn1 bn1))
  go_at_call 12
  refine (read_b _ _ (seg_lit x1 [6, 0])).mono ?_
  rintro r wr2 ⟨rfl, kr2⟩
  have K2 : Below x1.heap.size x1 wr2 := ((Below.refl _ x1).alloc (Nat.le_refl _) _).trans (kr2.mono (by simp))
  go_wp2_with (first
    | (refine at_newF rfl rfl ?_; rintro wn2 fn2 kn2 sn2; clear sn2; go_simp)
    | (refine at_storeF rfl _ _ rfl rfl wr2.heap.size rfl 0 0 _ _ rfl fn2 ?_; rintro x2 F2 bn2 zn2; clear zn2; have Q2 := But.below kn2 bn2 (Nat.le_refl _) kn2.size; clear fn2 bn2))
  go_at_call 12
  refine (read_c _ _ (seg_lit x2 [3, 0])).mono ?_
  rintro r wr3 ⟨rfl, kr3⟩
  have K3 : Below x2.heap.size x2 wr3 := ((Below.refl _ x2).alloc (Nat.le_refl _) _).trans (kr3.mono (by simp))
  go_wp2_with (first
    | (refine at_newF rfl rfl ?_; rintro wn3 fn3 kn3 sn3; clear sn3; go_simp)
    | (refine at_storeF rfl _ _ rfl rfl wr3.heap.size rfl 0 0 _ _ rfl fn3 ?_; rintro x3 F3 bn3 zn3; clear zn3; have Q3 := But.below kn3 bn3 (Nat.le_refl _) kn3.size; clear fn3 bn3)
    | (refine at_conv rfl _ rfl exS rfl exM.code exS_code (by rw [exM_code]; decide) ?_; rintro v8 w8 c8 k8)
    | (at_builtin; obtain ⟨v9, w9, hr9, S9, k9⟩ := append_cv (w8.alloc (.cells #[.int .u8 1] 5)) 23 x3.heap.size v8 exM.code w8.heap.size 1 1 (c8.below ((Below.refl _ w8).alloc (Nat.le_refl _) _)) (World.cell?_alloc_at _ _ _ _ rfl) (by have := k8.size; simp; omega) (by rw [exM_code]; decide); refine Lib.wpList_append_run _ rfl _ _ 23 23 rfl _ _ rfl rfl _ _ hr9 ?_))
  go_at_call 12
  refine (read_d v9 w9 S9).mono ?_
  rintro r wr4 ⟨rfl, kr4⟩
  have K4 : Below x3.heap.size x3 wr4 := ((k8.trans ((Below.refl x3.heap.size w8).alloc k8.size _)).trans k9).trans (kr4.mono ((k8.trans ((Below.refl x3.heap.size w8).alloc k8.size _)).trans k9).size)
  clear hr9 S9 c8
  go_wp2_with (first
    | (refine at_newF rfl rfl ?_; rintro wn4 fn4 kn4 sn4; clear sn4; go_simp)
    | (refine at_storeF rfl _ _ rfl rfl wr4.heap.size rfl 0 0 _ _ rfl fn4 ?_; rintro x4 F4 bn4 zn4; clear zn4; have Q4 := But.below kn4 bn4 (Nat.le_refl _) kn4.size; clear fn4 bn4)
    | (refine at_conv rfl _ rfl exS rfl exM.code exS_code (by rw [exM_code]; decide) ?_; rintro v10 w10 c10 k10))
  go_at_call 12
  refine (read_e v10 w10 c10.seg).mono ?_
  rintro r wr5 ⟨V, rfl, hV, kr5⟩
  have K5 : Below x4.heap.size x4 wr5 := k10.trans (kr5.mono k10.size)
  obtain ⟨gV, cV, rfl⟩ := ownsRow_succ (k := 0) hV
  clear c10
  simp only [Nat.zero_add] at hV ⊢
  go_wp2_with (first
    | (refine at_newF rfl rfl ?_; rintro wn5 fn5 kn5 sn5; clear sn5; go_simp)
    | (refine at_storeF rfl _ _ rfl rfl wr5.heap.size rfl 0 0 _ _ rfl fn5 ?_; rintro x5 F5 bn5 zn5; clear zn5; have Q5 := But.below kn5 bn5 (Nat.le_refl _) kn5.size; clear fn5 bn5))
  go_at_call 14
  refine (rd_is _).mono ?_
  rintro e wq ⟨rfl, hq⟩
  obtain rfl := hq
  go_wp2_with fail
  go_at_call 13
  refine (rdof_yes _).mono ?_
  rintro e wq ⟨rfl, hq⟩
  obtain rfl := hq
  go_wp2_with fail
  go_at_call 13
  refine (rdof_no _).mono ?_
  rintro e wq ⟨rfl, hq⟩
  obtain rfl := hq
  go_wp2_with (first
    | (refine at_lit10 rfl (.tmp 73) (.tmp 74) (.tmp 75) (.tmp 76) (.tmp 77) (.tmp 78) (.tmp 79) (.tmp 80) (.tmp 82) (.tmp 84) rfl rfl rfl rfl rfl rfl rfl rfl rfl rfl rfl ?_; rintro wz hz kz)
    | (refine at_errs rfl rfl ?_; rintro wy hy ky sy))
  have hbz : x5.heap.size < wz.heap.size := (Array.getElem?_eq_some_iff.1 hz).1
  have Hy := Lib.hid hy
  have Hz := Lib.hid (fun i hi => bad_range hz i hi)
  have c5 : Below x5.heap.size x5 wy := kz.trans (ky.mono kz.size)
  have c4 : Below x4.heap.size x4 x5 := K5.trans (Q5.mono K5.size)
  have c3 : Below x3.heap.size x3 x4 := K4.trans (Q4.mono K4.size)
  have c2 : Below x2.heap.size x2 x3 := K3.trans (Q3.mono K3.size)
  have c1 : Below x1.heap.size x1 x2 := K2.trans (Q2.mono K2.size)
  have c0 : Below w3.heap.size w3 x1 := K1.trans (Q1.mono K1.size)
  have d4 : Below x4.heap.size x4 wy := c4.trans (c5.mono c4.size)
  have d3 : Below x3.heap.size x3 wy := c3.trans (d4.mono c3.size)
  have d2 : Below x2.heap.size x2 wy := c2.trans (d3.mono c2.size)
  have d1 : Below x1.heap.size x1 wy := c1.trans (d2.mono c1.size)
  have d0 : Below w3.heap.size w3 wy := c0.trans (d1.mono c0.size)
  have dd : Below w2.heap.size w2 wy := k3.trans (d0.mono k3.size)
  have dw : Below w.heap.size w wy := (k1.trans (k2.mono k1.size)).trans (dd.mono (k1.trans (k2.mono k1.size)).size)
  have G1 := F1.below d1
  have G2 := F2.below d2
  have G3 := F3.below d3
  have G4 := F4.below d4
  have G5 := F5.below c5
  have Dy := Db.below dd
  have Vy : NuN w10.heap.size wy (.slice (some ⟨gV, 0, none⟩) 1 cV) [exM] := (hV.below Q5).below c5
  clear F1 F2 F3 F4 F5 Db hV k1 k2 k3 kr1 kr2 kr3 kr4 kr5 K1 K2 K3 K4 K5 Q1 Q2 Q3 Q4 Q5 kn1 kn2 kn3 kn4 kn5 k8 k9 k10 c0 c1 c2 c3 c4 c5 d0 d1 d2 d3 d4 dd hy hz kz
  go_loopw [22] (fun v22 wr => ∃ i : Nat, i ≤ 10 ∧ v22 = .int .i64 i ∧ Below wy.heap.size wy wr) (fun v22 _ => 10 - (intOf v22).toNat)
  case atStart => exact ⟨0, by omega, rfl, Below.refl _ _⟩
  case round =>
    obtain ⟨i, hi, rfl, hB⟩ := hrel
    by_cases hlt : i < 10
    · have hil : (i : Int) < 10 := by omega
      have r1 := rangeN hbz (Hz.out i hlt) (ky.trans (hB.mono ky.size))
      have z1 : wz.heap.size < wr.heap.size := by have := hB.size; omega
      have e1 := (hB.cell (p := ⟨wz.heap.size, i, none⟩) (by show wz.heap.size < _; omega)).trans (Hy.out i hlt)
      have e1 : wr.cell? ⟨wz.heap.size, i, none⟩ = some (.int .i64 (errs.getD i 0)) := e1
      have hC := fun w => check_is (bad i) w
      rw [bad_chk i hlt] at hC
      generalize errs.getD i 0 = e at e1 hC
      have e2 := cellE (w := wr) z1 e1
      have hee : (e != e) = false := by simp
      generalize bad i = N at r1 hC
      clear G1 G2 G3 G4 G5 Dy Vy dw
      go_wp2_with fail
      refine wp_region_qb (by kernel_rfl) (by kernel_rfl) ?_
      repeat (first
        | go_big_quiet_skip
        | (go_big_quiet_want; refine q_loadN (.tmp 95) rfl x5.heap.size (i * 21) rfl N r1 ?_; go_simp; go_big_quiet_on)
        | (go_big_quiet_want; refine q_loadE (.tmp 100) rfl wz.heap.size i rfl e e2 ?_; go_simp; go_big_quiet_on)
        | (go_big_quiet_want; refine q_loadE (.tmp 100) rfl wz.heap.size (0 + i) rfl e (by rw [Nat.zero_add]; exact e2) ?_; go_simp; go_big_quiet_on)
        | (go_big_quiet_want; refine q_loadN (.tmp 95) rfl x5.heap.size (0 + i * 21) rfl N (by rw [Nat.zero_add]; exact r1) ?_; go_simp; go_big_quiet_on)
        | (go_big_quiet_want; go_big_quiet_op; first | go_big_quiet_on | go_big_quiet_call (with_reducible exact Calls.regrown_of (hC _)))
        | (go_big_quiet_step (fail)))
      refine wpQuiet_nil ?_
      intro w' hw'
      have hb2 := hB.trans (hw'.mono hB.size)
      clear r1 e1 e2 z1 hee hC hw' hB
      go_wp2
      go_roundw
      case rel => exact ⟨i + 1, by omega, by go_num, hb2⟩
      case measure => simp [intOf]; omega
    · obtain rfl : i = 10 := by omega
      obtain ⟨g1, h1⟩ := (G1.below hB).cells
      obtain ⟨g2, h2⟩ := (G2.below hB).cells
      obtain ⟨g3, h3⟩ := (G3.below hB).cells
      obtain ⟨g4, h4⟩ := (G4.below hB).cells
      obtain ⟨g5, h5⟩ := (G5.below hB).cells
      have hcv := dat_string (Dy.below hB) (by rw [exM_code]; decide)
      rw [exS_is] at hcv
      have hl : wr.cell? ⟨gV, 19, none⟩ = some (.int .u32 100) := World.ownsRow.cells (Vy.below hB) (g := gV) rfl 19 _ rfl
      have hw := dw.trans (hB.mono dw.size)
      clear G1 G2 G3 G4 G5 Dy Vy dw hB Hy Hz ky sy
      go_wp2
      go_ret
      exact ⟨rfl, hw⟩
end Go.Proofs.Ythechpbihfmkoaa
