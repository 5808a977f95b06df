/- AddrTexts: the law's walk. The listed variables hold what the program's text lays. -/
import Derived.Test.YtipmfcbpkbkceaaDoorTxl
import Derived.Deep.CutBlock
import Derived.Deep.DeepCutAuto
import Derived.RegionTactic
namespace Go.Proofs.YtipmfcbpkbkceaaDoor
open Go.RowKit Go.Shelf Go.Sort
set_option linter.unusedVariables false
set_option linter.unusedSimpArgs false
set_option maxRecDepth 100000

theorem neq_bools (a b : Bool) (w : World) : (binOp .neq 4 (.bool a) (.bool b)).run Tryd.prog w = .ok (.bool (a != b)) w := by
  cases a <;> cases b <;> kernel_rfl
theorem Bk.e10 {w : World} {b : Nat} {e : Nat → Int} (h : Bk w b 29 (eC e)) : w.cell? ⟨b, 0, none⟩ = some (.int .u8 (e 0)) ∧ w.cell? ⟨b, 1, none⟩ = some (.int .u8 (e 1)) ∧ w.cell? ⟨b, 2, none⟩ = some (.int .u8 (e 2)) ∧ w.cell? ⟨b, 3, none⟩ = some (.int .u8 (e 3)) ∧ w.cell? ⟨b, 4, none⟩ = some (.int .u8 (e 4)) ∧ w.cell? ⟨b, 5, none⟩ = some (.int .u8 (e 5)) ∧ w.cell? ⟨b, 6, none⟩ = some (.int .u8 (e 6)) ∧ w.cell? ⟨b, 7, none⟩ = some (.int .u8 (e 7)) ∧ w.cell? ⟨b, 8, none⟩ = some (.int .u8 (e 8)) ∧ w.cell? ⟨b, 9, none⟩ = some (.int .u8 (e 9)) :=
  ⟨h.cell 0, h.cell 1, h.cell 2, h.cell 3, h.cell 4, h.cell 5, h.cell 6, h.cell 7, h.cell 8, h.cell 9⟩
theorem Bk.p2 {w : World} {b : Nat} {p q : Int} (h : Bk w b 27 #[.int .u32 p, .int .i64 q]) : w.cell? ⟨b, 0, none⟩ = some (.int .u32 p) ∧ w.cell? ⟨b, 1, none⟩ = some (.int .i64 q) := ⟨h.cell 0, h.cell 1⟩
theorem ip_str (s : List UInt8) (hs : s.length < 4294967281) : ∃ A Y, (∀ w, Vars w → Calls Tryd.prog 5 #[.string ⟨s.toArray⟩] w fun e w' => e = .returned (.tuple #[.int .u32 A, .int .i64 Y]) ∧ Below w.heap.size w w') ∧ ((0 ≤ A ∧ Y = 0 ∧ ipStr A = ⟨s.toArray⟩) ∨ Y = 19) := by
  rcases ip_res s with ⟨a, h, -, hb⟩ | h
  · exact ⟨a, 0, fun w hV => by have := parseIP_is s hs w hV; rwa [h] at this, .inl ⟨Int.natCast_nonneg _, rfl, hb⟩⟩
  · exact ⟨0, 19, fun w hV => by have := parseIP_is s hs w hV; rwa [h] at this, .inr rfl⟩
theorem mac_str (s : List UInt8) (hs : s.length < 4294967281) : ∃ A Y, (∀ w, Vars w → Calls Tryd.prog 10 #[.string ⟨s.toArray⟩] w fun e w' => e = .returned (.tuple #[.int .u64 A, .int .i64 Y]) ∧ Below w.heap.size w w') ∧ (0 ≤ A ∧ A ≤ 281474976710655) ∧ ((Y = 0 ∧ macStr A = lowStr s) ∨ Y = 19) := by
  rcases mac_res s with ⟨a, h, ha, hb⟩ | h
  · exact ⟨a, 0, fun w hV => by have := parseMAC_is s hs w hV; rwa [h] at this, ⟨Int.natCast_nonneg _, by omega⟩, .inl ⟨rfl, hb⟩⟩
  · exact ⟨0, 19, fun w hV => by have := parseMAC_is s hs w hV; rwa [h] at this, ⟨by decide, by decide⟩, .inr rfl⟩
theorem esi_str (s : List UInt8) (hs : s.length < 4294967281) : ∃ f Y, (∀ w, Vars w → Calls Tryd.prog 7 #[.string ⟨s.toArray⟩] w fun e w' => e = .returned (.tuple #[.agg (eC f), .int .i64 Y]) ∧ Below w.heap.size w w') ∧ (((∀ j, 0 ≤ f j ∧ f j < 256) ∧ Y = 0 ∧ esiStr f = lowStr s) ∨ Y = 19) := by
  rcases esi_res s with ⟨f, h, hf, hb⟩ | h
  · exact ⟨f, 0, fun w hV => by have := parseESI_is s hs w hV; rwa [h] at this, .inl ⟨hf, rfl, hb⟩⟩
  · exact ⟨fun _ => 0, 19, fun w hV => by have := parseESI_is s hs w hV; rwa [h] at this, .inr rfl⟩
theorem pfx_str (s : List UInt8) (hs : s.length < 4294967281) : ∃ A N Y, (∀ w, Vars w → Calls Tryd.prog 13 #[.string ⟨s.toArray⟩] w fun e w' => e = .returned (.tuple #[.agg #[.int .u32 A, .int .i64 N], .int .i64 Y]) ∧ Below w.heap.size w w') ∧ ((Y = 0 ∧ ∀ w, Tabs w → Calls Tryd.prog 12 #[.agg #[.int .u32 A, .int .i64 N]] w fun e w' => e = .returned (.tuple #[.string ⟨s.toArray⟩, .int .i64 0]) ∧ Below w.heap.size w w') ∨ Y = 3 ∨ Y = 19) := by
  rcases pfx_fwd s with ⟨a, n, h, ha, hn, hb⟩ | h | h
  · refine ⟨a, n, 0, fun w hV => by have := parsePrefix_is s hs w hV; rwa [h] at this, .inl ⟨rfl, fun w hT => ?_⟩⟩
    have := prefixText_yes a n (Int.natCast_nonneg _) hn w hT
    rwa [hb] at this
  · exact ⟨0, 0, 3, fun w hV => by have := parsePrefix_is s hs w hV; rwa [h] at this, .inr (.inl rfl)⟩
  · exact ⟨0, 0, 19, fun w hV => by have := parsePrefix_is s hs w hV; rwa [h] at this, .inr (.inr rfl)⟩

set_option maxHeartbeats 4000000 in
theorem texts_walk (ip m pa pn : Int) (e : Nat → Int) (s : List UInt8) (hip : 0 ≤ ip ∧ ip < 4294967296) (hm : 0 ≤ m ∧ m < 18446744073709551616) (hpa : 0 ≤ pa ∧ pa < 4294967296) (he : ∀ j, 0 ≤ e j ∧ e j < 256) (w : World) (hT : Tabs w) (hV : Vars w) :
    Calls Tryd.prog 3 #[.int .u32 ip, .int .u64 m, .agg #[.int .u32 pa, .int .i64 pn], .agg (eC e), .string ⟨s.toArray⟩] w fun r w' => r = .returned (.bool true) ∧ Below w.heap.size w w' := by
  obtain ⟨S, hS⟩ : ∃ S, S = (⟨s.toArray⟩ : ByteArray) := ⟨_, rfl⟩
  have hSz : S.size = s.length := by rw [hS]; simp [ByteArray.size]
  by_cases hs : s.length ≤ 200
  · have hlim : s.length < 4294967281 := by omega
    obtain ⟨iA, iY, iC, iR⟩ := ip_str s hlim
    obtain ⟨mA, mY, mC, mB, mR⟩ := mac_str s hlim
    obtain ⟨eF, eY, eC', eR⟩ := esi_str s hlim
    obtain ⟨pA, pN, pY, pC, pR⟩ := pfx_str s hlim
    have lC := fun w => lowerText_is s hs w
    obtain ⟨mT, mE, mc, mi, mC1, mC2, mR1⟩ := mac_calls m hm.1
    obtain ⟨qA, qN, qE, qU, qC1, qC2, qC3, qR⟩ := pfx_calls pa pn hpa.1 hpa.2
    have IC := fun w hV => ip_calls ip hip.1 hip.2 w hV
    have EC := fun w hV => esi_calls e he w hV
    have IT := fun w hT => ipText_is ip hip.1 w hT
    have ET := fun w hT => esiText_is e he w hT
    have MT := fun w hT => macText_yes mA mB.1 mB.2 w hT
    have IT2 : 0 ≤ iA → _ := fun h w hT => ipText_is iA h w hT
    have ET2 : (∀ j, 0 ≤ eF j ∧ eF j < 256) → _ := fun h w hT => esiText_is eF h w hT
    rw [← hS] at iC mC eC' pC pR lC iR ⊢
    obtain ⟨L, hL⟩ : ∃ L, L = lowStr s := ⟨_, rfl⟩
    rw [← hL] at lC mR eR
    have hz : S.size ≤ 200 := by omega
    clear hS hL hSz hs hlim he hip hpa hm mB
    generalize ipStr ip = sI at IC IT
    generalize esiStr e = sE at EC ET
    generalize hmm : macStr mA = sM at MT mR
    generalize ipStr iA = sA at IT2 iR
    generalize esiStr eF = sF at ET2 eR
    have hzi : (S.size : Int) ≤ 200 := by omega
    have hzn : ¬ (200 : Int) < S.size := by omega
    have h1 : (ip != ip) = false := by simp
    have HI := Lib.hid iR
    have HM := Lib.hid mR
    have HE := Lib.hid eR
    have HP := Lib.hid pR
    have HM1 := Lib.hid mR1
    have HQ := Lib.hid qR
    have HIT := Lib.hid IT2
    have HET := Lib.hid ET2
    have KIC := Lib.hid IC
    have KEC := Lib.hid EC
    have KIT := Lib.hid IT
    have KET := Lib.hid ET
    have KMT := Lib.hid MT
    have KiC := Lib.hid iC
    have KmC := Lib.hid mC
    have KeC := Lib.hid eC'
    have KpC := Lib.hid pC
    have KlC := Lib.hid lC
    have Km1 := Lib.hid mC1
    have Km2 := Lib.hid mC2
    have Kq1 := Lib.hid qC1
    have Kq2 := Lib.hid qC2
    have Kq3 := Lib.hid qC3
    clear iR mR eR pR mR1 qR IT2 ET2 IC EC IT ET MT iC mC eC' pC lC mC1 mC2 qC1 qC2 qC3 hmm
    go_enter Tryd.func3, Tryd.ntmps3
    go_wp2_with (first
      | (refine at_boxA rfl 27 _ rfl #[.int .u32 pa, .int .i64 pn] rfl ?_; rintro wa Ha ka sa; clear sa)
      | (refine at_boxA rfl 29 _ rfl (eC e) rfl ?_; rintro wb Hb kb sb; clear sb))
    have Kb : Below w.heap.size w wb := ka.trans (kb.mono ka.size)
    have P7 := Ha.below kb
    have hTb := hT.below Kb
    have hVb := hV.below Kb
    clear Ha ka kb hT hV
    go_at_call 4
    refine (lives_any _).mono ?_
    rintro r wq ⟨rfl, hq⟩
    obtain rfl := hq
    go_wp2_with fail
    go_at_call 6
    refine (KIT.out _ hTb).mono ?_
    rintro r w1 ⟨rfl, k1⟩
    go_wp2_with fail
    go_at_call 5
    refine (KIC.out _ (hVb.below k1)).mono ?_
    rintro r w2 ⟨rfl, k2⟩
    have K2 := k1.trans (k2.mono k1.size)
    have Hb2 := Hb.below K2
    go_wp2_with (refine at_loadE rfl _ rfl wa.heap.size rfl e Hb2 ?_)
    go_at_call 8
    refine (KET.out _ (hTb.below K2)).mono ?_
    rintro r w3 ⟨rfl, k3⟩
    have K3 := K2.trans (k3.mono K2.size)
    go_wp2_with fail
    go_at_call 7
    refine (KEC.out _ (hVb.below K3)).mono ?_
    rintro r w4 ⟨rfl, k4⟩
    have K4 := K3.trans (k4.mono K3.size)
    have hq := eq_same e
    unfold eC at hq
    go_wp2_with (first
      | (refine at_newE rfl rfl ?_; rintro w5 H5 k5 s5; clear s5)
      | (refine at_storeE rfl _ _ rfl rfl w4.heap.size rfl e rfl H5 ?_; rintro w6 H6 k6; have K6 := K4.trans ((k5.trans (k6 _ (Nat.le_refl _))).mono K4.size); clear H5 k5 k6; obtain ⟨x0, x1, x2, x3, x4, x5, x6, x7, x8, x9⟩ := H6.e10; obtain ⟨y0, y1, y2, y3, y4, y5, y6, y7, y8, y9⟩ := (Hb.below K6).e10))
    clear x0 x1 x2 x3 x4 x5 x6 x7 x8 x9 y0 y1 y2 y3 y4 y5 y6 y7 y8 y9 hq h1 k1 k2 k3 k4 K2 K3 K4 Hb2
    go_at_call 9
    refine (Km1.out _ (hTb.below K6)).mono ?_
    rintro r w7 ⟨rfl, k7⟩
    have K7 := K6.trans (k7.mono K6.size)
    go_wp2_with fail
    go_at_call 10
    refine (Km2.out _ (hVb.below K7)).mono ?_
    rintro r w8 ⟨rfl, k8⟩
    have K8 := K7.trans (k8.mono K7.size)
    have P8 := P7.below K8
    go_wp2_with (refine at_loadP rfl _ rfl w.heap.size rfl pa pn P8 ?_)
    go_at_call 11
    refine (Kq1.out _).mono ?_
    rintro r w9 ⟨rfl, k9⟩
    have K9 := K8.trans (k9.mono K8.size)
    go_wp2_with (first
      | (refine at_newP rfl rfl ?_; rintro w10 H10 k10 s10; clear s10)
      | (refine at_storeP rfl _ _ rfl rfl w9.heap.size rfl qA qN rfl H10 ?_; rintro w11 H11 k11; have K11 := K9.trans ((k10.trans (k11 _ (Nat.le_refl _))).mono K9.size); clear H10 k10 k11)
      | (refine at_loadP rfl _ rfl w9.heap.size rfl qA qN H11 ?_))
    go_at_call 12
    refine (Kq2.out _ (hTb.below K11)).mono ?_
    rintro r w12 ⟨rfl, k12⟩
    have K12 := K11.trans (k12.mono K11.size)
    go_wp2_with fail
    go_at_call 13
    refine (Kq3.out _ (hVb.below K12)).mono ?_
    rintro r w13 ⟨rfl, k13⟩
    have K13 := K12.trans (k13.mono K12.size)
    have H13 := (H11.below k12).below k13
    go_upto_region 14 with (first
      | (refine at_newP rfl rfl ?_; rintro w14 H14 k14 s14; clear s14)
      | (refine at_storeP rfl _ _ rfl rfl w13.heap.size rfl qA qN rfl H14 ?_; rintro w15 H15 k15; have K15 := K13.trans ((k14.trans (k15 _ (Nat.le_refl _))).mono K13.size); have M13 := H13.below (k14.trans (k15 _ (Nat.le_refl _))); clear H14 k14 k15))
    obtain ⟨u0, u1⟩ := H15.p2
    obtain ⟨v0, v1⟩ := M13.p2
    obtain ⟨z0, z1⟩ := (P7.below K15).p2
    have hqp := eq_pfx qA qN
    go_cut [142] (fun sl wx => sl = .bool false ∧ wx = w15)
    case first =>
      have hnb := neq_bools
      rcases HM1.out with ⟨a1, rfl, rfl, rfl⟩ | ⟨a1, rfl⟩ <;> rcases HQ.out with ⟨⟨b1, b2⟩, rfl⟩ | ⟨b1 | b1, rfl⟩
      all_goals
        go_wp2_with fail
        go_meet
        exact ⟨congrArg Value.bool (by first | rfl | (simp; omega)), rfl⟩
    case rest =>
      obtain ⟨rfl, hwc⟩ := hcut
      obtain rfl := hwc.symm
      have hTc := hTb.below K15
      have hVc := hVb.below K15
      have Kc : Below w.heap.size w w15 := Kb.trans (K15.mono Kb.size)
      clear u0 u1 v0 v1 z0 z1 hqp H15 M13 P8 P7 Hb H6 H11 H13 k7 k8 k9 k12 k13 K6 K7 K8 K9 K11 K12 K13 K15 Kb hTb hVb
      go_wp2_with fail
      go_at_call 5
      refine (KiC.out _ hVc).mono ?_
      rintro r v1 ⟨rfl, j1⟩
      go_upto_region 17 with fail
      go_cut [155] (fun sl wx => sl = .bool false ∧ Below v1.heap.size v1 wx)
      case first =>
        rcases HI.out with ⟨a0, rfl, a1⟩ | rfl
        · subst a1
          go_wp2_with fail
          go_at_call 6
          refine (HIT.out a0 _ (hTc.below j1)).mono ?_
          rintro r v2 ⟨rfl, j2⟩
          go_wp2_with fail
          go_meet
          exact ⟨congrArg Value.bool (by first | rfl | simp), j2⟩
        · go_wp2_with fail
          go_meet
          exact ⟨rfl, Below.refl _ _⟩
      case rest =>
        obtain ⟨rfl, j2⟩ := hcut
        have J2 := j1.trans (j2.mono j1.size)
        clear j1 j2
        go_wp2_with fail
        go_at_call 7
        refine (KeC.out _ (hVc.below J2)).mono ?_
        rintro r v3 ⟨rfl, j3⟩
        have J3 := J2.trans (j3.mono J2.size)
        go_upto_region 20 with (first
          | (refine at_newE rfl rfl ?_; rintro v4 H4 k4 s4; clear s4)
          | (refine at_storeE rfl _ _ rfl rfl v3.heap.size rfl eF rfl H4 ?_; rintro v5 H5 k5; have J5 := J3.trans ((k4.trans (k5 _ (Nat.le_refl _))).mono J3.size); clear H4 k4 k5))
        go_cut [169] (fun sl wx => sl = .bool false ∧ Below v5.heap.size v5 wx)
        case first =>
          obtain ⟨x0, x1, x2, x3, x4, x5, x6, x7, x8, x9⟩ := H5.e10
          rcases HE.out with ⟨a0, rfl, a1⟩ | rfl
          · subst a1
            go_wp2_with fail
            go_at_call 8
            refine (HET.out a0 _ (hTc.below J5)).mono ?_
            rintro r v6 ⟨rfl, j6⟩
            go_wp2_with fail
            go_at_call 14
            refine (KlC.out _).mono ?_
            rintro r v7 ⟨rfl, j7⟩
            go_wp2_with fail
            go_meet
            exact ⟨congrArg Value.bool (by first | rfl | simp), j6.trans (j7.mono j6.size)⟩
          · go_wp2_with fail
            go_meet
            exact ⟨rfl, Below.refl _ _⟩
        case rest =>
          obtain ⟨rfl, j8⟩ := hcut
          have J8 := J5.trans (j8.mono J5.size)
          clear j8 j3 J2 J3 H5
          go_wp2_with fail
          go_at_call 13
          refine (KpC.out _ (hVc.below J8)).mono ?_
          rintro r v9 ⟨rfl, j9⟩
          have J9 := J8.trans (j9.mono J8.size)
          rcases HP.out with ⟨rfl, hpt⟩ | rfl | rfl
          · go_wp2_with (first
              | (refine at_newP rfl rfl ?_; rintro v10 H10 k10 s10; clear s10)
              | (refine at_storeP rfl _ _ rfl rfl v9.heap.size rfl pA pN rfl H10 ?_; rintro v11 H11 k11; have J11 := J9.trans ((k10.trans (k11 _ (Nat.le_refl _))).mono J9.size); clear H10 k10 k11)
              | (refine at_loadP rfl _ rfl v9.heap.size rfl pA pN H11 ?_))
            go_at_call 12
            refine (hpt _ (hTc.below J11)).mono ?_
            rintro r v12 ⟨rfl, j12⟩
            have J12 := J11.trans (j12.mono J11.size)
            clear hpt J8 J9 j9
            go_wp2_with fail
            go_at_call 10
            refine (KmC.out _ (hVc.below J12)).mono ?_
            rintro r x1 ⟨rfl, g1⟩
            have G1 := J12.trans (g1.mono J12.size)
            go_wp2_with fail
            go_at_call 9
            refine (KMT.out _ (hTc.below G1)).mono ?_
            rintro r x2 ⟨rfl, g2⟩
            have G2 := G1.trans (g2.mono G1.size)
            rcases HM.out with ⟨rfl, hmm⟩ | rfl
            · rw [hmm]
              go_wp2_with fail
              go_at_call 14
              refine (KlC.out _).mono ?_
              rintro r x3 ⟨rfl, g3⟩
              have G3 := G2.trans (g3.mono G2.size)
              go_wp2
              go_ret
              exact ⟨rfl, Kc.trans (G3.mono Kc.size)⟩
            · go_wp2
              go_ret
              exact ⟨rfl, Kc.trans (G2.mono Kc.size)⟩
          · go_wp2_with (first
              | (refine at_newP rfl rfl ?_; rintro v10 H10 k10 s10; clear s10)
              | (refine at_storeP rfl _ _ rfl rfl v9.heap.size rfl pA pN rfl H10 ?_; rintro v11 H11 k11; have J11 := J9.trans ((k10.trans (k11 _ (Nat.le_refl _))).mono J9.size); clear H10 k10 k11))
            go_at_call 10
            refine (KmC.out _ (hVc.below J11)).mono ?_
            rintro r x1 ⟨rfl, g1⟩
            have G1 := J11.trans (g1.mono J11.size)
            go_wp2_with fail
            go_at_call 9
            refine (KMT.out _ (hTc.below G1)).mono ?_
            rintro r x2 ⟨rfl, g2⟩
            have G2 := G1.trans (g2.mono G1.size)
            rcases HM.out with ⟨rfl, hmm⟩ | rfl
            · rw [hmm]
              go_wp2_with fail
              go_at_call 14
              refine (KlC.out _).mono ?_
              rintro r x3 ⟨rfl, g3⟩
              have G3 := G2.trans (g3.mono G2.size)
              go_wp2
              go_ret
              exact ⟨rfl, Kc.trans (G3.mono Kc.size)⟩
            · go_wp2
              go_ret
              exact ⟨rfl, Kc.trans (G2.mono Kc.size)⟩
          · go_wp2_with (first
              | (refine at_newP rfl rfl ?_; rintro v10 H10 k10 s10; clear s10)
              | (refine at_storeP rfl _ _ rfl rfl v9.heap.size rfl pA pN rfl H10 ?_; rintro v11 H11 k11; have J11 := J9.trans ((k10.trans (k11 _ (Nat.le_refl _))).mono J9.size); clear H10 k10 k11))
            go_at_call 10
            refine (KmC.out _ (hVc.below J11)).mono ?_
            rintro r x1 ⟨rfl, g1⟩
            have G1 := J11.trans (g1.mono J11.size)
            go_wp2_with fail
            go_at_call 9
            refine (KMT.out _ (hTc.below G1)).mono ?_
            rintro r x2 ⟨rfl, g2⟩
            have G2 := G1.trans (g2.mono G1.size)
            rcases HM.out with ⟨rfl, hmm⟩ | rfl
            · rw [hmm]
              go_wp2_with fail
              go_at_call 14
              refine (KlC.out _).mono ?_
              rintro r x3 ⟨rfl, g3⟩
              have G3 := G2.trans (g3.mono G2.size)
              go_wp2
              go_ret
              exact ⟨rfl, Kc.trans (G3.mono Kc.size)⟩
            · go_wp2
              go_ret
              exact ⟨rfl, Kc.trans (G2.mono Kc.size)⟩
  · have hzn : (200 : Int) < S.size := by omega
    go_enter Tryd.func3, Tryd.ntmps3
    go_wp2_with (first
      | (refine at_boxA rfl 27 _ rfl #[.int .u32 pa, .int .i64 pn] rfl ?_; rintro wa Ha ka sa; clear sa)
      | (refine at_boxA rfl 29 _ rfl (eC e) rfl ?_; rintro wb Hb kb sb; clear sb))
    have Kb : Below w.heap.size w wb := ka.trans (kb.mono ka.size)
    go_at_call 4
    refine (lives_any _).mono ?_
    rintro r wq ⟨rfl, hq⟩
    obtain rfl := hq
    rw [← hS]
    clear hS
    go_wp2
    go_ret
    exact ⟨rfl, Kb⟩
end Go.Proofs.YtipmfcbpkbkceaaDoor
