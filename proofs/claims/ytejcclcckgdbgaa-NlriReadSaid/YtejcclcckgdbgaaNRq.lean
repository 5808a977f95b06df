/- readRoute, where the kind is known. No condition. -/
import Derived.Test.YtejcclcckgdbgaaNRp
namespace Go.Proofs.Ytejcclcckgdbgaa
open Go.RowKit Go.Sort
set_option linter.unusedVariables false
set_option linter.unusedSimpArgs false
set_option maxRecDepth 100000
set_option maxHeartbeats 4000000 in
theorem route_auto (xs : List Int) (ho : Oct xs) (hl : xs.length ≤ 1099511627776) (hf : rrF xs = 0) (hk : rrK xs = 1) (v : Value) (w : World) (h : Seg w v xs) : Calls Try.prog 34 #[v] w fun r w' => r = .returned (.tuple #[(rrO xs).v, .int .i64 (rrE xs)]) ∧ Below w.heap.size w w' := by
  have hN : rrN xs = decAuto (rrV xs) := by unfold rrN; simp [hk]
  have hE : rrE xs = if (rrN xs).chk = 0 ∧ (rrN xs).code = xs then 0 else 3 := by unfold rrE; simp [hf, hk, show lay 1 = some 93 from rfl]
  have HO := Lib.hid (show rrO xs = if rrE xs = 0 then rrN xs else NL.zero from rfl)
  have HE := Lib.hid hE
  have HNok := Lib.hid (rrN_ok (xs := xs) ho)
  have HR := Lib.hid (fun (w : World) (c : Nat) (r : Rdr w c (rrV xs)) => auto_read w c _ r)
  have HN := Lib.hid hN
  have hl' := fun w => layout_is 1 w
  rw [show lay 1 = some 93 from rfl] at hl'
  unfold layV at hl'
  have hf' : (rrF xs != 0) = false := by simpa using hf
  have hk' : rrK xs = 1 := hk
  clear hf hN hE hk
  have hme : ∀ j w, Sem.run Try.prog (method (j + 1) 93 (.agg #[]) "leafmesh/nlri.read") w = .ok (103, .agg #[]) w := fun j w => by kernel_rfl
  have hcf : ∀ p w, Sem.run Try.prog (callFunc 103 #[.agg #[], p]) w = .ok (.enter 103 #[.agg #[], p]) w := fun p w => by kernel_rfl
  generalize rrO xs = O at HO ⊢
  generalize rrE xs = E at HO HE ⊢
  generalize rrN xs = N at HO HE HNok HN
  have hbk := part_lt (R := ⟨0, 0, xs, 0, 0⟩) ho 1
  have hbs := part_lt (R := RS.next ⟨0, 0, xs, 0, 0⟩ 1) (oct_next (R := ⟨0, 0, xs, 0, 0⟩) ho 1) 1
  have hF : rrF xs = (((RS.next ⟨0, 0, xs, 0, 0⟩ 1).next 1).next ((be ((RS.next ⟨0, 0, xs, 0, 0⟩ 1).part 1) : Nat) : Int)).er := rfl
  have hV : rrV xs = ((RS.next ⟨0, 0, xs, 0, 0⟩ 1).next 1).sub ((be ((RS.next ⟨0, 0, xs, 0, 0⟩ 1).part 1) : Nat) : Int) := rfl
  have hK : rrK xs = be (RS.part ⟨0, 0, xs, 0, 0⟩ 1) := rfl
  have HF := Lib.hid hF
  have HV := Lib.hid hV
  have HK := Lib.hid hK
  clear hF hV hK
  generalize rrF xs = F at HF hf'
  generalize rrV xs = V at HV HR HN
  generalize rrK xs = K at HK hk'
  unfold NL.v
  go_enter Try.func34, Try.ntmps34
  go_wp2_with (refine at_new rfl rfl ?_; rintro w1 ⟨x1, k1, s1⟩)
  go_at_call 58
  refine (rd_New w1 v xs (h.below k1) ho hl).mono ?_
  rintro e w2 ⟨b, rfl, hb2, r2, k2⟩
  have hb : w.heap.size ≤ b := by omega
  have x2 := x1.below k2 x1.lt
  have B2 := k1.trans (k2.mono k1.size)
  obtain ⟨R0, hR0⟩ : ∃ R0 : RS, R0 = ⟨0, 0, xs, 0, 0⟩ := ⟨_, rfl⟩
  rw [← hR0] at r2 hbk hbs
  have HF := Lib.hid (HF.out.trans (by rw [← hR0]))
  have HV := Lib.hid (HV.out.trans (by rw [← hR0]))
  have HK := Lib.hid (HK.out.trans (by rw [← hR0]))
  have HR0 := Lib.hid hR0
  clear k1 k2 hR0 x1 hb2
  go_wp2_with fail
  go_at_call 59
  refine (rd_U8 w2 b R0 r2).mono ?_
  rintro e w3 ⟨rfl, r3, k3⟩
  have x3 := x2.but r2 k3
  have B3 := But.below B2 k3 hb B2.size
  rw [← HK.out]
  have hbk : ((K : Nat) : Int) < 256 := by rw [HK.out]; exact hbk
  obtain ⟨R1, hR1⟩ : ∃ R1, R1 = R0.next 1 := ⟨_, rfl⟩
  rw [← hR1] at r3 hbs
  have HF := Lib.hid (HF.out.trans (by rw [← hR1]))
  have HV := Lib.hid (HV.out.trans (by rw [← hR1]))
  clear k3 x2 r2 B2 hR1 HK
  go_wp2_with fail
  go_at_call 59
  refine (rd_U8 w3 b R1 r3).mono ?_
  rintro e w4 ⟨rfl, r4, k4⟩
  have x4 := x3.but r3 k4
  have B4 := But.below B3 k4 hb B3.size
  obtain ⟨S, hS⟩ : ∃ S, S = be (R1.part 1) := ⟨_, rfl⟩
  rw [← hS]
  have hbs : ((S : Nat) : Int) < 256 := by rw [hS]; exact hbs
  obtain ⟨R2, hR2⟩ : ∃ R2, R2 = R1.next 1 := ⟨_, rfl⟩
  rw [← hR2] at r4
  have HF := Lib.hid (HF.out.trans (by rw [← hR2, ← hS]))
  have HV := Lib.hid (HV.out.trans (by rw [← hR2, ← hS]))
  clear k4 x3 r3 B3 hR2 hS
  go_wp2_with fail
  go_at_call 60
  refine (rd_Sub w4 b R2 S r4).mono ?_
  rintro e w5 ⟨c, rfl, hc5, rc5, r5, k5⟩
  have x5 := x4.but r4 k5
  have B5 := But.below B4 k5 hb B4.size
  have hc : w.heap.size ≤ c := Nat.le_trans B4.size hc5
  rw [← HV.out] at rc5
  clear k5 x4 r4 B4 HV hc5
  go_wp2_with fail
  go_at_call 61
  refine (rd_Fault w5 b _ r5).mono ?_
  rintro e w6 ⟨rfl, k6⟩
  have x6 := x5.below k6 x5.lt
  have B6 := B5.trans (k6.mono B5.size)
  have rc6 := rc5.below k6
  rw [← HF.out]
  generalize (R2.next S).ea = ea
  have hfl : ∀ w, Sem.run Try.prog (Instr.field 40 (.agg #[.int .i64 F, .int .i64 ea]) 0) w = .ok (.int .i64 F) w := fun w => by kernel_rfl
  clear k6 x5 r5 rc5 B5 HF HR0
  subst hk'
  go_wp2_with fail
  go_at_call 29
  refine (hl' w6).mono ?_
  rintro e w7 ⟨rfl, k7⟩
  have x7 := x6.below k7 x6.lt
  have B7 := B6.trans (k7.mono B6.size)
  have rc7 := rc6.below k7
  clear k7 x6 B6 hl' rc6
  have hR := HR.out w7 c rc7
  rw [← HN.out] at hR
  unfold NL.v at hR
  clear HR HN
  go_wp2_with fail
  go_at_call 103
  refine hR.mono ?_
  rintro e w8 ⟨rfl, -, k8⟩
  have x8 := x7.but rc7 k8
  have B8 := But.below B7 k8 hc B7.size
  have hz8 := x8.lt
  clear hR k8 x7 B7 rc7 hme hcf
  go_wp2_with (first
    | (refine at_new rfl rfl ?_; rintro w9 ⟨y9, k9, s9⟩; have x9 := x8.below k9 x8.lt; have B9 := B8.trans (k9.mono B8.size); have hn9 : w8.heap.size ≠ w.heap.size := by omega
       clear k9 x8 B8 s9; go_simp)
    | (refine at_store rfl _ _ rfl rfl w8.heap.size rfl NL.zero N rfl y9 ?_; rintro w10 g10; have y10 := g10.bx; have x10 := g10.other x9 (Ne.symm hn9); have B10 := g10.next B9 (by omega); clear g10 y9 x9 B9)
    | (refine at_load rfl _ rfl w8.heap.size rfl N y10 ?_))
  by_cases hch : N.chk = 0
  · have hb' := bytes_ok N HNok.out hch w10
    unfold NL.v at hb'
    go_at_call 10
    refine hb'.mono ?_
    rintro e w11 ⟨vb, rfl, hD, k11⟩
    have x11 := x10.below k11 x10.lt
    have y11 := y10.below k11 y10.lt
    have B11 := B10.trans (k11.mono B10.size)
    have hq := equal_is hD.seg (h.below B11) (code_oct HNok.out hch) ho
    clear hb' x10 y10 B10 k11 hD
    by_cases hcode : N.code = xs
    · have he : E = 0 := by rw [HE.out, if_pos ⟨hch, hcode⟩]
      have ho' : O = N := by rw [HO.out, if_pos he]
      subst he ho'
      rw [decide_eq_true hcode] at hq
      clear hcode hch HE HO HNok ho
      go_wp2_with (first
        | (go_at_call 62; refine hq.mono ?_; rintro e w12 ⟨rfl, hw⟩; obtain rfl := hw.symm)
        | (refine at_load rfl _ rfl w8.heap.size rfl O y11 ?_)
        | (refine at_store rfl _ _ rfl rfl w.heap.size rfl NL.zero O rfl x11 ?_; rintro w13 g13; have x13 := g13.bx; have B13 := g13.next B11 (Nat.le_refl _); clear g13))
      exact bodyPost_ret (results_row_tmp (by rfl) _ _ w.heap.size _ _ _ _ rfl x13 Try.underlying36 rfl (NL.size _)) rfl ⟨rfl, B13⟩
    · have he : E = 3 := by rw [HE.out, if_neg (fun q => hcode q.2)]
      have ho' : O = NL.zero := by rw [HO.out, if_neg (by rw [he]; decide)]
      subst he ho'
      rw [decide_eq_false hcode] at hq
      clear hcode hch HE HO HNok ho
      go_wp2_with (first
        | (go_at_call 62; refine hq.mono ?_; rintro e w12 ⟨rfl, hw⟩; obtain rfl := hw.symm)
        | (refine at_build rfl _ rfl NL.zero (by kernel_rfl) ?_)
        | (refine at_store rfl _ _ rfl rfl w.heap.size rfl NL.zero NL.zero rfl x11 ?_; rintro w13 g13; have x13 := g13.bx; have B13 := g13.next B11 (Nat.le_refl _); clear g13))
      exact bodyPost_ret (results_row_tmp (by rfl) _ _ w.heap.size _ _ _ _ rfl x13 Try.underlying36 rfl (NL.size _)) rfl ⟨rfl, B13⟩
  · have he : E = 3 := by rw [HE.out, if_neg (fun q => hch q.1)]
    have ho' : O = NL.zero := by rw [HO.out, if_neg (by rw [he]; decide)]
    have hb' := bytes_bad N hch w10
    have A : (N.chk != 0) = true := by simpa using hch
    subst he ho'
    generalize N.chk = ch at hb' A
    unfold NL.v at hb'
    clear hch HE HO HNok ho
    go_at_call 10
    refine hb'.mono ?_
    rintro e w11 ⟨rfl, k11⟩
    have x11 := x10.below k11 x10.lt
    have B11 := B10.trans (k11.mono B10.size)
    clear hb' x10 y10 B10 k11
    go_wp2_with (first
      | (refine at_build rfl _ rfl NL.zero (by kernel_rfl) ?_)
      | (refine at_store rfl _ _ rfl rfl w.heap.size rfl NL.zero NL.zero rfl x11 ?_; rintro w13 g13; have x13 := g13.bx; have B13 := g13.next B11 (Nat.le_refl _); clear g13))
    exact bodyPost_ret (results_row_tmp (by rfl) _ _ w.heap.size _ _ _ _ rfl x13 Try.underlying36 rfl (NL.size _)) rfl ⟨rfl, B13⟩
set_option maxHeartbeats 4000000 in
theorem route_segment (xs : List Int) (ho : Oct xs) (hl : xs.length ≤ 1099511627776) (hf : rrF xs = 0) (hk : rrK xs = 4) (v : Value) (w : World) (h : Seg w v xs) : Calls Try.prog 34 #[v] w fun r w' => r = .returned (.tuple #[(rrO xs).v, .int .i64 (rrE xs)]) ∧ Below w.heap.size w w' := by
  have hN : rrN xs = decSegment (rrV xs) := by unfold rrN; simp [hk]
  have hE : rrE xs = if (rrN xs).chk = 0 ∧ (rrN xs).code = xs then 0 else 3 := by unfold rrE; simp [hf, hk, show lay 4 = some 96 from rfl]
  have HO := Lib.hid (show rrO xs = if rrE xs = 0 then rrN xs else NL.zero from rfl)
  have HE := Lib.hid hE
  have HNok := Lib.hid (rrN_ok (xs := xs) ho)
  have HR := Lib.hid (fun (w : World) (c : Nat) (r : Rdr w c (rrV xs)) => segment_read w c _ r)
  have HN := Lib.hid hN
  have hl' := fun w => layout_is 4 w
  rw [show lay 4 = some 96 from rfl] at hl'
  unfold layV at hl'
  have hf' : (rrF xs != 0) = false := by simpa using hf
  have hk' : rrK xs = 4 := hk
  clear hf hN hE hk
  have hme : ∀ j w, Sem.run Try.prog (method (j + 1) 96 (.agg #[]) "leafmesh/nlri.read") w = .ok (130, .agg #[]) w := fun j w => by kernel_rfl
  have hcf : ∀ p w, Sem.run Try.prog (callFunc 130 #[.agg #[], p]) w = .ok (.enter 130 #[.agg #[], p]) w := fun p w => by kernel_rfl
  generalize rrO xs = O at HO ⊢
  generalize rrE xs = E at HO HE ⊢
  generalize rrN xs = N at HO HE HNok HN
  have hbk := part_lt (R := ⟨0, 0, xs, 0, 0⟩) ho 1
  have hbs := part_lt (R := RS.next ⟨0, 0, xs, 0, 0⟩ 1) (oct_next (R := ⟨0, 0, xs, 0, 0⟩) ho 1) 1
  have hF : rrF xs = (((RS.next ⟨0, 0, xs, 0, 0⟩ 1).next 1).next ((be ((RS.next ⟨0, 0, xs, 0, 0⟩ 1).part 1) : Nat) : Int)).er := rfl
  have hV : rrV xs = ((RS.next ⟨0, 0, xs, 0, 0⟩ 1).next 1).sub ((be ((RS.next ⟨0, 0, xs, 0, 0⟩ 1).part 1) : Nat) : Int) := rfl
  have hK : rrK xs = be (RS.part ⟨0, 0, xs, 0, 0⟩ 1) := rfl
  have HF := Lib.hid hF
  have HV := Lib.hid hV
  have HK := Lib.hid hK
  clear hF hV hK
  generalize rrF xs = F at HF hf'
  generalize rrV xs = V at HV HR HN
  generalize rrK xs = K at HK hk'
  unfold NL.v
  go_enter Try.func34, Try.ntmps34
  go_wp2_with (refine at_new rfl rfl ?_; rintro w1 ⟨x1, k1, s1⟩)
  go_at_call 58
  refine (rd_New w1 v xs (h.below k1) ho hl).mono ?_
  rintro e w2 ⟨b, rfl, hb2, r2, k2⟩
  have hb : w.heap.size ≤ b := by omega
  have x2 := x1.below k2 x1.lt
  have B2 := k1.trans (k2.mono k1.size)
  obtain ⟨R0, hR0⟩ : ∃ R0 : RS, R0 = ⟨0, 0, xs, 0, 0⟩ := ⟨_, rfl⟩
  rw [← hR0] at r2 hbk hbs
  have HF := Lib.hid (HF.out.trans (by rw [← hR0]))
  have HV := Lib.hid (HV.out.trans (by rw [← hR0]))
  have HK := Lib.hid (HK.out.trans (by rw [← hR0]))
  have HR0 := Lib.hid hR0
  clear k1 k2 hR0 x1 hb2
  go_wp2_with fail
  go_at_call 59
  refine (rd_U8 w2 b R0 r2).mono ?_
  rintro e w3 ⟨rfl, r3, k3⟩
  have x3 := x2.but r2 k3
  have B3 := But.below B2 k3 hb B2.size
  rw [← HK.out]
  have hbk : ((K : Nat) : Int) < 256 := by rw [HK.out]; exact hbk
  obtain ⟨R1, hR1⟩ : ∃ R1, R1 = R0.next 1 := ⟨_, rfl⟩
  rw [← hR1] at r3 hbs
  have HF := Lib.hid (HF.out.trans (by rw [← hR1]))
  have HV := Lib.hid (HV.out.trans (by rw [← hR1]))
  clear k3 x2 r2 B2 hR1 HK
  go_wp2_with fail
  go_at_call 59
  refine (rd_U8 w3 b R1 r3).mono ?_
  rintro e w4 ⟨rfl, r4, k4⟩
  have x4 := x3.but r3 k4
  have B4 := But.below B3 k4 hb B3.size
  obtain ⟨S, hS⟩ : ∃ S, S = be (R1.part 1) := ⟨_, rfl⟩
  rw [← hS]
  have hbs : ((S : Nat) : Int) < 256 := by rw [hS]; exact hbs
  obtain ⟨R2, hR2⟩ : ∃ R2, R2 = R1.next 1 := ⟨_, rfl⟩
  rw [← hR2] at r4
  have HF := Lib.hid (HF.out.trans (by rw [← hR2, ← hS]))
  have HV := Lib.hid (HV.out.trans (by rw [← hR2, ← hS]))
  clear k4 x3 r3 B3 hR2 hS
  go_wp2_with fail
  go_at_call 60
  refine (rd_Sub w4 b R2 S r4).mono ?_
  rintro e w5 ⟨c, rfl, hc5, rc5, r5, k5⟩
  have x5 := x4.but r4 k5
  have B5 := But.below B4 k5 hb B4.size
  have hc : w.heap.size ≤ c := Nat.le_trans B4.size hc5
  rw [← HV.out] at rc5
  clear k5 x4 r4 B4 HV hc5
  go_wp2_with fail
  go_at_call 61
  refine (rd_Fault w5 b _ r5).mono ?_
  rintro e w6 ⟨rfl, k6⟩
  have x6 := x5.below k6 x5.lt
  have B6 := B5.trans (k6.mono B5.size)
  have rc6 := rc5.below k6
  rw [← HF.out]
  generalize (R2.next S).ea = ea
  have hfl : ∀ w, Sem.run Try.prog (Instr.field 40 (.agg #[.int .i64 F, .int .i64 ea]) 0) w = .ok (.int .i64 F) w := fun w => by kernel_rfl
  clear k6 x5 r5 rc5 B5 HF HR0
  subst hk'
  go_wp2_with fail
  go_at_call 29
  refine (hl' w6).mono ?_
  rintro e w7 ⟨rfl, k7⟩
  have x7 := x6.below k7 x6.lt
  have B7 := B6.trans (k7.mono B6.size)
  have rc7 := rc6.below k7
  clear k7 x6 B6 hl' rc6
  have hR := HR.out w7 c rc7
  rw [← HN.out] at hR
  unfold NL.v at hR
  clear HR HN
  go_wp2_with fail
  go_at_call 130
  refine hR.mono ?_
  rintro e w8 ⟨rfl, -, k8⟩
  have x8 := x7.but rc7 k8
  have B8 := But.below B7 k8 hc B7.size
  have hz8 := x8.lt
  clear hR k8 x7 B7 rc7 hme hcf
  go_wp2_with (first
    | (refine at_new rfl rfl ?_; rintro w9 ⟨y9, k9, s9⟩; have x9 := x8.below k9 x8.lt; have B9 := B8.trans (k9.mono B8.size); have hn9 : w8.heap.size ≠ w.heap.size := by omega
       clear k9 x8 B8 s9; go_simp)
    | (refine at_store rfl _ _ rfl rfl w8.heap.size rfl NL.zero N rfl y9 ?_; rintro w10 g10; have y10 := g10.bx; have x10 := g10.other x9 (Ne.symm hn9); have B10 := g10.next B9 (by omega); clear g10 y9 x9 B9)
    | (refine at_load rfl _ rfl w8.heap.size rfl N y10 ?_))
  by_cases hch : N.chk = 0
  · have hb' := bytes_ok N HNok.out hch w10
    unfold NL.v at hb'
    go_at_call 10
    refine hb'.mono ?_
    rintro e w11 ⟨vb, rfl, hD, k11⟩
    have x11 := x10.below k11 x10.lt
    have y11 := y10.below k11 y10.lt
    have B11 := B10.trans (k11.mono B10.size)
    have hq := equal_is hD.seg (h.below B11) (code_oct HNok.out hch) ho
    clear hb' x10 y10 B10 k11 hD
    by_cases hcode : N.code = xs
    · have he : E = 0 := by rw [HE.out, if_pos ⟨hch, hcode⟩]
      have ho' : O = N := by rw [HO.out, if_pos he]
      subst he ho'
      rw [decide_eq_true hcode] at hq
      clear hcode hch HE HO HNok ho
      go_wp2_with (first
        | (go_at_call 62; refine hq.mono ?_; rintro e w12 ⟨rfl, hw⟩; obtain rfl := hw.symm)
        | (refine at_load rfl _ rfl w8.heap.size rfl O y11 ?_)
        | (refine at_store rfl _ _ rfl rfl w.heap.size rfl NL.zero O rfl x11 ?_; rintro w13 g13; have x13 := g13.bx; have B13 := g13.next B11 (Nat.le_refl _); clear g13))
      exact bodyPost_ret (results_row_tmp (by rfl) _ _ w.heap.size _ _ _ _ rfl x13 Try.underlying36 rfl (NL.size _)) rfl ⟨rfl, B13⟩
    · have he : E = 3 := by rw [HE.out, if_neg (fun q => hcode q.2)]
      have ho' : O = NL.zero := by rw [HO.out, if_neg (by rw [he]; decide)]
      subst he ho'
      rw [decide_eq_false hcode] at hq
      clear hcode hch HE HO HNok ho
      go_wp2_with (first
        | (go_at_call 62; refine hq.mono ?_; rintro e w12 ⟨rfl, hw⟩; obtain rfl := hw.symm)
        | (refine at_build rfl _ rfl NL.zero (by kernel_rfl) ?_)
        | (refine at_store rfl _ _ rfl rfl w.heap.size rfl NL.zero NL.zero rfl x11 ?_; rintro w13 g13; have x13 := g13.bx; have B13 := g13.next B11 (Nat.le_refl _); clear g13))
      exact bodyPost_ret (results_row_tmp (by rfl) _ _ w.heap.size _ _ _ _ rfl x13 Try.underlying36 rfl (NL.size _)) rfl ⟨rfl, B13⟩
  · have he : E = 3 := by rw [HE.out, if_neg (fun q => hch q.1)]
    have ho' : O = NL.zero := by rw [HO.out, if_neg (by rw [he]; decide)]
    have hb' := bytes_bad N hch w10
    have A : (N.chk != 0) = true := by simpa using hch
    subst he ho'
    generalize N.chk = ch at hb' A
    unfold NL.v at hb'
    clear hch HE HO HNok ho
    go_at_call 10
    refine hb'.mono ?_
    rintro e w11 ⟨rfl, k11⟩
    have x11 := x10.below k11 x10.lt
    have B11 := B10.trans (k11.mono B10.size)
    clear hb' x10 y10 B10 k11
    go_wp2_with (first
      | (refine at_build rfl _ rfl NL.zero (by kernel_rfl) ?_)
      | (refine at_store rfl _ _ rfl rfl w.heap.size rfl NL.zero NL.zero rfl x11 ?_; rintro w13 g13; have x13 := g13.bx; have B13 := g13.next B11 (Nat.le_refl _); clear g13))
    exact bodyPost_ret (results_row_tmp (by rfl) _ _ w.heap.size _ _ _ _ rfl x13 Try.underlying36 rfl (NL.size _)) rfl ⟨rfl, B13⟩
set_option maxHeartbeats 4000000 in
theorem route_prefix (xs : List Int) (ho : Oct xs) (hl : xs.length ≤ 1099511627776) (hf : rrF xs = 0) (hk : rrK xs = 5) (v : Value) (w : World) (h : Seg w v xs) : Calls Try.prog 34 #[v] w fun r w' => r = .returned (.tuple #[(rrO xs).v, .int .i64 (rrE xs)]) ∧ Below w.heap.size w w' := by
  have hN : rrN xs = decPrefix (rrV xs) := by unfold rrN; simp [hk]
  have hE : rrE xs = if (rrN xs).chk = 0 ∧ (rrN xs).code = xs then 0 else 3 := by unfold rrE; simp [hf, hk, show lay 5 = some 97 from rfl]
  have HO := Lib.hid (show rrO xs = if rrE xs = 0 then rrN xs else NL.zero from rfl)
  have HE := Lib.hid hE
  have HNok := Lib.hid (rrN_ok (xs := xs) ho)
  have HR := Lib.hid (fun (w : World) (c : Nat) (r : Rdr w c (rrV xs)) => prefix_read w c _ r)
  have HN := Lib.hid hN
  have hl' := fun w => layout_is 5 w
  rw [show lay 5 = some 97 from rfl] at hl'
  unfold layV at hl'
  have hf' : (rrF xs != 0) = false := by simpa using hf
  have hk' : rrK xs = 5 := hk
  clear hf hN hE hk
  have hme : ∀ j w, Sem.run Try.prog (method (j + 1) 97 (.agg #[]) "leafmesh/nlri.read") w = .ok (133, .agg #[]) w := fun j w => by kernel_rfl
  have hcf : ∀ p w, Sem.run Try.prog (callFunc 133 #[.agg #[], p]) w = .ok (.enter 133 #[.agg #[], p]) w := fun p w => by kernel_rfl
  generalize rrO xs = O at HO ⊢
  generalize rrE xs = E at HO HE ⊢
  generalize rrN xs = N at HO HE HNok HN
  have hbk := part_lt (R := ⟨0, 0, xs, 0, 0⟩) ho 1
  have hbs := part_lt (R := RS.next ⟨0, 0, xs, 0, 0⟩ 1) (oct_next (R := ⟨0, 0, xs, 0, 0⟩) ho 1) 1
  have hF : rrF xs = (((RS.next ⟨0, 0, xs, 0, 0⟩ 1).next 1).next ((be ((RS.next ⟨0, 0, xs, 0, 0⟩ 1).part 1) : Nat) : Int)).er := rfl
  have hV : rrV xs = ((RS.next ⟨0, 0, xs, 0, 0⟩ 1).next 1).sub ((be ((RS.next ⟨0, 0, xs, 0, 0⟩ 1).part 1) : Nat) : Int) := rfl
  have hK : rrK xs = be (RS.part ⟨0, 0, xs, 0, 0⟩ 1) := rfl
  have HF := Lib.hid hF
  have HV := Lib.hid hV
  have HK := Lib.hid hK
  clear hF hV hK
  generalize rrF xs = F at HF hf'
  generalize rrV xs = V at HV HR HN
  generalize rrK xs = K at HK hk'
  unfold NL.v
  go_enter Try.func34, Try.ntmps34
  go_wp2_with (refine at_new rfl rfl ?_; rintro w1 ⟨x1, k1, s1⟩)
  go_at_call 58
  refine (rd_New w1 v xs (h.below k1) ho hl).mono ?_
  rintro e w2 ⟨b, rfl, hb2, r2, k2⟩
  have hb : w.heap.size ≤ b := by omega
  have x2 := x1.below k2 x1.lt
  have B2 := k1.trans (k2.mono k1.size)
  obtain ⟨R0, hR0⟩ : ∃ R0 : RS, R0 = ⟨0, 0, xs, 0, 0⟩ := ⟨_, rfl⟩
  rw [← hR0] at r2 hbk hbs
  have HF := Lib.hid (HF.out.trans (by rw [← hR0]))
  have HV := Lib.hid (HV.out.trans (by rw [← hR0]))
  have HK := Lib.hid (HK.out.trans (by rw [← hR0]))
  have HR0 := Lib.hid hR0
  clear k1 k2 hR0 x1 hb2
  go_wp2_with fail
  go_at_call 59
  refine (rd_U8 w2 b R0 r2).mono ?_
  rintro e w3 ⟨rfl, r3, k3⟩
  have x3 := x2.but r2 k3
  have B3 := But.below B2 k3 hb B2.size
  rw [← HK.out]
  have hbk : ((K : Nat) : Int) < 256 := by rw [HK.out]; exact hbk
  obtain ⟨R1, hR1⟩ : ∃ R1, R1 = R0.next 1 := ⟨_, rfl⟩
  rw [← hR1] at r3 hbs
  have HF := Lib.hid (HF.out.trans (by rw [← hR1]))
  have HV := Lib.hid (HV.out.trans (by rw [← hR1]))
  clear k3 x2 r2 B2 hR1 HK
  go_wp2_with fail
  go_at_call 59
  refine (rd_U8 w3 b R1 r3).mono ?_
  rintro e w4 ⟨rfl, r4, k4⟩
  have x4 := x3.but r3 k4
  have B4 := But.below B3 k4 hb B3.size
  obtain ⟨S, hS⟩ : ∃ S, S = be (R1.part 1) := ⟨_, rfl⟩
  rw [← hS]
  have hbs : ((S : Nat) : Int) < 256 := by rw [hS]; exact hbs
  obtain ⟨R2, hR2⟩ : ∃ R2, R2 = R1.next 1 := ⟨_, rfl⟩
  rw [← hR2] at r4
  have HF := Lib.hid (HF.out.trans (by rw [← hR2, ← hS]))
  have HV := Lib.hid (HV.out.trans (by rw [← hR2, ← hS]))
  clear k4 x3 r3 B3 hR2 hS
  go_wp2_with fail
  go_at_call 60
  refine (rd_Sub w4 b R2 S r4).mono ?_
  rintro e w5 ⟨c, rfl, hc5, rc5, r5, k5⟩
  have x5 := x4.but r4 k5
  have B5 := But.below B4 k5 hb B4.size
  have hc : w.heap.size ≤ c := Nat.le_trans B4.size hc5
  rw [← HV.out] at rc5
  clear k5 x4 r4 B4 HV hc5
  go_wp2_with fail
  go_at_call 61
  refine (rd_Fault w5 b _ r5).mono ?_
  rintro e w6 ⟨rfl, k6⟩
  have x6 := x5.below k6 x5.lt
  have B6 := B5.trans (k6.mono B5.size)
  have rc6 := rc5.below k6
  rw [← HF.out]
  generalize (R2.next S).ea = ea
  have hfl : ∀ w, Sem.run Try.prog (Instr.field 40 (.agg #[.int .i64 F, .int .i64 ea]) 0) w = .ok (.int .i64 F) w := fun w => by kernel_rfl
  clear k6 x5 r5 rc5 B5 HF HR0
  subst hk'
  go_wp2_with fail
  go_at_call 29
  refine (hl' w6).mono ?_
  rintro e w7 ⟨rfl, k7⟩
  have x7 := x6.below k7 x6.lt
  have B7 := B6.trans (k7.mono B6.size)
  have rc7 := rc6.below k7
  clear k7 x6 B6 hl' rc6
  have hR := HR.out w7 c rc7
  rw [← HN.out] at hR
  unfold NL.v at hR
  clear HR HN
  go_wp2_with fail
  go_at_call 133
  refine hR.mono ?_
  rintro e w8 ⟨rfl, -, k8⟩
  have x8 := x7.but rc7 k8
  have B8 := But.below B7 k8 hc B7.size
  have hz8 := x8.lt
  clear hR k8 x7 B7 rc7 hme hcf
  go_wp2_with (first
    | (refine at_new rfl rfl ?_; rintro w9 ⟨y9, k9, s9⟩; have x9 := x8.below k9 x8.lt; have B9 := B8.trans (k9.mono B8.size); have hn9 : w8.heap.size ≠ w.heap.size := by omega
       clear k9 x8 B8 s9; go_simp)
    | (refine at_store rfl _ _ rfl rfl w8.heap.size rfl NL.zero N rfl y9 ?_; rintro w10 g10; have y10 := g10.bx; have x10 := g10.other x9 (Ne.symm hn9); have B10 := g10.next B9 (by omega); clear g10 y9 x9 B9)
    | (refine at_load rfl _ rfl w8.heap.size rfl N y10 ?_))
  by_cases hch : N.chk = 0
  · have hb' := bytes_ok N HNok.out hch w10
    unfold NL.v at hb'
    go_at_call 10
    refine hb'.mono ?_
    rintro e w11 ⟨vb, rfl, hD, k11⟩
    have x11 := x10.below k11 x10.lt
    have y11 := y10.below k11 y10.lt
    have B11 := B10.trans (k11.mono B10.size)
    have hq := equal_is hD.seg (h.below B11) (code_oct HNok.out hch) ho
    clear hb' x10 y10 B10 k11 hD
    by_cases hcode : N.code = xs
    · have he : E = 0 := by rw [HE.out, if_pos ⟨hch, hcode⟩]
      have ho' : O = N := by rw [HO.out, if_pos he]
      subst he ho'
      rw [decide_eq_true hcode] at hq
      clear hcode hch HE HO HNok ho
      go_wp2_with (first
        | (go_at_call 62; refine hq.mono ?_; rintro e w12 ⟨rfl, hw⟩; obtain rfl := hw.symm)
        | (refine at_load rfl _ rfl w8.heap.size rfl O y11 ?_)
        | (refine at_store rfl _ _ rfl rfl w.heap.size rfl NL.zero O rfl x11 ?_; rintro w13 g13; have x13 := g13.bx; have B13 := g13.next B11 (Nat.le_refl _); clear g13))
      exact bodyPost_ret (results_row_tmp (by rfl) _ _ w.heap.size _ _ _ _ rfl x13 Try.underlying36 rfl (NL.size _)) rfl ⟨rfl, B13⟩
    · have he : E = 3 := by rw [HE.out, if_neg (fun q => hcode q.2)]
      have ho' : O = NL.zero := by rw [HO.out, if_neg (by rw [he]; decide)]
      subst he ho'
      rw [decide_eq_false hcode] at hq
      clear hcode hch HE HO HNok ho
      go_wp2_with (first
        | (go_at_call 62; refine hq.mono ?_; rintro e w12 ⟨rfl, hw⟩; obtain rfl := hw.symm)
        | (refine at_build rfl _ rfl NL.zero (by kernel_rfl) ?_)
        | (refine at_store rfl _ _ rfl rfl w.heap.size rfl NL.zero NL.zero rfl x11 ?_; rintro w13 g13; have x13 := g13.bx; have B13 := g13.next B11 (Nat.le_refl _); clear g13))
      exact bodyPost_ret (results_row_tmp (by rfl) _ _ w.heap.size _ _ _ _ rfl x13 Try.underlying36 rfl (NL.size _)) rfl ⟨rfl, B13⟩
  · have he : E = 3 := by rw [HE.out, if_neg (fun q => hch q.1)]
    have ho' : O = NL.zero := by rw [HO.out, if_neg (by rw [he]; decide)]
    have hb' := bytes_bad N hch w10
    have A : (N.chk != 0) = true := by simpa using hch
    subst he ho'
    generalize N.chk = ch at hb' A
    unfold NL.v at hb'
    clear hch HE HO HNok ho
    go_at_call 10
    refine hb'.mono ?_
    rintro e w11 ⟨rfl, k11⟩
    have x11 := x10.below k11 x10.lt
    have B11 := B10.trans (k11.mono B10.size)
    clear hb' x10 y10 B10 k11
    go_wp2_with (first
      | (refine at_build rfl _ rfl NL.zero (by kernel_rfl) ?_)
      | (refine at_store rfl _ _ rfl rfl w.heap.size rfl NL.zero NL.zero rfl x11 ?_; rintro w13 g13; have x13 := g13.bx; have B13 := g13.next B11 (Nat.le_refl _); clear g13))
    exact bodyPost_ret (results_row_tmp (by rfl) _ _ w.heap.size _ _ _ _ rfl x13 Try.underlying36 rfl (NL.size _)) rfl ⟨rfl, B13⟩
end Go.Proofs.Ytejcclcckgdbgaa
