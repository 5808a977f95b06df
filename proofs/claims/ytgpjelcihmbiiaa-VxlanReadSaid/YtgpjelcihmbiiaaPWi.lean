/- What an IPv4 header writes; the encoding of a frame. No condition. -/
import Derived.Test.YtgpjelcihmbiiaaPWr
namespace Go.Proofs.Ytgpjelcihmbiiaa
open Go.RowKit
set_option linter.unusedVariables false
set_option linter.unusedSimpArgs false
set_option maxRecDepth 100000

theorem q_mid {C : World → Prop} {o : Oper} {a : Act} {K : Act → Prop} (ty : TypeId) (x : Operand) (ho : o.op = .load ty x) (b k : Nat) (hx : a.eval x = .pointer (some ⟨b, k, none⟩)) (t : TypeId) (cs : List Value) (hC : ∀ w, C w → Blk w b t cs) (vs : List Value) (he : (cs.drop k).take vs.length = vs) (d : TypeDesc)
    (hu : Try.prog.underlying ty = some d) (hd : d.isRow = true) (hi : (Try.prog.info? ty).map (·.size) = some vs.length) (h : K (a.put o.dst (.agg vs.toArray))) : o.quiet Try.prog a C K :=
  ⟨.agg vs.toArray, fun w hw => by
    have hr := run_loadAt_mid w b k ty vs d ((hC w hw).range k vs he) hu hd hi
    unfold Oper.quietAt execOp
    simp only [ho, hx, Sem.run_bind, hr, Sem.run_pure, Result.andThen_ok, Oper.quietUpon, and_self], h⟩
theorem DatB.own {B : Nat} {w : World} {v : Value} {xs : List Int} (h : DatB B w v xs) : ∀ g, v.ownBlock = some g → B ≤ g := by
  obtain ⟨_, ⟨hv, hn⟩ | ⟨g, cap, cur, hv, hb, _⟩⟩ := h
  · rw [hv]
    intro g e
    cases e
  · rw [hv]
    intro g' e
    cases e
    exact hb
theorem DatB.below {B : Nat} {w w' : World} {v : Value} {xs : List Int} (h : DatB B w v xs) (k : Below w.heap.size w w') : DatB B w' v xs := by
  obtain ⟨h1, ⟨hv, hn⟩ | ⟨g, cap, cur, hv, hb, hg, r⟩⟩ := h
  · exact ⟨h1, .inl ⟨hv, hn⟩⟩
  · exact ⟨h1, .inr ⟨g, cap, cur, hv, hb, (k.block g (Array.getElem?_eq_some_iff.1 hg).1).trans hg, r⟩⟩
theorem Wr.old {b : Nat} {W : WS} {w w' : World} {ys : List Int} {v : Value} (h : Wr b W w ys v w') (h0 : Dat w W.v W.xs) : ∀ g, v.ownBlock = some g → g < w'.heap.size := fun g hg => (World.ownsRow.lt h.wtr.2.1 g hg).2
theorem pt_cases {p : Int} (h : pt p = true) : p = 6 ∨ p = 17 := by simpa [pt] using h
theorem hchk_zero {f : FL} (h : f.hchk = 0) : up 255 f.tt = true ∧ up 255 f.pr = true ∧ up 65535 f.sp = true ∧ up 65535 f.dp = true ∧ (pt f.pr = false → f.sp = 0 ∧ f.dp = 0) := by
  unfold FL.hchk at h
  by_cases h1 : up 255 f.tt = false ∨ up 255 f.pr = false ∨ up 65535 f.sp = false ∨ up 65535 f.dp = false
  · rw [if_pos h1] at h; cases h
  rw [if_neg h1] at h
  by_cases h2 : pt f.pr = false ∧ (f.sp ≠ 0 ∨ f.dp ≠ 0)
  · rw [if_pos h2] at h; cases h
  simp only [not_or, Bool.not_eq_false] at h1
  refine ⟨h1.1, h1.2.1, h1.2.2.1, h1.2.2.2, fun hp => ?_⟩
  by_cases q1 : f.sp = 0
  · by_cases q2 : f.dp = 0
    · exact ⟨q1, q2⟩
    · exact absurd ⟨hp, .inr q2⟩ h2
  · exact absurd ⟨hp, .inl q1⟩ h2
set_option maxHeartbeats 2000000 in
theorem ipW_no (f : FL) (hf : f.Ok) (hc : f.hchk = 0) (hp : pt f.pr = false) {b : Nat} {W : WS} {w : World} (h : Wtr w b W) (hl : W.xs.length + 22 ≤ W.lim) :
    Calls Try.prog 123 #[.agg f.ip.toArray, .pointer (some ⟨b, 0, none⟩)] w fun e w2 => e = .returned (.tuple #[]) ∧ ∃ v2, Wr b W w f.ipB v2 w2 := by
  obtain ⟨z1, z2, z3, z4, z5⟩ := hchk_zero hc
  have HS := fun c qc w => withSum_is f hf z1 z2 c qc w
  have HO := Lib.hid (hdB_oct f 0)
  have HB := Lib.hid (sumI_lt (hdB_oct f 0))
  have HL := Lib.hid (hdB_length f 0)
  have HOC := Lib.hid (hdB_oct f (sumI (f.hdB 0)))
  have HLC := Lib.hid (hdB_length f (sumI (f.hdB 0)))
  have HP := fun w => ported_is f.pr w
  unfold FL.ipB FL.ptB
  rw [hp] at HP ⊢
  clear hf hc z1 z2 z5
  obtain ⟨s, d, k, op, sm, si, tm, ti, hs, hd, tt, pr, sp, dp, x⟩ := f
  unfold FL.ip at HS ⊢
  simp only [up, Bool.and_eq_true, decide_eq_true_eq] at z3 z4
  dsimp only at *
  generalize FL.hdB ⟨s, d, k, op, sm, si, tm, ti, hs, hd, tt, pr, sp, dp, x⟩ = hdB at HS HO HB HL HOC HLC ⊢
  obtain ⟨C, hC0⟩ : ∃ C, sumI (hdB 0) = C := ⟨_, rfl⟩
  rw [hC0] at HB HOC HLC ⊢
  have HCC := Lib.hid hC0
  clear hC0
  have e1 : sp % 18446744073709551616 = sp := by omega
  have e2 : dp % 18446744073709551616 = dp := by omega
  go_enter Try.func123, Try.ntmps123
  go_wp2_with (refine at_box rfl _ _ rfl [.int .u32 hs, .int .u32 hd, .int .i64 tt, .int .i64 pr, .int .i64 sp, .int .i64 dp] rfl ?_; rintro w1 H1 k1 s1)
  have S1 := Wr.start (h.below k1)
  have B0 := (h.below k1).1
  have D0 := (h.below k1).2.1
  clear s1
  go_at_call 84
  refine (put_U16 S1 2048 (by decide) (by decide) (by simp [enc_length] <;> omega)).mono ?_
  rintro e w2 ⟨rfl, v2, S2⟩
  have x2 := S2.keep H1 B0 D0 (by decide) (by decide)
  clear S1
  go_wp2_with fail
  refine wp_region_selG w.heap.size [0, 1, 2] 4 rfl (by kernel_rfl) (by kernel_rfl) (by kernel_rfl) (by kernel_rfl) (fun _ d _ _ _ h => by cases d <;> exact h) ?_
  intro V hV
  have d0 : Below w2.heap.size w2 V := by subst hV; exact (Below.refl _ _).drew
  have HV : Blk V w.heap.size 110 [.int .u32 hs, .int .u32 hd, .int .i64 tt, .int .i64 pr, .int .i64 sp, .int .i64 dp] := x2.below d0 x2.lt
  have SV := S2.below d0
  have hC : ∀ w', (∃ q : Same1 w.heap.size V, w' = q.w) → Blk w' w.heap.size 110 [.int .u32 hs, .int .u32 hd, .int .i64 tt, .int .i64 pr, .int .i64 sp, .int .i64 dp] := by
    rintro _ ⟨q, rfl⟩
    exact q.h.trans HV
  clear hV
  simp only [pickOps, List.filterMap_cons, List.filterMap_nil, List.getElem?_cons_zero, List.getElem?_cons_succ, Option.map_some, List.map_cons, List.map_nil]
  repeat (first | (go_big_quiet_want; refine q_mid 110 (.tmp 2) rfl w.heap.size 0 rfl _ [.int .u32 hs, .int .u32 hd, .int .i64 tt, .int .i64 pr, .int .i64 sp, .int .i64 dp] hC [.int .u32 hs, .int .u32 hd, .int .i64 tt, .int .i64 pr, .int .i64 sp, .int .i64 dp] rfl _ Try.underlying110 rfl szHi ?_; go_simp; go_big_quiet_on) | go_big_quiet_step (fail))
  refine wpQuiet_nil ?_
  clear hC
  refine wpAnyH_one (k := 3) (by kernel_rfl) rfl (fun K hQ => ?_)
  go_simp
  refine (HS 0 (by decide) V).mono ?_
  rintro e w3 ⟨u3, rfl, d3, k3⟩
  refine hQ _ _ ⟨⟨w3, k3.block _ HV.lt⟩, rfl⟩ ?_
  clear hQ K
  refine wpAnyH_one (k := 4) (by kernel_rfl) rfl (fun K hQ => ?_)
  go_simp
  refine (sum_is _ u3 w3 d3.dat.seg HO.out (by rw [HL.out]; decide)).mono ?_
  rintro e w4 ⟨he, k4⟩
  rw [HCC.out] at he
  subst he
  have k34 := k3.trans (k4.mono k3.size)
  refine hQ _ _ ⟨⟨w4, k34.block _ HV.lt⟩, rfl⟩ ?_
  clear hQ K
  refine wpAnyH_one (k := 5) (by kernel_rfl) rfl (fun K hQ => ?_)
  go_simp
  refine (HS C HB.out w4).mono ?_
  rintro e w5 ⟨u5, rfl, d5, k5⟩
  have k35 := k34.trans (k5.mono k34.size)
  refine hQ _ _ ⟨⟨w5, k35.block _ HV.lt⟩, rfl⟩ ?_
  clear hQ K
  refine wpAnyH_one (k := 6) (by kernel_rfl) rfl (fun K hQ => ?_)
  go_simp
  have S5 := SV.below k35
  refine (put_Bytes S5 u5 _ d5.dat (HOC.out) (fun g hg e => by
    have h1 := d5.own g hg
    have h2 := (World.ownsRow.lt SV.wtr.2.1 g e.symm).2
    have h3 := k34.size
    omega) (by rw [HLC.out]; simp [enc_length]; omega)).mono ?_
  rintro e w6 ⟨rfl, v6, S6⟩
  have x6 := S6.keep H1 B0 D0 (by decide) (by decide)
  refine hQ _ _ ⟨⟨w6, x6.trans HV.symm⟩, rfl⟩ ?_
  clear hQ K
  refine wpAnyH_done (by kernel_rfl) ?_ 0
  clear SV S5 d3 d5 k3 k4 k5 k34 k35 S2 x2 d0
  have d7 := Blk.cell x6 3 (v := .int .i64 pr) rfl
  go_wp2_with (go_at_call 21; refine (HP _).mono ?_; rintro e w' ⟨rfl, hw⟩; obtain rfl := hw.symm)
  go_returns
  exact ⟨rfl, v6, Wr.of_later k1 (by simpa [List.append_assoc] using S6)⟩
set_option maxHeartbeats 2000000 in
theorem ipW_yes (f : FL) (hf : f.Ok) (hc : f.hchk = 0) (hp : pt f.pr = true) {b : Nat} {W : WS} {w : World} (h : Wtr w b W) (hl : W.xs.length + 38 ≤ W.lim) :
    Calls Try.prog 123 #[.agg f.ip.toArray, .pointer (some ⟨b, 0, none⟩)] w fun e w2 => e = .returned (.tuple #[]) ∧ ∃ v2, Wr b W w f.ipB v2 w2 := by
  obtain ⟨z1, z2, z3, z4, z5⟩ := hchk_zero hc
  have HS := fun c qc w => withSum_is f hf z1 z2 c qc w
  have HO := Lib.hid (hdB_oct f 0)
  have HB := Lib.hid (sumI_lt (hdB_oct f 0))
  have HL := Lib.hid (hdB_length f 0)
  have HOC := Lib.hid (hdB_oct f (sumI (f.hdB 0)))
  have HLC := Lib.hid (hdB_length f (sumI (f.hdB 0)))
  have HP := fun w => ported_is f.pr w
  unfold FL.ipB FL.ptB
  rw [hp] at HP ⊢
  clear hf hc z1 z2 z5
  obtain ⟨s, d, k, op, sm, si, tm, ti, hs, hd, tt, pr, sp, dp, x⟩ := f
  unfold FL.ip at HS ⊢
  simp only [up, Bool.and_eq_true, decide_eq_true_eq] at z3 z4
  dsimp only at *
  generalize FL.hdB ⟨s, d, k, op, sm, si, tm, ti, hs, hd, tt, pr, sp, dp, x⟩ = hdB at HS HO HB HL HOC HLC ⊢
  obtain ⟨C, hC0⟩ : ∃ C, sumI (hdB 0) = C := ⟨_, rfl⟩
  rw [hC0] at HB HOC HLC ⊢
  have HCC := Lib.hid hC0
  clear hC0
  have e1 : sp % 18446744073709551616 = sp := by omega
  have e2 : dp % 18446744073709551616 = dp := by omega
  go_enter Try.func123, Try.ntmps123
  go_wp2_with (refine at_box rfl _ _ rfl [.int .u32 hs, .int .u32 hd, .int .i64 tt, .int .i64 pr, .int .i64 sp, .int .i64 dp] rfl ?_; rintro w1 H1 k1 s1)
  have S1 := Wr.start (h.below k1)
  have B0 := (h.below k1).1
  have D0 := (h.below k1).2.1
  clear s1
  go_at_call 84
  refine (put_U16 S1 2048 (by decide) (by decide) (by simp [enc_length] <;> omega)).mono ?_
  rintro e w2 ⟨rfl, v2, S2⟩
  have x2 := S2.keep H1 B0 D0 (by decide) (by decide)
  clear S1
  go_wp2_with fail
  refine wp_region_selG w.heap.size [0, 1, 2] 4 rfl (by kernel_rfl) (by kernel_rfl) (by kernel_rfl) (by kernel_rfl) (fun _ d _ _ _ h => by cases d <;> exact h) ?_
  intro V hV
  have d0 : Below w2.heap.size w2 V := by subst hV; exact (Below.refl _ _).drew
  have HV : Blk V w.heap.size 110 [.int .u32 hs, .int .u32 hd, .int .i64 tt, .int .i64 pr, .int .i64 sp, .int .i64 dp] := x2.below d0 x2.lt
  have SV := S2.below d0
  have hC : ∀ w', (∃ q : Same1 w.heap.size V, w' = q.w) → Blk w' w.heap.size 110 [.int .u32 hs, .int .u32 hd, .int .i64 tt, .int .i64 pr, .int .i64 sp, .int .i64 dp] := by
    rintro _ ⟨q, rfl⟩
    exact q.h.trans HV
  clear hV
  simp only [pickOps, List.filterMap_cons, List.filterMap_nil, List.getElem?_cons_zero, List.getElem?_cons_succ, Option.map_some, List.map_cons, List.map_nil]
  repeat (first | (go_big_quiet_want; refine q_mid 110 (.tmp 2) rfl w.heap.size 0 rfl _ [.int .u32 hs, .int .u32 hd, .int .i64 tt, .int .i64 pr, .int .i64 sp, .int .i64 dp] hC [.int .u32 hs, .int .u32 hd, .int .i64 tt, .int .i64 pr, .int .i64 sp, .int .i64 dp] rfl _ Try.underlying110 rfl szHi ?_; go_simp; go_big_quiet_on) | go_big_quiet_step (fail))
  refine wpQuiet_nil ?_
  clear hC
  refine wpAnyH_one (k := 3) (by kernel_rfl) rfl (fun K hQ => ?_)
  go_simp
  refine (HS 0 (by decide) V).mono ?_
  rintro e w3 ⟨u3, rfl, d3, k3⟩
  refine hQ _ _ ⟨⟨w3, k3.block _ HV.lt⟩, rfl⟩ ?_
  clear hQ K
  refine wpAnyH_one (k := 4) (by kernel_rfl) rfl (fun K hQ => ?_)
  go_simp
  refine (sum_is _ u3 w3 d3.dat.seg HO.out (by rw [HL.out]; decide)).mono ?_
  rintro e w4 ⟨he, k4⟩
  rw [HCC.out] at he
  subst he
  have k34 := k3.trans (k4.mono k3.size)
  refine hQ _ _ ⟨⟨w4, k34.block _ HV.lt⟩, rfl⟩ ?_
  clear hQ K
  refine wpAnyH_one (k := 5) (by kernel_rfl) rfl (fun K hQ => ?_)
  go_simp
  refine (HS C HB.out w4).mono ?_
  rintro e w5 ⟨u5, rfl, d5, k5⟩
  have k35 := k34.trans (k5.mono k34.size)
  refine hQ _ _ ⟨⟨w5, k35.block _ HV.lt⟩, rfl⟩ ?_
  clear hQ K
  refine wpAnyH_one (k := 6) (by kernel_rfl) rfl (fun K hQ => ?_)
  go_simp
  have S5 := SV.below k35
  refine (put_Bytes S5 u5 _ d5.dat (HOC.out) (fun g hg e => by
    have h1 := d5.own g hg
    have h2 := (World.ownsRow.lt SV.wtr.2.1 g e.symm).2
    have h3 := k34.size
    omega) (by rw [HLC.out]; simp [enc_length]; omega)).mono ?_
  rintro e w6 ⟨rfl, v6, S6⟩
  have x6 := S6.keep H1 B0 D0 (by decide) (by decide)
  refine hQ _ _ ⟨⟨w6, x6.trans HV.symm⟩, rfl⟩ ?_
  clear hQ K
  refine wpAnyH_done (by kernel_rfl) ?_ 0
  clear SV S5 d3 d5 k3 k4 k5 k34 k35 S2 x2 d0
  have d7 := Blk.cell x6 3 (v := .int .i64 pr) rfl
  have d74 := Blk.cell x6 4 (v := .int .i64 sp) rfl
  go_wp2_with (go_at_call 21; refine (HP _).mono ?_; rintro e w' ⟨rfl, hw⟩; obtain rfl := hw.symm)
  go_at_call 84
  refine (put_U16 S6 sp z3.1 (by omega) (by simp [enc_length, HLC.out]; omega)).mono ?_
  rintro e w7 ⟨rfl, v7, S7⟩
  have x7 := S7.keep H1 B0 D0 (by decide) (by decide)
  clear d7
  have d8 := Blk.cell x7 5 (v := .int .i64 dp) rfl
  go_wp2_with fail
  go_at_call 84
  refine (put_U16 S7 dp z4.1 (by omega) (by simp [enc_length, HLC.out]; omega)).mono ?_
  rintro e w8 ⟨rfl, v8, S8⟩
  have x8 := S8.keep H1 B0 D0 (by decide) (by decide)
  clear x7 d8 S7
  go_wp2_with fail
  go_at_call 84
  refine (put_U16 S8 16 (by decide) (by decide) (by simp [enc_length, HLC.out]; omega)).mono ?_
  rintro e w9 ⟨rfl, v9, S9⟩
  have x9 := S9.keep H1 B0 D0 (by decide) (by decide)
  clear x8 S8
  go_wp2_with fail
  go_at_call 84
  refine (put_U16 S9 0 (by decide) (by decide) (by simp [enc_length, HLC.out]; omega)).mono ?_
  rintro e w10 ⟨rfl, v10, S10⟩
  have x10 := S10.keep H1 B0 D0 (by decide) (by decide)
  clear x9 S9
  go_wp2
  go_returns
  exact ⟨rfl, v10, Wr.of_later k1 (by simpa [List.append_assoc] using S10)⟩
/-- The octets between the addresses and the data. -/
def FL.mid (f : FL) : List Int := if f.k = 0 then enc 2 34997 else if f.k = 1 then f.arB else f.ipB
def FL.enc (f : FL) : List Int := Go.Proofs.Ytgpjelcihmbiiaa.enc 6 f.d.toNat ++ (Go.Proofs.Ytgpjelcihmbiiaa.enc 6 f.s.toNat ++ (f.mid ++ Go.Proofs.Ytgpjelcihmbiiaa.enc 8 f.x.toNat))
end Go.Proofs.Ytgpjelcihmbiiaa
