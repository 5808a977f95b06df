/- Why a packet is not valid: the reference. No condition. The reference of layer 8: Bytes. No condition. The reference of layer 7: Put, and what it leaves as it was. No condition. The reference of layer 8: Hash and Entropy. No condition. The reference of layer 8: Entropy of a frame of IP. No condition. VxlanCalls: the law is walked. No condition. VxlanCalls: whatever the input, the law returns true. No condition. -/
import Derived.Test.YtgpjelcihmbiiaaVCk
import Derived.Test.YtgpjelcihmbiiaaPQc
import Derived.Test.YtgpjelcihmbiiaaVLd
import Derived.Test.YtgpjelcihmbiiaaPCw
import Derived.Test.YtgpjelcihmbiiaaPQp
import Derived.Maps.AppendAt
import Derived.Test.YtgpjelcihmbiiaaVFl
import Derived.Test.YtgpjelcihmbiiaaVOp
namespace Go.Proofs.Ytgpjelcihmbiiaa
open Go.RowKit
set_option linter.unusedVariables false
set_option linter.unusedSimpArgs false
set_option maxRecDepth 100000

set_option maxHeartbeats 2000000 in
theorem rvck0 (src dst ttl ent vni mark : Int) (f : FL) (h0 : ttl < 0) (w : World) : Calls Try.prog 35 #[PL.v ⟨src, dst, ttl, ent, vni, mark, f⟩] w fun e w' => e = .returned (.int .i64 2) ∧ Below w.heap.size w w' := by
  have q0 : decide (ttl < 0) = true := by simpa using h0
  clear h0
  unfold PL.v
  go_enter Try.func35, Try.ntmps35
  go_wp2_with (first
    | (refine at_box rfl 55 _ rfl (PL.cs ⟨src, dst, ttl, ent, vni, mark, f⟩) rfl ?_; rintro w1 H1 k1 s1; have c2 := H1.cell 2 (v := .int .i64 ttl) rfl; have c3 := H1.cell 3 (v := .int .i64 ent) rfl; have c4 := H1.cell 4 (v := .int .u32 vni) rfl; have c5 := H1.cell 5 (v := .int .u32 mark) rfl))
  go_ret
  exact ⟨rfl, k1⟩
set_option maxHeartbeats 2000000 in
theorem rvck1 (src dst ttl ent vni mark : Int) (f : FL) (h0 : ¬ ttl < 0) (h1 : 255 < ttl) (w : World) : Calls Try.prog 35 #[PL.v ⟨src, dst, ttl, ent, vni, mark, f⟩] w fun e w' => e = .returned (.int .i64 2) ∧ Below w.heap.size w w' := by
  have q0 : decide (ttl < 0) = false := by simpa using h0
  have q1 : decide (255 < ttl) = true := by simpa using h1
  clear h0 h1
  unfold PL.v
  go_enter Try.func35, Try.ntmps35
  go_wp2_with (first
    | (refine at_box rfl 55 _ rfl (PL.cs ⟨src, dst, ttl, ent, vni, mark, f⟩) rfl ?_; rintro w1 H1 k1 s1; have c2 := H1.cell 2 (v := .int .i64 ttl) rfl; have c3 := H1.cell 3 (v := .int .i64 ent) rfl; have c4 := H1.cell 4 (v := .int .u32 vni) rfl; have c5 := H1.cell 5 (v := .int .u32 mark) rfl))
  go_ret
  exact ⟨rfl, k1⟩
set_option maxHeartbeats 2000000 in
theorem rvck2 (src dst ttl ent vni mark : Int) (f : FL) (h0 : ¬ ttl < 0) (h1 : ¬ 255 < ttl) (h2 : ent < 0) (w : World) : Calls Try.prog 35 #[PL.v ⟨src, dst, ttl, ent, vni, mark, f⟩] w fun e w' => e = .returned (.int .i64 2) ∧ Below w.heap.size w w' := by
  have q0 : decide (ttl < 0) = false := by simpa using h0
  have q1 : decide (255 < ttl) = false := by simpa using h1
  have q2 : decide (ent < 0) = true := by simpa using h2
  clear h0 h1 h2
  unfold PL.v
  go_enter Try.func35, Try.ntmps35
  go_wp2_with (first
    | (refine at_box rfl 55 _ rfl (PL.cs ⟨src, dst, ttl, ent, vni, mark, f⟩) rfl ?_; rintro w1 H1 k1 s1; have c2 := H1.cell 2 (v := .int .i64 ttl) rfl; have c3 := H1.cell 3 (v := .int .i64 ent) rfl; have c4 := H1.cell 4 (v := .int .u32 vni) rfl; have c5 := H1.cell 5 (v := .int .u32 mark) rfl))
  go_ret
  exact ⟨rfl, k1⟩
set_option maxHeartbeats 2000000 in
theorem rvck3 (src dst ttl ent vni mark : Int) (f : FL) (h0 : ¬ ttl < 0) (h1 : ¬ 255 < ttl) (h2 : ¬ ent < 0) (h3 : 65535 < ent) (w : World) : Calls Try.prog 35 #[PL.v ⟨src, dst, ttl, ent, vni, mark, f⟩] w fun e w' => e = .returned (.int .i64 2) ∧ Below w.heap.size w w' := by
  have q0 : decide (ttl < 0) = false := by simpa using h0
  have q1 : decide (255 < ttl) = false := by simpa using h1
  have q2 : decide (ent < 0) = false := by simpa using h2
  have q3 : decide (65535 < ent) = true := by simpa using h3
  clear h0 h1 h2 h3
  unfold PL.v
  go_enter Try.func35, Try.ntmps35
  go_wp2_with (first
    | (refine at_box rfl 55 _ rfl (PL.cs ⟨src, dst, ttl, ent, vni, mark, f⟩) rfl ?_; rintro w1 H1 k1 s1; have c2 := H1.cell 2 (v := .int .i64 ttl) rfl; have c3 := H1.cell 3 (v := .int .i64 ent) rfl; have c4 := H1.cell 4 (v := .int .u32 vni) rfl; have c5 := H1.cell 5 (v := .int .u32 mark) rfl))
  go_ret
  exact ⟨rfl, k1⟩
set_option maxHeartbeats 2000000 in
theorem rvck4 (src dst ttl ent vni mark : Int) (f : FL) (h0 : ¬ ttl < 0) (h1 : ¬ 255 < ttl) (h2 : ¬ ent < 0) (h3 : ¬ 65535 < ent) (h4 : 16777215 < vni) (w : World) : Calls Try.prog 35 #[PL.v ⟨src, dst, ttl, ent, vni, mark, f⟩] w fun e w' => e = .returned (.int .i64 2) ∧ Below w.heap.size w w' := by
  have q0 : decide (ttl < 0) = false := by simpa using h0
  have q1 : decide (255 < ttl) = false := by simpa using h1
  have q2 : decide (ent < 0) = false := by simpa using h2
  have q3 : decide (65535 < ent) = false := by simpa using h3
  have q4 : decide (16777215 < vni) = true := by simpa using h4
  clear h0 h1 h2 h3 h4
  unfold PL.v
  go_enter Try.func35, Try.ntmps35
  go_wp2_with (first
    | (refine at_box rfl 55 _ rfl (PL.cs ⟨src, dst, ttl, ent, vni, mark, f⟩) rfl ?_; rintro w1 H1 k1 s1; have c2 := H1.cell 2 (v := .int .i64 ttl) rfl; have c3 := H1.cell 3 (v := .int .i64 ent) rfl; have c4 := H1.cell 4 (v := .int .u32 vni) rfl; have c5 := H1.cell 5 (v := .int .u32 mark) rfl))
  go_ret
  exact ⟨rfl, k1⟩
set_option maxHeartbeats 2000000 in
theorem rvck5 (src dst ttl ent vni mark : Int) (f : FL) (h0 : ¬ ttl < 0) (h1 : ¬ 255 < ttl) (h2 : ¬ ent < 0) (h3 : ¬ 65535 < ent) (h4 : ¬ 16777215 < vni) (h5 : 16777215 < mark) (w : World) : Calls Try.prog 35 #[PL.v ⟨src, dst, ttl, ent, vni, mark, f⟩] w fun e w' => e = .returned (.int .i64 2) ∧ Below w.heap.size w w' := by
  have q0 : decide (ttl < 0) = false := by simpa using h0
  have q1 : decide (255 < ttl) = false := by simpa using h1
  have q2 : decide (ent < 0) = false := by simpa using h2
  have q3 : decide (65535 < ent) = false := by simpa using h3
  have q4 : decide (16777215 < vni) = false := by simpa using h4
  have q5 : decide (16777215 < mark) = true := by simpa using h5
  clear h0 h1 h2 h3 h4 h5
  unfold PL.v
  go_enter Try.func35, Try.ntmps35
  go_wp2_with (first
    | (refine at_box rfl 55 _ rfl (PL.cs ⟨src, dst, ttl, ent, vni, mark, f⟩) rfl ?_; rintro w1 H1 k1 s1; have c2 := H1.cell 2 (v := .int .i64 ttl) rfl; have c3 := H1.cell 3 (v := .int .i64 ent) rfl; have c4 := H1.cell 4 (v := .int .u32 vni) rfl; have c5 := H1.cell 5 (v := .int .u32 mark) rfl))
  go_ret
  exact ⟨rfl, k1⟩
set_option maxHeartbeats 2000000 in
theorem rvck6 (src dst ttl ent vni mark : Int) (f : FL) (hf : 0 ≤ f.s ∧ f.s < 18446744073709551616) (h0 : ¬ ttl < 0) (h1 : ¬ 255 < ttl) (h2 : ¬ ent < 0) (h3 : ¬ 65535 < ent) (h4 : ¬ 16777215 < vni) (h5 : ¬ 16777215 < mark) (w : World) : Calls Try.prog 35 #[PL.v ⟨src, dst, ttl, ent, vni, mark, f⟩] w fun e w' => e = .returned (.int .i64 f.chk) ∧ Below w.heap.size w w' := by
  have HC := fun w => rcheck_is f hf w
  generalize f.chk = y at *
  unfold FL.v at HC
  clear hf
  have q0 : decide (ttl < 0) = false := by simpa using h0
  have q1 : decide (255 < ttl) = false := by simpa using h1
  have q2 : decide (ent < 0) = false := by simpa using h2
  have q3 : decide (65535 < ent) = false := by simpa using h3
  have q4 : decide (16777215 < vni) = false := by simpa using h4
  have q5 : decide (16777215 < mark) = false := by simpa using h5
  clear h0 h1 h2 h3 h4 h5
  unfold PL.v
  go_enter Try.func35, Try.ntmps35
  go_wp2_with (first
    | (refine at_box rfl 55 _ rfl (PL.cs ⟨src, dst, ttl, ent, vni, mark, f⟩) rfl ?_; rintro w1 H1 k1 s1; have c2 := H1.cell 2 (v := .int .i64 ttl) rfl; have c3 := H1.cell 3 (v := .int .i64 ent) rfl; have c4 := H1.cell 4 (v := .int .u32 vni) rfl; have c5 := H1.cell 5 (v := .int .u32 mark) rfl)
    | (refine at_mid rfl 36 _ rfl w.heap.size 6 rfl H1 (FL.cs f) rfl _ Try.underlying36 rfl szF ?_))
  go_at_call 23
  refine (HC w1).mono ?_
  rintro e w2 ⟨rfl, k2⟩
  have b2 := k1.trans (k2.mono k1.size)
  clear k1 k2 c2 c3 c4 c5 H1
  go_wp2
  go_ret
  exact ⟨rfl, b2⟩
theorem rvcheck_is (p : PL) (hf : 0 ≤ p.f.s ∧ p.f.s < 18446744073709551616) (w : World) : Calls Try.prog 35 #[p.v] w fun e w' => e = .returned (.int .i64 p.chk) ∧ Below w.heap.size w w' := by
  obtain ⟨src, dst, ttl, ent, vni, mark, f⟩ := p
  by_cases h0 : ttl < 0
  · rw [vchk_two (by simp [up]; omega)]
    exact rvck0 _ _ _ _ _ _ _ h0 w
  by_cases h1 : 255 < ttl
  · rw [vchk_two (by simp [up]; omega)]
    exact rvck1 _ _ _ _ _ _ _ h0 h1 w
  by_cases h2 : ent < 0
  · rw [vchk_two (by simp [up]; omega)]
    exact rvck2 _ _ _ _ _ _ _ h0 h1 h2 w
  by_cases h3 : 65535 < ent
  · rw [vchk_two (by simp [up]; omega)]
    exact rvck3 _ _ _ _ _ _ _ h0 h1 h2 h3 w
  by_cases h4 : 16777215 < vni
  · rw [vchk_two (by simp; omega)]
    exact rvck4 _ _ _ _ _ _ _ h0 h1 h2 h3 h4 w
  by_cases h5 : 16777215 < mark
  · rw [vchk_two (by simp; omega)]
    exact rvck5 _ _ _ _ _ _ _ h0 h1 h2 h3 h4 h5 w
  rw [vchk_in (by simp [up]; omega) (by simp [up]; omega) (by simp; omega) (by simp; omega)]
  exact rvck6 _ _ _ _ _ _ _ hf h0 h1 h2 h3 h4 h5 w
end Go.Proofs.Ytgpjelcihmbiiaa
namespace Go.Proofs.Ytgpjelcihmbiiaa
open Go.RowKit Go.Sort
set_option linter.unusedVariables false
set_option linter.unusedSimpArgs false
set_option maxRecDepth 100000

theorem run_l008 (w : World) : (Instr.buildSlice 23 3 #[(0, .int .u8 0), (1, .int .u8 0), (2, .int .u8 8)]).run Try.prog w = .ok (.slice (some ⟨w.heap.size, 0, none⟩) 3 3) (w.alloc (.cells (([0, 0, 8] : List Int).map (Value.int .u8)).toArray 5)) := by kernel_rfl
theorem at_l008 {ops : Array Oper} {rest : List Oper} {o : Oper} {a : Act} {w : World} {Q : Exit → Act → World → Prop} (hgd : o.guard = none) (ho : o.op = .buildSlice 23 3 #[(0, .const (.int .u8 0)), (1, .const (.int .u8 0)), (2, .const (.int .u8 8))])
    (h : ∀ w', DatB w.heap.size w' (.slice (some ⟨w.heap.size, 0, none⟩) 3 3) [0, 0, 8] → Below w.heap.size w w' → wpList Try.prog ops Q rest (a.put o.dst (.slice (some ⟨w.heap.size, 0, none⟩) 3 3)) w') : wpList Try.prog ops Q (o :: rest) a w :=
  wpList_plain hgd fun _ hK => by
    have ec : ∀ k, a.eval (.const (.int .u8 k)) = .int .u8 k := fun _ => rfl
    unfold Oper.wp execOp
    simp only [ho, List.map_toArray, List.map_cons, List.map_nil, ec, Sem.run_bind, run_l008, Result.andThen_ok, Sem.run_pure]
    exact hK _ _ (h _ (datB_lit _ w [0, 0, 8] (Nat.le_refl _) (by simp)) ((Below.refl _ w).alloc (Nat.le_refl _) _))
theorem wu64 (x : Int) : IntKind.u64.wrap x = x % 18446744073709551616 := by simp [IntKind.wrap, IntKind.bits, IntKind.signed]
theorem len16 (n : Nat) (h : n ≤ 1000) : IntKind.u64.wrap (wrap64 ((n : Int) + 16)) = ((n + 16 : Nat) : Int) := by
  rw [wu64]
  unfold wrap64
  omega
theorem vrbytes_bad (p : PL) (hf : p.f.Ok) (hc : p.chk ≠ 0) (w : World) : Calls Try.prog 34 #[p.v] w fun e w' => e = .returned (.tuple #[.slice none 0 0, .int .i64 p.chk]) ∧ Below w.heap.size w w' := by
  have hC := fun w => rvcheck_is p hf.s w
  have A : (p.chk != 0) = true := by simpa using hc
  generalize p.chk = y at hC A ⊢
  clear hc hf
  unfold PL.v at hC ⊢
  go_enter Try.func34, Try.ntmps34
  go_wp2_with (first
    | (refine at_box rfl 55 _ rfl (PL.cs p) rfl ?_; rintro w1 H1 k1 s1)
    | (refine at_mid rfl 55 _ rfl w.heap.size 0 rfl H1 (PL.cs p) rfl _ Try.underlying55 rfl szP ?_)
    | (go_at_call 35; refine (hC w1).mono ?_; rintro e w2 ⟨rfl, k2⟩; have b2 := k1.trans (k2.mono k1.size); clear k1 k2 H1 hC))
  go_ret2
  exact ⟨rfl, b2⟩
set_option maxHeartbeats 4000000 in
theorem vrbytes_ok (p : PL) (hp : p.Ok) (hc : p.chk = 0) (w : World) : Calls Try.prog 34 #[p.v] w fun e w' => ∃ v, e = .returned (.tuple #[v, .int .i64 0]) ∧ DatB w.heap.size w' v p.enc ∧ Below w.heap.size w w' := by
  have hC := fun w => rvcheck_is p hp.f.s w
  rw [hc] at hC
  obtain ⟨hh, hfc⟩ := pchk_zero hc
  have hb := hd_true hh
  have HB := fun w => rbytes_ok p.f hp.f hfc w
  have hle := enc_short hp.f hfc
  have q1 := hp.src; have q2 := hp.dst; have q3 := hp.vni; have q4 := hp.mark
  obtain ⟨src, dst, ttl, ent, vni, mark, f⟩ := p
  dsimp only at *
  have HD := fun w => rheader_is ((f.enc.length + 36 : Nat) : Int) ttl 17 src dst (by omega) (by omega) hb.1 (by omega) (by decide) (by decide) q1.1 q1.2 q2.1 q2.2 (rh_oct _ _ _ _ _ _) w
  have HL0 := Lib.hid (rh_length ((f.enc.length + 36 : Nat) : Int) ttl 17 src dst (sumI (rh ((f.enc.length + 36 : Nat) : Int) ttl 17 src dst 0)))
  have HP : Hid (∀ T : List Int, T = rh ((f.enc.length + 36 : Nat) : Int) ttl 17 src dst (sumI (rh ((f.enc.length + 36 : Nat) : Int) ttl 17 src dst 0)) ++ enc 2 (ent : Int).toNat ++ enc 2 (4789 : Int).toNat ++ enc 2 ((f.enc.length + 16 : Nat) : Int).toNat ++ [0, 0, 8] ++ enc 3 (mark : Int).toNat ++ enc 3 (vni : Int).toNat ++ [0] ++ f.enc → T = PL.enc ⟨src, dst, ttl, ent, vni, mark, f⟩) := Lib.hid (fun T hT => by
    rw [hT, Int.toNat_natCast]
    unfold PL.enc PL.hdr udB vxB
    rw [show ([0, 0, 8] : List Int) = enc 2 0 ++ enc 1 8 by decide, show ([0] : List Int) = enc 1 0 by decide]
    simp only [List.append_assoc]
    rfl)
  have r1 : ent % 18446744073709551616 = ent := by omega
  have r3 : (f.enc.length : Int) + 36 = ((f.enc.length + 36 : Nat) : Int) := by omega
  generalize PL.enc ⟨src, dst, ttl, ent, vni, mark, f⟩ = E at *
  generalize rh ((f.enc.length + 36 : Nat) : Int) ttl 17 src dst (sumI (rh ((f.enc.length + 36 : Nat) : Int) ttl 17 src dst 0)) = R at *
  generalize f.enc = xs at *
  obtain ⟨N, hN⟩ : ∃ N : Int, ((xs.length + 16 : Nat) : Int) = N := ⟨_, rfl⟩
  obtain ⟨M, hM⟩ : ∃ M : Int, ((xs.length + 36 : Nat) : Int) = M := ⟨_, rfl⟩
  rw [hN] at HP
  rw [hM] at r3 HD
  have n0 : 0 ≤ N := by omega
  have r4 : wrap64 M = M := by unfold wrap64; omega
  have n1 : N < 18446744073709551616 := by omega
  have HXL := Lib.hid hle
  have r5 : IntKind.u64.wrap (wrap64 ((xs.length : Int) + 16)) = N := by rw [len16 _ (by omega)]; exact hN
  have R5 := Lib.hid r5
  clear r5
  clear hc hh hfc hN hM hp hle
  unfold PL.v at hC ⊢
  unfold FL.v at HB
  go_enter Try.func34, Try.ntmps34
  go_wp2_with (first
    | (refine at_box rfl 55 _ rfl (PL.cs ⟨src, dst, ttl, ent, vni, mark, f⟩) rfl ?_; rintro w1 H1 k1 s1)
    | (refine at_mid rfl 55 _ rfl w.heap.size 0 rfl H1 (PL.cs ⟨src, dst, ttl, ent, vni, mark, f⟩) rfl _ Try.underlying55 rfl szP ?_)
    | (go_at_call 35; refine (hC w1).mono ?_; rintro e w2 ⟨rfl, k2⟩; have b2 := k1.trans (k2.mono k1.size); have H2 := H1.below k2 H1.lt; clear k1 k2 H1 hC)
    | (refine at_mid rfl 36 _ rfl w.heap.size 6 rfl H2 (FL.cs f) rfl _ Try.underlying36 rfl szF ?_))
  go_at_call 22
  refine (HB w2).mono ?_
  rintro e w3 ⟨iv, rfl, d3, k3⟩
  have b3 := b2.trans (k3.mono b2.size)
  have H3 := H2.below k3 H2.lt
  obtain ⟨ia, ic, rfl⟩ := d3.dat.shape
  have c0 := H3.cell 0 (v := .int .u32 src) rfl
  have c1 := H3.cell 1 (v := .int .u32 dst) rfl
  have c2 := H3.cell 2 (v := .int .i64 ttl) rfl
  have I3 := d3.dat
  clear k3 b2 H2 HB d3
  go_wp2_with fail
  go_at_call 52
  refine (HD w3).mono ?_
  rintro e w4 ⟨v4, rfl, D4, E4⟩
  clear c0 c1 c2 HD
  have x4 := H3.below E4 H3.lt
  have c3 := x4.cell 3 (v := .int .i64 ent) rfl
  go_wp2_with fail
  go_at_call 51
  refine (rput_is w3.heap.size R (by simp [enc_length, HL0.out] <;> omega) v4 ent 2 (by omega) (by omega) (by decide) w4 E4.size D4).mono ?_
  rintro r w5 ⟨v5, rfl, D5, e5, -⟩
  have E5 := E4.trans e5
  clear D4 e5
  go_wp2_with fail
  go_at_call 51
  refine (rput_is w3.heap.size _ (by simp [enc_length, HL0.out] <;> omega) v5 4789 2 (by decide) (by decide) (by decide) w5 E5.size D5).mono ?_
  rintro r w6 ⟨v6, rfl, D6, e6, -⟩
  have E6 := E5.trans e6
  clear D5 e6
  clear c3 x4
  have r5 := R5.out
  go_wp2_with fail
  clear r5
  go_at_call 51
  refine (rput_is w3.heap.size _ (by simp [enc_length, HL0.out] <;> omega) v6 N 2 n0 n1 (by decide) w6 E6.size D6).mono ?_
  rintro r w7 ⟨v7, rfl, D7, e7, -⟩
  have E7 := E6.trans e7
  clear D6 e7
  go_wp2_with (first
    | (refine at_l008 rfl rfl ?_; rintro w8 L8 k8)
    | (refine at_app rfl (.tmp 40) (.tmp 41) rfl _ _ rfl rfl w3.heap.size _ _ (D7.below k8) L8.dat (Nat.le_trans E7.size k8.size) (by simp [enc_length, HL0.out] <;> omega) ?_; rintro w9 v9 D9 k9 z9; have E9 := (E7.trans (k8.mono E7.size)).trans k9; clear D7 L8 k8 k9 z9))
  refine wp_region_selB w3.heap.size [0, 1, 2, 3, 5, 6, 7] 3 rfl (by kernel_rfl) (by kernel_rfl) (by kernel_rfl) (by kernel_rfl) (fun _ d _ _ _ h => by cases d <;> exact h) ?_
  intro V hV
  have eV : Below w3.heap.size w3 V := E9.trans (by subst hV; exact (Below.refl _ _).drew)
  have DV := D9.below (show Below w9.heap.size w9 V by subst hV; exact (Below.refl _ _).drew)
  have XV := H3.below eV H3.lt
  have r4 : ∀ q : Beh w3.heap.size V, q.w.cell? ⟨w.heap.size, 4, none⟩ = some (.int .u32 vni) := fun q => Blk.cell (Blk.below XV q.h H3.lt) 4 rfl
  have r5 : ∀ q : Beh w3.heap.size V, q.w.cell? ⟨w.heap.size, 5, none⟩ = some (.int .u32 mark) := fun q => Blk.cell (Blk.below XV q.h H3.lt) 5 rfl
  clear hV
  simp only [pickOps, List.filterMap_cons, List.filterMap_nil, List.getElem?_cons_zero, List.getElem?_cons_succ, Option.map_some, List.map_cons, List.map_nil]
  repeat (go_big_quiet_step (fail))
  refine wpQuiet_nil ?_
  clear r4 r5 XV D9
  refine wpAnyH_one (k := 4) (by kernel_rfl) rfl (fun K hQ => ?_)
  go_simp
  refine (rput_is w3.heap.size _ (by simp [enc_length, HL0.out] <;> omega) v9 mark 3 q4.1 (by omega) (by decide) V eV.size DV).mono ?_
  rintro r w10 ⟨v10, rfl, D10, g10, -⟩
  refine hQ _ _ ⟨⟨_, g10⟩, rfl⟩ ?_
  clear hQ K
  refine wpAnyH_one (k := 8) (by kernel_rfl) rfl (fun K hQ => ?_)
  go_simp
  refine (rput_is w3.heap.size _ (by simp [enc_length, HL0.out] <;> omega) v10 vni 3 q3.1 (by omega) (by decide) w10 (eV.trans g10).size D10).mono ?_
  rintro r w11 ⟨v11, rfl, D11, g11, -⟩
  have g := g10.trans g11
  refine hQ _ _ ⟨⟨_, g⟩, rfl⟩ ?_
  clear hQ K
  refine wpAnyH_one (k := 9) (by kernel_rfl) rfl (fun K hQ => ?_)
  go_simp
  refine hQ _ _ ⟨⟨_, g⟩, rfl⟩ ?_
  clear hQ K
  refine wpAnyH_done (by kernel_rfl) ?_ 0
  have E11 := eV.trans g
  clear DV D10 g10 g11 g eV
  go_wp2_with (first
    | (refine at_lit1 rfl (.const (.int .u8 0)) rfl 0 rfl ?_; rintro w12 u12 L12 k12)
    | (refine at_app rfl (.tmp 52) (.tmp 53) rfl _ _ rfl rfl w3.heap.size _ _ (D11.below k12) L12 (Nat.le_trans E11.size k12.size) (by simp [enc_length, HL0.out] <;> omega) ?_; rintro w13 v13 D13 k13 z13; have E13 := (E11.trans (k12.mono E11.size)).trans k13; clear D11 L12 k12 k13 z13)
    | (refine at_app rfl (.tmp 54) (.tmp 55) rfl _ _ rfl rfl w3.heap.size _ _ D13 (I3.below E13) E13.size (by have := HXL.out; simp [enc_length, HL0.out] <;> omega) ?_; rintro w14 v14 D14 k14 z14; have E14 := E13.trans k14; clear D13 k14 z14))
  go_ret2
  refine ⟨_, rfl, ?_, b3.trans (E14.mono b3.size)⟩
  have := World.ownsRow.mono D14 b3.size
  rw [← HP.out _ rfl]
  exact this
end Go.Proofs.Ytgpjelcihmbiiaa
namespace Go.Proofs.Ytgpjelcihmbiiaa
open Go.RowKit Go.Sort
set_option linter.unusedVariables false
set_option linter.unusedSimpArgs false
set_option maxRecDepth 100000

theorem append_mv (w : World) (ty : TypeId) (B : Nat) (v u : Value) (ys zs : List Int) (hv : DatB B w v ys) (hu : Seg w u zs) (hB : B ≤ w.heap.size) (hl : ys.length + zs.length ≤ 1099511627776) :
    ∃ v' w', (Builtin.append_ #[23, 23] ty #[v, u]).run Try.prog w = .ok v' w' ∧ DatB B w' v' (ys ++ zs) ∧ w.grownBy w' v.ownBlock ∧ (v'.ownBlock = v.ownBlock ∨ v'.ownBlock = some w.heap.size) := by
  obtain ⟨i, hi, hz, hs, hb⟩ := info_u8
  obtain ⟨a, c, rfl, hc, hx⟩ := hu
  cases a with
  | none =>
    have h0 : zs = [] := by
      rcases zs with _ | ⟨x, r⟩
      · rfl
      · obtain ⟨b, o, e, _⟩ := hx 0 (by simp)
        cases e
    subst h0
    exact ⟨v, w, append_none w ty B c v ys hv, by rw [List.append_nil]; exact hv, ⟨rfl, rfl, rfl, Nat.le_refl _, fun _ _ _ => rfl⟩, .inl rfl⟩
  | some p =>
    obtain ⟨v', w', hr, ho, hgr, -, hm⟩ := run_append_own_at (P := Try.prog) w B 23 ty 5 i (.int .u8 0) 1 1 Try.underlying23 hi hz hs hb rfl (by decide) v ys.length _ hv p zs.length c (zs.map (Value.int .u8)) (by simp) (fun j u hu => by
      have hj : j < zs.length := by
        rcases Nat.lt_or_ge j zs.length with q | q
        · exact q
        · rw [List.getElem?_eq_none (by simpa using q)] at hu
          cases hu
      obtain ⟨b, o, e, hcell⟩ := hx j hj
      obtain rfl := Option.some.inj e
      rw [add_is, hcell, ← hu]
      simp [List.getD_eq_getElem?_getD, hj]) (by simp [Value.oneCell']) (by unfold maxLen; omega) (by omega) hB
    refine ⟨v', w', hr, ?_, hgr, hm⟩
    unfold DatB
    rw [List.length_append, List.map_append]
    exact ho
theorem at_appM {ops : Array Oper} {rest : List Oper} {o : Oper} {a : Act} {w : World} {Q : Exit → Act → World → Prop} (hgd : o.guard = none) (s x : Operand) (ho : o.op = .call { callee := .builtin .append, args := #[s, x], argTypes := #[23, 23] }) (vs vx : Value) (hs : a.eval s = vs) (hx : a.eval x = vx)
    (B : Nat) (ys zs : List Int) (hv : DatB B w vs ys) (hu : Seg w vx zs) (hB : B ≤ w.heap.size) (hl : ys.length + zs.length ≤ 1000000)
    (h : ∀ w' v, DatB B w' v (ys ++ zs) → w.grownBy w' vs.ownBlock → (v.ownBlock = vs.ownBlock ∨ v.ownBlock = some w.heap.size) → wpList Try.prog ops Q rest (a.put o.dst v) w') : wpList Try.prog ops Q (o :: rest) a w := by
  obtain ⟨v', w', hr, hd, hg, hm⟩ := append_mv w o.type B vs vx ys zs hv hu hB (by omega)
  exact Lib.wpList_append_run _ hgd s x 23 23 ho _ _ hs hx _ _ hr (h w' v' hd hg hm)
/-- The slice lies where it lay, or in a block that is new since the world had n blocks. -/
def Mv (n : Nat) (v v' : Value) : Prop := v'.ownBlock = v.ownBlock ∨ ∀ g, v'.ownBlock = some g → n ≤ g
theorem Mv.grown {w wr w1 w2 : World} {v v0 v2 : Value} (hg : w.grownBy wr v.ownBlock) (hm : Mv w.heap.size v v0) (k : Below wr.heap.size wr w1) (hg2 : w1.grownBy w2 v0.ownBlock) (hm2 : v2.ownBlock = v0.ownBlock ∨ v2.ownBlock = some w1.heap.size) : w.grownBy w2 v.ownBlock ∧ Mv w.heap.size v v2 := by
  have hs : w.heap.size ≤ w1.heap.size := Nat.le_trans hg.size k.size
  refine ⟨⟨hg2.os.trans (k.os.trans hg.os), hg2.tape.trans (k.tape.trans hg.tape), hg2.output.trans (k.output.trans hg.output), Nat.le_trans hs hg2.size, fun i hi hne => ?_⟩, ?_⟩
  · rw [hg2.block i (by omega) (fun e => ?_), k.block i (Nat.lt_of_lt_of_le hi hg.size), hg.block i hi hne]
    rcases hm with q | q
    · exact hne (e.trans q)
    · have := q i e.symm
      omega
  · rcases hm2 with q | q
    · rcases hm with p | p
      · exact .inl (q.trans p)
      · exact .inr fun g hg => p g (q ▸ hg)
    · refine .inr fun g hg => ?_
      rw [q] at hg
      injection hg with hg
      omega
set_option maxHeartbeats 2000000 in
theorem rput_mv (B : Nat) (xs : List Int) (hx : xs.length ≤ 1000) (v : Value) (n : Int) (k : Nat) (h0 : 0 ≤ n) (h1 : n < 18446744073709551616) (hk : k ≤ 8) (w : World) (hB : B ≤ w.heap.size) (hd : DatB B w v xs) :
    Calls Try.prog 51 #[v, .int .u64 n, .int .i64 k] w fun r w' => ∃ v', r = .returned v' ∧ DatB B w' v' (xs ++ enc k n.toNat) ∧ w.grownBy w' v.ownBlock ∧ Mv w.heap.size v v' := by
  go_enter Try.func51, Try.ntmps51
  go_wp2_with fail
  go_loopw [0, 7] (fun v0 v7 wr => ∃ (r : Nat) (ys : List Int), r ≤ k ∧ v7 = .int .i64 ((r : Int) - 1) ∧ DatB B wr v0 ys ∧ Hid (ys ++ enc r n.toNat = xs ++ enc k n.toNat) ∧ ys.length ≤ 1008 ∧ Hid (w.grownBy wr v.ownBlock ∧ Mv w.heap.size v v0) ∧ w.heap.size ≤ wr.heap.size) (fun _ v7 _ => (intOf v7 + 1).toNat)
  case atStart => exact ⟨k, xs, Nat.le_refl _, rfl, hd, Lib.hid rfl, by omega, Lib.hid ⟨⟨rfl, rfl, rfl, Nat.le_refl _, fun _ _ _ => rfl⟩, .inl rfl⟩, Nat.le_refl _⟩
  case round =>
    clear hd
    obtain ⟨r, ys, hr, rfl, hD, hE, hl, hG, hs⟩ := hrel
    cases r with
    | zero =>
      have he := hE.out
      have he2 : ys = xs ++ enc k n.toNat := by rw [← he]; simp [enc]
      subst he2
      clear hE he
      go_wp2
      go_ret
      exact ⟨_, rfl, hD, hG.out.1, hG.out.2⟩
    | succ j =>
      have hj : ((j + 1 : Nat) : Int) - 1 = j := by omega
      have hj0 : (0 : Int) ≤ j := by omega
      have hj8 : (j : Int) < 8 := by omega
      rw [hj]
      clear hj
      go_upto_region 4 with fail
      have hx' := byte_at n h0 j
      obtain ⟨x, hxx⟩ : ∃ x, n / 2 ^ (8 * j) % 256 = x := ⟨_, rfl⟩
      rw [hxx] at hx'
      have hen : ys ++ [x] ++ enc j n.toNat = xs ++ enc k n.toNat := by
        rw [hx', List.append_assoc]
        exact hE.out
      have HEN := Lib.hid hen
      have hyl : ys.length + 1 ≤ 1008 := by
        have := congrArg List.length hE.out
        rw [List.length_append, List.length_append, enc_length, enc_length] at this
        omega
      clear hen hE hx'
      go_wp2_with (first
        | (refine at_lit1 rfl (.tmp 19) rfl x (by rw [← hxx]; rfl) ?_; rintro w1 u1 D1 k1)
        | (refine at_appM rfl (.tmp 14) (.tmp 20) rfl _ _ rfl rfl B ys [x] (DatB.below hD k1) D1.seg (by have := k1.size; omega) (by simp; omega) ?_; rintro w2 u2 D2 g2 m2))
      have hG2 := Mv.grown hG.out.1 hG.out.2 k1 g2 m2
      have hs2 : w.heap.size ≤ w2.heap.size := hG2.1.size
      have HG2 := Lib.hid hG2
      clear D1 k1 g2 m2 hD hG hG2
      go_roundw
      case rel => exact ⟨j, ys ++ [x], by omega, by go_num, D2, HEN, by simp; omega, HG2, hs2⟩
      case measure => first | (simp [intOf]; done) | (simp [intOf]; omega)
theorem one_grown {w w' : World} {g : Nat} {x : Int} {row : Option Nat} (h : Dat w (.slice (some ⟨g, 0, none⟩) 1 1) [x]) (hg : w.grownBy w' row) (hne : row ≠ some g) : Dat w' (.slice (some ⟨g, 0, none⟩) 1 1) [x] := by
  rcases h.form with ⟨e, -⟩ | ⟨g', cap, cs, e, h1, h2, hb, h3, h4⟩
  · cases e
  · injection e with e1 e2 e3
    injection e1 with e1
    injection e1 with e1
    subst e1
    have hb' : Blk w' g 5 cs := (hg.block g hb.lt (fun q => hne q.symm)).trans hb
    have := Dat.mk (xs := [x]) h1 h2 hb' h3 h4
    rw [← e3] at this
    exact this
end Go.Proofs.Ytgpjelcihmbiiaa
namespace Go.Proofs.Ytgpjelcihmbiiaa
open Go.RowKit Go.Sort
set_option linter.unusedVariables false
set_option linter.unusedSimpArgs false
set_option maxRecDepth 100000

set_option maxHeartbeats 2000000 in
theorem rhash_is (xs : List Int) (v : Value) (w : World) (hd : Seg w v xs) (ho : Oct xs) (hl : xs.length ≤ 1000000) :
    Calls Try.prog 36 #[v] w fun e w' => e = .returned (.int .u32 (hsh xs)) ∧ w' = w := by
  obtain ⟨a, c, rfl, hcap, hx⟩ := hd
  go_enter Try.func36, Try.ntmps36
  go_wp2_with fail
  go_loopw [3, 4] (fun v3 v4 wr => ∃ i : Nat, i ≤ xs.length ∧ v3 = .int .u32 (hsh (xs.take i)) ∧ v4 = .int .i64 i ∧ wr = w) (fun _ v4 _ => xs.length - (intOf v4).toNat)
  case atStart => exact ⟨0, Nat.zero_le _, rfl, rfl, rfl⟩
  case round =>
    obtain ⟨i, hi, rfl, rfl, hw⟩ := hrel
    subst hw
    by_cases hlt : i < xs.length
    · obtain ⟨b, o, rfl, hc⟩ := hx i hlt
      have hO := ho.getD i
      have hq : (i : Int) < xs.length := by omega
      have hs := hsh_take xs i hlt
      have HX := Lib.hid hx
      clear hx
      generalize xs.getD i 0 = y at *
      generalize hsh (xs.take i) = h0 at *
      have e1 : bits .xor .u32 h0 y * 16777619 % 4294967296 = hsh (xs.take (i + 1)) := hs.symm
      clear hs
      go_wp2
      exact ⟨⟨i + 1, by omega, by simp [← e1], by simp only [Value.int.injEq, true_and]; omega, trivial⟩, by simp [intOf]; omega⟩
    · obtain rfl : i = xs.length := by omega
      rw [List.take_length]
      go_wp2
      go_ret
      exact ⟨rfl, rfl⟩
theorem enc_add : ∀ k m n : Nat, enc k (n * 256 ^ k + m) = enc k m := by
  intro k
  induction k with
  | zero => intro m n; rfl
  | succ k ih =>
    intro m n
    have hd : (n * 256 ^ (k + 1) + m) / 256 ^ k % 256 = m / 256 ^ k % 256 := by
      rw [Nat.pow_succ, show n * (256 ^ k * 256) + m = m + 256 ^ k * (n * 256) by rw [Nat.mul_comm n, Nat.mul_assoc, Nat.mul_comm 256 n, Nat.add_comm], Nat.add_mul_div_left _ _ (Nat.pow_pos (by decide)), Nat.add_mul_mod_self_right]
    show (((n * 256 ^ (k + 1) + m) / 256 ^ k % 256 : Nat) : Int) :: enc k (n * 256 ^ (k + 1) + m) = ((m / 256 ^ k % 256 : Nat) : Int) :: enc k m
    rw [hd, Nat.pow_succ, show n * (256 ^ k * 256) + m = (n * 256) * 256 ^ k + m by rw [Nat.mul_comm (256 ^ k) 256, Nat.mul_assoc], ih]
theorem enc_mod (k n : Nat) : enc k n = enc k (n % 256 ^ k) := by
  have h := enc_add k (n % 256 ^ k) (n / 256 ^ k)
  rw [show n / 256 ^ k * 256 ^ k + n % 256 ^ k = n by rw [Nat.mul_comm]; exact Nat.div_add_mod _ _] at h
  exact h
theorem enc6m (s : Int) (h : 0 ≤ s) : enc 6 s.toNat = enc 6 (s % 281474976710656).toNat := by
  rw [enc_mod 6 s.toNat]
  congr 1
  have : (256 : Nat) ^ 6 = 281474976710656 := by decide
  omega
theorem enc2m (s : Int) : enc 2 (s % 18446744073709551616).toNat = enc 2 (s % 65536).toNat := by
  rw [enc_mod 2]
  congr 1
  have : (256 : Nat) ^ 2 = 65536 := by decide
  omega
set_option maxHeartbeats 8000000 in
theorem rent_mac (s d k op sm si tm ti hs hd tt pr sp dp x : Int) (hf : FL.Ok ⟨s, d, k, op, sm, si, tm, ti, hs, hd, tt, pr, sp, dp, x⟩) (hk : k ≠ 2) (w : World) : Calls Try.prog 38 #[.agg #[.int .u64 s, .int .u64 d, .int .i64 k, .int .i64 op, .int .u64 sm, .int .u32 si, .int .u64 tm, .int .u32 ti, .int .u32 hs, .int .u32 hd, .int .i64 tt, .int .i64 pr, .int .i64 sp, .int .i64 dp, .int .u64 x]] w fun e w' => e = .returned (.int .i64 (entro ⟨s, d, k, op, sm, si, tm, ti, hs, hd, tt, pr, sp, dp, x⟩)) ∧ Below w.heap.size w w' := by
  have q1 := hf.s; have q2 := hf.d; have q3 := hf.hs; have q4 := hf.hd
  dsimp only at q1 q2 q3 q4
  have q3x : hs < 18446744073709551616 := by omega
  have q4x : hd < 18446744073709551616 := by omega
  have RH := fun v w h => rhash_is (flw ⟨s, d, k, op, sm, si, tm, ti, hs, hd, tt, pr, sp, dp, x⟩) v w h (flw_oct _) (by rw [flw_length]; decide)
  have hb := hsh_lt (flw ⟨s, d, k, op, sm, si, tm, ti, hs, hd, tt, pr, sp, dp, x⟩)
  have HEQ : Hid (([] ++ enc 6 (s : Int).toNat ++ enc 6 (d : Int).toNat ++ [(k % 256)]) = flw ⟨s, d, k, op, sm, si, tm, ti, hs, hd, tt, pr, sp, dp, x⟩) := Lib.hid (by
    unfold flw
    rw [if_neg hk, ← enc6m s q1.1, ← enc6m d q2.1, enc1' (k % 256) (by omega) (by omega)]
    simp only [List.nil_append, List.append_assoc])
  unfold entro
  have hkb : (k == 2) = false := by simpa using hk
  clear hk
  obtain ⟨FW, hFW⟩ : ∃ FW, flw ⟨s, d, k, op, sm, si, tm, ti, hs, hd, tt, pr, sp, dp, x⟩ = FW := ⟨_, rfl⟩
  rw [hFW] at RH hb HEQ ⊢
  clear hFW hf
  generalize hsh FW = h at *
  have e1 : 49152 + h % 16384 < 9223372036854775808 := by omega
  go_enter Try.func38, Try.ntmps38
  go_wp2_with (refine at_box rfl 36 _ rfl [.int .u64 s, .int .u64 d, .int .i64 k, .int .i64 op, .int .u64 sm, .int .u32 si, .int .u64 tm, .int .u32 ti, .int .u32 hs, .int .u32 hd, .int .i64 tt, .int .i64 pr, .int .i64 sp, .int .i64 dp, .int .u64 x] rfl ?_; rintro w1 H1 k1 s1)
  refine wp_region_selB w1.heap.size [0, 1, 3, 4, 6, 7, 8] 5 rfl (by kernel_rfl) (by kernel_rfl) (by kernel_rfl) (by kernel_rfl) (fun _ d _ _ _ h => by cases d <;> exact h) ?_
  intro P hP
  have eP : Below w1.heap.size w1 P := (Below.refl w1.heap.size w1).trans (by subst hP; exact (Below.refl _ _).drew)
  have XP := H1.below eP H1.lt
  have r0P : ∀ q : Beh w1.heap.size P, q.w.cell? ⟨w.heap.size, 0, none⟩ = some (.int .u64 s) := fun q => Blk.cell (Blk.below XP q.h H1.lt) 0 rfl
  have r1P : ∀ q : Beh w1.heap.size P, q.w.cell? ⟨w.heap.size, 1, none⟩ = some (.int .u64 d) := fun q => Blk.cell (Blk.below XP q.h H1.lt) 1 rfl
  have r2P : ∀ q : Beh w1.heap.size P, q.w.cell? ⟨w.heap.size, 2, none⟩ = some (.int .i64 k) := fun q => Blk.cell (Blk.below XP q.h H1.lt) 2 rfl
  clear hP
  simp only [pickOps, List.filterMap_cons, List.filterMap_nil, List.getElem?_cons_zero, List.getElem?_cons_succ, Option.map_some, List.map_cons, List.map_nil]
  repeat (go_big_quiet_step (fail))
  refine wpQuiet_nil ?_
  clear r0P r1P r2P XP
  have gP : Below w1.heap.size P P := Below.refl _ _
  refine wpAnyH_two (j := 2) (k := 9) (by kernel_rfl) rfl rfl (fun K hQ => ?_) (fun K hQ => ?_)
  · go_simp
    refine (rput_mv w1.heap.size [] (by simp [enc_length]) (.slice none 0 0) s 6 q1.1 q1.2 (by decide) P (eP.trans gP).size (vdat_nil w1.heap.size P)).mono ?_
    rintro r w_1 ⟨v_1, rfl, d_1, r_1, m_1⟩
    have g_1 : Below w1.heap.size P w_1 := gP.trans (grown_below (vdat_nil w1.heap.size P) r_1 (eP.trans gP).size)
    refine hQ _ _ ⟨⟨_, g_1⟩, rfl⟩ ?_
    clear hQ K
    have o_1 : ∀ g, v_1.ownBlock = some g → g < w_1.heap.size := fun g hg => (World.ownsRow.lt d_1 g hg).2
    refine wpAnyH_two (j := 5) (k := 9) (by kernel_rfl) rfl rfl (fun K hQ => ?_) (fun K hQ => ?_)
    · go_simp
      refine (rput_mv w1.heap.size ([] ++ enc 6 (s : Int).toNat) (by simp [enc_length]) v_1 d 6 q2.1 q2.2 (by decide) w_1 (eP.trans g_1).size d_1).mono ?_
      rintro r w_2 ⟨v_2, rfl, d_2, r_2, m_2⟩
      have g_2 : Below w1.heap.size P w_2 := g_1.trans (grown_below d_1 r_2 (eP.trans g_1).size)
      refine hQ _ _ ⟨⟨_, g_2⟩, rfl⟩ ?_
      clear hQ K
      have o_2 : ∀ g, v_2.ownBlock = some g → g < w_2.heap.size := fun g hg => (World.ownsRow.lt d_2 g hg).2
      refine wpAnyH_one (k := 9) (by kernel_rfl) rfl (fun K hQ => ?_)
      go_simp
      have D_3 : Dat (w_2.alloc (.cells #[.int .u8 (k % 256)] 5)) (.slice (some ⟨w_2.heap.size, 0, none⟩) 1 1) [(k % 256)] := dat_one _ _
      have m_3 : Below w_2.heap.size w_2 (w_2.alloc (.cells #[.int .u8 (k % 256)] 5)) := (Below.refl _ _).alloc (Nat.le_refl _) _
      have g_3 : Below w1.heap.size P (w_2.alloc (.cells #[.int .u8 (k % 256)] 5)) := g_2.trans (m_3.mono (eP.trans g_2).size)
      refine hQ _ _ ⟨⟨_, g_3⟩, rfl⟩ ?_
      clear hQ K
      have d_3b := d_2.below m_3
      have l_3 : w_2.heap.size < (w_2.alloc (.cells #[.int .u8 (k % 256)] 5)).heap.size := (World.ownsRow.lt D_3 _ rfl).2
      refine wpAnyH_one (k := 10) (by kernel_rfl) rfl (fun K hQ => ?_)
      obtain ⟨va_4, wa_4, hr_4, DA_4, hg_4⟩ := append_any _ 23 w1.heap.size _ _ _ _ d_3b D_3.seg (eP.trans g_3).size (by simp [enc_length])
      have g_4 : Below w1.heap.size P wa_4 := g_3.trans (grown_below d_3b hg_4 (eP.trans g_3).size)
      have HR_4 := Lib.hid hr_4
      clear hr_4 hg_4
      refine if_true_prop (by kernel_rfl) ?_
      refine Lib.wp_append_run _ _ _ 23 23 rfl _ _ rfl rfl _ _ HR_4.out ?_
      refine hQ _ _ ⟨⟨_, g_4⟩, rfl⟩ ?_
      clear hQ K HR_4
      refine wpAnyH_one (k := 11) (by kernel_rfl) rfl (fun K hQ => ?_)
      go_simp
      refine hQ _ _ ⟨⟨_, g_4⟩, rfl⟩ ?_
      clear hQ K
      refine wpAnyH_done (by kernel_rfl) ?_ 0
      have E_6 := eP.trans g_4
      have x_6 := H1.below E_6 H1.lt
      have c2_7 := Blk.cell x_6 2 (v := .int .i64 k) rfl
      have de_8 : ((([] ++ enc 6 (s : Int).toNat) ++ enc 6 (d : Int).toNat) ++ [(k % 256)]) = FW := HEQ.out
      have dd_8 := DA_4.dat.seg
      rw [de_8] at dd_8
      obtain ⟨ua_8, uc_8, hu_8, -⟩ := id dd_8
      subst hu_8
      go_wp2_with fail
      go_at_call 36
      refine (RH _ wa_4 dd_8).mono ?_
      rintro e wz ⟨rfl, hw⟩
      obtain rfl := hw.symm
      go_wp2
      go_ret
      exact ⟨by simp <;> omega, k1.trans (E_6.mono k1.size)⟩
    · go_simp
      have D_9 : Dat (w_1.alloc (.cells #[.int .u8 (k % 256)] 5)) (.slice (some ⟨w_1.heap.size, 0, none⟩) 1 1) [(k % 256)] := dat_one _ _
      have m_9 : Below w_1.heap.size w_1 (w_1.alloc (.cells #[.int .u8 (k % 256)] 5)) := (Below.refl _ _).alloc (Nat.le_refl _) _
      have g_9 : Below w1.heap.size P (w_1.alloc (.cells #[.int .u8 (k % 256)] 5)) := g_1.trans (m_9.mono (eP.trans g_1).size)
      refine hQ _ _ ⟨⟨_, g_9⟩, rfl⟩ ?_
      clear hQ K
      have d_9a := d_1.below m_9
      have l_9 : w_1.heap.size < (w_1.alloc (.cells #[.int .u8 (k % 256)] 5)).heap.size := (World.ownsRow.lt D_9 _ rfl).2
      refine wpAnyH_one (k := 5) (by kernel_rfl) rfl (fun K hQ => ?_)
      go_simp
      refine (rput_mv w1.heap.size ([] ++ enc 6 (s : Int).toNat) (by simp [enc_length]) v_1 d 6 q2.1 q2.2 (by decide) (w_1.alloc (.cells #[.int .u8 (k % 256)] 5)) (eP.trans g_9).size d_9a).mono ?_
      rintro r w_10 ⟨v_10, rfl, d_10, r_10, m_10⟩
      have g_10 : Below w1.heap.size P w_10 := g_9.trans (grown_below d_9a r_10 (eP.trans g_9).size)
      refine hQ _ _ ⟨⟨_, g_10⟩, rfl⟩ ?_
      clear hQ K
      have o_10 : ∀ g, v_10.ownBlock = some g → g < w_10.heap.size := fun g hg => (World.ownsRow.lt d_10 g hg).2
      have z10_l := one_grown D_9 r_10 (fun e => Nat.lt_irrefl _ (o_1 _ e))
      refine wpAnyH_one (k := 10) (by kernel_rfl) rfl (fun K hQ => ?_)
      obtain ⟨va_11, wa_11, hr_11, DA_11, hg_11⟩ := append_any _ 23 w1.heap.size _ _ _ _ d_10 z10_l.seg (eP.trans g_10).size (by simp [enc_length])
      have g_11 : Below w1.heap.size P wa_11 := g_10.trans (grown_below d_10 hg_11 (eP.trans g_10).size)
      have HR_11 := Lib.hid hr_11
      clear hr_11 hg_11
      refine if_true_prop (by kernel_rfl) ?_
      refine Lib.wp_append_run _ _ _ 23 23 rfl _ _ rfl rfl _ _ HR_11.out ?_
      refine hQ _ _ ⟨⟨_, g_11⟩, rfl⟩ ?_
      clear hQ K HR_11
      refine wpAnyH_one (k := 11) (by kernel_rfl) rfl (fun K hQ => ?_)
      go_simp
      refine hQ _ _ ⟨⟨_, g_11⟩, rfl⟩ ?_
      clear hQ K
      refine wpAnyH_done (by kernel_rfl) ?_ 0
      have E_13 := eP.trans g_11
      have x_13 := H1.below E_13 H1.lt
      have c2_14 := Blk.cell x_13 2 (v := .int .i64 k) rfl
      have de_15 : ((([] ++ enc 6 (s : Int).toNat) ++ enc 6 (d : Int).toNat) ++ [(k % 256)]) = FW := HEQ.out
      have dd_15 := DA_11.dat.seg
      rw [de_15] at dd_15
      obtain ⟨ua_15, uc_15, hu_15, -⟩ := id dd_15
      subst hu_15
      go_wp2_with fail
      go_at_call 36
      refine (RH _ wa_11 dd_15).mono ?_
      rintro e wz ⟨rfl, hw⟩
      obtain rfl := hw.symm
      go_wp2
      go_ret
      exact ⟨by simp <;> omega, k1.trans (E_13.mono k1.size)⟩
  · go_simp
    have D_16 : Dat (P.alloc (.cells #[.int .u8 (k % 256)] 5)) (.slice (some ⟨P.heap.size, 0, none⟩) 1 1) [(k % 256)] := dat_one _ _
    have m_16 : Below P.heap.size P (P.alloc (.cells #[.int .u8 (k % 256)] 5)) := (Below.refl _ _).alloc (Nat.le_refl _) _
    have g_16 : Below w1.heap.size P (P.alloc (.cells #[.int .u8 (k % 256)] 5)) := gP.trans (m_16.mono (eP.trans gP).size)
    refine hQ _ _ ⟨⟨_, g_16⟩, rfl⟩ ?_
    clear hQ K
    have l_16 : P.heap.size < (P.alloc (.cells #[.int .u8 (k % 256)] 5)).heap.size := (World.ownsRow.lt D_16 _ rfl).2
    refine wpAnyH_one (k := 2) (by kernel_rfl) rfl (fun K hQ => ?_)
    go_simp
    refine (rput_mv w1.heap.size [] (by simp [enc_length]) (.slice none 0 0) s 6 q1.1 q1.2 (by decide) (P.alloc (.cells #[.int .u8 (k % 256)] 5)) (eP.trans g_16).size (vdat_nil w1.heap.size (P.alloc (.cells #[.int .u8 (k % 256)] 5)))).mono ?_
    rintro r w_17 ⟨v_17, rfl, d_17, r_17, m_17⟩
    have g_17 : Below w1.heap.size P w_17 := g_16.trans (grown_below (vdat_nil w1.heap.size (P.alloc (.cells #[.int .u8 (k % 256)] 5))) r_17 (eP.trans g_16).size)
    refine hQ _ _ ⟨⟨_, g_17⟩, rfl⟩ ?_
    clear hQ K
    have o_17 : ∀ g, v_17.ownBlock = some g → g < w_17.heap.size := fun g hg => (World.ownsRow.lt d_17 g hg).2
    have z17_l := one_grown D_16 r_17 (by simp [Value.ownBlock])
    refine wpAnyH_one (k := 5) (by kernel_rfl) rfl (fun K hQ => ?_)
    go_simp
    refine (rput_mv w1.heap.size ([] ++ enc 6 (s : Int).toNat) (by simp [enc_length]) v_17 d 6 q2.1 q2.2 (by decide) w_17 (eP.trans g_17).size d_17).mono ?_
    rintro r w_18 ⟨v_18, rfl, d_18, r_18, m_18⟩
    have g_18 : Below w1.heap.size P w_18 := g_17.trans (grown_below d_17 r_18 (eP.trans g_17).size)
    refine hQ _ _ ⟨⟨_, g_18⟩, rfl⟩ ?_
    clear hQ K
    have o_18 : ∀ g, v_18.ownBlock = some g → g < w_18.heap.size := fun g hg => (World.ownsRow.lt d_18 g hg).2
    have z18_l := one_grown z17_l r_18 (fun e => m_17.elim (fun q => by rw [q] at e; simp [Value.ownBlock] at e) (fun q => by have := q _ e; have := l_16; omega))
    refine wpAnyH_one (k := 10) (by kernel_rfl) rfl (fun K hQ => ?_)
    obtain ⟨va_19, wa_19, hr_19, DA_19, hg_19⟩ := append_any _ 23 w1.heap.size _ _ _ _ d_18 z18_l.seg (eP.trans g_18).size (by simp [enc_length])
    have g_19 : Below w1.heap.size P wa_19 := g_18.trans (grown_below d_18 hg_19 (eP.trans g_18).size)
    have HR_19 := Lib.hid hr_19
    clear hr_19 hg_19
    refine if_true_prop (by kernel_rfl) ?_
    refine Lib.wp_append_run _ _ _ 23 23 rfl _ _ rfl rfl _ _ HR_19.out ?_
    refine hQ _ _ ⟨⟨_, g_19⟩, rfl⟩ ?_
    clear hQ K HR_19
    refine wpAnyH_one (k := 11) (by kernel_rfl) rfl (fun K hQ => ?_)
    go_simp
    refine hQ _ _ ⟨⟨_, g_19⟩, rfl⟩ ?_
    clear hQ K
    refine wpAnyH_done (by kernel_rfl) ?_ 0
    have E_21 := eP.trans g_19
    have x_21 := H1.below E_21 H1.lt
    have c2_22 := Blk.cell x_21 2 (v := .int .i64 k) rfl
    have de_23 : ((([] ++ enc 6 (s : Int).toNat) ++ enc 6 (d : Int).toNat) ++ [(k % 256)]) = FW := HEQ.out
    have dd_23 := DA_19.dat.seg
    rw [de_23] at dd_23
    obtain ⟨ua_23, uc_23, hu_23, -⟩ := id dd_23
    subst hu_23
    go_wp2_with fail
    go_at_call 36
    refine (RH _ wa_19 dd_23).mono ?_
    rintro e wz ⟨rfl, hw⟩
    obtain rfl := hw.symm
    go_wp2
    go_ret
    exact ⟨by simp <;> omega, k1.trans (E_21.mono k1.size)⟩
end Go.Proofs.Ytgpjelcihmbiiaa
namespace Go.Proofs.Ytgpjelcihmbiiaa
open Go.RowKit Go.Sort
set_option linter.unusedVariables false
set_option linter.unusedSimpArgs false
set_option maxRecDepth 100000

set_option maxHeartbeats 8000000 in
theorem rent_ip (s d op sm si tm ti hs hd tt pr sp dp x : Int) (hf : FL.Ok ⟨s, d, 2, op, sm, si, tm, ti, hs, hd, tt, pr, sp, dp, x⟩) (w : World) : Calls Try.prog 38 #[.agg #[.int .u64 s, .int .u64 d, .int .i64 2, .int .i64 op, .int .u64 sm, .int .u32 si, .int .u64 tm, .int .u32 ti, .int .u32 hs, .int .u32 hd, .int .i64 tt, .int .i64 pr, .int .i64 sp, .int .i64 dp, .int .u64 x]] w fun e w' => e = .returned (.int .i64 (entro ⟨s, d, 2, op, sm, si, tm, ti, hs, hd, tt, pr, sp, dp, x⟩)) ∧ Below w.heap.size w w' := by
  have q1 := hf.s; have q2 := hf.d; have q3 := hf.hs; have q4 := hf.hd
  dsimp only at q1 q2 q3 q4
  have q3x : hs < 18446744073709551616 := by omega
  have q4x : hd < 18446744073709551616 := by omega
  have RH := fun v w h => rhash_is (flw ⟨s, d, 2, op, sm, si, tm, ti, hs, hd, tt, pr, sp, dp, x⟩) v w h (flw_oct _) (by rw [flw_length]; decide)
  have hb := hsh_lt (flw ⟨s, d, 2, op, sm, si, tm, ti, hs, hd, tt, pr, sp, dp, x⟩)
  have HEQ : Hid (([] ++ enc 4 (hs : Int).toNat ++ enc 4 (hd : Int).toNat ++ [(pr % 256)] ++ enc 2 ((sp % 18446744073709551616) : Int).toNat ++ enc 2 ((dp % 18446744073709551616) : Int).toNat) = flw ⟨s, d, 2, op, sm, si, tm, ti, hs, hd, tt, pr, sp, dp, x⟩) := Lib.hid (by
    unfold flw
    rw [if_pos rfl, ← enc2m, ← enc2m, enc1' (pr % 256) (by omega) (by omega)]
    simp only [List.nil_append, List.append_assoc])
  unfold entro
  obtain ⟨FW, hFW⟩ : ∃ FW, flw ⟨s, d, 2, op, sm, si, tm, ti, hs, hd, tt, pr, sp, dp, x⟩ = FW := ⟨_, rfl⟩
  rw [hFW] at RH hb HEQ ⊢
  clear hFW hf
  generalize hsh FW = h at *
  have e1 : 49152 + h % 16384 < 9223372036854775808 := by omega
  go_enter Try.func38, Try.ntmps38
  go_wp2_with (refine at_box rfl 36 _ rfl [.int .u64 s, .int .u64 d, .int .i64 2, .int .i64 op, .int .u64 sm, .int .u32 si, .int .u64 tm, .int .u32 ti, .int .u32 hs, .int .u32 hd, .int .i64 tt, .int .i64 pr, .int .i64 sp, .int .i64 dp, .int .u64 x] rfl ?_; rintro w1 H1 k1 s1)
  refine wp_region_selB w1.heap.size [0, 1, 3, 4, 6, 7, 8] 5 rfl (by kernel_rfl) (by kernel_rfl) (by kernel_rfl) (by kernel_rfl) (fun _ d _ _ _ h => by cases d <;> exact h) ?_
  intro P hP
  have eP : Below w1.heap.size w1 P := (Below.refl w1.heap.size w1).trans (by subst hP; exact (Below.refl _ _).drew)
  have XP := H1.below eP H1.lt
  have r0P : ∀ q : Beh w1.heap.size P, q.w.cell? ⟨w.heap.size, 0, none⟩ = some (.int .u64 s) := fun q => Blk.cell (Blk.below XP q.h H1.lt) 0 rfl
  have r1P : ∀ q : Beh w1.heap.size P, q.w.cell? ⟨w.heap.size, 1, none⟩ = some (.int .u64 d) := fun q => Blk.cell (Blk.below XP q.h H1.lt) 1 rfl
  have r2P : ∀ q : Beh w1.heap.size P, q.w.cell? ⟨w.heap.size, 2, none⟩ = some (.int .i64 2) := fun q => Blk.cell (Blk.below XP q.h H1.lt) 2 rfl
  clear hP
  simp only [pickOps, List.filterMap_cons, List.filterMap_nil, List.getElem?_cons_zero, List.getElem?_cons_succ, Option.map_some, List.map_cons, List.map_nil]
  repeat (go_big_quiet_step (fail))
  refine wpQuiet_nil ?_
  clear r0P r1P r2P XP
  have gP : Below w1.heap.size P P := Below.refl _ _
  refine wpAnyH_two (j := 2) (k := 9) (by kernel_rfl) rfl rfl (fun K hQ => ?_) (fun K hQ => ?_)
  · go_simp
    refine (rput_mv w1.heap.size [] (by simp [enc_length]) (.slice none 0 0) s 6 q1.1 q1.2 (by decide) P (eP.trans gP).size (vdat_nil w1.heap.size P)).mono ?_
    rintro r w_24 ⟨v_24, rfl, d_24, r_24, m_24⟩
    have g_24 : Below w1.heap.size P w_24 := gP.trans (grown_below (vdat_nil w1.heap.size P) r_24 (eP.trans gP).size)
    refine hQ _ _ ⟨⟨_, g_24⟩, rfl⟩ ?_
    clear hQ K
    have o_24 : ∀ g, v_24.ownBlock = some g → g < w_24.heap.size := fun g hg => (World.ownsRow.lt d_24 g hg).2
    refine wpAnyH_two (j := 5) (k := 9) (by kernel_rfl) rfl rfl (fun K hQ => ?_) (fun K hQ => ?_)
    · go_simp
      refine (rput_mv w1.heap.size ([] ++ enc 6 (s : Int).toNat) (by simp [enc_length]) v_24 d 6 q2.1 q2.2 (by decide) w_24 (eP.trans g_24).size d_24).mono ?_
      rintro r w_25 ⟨v_25, rfl, d_25, r_25, m_25⟩
      have g_25 : Below w1.heap.size P w_25 := g_24.trans (grown_below d_24 r_25 (eP.trans g_24).size)
      refine hQ _ _ ⟨⟨_, g_25⟩, rfl⟩ ?_
      clear hQ K
      have o_25 : ∀ g, v_25.ownBlock = some g → g < w_25.heap.size := fun g hg => (World.ownsRow.lt d_25 g hg).2
      refine wpAnyH_one (k := 9) (by kernel_rfl) rfl (fun K hQ => ?_)
      go_simp
      have D_26 : Dat (w_25.alloc (.cells #[.int .u8 (2 % 256)] 5)) (.slice (some ⟨w_25.heap.size, 0, none⟩) 1 1) [(2 % 256)] := dat_one _ _
      have m_26 : Below w_25.heap.size w_25 (w_25.alloc (.cells #[.int .u8 (2 % 256)] 5)) := (Below.refl _ _).alloc (Nat.le_refl _) _
      have g_26 : Below w1.heap.size P (w_25.alloc (.cells #[.int .u8 (2 % 256)] 5)) := g_25.trans (m_26.mono (eP.trans g_25).size)
      refine hQ _ _ ⟨⟨_, g_26⟩, rfl⟩ ?_
      clear hQ K
      have d_26b := d_25.below m_26
      have l_26 : w_25.heap.size < (w_25.alloc (.cells #[.int .u8 (2 % 256)] 5)).heap.size := (World.ownsRow.lt D_26 _ rfl).2
      refine wpAnyH_one (k := 10) (by kernel_rfl) rfl (fun K hQ => ?_)
      obtain ⟨va_27, wa_27, hr_27, DA_27, hg_27⟩ := append_any _ 23 w1.heap.size _ _ _ _ d_26b D_26.seg (eP.trans g_26).size (by simp [enc_length])
      have g_27 : Below w1.heap.size P wa_27 := g_26.trans (grown_below d_26b hg_27 (eP.trans g_26).size)
      have HR_27 := Lib.hid hr_27
      clear hr_27 hg_27
      refine if_true_prop (by kernel_rfl) ?_
      refine Lib.wp_append_run _ _ _ 23 23 rfl _ _ rfl rfl _ _ HR_27.out ?_
      refine hQ _ _ ⟨⟨_, g_27⟩, rfl⟩ ?_
      clear hQ K HR_27
      refine wpAnyH_one (k := 11) (by kernel_rfl) rfl (fun K hQ => ?_)
      go_simp
      refine hQ _ _ ⟨⟨_, g_27⟩, rfl⟩ ?_
      clear hQ K
      refine wpAnyH_done (by kernel_rfl) ?_ 0
      have E_29 := eP.trans g_27
      have x_29 := H1.below E_29 H1.lt
      have c2_30 := Blk.cell x_29 2 (v := .int .i64 2) rfl
      go_wp2_with fail
      clear c2_30
      refine wp_region_selB w1.heap.size [0, 1, 2, 3, 5, 6, 7, 8, 10, 11, 12, 13] 5 rfl (by kernel_rfl) (by kernel_rfl) (by kernel_rfl) (by kernel_rfl) (fun _ d _ _ _ h => by cases d <;> exact h) ?_
      intro Q30 hQ30
      have eQ30 : Below w1.heap.size w1 Q30 := E_29.trans (by subst hQ30; exact (Below.refl _ _).drew)
      have XQ30 := H1.below eQ30 H1.lt
      have r8Q30 : ∀ q : Beh w1.heap.size Q30, q.w.cell? ⟨w.heap.size, 8, none⟩ = some (.int .u32 hs) := fun q => Blk.cell (Blk.below XQ30 q.h H1.lt) 8 rfl
      have r9Q30 : ∀ q : Beh w1.heap.size Q30, q.w.cell? ⟨w.heap.size, 9, none⟩ = some (.int .u32 hd) := fun q => Blk.cell (Blk.below XQ30 q.h H1.lt) 9 rfl
      have r11Q30 : ∀ q : Beh w1.heap.size Q30, q.w.cell? ⟨w.heap.size, 11, none⟩ = some (.int .i64 pr) := fun q => Blk.cell (Blk.below XQ30 q.h H1.lt) 11 rfl
      clear hQ30
      simp only [pickOps, List.filterMap_cons, List.filterMap_nil, List.getElem?_cons_zero, List.getElem?_cons_succ, Option.map_some, List.map_cons, List.map_nil]
      repeat (go_big_quiet_step (fail))
      refine wpQuiet_nil ?_
      clear r8Q30 r9Q30 r11Q30 XQ30
      have gQ30 : Below w1.heap.size Q30 Q30 := Below.refl _ _
      refine wpAnyH_two (j := 4) (k := 14) (by kernel_rfl) rfl rfl (fun K hQ => ?_) (fun K hQ => ?_)
      · go_simp
        refine (rput_mv w1.heap.size [] (by simp [enc_length]) (.slice none 0 0) hs 4 q3.1 q3x (by decide) Q30 (eQ30.trans gQ30).size (vdat_nil w1.heap.size Q30)).mono ?_
        rintro r w_31 ⟨v_31, rfl, d_31, r_31, m_31⟩
        have g_31 : Below w1.heap.size Q30 w_31 := gQ30.trans (grown_below (vdat_nil w1.heap.size Q30) r_31 (eQ30.trans gQ30).size)
        refine hQ _ _ ⟨⟨_, g_31⟩, rfl⟩ ?_
        clear hQ K
        have o_31 : ∀ g, v_31.ownBlock = some g → g < w_31.heap.size := fun g hg => (World.ownsRow.lt d_31 g hg).2
        refine wpAnyH_two (j := 9) (k := 14) (by kernel_rfl) rfl rfl (fun K hQ => ?_) (fun K hQ => ?_)
        · go_simp
          refine (rput_mv w1.heap.size ([] ++ enc 4 (hs : Int).toNat) (by simp [enc_length]) v_31 hd 4 q4.1 q4x (by decide) w_31 (eQ30.trans g_31).size d_31).mono ?_
          rintro r w_32 ⟨v_32, rfl, d_32, r_32, m_32⟩
          have g_32 : Below w1.heap.size Q30 w_32 := g_31.trans (grown_below d_31 r_32 (eQ30.trans g_31).size)
          refine hQ _ _ ⟨⟨_, g_32⟩, rfl⟩ ?_
          clear hQ K
          have o_32 : ∀ g, v_32.ownBlock = some g → g < w_32.heap.size := fun g hg => (World.ownsRow.lt d_32 g hg).2
          refine wpAnyH_one (k := 14) (by kernel_rfl) rfl (fun K hQ => ?_)
          go_simp
          have D_33 : Dat (w_32.alloc (.cells #[.int .u8 (pr % 256)] 5)) (.slice (some ⟨w_32.heap.size, 0, none⟩) 1 1) [(pr % 256)] := dat_one _ _
          have m_33 : Below w_32.heap.size w_32 (w_32.alloc (.cells #[.int .u8 (pr % 256)] 5)) := (Below.refl _ _).alloc (Nat.le_refl _) _
          have g_33 : Below w1.heap.size Q30 (w_32.alloc (.cells #[.int .u8 (pr % 256)] 5)) := g_32.trans (m_33.mono (eQ30.trans g_32).size)
          refine hQ _ _ ⟨⟨_, g_33⟩, rfl⟩ ?_
          clear hQ K
          have d_33b := d_32.below m_33
          have l_33 : w_32.heap.size < (w_32.alloc (.cells #[.int .u8 (pr % 256)] 5)).heap.size := (World.ownsRow.lt D_33 _ rfl).2
          refine wpAnyH_one (k := 15) (by kernel_rfl) rfl (fun K hQ => ?_)
          obtain ⟨va_34, wa_34, hr_34, DA_34, hg_34⟩ := append_any _ 23 w1.heap.size _ _ _ _ d_33b D_33.seg (eQ30.trans g_33).size (by simp [enc_length])
          have g_34 : Below w1.heap.size Q30 wa_34 := g_33.trans (grown_below d_33b hg_34 (eQ30.trans g_33).size)
          have HR_34 := Lib.hid hr_34
          clear hr_34 hg_34
          refine if_true_prop (by kernel_rfl) ?_
          refine Lib.wp_append_run _ _ _ 23 23 rfl _ _ rfl rfl _ _ HR_34.out ?_
          refine hQ _ _ ⟨⟨_, g_34⟩, rfl⟩ ?_
          clear hQ K HR_34
          refine wpAnyH_one (k := 16) (by kernel_rfl) rfl (fun K hQ => ?_)
          go_simp
          refine hQ _ _ ⟨⟨_, g_34⟩, rfl⟩ ?_
          clear hQ K
          refine wpAnyH_done (by kernel_rfl) ?_ 0
          have E_36 := eQ30.trans g_34
          have x_36 := H1.below E_36 H1.lt
          go_wp2_with fail
          refine wp_region_selB w1.heap.size [0, 1, 2, 3, 4, 6, 7, 8, 9] 3 rfl (by kernel_rfl) (by kernel_rfl) (by kernel_rfl) (by kernel_rfl) (fun _ d _ _ _ h => by cases d <;> exact h) ?_
          intro R37 hR37
          have eR37 : Below w1.heap.size w1 R37 := E_36.trans (by subst hR37; exact (Below.refl _ _).drew)
          have DR37r := DA_34.below (show Below wa_34.heap.size wa_34 R37 by subst hR37; exact (Below.refl _ _).drew)
          have XR37 := H1.below eR37 H1.lt
          have r12R37 : ∀ q : Beh w1.heap.size R37, q.w.cell? ⟨w.heap.size, 12, none⟩ = some (.int .i64 sp) := fun q => Blk.cell (Blk.below XR37 q.h H1.lt) 12 rfl
          have r13R37 : ∀ q : Beh w1.heap.size R37, q.w.cell? ⟨w.heap.size, 13, none⟩ = some (.int .i64 dp) := fun q => Blk.cell (Blk.below XR37 q.h H1.lt) 13 rfl
          clear hR37
          simp only [pickOps, List.filterMap_cons, List.filterMap_nil, List.getElem?_cons_zero, List.getElem?_cons_succ, Option.map_some, List.map_cons, List.map_nil]
          repeat (go_big_quiet_step (fail))
          refine wpQuiet_nil ?_
          clear r12R37 r13R37 XR37
          have gR37 : Below w1.heap.size R37 R37 := Below.refl _ _
          refine wpAnyH_one (k := 5) (by kernel_rfl) rfl (fun K hQ => ?_)
          go_simp
          refine (rput_mv w1.heap.size ((([] ++ enc 4 (hs : Int).toNat) ++ enc 4 (hd : Int).toNat) ++ [(pr % 256)]) (by simp [enc_length]) va_34 (sp % 18446744073709551616) 2 (by omega) (by omega) (by decide) R37 (eR37.trans gR37).size DR37r).mono ?_
          rintro r w_38 ⟨v_38, rfl, d_38, r_38, m_38⟩
          have g_38 : Below w1.heap.size R37 w_38 := gR37.trans (grown_below DR37r r_38 (eR37.trans gR37).size)
          refine hQ _ _ ⟨⟨_, g_38⟩, rfl⟩ ?_
          clear hQ K
          have o_38 : ∀ g, v_38.ownBlock = some g → g < w_38.heap.size := fun g hg => (World.ownsRow.lt d_38 g hg).2
          refine wpAnyH_one (k := 10) (by kernel_rfl) rfl (fun K hQ => ?_)
          go_simp
          refine (rput_mv w1.heap.size (((([] ++ enc 4 (hs : Int).toNat) ++ enc 4 (hd : Int).toNat) ++ [(pr % 256)]) ++ enc 2 ((sp % 18446744073709551616) : Int).toNat) (by simp [enc_length]) v_38 (dp % 18446744073709551616) 2 (by omega) (by omega) (by decide) w_38 (eR37.trans g_38).size d_38).mono ?_
          rintro r w_39 ⟨v_39, rfl, d_39, r_39, m_39⟩
          have g_39 : Below w1.heap.size R37 w_39 := g_38.trans (grown_below d_38 r_39 (eR37.trans g_38).size)
          refine hQ _ _ ⟨⟨_, g_39⟩, rfl⟩ ?_
          clear hQ K
          have o_39 : ∀ g, v_39.ownBlock = some g → g < w_39.heap.size := fun g hg => (World.ownsRow.lt d_39 g hg).2
          refine wpAnyH_one (k := 11) (by kernel_rfl) rfl (fun K hQ => ?_)
          go_simp
          refine hQ _ _ ⟨⟨_, g_39⟩, rfl⟩ ?_
          clear hQ K
          refine wpAnyH_done (by kernel_rfl) ?_ 0
          have E_41 := eR37.trans g_39
          have x_41 := H1.below E_41 H1.lt
          have de_42 : ((((([] ++ enc 4 (hs : Int).toNat) ++ enc 4 (hd : Int).toNat) ++ [(pr % 256)]) ++ enc 2 ((sp % 18446744073709551616) : Int).toNat) ++ enc 2 ((dp % 18446744073709551616) : Int).toNat) = FW := HEQ.out
          have dd_42 := d_39.dat.seg
          rw [de_42] at dd_42
          obtain ⟨ua_42, uc_42, hu_42, -⟩ := id dd_42
          subst hu_42
          go_wp2_with fail
          go_at_call 36
          refine (RH _ w_39 dd_42).mono ?_
          rintro e wz ⟨rfl, hw⟩
          obtain rfl := hw.symm
          go_wp2
          go_ret
          exact ⟨by simp <;> omega, k1.trans (E_41.mono k1.size)⟩
        · go_simp
          have D_43 : Dat (w_31.alloc (.cells #[.int .u8 (pr % 256)] 5)) (.slice (some ⟨w_31.heap.size, 0, none⟩) 1 1) [(pr % 256)] := dat_one _ _
          have m_43 : Below w_31.heap.size w_31 (w_31.alloc (.cells #[.int .u8 (pr % 256)] 5)) := (Below.refl _ _).alloc (Nat.le_refl _) _
          have g_43 : Below w1.heap.size Q30 (w_31.alloc (.cells #[.int .u8 (pr % 256)] 5)) := g_31.trans (m_43.mono (eQ30.trans g_31).size)
          refine hQ _ _ ⟨⟨_, g_43⟩, rfl⟩ ?_
          clear hQ K
          have d_43a := d_31.below m_43
          have l_43 : w_31.heap.size < (w_31.alloc (.cells #[.int .u8 (pr % 256)] 5)).heap.size := (World.ownsRow.lt D_43 _ rfl).2
          refine wpAnyH_one (k := 9) (by kernel_rfl) rfl (fun K hQ => ?_)
          go_simp
          refine (rput_mv w1.heap.size ([] ++ enc 4 (hs : Int).toNat) (by simp [enc_length]) v_31 hd 4 q4.1 q4x (by decide) (w_31.alloc (.cells #[.int .u8 (pr % 256)] 5)) (eQ30.trans g_43).size d_43a).mono ?_
          rintro r w_44 ⟨v_44, rfl, d_44, r_44, m_44⟩
          have g_44 : Below w1.heap.size Q30 w_44 := g_43.trans (grown_below d_43a r_44 (eQ30.trans g_43).size)
          refine hQ _ _ ⟨⟨_, g_44⟩, rfl⟩ ?_
          clear hQ K
          have o_44 : ∀ g, v_44.ownBlock = some g → g < w_44.heap.size := fun g hg => (World.ownsRow.lt d_44 g hg).2
          have z44_l := one_grown D_43 r_44 (fun e => Nat.lt_irrefl _ (o_31 _ e))
          refine wpAnyH_one (k := 15) (by kernel_rfl) rfl (fun K hQ => ?_)
          obtain ⟨va_45, wa_45, hr_45, DA_45, hg_45⟩ := append_any _ 23 w1.heap.size _ _ _ _ d_44 z44_l.seg (eQ30.trans g_44).size (by simp [enc_length])
          have g_45 : Below w1.heap.size Q30 wa_45 := g_44.trans (grown_below d_44 hg_45 (eQ30.trans g_44).size)
          have HR_45 := Lib.hid hr_45
          clear hr_45 hg_45
          refine if_true_prop (by kernel_rfl) ?_
          refine Lib.wp_append_run _ _ _ 23 23 rfl _ _ rfl rfl _ _ HR_45.out ?_
          refine hQ _ _ ⟨⟨_, g_45⟩, rfl⟩ ?_
          clear hQ K HR_45
          refine wpAnyH_one (k := 16) (by kernel_rfl) rfl (fun K hQ => ?_)
          go_simp
          refine hQ _ _ ⟨⟨_, g_45⟩, rfl⟩ ?_
          clear hQ K
          refine wpAnyH_done (by kernel_rfl) ?_ 0
          have E_47 := eQ30.trans g_45
          have x_47 := H1.below E_47 H1.lt
          go_wp2_with fail
          refine wp_region_selB w1.heap.size [0, 1, 2, 3, 4, 6, 7, 8, 9] 3 rfl (by kernel_rfl) (by kernel_rfl) (by kernel_rfl) (by kernel_rfl) (fun _ d _ _ _ h => by cases d <;> exact h) ?_
          intro R48 hR48
          have eR48 : Below w1.heap.size w1 R48 := E_47.trans (by subst hR48; exact (Below.refl _ _).drew)
          have DR48r := DA_45.below (show Below wa_45.heap.size wa_45 R48 by subst hR48; exact (Below.refl _ _).drew)
          have XR48 := H1.below eR48 H1.lt
          have r12R48 : ∀ q : Beh w1.heap.size R48, q.w.cell? ⟨w.heap.size, 12, none⟩ = some (.int .i64 sp) := fun q => Blk.cell (Blk.below XR48 q.h H1.lt) 12 rfl
          have r13R48 : ∀ q : Beh w1.heap.size R48, q.w.cell? ⟨w.heap.size, 13, none⟩ = some (.int .i64 dp) := fun q => Blk.cell (Blk.below XR48 q.h H1.lt) 13 rfl
          clear hR48
          simp only [pickOps, List.filterMap_cons, List.filterMap_nil, List.getElem?_cons_zero, List.getElem?_cons_succ, Option.map_some, List.map_cons, List.map_nil]
          repeat (go_big_quiet_step (fail))
          refine wpQuiet_nil ?_
          clear r12R48 r13R48 XR48
          have gR48 : Below w1.heap.size R48 R48 := Below.refl _ _
          refine wpAnyH_one (k := 5) (by kernel_rfl) rfl (fun K hQ => ?_)
          go_simp
          refine (rput_mv w1.heap.size ((([] ++ enc 4 (hs : Int).toNat) ++ enc 4 (hd : Int).toNat) ++ [(pr % 256)]) (by simp [enc_length]) va_45 (sp % 18446744073709551616) 2 (by omega) (by omega) (by decide) R48 (eR48.trans gR48).size DR48r).mono ?_
          rintro r w_49 ⟨v_49, rfl, d_49, r_49, m_49⟩
          have g_49 : Below w1.heap.size R48 w_49 := gR48.trans (grown_below DR48r r_49 (eR48.trans gR48).size)
          refine hQ _ _ ⟨⟨_, g_49⟩, rfl⟩ ?_
          clear hQ K
          have o_49 : ∀ g, v_49.ownBlock = some g → g < w_49.heap.size := fun g hg => (World.ownsRow.lt d_49 g hg).2
          refine wpAnyH_one (k := 10) (by kernel_rfl) rfl (fun K hQ => ?_)
          go_simp
          refine (rput_mv w1.heap.size (((([] ++ enc 4 (hs : Int).toNat) ++ enc 4 (hd : Int).toNat) ++ [(pr % 256)]) ++ enc 2 ((sp % 18446744073709551616) : Int).toNat) (by simp [enc_length]) v_49 (dp % 18446744073709551616) 2 (by omega) (by omega) (by decide) w_49 (eR48.trans g_49).size d_49).mono ?_
          rintro r w_50 ⟨v_50, rfl, d_50, r_50, m_50⟩
          have g_50 : Below w1.heap.size R48 w_50 := g_49.trans (grown_below d_49 r_50 (eR48.trans g_49).size)
          refine hQ _ _ ⟨⟨_, g_50⟩, rfl⟩ ?_
          clear hQ K
          have o_50 : ∀ g, v_50.ownBlock = some g → g < w_50.heap.size := fun g hg => (World.ownsRow.lt d_50 g hg).2
          refine wpAnyH_one (k := 11) (by kernel_rfl) rfl (fun K hQ => ?_)
          go_simp
          refine hQ _ _ ⟨⟨_, g_50⟩, rfl⟩ ?_
          clear hQ K
          refine wpAnyH_done (by kernel_rfl) ?_ 0
          have E_52 := eR48.trans g_50
          have x_52 := H1.below E_52 H1.lt
          have de_53 : ((((([] ++ enc 4 (hs : Int).toNat) ++ enc 4 (hd : Int).toNat) ++ [(pr % 256)]) ++ enc 2 ((sp % 18446744073709551616) : Int).toNat) ++ enc 2 ((dp % 18446744073709551616) : Int).toNat) = FW := HEQ.out
          have dd_53 := d_50.dat.seg
          rw [de_53] at dd_53
          obtain ⟨ua_53, uc_53, hu_53, -⟩ := id dd_53
          subst hu_53
          go_wp2_with fail
          go_at_call 36
          refine (RH _ w_50 dd_53).mono ?_
          rintro e wz ⟨rfl, hw⟩
          obtain rfl := hw.symm
          go_wp2
          go_ret
          exact ⟨by simp <;> omega, k1.trans (E_52.mono k1.size)⟩
      · go_simp
        have D_54 : Dat (Q30.alloc (.cells #[.int .u8 (pr % 256)] 5)) (.slice (some ⟨Q30.heap.size, 0, none⟩) 1 1) [(pr % 256)] := dat_one _ _
        have m_54 : Below Q30.heap.size Q30 (Q30.alloc (.cells #[.int .u8 (pr % 256)] 5)) := (Below.refl _ _).alloc (Nat.le_refl _) _
        have g_54 : Below w1.heap.size Q30 (Q30.alloc (.cells #[.int .u8 (pr % 256)] 5)) := gQ30.trans (m_54.mono (eQ30.trans gQ30).size)
        refine hQ _ _ ⟨⟨_, g_54⟩, rfl⟩ ?_
        clear hQ K
        have l_54 : Q30.heap.size < (Q30.alloc (.cells #[.int .u8 (pr % 256)] 5)).heap.size := (World.ownsRow.lt D_54 _ rfl).2
        refine wpAnyH_one (k := 4) (by kernel_rfl) rfl (fun K hQ => ?_)
        go_simp
        refine (rput_mv w1.heap.size [] (by simp [enc_length]) (.slice none 0 0) hs 4 q3.1 q3x (by decide) (Q30.alloc (.cells #[.int .u8 (pr % 256)] 5)) (eQ30.trans g_54).size (vdat_nil w1.heap.size (Q30.alloc (.cells #[.int .u8 (pr % 256)] 5)))).mono ?_
        rintro r w_55 ⟨v_55, rfl, d_55, r_55, m_55⟩
        have g_55 : Below w1.heap.size Q30 w_55 := g_54.trans (grown_below (vdat_nil w1.heap.size (Q30.alloc (.cells #[.int .u8 (pr % 256)] 5))) r_55 (eQ30.trans g_54).size)
        refine hQ _ _ ⟨⟨_, g_55⟩, rfl⟩ ?_
        clear hQ K
        have o_55 : ∀ g, v_55.ownBlock = some g → g < w_55.heap.size := fun g hg => (World.ownsRow.lt d_55 g hg).2
        have z55_l := one_grown D_54 r_55 (by simp [Value.ownBlock])
        refine wpAnyH_one (k := 9) (by kernel_rfl) rfl (fun K hQ => ?_)
        go_simp
        refine (rput_mv w1.heap.size ([] ++ enc 4 (hs : Int).toNat) (by simp [enc_length]) v_55 hd 4 q4.1 q4x (by decide) w_55 (eQ30.trans g_55).size d_55).mono ?_
        rintro r w_56 ⟨v_56, rfl, d_56, r_56, m_56⟩
        have g_56 : Below w1.heap.size Q30 w_56 := g_55.trans (grown_below d_55 r_56 (eQ30.trans g_55).size)
        refine hQ _ _ ⟨⟨_, g_56⟩, rfl⟩ ?_
        clear hQ K
        have o_56 : ∀ g, v_56.ownBlock = some g → g < w_56.heap.size := fun g hg => (World.ownsRow.lt d_56 g hg).2
        have z56_l := one_grown z55_l r_56 (fun e => m_55.elim (fun q => by rw [q] at e; simp [Value.ownBlock] at e) (fun q => by have := q _ e; have := l_54; omega))
        refine wpAnyH_one (k := 15) (by kernel_rfl) rfl (fun K hQ => ?_)
        obtain ⟨va_57, wa_57, hr_57, DA_57, hg_57⟩ := append_any _ 23 w1.heap.size _ _ _ _ d_56 z56_l.seg (eQ30.trans g_56).size (by simp [enc_length])
        have g_57 : Below w1.heap.size Q30 wa_57 := g_56.trans (grown_below d_56 hg_57 (eQ30.trans g_56).size)
        have HR_57 := Lib.hid hr_57
        clear hr_57 hg_57
        refine if_true_prop (by kernel_rfl) ?_
        refine Lib.wp_append_run _ _ _ 23 23 rfl _ _ rfl rfl _ _ HR_57.out ?_
        refine hQ _ _ ⟨⟨_, g_57⟩, rfl⟩ ?_
        clear hQ K HR_57
        refine wpAnyH_one (k := 16) (by kernel_rfl) rfl (fun K hQ => ?_)
        go_simp
        refine hQ _ _ ⟨⟨_, g_57⟩, rfl⟩ ?_
        clear hQ K
        refine wpAnyH_done (by kernel_rfl) ?_ 0
        have E_59 := eQ30.trans g_57
        have x_59 := H1.below E_59 H1.lt
        go_wp2_with fail
        refine wp_region_selB w1.heap.size [0, 1, 2, 3, 4, 6, 7, 8, 9] 3 rfl (by kernel_rfl) (by kernel_rfl) (by kernel_rfl) (by kernel_rfl) (fun _ d _ _ _ h => by cases d <;> exact h) ?_
        intro R60 hR60
        have eR60 : Below w1.heap.size w1 R60 := E_59.trans (by subst hR60; exact (Below.refl _ _).drew)
        have DR60r := DA_57.below (show Below wa_57.heap.size wa_57 R60 by subst hR60; exact (Below.refl _ _).drew)
        have XR60 := H1.below eR60 H1.lt
        have r12R60 : ∀ q : Beh w1.heap.size R60, q.w.cell? ⟨w.heap.size, 12, none⟩ = some (.int .i64 sp) := fun q => Blk.cell (Blk.below XR60 q.h H1.lt) 12 rfl
        have r13R60 : ∀ q : Beh w1.heap.size R60, q.w.cell? ⟨w.heap.size, 13, none⟩ = some (.int .i64 dp) := fun q => Blk.cell (Blk.below XR60 q.h H1.lt) 13 rfl
        clear hR60
        simp only [pickOps, List.filterMap_cons, List.filterMap_nil, List.getElem?_cons_zero, List.getElem?_cons_succ, Option.map_some, List.map_cons, List.map_nil]
        repeat (go_big_quiet_step (fail))
        refine wpQuiet_nil ?_
        clear r12R60 r13R60 XR60
        have gR60 : Below w1.heap.size R60 R60 := Below.refl _ _
        refine wpAnyH_one (k := 5) (by kernel_rfl) rfl (fun K hQ => ?_)
        go_simp
        refine (rput_mv w1.heap.size ((([] ++ enc 4 (hs : Int).toNat) ++ enc 4 (hd : Int).toNat) ++ [(pr % 256)]) (by simp [enc_length]) va_57 (sp % 18446744073709551616) 2 (by omega) (by omega) (by decide) R60 (eR60.trans gR60).size DR60r).mono ?_
        rintro r w_61 ⟨v_61, rfl, d_61, r_61, m_61⟩
        have g_61 : Below w1.heap.size R60 w_61 := gR60.trans (grown_below DR60r r_61 (eR60.trans gR60).size)
        refine hQ _ _ ⟨⟨_, g_61⟩, rfl⟩ ?_
        clear hQ K
        have o_61 : ∀ g, v_61.ownBlock = some g → g < w_61.heap.size := fun g hg => (World.ownsRow.lt d_61 g hg).2
        refine wpAnyH_one (k := 10) (by kernel_rfl) rfl (fun K hQ => ?_)
        go_simp
        refine (rput_mv w1.heap.size (((([] ++ enc 4 (hs : Int).toNat) ++ enc 4 (hd : Int).toNat) ++ [(pr % 256)]) ++ enc 2 ((sp % 18446744073709551616) : Int).toNat) (by simp [enc_length]) v_61 (dp % 18446744073709551616) 2 (by omega) (by omega) (by decide) w_61 (eR60.trans g_61).size d_61).mono ?_
        rintro r w_62 ⟨v_62, rfl, d_62, r_62, m_62⟩
        have g_62 : Below w1.heap.size R60 w_62 := g_61.trans (grown_below d_61 r_62 (eR60.trans g_61).size)
        refine hQ _ _ ⟨⟨_, g_62⟩, rfl⟩ ?_
        clear hQ K
        have o_62 : ∀ g, v_62.ownBlock = some g → g < w_62.heap.size := fun g hg => (World.ownsRow.lt d_62 g hg).2
        refine wpAnyH_one (k := 11) (by kernel_rfl) rfl (fun K hQ => ?_)
        go_simp
        refine hQ _ _ ⟨⟨_, g_62⟩, rfl⟩ ?_
        clear hQ K
        refine wpAnyH_done (by kernel_rfl) ?_ 0
        have E_64 := eR60.trans g_62
        have x_64 := H1.below E_64 H1.lt
        have de_65 : ((((([] ++ enc 4 (hs : Int).toNat) ++ enc 4 (hd : Int).toNat) ++ [(pr % 256)]) ++ enc 2 ((sp % 18446744073709551616) : Int).toNat) ++ enc 2 ((dp % 18446744073709551616) : Int).toNat) = FW := HEQ.out
        have dd_65 := d_62.dat.seg
        rw [de_65] at dd_65
        obtain ⟨ua_65, uc_65, hu_65, -⟩ := id dd_65
        subst hu_65
        go_wp2_with fail
        go_at_call 36
        refine (RH _ w_62 dd_65).mono ?_
        rintro e wz ⟨rfl, hw⟩
        obtain rfl := hw.symm
        go_wp2
        go_ret
        exact ⟨by simp <;> omega, k1.trans (E_64.mono k1.size)⟩
    · go_simp
      have D_66 : Dat (w_24.alloc (.cells #[.int .u8 (2 % 256)] 5)) (.slice (some ⟨w_24.heap.size, 0, none⟩) 1 1) [(2 % 256)] := dat_one _ _
      have m_66 : Below w_24.heap.size w_24 (w_24.alloc (.cells #[.int .u8 (2 % 256)] 5)) := (Below.refl _ _).alloc (Nat.le_refl _) _
      have g_66 : Below w1.heap.size P (w_24.alloc (.cells #[.int .u8 (2 % 256)] 5)) := g_24.trans (m_66.mono (eP.trans g_24).size)
      refine hQ _ _ ⟨⟨_, g_66⟩, rfl⟩ ?_
      clear hQ K
      have d_66a := d_24.below m_66
      have l_66 : w_24.heap.size < (w_24.alloc (.cells #[.int .u8 (2 % 256)] 5)).heap.size := (World.ownsRow.lt D_66 _ rfl).2
      refine wpAnyH_one (k := 5) (by kernel_rfl) rfl (fun K hQ => ?_)
      go_simp
      refine (rput_mv w1.heap.size ([] ++ enc 6 (s : Int).toNat) (by simp [enc_length]) v_24 d 6 q2.1 q2.2 (by decide) (w_24.alloc (.cells #[.int .u8 (2 % 256)] 5)) (eP.trans g_66).size d_66a).mono ?_
      rintro r w_67 ⟨v_67, rfl, d_67, r_67, m_67⟩
      have g_67 : Below w1.heap.size P w_67 := g_66.trans (grown_below d_66a r_67 (eP.trans g_66).size)
      refine hQ _ _ ⟨⟨_, g_67⟩, rfl⟩ ?_
      clear hQ K
      have o_67 : ∀ g, v_67.ownBlock = some g → g < w_67.heap.size := fun g hg => (World.ownsRow.lt d_67 g hg).2
      have z67_l := one_grown D_66 r_67 (fun e => Nat.lt_irrefl _ (o_24 _ e))
      refine wpAnyH_one (k := 10) (by kernel_rfl) rfl (fun K hQ => ?_)
      obtain ⟨va_68, wa_68, hr_68, DA_68, hg_68⟩ := append_any _ 23 w1.heap.size _ _ _ _ d_67 z67_l.seg (eP.trans g_67).size (by simp [enc_length])
      have g_68 : Below w1.heap.size P wa_68 := g_67.trans (grown_below d_67 hg_68 (eP.trans g_67).size)
      have HR_68 := Lib.hid hr_68
      clear hr_68 hg_68
      refine if_true_prop (by kernel_rfl) ?_
      refine Lib.wp_append_run _ _ _ 23 23 rfl _ _ rfl rfl _ _ HR_68.out ?_
      refine hQ _ _ ⟨⟨_, g_68⟩, rfl⟩ ?_
      clear hQ K HR_68
      refine wpAnyH_one (k := 11) (by kernel_rfl) rfl (fun K hQ => ?_)
      go_simp
      refine hQ _ _ ⟨⟨_, g_68⟩, rfl⟩ ?_
      clear hQ K
      refine wpAnyH_done (by kernel_rfl) ?_ 0
      have E_70 := eP.trans g_68
      have x_70 := H1.below E_70 H1.lt
      have c2_71 := Blk.cell x_70 2 (v := .int .i64 2) rfl
      go_wp2_with fail
      clear c2_71
      refine wp_region_selB w1.heap.size [0, 1, 2, 3, 5, 6, 7, 8, 10, 11, 12, 13] 5 rfl (by kernel_rfl) (by kernel_rfl) (by kernel_rfl) (by kernel_rfl) (fun _ d _ _ _ h => by cases d <;> exact h) ?_
      intro Q71 hQ71
      have eQ71 : Below w1.heap.size w1 Q71 := E_70.trans (by subst hQ71; exact (Below.refl _ _).drew)
      have XQ71 := H1.below eQ71 H1.lt
      have r8Q71 : ∀ q : Beh w1.heap.size Q71, q.w.cell? ⟨w.heap.size, 8, none⟩ = some (.int .u32 hs) := fun q => Blk.cell (Blk.below XQ71 q.h H1.lt) 8 rfl
      have r9Q71 : ∀ q : Beh w1.heap.size Q71, q.w.cell? ⟨w.heap.size, 9, none⟩ = some (.int .u32 hd) := fun q => Blk.cell (Blk.below XQ71 q.h H1.lt) 9 rfl
      have r11Q71 : ∀ q : Beh w1.heap.size Q71, q.w.cell? ⟨w.heap.size, 11, none⟩ = some (.int .i64 pr) := fun q => Blk.cell (Blk.below XQ71 q.h H1.lt) 11 rfl
      clear hQ71
      simp only [pickOps, List.filterMap_cons, List.filterMap_nil, List.getElem?_cons_zero, List.getElem?_cons_succ, Option.map_some, List.map_cons, List.map_nil]
      repeat (go_big_quiet_step (fail))
      refine wpQuiet_nil ?_
      clear r8Q71 r9Q71 r11Q71 XQ71
      have gQ71 : Below w1.heap.size Q71 Q71 := Below.refl _ _
      refine wpAnyH_two (j := 4) (k := 14) (by kernel_rfl) rfl rfl (fun K hQ => ?_) (fun K hQ => ?_)
      · go_simp
        refine (rput_mv w1.heap.size [] (by simp [enc_length]) (.slice none 0 0) hs 4 q3.1 q3x (by decide) Q71 (eQ71.trans gQ71).size (vdat_nil w1.heap.size Q71)).mono ?_
        rintro r w_72 ⟨v_72, rfl, d_72, r_72, m_72⟩
        have g_72 : Below w1.heap.size Q71 w_72 := gQ71.trans (grown_below (vdat_nil w1.heap.size Q71) r_72 (eQ71.trans gQ71).size)
        refine hQ _ _ ⟨⟨_, g_72⟩, rfl⟩ ?_
        clear hQ K
        have o_72 : ∀ g, v_72.ownBlock = some g → g < w_72.heap.size := fun g hg => (World.ownsRow.lt d_72 g hg).2
        refine wpAnyH_two (j := 9) (k := 14) (by kernel_rfl) rfl rfl (fun K hQ => ?_) (fun K hQ => ?_)
        · go_simp
          refine (rput_mv w1.heap.size ([] ++ enc 4 (hs : Int).toNat) (by simp [enc_length]) v_72 hd 4 q4.1 q4x (by decide) w_72 (eQ71.trans g_72).size d_72).mono ?_
          rintro r w_73 ⟨v_73, rfl, d_73, r_73, m_73⟩
          have g_73 : Below w1.heap.size Q71 w_73 := g_72.trans (grown_below d_72 r_73 (eQ71.trans g_72).size)
          refine hQ _ _ ⟨⟨_, g_73⟩, rfl⟩ ?_
          clear hQ K
          have o_73 : ∀ g, v_73.ownBlock = some g → g < w_73.heap.size := fun g hg => (World.ownsRow.lt d_73 g hg).2
          refine wpAnyH_one (k := 14) (by kernel_rfl) rfl (fun K hQ => ?_)
          go_simp
          have D_74 : Dat (w_73.alloc (.cells #[.int .u8 (pr % 256)] 5)) (.slice (some ⟨w_73.heap.size, 0, none⟩) 1 1) [(pr % 256)] := dat_one _ _
          have m_74 : Below w_73.heap.size w_73 (w_73.alloc (.cells #[.int .u8 (pr % 256)] 5)) := (Below.refl _ _).alloc (Nat.le_refl _) _
          have g_74 : Below w1.heap.size Q71 (w_73.alloc (.cells #[.int .u8 (pr % 256)] 5)) := g_73.trans (m_74.mono (eQ71.trans g_73).size)
          refine hQ _ _ ⟨⟨_, g_74⟩, rfl⟩ ?_
          clear hQ K
          have d_74b := d_73.below m_74
          have l_74 : w_73.heap.size < (w_73.alloc (.cells #[.int .u8 (pr % 256)] 5)).heap.size := (World.ownsRow.lt D_74 _ rfl).2
          refine wpAnyH_one (k := 15) (by kernel_rfl) rfl (fun K hQ => ?_)
          obtain ⟨va_75, wa_75, hr_75, DA_75, hg_75⟩ := append_any _ 23 w1.heap.size _ _ _ _ d_74b D_74.seg (eQ71.trans g_74).size (by simp [enc_length])
          have g_75 : Below w1.heap.size Q71 wa_75 := g_74.trans (grown_below d_74b hg_75 (eQ71.trans g_74).size)
          have HR_75 := Lib.hid hr_75
          clear hr_75 hg_75
          refine if_true_prop (by kernel_rfl) ?_
          refine Lib.wp_append_run _ _ _ 23 23 rfl _ _ rfl rfl _ _ HR_75.out ?_
          refine hQ _ _ ⟨⟨_, g_75⟩, rfl⟩ ?_
          clear hQ K HR_75
          refine wpAnyH_one (k := 16) (by kernel_rfl) rfl (fun K hQ => ?_)
          go_simp
          refine hQ _ _ ⟨⟨_, g_75⟩, rfl⟩ ?_
          clear hQ K
          refine wpAnyH_done (by kernel_rfl) ?_ 0
          have E_77 := eQ71.trans g_75
          have x_77 := H1.below E_77 H1.lt
          go_wp2_with fail
          refine wp_region_selB w1.heap.size [0, 1, 2, 3, 4, 6, 7, 8, 9] 3 rfl (by kernel_rfl) (by kernel_rfl) (by kernel_rfl) (by kernel_rfl) (fun _ d _ _ _ h => by cases d <;> exact h) ?_
          intro R78 hR78
          have eR78 : Below w1.heap.size w1 R78 := E_77.trans (by subst hR78; exact (Below.refl _ _).drew)
          have DR78r := DA_75.below (show Below wa_75.heap.size wa_75 R78 by subst hR78; exact (Below.refl _ _).drew)
          have XR78 := H1.below eR78 H1.lt
          have r12R78 : ∀ q : Beh w1.heap.size R78, q.w.cell? ⟨w.heap.size, 12, none⟩ = some (.int .i64 sp) := fun q => Blk.cell (Blk.below XR78 q.h H1.lt) 12 rfl
          have r13R78 : ∀ q : Beh w1.heap.size R78, q.w.cell? ⟨w.heap.size, 13, none⟩ = some (.int .i64 dp) := fun q => Blk.cell (Blk.below XR78 q.h H1.lt) 13 rfl
          clear hR78
          simp only [pickOps, List.filterMap_cons, List.filterMap_nil, List.getElem?_cons_zero, List.getElem?_cons_succ, Option.map_some, List.map_cons, List.map_nil]
          repeat (go_big_quiet_step (fail))
          refine wpQuiet_nil ?_
          clear r12R78 r13R78 XR78
          have gR78 : Below w1.heap.size R78 R78 := Below.refl _ _
          refine wpAnyH_one (k := 5) (by kernel_rfl) rfl (fun K hQ => ?_)
          go_simp
          refine (rput_mv w1.heap.size ((([] ++ enc 4 (hs : Int).toNat) ++ enc 4 (hd : Int).toNat) ++ [(pr % 256)]) (by simp [enc_length]) va_75 (sp % 18446744073709551616) 2 (by omega) (by omega) (by decide) R78 (eR78.trans gR78).size DR78r).mono ?_
          rintro r w_79 ⟨v_79, rfl, d_79, r_79, m_79⟩
          have g_79 : Below w1.heap.size R78 w_79 := gR78.trans (grown_below DR78r r_79 (eR78.trans gR78).size)
          refine hQ _ _ ⟨⟨_, g_79⟩, rfl⟩ ?_
          clear hQ K
          have o_79 : ∀ g, v_79.ownBlock = some g → g < w_79.heap.size := fun g hg => (World.ownsRow.lt d_79 g hg).2
          refine wpAnyH_one (k := 10) (by kernel_rfl) rfl (fun K hQ => ?_)
          go_simp
          refine (rput_mv w1.heap.size (((([] ++ enc 4 (hs : Int).toNat) ++ enc 4 (hd : Int).toNat) ++ [(pr % 256)]) ++ enc 2 ((sp % 18446744073709551616) : Int).toNat) (by simp [enc_length]) v_79 (dp % 18446744073709551616) 2 (by omega) (by omega) (by decide) w_79 (eR78.trans g_79).size d_79).mono ?_
          rintro r w_80 ⟨v_80, rfl, d_80, r_80, m_80⟩
          have g_80 : Below w1.heap.size R78 w_80 := g_79.trans (grown_below d_79 r_80 (eR78.trans g_79).size)
          refine hQ _ _ ⟨⟨_, g_80⟩, rfl⟩ ?_
          clear hQ K
          have o_80 : ∀ g, v_80.ownBlock = some g → g < w_80.heap.size := fun g hg => (World.ownsRow.lt d_80 g hg).2
          refine wpAnyH_one (k := 11) (by kernel_rfl) rfl (fun K hQ => ?_)
          go_simp
          refine hQ _ _ ⟨⟨_, g_80⟩, rfl⟩ ?_
          clear hQ K
          refine wpAnyH_done (by kernel_rfl) ?_ 0
          have E_82 := eR78.trans g_80
          have x_82 := H1.below E_82 H1.lt
          have de_83 : ((((([] ++ enc 4 (hs : Int).toNat) ++ enc 4 (hd : Int).toNat) ++ [(pr % 256)]) ++ enc 2 ((sp % 18446744073709551616) : Int).toNat) ++ enc 2 ((dp % 18446744073709551616) : Int).toNat) = FW := HEQ.out
          have dd_83 := d_80.dat.seg
          rw [de_83] at dd_83
          obtain ⟨ua_83, uc_83, hu_83, -⟩ := id dd_83
          subst hu_83
          go_wp2_with fail
          go_at_call 36
          refine (RH _ w_80 dd_83).mono ?_
          rintro e wz ⟨rfl, hw⟩
          obtain rfl := hw.symm
          go_wp2
          go_ret
          exact ⟨by simp <;> omega, k1.trans (E_82.mono k1.size)⟩
        · go_simp
          have D_84 : Dat (w_72.alloc (.cells #[.int .u8 (pr % 256)] 5)) (.slice (some ⟨w_72.heap.size, 0, none⟩) 1 1) [(pr % 256)] := dat_one _ _
          have m_84 : Below w_72.heap.size w_72 (w_72.alloc (.cells #[.int .u8 (pr % 256)] 5)) := (Below.refl _ _).alloc (Nat.le_refl _) _
          have g_84 : Below w1.heap.size Q71 (w_72.alloc (.cells #[.int .u8 (pr % 256)] 5)) := g_72.trans (m_84.mono (eQ71.trans g_72).size)
          refine hQ _ _ ⟨⟨_, g_84⟩, rfl⟩ ?_
          clear hQ K
          have d_84a := d_72.below m_84
          have l_84 : w_72.heap.size < (w_72.alloc (.cells #[.int .u8 (pr % 256)] 5)).heap.size := (World.ownsRow.lt D_84 _ rfl).2
          refine wpAnyH_one (k := 9) (by kernel_rfl) rfl (fun K hQ => ?_)
          go_simp
          refine (rput_mv w1.heap.size ([] ++ enc 4 (hs : Int).toNat) (by simp [enc_length]) v_72 hd 4 q4.1 q4x (by decide) (w_72.alloc (.cells #[.int .u8 (pr % 256)] 5)) (eQ71.trans g_84).size d_84a).mono ?_
          rintro r w_85 ⟨v_85, rfl, d_85, r_85, m_85⟩
          have g_85 : Below w1.heap.size Q71 w_85 := g_84.trans (grown_below d_84a r_85 (eQ71.trans g_84).size)
          refine hQ _ _ ⟨⟨_, g_85⟩, rfl⟩ ?_
          clear hQ K
          have o_85 : ∀ g, v_85.ownBlock = some g → g < w_85.heap.size := fun g hg => (World.ownsRow.lt d_85 g hg).2
          have z85_l := one_grown D_84 r_85 (fun e => Nat.lt_irrefl _ (o_72 _ e))
          refine wpAnyH_one (k := 15) (by kernel_rfl) rfl (fun K hQ => ?_)
          obtain ⟨va_86, wa_86, hr_86, DA_86, hg_86⟩ := append_any _ 23 w1.heap.size _ _ _ _ d_85 z85_l.seg (eQ71.trans g_85).size (by simp [enc_length])
          have g_86 : Below w1.heap.size Q71 wa_86 := g_85.trans (grown_below d_85 hg_86 (eQ71.trans g_85).size)
          have HR_86 := Lib.hid hr_86
          clear hr_86 hg_86
          refine if_true_prop (by kernel_rfl) ?_
          refine Lib.wp_append_run _ _ _ 23 23 rfl _ _ rfl rfl _ _ HR_86.out ?_
          refine hQ _ _ ⟨⟨_, g_86⟩, rfl⟩ ?_
          clear hQ K HR_86
          refine wpAnyH_one (k := 16) (by kernel_rfl) rfl (fun K hQ => ?_)
          go_simp
          refine hQ _ _ ⟨⟨_, g_86⟩, rfl⟩ ?_
          clear hQ K
          refine wpAnyH_done (by kernel_rfl) ?_ 0
          have E_88 := eQ71.trans g_86
          have x_88 := H1.below E_88 H1.lt
          go_wp2_with fail
          refine wp_region_selB w1.heap.size [0, 1, 2, 3, 4, 6, 7, 8, 9] 3 rfl (by kernel_rfl) (by kernel_rfl) (by kernel_rfl) (by kernel_rfl) (fun _ d _ _ _ h => by cases d <;> exact h) ?_
          intro R89 hR89
          have eR89 : Below w1.heap.size w1 R89 := E_88.trans (by subst hR89; exact (Below.refl _ _).drew)
          have DR89r := DA_86.below (show Below wa_86.heap.size wa_86 R89 by subst hR89; exact (Below.refl _ _).drew)
          have XR89 := H1.below eR89 H1.lt
          have r12R89 : ∀ q : Beh w1.heap.size R89, q.w.cell? ⟨w.heap.size, 12, none⟩ = some (.int .i64 sp) := fun q => Blk.cell (Blk.below XR89 q.h H1.lt) 12 rfl
          have r13R89 : ∀ q : Beh w1.heap.size R89, q.w.cell? ⟨w.heap.size, 13, none⟩ = some (.int .i64 dp) := fun q => Blk.cell (Blk.below XR89 q.h H1.lt) 13 rfl
          clear hR89
          simp only [pickOps, List.filterMap_cons, List.filterMap_nil, List.getElem?_cons_zero, List.getElem?_cons_succ, Option.map_some, List.map_cons, List.map_nil]
          repeat (go_big_quiet_step (fail))
          refine wpQuiet_nil ?_
          clear r12R89 r13R89 XR89
          have gR89 : Below w1.heap.size R89 R89 := Below.refl _ _
          refine wpAnyH_one (k := 5) (by kernel_rfl) rfl (fun K hQ => ?_)
          go_simp
          refine (rput_mv w1.heap.size ((([] ++ enc 4 (hs : Int).toNat) ++ enc 4 (hd : Int).toNat) ++ [(pr % 256)]) (by simp [enc_length]) va_86 (sp % 18446744073709551616) 2 (by omega) (by omega) (by decide) R89 (eR89.trans gR89).size DR89r).mono ?_
          rintro r w_90 ⟨v_90, rfl, d_90, r_90, m_90⟩
          have g_90 : Below w1.heap.size R89 w_90 := gR89.trans (grown_below DR89r r_90 (eR89.trans gR89).size)
          refine hQ _ _ ⟨⟨_, g_90⟩, rfl⟩ ?_
          clear hQ K
          have o_90 : ∀ g, v_90.ownBlock = some g → g < w_90.heap.size := fun g hg => (World.ownsRow.lt d_90 g hg).2
          refine wpAnyH_one (k := 10) (by kernel_rfl) rfl (fun K hQ => ?_)
          go_simp
          refine (rput_mv w1.heap.size (((([] ++ enc 4 (hs : Int).toNat) ++ enc 4 (hd : Int).toNat) ++ [(pr % 256)]) ++ enc 2 ((sp % 18446744073709551616) : Int).toNat) (by simp [enc_length]) v_90 (dp % 18446744073709551616) 2 (by omega) (by omega) (by decide) w_90 (eR89.trans g_90).size d_90).mono ?_
          rintro r w_91 ⟨v_91, rfl, d_91, r_91, m_91⟩
          have g_91 : Below w1.heap.size R89 w_91 := g_90.trans (grown_below d_90 r_91 (eR89.trans g_90).size)
          refine hQ _ _ ⟨⟨_, g_91⟩, rfl⟩ ?_
          clear hQ K
          have o_91 : ∀ g, v_91.ownBlock = some g → g < w_91.heap.size := fun g hg => (World.ownsRow.lt d_91 g hg).2
          refine wpAnyH_one (k := 11) (by kernel_rfl) rfl (fun K hQ => ?_)
          go_simp
          refine hQ _ _ ⟨⟨_, g_91⟩, rfl⟩ ?_
          clear hQ K
          refine wpAnyH_done (by kernel_rfl) ?_ 0
          have E_93 := eR89.trans g_91
          have x_93 := H1.below E_93 H1.lt
          have de_94 : ((((([] ++ enc 4 (hs : Int).toNat) ++ enc 4 (hd : Int).toNat) ++ [(pr % 256)]) ++ enc 2 ((sp % 18446744073709551616) : Int).toNat) ++ enc 2 ((dp % 18446744073709551616) : Int).toNat) = FW := HEQ.out
          have dd_94 := d_91.dat.seg
          rw [de_94] at dd_94
          obtain ⟨ua_94, uc_94, hu_94, -⟩ := id dd_94
          subst hu_94
          go_wp2_with fail
          go_at_call 36
          refine (RH _ w_91 dd_94).mono ?_
          rintro e wz ⟨rfl, hw⟩
          obtain rfl := hw.symm
          go_wp2
          go_ret
          exact ⟨by simp <;> omega, k1.trans (E_93.mono k1.size)⟩
      · go_simp
        have D_95 : Dat (Q71.alloc (.cells #[.int .u8 (pr % 256)] 5)) (.slice (some ⟨Q71.heap.size, 0, none⟩) 1 1) [(pr % 256)] := dat_one _ _
        have m_95 : Below Q71.heap.size Q71 (Q71.alloc (.cells #[.int .u8 (pr % 256)] 5)) := (Below.refl _ _).alloc (Nat.le_refl _) _
        have g_95 : Below w1.heap.size Q71 (Q71.alloc (.cells #[.int .u8 (pr % 256)] 5)) := gQ71.trans (m_95.mono (eQ71.trans gQ71).size)
        refine hQ _ _ ⟨⟨_, g_95⟩, rfl⟩ ?_
        clear hQ K
        have l_95 : Q71.heap.size < (Q71.alloc (.cells #[.int .u8 (pr % 256)] 5)).heap.size := (World.ownsRow.lt D_95 _ rfl).2
        refine wpAnyH_one (k := 4) (by kernel_rfl) rfl (fun K hQ => ?_)
        go_simp
        refine (rput_mv w1.heap.size [] (by simp [enc_length]) (.slice none 0 0) hs 4 q3.1 q3x (by decide) (Q71.alloc (.cells #[.int .u8 (pr % 256)] 5)) (eQ71.trans g_95).size (vdat_nil w1.heap.size (Q71.alloc (.cells #[.int .u8 (pr % 256)] 5)))).mono ?_
        rintro r w_96 ⟨v_96, rfl, d_96, r_96, m_96⟩
        have g_96 : Below w1.heap.size Q71 w_96 := g_95.trans (grown_below (vdat_nil w1.heap.size (Q71.alloc (.cells #[.int .u8 (pr % 256)] 5))) r_96 (eQ71.trans g_95).size)
        refine hQ _ _ ⟨⟨_, g_96⟩, rfl⟩ ?_
        clear hQ K
        have o_96 : ∀ g, v_96.ownBlock = some g → g < w_96.heap.size := fun g hg => (World.ownsRow.lt d_96 g hg).2
        have z96_l := one_grown D_95 r_96 (by simp [Value.ownBlock])
        refine wpAnyH_one (k := 9) (by kernel_rfl) rfl (fun K hQ => ?_)
        go_simp
        refine (rput_mv w1.heap.size ([] ++ enc 4 (hs : Int).toNat) (by simp [enc_length]) v_96 hd 4 q4.1 q4x (by decide) w_96 (eQ71.trans g_96).size d_96).mono ?_
        rintro r w_97 ⟨v_97, rfl, d_97, r_97, m_97⟩
        have g_97 : Below w1.heap.size Q71 w_97 := g_96.trans (grown_below d_96 r_97 (eQ71.trans g_96).size)
        refine hQ _ _ ⟨⟨_, g_97⟩, rfl⟩ ?_
        clear hQ K
        have o_97 : ∀ g, v_97.ownBlock = some g → g < w_97.heap.size := fun g hg => (World.ownsRow.lt d_97 g hg).2
        have z97_l := one_grown z96_l r_97 (fun e => m_96.elim (fun q => by rw [q] at e; simp [Value.ownBlock] at e) (fun q => by have := q _ e; have := l_95; omega))
        refine wpAnyH_one (k := 15) (by kernel_rfl) rfl (fun K hQ => ?_)
        obtain ⟨va_98, wa_98, hr_98, DA_98, hg_98⟩ := append_any _ 23 w1.heap.size _ _ _ _ d_97 z97_l.seg (eQ71.trans g_97).size (by simp [enc_length])
        have g_98 : Below w1.heap.size Q71 wa_98 := g_97.trans (grown_below d_97 hg_98 (eQ71.trans g_97).size)
        have HR_98 := Lib.hid hr_98
        clear hr_98 hg_98
        refine if_true_prop (by kernel_rfl) ?_
        refine Lib.wp_append_run _ _ _ 23 23 rfl _ _ rfl rfl _ _ HR_98.out ?_
        refine hQ _ _ ⟨⟨_, g_98⟩, rfl⟩ ?_
        clear hQ K HR_98
        refine wpAnyH_one (k := 16) (by kernel_rfl) rfl (fun K hQ => ?_)
        go_simp
        refine hQ _ _ ⟨⟨_, g_98⟩, rfl⟩ ?_
        clear hQ K
        refine wpAnyH_done (by kernel_rfl) ?_ 0
        have E_100 := eQ71.trans g_98
        have x_100 := H1.below E_100 H1.lt
        go_wp2_with fail
        refine wp_region_selB w1.heap.size [0, 1, 2, 3, 4, 6, 7, 8, 9] 3 rfl (by kernel_rfl) (by kernel_rfl) (by kernel_rfl) (by kernel_rfl) (fun _ d _ _ _ h => by cases d <;> exact h) ?_
        intro R101 hR101
        have eR101 : Below w1.heap.size w1 R101 := E_100.trans (by subst hR101; exact (Below.refl _ _).drew)
        have DR101r := DA_98.below (show Below wa_98.heap.size wa_98 R101 by subst hR101; exact (Below.refl _ _).drew)
        have XR101 := H1.below eR101 H1.lt
        have r12R101 : ∀ q : Beh w1.heap.size R101, q.w.cell? ⟨w.heap.size, 12, none⟩ = some (.int .i64 sp) := fun q => Blk.cell (Blk.below XR101 q.h H1.lt) 12 rfl
        have r13R101 : ∀ q : Beh w1.heap.size R101, q.w.cell? ⟨w.heap.size, 13, none⟩ = some (.int .i64 dp) := fun q => Blk.cell (Blk.below XR101 q.h H1.lt) 13 rfl
        clear hR101
        simp only [pickOps, List.filterMap_cons, List.filterMap_nil, List.getElem?_cons_zero, List.getElem?_cons_succ, Option.map_some, List.map_cons, List.map_nil]
        repeat (go_big_quiet_step (fail))
        refine wpQuiet_nil ?_
        clear r12R101 r13R101 XR101
        have gR101 : Below w1.heap.size R101 R101 := Below.refl _ _
        refine wpAnyH_one (k := 5) (by kernel_rfl) rfl (fun K hQ => ?_)
        go_simp
        refine (rput_mv w1.heap.size ((([] ++ enc 4 (hs : Int).toNat) ++ enc 4 (hd : Int).toNat) ++ [(pr % 256)]) (by simp [enc_length]) va_98 (sp % 18446744073709551616) 2 (by omega) (by omega) (by decide) R101 (eR101.trans gR101).size DR101r).mono ?_
        rintro r w_102 ⟨v_102, rfl, d_102, r_102, m_102⟩
        have g_102 : Below w1.heap.size R101 w_102 := gR101.trans (grown_below DR101r r_102 (eR101.trans gR101).size)
        refine hQ _ _ ⟨⟨_, g_102⟩, rfl⟩ ?_
        clear hQ K
        have o_102 : ∀ g, v_102.ownBlock = some g → g < w_102.heap.size := fun g hg => (World.ownsRow.lt d_102 g hg).2
        refine wpAnyH_one (k := 10) (by kernel_rfl) rfl (fun K hQ => ?_)
        go_simp
        refine (rput_mv w1.heap.size (((([] ++ enc 4 (hs : Int).toNat) ++ enc 4 (hd : Int).toNat) ++ [(pr % 256)]) ++ enc 2 ((sp % 18446744073709551616) : Int).toNat) (by simp [enc_length]) v_102 (dp % 18446744073709551616) 2 (by omega) (by omega) (by decide) w_102 (eR101.trans g_102).size d_102).mono ?_
        rintro r w_103 ⟨v_103, rfl, d_103, r_103, m_103⟩
        have g_103 : Below w1.heap.size R101 w_103 := g_102.trans (grown_below d_102 r_103 (eR101.trans g_102).size)
        refine hQ _ _ ⟨⟨_, g_103⟩, rfl⟩ ?_
        clear hQ K
        have o_103 : ∀ g, v_103.ownBlock = some g → g < w_103.heap.size := fun g hg => (World.ownsRow.lt d_103 g hg).2
        refine wpAnyH_one (k := 11) (by kernel_rfl) rfl (fun K hQ => ?_)
        go_simp
        refine hQ _ _ ⟨⟨_, g_103⟩, rfl⟩ ?_
        clear hQ K
        refine wpAnyH_done (by kernel_rfl) ?_ 0
        have E_105 := eR101.trans g_103
        have x_105 := H1.below E_105 H1.lt
        have de_106 : ((((([] ++ enc 4 (hs : Int).toNat) ++ enc 4 (hd : Int).toNat) ++ [(pr % 256)]) ++ enc 2 ((sp % 18446744073709551616) : Int).toNat) ++ enc 2 ((dp % 18446744073709551616) : Int).toNat) = FW := HEQ.out
        have dd_106 := d_103.dat.seg
        rw [de_106] at dd_106
        obtain ⟨ua_106, uc_106, hu_106, -⟩ := id dd_106
        subst hu_106
        go_wp2_with fail
        go_at_call 36
        refine (RH _ w_103 dd_106).mono ?_
        rintro e wz ⟨rfl, hw⟩
        obtain rfl := hw.symm
        go_wp2
        go_ret
        exact ⟨by simp <;> omega, k1.trans (E_105.mono k1.size)⟩
  · go_simp
    have D_107 : Dat (P.alloc (.cells #[.int .u8 (2 % 256)] 5)) (.slice (some ⟨P.heap.size, 0, none⟩) 1 1) [(2 % 256)] := dat_one _ _
    have m_107 : Below P.heap.size P (P.alloc (.cells #[.int .u8 (2 % 256)] 5)) := (Below.refl _ _).alloc (Nat.le_refl _) _
    have g_107 : Below w1.heap.size P (P.alloc (.cells #[.int .u8 (2 % 256)] 5)) := gP.trans (m_107.mono (eP.trans gP).size)
    refine hQ _ _ ⟨⟨_, g_107⟩, rfl⟩ ?_
    clear hQ K
    have l_107 : P.heap.size < (P.alloc (.cells #[.int .u8 (2 % 256)] 5)).heap.size := (World.ownsRow.lt D_107 _ rfl).2
    refine wpAnyH_one (k := 2) (by kernel_rfl) rfl (fun K hQ => ?_)
    go_simp
    refine (rput_mv w1.heap.size [] (by simp [enc_length]) (.slice none 0 0) s 6 q1.1 q1.2 (by decide) (P.alloc (.cells #[.int .u8 (2 % 256)] 5)) (eP.trans g_107).size (vdat_nil w1.heap.size (P.alloc (.cells #[.int .u8 (2 % 256)] 5)))).mono ?_
    rintro r w_108 ⟨v_108, rfl, d_108, r_108, m_108⟩
    have g_108 : Below w1.heap.size P w_108 := g_107.trans (grown_below (vdat_nil w1.heap.size (P.alloc (.cells #[.int .u8 (2 % 256)] 5))) r_108 (eP.trans g_107).size)
    refine hQ _ _ ⟨⟨_, g_108⟩, rfl⟩ ?_
    clear hQ K
    have o_108 : ∀ g, v_108.ownBlock = some g → g < w_108.heap.size := fun g hg => (World.ownsRow.lt d_108 g hg).2
    have z108_l := one_grown D_107 r_108 (by simp [Value.ownBlock])
    refine wpAnyH_one (k := 5) (by kernel_rfl) rfl (fun K hQ => ?_)
    go_simp
    refine (rput_mv w1.heap.size ([] ++ enc 6 (s : Int).toNat) (by simp [enc_length]) v_108 d 6 q2.1 q2.2 (by decide) w_108 (eP.trans g_108).size d_108).mono ?_
    rintro r w_109 ⟨v_109, rfl, d_109, r_109, m_109⟩
    have g_109 : Below w1.heap.size P w_109 := g_108.trans (grown_below d_108 r_109 (eP.trans g_108).size)
    refine hQ _ _ ⟨⟨_, g_109⟩, rfl⟩ ?_
    clear hQ K
    have o_109 : ∀ g, v_109.ownBlock = some g → g < w_109.heap.size := fun g hg => (World.ownsRow.lt d_109 g hg).2
    have z109_l := one_grown z108_l r_109 (fun e => m_108.elim (fun q => by rw [q] at e; simp [Value.ownBlock] at e) (fun q => by have := q _ e; have := l_107; omega))
    refine wpAnyH_one (k := 10) (by kernel_rfl) rfl (fun K hQ => ?_)
    obtain ⟨va_110, wa_110, hr_110, DA_110, hg_110⟩ := append_any _ 23 w1.heap.size _ _ _ _ d_109 z109_l.seg (eP.trans g_109).size (by simp [enc_length])
    have g_110 : Below w1.heap.size P wa_110 := g_109.trans (grown_below d_109 hg_110 (eP.trans g_109).size)
    have HR_110 := Lib.hid hr_110
    clear hr_110 hg_110
    refine if_true_prop (by kernel_rfl) ?_
    refine Lib.wp_append_run _ _ _ 23 23 rfl _ _ rfl rfl _ _ HR_110.out ?_
    refine hQ _ _ ⟨⟨_, g_110⟩, rfl⟩ ?_
    clear hQ K HR_110
    refine wpAnyH_one (k := 11) (by kernel_rfl) rfl (fun K hQ => ?_)
    go_simp
    refine hQ _ _ ⟨⟨_, g_110⟩, rfl⟩ ?_
    clear hQ K
    refine wpAnyH_done (by kernel_rfl) ?_ 0
    have E_112 := eP.trans g_110
    have x_112 := H1.below E_112 H1.lt
    have c2_113 := Blk.cell x_112 2 (v := .int .i64 2) rfl
    go_wp2_with fail
    clear c2_113
    refine wp_region_selB w1.heap.size [0, 1, 2, 3, 5, 6, 7, 8, 10, 11, 12, 13] 5 rfl (by kernel_rfl) (by kernel_rfl) (by kernel_rfl) (by kernel_rfl) (fun _ d _ _ _ h => by cases d <;> exact h) ?_
    intro Q113 hQ113
    have eQ113 : Below w1.heap.size w1 Q113 := E_112.trans (by subst hQ113; exact (Below.refl _ _).drew)
    have XQ113 := H1.below eQ113 H1.lt
    have r8Q113 : ∀ q : Beh w1.heap.size Q113, q.w.cell? ⟨w.heap.size, 8, none⟩ = some (.int .u32 hs) := fun q => Blk.cell (Blk.below XQ113 q.h H1.lt) 8 rfl
    have r9Q113 : ∀ q : Beh w1.heap.size Q113, q.w.cell? ⟨w.heap.size, 9, none⟩ = some (.int .u32 hd) := fun q => Blk.cell (Blk.below XQ113 q.h H1.lt) 9 rfl
    have r11Q113 : ∀ q : Beh w1.heap.size Q113, q.w.cell? ⟨w.heap.size, 11, none⟩ = some (.int .i64 pr) := fun q => Blk.cell (Blk.below XQ113 q.h H1.lt) 11 rfl
    clear hQ113
    simp only [pickOps, List.filterMap_cons, List.filterMap_nil, List.getElem?_cons_zero, List.getElem?_cons_succ, Option.map_some, List.map_cons, List.map_nil]
    repeat (go_big_quiet_step (fail))
    refine wpQuiet_nil ?_
    clear r8Q113 r9Q113 r11Q113 XQ113
    have gQ113 : Below w1.heap.size Q113 Q113 := Below.refl _ _
    refine wpAnyH_two (j := 4) (k := 14) (by kernel_rfl) rfl rfl (fun K hQ => ?_) (fun K hQ => ?_)
    · go_simp
      refine (rput_mv w1.heap.size [] (by simp [enc_length]) (.slice none 0 0) hs 4 q3.1 q3x (by decide) Q113 (eQ113.trans gQ113).size (vdat_nil w1.heap.size Q113)).mono ?_
      rintro r w_114 ⟨v_114, rfl, d_114, r_114, m_114⟩
      have g_114 : Below w1.heap.size Q113 w_114 := gQ113.trans (grown_below (vdat_nil w1.heap.size Q113) r_114 (eQ113.trans gQ113).size)
      refine hQ _ _ ⟨⟨_, g_114⟩, rfl⟩ ?_
      clear hQ K
      have o_114 : ∀ g, v_114.ownBlock = some g → g < w_114.heap.size := fun g hg => (World.ownsRow.lt d_114 g hg).2
      refine wpAnyH_two (j := 9) (k := 14) (by kernel_rfl) rfl rfl (fun K hQ => ?_) (fun K hQ => ?_)
      · go_simp
        refine (rput_mv w1.heap.size ([] ++ enc 4 (hs : Int).toNat) (by simp [enc_length]) v_114 hd 4 q4.1 q4x (by decide) w_114 (eQ113.trans g_114).size d_114).mono ?_
        rintro r w_115 ⟨v_115, rfl, d_115, r_115, m_115⟩
        have g_115 : Below w1.heap.size Q113 w_115 := g_114.trans (grown_below d_114 r_115 (eQ113.trans g_114).size)
        refine hQ _ _ ⟨⟨_, g_115⟩, rfl⟩ ?_
        clear hQ K
        have o_115 : ∀ g, v_115.ownBlock = some g → g < w_115.heap.size := fun g hg => (World.ownsRow.lt d_115 g hg).2
        refine wpAnyH_one (k := 14) (by kernel_rfl) rfl (fun K hQ => ?_)
        go_simp
        have D_116 : Dat (w_115.alloc (.cells #[.int .u8 (pr % 256)] 5)) (.slice (some ⟨w_115.heap.size, 0, none⟩) 1 1) [(pr % 256)] := dat_one _ _
        have m_116 : Below w_115.heap.size w_115 (w_115.alloc (.cells #[.int .u8 (pr % 256)] 5)) := (Below.refl _ _).alloc (Nat.le_refl _) _
        have g_116 : Below w1.heap.size Q113 (w_115.alloc (.cells #[.int .u8 (pr % 256)] 5)) := g_115.trans (m_116.mono (eQ113.trans g_115).size)
        refine hQ _ _ ⟨⟨_, g_116⟩, rfl⟩ ?_
        clear hQ K
        have d_116b := d_115.below m_116
        have l_116 : w_115.heap.size < (w_115.alloc (.cells #[.int .u8 (pr % 256)] 5)).heap.size := (World.ownsRow.lt D_116 _ rfl).2
        refine wpAnyH_one (k := 15) (by kernel_rfl) rfl (fun K hQ => ?_)
        obtain ⟨va_117, wa_117, hr_117, DA_117, hg_117⟩ := append_any _ 23 w1.heap.size _ _ _ _ d_116b D_116.seg (eQ113.trans g_116).size (by simp [enc_length])
        have g_117 : Below w1.heap.size Q113 wa_117 := g_116.trans (grown_below d_116b hg_117 (eQ113.trans g_116).size)
        have HR_117 := Lib.hid hr_117
        clear hr_117 hg_117
        refine if_true_prop (by kernel_rfl) ?_
        refine Lib.wp_append_run _ _ _ 23 23 rfl _ _ rfl rfl _ _ HR_117.out ?_
        refine hQ _ _ ⟨⟨_, g_117⟩, rfl⟩ ?_
        clear hQ K HR_117
        refine wpAnyH_one (k := 16) (by kernel_rfl) rfl (fun K hQ => ?_)
        go_simp
        refine hQ _ _ ⟨⟨_, g_117⟩, rfl⟩ ?_
        clear hQ K
        refine wpAnyH_done (by kernel_rfl) ?_ 0
        have E_119 := eQ113.trans g_117
        have x_119 := H1.below E_119 H1.lt
        go_wp2_with fail
        refine wp_region_selB w1.heap.size [0, 1, 2, 3, 4, 6, 7, 8, 9] 3 rfl (by kernel_rfl) (by kernel_rfl) (by kernel_rfl) (by kernel_rfl) (fun _ d _ _ _ h => by cases d <;> exact h) ?_
        intro R120 hR120
        have eR120 : Below w1.heap.size w1 R120 := E_119.trans (by subst hR120; exact (Below.refl _ _).drew)
        have DR120r := DA_117.below (show Below wa_117.heap.size wa_117 R120 by subst hR120; exact (Below.refl _ _).drew)
        have XR120 := H1.below eR120 H1.lt
        have r12R120 : ∀ q : Beh w1.heap.size R120, q.w.cell? ⟨w.heap.size, 12, none⟩ = some (.int .i64 sp) := fun q => Blk.cell (Blk.below XR120 q.h H1.lt) 12 rfl
        have r13R120 : ∀ q : Beh w1.heap.size R120, q.w.cell? ⟨w.heap.size, 13, none⟩ = some (.int .i64 dp) := fun q => Blk.cell (Blk.below XR120 q.h H1.lt) 13 rfl
        clear hR120
        simp only [pickOps, List.filterMap_cons, List.filterMap_nil, List.getElem?_cons_zero, List.getElem?_cons_succ, Option.map_some, List.map_cons, List.map_nil]
        repeat (go_big_quiet_step (fail))
        refine wpQuiet_nil ?_
        clear r12R120 r13R120 XR120
        have gR120 : Below w1.heap.size R120 R120 := Below.refl _ _
        refine wpAnyH_one (k := 5) (by kernel_rfl) rfl (fun K hQ => ?_)
        go_simp
        refine (rput_mv w1.heap.size ((([] ++ enc 4 (hs : Int).toNat) ++ enc 4 (hd : Int).toNat) ++ [(pr % 256)]) (by simp [enc_length]) va_117 (sp % 18446744073709551616) 2 (by omega) (by omega) (by decide) R120 (eR120.trans gR120).size DR120r).mono ?_
        rintro r w_121 ⟨v_121, rfl, d_121, r_121, m_121⟩
        have g_121 : Below w1.heap.size R120 w_121 := gR120.trans (grown_below DR120r r_121 (eR120.trans gR120).size)
        refine hQ _ _ ⟨⟨_, g_121⟩, rfl⟩ ?_
        clear hQ K
        have o_121 : ∀ g, v_121.ownBlock = some g → g < w_121.heap.size := fun g hg => (World.ownsRow.lt d_121 g hg).2
        refine wpAnyH_one (k := 10) (by kernel_rfl) rfl (fun K hQ => ?_)
        go_simp
        refine (rput_mv w1.heap.size (((([] ++ enc 4 (hs : Int).toNat) ++ enc 4 (hd : Int).toNat) ++ [(pr % 256)]) ++ enc 2 ((sp % 18446744073709551616) : Int).toNat) (by simp [enc_length]) v_121 (dp % 18446744073709551616) 2 (by omega) (by omega) (by decide) w_121 (eR120.trans g_121).size d_121).mono ?_
        rintro r w_122 ⟨v_122, rfl, d_122, r_122, m_122⟩
        have g_122 : Below w1.heap.size R120 w_122 := g_121.trans (grown_below d_121 r_122 (eR120.trans g_121).size)
        refine hQ _ _ ⟨⟨_, g_122⟩, rfl⟩ ?_
        clear hQ K
        have o_122 : ∀ g, v_122.ownBlock = some g → g < w_122.heap.size := fun g hg => (World.ownsRow.lt d_122 g hg).2
        refine wpAnyH_one (k := 11) (by kernel_rfl) rfl (fun K hQ => ?_)
        go_simp
        refine hQ _ _ ⟨⟨_, g_122⟩, rfl⟩ ?_
        clear hQ K
        refine wpAnyH_done (by kernel_rfl) ?_ 0
        have E_124 := eR120.trans g_122
        have x_124 := H1.below E_124 H1.lt
        have de_125 : ((((([] ++ enc 4 (hs : Int).toNat) ++ enc 4 (hd : Int).toNat) ++ [(pr % 256)]) ++ enc 2 ((sp % 18446744073709551616) : Int).toNat) ++ enc 2 ((dp % 18446744073709551616) : Int).toNat) = FW := HEQ.out
        have dd_125 := d_122.dat.seg
        rw [de_125] at dd_125
        obtain ⟨ua_125, uc_125, hu_125, -⟩ := id dd_125
        subst hu_125
        go_wp2_with fail
        go_at_call 36
        refine (RH _ w_122 dd_125).mono ?_
        rintro e wz ⟨rfl, hw⟩
        obtain rfl := hw.symm
        go_wp2
        go_ret
        exact ⟨by simp <;> omega, k1.trans (E_124.mono k1.size)⟩
      · go_simp
        have D_126 : Dat (w_114.alloc (.cells #[.int .u8 (pr % 256)] 5)) (.slice (some ⟨w_114.heap.size, 0, none⟩) 1 1) [(pr % 256)] := dat_one _ _
        have m_126 : Below w_114.heap.size w_114 (w_114.alloc (.cells #[.int .u8 (pr % 256)] 5)) := (Below.refl _ _).alloc (Nat.le_refl _) _
        have g_126 : Below w1.heap.size Q113 (w_114.alloc (.cells #[.int .u8 (pr % 256)] 5)) := g_114.trans (m_126.mono (eQ113.trans g_114).size)
        refine hQ _ _ ⟨⟨_, g_126⟩, rfl⟩ ?_
        clear hQ K
        have d_126a := d_114.below m_126
        have l_126 : w_114.heap.size < (w_114.alloc (.cells #[.int .u8 (pr % 256)] 5)).heap.size := (World.ownsRow.lt D_126 _ rfl).2
        refine wpAnyH_one (k := 9) (by kernel_rfl) rfl (fun K hQ => ?_)
        go_simp
        refine (rput_mv w1.heap.size ([] ++ enc 4 (hs : Int).toNat) (by simp [enc_length]) v_114 hd 4 q4.1 q4x (by decide) (w_114.alloc (.cells #[.int .u8 (pr % 256)] 5)) (eQ113.trans g_126).size d_126a).mono ?_
        rintro r w_127 ⟨v_127, rfl, d_127, r_127, m_127⟩
        have g_127 : Below w1.heap.size Q113 w_127 := g_126.trans (grown_below d_126a r_127 (eQ113.trans g_126).size)
        refine hQ _ _ ⟨⟨_, g_127⟩, rfl⟩ ?_
        clear hQ K
        have o_127 : ∀ g, v_127.ownBlock = some g → g < w_127.heap.size := fun g hg => (World.ownsRow.lt d_127 g hg).2
        have z127_l := one_grown D_126 r_127 (fun e => Nat.lt_irrefl _ (o_114 _ e))
        refine wpAnyH_one (k := 15) (by kernel_rfl) rfl (fun K hQ => ?_)
        obtain ⟨va_128, wa_128, hr_128, DA_128, hg_128⟩ := append_any _ 23 w1.heap.size _ _ _ _ d_127 z127_l.seg (eQ113.trans g_127).size (by simp [enc_length])
        have g_128 : Below w1.heap.size Q113 wa_128 := g_127.trans (grown_below d_127 hg_128 (eQ113.trans g_127).size)
        have HR_128 := Lib.hid hr_128
        clear hr_128 hg_128
        refine if_true_prop (by kernel_rfl) ?_
        refine Lib.wp_append_run _ _ _ 23 23 rfl _ _ rfl rfl _ _ HR_128.out ?_
        refine hQ _ _ ⟨⟨_, g_128⟩, rfl⟩ ?_
        clear hQ K HR_128
        refine wpAnyH_one (k := 16) (by kernel_rfl) rfl (fun K hQ => ?_)
        go_simp
        refine hQ _ _ ⟨⟨_, g_128⟩, rfl⟩ ?_
        clear hQ K
        refine wpAnyH_done (by kernel_rfl) ?_ 0
        have E_130 := eQ113.trans g_128
        have x_130 := H1.below E_130 H1.lt
        go_wp2_with fail
        refine wp_region_selB w1.heap.size [0, 1, 2, 3, 4, 6, 7, 8, 9] 3 rfl (by kernel_rfl) (by kernel_rfl) (by kernel_rfl) (by kernel_rfl) (fun _ d _ _ _ h => by cases d <;> exact h) ?_
        intro R131 hR131
        have eR131 : Below w1.heap.size w1 R131 := E_130.trans (by subst hR131; exact (Below.refl _ _).drew)
        have DR131r := DA_128.below (show Below wa_128.heap.size wa_128 R131 by subst hR131; exact (Below.refl _ _).drew)
        have XR131 := H1.below eR131 H1.lt
        have r12R131 : ∀ q : Beh w1.heap.size R131, q.w.cell? ⟨w.heap.size, 12, none⟩ = some (.int .i64 sp) := fun q => Blk.cell (Blk.below XR131 q.h H1.lt) 12 rfl
        have r13R131 : ∀ q : Beh w1.heap.size R131, q.w.cell? ⟨w.heap.size, 13, none⟩ = some (.int .i64 dp) := fun q => Blk.cell (Blk.below XR131 q.h H1.lt) 13 rfl
        clear hR131
        simp only [pickOps, List.filterMap_cons, List.filterMap_nil, List.getElem?_cons_zero, List.getElem?_cons_succ, Option.map_some, List.map_cons, List.map_nil]
        repeat (go_big_quiet_step (fail))
        refine wpQuiet_nil ?_
        clear r12R131 r13R131 XR131
        have gR131 : Below w1.heap.size R131 R131 := Below.refl _ _
        refine wpAnyH_one (k := 5) (by kernel_rfl) rfl (fun K hQ => ?_)
        go_simp
        refine (rput_mv w1.heap.size ((([] ++ enc 4 (hs : Int).toNat) ++ enc 4 (hd : Int).toNat) ++ [(pr % 256)]) (by simp [enc_length]) va_128 (sp % 18446744073709551616) 2 (by omega) (by omega) (by decide) R131 (eR131.trans gR131).size DR131r).mono ?_
        rintro r w_132 ⟨v_132, rfl, d_132, r_132, m_132⟩
        have g_132 : Below w1.heap.size R131 w_132 := gR131.trans (grown_below DR131r r_132 (eR131.trans gR131).size)
        refine hQ _ _ ⟨⟨_, g_132⟩, rfl⟩ ?_
        clear hQ K
        have o_132 : ∀ g, v_132.ownBlock = some g → g < w_132.heap.size := fun g hg => (World.ownsRow.lt d_132 g hg).2
        refine wpAnyH_one (k := 10) (by kernel_rfl) rfl (fun K hQ => ?_)
        go_simp
        refine (rput_mv w1.heap.size (((([] ++ enc 4 (hs : Int).toNat) ++ enc 4 (hd : Int).toNat) ++ [(pr % 256)]) ++ enc 2 ((sp % 18446744073709551616) : Int).toNat) (by simp [enc_length]) v_132 (dp % 18446744073709551616) 2 (by omega) (by omega) (by decide) w_132 (eR131.trans g_132).size d_132).mono ?_
        rintro r w_133 ⟨v_133, rfl, d_133, r_133, m_133⟩
        have g_133 : Below w1.heap.size R131 w_133 := g_132.trans (grown_below d_132 r_133 (eR131.trans g_132).size)
        refine hQ _ _ ⟨⟨_, g_133⟩, rfl⟩ ?_
        clear hQ K
        have o_133 : ∀ g, v_133.ownBlock = some g → g < w_133.heap.size := fun g hg => (World.ownsRow.lt d_133 g hg).2
        refine wpAnyH_one (k := 11) (by kernel_rfl) rfl (fun K hQ => ?_)
        go_simp
        refine hQ _ _ ⟨⟨_, g_133⟩, rfl⟩ ?_
        clear hQ K
        refine wpAnyH_done (by kernel_rfl) ?_ 0
        have E_135 := eR131.trans g_133
        have x_135 := H1.below E_135 H1.lt
        have de_136 : ((((([] ++ enc 4 (hs : Int).toNat) ++ enc 4 (hd : Int).toNat) ++ [(pr % 256)]) ++ enc 2 ((sp % 18446744073709551616) : Int).toNat) ++ enc 2 ((dp % 18446744073709551616) : Int).toNat) = FW := HEQ.out
        have dd_136 := d_133.dat.seg
        rw [de_136] at dd_136
        obtain ⟨ua_136, uc_136, hu_136, -⟩ := id dd_136
        subst hu_136
        go_wp2_with fail
        go_at_call 36
        refine (RH _ w_133 dd_136).mono ?_
        rintro e wz ⟨rfl, hw⟩
        obtain rfl := hw.symm
        go_wp2
        go_ret
        exact ⟨by simp <;> omega, k1.trans (E_135.mono k1.size)⟩
    · go_simp
      have D_137 : Dat (Q113.alloc (.cells #[.int .u8 (pr % 256)] 5)) (.slice (some ⟨Q113.heap.size, 0, none⟩) 1 1) [(pr % 256)] := dat_one _ _
      have m_137 : Below Q113.heap.size Q113 (Q113.alloc (.cells #[.int .u8 (pr % 256)] 5)) := (Below.refl _ _).alloc (Nat.le_refl _) _
      have g_137 : Below w1.heap.size Q113 (Q113.alloc (.cells #[.int .u8 (pr % 256)] 5)) := gQ113.trans (m_137.mono (eQ113.trans gQ113).size)
      refine hQ _ _ ⟨⟨_, g_137⟩, rfl⟩ ?_
      clear hQ K
      have l_137 : Q113.heap.size < (Q113.alloc (.cells #[.int .u8 (pr % 256)] 5)).heap.size := (World.ownsRow.lt D_137 _ rfl).2
      refine wpAnyH_one (k := 4) (by kernel_rfl) rfl (fun K hQ => ?_)
      go_simp
      refine (rput_mv w1.heap.size [] (by simp [enc_length]) (.slice none 0 0) hs 4 q3.1 q3x (by decide) (Q113.alloc (.cells #[.int .u8 (pr % 256)] 5)) (eQ113.trans g_137).size (vdat_nil w1.heap.size (Q113.alloc (.cells #[.int .u8 (pr % 256)] 5)))).mono ?_
      rintro r w_138 ⟨v_138, rfl, d_138, r_138, m_138⟩
      have g_138 : Below w1.heap.size Q113 w_138 := g_137.trans (grown_below (vdat_nil w1.heap.size (Q113.alloc (.cells #[.int .u8 (pr % 256)] 5))) r_138 (eQ113.trans g_137).size)
      refine hQ _ _ ⟨⟨_, g_138⟩, rfl⟩ ?_
      clear hQ K
      have o_138 : ∀ g, v_138.ownBlock = some g → g < w_138.heap.size := fun g hg => (World.ownsRow.lt d_138 g hg).2
      have z138_l := one_grown D_137 r_138 (by simp [Value.ownBlock])
      refine wpAnyH_one (k := 9) (by kernel_rfl) rfl (fun K hQ => ?_)
      go_simp
      refine (rput_mv w1.heap.size ([] ++ enc 4 (hs : Int).toNat) (by simp [enc_length]) v_138 hd 4 q4.1 q4x (by decide) w_138 (eQ113.trans g_138).size d_138).mono ?_
      rintro r w_139 ⟨v_139, rfl, d_139, r_139, m_139⟩
      have g_139 : Below w1.heap.size Q113 w_139 := g_138.trans (grown_below d_138 r_139 (eQ113.trans g_138).size)
      refine hQ _ _ ⟨⟨_, g_139⟩, rfl⟩ ?_
      clear hQ K
      have o_139 : ∀ g, v_139.ownBlock = some g → g < w_139.heap.size := fun g hg => (World.ownsRow.lt d_139 g hg).2
      have z139_l := one_grown z138_l r_139 (fun e => m_138.elim (fun q => by rw [q] at e; simp [Value.ownBlock] at e) (fun q => by have := q _ e; have := l_137; omega))
      refine wpAnyH_one (k := 15) (by kernel_rfl) rfl (fun K hQ => ?_)
      obtain ⟨va_140, wa_140, hr_140, DA_140, hg_140⟩ := append_any _ 23 w1.heap.size _ _ _ _ d_139 z139_l.seg (eQ113.trans g_139).size (by simp [enc_length])
      have g_140 : Below w1.heap.size Q113 wa_140 := g_139.trans (grown_below d_139 hg_140 (eQ113.trans g_139).size)
      have HR_140 := Lib.hid hr_140
      clear hr_140 hg_140
      refine if_true_prop (by kernel_rfl) ?_
      refine Lib.wp_append_run _ _ _ 23 23 rfl _ _ rfl rfl _ _ HR_140.out ?_
      refine hQ _ _ ⟨⟨_, g_140⟩, rfl⟩ ?_
      clear hQ K HR_140
      refine wpAnyH_one (k := 16) (by kernel_rfl) rfl (fun K hQ => ?_)
      go_simp
      refine hQ _ _ ⟨⟨_, g_140⟩, rfl⟩ ?_
      clear hQ K
      refine wpAnyH_done (by kernel_rfl) ?_ 0
      have E_142 := eQ113.trans g_140
      have x_142 := H1.below E_142 H1.lt
      go_wp2_with fail
      refine wp_region_selB w1.heap.size [0, 1, 2, 3, 4, 6, 7, 8, 9] 3 rfl (by kernel_rfl) (by kernel_rfl) (by kernel_rfl) (by kernel_rfl) (fun _ d _ _ _ h => by cases d <;> exact h) ?_
      intro R143 hR143
      have eR143 : Below w1.heap.size w1 R143 := E_142.trans (by subst hR143; exact (Below.refl _ _).drew)
      have DR143r := DA_140.below (show Below wa_140.heap.size wa_140 R143 by subst hR143; exact (Below.refl _ _).drew)
      have XR143 := H1.below eR143 H1.lt
      have r12R143 : ∀ q : Beh w1.heap.size R143, q.w.cell? ⟨w.heap.size, 12, none⟩ = some (.int .i64 sp) := fun q => Blk.cell (Blk.below XR143 q.h H1.lt) 12 rfl
      have r13R143 : ∀ q : Beh w1.heap.size R143, q.w.cell? ⟨w.heap.size, 13, none⟩ = some (.int .i64 dp) := fun q => Blk.cell (Blk.below XR143 q.h H1.lt) 13 rfl
      clear hR143
      simp only [pickOps, List.filterMap_cons, List.filterMap_nil, List.getElem?_cons_zero, List.getElem?_cons_succ, Option.map_some, List.map_cons, List.map_nil]
      repeat (go_big_quiet_step (fail))
      refine wpQuiet_nil ?_
      clear r12R143 r13R143 XR143
      have gR143 : Below w1.heap.size R143 R143 := Below.refl _ _
      refine wpAnyH_one (k := 5) (by kernel_rfl) rfl (fun K hQ => ?_)
      go_simp
      refine (rput_mv w1.heap.size ((([] ++ enc 4 (hs : Int).toNat) ++ enc 4 (hd : Int).toNat) ++ [(pr % 256)]) (by simp [enc_length]) va_140 (sp % 18446744073709551616) 2 (by omega) (by omega) (by decide) R143 (eR143.trans gR143).size DR143r).mono ?_
      rintro r w_144 ⟨v_144, rfl, d_144, r_144, m_144⟩
      have g_144 : Below w1.heap.size R143 w_144 := gR143.trans (grown_below DR143r r_144 (eR143.trans gR143).size)
      refine hQ _ _ ⟨⟨_, g_144⟩, rfl⟩ ?_
      clear hQ K
      have o_144 : ∀ g, v_144.ownBlock = some g → g < w_144.heap.size := fun g hg => (World.ownsRow.lt d_144 g hg).2
      refine wpAnyH_one (k := 10) (by kernel_rfl) rfl (fun K hQ => ?_)
      go_simp
      refine (rput_mv w1.heap.size (((([] ++ enc 4 (hs : Int).toNat) ++ enc 4 (hd : Int).toNat) ++ [(pr % 256)]) ++ enc 2 ((sp % 18446744073709551616) : Int).toNat) (by simp [enc_length]) v_144 (dp % 18446744073709551616) 2 (by omega) (by omega) (by decide) w_144 (eR143.trans g_144).size d_144).mono ?_
      rintro r w_145 ⟨v_145, rfl, d_145, r_145, m_145⟩
      have g_145 : Below w1.heap.size R143 w_145 := g_144.trans (grown_below d_144 r_145 (eR143.trans g_144).size)
      refine hQ _ _ ⟨⟨_, g_145⟩, rfl⟩ ?_
      clear hQ K
      have o_145 : ∀ g, v_145.ownBlock = some g → g < w_145.heap.size := fun g hg => (World.ownsRow.lt d_145 g hg).2
      refine wpAnyH_one (k := 11) (by kernel_rfl) rfl (fun K hQ => ?_)
      go_simp
      refine hQ _ _ ⟨⟨_, g_145⟩, rfl⟩ ?_
      clear hQ K
      refine wpAnyH_done (by kernel_rfl) ?_ 0
      have E_147 := eR143.trans g_145
      have x_147 := H1.below E_147 H1.lt
      have de_148 : ((((([] ++ enc 4 (hs : Int).toNat) ++ enc 4 (hd : Int).toNat) ++ [(pr % 256)]) ++ enc 2 ((sp % 18446744073709551616) : Int).toNat) ++ enc 2 ((dp % 18446744073709551616) : Int).toNat) = FW := HEQ.out
      have dd_148 := d_145.dat.seg
      rw [de_148] at dd_148
      obtain ⟨ua_148, uc_148, hu_148, -⟩ := id dd_148
      subst hu_148
      go_wp2_with fail
      go_at_call 36
      refine (RH _ w_145 dd_148).mono ?_
      rintro e wz ⟨rfl, hw⟩
      obtain rfl := hw.symm
      go_wp2
      go_ret
      exact ⟨by simp <;> omega, k1.trans (E_147.mono k1.size)⟩
theorem rent_is (f : FL) (hf : f.Ok) (w : World) : Calls Try.prog 38 #[f.v] w fun e w' => e = .returned (.int .i64 (entro f)) ∧ Below w.heap.size w w' := by
  obtain ⟨s, d, k, op, sm, si, tm, ti, hs, hd, tt, pr, sp, dp, x⟩ := f
  by_cases hk : k = 2
  · subst hk
    exact rent_ip _ _ _ _ _ _ _ _ _ _ _ _ _ _ hf w
  · exact rent_mac _ _ _ _ _ _ _ _ _ _ _ _ _ _ _ hf hk w
end Go.Proofs.Ytgpjelcihmbiiaa
namespace Go.Proofs.Ytgpjelcihmbiiaa
open Go.RowKit Go.Sort
set_option linter.unusedVariables false
set_option linter.unusedSimpArgs false
set_option maxRecDepth 100000

theorem penc_some (p : PL) : p.enc ≠ [] := fun h => by
  have := penc_length p
  rw [h] at this
  simp at this
  omega
/-- Bytes of both: the same error, and values whose text is the same. -/
theorem vbytes_both (f : PL) (hf : f.Ok) : ∃ (e : Int) (s : ByteArray) (F : World → Value → Prop),
    (∀ w, Calls Try.prog 30 #[f.v] w fun r w' => ∃ v, r = .returned (.tuple #[v, .int .i64 e]) ∧ F w' v ∧ Below w.heap.size w w') ∧
    (∀ w, Calls Try.prog 34 #[f.v] w fun r w' => ∃ v, r = .returned (.tuple #[v, .int .i64 e]) ∧ F w' v ∧ Below w.heap.size w w') ∧
    (∀ w v, F w v → (convert 23 9 v).run Try.prog w = .ok (.string s) w) ∧ (∀ w w' v, F w v → Below w.heap.size w w' → F w' v) := by
  by_cases hc : f.chk = 0
  · exact ⟨0, strOfNums f.enc, fun w v => Seg w v f.enc, fun w => (vbytes_ok f hf hc w).mono fun r w' ⟨v, h1, h2, h3⟩ => ⟨v, h1, h2.dat.seg, h3⟩, fun w => (vrbytes_ok f hf hc w).mono fun r w' ⟨v, h1, h2, h3⟩ => ⟨v, h1, h2.dat.seg, h3⟩, fun w v h => seg_string h (penc_some f), fun w w' v h k => h.below k⟩
  · exact ⟨f.chk, ⟨#[]⟩, fun _ v => v = .slice none 0 0, fun w => (vbytes_bad f hc w).mono fun r w' ⟨h1, h2⟩ => ⟨_, h1, rfl, h2⟩, fun w => (vrbytes_bad f hf.f hc w).mono fun r w' ⟨h1, h2⟩ => ⟨_, h1, rfl, h2⟩, fun w v h => by subst h; exact conv_nil w, fun w w' v h _ => h⟩
set_option maxHeartbeats 4000000 in
theorem vcalls_is (p : PL) (hp : p.Ok) (xs : List Int) (ho : Oct xs) (v : Value) (w : World) (hv : Seg w v xs) :
    Calls Try.prog 10 #[p.v, v] w fun r w' => r = .returned (.bool true) ∧ Below w.heap.size w w' := by
  obtain ⟨e, s, F, B1, B2, hcv, hF⟩ := vbytes_both p hp
  have c1 := fun w => vcheck_is p w
  have c2 := fun w => rvcheck_is p hp.f.s w
  have c5 := fun w => ent_is p.f hp.f w
  have c6 := fun w => rent_is p.f hp.f w
  have ee : (e == e) = true := by simp
  have ss : (s.toList == s.toList) = true := by simp
  generalize p.chk = ch at c1 c2
  generalize entro p.f = en at c5 c6
  obtain ⟨va, vc, rfl⟩ : ∃ a c, v = .slice a xs.length c := by obtain ⟨a, c, h, -⟩ := hv; exact ⟨a, c, h⟩
  clear hp
  obtain ⟨src, dst, ttl, ent, vni, mark, f⟩ := p
  dsimp only at c5 c6
  unfold PL.v at B1 B2 c1 c2 ⊢
  unfold FL.v at c5 c6
  go_enter Try.func10, Try.ntmps10
  go_wp2_with (refine at_box rfl 55 _ rfl (PL.cs ⟨src, dst, ttl, ent, vni, mark, f⟩) rfl ?_; rintro w1 x1 k1 s1)
  go_at_call 28
  refine (vlives_is w1).mono ?_
  rintro r w2 ⟨rfl, k2⟩
  have X2 := x1.below k2 x1.lt
  have K2 := k1.trans (k2.mono k1.size)
  clear x1 k2 s1 k1
  by_cases hl : 300 < xs.length
  · have hl' : decide ((300 : Int) < xs.length) = true := by simp; omega
    go_wp2_with fail
    go_ret
    exact ⟨rfl, K2⟩
  have hl' : decide ((300 : Int) < xs.length) = false := by simp; omega
  go_wp2_with (refine at_mid rfl 55 _ rfl w.heap.size 0 rfl X2 (PL.cs ⟨src, dst, ttl, ent, vni, mark, f⟩) rfl _ Try.underlying55 rfl szP ?_)
  go_at_call 30
  refine (B1 w2).mono ?_
  rintro r w4 ⟨v1, rfl, fa, k4⟩
  have X4 := X2.below k4 X2.lt
  have K4 := K2.trans (k4.mono K2.size)
  clear X2 K2 k4 B1
  go_wp2_with (refine at_mid rfl 55 _ rfl w.heap.size 0 rfl X4 (PL.cs ⟨src, dst, ttl, ent, vni, mark, f⟩) rfl _ Try.underlying55 rfl szP ?_)
  go_at_call 34
  refine (B2 w4).mono ?_
  rintro r w5 ⟨v2, rfl, fb, k5⟩
  have X5 := X4.below k5 X4.lt
  have K5 := K4.trans (k5.mono K4.size)
  have fa5 := hF _ _ _ fa k5
  have V5 := hv.below K5
  have c3 : ∀ d os, Calls Try.prog 33 #[.slice va xs.length vc] (grow (redrawn w5 d) os) fun e w' => e = .returned (.int .u32 (hsh xs)) ∧ Below (grow (redrawn w5 d) os).heap.size (grow (redrawn w5 d) os) w' := fun d os => (hash_is xs _ _ (V5.below (below_regrown w5 d os)) ho (by omega)).mono fun r w' ⟨h1, h2⟩ => ⟨h1, by subst h2; exact Below.refl _ _⟩
  have c4 : ∀ d os, Calls Try.prog 36 #[.slice va xs.length vc] (grow (redrawn w5 d) os) fun e w' => e = .returned (.int .u32 (hsh xs)) ∧ Below (grow (redrawn w5 d) os).heap.size (grow (redrawn w5 d) os) w' := fun d os => (rhash_is xs _ _ (V5.below (below_regrown w5 d os)) ho (by omega)).mono fun r w' ⟨h1, h2⟩ => ⟨h1, by subst h2; exact Below.refl _ _⟩
  generalize hsh xs = hx at c3 c4
  have HC : ∀ w', (∃ p : Regrown, w' = grow (redrawn w5 p.d) p.os) → Blk w' w.heap.size 55 (PL.cs ⟨src, dst, ttl, ent, vni, mark, f⟩) := by
    rintro w' ⟨q, rfl⟩
    exact X5.below (below_regrown w5 q.d q.os) X5.lt
  have HX := Lib.hid HC
  have HA := Lib.hid (conv_reg hcv hF fa5)
  have HB := Lib.hid (conv_reg hcv hF fb)
  have hb : (hx == hx) = true := by simp
  have hc : (ch == ch) = true := by simp
  have hd : (en == en) = true := by simp
  clear X4 K4 k5 B2 fa X5 fa5 fb hcv hF V5 hv hl hl' HC
  go_wp2_with fail
  refine wp_region_qb (by kernel_rfl) (by kernel_rfl) ?_
  repeat (first
    | go_big_quiet_skip
    | (go_big_quiet_want; refine q_conv (.tmp 24) rfl v1 rfl s HA.out ?_; go_simp; go_big_quiet_on)
    | (go_big_quiet_want; refine q_conv (.tmp 26) rfl v2 rfl s HB.out ?_; go_simp; go_big_quiet_on)
    | (go_big_quiet_want; refine q_mid 55 (.tmp 2) rfl w.heap.size 0 rfl _ (PL.cs ⟨src, dst, ttl, ent, vni, mark, f⟩) HX.out (PL.cs ⟨src, dst, ttl, ent, vni, mark, f⟩) rfl _ Try.underlying55 rfl szP ?_; go_simp; go_big_quiet_on)
    | (go_big_quiet_want; refine q_mid 36 (.tmp 49) rfl w.heap.size 6 rfl _ (PL.cs ⟨src, dst, ttl, ent, vni, mark, f⟩) HX.out (FL.cs f) rfl _ Try.underlying36 rfl szF ?_; go_simp; go_big_quiet_on)
    | (go_big_quiet_want; refine q_mid 36 (.tmp 52) rfl w.heap.size 6 rfl _ (PL.cs ⟨src, dst, ttl, ent, vni, mark, f⟩) HX.out (FL.cs f) rfl _ Try.underlying36 rfl szF ?_; go_simp; go_big_quiet_on)
    | (go_big_quiet_want; go_big_quiet_op; first | go_big_quiet_on | go_big_quiet_call (first
        | (with_reducible exact Calls.regrown_of (c1 _)) | (with_reducible exact Calls.regrown_of (c2 _)) | (with_reducible exact Calls.regrown_of (c3 _ _)) | (with_reducible exact Calls.regrown_of (c4 _ _))
        | (with_reducible exact Calls.regrown_of (c5 _)) | (with_reducible exact Calls.regrown_of (c6 _)))))
  refine wpQuiet_nil ?_
  intro w' hw'
  go_wp2
  go_ret
  exact ⟨rfl, K5.trans (hw'.mono K5.size)⟩
end Go.Proofs.Ytgpjelcihmbiiaa
namespace Go.Proofs.Ytgpjelcihmbiiaa.vxlanCalls
open Go.RowKit Go.ChangeShapes Go.WideShapes Go.ChangeAt
set_option linter.unusedVariables false
set_option maxRecDepth 100000

theorem lifted (os : Os) (started : os.Started) (H : Type) (enc : TypeId × Value → H) :
    ReturnsInHanded {} Try.checked os 10 .any (Rows.vxlanCallsSpec.pre6 enc Try.prog Try.f10 Rows.vxlanCallsRow.domain false) (Rows.vxlanCallsSpec.post enc Try.prog Try.f10 false true false false) := by
  refine returnsInHanded_of_change (C := Try.checked) own started (by kernel_rfl) Try.func10
    (ChangeSpec.witness6 (enc := enc) (C := Try.checked) false ⟨#[], #[.agg #[.int .u32 0, .int .u32 0, .int .i64 0, .int .i64 0, .int .u32 0, .int .u32 0, .int .u64 0, .int .u64 0, .int .i64 0, .int .i64 0, .int .u64 0, .int .u32 0, .int .u64 0, .int .u32 0, .int .u32 0, .int .u32 0, .int .i64 0, .int .i64 0, .int .i64 0, .int .i64 0, .int .u64 0], .slice none 0 0], []⟩ 8 (by kernel_rfl) (by kernel_rfl) (by kernel_rfl) (by kernel_rfl)) ?_
  intro W base args ds gs before hval0 hW hcnd _
  have hval : ∀ (j : Nat) t v, Try.f10.params[j]? = some t → args[j]? = some v → Value.okWide Try.prog W .any base t v := hval0
  have hW' := hW
  obtain ⟨p, q, hA0, hV, rfl, hfz, hnd⟩ := hW
  have hA : DataW.TrodAll enc Try.prog W 0 (fun _ => true) true Try.f10.params.toList args.toList ds p := hA0
  rw [Try.params10] at hA hval
  obtain ⟨v0, vs0, d0, ds0, p0, q0, hargs, rfl, rfl, h0, r0⟩ := trodAll_cons hA
  obtain ⟨v1, vs1, d1, ds1, p1, q1, rfl, rfl, rfl, h1, r1⟩ := trodAll_cons r0
  obtain ⟨rfl, rfl, rfl⟩ := trodAll_nil r1
  obtain rfl : args = #[v0, v1] := by cases args; simp_all
  obtain ⟨rfl, rfl⟩ := trodVars_none hV
  have lt0 : ∀ x ∈ p0, x.block < W.heap.size := by obtain ⟨m, hm⟩ := h0; exact DataW.trod_lt m _ _ _ hm
  obtain ⟨k0, rfl, o0⟩ := open_packet (hval 0 55 v0 rfl rfl) h0
  have lt1 : ∀ x ∈ p1, x.block < W.heap.size := by obtain ⟨m, hm⟩ := h1; exact DataW.trod_lt m _ _ _ hm
  obtain ⟨xs1, s1, oc1⟩ := open_bytes (hval 1 23 v1 rfl rfl) h1
  clear hA0 hval0
  refine (vcalls_is k0 o0 xs1 oc1 v1 W s1).mono fun e W' ⟨he, bel⟩ => ?_
  subst he
  exact ⟨_, rfl, _, _, _, [], _, [], hW', trodAll_mk1 (shut_bool Try.underlying4 _), (trodAll_cons_mk (Below.trod laidOut (by kernel_rfl) (of_decide_eq_true (by kernel_rfl)) h0 bel lt0) (trodAll_cons_mk (Below.trod laidOut (by kernel_rfl) (of_decide_eq_true (by kernel_rfl)) h1 bel lt1) trodAll_mk0)), rfl, bel.frame _, fun h => by cases h⟩

theorem over : Rows.vxlanCallsRow.holds Try.pinned (OpenSpec.ofChange Rows.vxlanCallsSpec) :=
  OpenClaim.holds_of_wide 10 Try.f10 rfl rfl rfl rfl rfl rfl rfl ⟨rfl, rfl, rfl, rfl, rfl⟩ rfl rfl rfl rfl rfl (by kernel_rfl) Try.func10 (by kernel_rfl)
    (of_decide_eq_true (by kernel_rfl)) (by unfold Func.isWrapper; first | (rw [if_pos (by decide +kernel)]; kernel_rfl) | (rw [if_neg (by decide +kernel)]; exact ⟨rfl, rfl⟩))
    (fun os started H enc _ => lifted os started H enc)

/-- The statement. -/
theorem proved : Rows.VxlanCallsSaid := over
#print axioms proved
end Go.Proofs.Ytgpjelcihmbiiaa.vxlanCalls
