/- What the layouts read. No condition. What the layouts read. No condition. What the layouts read. No condition. -/
import Derived.Test.YtejcclcckgdbgaaNRr
namespace Go.Proofs.Ytejcclcckgdbgaa
open Go.RowKit Go.Sort
set_option linter.unusedVariables false
set_option linter.unusedSimpArgs false
set_option maxRecDepth 100000
set_option maxHeartbeats 2000000 in
theorem flood_read (w : World) (b : Nat) (R : RS) (h : Rdr w b R) : Calls Try.prog 127 #[.agg #[], .pointer (some ⟨b, 0, none⟩)] w fun e w' => e = .returned (decFlood R).v ∧ (∃ R2, Rdr w' b R2) ∧ But w.heap.size b w w' := by
  obtain ⟨D, hD⟩ : ∃ D, D = decFlood R := ⟨_, rfl⟩
  rw [← hD]
  have HD := Lib.hid hD
  clear hD
  unfold NL.v
  have hlt := h.lt
  go_enter Try.func127, Try.ntmps127
  go_wp2_with (first
    | (refine at_box0 rfl 95 _ rfl rfl ?_; rintro w1 k1 s1; have r1 := h.below k1; have b1 : But w.heap.size b w w1 := But.of_below k1)
    | (refine at_new rfl rfl ?_; rintro w2 ⟨z2, k2, s2⟩; rw [s1] at z2 s2; have r2 := r1.below k2; have b2 := b1.nextB k2; clear k1 k2 r1 b1)
    | (refine at_build rfl _ rfl ⟨3, 0, fun _ => 0, 0, 0, 0, true, 0, 0, 0, 0, 0⟩ (by kernel_rfl) ?_)
    | (refine at_new rfl rfl ?_; rintro w3 ⟨x3, k3, s3⟩; rw [s2] at x3; have z3 := z2.below k3 z2.lt; have r3 := r2.below k3; have b3 := b2.nextB k3; clear k3 z2 r2 b2; go_simp)
    | (refine at_store rfl _ _ rfl rfl (w.heap.size + 1 + 1) rfl NL.zero ⟨3, 0, fun _ => 0, 0, 0, 0, true, 0, 0, 0, 0, 0⟩ rfl x3 ?_; rintro w4 g4; have x4 := g4.bx; have z4 := g4.other z3 (by omega); have r4 := r3.other g4.but x3 (by decide) (by decide); have b4 := b3.wrote g4.but (by omega); clear g4 x3 z3 r3 b3))
  go_at_call 109
  refine (rd_U64 w4 b R r4).mono ?_
  rintro e w5 ⟨rfl, r5, k5⟩
  have x5 := x4.but r4 k5
  have z5 := z4.but r4 k5
  have b5 := b4.then k5
  obtain ⟨q1, hq1⟩ : ∃ q, q = be (R.part 8) := ⟨_, rfl⟩
  have l1 : (q1 : Int) < 18446744073709551616 := by rw [hq1]; exact part_lt r4.2.1 8
  rw [← hq1]
  obtain ⟨R1, e1⟩ : ∃ R1, R1 = R.next 8 := ⟨_, rfl⟩
  rw [← e1] at r5
  have Hhq1 := Lib.hid hq1
  have He1 := Lib.hid e1
  clear k5 x4 z4 r4 b4 hq1 e1
  go_wp2_with (first
    | (refine at_set rfl 27 _ _ rfl rfl (w.heap.size + 1 + 1) 1 rfl _ ⟨3, (q1 : Nat), fun _ => 0, 0, 0, 0, true, 0, 0, 0, 0, 0⟩ (.int .u64 (q1 : Nat)) rfl x5 rfl rfl rfl u64_one (by decide) ?_; rintro w6 g6; have x6 := g6.bx; have z6 := g6.other z5 (by omega); have r6 := r5.other g6.but x5 (by decide) (by decide); have b6 := b5.wrote g6.but (by omega); clear g6 x5 z5 r5 b5))
  go_at_call 111
  refine (rd_U32 w6 b R1 r6).mono ?_
  rintro e w7 ⟨rfl, r7, k7⟩
  have x7 := x6.but r6 k7
  have z7 := z6.but r6 k7
  have b7 := b6.then k7
  obtain ⟨q2, hq2⟩ : ∃ q, q = be (R1.part 4) := ⟨_, rfl⟩
  have l2 : (q2 : Int) < 4294967296 := by rw [hq2]; exact part_lt r6.2.1 4
  rw [← hq2]
  obtain ⟨R2, e2⟩ : ∃ R2, R2 = R1.next 4 := ⟨_, rfl⟩
  rw [← e2] at r7
  have Hhq2 := Lib.hid hq2
  have He2 := Lib.hid e2
  clear k7 x6 z6 r6 b6 hq2 e2
  go_wp2_with (first
    | (refine at_set rfl 29 _ _ rfl rfl (w.heap.size + 1 + 1) 12 rfl _ ⟨3, (q1 : Nat), fun _ => 0, (q2 : Nat), 0, 0, true, 0, 0, 0, 0, 0⟩ (.int .u32 (q2 : Nat)) rfl x7 rfl rfl rfl u32_one (by decide) ?_; rintro w8 g8; have x8 := g8.bx; have z8 := g8.other z7 (by omega); have r8 := r7.other g8.but x7 (by decide) (by decide); have b8 := b7.wrote g8.but (by omega); clear g8 x7 z7 r7 b7))
  go_at_call 59
  refine (rd_U8 w8 b R2 r8).mono ?_
  rintro e w9 ⟨rfl, r9, k9⟩
  have x9 := x8.but r8 k9
  have z9 := z8.but r8 k9
  have b9 := b8.then k9
  obtain ⟨q3, hq3⟩ : ∃ q, q = be (R2.part 1) := ⟨_, rfl⟩
  have l3 : (q3 : Int) < 256 := by rw [hq3]; exact part_lt r8.2.1 1
  rw [← hq3]
  obtain ⟨R3, e3⟩ : ∃ R3, R3 = R2.next 1 := ⟨_, rfl⟩
  rw [← e3] at r9
  have Hhq3 := Lib.hid hq3
  have He3 := Lib.hid e3
  clear k9 x8 z8 r8 b8 hq3 e3
  go_wp2_with fail
  go_at_call 111
  refine (rd_U32 w9 b R3 r9).mono ?_
  rintro e w10 ⟨rfl, r10, k10⟩
  have x10 := x9.but r9 k10
  have z10 := z9.but r9 k10
  have b10 := b9.then k10
  obtain ⟨q4, hq4⟩ : ∃ q, q = be (R3.part 4) := ⟨_, rfl⟩
  have l4 : (q4 : Int) < 4294967296 := by rw [hq4]; exact part_lt r9.2.1 4
  rw [← hq4]
  obtain ⟨R4, e4⟩ : ∃ R4, R4 = R3.next 4 := ⟨_, rfl⟩
  rw [← e4] at r10
  have Hhq4 := Lib.hid hq4
  have He4 := Lib.hid e4
  clear k10 x9 z9 r9 b9 hq4 e4
  go_wp2_with (first
    | (refine at_set rfl 32 _ _ rfl rfl (w.heap.size + 1 + 1) 14 rfl _ ⟨3, (q1 : Nat), fun _ => 0, (q2 : Nat), 0, (q4 : Nat), true, 0, 0, 0, 0, 0⟩ (.int .u32 (q4 : Nat)) rfl x10 rfl rfl rfl ip_one (by decide) ?_; rintro w11 g11; have x11 := g11.bx; have z11 := g11.other z10 (by omega); have r11 := r10.other g11.but x10 (by decide) (by decide); have b11 := b10.wrote g11.but (by omega); clear g11 x10 z10 r10 b10)
    | (refine at_load rfl _ rfl (w.heap.size + 1 + 1) rfl ⟨3, (q1 : Nat), fun _ => 0, (q2 : Nat), 0, (q4 : Nat), true, 0, 0, 0, 0, 0⟩ x11 ?_)
    | (refine at_store rfl _ _ rfl rfl (w.heap.size + 1) rfl NL.zero ⟨3, (q1 : Nat), fun _ => 0, (q2 : Nat), 0, (q4 : Nat), true, 0, 0, 0, 0, 0⟩ rfl z11 ?_; rintro w12 g12; have z12 := g12.bx; have r12 := r11.other g12.but z11 (by decide) (by decide); have b12 := b11.wrote g12.but (by omega); clear g12))
  have hd : ⟨3, (q1 : Nat), fun _ => 0, (q2 : Nat), 0, (q4 : Nat), true, 0, 0, 0, 0, 0⟩ = D := by
    rw [HD.out]
    have hq1 := Hhq1.out
    have e1 := He1.out
    have hq2 := Hhq2.out
    have e2 := He2.out
    have hq3 := Hhq3.out
    have e3 := He3.out
    have hq4 := Hhq4.out
    have e4 := He4.out
    subst e4 hq4 e3 hq3 e2 hq2 e1 hq1
    rfl
  rw [← hd]
  exact bodyPost_ret (results_cell_row (by rfl) _ _ (w.heap.size + 1) _ _ _ _ rfl z12 Try.underlying36 rfl (NL.size _)) rfl ⟨rfl, ⟨_, r12⟩, b12⟩
set_option maxHeartbeats 2000000 in
theorem segment_read (w : World) (b : Nat) (R : RS) (h : Rdr w b R) : Calls Try.prog 130 #[.agg #[], .pointer (some ⟨b, 0, none⟩)] w fun e w' => e = .returned (decSegment R).v ∧ (∃ R2, Rdr w' b R2) ∧ But w.heap.size b w w' := by
  obtain ⟨D, hD⟩ : ∃ D, D = decSegment R := ⟨_, rfl⟩
  rw [← hD]
  have HD := Lib.hid hD
  clear hD
  unfold NL.v
  have hlt := h.lt
  go_enter Try.func130, Try.ntmps130
  go_wp2_with (first
    | (refine at_box0 rfl 96 _ rfl rfl ?_; rintro w1 k1 s1; have r1 := h.below k1; have b1 : But w.heap.size b w w1 := But.of_below k1)
    | (refine at_new rfl rfl ?_; rintro w2 ⟨z2, k2, s2⟩; rw [s1] at z2 s2; have r2 := r1.below k2; have b2 := b1.nextB k2; clear k1 k2 r1 b1)
    | (refine at_build rfl _ rfl ⟨4, 0, fun _ => 0, 0, 0, 0, true, 0, 0, 0, 0, 0⟩ (by kernel_rfl) ?_)
    | (refine at_new rfl rfl ?_; rintro w3 ⟨x3, k3, s3⟩; rw [s2] at x3; have z3 := z2.below k3 z2.lt; have r3 := r2.below k3; have b3 := b2.nextB k3; clear k3 z2 r2 b2; go_simp)
    | (refine at_store rfl _ _ rfl rfl (w.heap.size + 1 + 1) rfl NL.zero ⟨4, 0, fun _ => 0, 0, 0, 0, true, 0, 0, 0, 0, 0⟩ rfl x3 ?_; rintro w4 g4; have x4 := g4.bx; have z4 := g4.other z3 (by omega); have r4 := r3.other g4.but x3 (by decide) (by decide); have b4 := b3.wrote g4.but (by omega); clear g4 x3 z3 r3 b3))
  go_at_call 109
  refine (rd_U64 w4 b R r4).mono ?_
  rintro e w5 ⟨rfl, r5, k5⟩
  have x5 := x4.but r4 k5
  have z5 := z4.but r4 k5
  have b5 := b4.then k5
  obtain ⟨q1, hq1⟩ : ∃ q, q = be (R.part 8) := ⟨_, rfl⟩
  have l1 : (q1 : Int) < 18446744073709551616 := by rw [hq1]; exact part_lt r4.2.1 8
  rw [← hq1]
  obtain ⟨R1, e1⟩ : ∃ R1, R1 = R.next 8 := ⟨_, rfl⟩
  rw [← e1] at r5
  have Hhq1 := Lib.hid hq1
  have He1 := Lib.hid e1
  clear k5 x4 z4 r4 b4 hq1 e1
  go_wp2_with (first
    | (refine at_set rfl 27 _ _ rfl rfl (w.heap.size + 1 + 1) 1 rfl _ ⟨4, (q1 : Nat), fun _ => 0, 0, 0, 0, true, 0, 0, 0, 0, 0⟩ (.int .u64 (q1 : Nat)) rfl x5 rfl rfl rfl u64_one (by decide) ?_; rintro w6 g6; have x6 := g6.bx; have z6 := g6.other z5 (by omega); have r6 := r5.other g6.but x5 (by decide) (by decide); have b6 := b5.wrote g6.but (by omega); clear g6 x5 z5 r5 b5))
  go_at_call 110
  refine (readESI_is w6 b R1 r6).mono ?_
  rintro e w7 ⟨rfl, r7, k7⟩
  have x7 := x6.but r6 k7
  have z7 := z6.but r6 k7
  have b7 := b6.then k7
  obtain ⟨ee, he⟩ : ∃ ee : Nat → Int, ee = fun j => (R1.part 10).getD j 0 := ⟨_, rfl⟩
  rw [← he]
  obtain ⟨R2, e2⟩ : ∃ R2, R2 = R1.next 10 := ⟨_, rfl⟩
  rw [← e2] at r7
  have Hhe := Lib.hid he
  have He2 := Lib.hid e2
  clear k7 x6 z6 r6 b6 he e2
  go_wp2_with (first
    | (refine at_setEsi rfl _ _ rfl rfl (w.heap.size + 1 + 1) rfl ⟨4, (q1 : Nat), fun _ => 0, 0, 0, 0, true, 0, 0, 0, 0, 0⟩ ee rfl x7 ?_; rintro w8 g8; have x8 := g8.bx; have z8 := g8.other z7 (by omega); have r8 := r7.other g8.but x7 (by decide) (by decide); have b8 := b7.wrote g8.but (by omega); clear g8 x7 z7 r7 b7))
  go_at_call 59
  refine (rd_U8 w8 b R2 r8).mono ?_
  rintro e w9 ⟨rfl, r9, k9⟩
  have x9 := x8.but r8 k9
  have z9 := z8.but r8 k9
  have b9 := b8.then k9
  obtain ⟨q2, hq2⟩ : ∃ q, q = be (R2.part 1) := ⟨_, rfl⟩
  have l2 : (q2 : Int) < 256 := by rw [hq2]; exact part_lt r8.2.1 1
  rw [← hq2]
  obtain ⟨R3, e3⟩ : ∃ R3, R3 = R2.next 1 := ⟨_, rfl⟩
  rw [← e3] at r9
  have Hhq2 := Lib.hid hq2
  have He3 := Lib.hid e3
  clear k9 x8 z8 r8 b8 hq2 e3
  go_wp2_with fail
  go_at_call 111
  refine (rd_U32 w9 b R3 r9).mono ?_
  rintro e w10 ⟨rfl, r10, k10⟩
  have x10 := x9.but r9 k10
  have z10 := z9.but r9 k10
  have b10 := b9.then k10
  obtain ⟨q3, hq3⟩ : ∃ q, q = be (R3.part 4) := ⟨_, rfl⟩
  have l3 : (q3 : Int) < 4294967296 := by rw [hq3]; exact part_lt r9.2.1 4
  rw [← hq3]
  obtain ⟨R4, e4⟩ : ∃ R4, R4 = R3.next 4 := ⟨_, rfl⟩
  rw [← e4] at r10
  have Hhq3 := Lib.hid hq3
  have He4 := Lib.hid e4
  clear k10 x9 z9 r9 b9 hq3 e4
  go_wp2_with (first
    | (refine at_set rfl 32 _ _ rfl rfl (w.heap.size + 1 + 1) 14 rfl _ ⟨4, (q1 : Nat), ee, 0, 0, (q3 : Nat), true, 0, 0, 0, 0, 0⟩ (.int .u32 (q3 : Nat)) rfl x10 rfl rfl rfl ip_one (by decide) ?_; rintro w11 g11; have x11 := g11.bx; have z11 := g11.other z10 (by omega); have r11 := r10.other g11.but x10 (by decide) (by decide); have b11 := b10.wrote g11.but (by omega); clear g11 x10 z10 r10 b10)
    | (refine at_load rfl _ rfl (w.heap.size + 1 + 1) rfl ⟨4, (q1 : Nat), ee, 0, 0, (q3 : Nat), true, 0, 0, 0, 0, 0⟩ x11 ?_)
    | (refine at_store rfl _ _ rfl rfl (w.heap.size + 1) rfl NL.zero ⟨4, (q1 : Nat), ee, 0, 0, (q3 : Nat), true, 0, 0, 0, 0, 0⟩ rfl z11 ?_; rintro w12 g12; have z12 := g12.bx; have r12 := r11.other g12.but z11 (by decide) (by decide); have b12 := b11.wrote g12.but (by omega); clear g12))
  have hd : ⟨4, (q1 : Nat), ee, 0, 0, (q3 : Nat), true, 0, 0, 0, 0, 0⟩ = D := by
    rw [HD.out]
    have hq1 := Hhq1.out
    have e1 := He1.out
    have he := Hhe.out
    have e2 := He2.out
    have hq2 := Hhq2.out
    have e3 := He3.out
    have hq3 := Hhq3.out
    have e4 := He4.out
    subst e4 hq3 e3 hq2 e2 he e1 hq1
    rfl
  rw [← hd]
  exact bodyPost_ret (results_cell_row (by rfl) _ _ (w.heap.size + 1) _ _ _ _ rfl z12 Try.underlying36 rfl (NL.size _)) rfl ⟨rfl, ⟨_, r12⟩, b12⟩
end Go.Proofs.Ytejcclcckgdbgaa
namespace Go.Proofs.Ytejcclcckgdbgaa
open Go.RowKit Go.Sort
set_option linter.unusedVariables false
set_option linter.unusedSimpArgs false
set_option maxRecDepth 100000
set_option maxHeartbeats 2000000 in
theorem auto_read (w : World) (b : Nat) (R : RS) (h : Rdr w b R) : Calls Try.prog 103 #[.agg #[], .pointer (some ⟨b, 0, none⟩)] w fun e w' => e = .returned (decAuto R).v ∧ (∃ R2, Rdr w' b R2) ∧ But w.heap.size b w w' := by
  obtain ⟨D, hD⟩ : ∃ D, D = decAuto R := ⟨_, rfl⟩
  rw [← hD]
  have HD := Lib.hid hD
  clear hD
  unfold NL.v
  have hlt := h.lt
  go_enter Try.func103, Try.ntmps103
  go_wp2_with (first
    | (refine at_box0 rfl 93 _ rfl rfl ?_; rintro w1 k1 s1; have r1 := h.below k1; have b1 : But w.heap.size b w w1 := But.of_below k1)
    | (refine at_new rfl rfl ?_; rintro w2 ⟨z2, k2, s2⟩; rw [s1] at z2 s2; have r2 := r1.below k2; have b2 := b1.nextB k2; clear k1 k2 r1 b1))
  go_at_call 105
  refine (readStart_is w2 b R r2 1).mono ?_
  rintro e w3 ⟨rfl, r3, k3⟩
  have z3 := z2.but r2 k3
  have b3 := b2.then k3
  obtain ⟨R1, e1⟩ : ∃ R1, R1 = stR R := ⟨_, rfl⟩
  rw [← e1] at r3
  obtain ⟨N0, hN0⟩ : ∃ N0, N0 = decStart R 1 := ⟨_, rfl⟩
  rw [← hN0]
  have He1 := Lib.hid e1
  have HhN0 := Lib.hid hN0
  clear e1 hN0
  unfold NL.v
  have hz := z3.lt
  have hA5 : w.heap.size ≤ w3.heap.size := b3.size
  clear k3 z2 r2 b2
  go_wp2_with (first
    | (refine at_new rfl rfl ?_; rintro w4 ⟨x4, k4, s4⟩; have z4 := z3.below k4 z3.lt; have r4 := r3.below k4; have b4 := b3.nextB k4; clear k4 z3 r3 b3 s4; go_simp)
    | (refine at_store rfl _ _ rfl rfl w3.heap.size rfl NL.zero N0 rfl x4 ?_; rintro w5 g5; have x5 := g5.bx; have z5 := g5.other z4 (by omega); have r5 := r4.other g5.but x4 (by decide) (by decide); have b5 := b4.wrote g5.but hA5; clear g5 x4 z4 r4 b4))
  go_at_call 106
  refine (rd_U24 w5 b R1 r5).mono ?_
  rintro e w6 ⟨rfl, r6, k6⟩
  have x6 := x5.but r5 k6
  have z6 := z5.but r5 k6
  have b6 := b5.then k6
  obtain ⟨q1, hq1⟩ : ∃ q, q = be (R1.part 3) := ⟨_, rfl⟩
  have l1 : (q1 : Int) < 16777216 := by rw [hq1]; exact part_lt r5.2.1 3
  rw [← hq1]
  obtain ⟨R2, e2⟩ : ∃ R2, R2 = R1.next 3 := ⟨_, rfl⟩
  rw [← e2] at r6
  have Hhq1 := Lib.hid hq1
  have He2 := Lib.hid e2
  clear k6 x5 z5 r5 b5 hq1 e2
  go_wp2_with (first
    | (refine at_set rfl 29 _ _ rfl rfl w3.heap.size 19 rfl _ ⟨N0.k, N0.rd, N0.e, N0.t, N0.m, N0.ip, N0.h, N0.pi, N0.pn, N0.g, (q1 : Nat), N0.l2⟩ (.int .u32 (q1 : Nat)) rfl x6 rfl rfl rfl u32_one (by decide) ?_; rintro w7 g7; have x7 := g7.bx; have z7 := g7.other z6 (by omega); have r7 := r6.other g7.but x6 (by decide) (by decide); have b7 := b6.wrote g7.but (by omega); clear g7 x6 z6 r6 b6)
    | (refine at_load rfl _ rfl w3.heap.size rfl ⟨N0.k, N0.rd, N0.e, N0.t, N0.m, N0.ip, N0.h, N0.pi, N0.pn, N0.g, (q1 : Nat), N0.l2⟩ x7 ?_)
    | (refine at_store rfl _ _ rfl rfl (w.heap.size + 1) rfl NL.zero ⟨N0.k, N0.rd, N0.e, N0.t, N0.m, N0.ip, N0.h, N0.pi, N0.pn, N0.g, (q1 : Nat), N0.l2⟩ rfl z7 ?_; rintro w8 g8; have z8 := g8.bx; have r8 := r7.other g8.but z7 (by decide) (by decide); have b8 := b7.wrote g8.but (by omega); clear g8))
  have hd : ⟨N0.k, N0.rd, N0.e, N0.t, N0.m, N0.ip, N0.h, N0.pi, N0.pn, N0.g, (q1 : Nat), N0.l2⟩ = D := by
    rw [HD.out]
    have e1 := He1.out
    have hN0 := HhN0.out
    have hq1 := Hhq1.out
    have e2 := He2.out
    subst e2 hq1 hN0 e1
    rfl
  rw [← hd]
  exact bodyPost_ret (results_cell_row (by rfl) _ _ (w.heap.size + 1) _ _ _ _ rfl z8 Try.underlying36 rfl (NL.size _)) rfl ⟨rfl, ⟨_, r8⟩, b8⟩
set_option maxHeartbeats 2000000 in
theorem prefix_read (w : World) (b : Nat) (R : RS) (h : Rdr w b R) : Calls Try.prog 133 #[.agg #[], .pointer (some ⟨b, 0, none⟩)] w fun e w' => e = .returned (decPrefix R).v ∧ (∃ R2, Rdr w' b R2) ∧ But w.heap.size b w w' := by
  obtain ⟨D, hD⟩ : ∃ D, D = decPrefix R := ⟨_, rfl⟩
  rw [← hD]
  have HD := Lib.hid hD
  clear hD
  unfold NL.v
  have hlt := h.lt
  go_enter Try.func133, Try.ntmps133
  go_wp2_with (first
    | (refine at_box0 rfl 97 _ rfl rfl ?_; rintro w1 k1 s1; have r1 := h.below k1; have b1 : But w.heap.size b w w1 := But.of_below k1)
    | (refine at_new rfl rfl ?_; rintro w2 ⟨z2, k2, s2⟩; rw [s1] at z2 s2; have r2 := r1.below k2; have b2 := b1.nextB k2; clear k1 k2 r1 b1))
  go_at_call 105
  refine (readStart_is w2 b R r2 5).mono ?_
  rintro e w3 ⟨rfl, r3, k3⟩
  have z3 := z2.but r2 k3
  have b3 := b2.then k3
  obtain ⟨R1, e1⟩ : ∃ R1, R1 = stR R := ⟨_, rfl⟩
  rw [← e1] at r3
  obtain ⟨N0, hN0⟩ : ∃ N0, N0 = decStart R 5 := ⟨_, rfl⟩
  rw [← hN0]
  have He1 := Lib.hid e1
  have HhN0 := Lib.hid hN0
  clear e1 hN0
  unfold NL.v
  have hz := z3.lt
  have hA5 : w.heap.size ≤ w3.heap.size := b3.size
  clear k3 z2 r2 b2
  go_wp2_with (first
    | (refine at_new rfl rfl ?_; rintro w4 ⟨x4, k4, s4⟩; have z4 := z3.below k4 z3.lt; have r4 := r3.below k4; have b4 := b3.nextB k4; clear k4 z3 r3 b3 s4; go_simp)
    | (refine at_store rfl _ _ rfl rfl w3.heap.size rfl NL.zero N0 rfl x4 ?_; rintro w5 g5; have x5 := g5.bx; have z5 := g5.other z4 (by omega); have r5 := r4.other g5.but x4 (by decide) (by decide); have b5 := b4.wrote g5.but hA5; clear g5 x4 z4 r4 b4))
  go_at_call 59
  refine (rd_U8 w5 b R1 r5).mono ?_
  rintro e w6 ⟨rfl, r6, k6⟩
  have x6 := x5.but r5 k6
  have z6 := z5.but r5 k6
  have b6 := b5.then k6
  obtain ⟨q1, hq1⟩ : ∃ q, q = be (R1.part 1) := ⟨_, rfl⟩
  have l1 : (q1 : Int) < 256 := by rw [hq1]; exact part_lt r5.2.1 1
  rw [← hq1]
  obtain ⟨R2, e2⟩ : ∃ R2, R2 = R1.next 1 := ⟨_, rfl⟩
  rw [← e2] at r6
  have Hhq1 := Lib.hid hq1
  have He2 := Lib.hid e2
  clear k6 x5 z5 r5 b5 hq1 e2
  go_wp2_with (first
    | (refine at_set rfl 3 _ _ rfl rfl w3.heap.size 17 rfl _ ⟨N0.k, N0.rd, N0.e, N0.t, N0.m, N0.ip, N0.h, N0.pi, (q1 : Nat), N0.g, N0.l, N0.l2⟩ (.int .i64 (q1 : Nat)) rfl x6 rfl rfl rfl int_one (by decide) ?_; rintro w7 g7; have x7 := g7.bx; have z7 := g7.other z6 (by omega); have r7 := r6.other g7.but x6 (by decide) (by decide); have b7 := b6.wrote g7.but (by omega); clear g7 x6 z6 r6 b6))
  go_at_call 111
  refine (rd_U32 w7 b R2 r7).mono ?_
  rintro e w8 ⟨rfl, r8, k8⟩
  have x8 := x7.but r7 k8
  have z8 := z7.but r7 k8
  have b8 := b7.then k8
  obtain ⟨q2, hq2⟩ : ∃ q, q = be (R2.part 4) := ⟨_, rfl⟩
  have l2 : (q2 : Int) < 4294967296 := by rw [hq2]; exact part_lt r7.2.1 4
  rw [← hq2]
  obtain ⟨R3, e3⟩ : ∃ R3, R3 = R2.next 4 := ⟨_, rfl⟩
  rw [← e3] at r8
  have Hhq2 := Lib.hid hq2
  have He3 := Lib.hid e3
  clear k8 x7 z7 r7 b7 hq2 e3
  go_wp2_with (first
    | (refine at_set rfl 32 _ _ rfl rfl w3.heap.size 16 rfl _ ⟨N0.k, N0.rd, N0.e, N0.t, N0.m, N0.ip, N0.h, (q2 : Nat), (q1 : Nat), N0.g, N0.l, N0.l2⟩ (.int .u32 (q2 : Nat)) rfl x8 rfl rfl rfl ip_one (by decide) ?_; rintro w9 g9; have x9 := g9.bx; have z9 := g9.other z8 (by omega); have r9 := r8.other g9.but x8 (by decide) (by decide); have b9 := b8.wrote g9.but (by omega); clear g9 x8 z8 r8 b8))
  go_at_call 111
  refine (rd_U32 w9 b R3 r9).mono ?_
  rintro e w10 ⟨rfl, r10, k10⟩
  have x10 := x9.but r9 k10
  have z10 := z9.but r9 k10
  have b10 := b9.then k10
  obtain ⟨q3, hq3⟩ : ∃ q, q = be (R3.part 4) := ⟨_, rfl⟩
  have l3 : (q3 : Int) < 4294967296 := by rw [hq3]; exact part_lt r9.2.1 4
  rw [← hq3]
  obtain ⟨R4, e4⟩ : ∃ R4, R4 = R3.next 4 := ⟨_, rfl⟩
  rw [← e4] at r10
  have Hhq3 := Lib.hid hq3
  have He4 := Lib.hid e4
  clear k10 x9 z9 r9 b9 hq3 e4
  go_wp2_with (first
    | (refine at_set rfl 32 _ _ rfl rfl w3.heap.size 18 rfl _ ⟨N0.k, N0.rd, N0.e, N0.t, N0.m, N0.ip, N0.h, (q2 : Nat), (q1 : Nat), (q3 : Nat), N0.l, N0.l2⟩ (.int .u32 (q3 : Nat)) rfl x10 rfl rfl rfl ip_one (by decide) ?_; rintro w11 g11; have x11 := g11.bx; have z11 := g11.other z10 (by omega); have r11 := r10.other g11.but x10 (by decide) (by decide); have b11 := b10.wrote g11.but (by omega); clear g11 x10 z10 r10 b10))
  go_at_call 106
  refine (rd_U24 w11 b R4 r11).mono ?_
  rintro e w12 ⟨rfl, r12, k12⟩
  have x12 := x11.but r11 k12
  have z12 := z11.but r11 k12
  have b12 := b11.then k12
  obtain ⟨q4, hq4⟩ : ∃ q, q = be (R4.part 3) := ⟨_, rfl⟩
  have l4 : (q4 : Int) < 16777216 := by rw [hq4]; exact part_lt r11.2.1 3
  rw [← hq4]
  obtain ⟨R5, e5⟩ : ∃ R5, R5 = R4.next 3 := ⟨_, rfl⟩
  rw [← e5] at r12
  have Hhq4 := Lib.hid hq4
  have He5 := Lib.hid e5
  clear k12 x11 z11 r11 b11 hq4 e5
  go_wp2_with (first
    | (refine at_set rfl 29 _ _ rfl rfl w3.heap.size 19 rfl _ ⟨N0.k, N0.rd, N0.e, N0.t, N0.m, N0.ip, N0.h, (q2 : Nat), (q1 : Nat), (q3 : Nat), (q4 : Nat), N0.l2⟩ (.int .u32 (q4 : Nat)) rfl x12 rfl rfl rfl u32_one (by decide) ?_; rintro w13 g13; have x13 := g13.bx; have z13 := g13.other z12 (by omega); have r13 := r12.other g13.but x12 (by decide) (by decide); have b13 := b12.wrote g13.but (by omega); clear g13 x12 z12 r12 b12)
    | (refine at_load rfl _ rfl w3.heap.size rfl ⟨N0.k, N0.rd, N0.e, N0.t, N0.m, N0.ip, N0.h, (q2 : Nat), (q1 : Nat), (q3 : Nat), (q4 : Nat), N0.l2⟩ x13 ?_)
    | (refine at_store rfl _ _ rfl rfl (w.heap.size + 1) rfl NL.zero ⟨N0.k, N0.rd, N0.e, N0.t, N0.m, N0.ip, N0.h, (q2 : Nat), (q1 : Nat), (q3 : Nat), (q4 : Nat), N0.l2⟩ rfl z13 ?_; rintro w14 g14; have z14 := g14.bx; have r14 := r13.other g14.but z13 (by decide) (by decide); have b14 := b13.wrote g14.but (by omega); clear g14))
  have hd : ⟨N0.k, N0.rd, N0.e, N0.t, N0.m, N0.ip, N0.h, (q2 : Nat), (q1 : Nat), (q3 : Nat), (q4 : Nat), N0.l2⟩ = D := by
    rw [HD.out]
    have e1 := He1.out
    have hN0 := HhN0.out
    have hq1 := Hhq1.out
    have e2 := He2.out
    have hq2 := Hhq2.out
    have e3 := He3.out
    have hq3 := Hhq3.out
    have e4 := He4.out
    have hq4 := Hhq4.out
    have e5 := He5.out
    subst e5 hq4 e4 hq3 e3 hq2 e2 hq1 hN0 e1
    rfl
  rw [← hd]
  exact bodyPost_ret (results_cell_row (by rfl) _ _ (w.heap.size + 1) _ _ _ _ rfl z14 Try.underlying36 rfl (NL.size _)) rfl ⟨rfl, ⟨_, r14⟩, b14⟩
end Go.Proofs.Ytejcclcckgdbgaa
namespace Go.Proofs.Ytejcclcckgdbgaa
open Go.RowKit Go.Sort
set_option linter.unusedVariables false
set_option linter.unusedSimpArgs false
set_option maxRecDepth 100000
set_option maxHeartbeats 2000000 in
theorem mac_readT (w : World) (b : Nat) (R : RS) (h : Rdr w b R) (A : macC R = true) : Calls Try.prog 120 #[.agg #[], .pointer (some ⟨b, 0, none⟩)] w fun e w' => e = .returned (decMacT R).v ∧ (∃ R2, Rdr w' b R2) ∧ But w.heap.size b w w' := by
  obtain ⟨D, hD⟩ : ∃ D, D = decMacT R := ⟨_, rfl⟩
  rw [← hD]
  have HD := Lib.hid hD
  clear hD
  unfold NL.v
  have hlt := h.lt
  go_enter Try.func120, Try.ntmps120
  go_wp2_with (first
    | (refine at_box0 rfl 94 _ rfl rfl ?_; rintro w1 k1 s1; have r1 := h.below k1; have b1 : But w.heap.size b w w1 := But.of_below k1)
    | (refine at_new rfl rfl ?_; rintro w2 ⟨z2, k2, s2⟩; rw [s1] at z2 s2; have r2 := r1.below k2; have b2 := b1.nextB k2; clear k1 k2 r1 b1))
  go_at_call 105
  refine (readStart_is w2 b R r2 2).mono ?_
  rintro e w3 ⟨rfl, r3, k3⟩
  have z3 := z2.but r2 k3
  have b3 := b2.then k3
  obtain ⟨R1, e1⟩ : ∃ R1, R1 = stR R := ⟨_, rfl⟩
  rw [← e1] at r3
  obtain ⟨N0, hN0⟩ : ∃ N0, N0 = decStart R 2 := ⟨_, rfl⟩
  rw [← hN0]
  have He1 := Lib.hid e1
  have HhN0 := Lib.hid hN0
  clear e1 hN0
  unfold NL.v
  have hz := z3.lt
  have hA5 : w.heap.size ≤ w3.heap.size := b3.size
  clear k3 z2 r2 b2
  go_wp2_with (first
    | (refine at_new rfl rfl ?_; rintro w4 ⟨x4, k4, s4⟩; have z4 := z3.below k4 z3.lt; have r4 := r3.below k4; have b4 := b3.nextB k4; clear k4 z3 r3 b3 s4; go_simp)
    | (refine at_store rfl _ _ rfl rfl w3.heap.size rfl NL.zero N0 rfl x4 ?_; rintro w5 g5; have x5 := g5.bx; have z5 := g5.other z4 (by omega); have r5 := r4.other g5.but x4 (by decide) (by decide); have b5 := b4.wrote g5.but hA5; clear g5 x4 z4 r4 b4))
  go_at_call 59
  refine (rd_U8 w5 b R1 r5).mono ?_
  rintro e w6 ⟨rfl, r6, k6⟩
  have x6 := x5.but r5 k6
  have z6 := z5.but r5 k6
  have b6 := b5.then k6
  obtain ⟨q1, hq1⟩ : ∃ q, q = be (R1.part 1) := ⟨_, rfl⟩
  have l1 : (q1 : Int) < 256 := by rw [hq1]; exact part_lt r5.2.1 1
  rw [← hq1]
  obtain ⟨R2, e2⟩ : ∃ R2, R2 = R1.next 1 := ⟨_, rfl⟩
  rw [← e2] at r6
  have Hhq1 := Lib.hid hq1
  have He2 := Lib.hid e2
  clear k6 x5 z5 r5 b5 hq1 e2
  go_wp2_with fail
  go_at_call 122
  refine (rd_U48 w6 b R2 r6).mono ?_
  rintro e w7 ⟨rfl, r7, k7⟩
  have x7 := x6.but r6 k7
  have z7 := z6.but r6 k7
  have b7 := b6.then k7
  obtain ⟨q2, hq2⟩ : ∃ q, q = be (R2.part 6) := ⟨_, rfl⟩
  have l2 : (q2 : Int) < 281474976710656 := by rw [hq2]; exact part_lt r6.2.1 6
  rw [← hq2]
  obtain ⟨R3, e3⟩ : ∃ R3, R3 = R2.next 6 := ⟨_, rfl⟩
  rw [← e3] at r7
  have Hhq2 := Lib.hid hq2
  have He3 := Lib.hid e3
  clear k7 x6 z6 r6 b6 hq2 e3
  go_wp2_with (first
    | (refine at_set rfl 28 _ _ rfl rfl w3.heap.size 13 rfl _ ⟨N0.k, N0.rd, N0.e, N0.t, (q2 : Nat), N0.ip, N0.h, N0.pi, N0.pn, N0.g, N0.l, N0.l2⟩ (.int .u64 (q2 : Nat)) rfl x7 rfl rfl rfl mac_one (by decide) ?_; rintro w8 g8; have x8 := g8.bx; have z8 := g8.other z7 (by omega); have r8 := r7.other g8.but x7 (by decide) (by decide); have b8 := b7.wrote g8.but (by omega); clear g8 x7 z7 r7 b7))
  go_at_call 59
  refine (rd_U8 w8 b R3 r8).mono ?_
  rintro e w9 ⟨rfl, r9, k9⟩
  have x9 := x8.but r8 k9
  have z9 := z8.but r8 k9
  have b9 := b8.then k9
  obtain ⟨q3, hq3⟩ : ∃ q, q = be (R3.part 1) := ⟨_, rfl⟩
  have l3 : (q3 : Int) < 256 := by rw [hq3]; exact part_lt r8.2.1 1
  rw [← hq3]
  obtain ⟨R4, e4⟩ : ∃ R4, R4 = R3.next 1 := ⟨_, rfl⟩
  rw [← e4] at r9
  have Hhq3 := Lib.hid hq3
  have He4 := Lib.hid e4
  clear k9 x8 z8 r8 b8 hq3 e4
  have hc : (((q3 : Nat) : Int) != 0) = true := by
    have h0 : (q3 != 0) = true := by rw [Hhq3.out, He3.out, He2.out, He1.out]; exact A
    rw [← h0, Bool.eq_iff_iff]
    simp
  go_wp2_with fail
  go_at_call 111
  refine (rd_U32 w9 b R4 r9).mono ?_
  rintro e w10 ⟨rfl, r10, k10⟩
  have x10 := x9.but r9 k10
  have z10 := z9.but r9 k10
  have b10 := b9.then k10
  obtain ⟨q4, hq4⟩ : ∃ q, q = be (R4.part 4) := ⟨_, rfl⟩
  have l4 : (q4 : Int) < 4294967296 := by rw [hq4]; exact part_lt r9.2.1 4
  rw [← hq4]
  obtain ⟨R5, e5⟩ : ∃ R5, R5 = R4.next 4 := ⟨_, rfl⟩
  rw [← e5] at r10
  have Hhq4 := Lib.hid hq4
  have He5 := Lib.hid e5
  clear k10 x9 z9 r9 b9 hq4 e5
  go_wp2_with (first
    | (refine at_set rfl 4 _ _ rfl rfl w3.heap.size 15 rfl _ ⟨N0.k, N0.rd, N0.e, N0.t, (q2 : Nat), N0.ip, true, N0.pi, N0.pn, N0.g, N0.l, N0.l2⟩ (.bool true) rfl x10 rfl rfl rfl bool_one (by decide) ?_; rintro w11 g11; have x11 := g11.bx; have z11 := g11.other z10 (by omega); have r11 := r10.other g11.but x10 (by decide) (by decide); have b11 := b10.wrote g11.but (by omega); clear g11 x10 z10 r10 b10)
    | (refine at_set rfl 32 _ _ rfl rfl w3.heap.size 14 rfl _ ⟨N0.k, N0.rd, N0.e, N0.t, (q2 : Nat), (q4 : Nat), true, N0.pi, N0.pn, N0.g, N0.l, N0.l2⟩ (.int .u32 (q4 : Nat)) rfl x11 rfl rfl rfl ip_one (by decide) ?_; rintro w12 g12; have x12 := g12.bx; have z12 := g12.other z11 (by omega); have r12 := r11.other g12.but x11 (by decide) (by decide); have b12 := b11.wrote g12.but (by omega); clear g12 x11 z11 r11 b11))
  go_at_call 106
  refine (rd_U24 w12 b R5 r12).mono ?_
  rintro e w13 ⟨rfl, r13, k13⟩
  have x13 := x12.but r12 k13
  have z13 := z12.but r12 k13
  have b13 := b12.then k13
  obtain ⟨q5, hq5⟩ : ∃ q, q = be (R5.part 3) := ⟨_, rfl⟩
  have l5 : (q5 : Int) < 16777216 := by rw [hq5]; exact part_lt r12.2.1 3
  rw [← hq5]
  obtain ⟨R6, e6⟩ : ∃ R6, R6 = R5.next 3 := ⟨_, rfl⟩
  rw [← e6] at r13
  have Hhq5 := Lib.hid hq5
  have He6 := Lib.hid e6
  clear k13 x12 z12 r12 b12 hq5 e6
  go_wp2_with (first
    | (refine at_set rfl 29 _ _ rfl rfl w3.heap.size 19 rfl _ ⟨N0.k, N0.rd, N0.e, N0.t, (q2 : Nat), (q4 : Nat), true, N0.pi, N0.pn, N0.g, (q5 : Nat), N0.l2⟩ (.int .u32 (q5 : Nat)) rfl x13 rfl rfl rfl u32_one (by decide) ?_; rintro w14 g14; have x14 := g14.bx; have z14 := g14.other z13 (by omega); have r14 := r13.other g14.but x13 (by decide) (by decide); have b14 := b13.wrote g14.but (by omega); clear g14 x13 z13 r13 b13))
  go_at_call 106
  refine (rd_U24 w14 b R6 r14).mono ?_
  rintro e w15 ⟨rfl, r15, k15⟩
  have x15 := x14.but r14 k15
  have z15 := z14.but r14 k15
  have b15 := b14.then k15
  obtain ⟨q6, hq6⟩ : ∃ q, q = be (R6.part 3) := ⟨_, rfl⟩
  have l6 : (q6 : Int) < 16777216 := by rw [hq6]; exact part_lt r14.2.1 3
  rw [← hq6]
  obtain ⟨R7, e7⟩ : ∃ R7, R7 = R6.next 3 := ⟨_, rfl⟩
  rw [← e7] at r15
  have Hhq6 := Lib.hid hq6
  have He7 := Lib.hid e7
  clear k15 x14 z14 r14 b14 hq6 e7
  go_wp2_with (first
    | (refine at_set rfl 29 _ _ rfl rfl w3.heap.size 20 rfl _ ⟨N0.k, N0.rd, N0.e, N0.t, (q2 : Nat), (q4 : Nat), true, N0.pi, N0.pn, N0.g, (q5 : Nat), (q6 : Nat)⟩ (.int .u32 (q6 : Nat)) rfl x15 rfl rfl rfl u32_one (by decide) ?_; rintro w16 g16; have x16 := g16.bx; have z16 := g16.other z15 (by omega); have r16 := r15.other g16.but x15 (by decide) (by decide); have b16 := b15.wrote g16.but (by omega); clear g16 x15 z15 r15 b15)
    | (refine at_load rfl _ rfl w3.heap.size rfl ⟨N0.k, N0.rd, N0.e, N0.t, (q2 : Nat), (q4 : Nat), true, N0.pi, N0.pn, N0.g, (q5 : Nat), (q6 : Nat)⟩ x16 ?_)
    | (refine at_store rfl _ _ rfl rfl (w.heap.size + 1) rfl NL.zero ⟨N0.k, N0.rd, N0.e, N0.t, (q2 : Nat), (q4 : Nat), true, N0.pi, N0.pn, N0.g, (q5 : Nat), (q6 : Nat)⟩ rfl z16 ?_; rintro w17 g17; have z17 := g17.bx; have r17 := r16.other g17.but z16 (by decide) (by decide); have b17 := b16.wrote g17.but (by omega); clear g17))
  have hd : ⟨N0.k, N0.rd, N0.e, N0.t, (q2 : Nat), (q4 : Nat), true, N0.pi, N0.pn, N0.g, (q5 : Nat), (q6 : Nat)⟩ = D := by
    rw [HD.out]
    have e1 := He1.out
    have hN0 := HhN0.out
    have hq1 := Hhq1.out
    have e2 := He2.out
    have hq2 := Hhq2.out
    have e3 := He3.out
    have hq3 := Hhq3.out
    have e4 := He4.out
    have hq4 := Hhq4.out
    have e5 := He5.out
    have hq5 := Hhq5.out
    have e6 := He6.out
    have hq6 := Hhq6.out
    have e7 := He7.out
    subst e7 hq6 e6 hq5 e5 hq4 e4 hq3 e3 hq2 e2 hq1 hN0 e1
    rfl
  rw [← hd]
  exact bodyPost_ret (results_cell_row (by rfl) _ _ (w.heap.size + 1) _ _ _ _ rfl z17 Try.underlying36 rfl (NL.size _)) rfl ⟨rfl, ⟨_, r17⟩, b17⟩
set_option maxHeartbeats 2000000 in
theorem mac_readF (w : World) (b : Nat) (R : RS) (h : Rdr w b R) (A : macC R = false) : Calls Try.prog 120 #[.agg #[], .pointer (some ⟨b, 0, none⟩)] w fun e w' => e = .returned (decMacF R).v ∧ (∃ R2, Rdr w' b R2) ∧ But w.heap.size b w w' := by
  obtain ⟨D, hD⟩ : ∃ D, D = decMacF R := ⟨_, rfl⟩
  rw [← hD]
  have HD := Lib.hid hD
  clear hD
  unfold NL.v
  have hlt := h.lt
  go_enter Try.func120, Try.ntmps120
  go_wp2_with (first
    | (refine at_box0 rfl 94 _ rfl rfl ?_; rintro w1 k1 s1; have r1 := h.below k1; have b1 : But w.heap.size b w w1 := But.of_below k1)
    | (refine at_new rfl rfl ?_; rintro w2 ⟨z2, k2, s2⟩; rw [s1] at z2 s2; have r2 := r1.below k2; have b2 := b1.nextB k2; clear k1 k2 r1 b1))
  go_at_call 105
  refine (readStart_is w2 b R r2 2).mono ?_
  rintro e w3 ⟨rfl, r3, k3⟩
  have z3 := z2.but r2 k3
  have b3 := b2.then k3
  obtain ⟨R1, e1⟩ : ∃ R1, R1 = stR R := ⟨_, rfl⟩
  rw [← e1] at r3
  obtain ⟨N0, hN0⟩ : ∃ N0, N0 = decStart R 2 := ⟨_, rfl⟩
  rw [← hN0]
  have He1 := Lib.hid e1
  have HhN0 := Lib.hid hN0
  clear e1 hN0
  unfold NL.v
  have hz := z3.lt
  have hA5 : w.heap.size ≤ w3.heap.size := b3.size
  clear k3 z2 r2 b2
  go_wp2_with (first
    | (refine at_new rfl rfl ?_; rintro w4 ⟨x4, k4, s4⟩; have z4 := z3.below k4 z3.lt; have r4 := r3.below k4; have b4 := b3.nextB k4; clear k4 z3 r3 b3 s4; go_simp)
    | (refine at_store rfl _ _ rfl rfl w3.heap.size rfl NL.zero N0 rfl x4 ?_; rintro w5 g5; have x5 := g5.bx; have z5 := g5.other z4 (by omega); have r5 := r4.other g5.but x4 (by decide) (by decide); have b5 := b4.wrote g5.but hA5; clear g5 x4 z4 r4 b4))
  go_at_call 59
  refine (rd_U8 w5 b R1 r5).mono ?_
  rintro e w6 ⟨rfl, r6, k6⟩
  have x6 := x5.but r5 k6
  have z6 := z5.but r5 k6
  have b6 := b5.then k6
  obtain ⟨q1, hq1⟩ : ∃ q, q = be (R1.part 1) := ⟨_, rfl⟩
  have l1 : (q1 : Int) < 256 := by rw [hq1]; exact part_lt r5.2.1 1
  rw [← hq1]
  obtain ⟨R2, e2⟩ : ∃ R2, R2 = R1.next 1 := ⟨_, rfl⟩
  rw [← e2] at r6
  have Hhq1 := Lib.hid hq1
  have He2 := Lib.hid e2
  clear k6 x5 z5 r5 b5 hq1 e2
  go_wp2_with fail
  go_at_call 122
  refine (rd_U48 w6 b R2 r6).mono ?_
  rintro e w7 ⟨rfl, r7, k7⟩
  have x7 := x6.but r6 k7
  have z7 := z6.but r6 k7
  have b7 := b6.then k7
  obtain ⟨q2, hq2⟩ : ∃ q, q = be (R2.part 6) := ⟨_, rfl⟩
  have l2 : (q2 : Int) < 281474976710656 := by rw [hq2]; exact part_lt r6.2.1 6
  rw [← hq2]
  obtain ⟨R3, e3⟩ : ∃ R3, R3 = R2.next 6 := ⟨_, rfl⟩
  rw [← e3] at r7
  have Hhq2 := Lib.hid hq2
  have He3 := Lib.hid e3
  clear k7 x6 z6 r6 b6 hq2 e3
  go_wp2_with (first
    | (refine at_set rfl 28 _ _ rfl rfl w3.heap.size 13 rfl _ ⟨N0.k, N0.rd, N0.e, N0.t, (q2 : Nat), N0.ip, N0.h, N0.pi, N0.pn, N0.g, N0.l, N0.l2⟩ (.int .u64 (q2 : Nat)) rfl x7 rfl rfl rfl mac_one (by decide) ?_; rintro w8 g8; have x8 := g8.bx; have z8 := g8.other z7 (by omega); have r8 := r7.other g8.but x7 (by decide) (by decide); have b8 := b7.wrote g8.but (by omega); clear g8 x7 z7 r7 b7))
  go_at_call 59
  refine (rd_U8 w8 b R3 r8).mono ?_
  rintro e w9 ⟨rfl, r9, k9⟩
  have x9 := x8.but r8 k9
  have z9 := z8.but r8 k9
  have b9 := b8.then k9
  obtain ⟨q3, hq3⟩ : ∃ q, q = be (R3.part 1) := ⟨_, rfl⟩
  have l3 : (q3 : Int) < 256 := by rw [hq3]; exact part_lt r8.2.1 1
  rw [← hq3]
  obtain ⟨R4, e4⟩ : ∃ R4, R4 = R3.next 1 := ⟨_, rfl⟩
  rw [← e4] at r9
  have Hhq3 := Lib.hid hq3
  have He4 := Lib.hid e4
  clear k9 x8 z8 r8 b8 hq3 e4
  have hc : (((q3 : Nat) : Int) != 0) = false := by
    have h0 : (q3 != 0) = false := by rw [Hhq3.out, He3.out, He2.out, He1.out]; exact A
    rw [← h0, Bool.eq_iff_iff]
    simp
  go_wp2_with fail
  go_at_call 106
  refine (rd_U24 w9 b R4 r9).mono ?_
  rintro e w10 ⟨rfl, r10, k10⟩
  have x10 := x9.but r9 k10
  have z10 := z9.but r9 k10
  have b10 := b9.then k10
  obtain ⟨q4, hq4⟩ : ∃ q, q = be (R4.part 3) := ⟨_, rfl⟩
  have l4 : (q4 : Int) < 16777216 := by rw [hq4]; exact part_lt r9.2.1 3
  rw [← hq4]
  obtain ⟨R5, e5⟩ : ∃ R5, R5 = R4.next 3 := ⟨_, rfl⟩
  rw [← e5] at r10
  have Hhq4 := Lib.hid hq4
  have He5 := Lib.hid e5
  clear k10 x9 z9 r9 b9 hq4 e5
  go_wp2_with (first
    | (refine at_set rfl 29 _ _ rfl rfl w3.heap.size 19 rfl _ ⟨N0.k, N0.rd, N0.e, N0.t, (q2 : Nat), N0.ip, N0.h, N0.pi, N0.pn, N0.g, (q4 : Nat), N0.l2⟩ (.int .u32 (q4 : Nat)) rfl x10 rfl rfl rfl u32_one (by decide) ?_; rintro w11 g11; have x11 := g11.bx; have z11 := g11.other z10 (by omega); have r11 := r10.other g11.but x10 (by decide) (by decide); have b11 := b10.wrote g11.but (by omega); clear g11 x10 z10 r10 b10))
  go_at_call 106
  refine (rd_U24 w11 b R5 r11).mono ?_
  rintro e w12 ⟨rfl, r12, k12⟩
  have x12 := x11.but r11 k12
  have z12 := z11.but r11 k12
  have b12 := b11.then k12
  obtain ⟨q5, hq5⟩ : ∃ q, q = be (R5.part 3) := ⟨_, rfl⟩
  have l5 : (q5 : Int) < 16777216 := by rw [hq5]; exact part_lt r11.2.1 3
  rw [← hq5]
  obtain ⟨R6, e6⟩ : ∃ R6, R6 = R5.next 3 := ⟨_, rfl⟩
  rw [← e6] at r12
  have Hhq5 := Lib.hid hq5
  have He6 := Lib.hid e6
  clear k12 x11 z11 r11 b11 hq5 e6
  go_wp2_with (first
    | (refine at_set rfl 29 _ _ rfl rfl w3.heap.size 20 rfl _ ⟨N0.k, N0.rd, N0.e, N0.t, (q2 : Nat), N0.ip, N0.h, N0.pi, N0.pn, N0.g, (q4 : Nat), (q5 : Nat)⟩ (.int .u32 (q5 : Nat)) rfl x12 rfl rfl rfl u32_one (by decide) ?_; rintro w13 g13; have x13 := g13.bx; have z13 := g13.other z12 (by omega); have r13 := r12.other g13.but x12 (by decide) (by decide); have b13 := b12.wrote g13.but (by omega); clear g13 x12 z12 r12 b12)
    | (refine at_load rfl _ rfl w3.heap.size rfl ⟨N0.k, N0.rd, N0.e, N0.t, (q2 : Nat), N0.ip, N0.h, N0.pi, N0.pn, N0.g, (q4 : Nat), (q5 : Nat)⟩ x13 ?_)
    | (refine at_store rfl _ _ rfl rfl (w.heap.size + 1) rfl NL.zero ⟨N0.k, N0.rd, N0.e, N0.t, (q2 : Nat), N0.ip, N0.h, N0.pi, N0.pn, N0.g, (q4 : Nat), (q5 : Nat)⟩ rfl z13 ?_; rintro w14 g14; have z14 := g14.bx; have r14 := r13.other g14.but z13 (by decide) (by decide); have b14 := b13.wrote g14.but (by omega); clear g14))
  have hd : ⟨N0.k, N0.rd, N0.e, N0.t, (q2 : Nat), N0.ip, N0.h, N0.pi, N0.pn, N0.g, (q4 : Nat), (q5 : Nat)⟩ = D := by
    rw [HD.out]
    have e1 := He1.out
    have hN0 := HhN0.out
    have hq1 := Hhq1.out
    have e2 := He2.out
    have hq2 := Hhq2.out
    have e3 := He3.out
    have hq3 := Hhq3.out
    have e4 := He4.out
    have hq4 := Hhq4.out
    have e5 := He5.out
    have hq5 := Hhq5.out
    have e6 := He6.out
    subst e6 hq5 e5 hq4 e4 hq3 e3 hq2 e2 hq1 hN0 e1
    rfl
  rw [← hd]
  exact bodyPost_ret (results_cell_row (by rfl) _ _ (w.heap.size + 1) _ _ _ _ rfl z14 Try.underlying36 rfl (NL.size _)) rfl ⟨rfl, ⟨_, r14⟩, b14⟩
end Go.Proofs.Ytejcclcckgdbgaa
