/- What the layouts read. No condition. -/
import Derived.Test.YthechpbihfmkoaaNRr
namespace Go.Proofs.Ythechpbihfmkoaa
open Go.RowKit Go.Sort
set_option linter.unusedVariables false
set_option linter.unusedSimpArgs false
set_option maxRecDepth 100000
set_option maxHeartbeats 2000000 in
theorem auto_read (w : World) (b : Nat) (R : RS) (h : Rdr w b R) : Calls Try.prog 103 #[.agg #[], .pointer (some ⟨b, 0, none⟩)] w fun e w' => e = .returned (decAuto R).v ∧ (∃ R2, Rdr w' b R2) ∧ But w.heap.size b w w' := by
  obtain ⟨D, hD⟩ : ∃ D, D = decAuto R := ⟨_, rfl⟩
  rw [← hD]
  have HD := Lib.hid hD
  clear hD
  unfold NL.v
  have hlt := h.lt
  go_enter Try.func103, Try.ntmps103
  go_wp2_with (first
    | (refine at_box0 rfl 93 _ rfl rfl ?_; rintro w1 k1 s1; have r1 := h.below k1; have b1 : But w.heap.size b w w1 := But.of_below k1)
    | (refine at_new rfl rfl ?_; rintro w2 ⟨z2, k2, s2⟩; rw [s1] at z2 s2; have r2 := r1.below k2; have b2 := b1.nextB k2; clear k1 k2 r1 b1))
  go_at_call 105
  refine (readStart_is w2 b R r2 1).mono ?_
  rintro e w3 ⟨rfl, r3, k3⟩
  have z3 := z2.but r2 k3
  have b3 := b2.then k3
  obtain ⟨R1, e1⟩ : ∃ R1, R1 = stR R := ⟨_, rfl⟩
  rw [← e1] at r3
  obtain ⟨N0, hN0⟩ : ∃ N0, N0 = decStart R 1 := ⟨_, rfl⟩
  rw [← hN0]
  have He1 := Lib.hid e1
  have HhN0 := Lib.hid hN0
  clear e1 hN0
  unfold NL.v
  have hz := z3.lt
  have hA5 : w.heap.size ≤ w3.heap.size := b3.size
  clear k3 z2 r2 b2
  go_wp2_with (first
    | (refine at_new rfl rfl ?_; rintro w4 ⟨x4, k4, s4⟩; have z4 := z3.below k4 z3.lt; have r4 := r3.below k4; have b4 := b3.nextB k4; clear k4 z3 r3 b3 s4; go_simp)
    | (refine at_store rfl _ _ rfl rfl w3.heap.size rfl NL.zero N0 rfl x4 ?_; rintro w5 g5; have x5 := g5.bx; have z5 := g5.other z4 (by omega); have r5 := r4.other g5.but x4 (by decide) (by decide); have b5 := b4.wrote g5.but hA5; clear g5 x4 z4 r4 b4))
  go_at_call 106
  refine (rd_U24 w5 b R1 r5).mono ?_
  rintro e w6 ⟨rfl, r6, k6⟩
  have x6 := x5.but r5 k6
  have z6 := z5.but r5 k6
  have b6 := b5.then k6
  obtain ⟨q1, hq1⟩ : ∃ q, q = be (R1.part 3) := ⟨_, rfl⟩
  have l1 : (q1 : Int) < 16777216 := by rw [hq1]; exact part_lt r5.2.1 3
  rw [← hq1]
  obtain ⟨R2, e2⟩ : ∃ R2, R2 = R1.next 3 := ⟨_, rfl⟩
  rw [← e2] at r6
  have Hhq1 := Lib.hid hq1
  have He2 := Lib.hid e2
  clear k6 x5 z5 r5 b5 hq1 e2
  go_wp2_with (first
    | (refine at_set rfl 29 _ _ rfl rfl w3.heap.size 19 rfl _ ⟨N0.k, N0.rd, N0.e, N0.t, N0.m, N0.ip, N0.h, N0.pi, N0.pn, N0.g, (q1 : Nat), N0.l2⟩ (.int .u32 (q1 : Nat)) rfl x6 rfl rfl rfl u32_one (by decide) ?_; rintro w7 g7; have x7 := g7.bx; have z7 := g7.other z6 (by omega); have r7 := r6.other g7.but x6 (by decide) (by decide); have b7 := b6.wrote g7.but (by omega); clear g7 x6 z6 r6 b6)
    | (refine at_load rfl _ rfl w3.heap.size rfl ⟨N0.k, N0.rd, N0.e, N0.t, N0.m, N0.ip, N0.h, N0.pi, N0.pn, N0.g, (q1 : Nat), N0.l2⟩ x7 ?_)
    | (refine at_store rfl _ _ rfl rfl (w.heap.size + 1) rfl NL.zero ⟨N0.k, N0.rd, N0.e, N0.t, N0.m, N0.ip, N0.h, N0.pi, N0.pn, N0.g, (q1 : Nat), N0.l2⟩ rfl z7 ?_; rintro w8 g8; have z8 := g8.bx; have r8 := r7.other g8.but z7 (by decide) (by decide); have b8 := b7.wrote g8.but (by omega); clear g8))
  have hd : ⟨N0.k, N0.rd, N0.e, N0.t, N0.m, N0.ip, N0.h, N0.pi, N0.pn, N0.g, (q1 : Nat), N0.l2⟩ = D := by
    rw [HD.out]
    have e1 := He1.out
    have hN0 := HhN0.out
    have hq1 := Hhq1.out
    have e2 := He2.out
    subst e2 hq1 hN0 e1
    rfl
  rw [← hd]
  exact bodyPost_ret (results_cell_row (by rfl) _ _ (w.heap.size + 1) _ _ _ _ rfl z8 Try.underlying36 rfl (NL.size _)) rfl ⟨rfl, ⟨_, r8⟩, b8⟩
set_option maxHeartbeats 2000000 in
theorem prefix_read (w : World) (b : Nat) (R : RS) (h : Rdr w b R) : Calls Try.prog 133 #[.agg #[], .pointer (some ⟨b, 0, none⟩)] w fun e w' => e = .returned (decPrefix R).v ∧ (∃ R2, Rdr w' b R2) ∧ But w.heap.size b w w' := by
  obtain ⟨D, hD⟩ : ∃ D, D = decPrefix R := ⟨_, rfl⟩
  rw [← hD]
  have HD := Lib.hid hD
  clear hD
  unfold NL.v
  have hlt := h.lt
  go_enter Try.func133, Try.ntmps133
  go_wp2_with (first
    | (refine at_box0 rfl 97 _ rfl rfl ?_; rintro w1 k1 s1; have r1 := h.below k1; have b1 : But w.heap.size b w w1 := But.of_below k1)
    | (refine at_new rfl rfl ?_; rintro w2 ⟨z2, k2, s2⟩; rw [s1] at z2 s2; have r2 := r1.below k2; have b2 := b1.nextB k2; clear k1 k2 r1 b1))
  go_at_call 105
  refine (readStart_is w2 b R r2 5).mono ?_
  rintro e w3 ⟨rfl, r3, k3⟩
  have z3 := z2.but r2 k3
  have b3 := b2.then k3
  obtain ⟨R1, e1⟩ : ∃ R1, R1 = stR R := ⟨_, rfl⟩
  rw [← e1] at r3
  obtain ⟨N0, hN0⟩ : ∃ N0, N0 = decStart R 5 := ⟨_, rfl⟩
  rw [← hN0]
  have He1 := Lib.hid e1
  have HhN0 := Lib.hid hN0
  clear e1 hN0
  unfold NL.v
  have hz := z3.lt
  have hA5 : w.heap.size ≤ w3.heap.size := b3.size
  clear k3 z2 r2 b2
  go_wp2_with (first
    | (refine at_new rfl rfl ?_; rintro w4 ⟨x4, k4, s4⟩; have z4 := z3.below k4 z3.lt; have r4 := r3.below k4; have b4 := b3.nextB k4; clear k4 z3 r3 b3 s4; go_simp)
    | (refine at_store rfl _ _ rfl rfl w3.heap.size rfl NL.zero N0 rfl x4 ?_; rintro w5 g5; have x5 := g5.bx; have z5 := g5.other z4 (by omega); have r5 := r4.other g5.but x4 (by decide) (by decide); have b5 := b4.wrote g5.but hA5; clear g5 x4 z4 r4 b4))
  go_at_call 59
  refine (rd_U8 w5 b R1 r5).mono ?_
  rintro e w6 ⟨rfl, r6, k6⟩
  have x6 := x5.but r5 k6
  have z6 := z5.but r5 k6
  have b6 := b5.then k6
  obtain ⟨q1, hq1⟩ : ∃ q, q = be (R1.part 1) := ⟨_, rfl⟩
  have l1 : (q1 : Int) < 256 := by rw [hq1]; exact part_lt r5.2.1 1
  rw [← hq1]
  obtain ⟨R2, e2⟩ : ∃ R2, R2 = R1.next 1 := ⟨_, rfl⟩
  rw [← e2] at r6
  have Hhq1 := Lib.hid hq1
  have He2 := Lib.hid e2
  clear k6 x5 z5 r5 b5 hq1 e2
  go_wp2_with (first
    | (refine at_set rfl 3 _ _ rfl rfl w3.heap.size 17 rfl _ ⟨N0.k, N0.rd, N0.e, N0.t, N0.m, N0.ip, N0.h, N0.pi, (q1 : Nat), N0.g, N0.l, N0.l2⟩ (.int .i64 (q1 : Nat)) rfl x6 rfl rfl rfl int_one (by decide) ?_; rintro w7 g7; have x7 := g7.bx; have z7 := g7.other z6 (by omega); have r7 := r6.other g7.but x6 (by decide) (by decide); have b7 := b6.wrote g7.but (by omega); clear g7 x6 z6 r6 b6))
  go_at_call 111
  refine (rd_U32 w7 b R2 r7).mono ?_
  rintro e w8 ⟨rfl, r8, k8⟩
  have x8 := x7.but r7 k8
  have z8 := z7.but r7 k8
  have b8 := b7.then k8
  obtain ⟨q2, hq2⟩ : ∃ q, q = be (R2.part 4) := ⟨_, rfl⟩
  have l2 : (q2 : Int) < 4294967296 := by rw [hq2]; exact part_lt r7.2.1 4
  rw [← hq2]
  obtain ⟨R3, e3⟩ : ∃ R3, R3 = R2.next 4 := ⟨_, rfl⟩
  rw [← e3] at r8
  have Hhq2 := Lib.hid hq2
  have He3 := Lib.hid e3
  clear k8 x7 z7 r7 b7 hq2 e3
  go_wp2_with (first
    | (refine at_set rfl 32 _ _ rfl rfl w3.heap.size 16 rfl _ ⟨N0.k, N0.rd, N0.e, N0.t, N0.m, N0.ip, N0.h, (q2 : Nat), (q1 : Nat), N0.g, N0.l, N0.l2⟩ (.int .u32 (q2 : Nat)) rfl x8 rfl rfl rfl ip_one (by decide) ?_; rintro w9 g9; have x9 := g9.bx; have z9 := g9.other z8 (by omega); have r9 := r8.other g9.but x8 (by decide) (by decide); have b9 := b8.wrote g9.but (by omega); clear g9 x8 z8 r8 b8))
  go_at_call 111
  refine (rd_U32 w9 b R3 r9).mono ?_
  rintro e w10 ⟨rfl, r10, k10⟩
  have x10 := x9.but r9 k10
  have z10 := z9.but r9 k10
  have b10 := b9.then k10
  obtain ⟨q3, hq3⟩ : ∃ q, q = be (R3.part 4) := ⟨_, rfl⟩
  have l3 : (q3 : Int) < 4294967296 := by rw [hq3]; exact part_lt r9.2.1 4
  rw [← hq3]
  obtain ⟨R4, e4⟩ : ∃ R4, R4 = R3.next 4 := ⟨_, rfl⟩
  rw [← e4] at r10
  have Hhq3 := Lib.hid hq3
  have He4 := Lib.hid e4
  clear k10 x9 z9 r9 b9 hq3 e4
  go_wp2_with (first
    | (refine at_set rfl 32 _ _ rfl rfl w3.heap.size 18 rfl _ ⟨N0.k, N0.rd, N0.e, N0.t, N0.m, N0.ip, N0.h, (q2 : Nat), (q1 : Nat), (q3 : Nat), N0.l, N0.l2⟩ (.int .u32 (q3 : Nat)) rfl x10 rfl rfl rfl ip_one (by decide) ?_; rintro w11 g11; have x11 := g11.bx; have z11 := g11.other z10 (by omega); have r11 := r10.other g11.but x10 (by decide) (by decide); have b11 := b10.wrote g11.but (by omega); clear g11 x10 z10 r10 b10))
  go_at_call 106
  refine (rd_U24 w11 b R4 r11).mono ?_
  rintro e w12 ⟨rfl, r12, k12⟩
  have x12 := x11.but r11 k12
  have z12 := z11.but r11 k12
  have b12 := b11.then k12
  obtain ⟨q4, hq4⟩ : ∃ q, q = be (R4.part 3) := ⟨_, rfl⟩
  have l4 : (q4 : Int) < 16777216 := by rw [hq4]; exact part_lt r11.2.1 3
  rw [← hq4]
  obtain ⟨R5, e5⟩ : ∃ R5, R5 = R4.next 3 := ⟨_, rfl⟩
  rw [← e5] at r12
  have Hhq4 := Lib.hid hq4
  have He5 := Lib.hid e5
  clear k12 x11 z11 r11 b11 hq4 e5
  go_wp2_with (first
    | (refine at_set rfl 29 _ _ rfl rfl w3.heap.size 19 rfl _ ⟨N0.k, N0.rd, N0.e, N0.t, N0.m, N0.ip, N0.h, (q2 : Nat), (q1 : Nat), (q3 : Nat), (q4 : Nat), N0.l2⟩ (.int .u32 (q4 : Nat)) rfl x12 rfl rfl rfl u32_one (by decide) ?_; rintro w13 g13; have x13 := g13.bx; have z13 := g13.other z12 (by omega); have r13 := r12.other g13.but x12 (by decide) (by decide); have b13 := b12.wrote g13.but (by omega); clear g13 x12 z12 r12 b12)
    | (refine at_load rfl _ rfl w3.heap.size rfl ⟨N0.k, N0.rd, N0.e, N0.t, N0.m, N0.ip, N0.h, (q2 : Nat), (q1 : Nat), (q3 : Nat), (q4 : Nat), N0.l2⟩ x13 ?_)
    | (refine at_store rfl _ _ rfl rfl (w.heap.size + 1) rfl NL.zero ⟨N0.k, N0.rd, N0.e, N0.t, N0.m, N0.ip, N0.h, (q2 : Nat), (q1 : Nat), (q3 : Nat), (q4 : Nat), N0.l2⟩ rfl z13 ?_; rintro w14 g14; have z14 := g14.bx; have r14 := r13.other g14.but z13 (by decide) (by decide); have b14 := b13.wrote g14.but (by omega); clear g14))
  have hd : ⟨N0.k, N0.rd, N0.e, N0.t, N0.m, N0.ip, N0.h, (q2 : Nat), (q1 : Nat), (q3 : Nat), (q4 : Nat), N0.l2⟩ = D := by
    rw [HD.out]
    have e1 := He1.out
    have hN0 := HhN0.out
    have hq1 := Hhq1.out
    have e2 := He2.out
    have hq2 := Hhq2.out
    have e3 := He3.out
    have hq3 := Hhq3.out
    have e4 := He4.out
    have hq4 := Hhq4.out
    have e5 := He5.out
    subst e5 hq4 e4 hq3 e3 hq2 e2 hq1 hN0 e1
    rfl
  rw [← hd]
  exact bodyPost_ret (results_cell_row (by rfl) _ _ (w.heap.size + 1) _ _ _ _ rfl z14 Try.underlying36 rfl (NL.size _)) rfl ⟨rfl, ⟨_, r14⟩, b14⟩
end Go.Proofs.Ythechpbihfmkoaa
