/- What the layouts read. No condition. -/
import Derived.Test.YthechpbihfmkoaaNRr
namespace Go.Proofs.Ythechpbihfmkoaa
open Go.RowKit Go.Sort
set_option linter.unusedVariables false
set_option linter.unusedSimpArgs false
set_option maxRecDepth 100000
set_option maxHeartbeats 2000000 in
theorem flood_read (w : World) (b : Nat) (R : RS) (h : Rdr w b R) : Calls Try.prog 127 #[.agg #[], .pointer (some ⟨b, 0, none⟩)] w fun e w' => e = .returned (decFlood R).v ∧ (∃ R2, Rdr w' b R2) ∧ But w.heap.size b w w' := by
  obtain ⟨D, hD⟩ : ∃ D, D = decFlood R := ⟨_, rfl⟩
  rw [← hD]
  have HD := Lib.hid hD
  clear hD
  unfold NL.v
  have hlt := h.lt
  go_enter Try.func127, Try.ntmps127
  go_wp2_with (first
    | (refine at_box0 rfl 95 _ rfl rfl ?_; rintro w1 k1 s1; have r1 := h.below k1; have b1 : But w.heap.size b w w1 := But.of_below k1)
    | (refine at_new rfl rfl ?_; rintro w2 ⟨z2, k2, s2⟩; rw [s1] at z2 s2; have r2 := r1.below k2; have b2 := b1.nextB k2; clear k1 k2 r1 b1)
    | (refine at_build rfl _ rfl ⟨3, 0, fun _ => 0, 0, 0, 0, true, 0, 0, 0, 0, 0⟩ (by kernel_rfl) ?_)
    | (refine at_new rfl rfl ?_; rintro w3 ⟨x3, k3, s3⟩; rw [s2] at x3; have z3 := z2.below k3 z2.lt; have r3 := r2.below k3; have b3 := b2.nextB k3; clear k3 z2 r2 b2; go_simp)
    | (refine at_store rfl _ _ rfl rfl (w.heap.size + 1 + 1) rfl NL.zero ⟨3, 0, fun _ => 0, 0, 0, 0, true, 0, 0, 0, 0, 0⟩ rfl x3 ?_; rintro w4 g4; have x4 := g4.bx; have z4 := g4.other z3 (by omega); have r4 := r3.other g4.but x3 (by decide) (by decide); have b4 := b3.wrote g4.but (by omega); clear g4 x3 z3 r3 b3))
  go_at_call 109
  refine (rd_U64 w4 b R r4).mono ?_
  rintro e w5 ⟨rfl, r5, k5⟩
  have x5 := x4.but r4 k5
  have z5 := z4.but r4 k5
  have b5 := b4.then k5
  obtain ⟨q1, hq1⟩ : ∃ q, q = be (R.part 8) := ⟨_, rfl⟩
  have l1 : (q1 : Int) < 18446744073709551616 := by rw [hq1]; exact part_lt r4.2.1 8
  rw [← hq1]
  obtain ⟨R1, e1⟩ : ∃ R1, R1 = R.next 8 := ⟨_, rfl⟩
  rw [← e1] at r5
  have Hhq1 := Lib.hid hq1
  have He1 := Lib.hid e1
  clear k5 x4 z4 r4 b4 hq1 e1
  go_wp2_with (first
    | (refine at_set rfl 27 _ _ rfl rfl (w.heap.size + 1 + 1) 1 rfl _ ⟨3, (q1 : Nat), fun _ => 0, 0, 0, 0, true, 0, 0, 0, 0, 0⟩ (.int .u64 (q1 : Nat)) rfl x5 rfl rfl rfl u64_one (by decide) ?_; rintro w6 g6; have x6 := g6.bx; have z6 := g6.other z5 (by omega); have r6 := r5.other g6.but x5 (by decide) (by decide); have b6 := b5.wrote g6.but (by omega); clear g6 x5 z5 r5 b5))
  go_at_call 111
  refine (rd_U32 w6 b R1 r6).mono ?_
  rintro e w7 ⟨rfl, r7, k7⟩
  have x7 := x6.but r6 k7
  have z7 := z6.but r6 k7
  have b7 := b6.then k7
  obtain ⟨q2, hq2⟩ : ∃ q, q = be (R1.part 4) := ⟨_, rfl⟩
  have l2 : (q2 : Int) < 4294967296 := by rw [hq2]; exact part_lt r6.2.1 4
  rw [← hq2]
  obtain ⟨R2, e2⟩ : ∃ R2, R2 = R1.next 4 := ⟨_, rfl⟩
  rw [← e2] at r7
  have Hhq2 := Lib.hid hq2
  have He2 := Lib.hid e2
  clear k7 x6 z6 r6 b6 hq2 e2
  go_wp2_with (first
    | (refine at_set rfl 29 _ _ rfl rfl (w.heap.size + 1 + 1) 12 rfl _ ⟨3, (q1 : Nat), fun _ => 0, (q2 : Nat), 0, 0, true, 0, 0, 0, 0, 0⟩ (.int .u32 (q2 : Nat)) rfl x7 rfl rfl rfl u32_one (by decide) ?_; rintro w8 g8; have x8 := g8.bx; have z8 := g8.other z7 (by omega); have r8 := r7.other g8.but x7 (by decide) (by decide); have b8 := b7.wrote g8.but (by omega); clear g8 x7 z7 r7 b7))
  go_at_call 59
  refine (rd_U8 w8 b R2 r8).mono ?_
  rintro e w9 ⟨rfl, r9, k9⟩
  have x9 := x8.but r8 k9
  have z9 := z8.but r8 k9
  have b9 := b8.then k9
  obtain ⟨q3, hq3⟩ : ∃ q, q = be (R2.part 1) := ⟨_, rfl⟩
  have l3 : (q3 : Int) < 256 := by rw [hq3]; exact part_lt r8.2.1 1
  rw [← hq3]
  obtain ⟨R3, e3⟩ : ∃ R3, R3 = R2.next 1 := ⟨_, rfl⟩
  rw [← e3] at r9
  have Hhq3 := Lib.hid hq3
  have He3 := Lib.hid e3
  clear k9 x8 z8 r8 b8 hq3 e3
  go_wp2_with fail
  go_at_call 111
  refine (rd_U32 w9 b R3 r9).mono ?_
  rintro e w10 ⟨rfl, r10, k10⟩
  have x10 := x9.but r9 k10
  have z10 := z9.but r9 k10
  have b10 := b9.then k10
  obtain ⟨q4, hq4⟩ : ∃ q, q = be (R3.part 4) := ⟨_, rfl⟩
  have l4 : (q4 : Int) < 4294967296 := by rw [hq4]; exact part_lt r9.2.1 4
  rw [← hq4]
  obtain ⟨R4, e4⟩ : ∃ R4, R4 = R3.next 4 := ⟨_, rfl⟩
  rw [← e4] at r10
  have Hhq4 := Lib.hid hq4
  have He4 := Lib.hid e4
  clear k10 x9 z9 r9 b9 hq4 e4
  go_wp2_with (first
    | (refine at_set rfl 32 _ _ rfl rfl (w.heap.size + 1 + 1) 14 rfl _ ⟨3, (q1 : Nat), fun _ => 0, (q2 : Nat), 0, (q4 : Nat), true, 0, 0, 0, 0, 0⟩ (.int .u32 (q4 : Nat)) rfl x10 rfl rfl rfl ip_one (by decide) ?_; rintro w11 g11; have x11 := g11.bx; have z11 := g11.other z10 (by omega); have r11 := r10.other g11.but x10 (by decide) (by decide); have b11 := b10.wrote g11.but (by omega); clear g11 x10 z10 r10 b10)
    | (refine at_load rfl _ rfl (w.heap.size + 1 + 1) rfl ⟨3, (q1 : Nat), fun _ => 0, (q2 : Nat), 0, (q4 : Nat), true, 0, 0, 0, 0, 0⟩ x11 ?_)
    | (refine at_store rfl _ _ rfl rfl (w.heap.size + 1) rfl NL.zero ⟨3, (q1 : Nat), fun _ => 0, (q2 : Nat), 0, (q4 : Nat), true, 0, 0, 0, 0, 0⟩ rfl z11 ?_; rintro w12 g12; have z12 := g12.bx; have r12 := r11.other g12.but z11 (by decide) (by decide); have b12 := b11.wrote g12.but (by omega); clear g12))
  have hd : ⟨3, (q1 : Nat), fun _ => 0, (q2 : Nat), 0, (q4 : Nat), true, 0, 0, 0, 0, 0⟩ = D := by
    rw [HD.out]
    have hq1 := Hhq1.out
    have e1 := He1.out
    have hq2 := Hhq2.out
    have e2 := He2.out
    have hq3 := Hhq3.out
    have e3 := He3.out
    have hq4 := Hhq4.out
    have e4 := He4.out
    subst e4 hq4 e3 hq3 e2 hq2 e1 hq1
    rfl
  rw [← hd]
  exact bodyPost_ret (results_cell_row (by rfl) _ _ (w.heap.size + 1) _ _ _ _ rfl z12 Try.underlying36 rfl (NL.size _)) rfl ⟨rfl, ⟨_, r12⟩, b12⟩
set_option maxHeartbeats 2000000 in
theorem segment_read (w : World) (b : Nat) (R : RS) (h : Rdr w b R) : Calls Try.prog 130 #[.agg #[], .pointer (some ⟨b, 0, none⟩)] w fun e w' => e = .returned (decSegment R).v ∧ (∃ R2, Rdr w' b R2) ∧ But w.heap.size b w w' := by
  obtain ⟨D, hD⟩ : ∃ D, D = decSegment R := ⟨_, rfl⟩
  rw [← hD]
  have HD := Lib.hid hD
  clear hD
  unfold NL.v
  have hlt := h.lt
  go_enter Try.func130, Try.ntmps130
  go_wp2_with (first
    | (refine at_box0 rfl 96 _ rfl rfl ?_; rintro w1 k1 s1; have r1 := h.below k1; have b1 : But w.heap.size b w w1 := But.of_below k1)
    | (refine at_new rfl rfl ?_; rintro w2 ⟨z2, k2, s2⟩; rw [s1] at z2 s2; have r2 := r1.below k2; have b2 := b1.nextB k2; clear k1 k2 r1 b1)
    | (refine at_build rfl _ rfl ⟨4, 0, fun _ => 0, 0, 0, 0, true, 0, 0, 0, 0, 0⟩ (by kernel_rfl) ?_)
    | (refine at_new rfl rfl ?_; rintro w3 ⟨x3, k3, s3⟩; rw [s2] at x3; have z3 := z2.below k3 z2.lt; have r3 := r2.below k3; have b3 := b2.nextB k3; clear k3 z2 r2 b2; go_simp)
    | (refine at_store rfl _ _ rfl rfl (w.heap.size + 1 + 1) rfl NL.zero ⟨4, 0, fun _ => 0, 0, 0, 0, true, 0, 0, 0, 0, 0⟩ rfl x3 ?_; rintro w4 g4; have x4 := g4.bx; have z4 := g4.other z3 (by omega); have r4 := r3.other g4.but x3 (by decide) (by decide); have b4 := b3.wrote g4.but (by omega); clear g4 x3 z3 r3 b3))
  go_at_call 109
  refine (rd_U64 w4 b R r4).mono ?_
  rintro e w5 ⟨rfl, r5, k5⟩
  have x5 := x4.but r4 k5
  have z5 := z4.but r4 k5
  have b5 := b4.then k5
  obtain ⟨q1, hq1⟩ : ∃ q, q = be (R.part 8) := ⟨_, rfl⟩
  have l1 : (q1 : Int) < 18446744073709551616 := by rw [hq1]; exact part_lt r4.2.1 8
  rw [← hq1]
  obtain ⟨R1, e1⟩ : ∃ R1, R1 = R.next 8 := ⟨_, rfl⟩
  rw [← e1] at r5
  have Hhq1 := Lib.hid hq1
  have He1 := Lib.hid e1
  clear k5 x4 z4 r4 b4 hq1 e1
  go_wp2_with (first
    | (refine at_set rfl 27 _ _ rfl rfl (w.heap.size + 1 + 1) 1 rfl _ ⟨4, (q1 : Nat), fun _ => 0, 0, 0, 0, true, 0, 0, 0, 0, 0⟩ (.int .u64 (q1 : Nat)) rfl x5 rfl rfl rfl u64_one (by decide) ?_; rintro w6 g6; have x6 := g6.bx; have z6 := g6.other z5 (by omega); have r6 := r5.other g6.but x5 (by decide) (by decide); have b6 := b5.wrote g6.but (by omega); clear g6 x5 z5 r5 b5))
  go_at_call 110
  refine (readESI_is w6 b R1 r6).mono ?_
  rintro e w7 ⟨rfl, r7, k7⟩
  have x7 := x6.but r6 k7
  have z7 := z6.but r6 k7
  have b7 := b6.then k7
  obtain ⟨ee, he⟩ : ∃ ee : Nat → Int, ee = fun j => (R1.part 10).getD j 0 := ⟨_, rfl⟩
  rw [← he]
  obtain ⟨R2, e2⟩ : ∃ R2, R2 = R1.next 10 := ⟨_, rfl⟩
  rw [← e2] at r7
  have Hhe := Lib.hid he
  have He2 := Lib.hid e2
  clear k7 x6 z6 r6 b6 he e2
  go_wp2_with (first
    | (refine at_setEsi rfl _ _ rfl rfl (w.heap.size + 1 + 1) rfl ⟨4, (q1 : Nat), fun _ => 0, 0, 0, 0, true, 0, 0, 0, 0, 0⟩ ee rfl x7 ?_; rintro w8 g8; have x8 := g8.bx; have z8 := g8.other z7 (by omega); have r8 := r7.other g8.but x7 (by decide) (by decide); have b8 := b7.wrote g8.but (by omega); clear g8 x7 z7 r7 b7))
  go_at_call 59
  refine (rd_U8 w8 b R2 r8).mono ?_
  rintro e w9 ⟨rfl, r9, k9⟩
  have x9 := x8.but r8 k9
  have z9 := z8.but r8 k9
  have b9 := b8.then k9
  obtain ⟨q2, hq2⟩ : ∃ q, q = be (R2.part 1) := ⟨_, rfl⟩
  have l2 : (q2 : Int) < 256 := by rw [hq2]; exact part_lt r8.2.1 1
  rw [← hq2]
  obtain ⟨R3, e3⟩ : ∃ R3, R3 = R2.next 1 := ⟨_, rfl⟩
  rw [← e3] at r9
  have Hhq2 := Lib.hid hq2
  have He3 := Lib.hid e3
  clear k9 x8 z8 r8 b8 hq2 e3
  go_wp2_with fail
  go_at_call 111
  refine (rd_U32 w9 b R3 r9).mono ?_
  rintro e w10 ⟨rfl, r10, k10⟩
  have x10 := x9.but r9 k10
  have z10 := z9.but r9 k10
  have b10 := b9.then k10
  obtain ⟨q3, hq3⟩ : ∃ q, q = be (R3.part 4) := ⟨_, rfl⟩
  have l3 : (q3 : Int) < 4294967296 := by rw [hq3]; exact part_lt r9.2.1 4
  rw [← hq3]
  obtain ⟨R4, e4⟩ : ∃ R4, R4 = R3.next 4 := ⟨_, rfl⟩
  rw [← e4] at r10
  have Hhq3 := Lib.hid hq3
  have He4 := Lib.hid e4
  clear k10 x9 z9 r9 b9 hq3 e4
  go_wp2_with (first
    | (refine at_set rfl 32 _ _ rfl rfl (w.heap.size + 1 + 1) 14 rfl _ ⟨4, (q1 : Nat), ee, 0, 0, (q3 : Nat), true, 0, 0, 0, 0, 0⟩ (.int .u32 (q3 : Nat)) rfl x10 rfl rfl rfl ip_one (by decide) ?_; rintro w11 g11; have x11 := g11.bx; have z11 := g11.other z10 (by omega); have r11 := r10.other g11.but x10 (by decide) (by decide); have b11 := b10.wrote g11.but (by omega); clear g11 x10 z10 r10 b10)
    | (refine at_load rfl _ rfl (w.heap.size + 1 + 1) rfl ⟨4, (q1 : Nat), ee, 0, 0, (q3 : Nat), true, 0, 0, 0, 0, 0⟩ x11 ?_)
    | (refine at_store rfl _ _ rfl rfl (w.heap.size + 1) rfl NL.zero ⟨4, (q1 : Nat), ee, 0, 0, (q3 : Nat), true, 0, 0, 0, 0, 0⟩ rfl z11 ?_; rintro w12 g12; have z12 := g12.bx; have r12 := r11.other g12.but z11 (by decide) (by decide); have b12 := b11.wrote g12.but (by omega); clear g12))
  have hd : ⟨4, (q1 : Nat), ee, 0, 0, (q3 : Nat), true, 0, 0, 0, 0, 0⟩ = D := by
    rw [HD.out]
    have hq1 := Hhq1.out
    have e1 := He1.out
    have he := Hhe.out
    have e2 := He2.out
    have hq2 := Hhq2.out
    have e3 := He3.out
    have hq3 := Hhq3.out
    have e4 := He4.out
    subst e4 hq3 e3 hq2 e2 he e1 hq1
    rfl
  rw [← hd]
  exact bodyPost_ret (results_cell_row (by rfl) _ _ (w.heap.size + 1) _ _ _ _ rfl z12 Try.underlying36 rfl (NL.size _)) rfl ⟨rfl, ⟨_, r12⟩, b12⟩
end Go.Proofs.Ythechpbihfmkoaa
