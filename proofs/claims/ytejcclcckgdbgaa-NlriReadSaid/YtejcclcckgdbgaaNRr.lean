/- What each layout reads. No condition. -/
import Derived.Test.YtejcclcckgdbgaaNRe
import Derived.Test.YtejcclcckgdbgaaNW2
namespace Go.Proofs.Ytejcclcckgdbgaa
open Go.RowKit Go.Sort
set_option linter.unusedVariables false
set_option linter.unusedSimpArgs false
set_option maxRecDepth 100000

theorem u64_one : (Try.prog.info? 27).map (·.size) = some 1 := by kernel_rfl
theorem But.next {B b : Nat} {x w w' : World} (h : But B b x w) (k : Below w.heap.size w w') (hs : B ≤ w.heap.size) : But B b x w' := h.trans ((But.of_below k).mono hs)
theorem But.wroteB {B b c : Nat} {x w w' : World} (h : But B b x w) (k : But w.heap.size c w w') (hc : B ≤ c) (hs : B ≤ w.heap.size) : But B b x w' :=
  h.trans ⟨k.os, k.tape, k.output, k.size, fun i hi hn => k.block i (Nat.lt_of_lt_of_le hi hs) (by omega)⟩
theorem part_lt {R : RS} (h : Oct R.xs) (k : Nat) : ((be (R.part k) : Nat) : Int) < 256 ^ k := by
  have h1 : Oct (R.part k) ∧ (R.part k).length ≤ k := by
    unfold RS.part
    split
    · refine ⟨(h.drop _).take _, ?_⟩
      rw [List.length_take]
      omega
    · exact ⟨fun x hx => (by cases hx), Nat.zero_le _⟩
  have h2 := be_lt _ h1.1
  have h3 : 256 ^ (R.part k).length ≤ 256 ^ k := Nat.pow_le_pow_right (by decide) h1.2
  have h4 : be (R.part k) < 256 ^ k := Nat.lt_of_lt_of_le h2 h3
  exact_mod_cast h4
def stR (R : RS) : RS := ((R.next 8).next 10).next 4
def decStart (R : RS) (k : Int) : NL := ⟨k, be (R.part 8), fun j => ((R.next 8).part 10).getD j 0, be (((R.next 8).next 10).part 4), 0, 0, false, 0, 0, 0, 0, 0⟩
def decAuto (R : RS) : NL := { decStart R 1 with l := be ((stR R).part 3) }
def decFlood (R : RS) : NL := ⟨3, be (R.part 8), fun _ => 0, be ((R.next 8).part 4), 0, be ((((R.next 8).next 4).next 1).part 4), true, 0, 0, 0, 0, 0⟩
def decSegment (R : RS) : NL := ⟨4, be (R.part 8), fun j => ((R.next 8).part 10).getD j 0, 0, 0, be ((((R.next 8).next 10).next 1).part 4), true, 0, 0, 0, 0, 0⟩
def decPrefix (R : RS) : NL := { decStart R 5 with pn := be ((stR R).part 1), pi := be (((stR R).next 1).part 4), g := be ((((stR R).next 1).next 4).part 4), l := be (((((stR R).next 1).next 4).next 4).part 3) }
/-- Whether an address follows. -/
def macC (R : RS) : Bool := be ((((stR R).next 1).next 6).part 1) != 0
def macR (R : RS) : RS := (((stR R).next 1).next 6).next 1
def decMacT (R : RS) : NL := { decStart R 2 with m := be (((stR R).next 1).part 6), h := true, ip := be ((macR R).part 4), l := be (((macR R).next 4).part 3), l2 := be ((((macR R).next 4).next 3).part 3) }
def decMacF (R : RS) : NL := { decStart R 2 with m := be (((stR R).next 1).part 6), l := be ((macR R).part 3), l2 := be (((macR R).next 3).part 3) }
theorem But.nextB {b : Nat} {x w w' : World} (h : But x.heap.size b x w) (k : Below w.heap.size w w') : But x.heap.size b x w' := h.next k h.size
theorem But.wrote {b c : Nat} {x w w' : World} (h : But x.heap.size b x w) (k : But w.heap.size c w w') (hc : x.heap.size ≤ c) : But x.heap.size b x w' := h.wroteB k hc h.size
set_option maxHeartbeats 2000000 in
theorem readStart_is (w : World) (b : Nat) (R : RS) (h : Rdr w b R) (k : Int) : Calls Try.prog 105 #[.pointer (some ⟨b, 0, none⟩), .int .i64 k] w fun e w' => e = .returned (decStart R k).v ∧ Rdr w' b (stR R) ∧ But w.heap.size b w w' := by
  obtain ⟨D, hD⟩ : ∃ D, D = decStart R k := ⟨_, rfl⟩
  rw [← hD]
  have HD := Lib.hid hD
  clear hD
  unfold NL.v
  have hlt := h.lt
  go_enter Try.func105, Try.ntmps105
  go_wp2_with (first
    | (refine at_new rfl rfl ?_; rintro w2 ⟨z2, k2, s2⟩; have r2 := h.below k2; have b2 : But w.heap.size b w w2 := But.of_below k2; clear k2)
    | (refine at_build rfl _ rfl ⟨k, 0, fun _ => 0, 0, 0, 0, false, 0, 0, 0, 0, 0⟩ (by kernel_rfl) ?_)
    | (refine at_new rfl rfl ?_; rintro w3 ⟨x3, k3, s3⟩; rw [s2] at x3; have z3 := z2.below k3 z2.lt; have r3 := r2.below k3; have b3 := b2.nextB k3; clear k3 z2 r2 b2; go_simp)
    | (refine at_store rfl _ _ rfl rfl (w.heap.size + 1) rfl NL.zero ⟨k, 0, fun _ => 0, 0, 0, 0, false, 0, 0, 0, 0, 0⟩ rfl x3 ?_; rintro w4 g4; have x4 := g4.bx; have z4 := g4.other z3 (by omega); have r4 := r3.other g4.but x3 (by decide) (by decide); have b4 := b3.wrote g4.but (by omega); clear g4 x3 z3 r3 b3))
  go_at_call 109
  refine (rd_U64 w4 b R r4).mono ?_
  rintro e w5 ⟨rfl, r5, k5⟩
  have x5 := x4.but r4 k5
  have z5 := z4.but r4 k5
  have b5 := b4.then k5
  obtain ⟨q1, hq1⟩ : ∃ q, q = be (R.part 8) := ⟨_, rfl⟩
  have l1 : (q1 : Int) < 18446744073709551616 := by rw [hq1]; exact part_lt r4.2.1 8
  rw [← hq1]
  obtain ⟨R1, e1⟩ : ∃ R1, R1 = R.next 8 := ⟨_, rfl⟩
  rw [← e1] at r5
  have Hhq1 := Lib.hid hq1
  have He1 := Lib.hid e1
  clear k5 x4 z4 r4 b4 hq1 e1
  go_wp2_with (first
    | (refine at_set rfl 27 _ _ rfl rfl (w.heap.size + 1) 1 rfl _ ⟨k, (q1 : Nat), fun _ => 0, 0, 0, 0, false, 0, 0, 0, 0, 0⟩ (.int .u64 (q1 : Nat)) rfl x5 rfl rfl rfl u64_one (by decide) ?_; rintro w6 g6; have x6 := g6.bx; have z6 := g6.other z5 (by omega); have r6 := r5.other g6.but x5 (by decide) (by decide); have b6 := b5.wrote g6.but (by omega); clear g6 x5 z5 r5 b5))
  go_at_call 110
  refine (readESI_is w6 b R1 r6).mono ?_
  rintro e w7 ⟨rfl, r7, k7⟩
  have x7 := x6.but r6 k7
  have z7 := z6.but r6 k7
  have b7 := b6.then k7
  obtain ⟨ee, he⟩ : ∃ ee : Nat → Int, ee = fun j => (R1.part 10).getD j 0 := ⟨_, rfl⟩
  rw [← he]
  obtain ⟨R2, e2⟩ : ∃ R2, R2 = R1.next 10 := ⟨_, rfl⟩
  rw [← e2] at r7
  have Hhe := Lib.hid he
  have He2 := Lib.hid e2
  clear k7 x6 z6 r6 b6 he e2
  go_wp2_with (first
    | (refine at_setEsi rfl _ _ rfl rfl (w.heap.size + 1) rfl ⟨k, (q1 : Nat), fun _ => 0, 0, 0, 0, false, 0, 0, 0, 0, 0⟩ ee rfl x7 ?_; rintro w8 g8; have x8 := g8.bx; have z8 := g8.other z7 (by omega); have r8 := r7.other g8.but x7 (by decide) (by decide); have b8 := b7.wrote g8.but (by omega); clear g8 x7 z7 r7 b7))
  go_at_call 111
  refine (rd_U32 w8 b R2 r8).mono ?_
  rintro e w9 ⟨rfl, r9, k9⟩
  have x9 := x8.but r8 k9
  have z9 := z8.but r8 k9
  have b9 := b8.then k9
  obtain ⟨q2, hq2⟩ : ∃ q, q = be (R2.part 4) := ⟨_, rfl⟩
  have l2 : (q2 : Int) < 4294967296 := by rw [hq2]; exact part_lt r8.2.1 4
  rw [← hq2]
  obtain ⟨R3, e3⟩ : ∃ R3, R3 = R2.next 4 := ⟨_, rfl⟩
  rw [← e3] at r9
  have Hhq2 := Lib.hid hq2
  have He3 := Lib.hid e3
  clear k9 x8 z8 r8 b8 hq2 e3
  go_wp2_with (first
    | (refine at_set rfl 29 _ _ rfl rfl (w.heap.size + 1) 12 rfl _ ⟨k, (q1 : Nat), ee, (q2 : Nat), 0, 0, false, 0, 0, 0, 0, 0⟩ (.int .u32 (q2 : Nat)) rfl x9 rfl rfl rfl u32_one (by decide) ?_; rintro w10 g10; have x10 := g10.bx; have z10 := g10.other z9 (by omega); have r10 := r9.other g10.but x9 (by decide) (by decide); have b10 := b9.wrote g10.but (by omega); clear g10 x9 z9 r9 b9)
    | (refine at_load rfl _ rfl (w.heap.size + 1) rfl ⟨k, (q1 : Nat), ee, (q2 : Nat), 0, 0, false, 0, 0, 0, 0, 0⟩ x10 ?_)
    | (refine at_store rfl _ _ rfl rfl w.heap.size rfl NL.zero ⟨k, (q1 : Nat), ee, (q2 : Nat), 0, 0, false, 0, 0, 0, 0, 0⟩ rfl z10 ?_; rintro w11 g11; have z11 := g11.bx; have r11 := r10.other g11.but z10 (by decide) (by decide); have b11 := b10.wrote g11.but (by omega); clear g11))
  have hd : ⟨k, (q1 : Nat), ee, (q2 : Nat), 0, 0, false, 0, 0, 0, 0, 0⟩ = D := by
    rw [HD.out]
    have hq1 := Hhq1.out
    have e1 := He1.out
    have he := Hhe.out
    have e2 := He2.out
    have hq2 := Hhq2.out
    have e3 := He3.out
    subst e3 hq2 e2 he e1 hq1
    rfl
  rw [← hd]
  exact bodyPost_ret (results_cell_row (by rfl) _ _ w.heap.size _ _ _ _ rfl z11 Try.underlying36 rfl (NL.size _)) rfl ⟨rfl, (by unfold stR; rw [← He1.out, ← He2.out, ← He3.out]; exact r11), b11⟩
end Go.Proofs.Ytejcclcckgdbgaa
