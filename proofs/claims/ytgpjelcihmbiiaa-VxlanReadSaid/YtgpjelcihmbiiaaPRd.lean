/- Frames read: data, address resolution, IPv4. No condition. -/
import Derived.Test.YtgpjelcihmbiiaaPRk
namespace Go.Proofs.Ytgpjelcihmbiiaa
open Go.RowKit
set_option linter.unusedVariables false
set_option linter.unusedSimpArgs false
set_option maxRecDepth 100000

theorem be_part {R : RS} (h : Oct R.xs) (k : Nat) : be (R.part k) < 256 ^ k := by
  have ho : Oct (R.part k) := by
    unfold RS.part
    split
    · exact (h.drop _).take _
    · exact fun x hx => absurd hx (by simp)
  have hl : (R.part k).length ≤ k := by
    unfold RS.part
    split
    · simp
      omega
    · simp
  exact Nat.lt_of_lt_of_le (be_lt _ ho) (Nat.pow_le_pow_right (by decide) hl)
theorem next_xs (R : RS) (k : Int) : (R.next k).xs = R.xs := by
  unfold RS.next RS.adv RS.fail
  split
  · rfl
  · split <;> rfl
theorem on_xs (R : RS) : R.on.xs = R.xs := by simp only [RS.on, next_xs]
def R0 (xs : List Int) : RS := ⟨0, 0, xs, 0, 0⟩
theorem But.bel {B b : Nat} {w0 w w' : World} (h0 : Below B w0 w) (k : But w.heap.size b w w') (hb : B ≤ b) (hs : B ≤ w.heap.size) : Below B w0 w' := But.below h0 k hb hs
theorem run_sl22 (b : Nat) (w : World) : (Instr.sliceAt 116 (.pointer (some ⟨b, 0, none⟩)) none none none).run Try.prog w = .ok (.slice (some ⟨b, 0, none⟩) 22 22) w := by kernel_rfl
theorem run_sl50 (b : Nat) (w : World) : (Instr.sliceAt 118 (.pointer (some ⟨b, 0, none⟩)) none none none).run Try.prog w = .ok (.slice (some ⟨b, 0, none⟩) 50 50) w := by kernel_rfl
theorem at_sl {ops : Array Oper} {rest : List Oper} {o : Oper} {a : Act} {w : World} {Q : Exit → Act → World → Prop} (hgd : o.guard = none) (ty : TypeId) (n : Nat) (x : Operand) (ho : o.op = .slice ty x none none none) (b : Nat) (hx : a.eval x = .pointer (some ⟨b, 0, none⟩)) (hr : ∀ w, (Instr.sliceAt ty (.pointer (some ⟨b, 0, none⟩)) none none none).run Try.prog w = .ok (.slice (some ⟨b, 0, none⟩) n n) w)
    (h : wpList Try.prog ops Q rest (a.put o.dst (.slice (some ⟨b, 0, none⟩) n n)) w) : wpList Try.prog ops Q (o :: rest) a w :=
  wpList_plain hgd fun _ hK => by
    unfold Oper.wp execOp
    simp only [ho, hx, Option.map_none, Sem.run_bind, hr, Result.andThen_ok, Sem.run_pure]
    exact hK _ _ h
theorem seg_box {w : World} {b n : Nat} {t : TypeId} {xs : List Int} (h : Blk w b t (xs.map (Value.int .u8))) (hn : xs.length = n) : Seg w (.slice (some ⟨b, 0, none⟩) n n) xs := by
  subst hn
  exact ⟨_, _, rfl, Nat.le_refl _, fun i hi => ⟨b, 0, rfl, by
    rw [Nat.zero_add]
    refine h.cell i ?_
    simp [List.getElem?_map, List.getD_eq_getElem?_getD, hi]⟩⟩
/-- The frames that are read. -/
def decD (R : RS) : FL := FL.mk (be ((R.next 6).part 6)) (be (R.part 6)) 0 0 0 0 0 0 0 0 0 0 0 0 (be (R.on.part 8))
def decA (R : RS) : FL := FL.mk (be ((R.next 6).part 6)) (be (R.part 6)) 1 (be ((R.on.next 6).part 2)) (be (((R.on.next 6).next 2).part 6)) (be ((((R.on.next 6).next 2).next 6).part 4)) (be (((((R.on.next 6).next 2).next 6).next 4).part 6)) (be ((((((R.on.next 6).next 2).next 6).next 4).next 6).part 4)) 0 0 0 0 0 0 (be (((((((R.on.next 6).next 2).next 6).next 4).next 6).next 4).part 8))
set_option maxHeartbeats 2000000 in
theorem data_is (xs : List Int) (ho : Oct xs) (hl : xs.length = 22) (w : World) : Calls Try.prog 67 #[.agg (xs.map (Value.int .u8)).toArray] w fun e w' => e = .returned (decD (R0 xs)).v ∧ Below w.heap.size w w' := by
  have hst := fun R rb w h => start_is R 0 rb w h
  unfold start FL.v at hst
  obtain ⟨R, hR⟩ : ∃ R, R0 xs = R := ⟨_, rfl⟩
  have hxs : Oct R.xs := by rw [← hR]; exact ho
  rw [hR]
  have HR := Lib.hid hR
  have HX := Lib.hid hxs
  clear hR hxs
  unfold decD
  go_enter Try.func67, Try.ntmps67
  go_upto_region 1 with (first
    | (refine at_box rfl 116 _ rfl (xs.map (Value.int .u8)) rfl ?_; rintro w1 H1 k1 s1)
    | (refine at_new rfl 36 F0.cs rfl run_newFr ?_; rintro w2 H2 k2 s2; rw [s1] at H2; have G2 := H1.below k2 H1.lt; have b2 := k1.trans (k2.mono k1.size); clear H1 k1 k2; go_simp))
  go_wp2_with (refine at_sl rfl 116 22 _ rfl w.heap.size rfl (run_sl22 w.heap.size) ?_)
  go_at_call 73
  refine (rd_New w2 _ xs (seg_box G2 hl) ho (by omega)).mono ?_
  rintro e w3 ⟨rb, rfl, hrb3, r3, k3⟩
  have hrb : w.heap.size ≤ rb := Nat.le_trans b2.size hrb3
  have b3 := b2.trans (k3.mono b2.size)
  have y3 := H2.below k3 H2.lt
  clear b2 G2 H2 k3
  have r3 : Rdr w3 rb R := by rw [← HR.out]; exact r3
  go_wp2_with fail
  go_at_call 87
  refine (hst R rb w3 r3).mono ?_
  rintro e w4 ⟨rfl, r4, q4⟩
  have y4 := r3.keep q4 y3 (by decide)
  have b4 := But.bel b3 q4 hrb b3.size
  have l4 := y4.lt
  clear r3 y3 b3 q4
  go_wp2_with (first
    | (refine at_new rfl 36 F0.cs rfl run_newFr ?_; rintro w5 H5 k5 s5; have y5 := y4.below k5 l4; have b5 := b4.trans (k5.mono b4.size); have r5 := r4.below k5; have NE : w.heap.size + 1 ≠ w4.heap.size := (by omega); have FBH := b4.size; have SZ := Lib.hid s5; clear k5 s5 r4 b4 y4; go_simp)
    | (refine at_put rfl 36 _ _ rfl rfl w4.heap.size rfl (FL.cs (FL.mk (be ((R.next 6).part 6)) (be (R.part 6)) 0 0 0 0 0 0 0 0 0 0 0 0 0)) rfl H5 rfl szF (cs_one _) ?_; rintro w6 g6; have r6 := r5.but g6.but H5 (by decide) (by decide); have b6 := g6.below b5 FBH; have x6 := g6.blk; have y6 := g6.but.blk y5 y5.lt NE; clear r5 b5 y5 g6 H5))
  go_at_call 74
  refine (rd_U64 w6 rb _ r6).mono ?_
  rintro e w7 ⟨rfl, r7, q7⟩
  have x7 := r6.keep q7 x6 (by decide)
  have y7 := r6.keep q7 y6 (by decide)
  have b7 := But.bel b6 q7 hrb b6.size
  clear r6 q7 x6 b6 y6
  go_wp2_with (first
    | (refine at_set rfl 27 _ _ rfl rfl w4.heap.size 14 rfl 36 (FL.cs (FL.mk (be ((R.next 6).part 6)) (be (R.part 6)) 0 0 0 0 0 0 0 0 0 0 0 0 0)) (FL.cs (FL.mk (be ((R.next 6).part 6)) (be (R.part 6)) 0 0 0 0 0 0 0 0 0 0 0 0 (be (R.on.part 8)))) (.int .u64 (be (R.on.part 8))) rfl x7 rfl rfl rfl u64_one (show 14 < 15 by decide) ?_; rintro w8 g8; have r8 := r7.but g8.but x7 (by decide) (by decide); have b8 := g8.below b7 FBH; have x8 := g8.blk; have y8 := g8.but.blk y7 y7.lt NE; clear r7 b7 x7 g8 y7)
    | (refine at_mid rfl 36 _ rfl w4.heap.size 0 rfl x8 (FL.cs (FL.mk (be ((R.next 6).part 6)) (be (R.part 6)) 0 0 0 0 0 0 0 0 0 0 0 0 (be (R.on.part 8)))) rfl _ Try.underlying36 rfl szF ?_)
    | (refine at_put rfl 36 _ _ rfl rfl (w.heap.size + 1) rfl (FL.cs (FL.mk (be ((R.next 6).part 6)) (be (R.part 6)) 0 0 0 0 0 0 0 0 0 0 0 0 (be (R.on.part 8)))) rfl y8 rfl szF (cs_one _) ?_; rintro w99 g99; have y99 := g99.blk; have b99 := g99.below b8 (Nat.le_succ _); clear r8 b8 g99 x8 y8))
  exact bodyPost_ret (results_cell_row (by rfl) _ _ (w.heap.size + 1) _ _ _ _ rfl y99 Try.underlying36 rfl szF) rfl ⟨rfl, b99⟩
set_option maxHeartbeats 2000000 in
theorem arp_is (xs : List Int) (ho : Oct xs) (hl : xs.length = 50) (w : World) : Calls Try.prog 68 #[.agg (xs.map (Value.int .u8)).toArray] w fun e w' => e = .returned (decA (R0 xs)).v ∧ Below w.heap.size w w' := by
  have hst := fun R rb w h => start_is R 1 rb w h
  unfold start FL.v at hst
  obtain ⟨R, hR⟩ : ∃ R, R0 xs = R := ⟨_, rfl⟩
  have hxs : Oct R.xs := by rw [← hR]; exact ho
  rw [hR]
  have HR := Lib.hid hR
  have HX := Lib.hid hxs
  clear hR hxs
  unfold decA
  go_enter Try.func68, Try.ntmps68
  go_upto_region 1 with (first
    | (refine at_box rfl 118 _ rfl (xs.map (Value.int .u8)) rfl ?_; rintro w1 H1 k1 s1)
    | (refine at_new rfl 36 F0.cs rfl run_newFr ?_; rintro w2 H2 k2 s2; rw [s1] at H2; have G2 := H1.below k2 H1.lt; have b2 := k1.trans (k2.mono k1.size); clear H1 k1 k2; go_simp))
  go_wp2_with (refine at_sl rfl 118 50 _ rfl w.heap.size rfl (run_sl50 w.heap.size) ?_)
  go_at_call 73
  refine (rd_New w2 _ xs (seg_box G2 hl) ho (by omega)).mono ?_
  rintro e w3 ⟨rb, rfl, hrb3, r3, k3⟩
  have hrb : w.heap.size ≤ rb := Nat.le_trans b2.size hrb3
  have b3 := b2.trans (k3.mono b2.size)
  have y3 := H2.below k3 H2.lt
  clear b2 G2 H2 k3
  have r3 : Rdr w3 rb R := by rw [← HR.out]; exact r3
  go_wp2_with fail
  go_at_call 87
  refine (hst R rb w3 r3).mono ?_
  rintro e w4 ⟨rfl, r4, q4⟩
  have y4 := r3.keep q4 y3 (by decide)
  have b4 := But.bel b3 q4 hrb b3.size
  have l4 := y4.lt
  clear r3 y3 b3 q4
  have z1637 : be ((R.on.next 6).part 2) < 256 ^ 2 := be_part (by simp only [next_xs, on_xs]; exact HX.out) 2
  have z1747 : be ((((R.on.next 6).next 2).next 6).part 4) < 256 ^ 4 := be_part (by simp only [next_xs, on_xs]; exact HX.out) 4
  have z1875 : be ((((((R.on.next 6).next 2).next 6).next 4).next 6).part 4) < 256 ^ 4 := be_part (by simp only [next_xs, on_xs]; exact HX.out) 4
  go_wp2_with (first
    | (refine at_new rfl 36 F0.cs rfl run_newFr ?_; rintro w5 H5 k5 s5; have y5 := y4.below k5 l4; have b5 := b4.trans (k5.mono b4.size); have r5 := r4.below k5; have NE : w.heap.size + 1 ≠ w4.heap.size := (by omega); have FBH := b4.size; have SZ := Lib.hid s5; clear k5 s5 r4 b4 y4; go_simp)
    | (refine at_put rfl 36 _ _ rfl rfl w4.heap.size rfl (FL.cs (FL.mk (be ((R.next 6).part 6)) (be (R.part 6)) 1 0 0 0 0 0 0 0 0 0 0 0 0)) rfl H5 rfl szF (cs_one _) ?_; rintro w6 g6; have r6 := r5.but g6.but H5 (by decide) (by decide); have b6 := g6.below b5 FBH; have x6 := g6.blk; have y6 := g6.but.blk y5 y5.lt NE; clear r5 b5 y5 g6 H5))
  go_at_call 79
  refine (rd_U48 w6 rb _ r6).mono ?_
  rintro e w7 ⟨rfl, r7, q7⟩
  have x7 := r6.keep q7 x6 (by decide)
  have y7 := r6.keep q7 y6 (by decide)
  have b7 := But.bel b6 q7 hrb b6.size
  clear r6 q7 x6 b6 y6
  go_wp2_with fail
  go_at_call 78
  refine (rd_U16 w7 rb _ r7).mono ?_
  rintro e w8 ⟨rfl, r8, q8⟩
  have x8 := r7.keep q8 x7 (by decide)
  have y8 := r7.keep q8 y7 (by decide)
  have b8 := But.bel b7 q8 hrb b7.size
  clear r7 q8 x7 b7 y7
  go_wp2_with (refine at_set rfl 3 _ _ rfl rfl w4.heap.size 3 rfl 36 (FL.cs (FL.mk (be ((R.next 6).part 6)) (be (R.part 6)) 1 0 0 0 0 0 0 0 0 0 0 0 0)) (FL.cs (FL.mk (be ((R.next 6).part 6)) (be (R.part 6)) 1 (be ((R.on.next 6).part 2)) 0 0 0 0 0 0 0 0 0 0 0)) (.int .i64 (be ((R.on.next 6).part 2))) rfl x8 rfl rfl rfl int_one (show 3 < 15 by decide) ?_; rintro w9 g9; have r9 := r8.but g9.but x8 (by decide) (by decide); have b9 := g9.below b8 FBH; have x9 := g9.blk; have y9 := g9.but.blk y8 y8.lt NE; clear r8 b8 x8 g9 y8)
  go_wp2_with fail
  go_at_call 79
  refine (rd_U48 w9 rb _ r9).mono ?_
  rintro e w10 ⟨rfl, r10, q10⟩
  have x10 := r9.keep q10 x9 (by decide)
  have y10 := r9.keep q10 y9 (by decide)
  have b10 := But.bel b9 q10 hrb b9.size
  clear r9 q10 x9 b9 y9
  go_wp2_with (refine at_set rfl 28 _ _ rfl rfl w4.heap.size 4 rfl 36 (FL.cs (FL.mk (be ((R.next 6).part 6)) (be (R.part 6)) 1 (be ((R.on.next 6).part 2)) 0 0 0 0 0 0 0 0 0 0 0)) (FL.cs (FL.mk (be ((R.next 6).part 6)) (be (R.part 6)) 1 (be ((R.on.next 6).part 2)) (be (((R.on.next 6).next 2).part 6)) 0 0 0 0 0 0 0 0 0 0)) (.int .u64 (be (((R.on.next 6).next 2).part 6))) rfl x10 rfl rfl rfl mac_one (show 4 < 15 by decide) ?_; rintro w11 g11; have r11 := r10.but g11.but x10 (by decide) (by decide); have b11 := g11.below b10 FBH; have x11 := g11.blk; have y11 := g11.but.blk y10 y10.lt NE; clear r10 b10 x10 g11 y10)
  go_wp2_with fail
  go_at_call 77
  refine (rd_U32 w11 rb _ r11).mono ?_
  rintro e w12 ⟨rfl, r12, q12⟩
  have x12 := r11.keep q12 x11 (by decide)
  have y12 := r11.keep q12 y11 (by decide)
  have b12 := But.bel b11 q12 hrb b11.size
  clear r11 q12 x11 b11 y11
  go_wp2_with (refine at_set rfl 30 _ _ rfl rfl w4.heap.size 5 rfl 36 (FL.cs (FL.mk (be ((R.next 6).part 6)) (be (R.part 6)) 1 (be ((R.on.next 6).part 2)) (be (((R.on.next 6).next 2).part 6)) 0 0 0 0 0 0 0 0 0 0)) (FL.cs (FL.mk (be ((R.next 6).part 6)) (be (R.part 6)) 1 (be ((R.on.next 6).part 2)) (be (((R.on.next 6).next 2).part 6)) (be ((((R.on.next 6).next 2).next 6).part 4)) 0 0 0 0 0 0 0 0 0)) (.int .u32 (be ((((R.on.next 6).next 2).next 6).part 4))) rfl x12 rfl rfl rfl ip_one (show 5 < 15 by decide) ?_; rintro w13 g13; have r13 := r12.but g13.but x12 (by decide) (by decide); have b13 := g13.below b12 FBH; have x13 := g13.blk; have y13 := g13.but.blk y12 y12.lt NE; clear r12 b12 x12 g13 y12)
  go_wp2_with fail
  go_at_call 79
  refine (rd_U48 w13 rb _ r13).mono ?_
  rintro e w14 ⟨rfl, r14, q14⟩
  have x14 := r13.keep q14 x13 (by decide)
  have y14 := r13.keep q14 y13 (by decide)
  have b14 := But.bel b13 q14 hrb b13.size
  clear r13 q14 x13 b13 y13
  go_wp2_with (refine at_set rfl 28 _ _ rfl rfl w4.heap.size 6 rfl 36 (FL.cs (FL.mk (be ((R.next 6).part 6)) (be (R.part 6)) 1 (be ((R.on.next 6).part 2)) (be (((R.on.next 6).next 2).part 6)) (be ((((R.on.next 6).next 2).next 6).part 4)) 0 0 0 0 0 0 0 0 0)) (FL.cs (FL.mk (be ((R.next 6).part 6)) (be (R.part 6)) 1 (be ((R.on.next 6).part 2)) (be (((R.on.next 6).next 2).part 6)) (be ((((R.on.next 6).next 2).next 6).part 4)) (be (((((R.on.next 6).next 2).next 6).next 4).part 6)) 0 0 0 0 0 0 0 0)) (.int .u64 (be (((((R.on.next 6).next 2).next 6).next 4).part 6))) rfl x14 rfl rfl rfl mac_one (show 6 < 15 by decide) ?_; rintro w15 g15; have r15 := r14.but g15.but x14 (by decide) (by decide); have b15 := g15.below b14 FBH; have x15 := g15.blk; have y15 := g15.but.blk y14 y14.lt NE; clear r14 b14 x14 g15 y14)
  go_wp2_with fail
  go_at_call 77
  refine (rd_U32 w15 rb _ r15).mono ?_
  rintro e w16 ⟨rfl, r16, q16⟩
  have x16 := r15.keep q16 x15 (by decide)
  have y16 := r15.keep q16 y15 (by decide)
  have b16 := But.bel b15 q16 hrb b15.size
  clear r15 q16 x15 b15 y15
  go_wp2_with (refine at_set rfl 30 _ _ rfl rfl w4.heap.size 7 rfl 36 (FL.cs (FL.mk (be ((R.next 6).part 6)) (be (R.part 6)) 1 (be ((R.on.next 6).part 2)) (be (((R.on.next 6).next 2).part 6)) (be ((((R.on.next 6).next 2).next 6).part 4)) (be (((((R.on.next 6).next 2).next 6).next 4).part 6)) 0 0 0 0 0 0 0 0)) (FL.cs (FL.mk (be ((R.next 6).part 6)) (be (R.part 6)) 1 (be ((R.on.next 6).part 2)) (be (((R.on.next 6).next 2).part 6)) (be ((((R.on.next 6).next 2).next 6).part 4)) (be (((((R.on.next 6).next 2).next 6).next 4).part 6)) (be ((((((R.on.next 6).next 2).next 6).next 4).next 6).part 4)) 0 0 0 0 0 0 0)) (.int .u32 (be ((((((R.on.next 6).next 2).next 6).next 4).next 6).part 4))) rfl x16 rfl rfl rfl ip_one (show 7 < 15 by decide) ?_; rintro w17 g17; have r17 := r16.but g17.but x16 (by decide) (by decide); have b17 := g17.below b16 FBH; have x17 := g17.blk; have y17 := g17.but.blk y16 y16.lt NE; clear r16 b16 x16 g17 y16)
  go_wp2_with fail
  go_at_call 74
  refine (rd_U64 w17 rb _ r17).mono ?_
  rintro e w18 ⟨rfl, r18, q18⟩
  have x18 := r17.keep q18 x17 (by decide)
  have y18 := r17.keep q18 y17 (by decide)
  have b18 := But.bel b17 q18 hrb b17.size
  clear r17 q18 x17 b17 y17
  go_wp2_with (first
    | (refine at_set rfl 27 _ _ rfl rfl w4.heap.size 14 rfl 36 (FL.cs (FL.mk (be ((R.next 6).part 6)) (be (R.part 6)) 1 (be ((R.on.next 6).part 2)) (be (((R.on.next 6).next 2).part 6)) (be ((((R.on.next 6).next 2).next 6).part 4)) (be (((((R.on.next 6).next 2).next 6).next 4).part 6)) (be ((((((R.on.next 6).next 2).next 6).next 4).next 6).part 4)) 0 0 0 0 0 0 0)) (FL.cs (FL.mk (be ((R.next 6).part 6)) (be (R.part 6)) 1 (be ((R.on.next 6).part 2)) (be (((R.on.next 6).next 2).part 6)) (be ((((R.on.next 6).next 2).next 6).part 4)) (be (((((R.on.next 6).next 2).next 6).next 4).part 6)) (be ((((((R.on.next 6).next 2).next 6).next 4).next 6).part 4)) 0 0 0 0 0 0 (be (((((((R.on.next 6).next 2).next 6).next 4).next 6).next 4).part 8)))) (.int .u64 (be (((((((R.on.next 6).next 2).next 6).next 4).next 6).next 4).part 8))) rfl x18 rfl rfl rfl u64_one (show 14 < 15 by decide) ?_; rintro w19 g19; have r19 := r18.but g19.but x18 (by decide) (by decide); have b19 := g19.below b18 FBH; have x19 := g19.blk; have y19 := g19.but.blk y18 y18.lt NE; clear r18 b18 x18 g19 y18)
    | (refine at_mid rfl 36 _ rfl w4.heap.size 0 rfl x19 (FL.cs (FL.mk (be ((R.next 6).part 6)) (be (R.part 6)) 1 (be ((R.on.next 6).part 2)) (be (((R.on.next 6).next 2).part 6)) (be ((((R.on.next 6).next 2).next 6).part 4)) (be (((((R.on.next 6).next 2).next 6).next 4).part 6)) (be ((((((R.on.next 6).next 2).next 6).next 4).next 6).part 4)) 0 0 0 0 0 0 (be (((((((R.on.next 6).next 2).next 6).next 4).next 6).next 4).part 8)))) rfl _ Try.underlying36 rfl szF ?_)
    | (refine at_put rfl 36 _ _ rfl rfl (w.heap.size + 1) rfl (FL.cs (FL.mk (be ((R.next 6).part 6)) (be (R.part 6)) 1 (be ((R.on.next 6).part 2)) (be (((R.on.next 6).next 2).part 6)) (be ((((R.on.next 6).next 2).next 6).part 4)) (be (((((R.on.next 6).next 2).next 6).next 4).part 6)) (be ((((((R.on.next 6).next 2).next 6).next 4).next 6).part 4)) 0 0 0 0 0 0 (be (((((((R.on.next 6).next 2).next 6).next 4).next 6).next 4).part 8)))) rfl y19 rfl szF (cs_one _) ?_; rintro w99 g99; have y99 := g99.blk; have b99 := g99.below b19 (Nat.le_succ _); clear r19 b19 g99 x19 y19))
  exact bodyPost_ret (results_cell_row (by rfl) _ _ (w.heap.size + 1) _ _ _ _ rfl y99 Try.underlying36 rfl szF) rfl ⟨rfl, b99⟩
end Go.Proofs.Ytgpjelcihmbiiaa
