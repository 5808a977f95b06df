/- Frames read: IPv4. No condition. -/
import Derived.Test.YtgpjelcihmbiiaaPRd
namespace Go.Proofs.Ytgpjelcihmbiiaa
open Go.RowKit
set_option linter.unusedVariables false
set_option linter.unusedSimpArgs false
set_option maxRecDepth 100000

def prR (R : RS) : Int := be (((R.on.next 8).next 1).part 1)
def decN (R : RS) : FL := FL.mk (be ((R.next 6).part 6)) (be (R.part 6)) 2 0 0 0 0 0 (be (((((R.on.next 8).next 1).next 1).next 2).part 4)) (be ((((((R.on.next 8).next 1).next 1).next 2).next 4).part 4)) (be ((R.on.next 8).part 1)) (be (((R.on.next 8).next 1).part 1)) 0 0 (be (((((((R.on.next 8).next 1).next 1).next 2).next 4).next 4).part 8))
def decY (R : RS) : FL := FL.mk (be ((R.next 6).part 6)) (be (R.part 6)) 2 0 0 0 0 0 (be (((((R.on.next 8).next 1).next 1).next 2).part 4)) (be ((((((R.on.next 8).next 1).next 1).next 2).next 4).part 4)) (be ((R.on.next 8).part 1)) (be (((R.on.next 8).next 1).part 1)) (be (((((((R.on.next 8).next 1).next 1).next 2).next 4).next 4).part 2)) (be ((((((((R.on.next 8).next 1).next 1).next 2).next 4).next 4).next 2).part 2)) (be ((((((((((R.on.next 8).next 1).next 1).next 2).next 4).next 4).next 2).next 2).next 4).part 8))
set_option maxHeartbeats 2000000 in
theorem ip_no (xs : List Int) (ho : Oct xs) (hl : xs.length ≤ 1000) (v : Value) (w : World) (hv : Seg w v xs) (hp : pt (prR (R0 xs)) = false) : Calls Try.prog 69 #[v] w fun e w' => e = .returned (decN (R0 xs)).v ∧ Below w.heap.size w w' := by
  have hst := fun R rb w h => start_is R 2 rb w h
  unfold start FL.v at hst
  obtain ⟨R, hR⟩ : ∃ R, R0 xs = R := ⟨_, rfl⟩
  have hxs : Oct R.xs := by rw [← hR]; exact ho
  rw [hR] at hp ⊢
  have HR := Lib.hid hR
  have HX := Lib.hid hxs
  have HP := fun w => ported_is (prR R) w
  rw [hp] at HP
  unfold prR at HP
  clear hR hxs hp
  unfold decN
  obtain ⟨a, c, rfl, hcap, hx⟩ := id hv
  clear hx
  go_enter Try.func69, Try.ntmps69
  go_wp2_with (refine at_new rfl 36 F0.cs rfl run_newFr ?_; rintro w2 H2 k2 s2)
  go_at_call 73
  refine (rd_New w2 _ xs (hv.below k2) ho (by omega)).mono ?_
  rintro e w3 ⟨rb, rfl, hrb3, r3, k3⟩
  have hrb : w.heap.size ≤ rb := Nat.le_trans k2.size hrb3
  have b3 := k2.trans (k3.mono k2.size)
  have y3 := H2.below k3 H2.lt
  clear k2 H2 k3 hrb3
  have r3 : Rdr w3 rb R := by rw [← HR.out]; exact r3
  go_wp2_with fail
  go_at_call 87
  refine (hst R rb w3 r3).mono ?_
  rintro e w4 ⟨rfl, r4, q4⟩
  have y4 := r3.keep q4 y3 (by decide)
  have b4 := But.bel b3 q4 hrb b3.size
  have l4 := y4.lt
  clear r3 y3 b3 q4
  have z1 : be ((R.on.next 8).part 1) < 256 ^ 1 := be_part (by simp only [next_xs, on_xs]; exact HX.out) 1
  have z2 : be (((R.on.next 8).next 1).part 1) < 256 ^ 1 := be_part (by simp only [next_xs, on_xs]; exact HX.out) 1
  have z3 : be (((((R.on.next 8).next 1).next 1).next 2).part 4) < 256 ^ 4 := be_part (by simp only [next_xs, on_xs]; exact HX.out) 4
  have z4 : be ((((((R.on.next 8).next 1).next 1).next 2).next 4).part 4) < 256 ^ 4 := be_part (by simp only [next_xs, on_xs]; exact HX.out) 4
  go_wp2_with (first
    | (refine at_new rfl 36 F0.cs rfl run_newFr ?_; rintro w5 H5 k5 s5; have y5 := y4.below k5 l4; have b5 := b4.trans (k5.mono b4.size); have r5 := r4.below k5; have NE : w.heap.size ≠ w4.heap.size := (by omega); have FBH := b4.size; have SZ := Lib.hid s5; clear k5 s5 r4 b4 y4; go_simp)
    | (refine at_put rfl 36 _ _ rfl rfl w4.heap.size rfl (FL.cs (FL.mk (be ((R.next 6).part 6)) (be (R.part 6)) 2 0 0 0 0 0 0 0 0 0 0 0 0)) rfl H5 rfl szF (cs_one _) ?_; rintro w6 g6; have r6 := r5.but g6.but H5 (by decide) (by decide); have b6 := g6.below b5 FBH; have x6 := g6.blk; have y6 := g6.but.blk y5 y5.lt NE; clear r5 b5 y5 g6 H5))
  go_at_call 74
  refine (rd_U64 w6 rb _ r6).mono ?_
  rintro e w7 ⟨rfl, r7, q7⟩
  have x7 := r6.keep q7 x6 (by decide)
  have y7 := r6.keep q7 y6 (by decide)
  have b7 := But.bel b6 q7 hrb b6.size
  clear r6 q7 x6 b6 y6
  go_wp2_with fail
  go_at_call 75
  refine (rd_U8 w7 rb _ r7).mono ?_
  rintro e w8 ⟨rfl, r8, q8⟩
  have x8 := r7.keep q8 x7 (by decide)
  have y8 := r7.keep q8 y7 (by decide)
  have b8 := But.bel b7 q8 hrb b7.size
  clear r7 q8 x7 b7 y7
  go_wp2_with (refine at_set rfl 3 _ _ rfl rfl w4.heap.size 10 rfl 36 (FL.cs (FL.mk (be ((R.next 6).part 6)) (be (R.part 6)) 2 0 0 0 0 0 0 0 0 0 0 0 0)) (FL.cs (FL.mk (be ((R.next 6).part 6)) (be (R.part 6)) 2 0 0 0 0 0 0 0 (be ((R.on.next 8).part 1)) 0 0 0 0)) (.int .i64 (be ((R.on.next 8).part 1))) rfl x8 rfl rfl rfl int_one (show 10 < 15 by decide) ?_; rintro w9 g9; have r9 := r8.but g9.but x8 (by decide) (by decide); have b9 := g9.below b8 FBH; have x9 := g9.blk; have y9 := g9.but.blk y8 y8.lt NE; clear r8 b8 x8 g9 y8)
  go_wp2_with fail
  go_at_call 75
  refine (rd_U8 w9 rb _ r9).mono ?_
  rintro e w10 ⟨rfl, r10, q10⟩
  have x10 := r9.keep q10 x9 (by decide)
  have y10 := r9.keep q10 y9 (by decide)
  have b10 := But.bel b9 q10 hrb b9.size
  clear r9 q10 x9 b9 y9
  go_wp2_with (refine at_set rfl 3 _ _ rfl rfl w4.heap.size 11 rfl 36 (FL.cs (FL.mk (be ((R.next 6).part 6)) (be (R.part 6)) 2 0 0 0 0 0 0 0 (be ((R.on.next 8).part 1)) 0 0 0 0)) (FL.cs (FL.mk (be ((R.next 6).part 6)) (be (R.part 6)) 2 0 0 0 0 0 0 0 (be ((R.on.next 8).part 1)) (be (((R.on.next 8).next 1).part 1)) 0 0 0)) (.int .i64 (be (((R.on.next 8).next 1).part 1))) rfl x10 rfl rfl rfl int_one (show 11 < 15 by decide) ?_; rintro w11 g11; have r11 := r10.but g11.but x10 (by decide) (by decide); have b11 := g11.below b10 FBH; have x11 := g11.blk; have y11 := g11.but.blk y10 y10.lt NE; clear r10 b10 x10 g11 y10)
  go_wp2_with fail
  go_at_call 78
  refine (rd_U16 w11 rb _ r11).mono ?_
  rintro e w12 ⟨rfl, r12, q12⟩
  have x12 := r11.keep q12 x11 (by decide)
  have y12 := r11.keep q12 y11 (by decide)
  have b12 := But.bel b11 q12 hrb b11.size
  clear r11 q12 x11 b11 y11
  go_wp2_with fail
  go_at_call 77
  refine (rd_U32 w12 rb _ r12).mono ?_
  rintro e w13 ⟨rfl, r13, q13⟩
  have x13 := r12.keep q13 x12 (by decide)
  have y13 := r12.keep q13 y12 (by decide)
  have b13 := But.bel b12 q13 hrb b12.size
  clear r12 q13 x12 b12 y12
  go_wp2_with (refine at_set rfl 30 _ _ rfl rfl w4.heap.size 8 rfl 36 (FL.cs (FL.mk (be ((R.next 6).part 6)) (be (R.part 6)) 2 0 0 0 0 0 0 0 (be ((R.on.next 8).part 1)) (be (((R.on.next 8).next 1).part 1)) 0 0 0)) (FL.cs (FL.mk (be ((R.next 6).part 6)) (be (R.part 6)) 2 0 0 0 0 0 (be (((((R.on.next 8).next 1).next 1).next 2).part 4)) 0 (be ((R.on.next 8).part 1)) (be (((R.on.next 8).next 1).part 1)) 0 0 0)) (.int .u32 (be (((((R.on.next 8).next 1).next 1).next 2).part 4))) rfl x13 rfl rfl rfl ip_one (show 8 < 15 by decide) ?_; rintro w14 g14; have r14 := r13.but g14.but x13 (by decide) (by decide); have b14 := g14.below b13 FBH; have x14 := g14.blk; have y14 := g14.but.blk y13 y13.lt NE; clear r13 b13 x13 g14 y13)
  go_wp2_with fail
  go_at_call 77
  refine (rd_U32 w14 rb _ r14).mono ?_
  rintro e w15 ⟨rfl, r15, q15⟩
  have x15 := r14.keep q15 x14 (by decide)
  have y15 := r14.keep q15 y14 (by decide)
  have b15 := But.bel b14 q15 hrb b14.size
  clear r14 q15 x14 b14 y14
  go_wp2_with (first | (refine at_set rfl 30 _ _ rfl rfl w4.heap.size 9 rfl 36 (FL.cs (FL.mk (be ((R.next 6).part 6)) (be (R.part 6)) 2 0 0 0 0 0 (be (((((R.on.next 8).next 1).next 1).next 2).part 4)) 0 (be ((R.on.next 8).part 1)) (be (((R.on.next 8).next 1).part 1)) 0 0 0)) (FL.cs (FL.mk (be ((R.next 6).part 6)) (be (R.part 6)) 2 0 0 0 0 0 (be (((((R.on.next 8).next 1).next 1).next 2).part 4)) (be ((((((R.on.next 8).next 1).next 1).next 2).next 4).part 4)) (be ((R.on.next 8).part 1)) (be (((R.on.next 8).next 1).part 1)) 0 0 0)) (.int .u32 (be ((((((R.on.next 8).next 1).next 1).next 2).next 4).part 4))) rfl x15 rfl rfl rfl ip_one (show 9 < 15 by decide) ?_; rintro w16 g16; have r16 := r15.but g16.but x15 (by decide) (by decide); have b16 := g16.below b15 FBH; have x16 := g16.blk; have y16 := g16.but.blk y15 y15.lt NE; clear r15 b15 x15 g16 y15; have c11 := Blk.cell x16 11 (v := .int .i64 (be (((R.on.next 8).next 1).part 1))) rfl) | (go_at_call 21; refine (HP _).mono ?_; rintro e w' ⟨rfl, hw⟩; obtain rfl := hw.symm))
  clear c11 HP
  go_at_call 74
  refine (rd_U64 w16 rb _ r16).mono ?_
  rintro e w17 ⟨rfl, r17, q17⟩
  have x17 := r16.keep q17 x16 (by decide)
  have y17 := r16.keep q17 y16 (by decide)
  have b17 := But.bel b16 q17 hrb b16.size
  clear r16 q17 x16 b16 y16
  go_wp2_with (first
    | (refine at_set rfl 27 _ _ rfl rfl w4.heap.size 14 rfl 36 (FL.cs (FL.mk (be ((R.next 6).part 6)) (be (R.part 6)) 2 0 0 0 0 0 (be (((((R.on.next 8).next 1).next 1).next 2).part 4)) (be ((((((R.on.next 8).next 1).next 1).next 2).next 4).part 4)) (be ((R.on.next 8).part 1)) (be (((R.on.next 8).next 1).part 1)) 0 0 0)) (FL.cs (FL.mk (be ((R.next 6).part 6)) (be (R.part 6)) 2 0 0 0 0 0 (be (((((R.on.next 8).next 1).next 1).next 2).part 4)) (be ((((((R.on.next 8).next 1).next 1).next 2).next 4).part 4)) (be ((R.on.next 8).part 1)) (be (((R.on.next 8).next 1).part 1)) 0 0 (be (((((((R.on.next 8).next 1).next 1).next 2).next 4).next 4).part 8)))) (.int .u64 (be (((((((R.on.next 8).next 1).next 1).next 2).next 4).next 4).part 8))) rfl x17 rfl rfl rfl u64_one (show 14 < 15 by decide) ?_; rintro w18 g18; have r18 := r17.but g18.but x17 (by decide) (by decide); have b18 := g18.below b17 FBH; have x18 := g18.blk; have y18 := g18.but.blk y17 y17.lt NE; clear r17 b17 x17 g18 y17)
    | (refine at_mid rfl 36 _ rfl w4.heap.size 0 rfl x18 (FL.cs (FL.mk (be ((R.next 6).part 6)) (be (R.part 6)) 2 0 0 0 0 0 (be (((((R.on.next 8).next 1).next 1).next 2).part 4)) (be ((((((R.on.next 8).next 1).next 1).next 2).next 4).part 4)) (be ((R.on.next 8).part 1)) (be (((R.on.next 8).next 1).part 1)) 0 0 (be (((((((R.on.next 8).next 1).next 1).next 2).next 4).next 4).part 8)))) rfl _ Try.underlying36 rfl szF ?_)
    | (refine at_put rfl 36 _ _ rfl rfl w.heap.size rfl (FL.cs (FL.mk (be ((R.next 6).part 6)) (be (R.part 6)) 2 0 0 0 0 0 (be (((((R.on.next 8).next 1).next 1).next 2).part 4)) (be ((((((R.on.next 8).next 1).next 1).next 2).next 4).part 4)) (be ((R.on.next 8).part 1)) (be (((R.on.next 8).next 1).part 1)) 0 0 (be (((((((R.on.next 8).next 1).next 1).next 2).next 4).next 4).part 8)))) rfl y18 rfl szF (cs_one _) ?_; rintro w99 g99; have y99 := g99.blk; have b99 := g99.below b18 (Nat.le_refl _); clear r18 b18 g99 x18 y18))
  exact bodyPost_ret (results_cell_row (by rfl) _ _ w.heap.size _ _ _ _ rfl y99 Try.underlying36 rfl szF) rfl ⟨rfl, b99⟩
set_option maxHeartbeats 2000000 in
theorem ip_yes (xs : List Int) (ho : Oct xs) (hl : xs.length ≤ 1000) (v : Value) (w : World) (hv : Seg w v xs) (hp : pt (prR (R0 xs)) = true) : Calls Try.prog 69 #[v] w fun e w' => e = .returned (decY (R0 xs)).v ∧ Below w.heap.size w w' := by
  have hst := fun R rb w h => start_is R 2 rb w h
  unfold start FL.v at hst
  obtain ⟨R, hR⟩ : ∃ R, R0 xs = R := ⟨_, rfl⟩
  have hxs : Oct R.xs := by rw [← hR]; exact ho
  rw [hR] at hp ⊢
  have HR := Lib.hid hR
  have HX := Lib.hid hxs
  have HP := fun w => ported_is (prR R) w
  rw [hp] at HP
  unfold prR at HP
  clear hR hxs hp
  unfold decY
  obtain ⟨a, c, rfl, hcap, hx⟩ := id hv
  clear hx
  go_enter Try.func69, Try.ntmps69
  go_wp2_with (refine at_new rfl 36 F0.cs rfl run_newFr ?_; rintro w2 H2 k2 s2)
  go_at_call 73
  refine (rd_New w2 _ xs (hv.below k2) ho (by omega)).mono ?_
  rintro e w3 ⟨rb, rfl, hrb3, r3, k3⟩
  have hrb : w.heap.size ≤ rb := Nat.le_trans k2.size hrb3
  have b3 := k2.trans (k3.mono k2.size)
  have y3 := H2.below k3 H2.lt
  clear k2 H2 k3 hrb3
  have r3 : Rdr w3 rb R := by rw [← HR.out]; exact r3
  go_wp2_with fail
  go_at_call 87
  refine (hst R rb w3 r3).mono ?_
  rintro e w4 ⟨rfl, r4, q4⟩
  have y4 := r3.keep q4 y3 (by decide)
  have b4 := But.bel b3 q4 hrb b3.size
  have l4 := y4.lt
  clear r3 y3 b3 q4
  have z1 : be ((R.on.next 8).part 1) < 256 ^ 1 := be_part (by simp only [next_xs, on_xs]; exact HX.out) 1
  have z2 : be (((R.on.next 8).next 1).part 1) < 256 ^ 1 := be_part (by simp only [next_xs, on_xs]; exact HX.out) 1
  have z3 : be (((((R.on.next 8).next 1).next 1).next 2).part 4) < 256 ^ 4 := be_part (by simp only [next_xs, on_xs]; exact HX.out) 4
  have z4 : be ((((((R.on.next 8).next 1).next 1).next 2).next 4).part 4) < 256 ^ 4 := be_part (by simp only [next_xs, on_xs]; exact HX.out) 4
  have z5 : be (((((((R.on.next 8).next 1).next 1).next 2).next 4).next 4).part 2) < 256 ^ 2 := be_part (by simp only [next_xs, on_xs]; exact HX.out) 2
  have z6 : be ((((((((R.on.next 8).next 1).next 1).next 2).next 4).next 4).next 2).part 2) < 256 ^ 2 := be_part (by simp only [next_xs, on_xs]; exact HX.out) 2
  go_wp2_with (first
    | (refine at_new rfl 36 F0.cs rfl run_newFr ?_; rintro w5 H5 k5 s5; have y5 := y4.below k5 l4; have b5 := b4.trans (k5.mono b4.size); have r5 := r4.below k5; have NE : w.heap.size ≠ w4.heap.size := (by omega); have FBH := b4.size; have SZ := Lib.hid s5; clear k5 s5 r4 b4 y4; go_simp)
    | (refine at_put rfl 36 _ _ rfl rfl w4.heap.size rfl (FL.cs (FL.mk (be ((R.next 6).part 6)) (be (R.part 6)) 2 0 0 0 0 0 0 0 0 0 0 0 0)) rfl H5 rfl szF (cs_one _) ?_; rintro w6 g6; have r6 := r5.but g6.but H5 (by decide) (by decide); have b6 := g6.below b5 FBH; have x6 := g6.blk; have y6 := g6.but.blk y5 y5.lt NE; clear r5 b5 y5 g6 H5))
  go_at_call 74
  refine (rd_U64 w6 rb _ r6).mono ?_
  rintro e w7 ⟨rfl, r7, q7⟩
  have x7 := r6.keep q7 x6 (by decide)
  have y7 := r6.keep q7 y6 (by decide)
  have b7 := But.bel b6 q7 hrb b6.size
  clear r6 q7 x6 b6 y6
  go_wp2_with fail
  go_at_call 75
  refine (rd_U8 w7 rb _ r7).mono ?_
  rintro e w8 ⟨rfl, r8, q8⟩
  have x8 := r7.keep q8 x7 (by decide)
  have y8 := r7.keep q8 y7 (by decide)
  have b8 := But.bel b7 q8 hrb b7.size
  clear r7 q8 x7 b7 y7
  go_wp2_with (refine at_set rfl 3 _ _ rfl rfl w4.heap.size 10 rfl 36 (FL.cs (FL.mk (be ((R.next 6).part 6)) (be (R.part 6)) 2 0 0 0 0 0 0 0 0 0 0 0 0)) (FL.cs (FL.mk (be ((R.next 6).part 6)) (be (R.part 6)) 2 0 0 0 0 0 0 0 (be ((R.on.next 8).part 1)) 0 0 0 0)) (.int .i64 (be ((R.on.next 8).part 1))) rfl x8 rfl rfl rfl int_one (show 10 < 15 by decide) ?_; rintro w9 g9; have r9 := r8.but g9.but x8 (by decide) (by decide); have b9 := g9.below b8 FBH; have x9 := g9.blk; have y9 := g9.but.blk y8 y8.lt NE; clear r8 b8 x8 g9 y8)
  go_wp2_with fail
  go_at_call 75
  refine (rd_U8 w9 rb _ r9).mono ?_
  rintro e w10 ⟨rfl, r10, q10⟩
  have x10 := r9.keep q10 x9 (by decide)
  have y10 := r9.keep q10 y9 (by decide)
  have b10 := But.bel b9 q10 hrb b9.size
  clear r9 q10 x9 b9 y9
  go_wp2_with (refine at_set rfl 3 _ _ rfl rfl w4.heap.size 11 rfl 36 (FL.cs (FL.mk (be ((R.next 6).part 6)) (be (R.part 6)) 2 0 0 0 0 0 0 0 (be ((R.on.next 8).part 1)) 0 0 0 0)) (FL.cs (FL.mk (be ((R.next 6).part 6)) (be (R.part 6)) 2 0 0 0 0 0 0 0 (be ((R.on.next 8).part 1)) (be (((R.on.next 8).next 1).part 1)) 0 0 0)) (.int .i64 (be (((R.on.next 8).next 1).part 1))) rfl x10 rfl rfl rfl int_one (show 11 < 15 by decide) ?_; rintro w11 g11; have r11 := r10.but g11.but x10 (by decide) (by decide); have b11 := g11.below b10 FBH; have x11 := g11.blk; have y11 := g11.but.blk y10 y10.lt NE; clear r10 b10 x10 g11 y10)
  go_wp2_with fail
  go_at_call 78
  refine (rd_U16 w11 rb _ r11).mono ?_
  rintro e w12 ⟨rfl, r12, q12⟩
  have x12 := r11.keep q12 x11 (by decide)
  have y12 := r11.keep q12 y11 (by decide)
  have b12 := But.bel b11 q12 hrb b11.size
  clear r11 q12 x11 b11 y11
  go_wp2_with fail
  go_at_call 77
  refine (rd_U32 w12 rb _ r12).mono ?_
  rintro e w13 ⟨rfl, r13, q13⟩
  have x13 := r12.keep q13 x12 (by decide)
  have y13 := r12.keep q13 y12 (by decide)
  have b13 := But.bel b12 q13 hrb b12.size
  clear r12 q13 x12 b12 y12
  go_wp2_with (refine at_set rfl 30 _ _ rfl rfl w4.heap.size 8 rfl 36 (FL.cs (FL.mk (be ((R.next 6).part 6)) (be (R.part 6)) 2 0 0 0 0 0 0 0 (be ((R.on.next 8).part 1)) (be (((R.on.next 8).next 1).part 1)) 0 0 0)) (FL.cs (FL.mk (be ((R.next 6).part 6)) (be (R.part 6)) 2 0 0 0 0 0 (be (((((R.on.next 8).next 1).next 1).next 2).part 4)) 0 (be ((R.on.next 8).part 1)) (be (((R.on.next 8).next 1).part 1)) 0 0 0)) (.int .u32 (be (((((R.on.next 8).next 1).next 1).next 2).part 4))) rfl x13 rfl rfl rfl ip_one (show 8 < 15 by decide) ?_; rintro w14 g14; have r14 := r13.but g14.but x13 (by decide) (by decide); have b14 := g14.below b13 FBH; have x14 := g14.blk; have y14 := g14.but.blk y13 y13.lt NE; clear r13 b13 x13 g14 y13)
  go_wp2_with fail
  go_at_call 77
  refine (rd_U32 w14 rb _ r14).mono ?_
  rintro e w15 ⟨rfl, r15, q15⟩
  have x15 := r14.keep q15 x14 (by decide)
  have y15 := r14.keep q15 y14 (by decide)
  have b15 := But.bel b14 q15 hrb b14.size
  clear r14 q15 x14 b14 y14
  go_wp2_with (first | (refine at_set rfl 30 _ _ rfl rfl w4.heap.size 9 rfl 36 (FL.cs (FL.mk (be ((R.next 6).part 6)) (be (R.part 6)) 2 0 0 0 0 0 (be (((((R.on.next 8).next 1).next 1).next 2).part 4)) 0 (be ((R.on.next 8).part 1)) (be (((R.on.next 8).next 1).part 1)) 0 0 0)) (FL.cs (FL.mk (be ((R.next 6).part 6)) (be (R.part 6)) 2 0 0 0 0 0 (be (((((R.on.next 8).next 1).next 1).next 2).part 4)) (be ((((((R.on.next 8).next 1).next 1).next 2).next 4).part 4)) (be ((R.on.next 8).part 1)) (be (((R.on.next 8).next 1).part 1)) 0 0 0)) (.int .u32 (be ((((((R.on.next 8).next 1).next 1).next 2).next 4).part 4))) rfl x15 rfl rfl rfl ip_one (show 9 < 15 by decide) ?_; rintro w16 g16; have r16 := r15.but g16.but x15 (by decide) (by decide); have b16 := g16.below b15 FBH; have x16 := g16.blk; have y16 := g16.but.blk y15 y15.lt NE; clear r15 b15 x15 g16 y15; have c11 := Blk.cell x16 11 (v := .int .i64 (be (((R.on.next 8).next 1).part 1))) rfl) | (go_at_call 21; refine (HP _).mono ?_; rintro e w' ⟨rfl, hw⟩; obtain rfl := hw.symm))
  clear c11 HP
  go_at_call 78
  refine (rd_U16 w16 rb _ r16).mono ?_
  rintro e w17 ⟨rfl, r17, q17⟩
  have x17 := r16.keep q17 x16 (by decide)
  have y17 := r16.keep q17 y16 (by decide)
  have b17 := But.bel b16 q17 hrb b16.size
  clear r16 q17 x16 b16 y16
  go_wp2_with (refine at_set rfl 3 _ _ rfl rfl w4.heap.size 12 rfl 36 (FL.cs (FL.mk (be ((R.next 6).part 6)) (be (R.part 6)) 2 0 0 0 0 0 (be (((((R.on.next 8).next 1).next 1).next 2).part 4)) (be ((((((R.on.next 8).next 1).next 1).next 2).next 4).part 4)) (be ((R.on.next 8).part 1)) (be (((R.on.next 8).next 1).part 1)) 0 0 0)) (FL.cs (FL.mk (be ((R.next 6).part 6)) (be (R.part 6)) 2 0 0 0 0 0 (be (((((R.on.next 8).next 1).next 1).next 2).part 4)) (be ((((((R.on.next 8).next 1).next 1).next 2).next 4).part 4)) (be ((R.on.next 8).part 1)) (be (((R.on.next 8).next 1).part 1)) (be (((((((R.on.next 8).next 1).next 1).next 2).next 4).next 4).part 2)) 0 0)) (.int .i64 (be (((((((R.on.next 8).next 1).next 1).next 2).next 4).next 4).part 2))) rfl x17 rfl rfl rfl int_one (show 12 < 15 by decide) ?_; rintro w18 g18; have r18 := r17.but g18.but x17 (by decide) (by decide); have b18 := g18.below b17 FBH; have x18 := g18.blk; have y18 := g18.but.blk y17 y17.lt NE; clear r17 b17 x17 g18 y17)
  go_wp2_with fail
  go_at_call 78
  refine (rd_U16 w18 rb _ r18).mono ?_
  rintro e w19 ⟨rfl, r19, q19⟩
  have x19 := r18.keep q19 x18 (by decide)
  have y19 := r18.keep q19 y18 (by decide)
  have b19 := But.bel b18 q19 hrb b18.size
  clear r18 q19 x18 b18 y18
  go_wp2_with (refine at_set rfl 3 _ _ rfl rfl w4.heap.size 13 rfl 36 (FL.cs (FL.mk (be ((R.next 6).part 6)) (be (R.part 6)) 2 0 0 0 0 0 (be (((((R.on.next 8).next 1).next 1).next 2).part 4)) (be ((((((R.on.next 8).next 1).next 1).next 2).next 4).part 4)) (be ((R.on.next 8).part 1)) (be (((R.on.next 8).next 1).part 1)) (be (((((((R.on.next 8).next 1).next 1).next 2).next 4).next 4).part 2)) 0 0)) (FL.cs (FL.mk (be ((R.next 6).part 6)) (be (R.part 6)) 2 0 0 0 0 0 (be (((((R.on.next 8).next 1).next 1).next 2).part 4)) (be ((((((R.on.next 8).next 1).next 1).next 2).next 4).part 4)) (be ((R.on.next 8).part 1)) (be (((R.on.next 8).next 1).part 1)) (be (((((((R.on.next 8).next 1).next 1).next 2).next 4).next 4).part 2)) (be ((((((((R.on.next 8).next 1).next 1).next 2).next 4).next 4).next 2).part 2)) 0)) (.int .i64 (be ((((((((R.on.next 8).next 1).next 1).next 2).next 4).next 4).next 2).part 2))) rfl x19 rfl rfl rfl int_one (show 13 < 15 by decide) ?_; rintro w20 g20; have r20 := r19.but g20.but x19 (by decide) (by decide); have b20 := g20.below b19 FBH; have x20 := g20.blk; have y20 := g20.but.blk y19 y19.lt NE; clear r19 b19 x19 g20 y19)
  go_wp2_with fail
  go_at_call 77
  refine (rd_U32 w20 rb _ r20).mono ?_
  rintro e w21 ⟨rfl, r21, q21⟩
  have x21 := r20.keep q21 x20 (by decide)
  have y21 := r20.keep q21 y20 (by decide)
  have b21 := But.bel b20 q21 hrb b20.size
  clear r20 q21 x20 b20 y20
  go_wp2_with fail
  go_at_call 74
  refine (rd_U64 w21 rb _ r21).mono ?_
  rintro e w22 ⟨rfl, r22, q22⟩
  have x22 := r21.keep q22 x21 (by decide)
  have y22 := r21.keep q22 y21 (by decide)
  have b22 := But.bel b21 q22 hrb b21.size
  clear r21 q22 x21 b21 y21
  go_wp2_with (first
    | (refine at_set rfl 27 _ _ rfl rfl w4.heap.size 14 rfl 36 (FL.cs (FL.mk (be ((R.next 6).part 6)) (be (R.part 6)) 2 0 0 0 0 0 (be (((((R.on.next 8).next 1).next 1).next 2).part 4)) (be ((((((R.on.next 8).next 1).next 1).next 2).next 4).part 4)) (be ((R.on.next 8).part 1)) (be (((R.on.next 8).next 1).part 1)) (be (((((((R.on.next 8).next 1).next 1).next 2).next 4).next 4).part 2)) (be ((((((((R.on.next 8).next 1).next 1).next 2).next 4).next 4).next 2).part 2)) 0)) (FL.cs (FL.mk (be ((R.next 6).part 6)) (be (R.part 6)) 2 0 0 0 0 0 (be (((((R.on.next 8).next 1).next 1).next 2).part 4)) (be ((((((R.on.next 8).next 1).next 1).next 2).next 4).part 4)) (be ((R.on.next 8).part 1)) (be (((R.on.next 8).next 1).part 1)) (be (((((((R.on.next 8).next 1).next 1).next 2).next 4).next 4).part 2)) (be ((((((((R.on.next 8).next 1).next 1).next 2).next 4).next 4).next 2).part 2)) (be ((((((((((R.on.next 8).next 1).next 1).next 2).next 4).next 4).next 2).next 2).next 4).part 8)))) (.int .u64 (be ((((((((((R.on.next 8).next 1).next 1).next 2).next 4).next 4).next 2).next 2).next 4).part 8))) rfl x22 rfl rfl rfl u64_one (show 14 < 15 by decide) ?_; rintro w23 g23; have r23 := r22.but g23.but x22 (by decide) (by decide); have b23 := g23.below b22 FBH; have x23 := g23.blk; have y23 := g23.but.blk y22 y22.lt NE; clear r22 b22 x22 g23 y22)
    | (refine at_mid rfl 36 _ rfl w4.heap.size 0 rfl x23 (FL.cs (FL.mk (be ((R.next 6).part 6)) (be (R.part 6)) 2 0 0 0 0 0 (be (((((R.on.next 8).next 1).next 1).next 2).part 4)) (be ((((((R.on.next 8).next 1).next 1).next 2).next 4).part 4)) (be ((R.on.next 8).part 1)) (be (((R.on.next 8).next 1).part 1)) (be (((((((R.on.next 8).next 1).next 1).next 2).next 4).next 4).part 2)) (be ((((((((R.on.next 8).next 1).next 1).next 2).next 4).next 4).next 2).part 2)) (be ((((((((((R.on.next 8).next 1).next 1).next 2).next 4).next 4).next 2).next 2).next 4).part 8)))) rfl _ Try.underlying36 rfl szF ?_)
    | (refine at_put rfl 36 _ _ rfl rfl w.heap.size rfl (FL.cs (FL.mk (be ((R.next 6).part 6)) (be (R.part 6)) 2 0 0 0 0 0 (be (((((R.on.next 8).next 1).next 1).next 2).part 4)) (be ((((((R.on.next 8).next 1).next 1).next 2).next 4).part 4)) (be ((R.on.next 8).part 1)) (be (((R.on.next 8).next 1).part 1)) (be (((((((R.on.next 8).next 1).next 1).next 2).next 4).next 4).part 2)) (be ((((((((R.on.next 8).next 1).next 1).next 2).next 4).next 4).next 2).part 2)) (be ((((((((((R.on.next 8).next 1).next 1).next 2).next 4).next 4).next 2).next 2).next 4).part 8)))) rfl y23 rfl szF (cs_one _) ?_; rintro w99 g99; have y99 := g99.blk; have b99 := g99.below b23 (Nat.le_refl _); clear r23 b23 g99 x23 y23))
  exact bodyPost_ret (results_cell_row (by rfl) _ _ w.heap.size _ _ _ _ rfl y99 Try.underlying36 rfl szF) rfl ⟨rfl, b99⟩
end Go.Proofs.Ytgpjelcihmbiiaa
