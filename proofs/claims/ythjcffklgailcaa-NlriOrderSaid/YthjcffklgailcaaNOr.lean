/- NlriOrder: the law's walk. No condition. -/
import Derived.Test.YthjcffklgailcaaNLi
import Derived.Test.YthjcffklgailcaaNCp
import Derived.Test.YthjcffklgailcaaOrM
namespace Go.Proofs.Ythjcffklgailcaa
open Go.RowKit Go.Sort
set_option linter.unusedVariables false
set_option linter.unusedSimpArgs false
set_option maxRecDepth 100000

theorem neq_bool (p q : Bool) (w : World) : (binOp .neq 4 (.bool p) (.bool q)).run Try.prog w = .ok (.bool (p != q)) w := by kernel_rfl
set_option maxHeartbeats 8000000 in
theorem order_walk (a b c k k2 kb : NL) (la x y x' t : Int) (e0 : Bool)
    (hab : Hid (∀ w, Calls Try.prog 21 #[.agg a.cs.toArray, .agg b.cs.toArray] w fun r w' => r = .returned (.int .i64 x) ∧ Below w.heap.size w w')) (hbc : Hid (∀ w, Calls Try.prog 21 #[.agg b.cs.toArray, .agg c.cs.toArray] w fun r w' => r = .returned (.int .i64 y) ∧ Below w.heap.size w w')) (hba : Hid (∀ w, Calls Try.prog 21 #[.agg b.cs.toArray, .agg a.cs.toArray] w fun r w' => r = .returned (.int .i64 x') ∧ Below w.heap.size w w')) (hac : Hid (∀ w, Calls Try.prog 21 #[.agg a.cs.toArray, .agg c.cs.toArray] w fun r w' => r = .returned (.int .i64 t) ∧ Below w.heap.size w w'))
    (had : Hid (∀ w, Calls Try.prog 21 #[.agg a.cs.toArray, .agg (NL.cs { a with l := la, l2 := la }).toArray] w fun r w' => r = .returned (.int .i64 0) ∧ Below w.heap.size w w')) (hak : Hid (∀ w, Calls Try.prog 21 #[.agg a.cs.toArray, .agg k.cs.toArray] w fun r w' => r = .returned (.int .i64 0) ∧ Below w.heap.size w w'))
    (hka : Hid (∀ w, Calls Try.prog 19 #[.agg a.cs.toArray] w fun r w' => r = .returned (.agg k.cs.toArray) ∧ Below w.heap.size w w')) (hkb : Hid (∀ w, Calls Try.prog 19 #[.agg b.cs.toArray] w fun r w' => r = .returned (.agg kb.cs.toArray) ∧ Below w.heap.size w w')) (hkk : Hid (∀ w, Calls Try.prog 19 #[.agg k.cs.toArray] w fun r w' => r = .returned (.agg k2.cs.toArray) ∧ Below w.heap.size w w'))
    (hq1 : ∀ w, (Op.equalIn 10000 36 (.agg k.cs.toArray) (.agg kb.cs.toArray)).run Try.prog w = .ok e0 w) (hq2 : ∀ w, (Op.equalIn 10000 36 (.agg k2.cs.toArray) (.agg k.cs.toArray)).run Try.prog w = .ok true w)
    (p0 : (x != -x') = false) (px : -1 ≤ x) (px2 : x ≤ 1) (px3 : -1 ≤ x') (px4 : x' ≤ 1) (p1 : (x == 0) = e0) (p2 : x ≤ 0 → y ≤ 0 → t ≤ 0)
    (f1 : (k.k == a.k) = true) (f2 : (k.rd == a.rd) = true) (w : World) :
    Calls Try.prog 8 #[a.v, b.v, c.v, .int .u32 la] w fun r w' => r = .returned (.bool true) ∧ Below w.heap.size w w' := by
  have P2 := Lib.hid p2
  clear p2
  unfold NL.v
  go_enter Try.func8, Try.ntmps8
  go_wp2_with (first
    | (refine at_box rfl (.tmp 0) rfl a rfl ?_; rintro w1 ⟨x1, k1, s1⟩)
    | (refine at_box rfl (.tmp 1) rfl b rfl ?_; rintro w2 ⟨y2, k2', s2⟩; rw [s1] at y2 s2; have x2 := x1.below k2' x1.lt; have b2 := k1.trans (k2'.mono k1.size); clear x1 k1 k2')
    | (refine at_box rfl (.tmp 2) rfl c rfl ?_; rintro w3 ⟨z3, k3, s3⟩; rw [s2] at z3; have x3 := x2.below k3 x2.lt; have y3 := y2.below k3 y2.lt; have b3 := b2.trans (k3.mono b2.size); clear x2 y2 b2 k3))
  go_at_call 9
  refine (lives_is w3).mono ?_
  rintro r w4 ⟨rfl, k4⟩
  have x4 := x3.below k4 x3.lt
  have y4 := y3.below k4 y3.lt
  have z4 := z3.below k4 z3.lt
  have b4 := b3.trans (k4.mono b3.size)
  clear x3 y3 z3 k4 b3
  go_wp2_with fail
  refine wp_region_qb (by kernel_rfl) (by kernel_rfl) ?_
  repeat (first
    | go_big_quiet_skip
    | (go_big_quiet_want; refine q_load (.tmp 4) rfl w.heap.size rfl a x4.regrown ?_; go_simp; go_big_quiet_on)
    | (go_big_quiet_want; refine q_load (.tmp 5) rfl (w.heap.size + 1) rfl b y4.regrown ?_; go_simp; go_big_quiet_on)
    | (go_big_quiet_want; refine q_load (.tmp 6) rfl (w.heap.size + 1 + 1) rfl c z4.regrown ?_; go_simp; go_big_quiet_on)
    | (go_big_quiet_want; go_big_quiet_op; first | go_big_quiet_on | go_big_quiet_call (first | (with_reducible exact Calls.regrown_of (hab.out _)) | (with_reducible exact Calls.regrown_of (hbc.out _)) | (with_reducible exact Calls.regrown_of (hba.out _)) | (with_reducible exact Calls.regrown_of (hac.out _)) | (with_reducible exact Calls.regrown_of (had.out _)) | (with_reducible exact Calls.regrown_of (hak.out _)) | (with_reducible exact Calls.regrown_of (hkb.out _)) | (with_reducible exact Calls.regrown_of (hkk.out _)))))
  refine wpQuiet_nil ?_
  intro w5 k5
  have x5 := x4.below k5 x4.lt
  have y5 := y4.below k5 y4.lt
  have z5 := z4.below k5 z4.lt
  have b5 := b4.trans (k5.mono b4.size)
  have n1 : w5.heap.size ≠ w.heap.size := by have := x5.lt; omega
  have n2 : w5.heap.size ≠ w.heap.size + 1 := by have := y5.lt; omega
  have n3 : w5.heap.size ≠ w.heap.size + 1 + 1 := by have := z5.lt; omega
  have n4 : w.heap.size ≤ w5.heap.size := b5.size
  clear x4 y4 z4 b4 k5
  go_wp2_with (first
    | (refine at_load rfl (.tmp 4) rfl w.heap.size rfl a x5 ?_)
    | (refine at_new rfl rfl ?_; rintro w6 ⟨d6, k6, s6⟩; have x6 := x5.below k6 x5.lt; have y6 := y5.below k6 y5.lt; have z6 := z5.below k6 z5.lt; have b6 := b5.trans (k6.mono b5.size); clear x5 y5 z5 k6 b5 s6)
    | (refine at_store rfl (.tmp 11) _ rfl rfl w5.heap.size rfl NL.zero a rfl d6 ?_; rintro w7 g7; have d7 := g7.bx; have x7 := g7.other x6 (Ne.symm n1); have y7 := g7.other y6 (Ne.symm n2); have z7 := g7.other z6 (Ne.symm n3); have b7 := g7.next b6 n4; clear g7 d6 x6 y6 z6 b6)
    | (refine at_set rfl 29 _ _ rfl rfl w5.heap.size 19 rfl a { a with l := la } (.int .u32 la) rfl d7 rfl rfl rfl u32_one (by decide) ?_; rintro w8 g8; have d8 := g8.bx; have x8 := g8.other x7 (Ne.symm n1); have y8 := g8.other y7 (Ne.symm n2); have z8 := g8.other z7 (Ne.symm n3); have b8 := g8.next b7 n4; clear g8 d7 x7 y7 z7 b7)
    | (refine at_set rfl 29 _ _ rfl rfl w5.heap.size 20 rfl _ { a with l := la, l2 := la } (.int .u32 la) rfl d8 rfl rfl rfl u32_one (by decide) ?_; rintro w9 g9; have d9 := g9.bx; have x9 := g9.other x8 (Ne.symm n1); have y9 := g9.other y8 (Ne.symm n2); have z9 := g9.other z8 (Ne.symm n3); have b9 := g9.next b8 n4; clear g9 d8 x8 y8 z8 b8)
    | (refine at_load rfl (.tmp 4) rfl w.heap.size rfl a x9 ?_))
  go_at_call 19
  refine (hka.out w9).mono ?_
  rintro r w10 ⟨rfl, k10⟩
  have x10 := x9.below k10 x9.lt
  have y10 := y9.below k10 y9.lt
  have z10 := z9.below k10 z9.lt
  have d10 := d9.below k10 d9.lt
  have b10 := b9.trans (k10.mono b9.size)
  have m1 : w10.heap.size ≠ w.heap.size := by have := x10.lt; omega
  have m2 : w10.heap.size ≠ w.heap.size + 1 := by have := y10.lt; omega
  have m3 : w10.heap.size ≠ w.heap.size + 1 + 1 := by have := z10.lt; omega
  have m4 : w10.heap.size ≠ w5.heap.size := by have := d10.lt; omega
  have m5 : w.heap.size ≤ w10.heap.size := b10.size
  clear x9 y9 z9 d9 b9 k10 hka
  go_wp2_with (first
    | (refine at_new rfl rfl ?_; rintro w11 ⟨q11, k11, s11⟩; have x11 := x10.below k11 x10.lt; have y11 := y10.below k11 y10.lt; have z11 := z10.below k11 z10.lt; have d11 := d10.below k11 d10.lt; have b11 := b10.trans (k11.mono b10.size); clear x10 y10 z10 d10 b10 k11 s11; go_simp)
    | (refine at_store rfl (.tmp 12) _ rfl rfl w10.heap.size rfl NL.zero k rfl q11 ?_; rintro w12 g12; have q12 := g12.bx; have x12 := g12.other x11 (Ne.symm m1); have y12 := g12.other y11 (Ne.symm m2); have z12 := g12.other z11 (Ne.symm m3); have d12 := g12.other d11 (Ne.symm m4); have b12 := g12.next b11 m5; clear g12 q11 x11 y11 z11 d11 b11))
  have nb := neq_bool
  have p3 : ¬ x < -1 := by omega
  have p4 : ¬ 1 < x := by omega
  have P1 := Lib.hid p1
  clear p1
  have HR : ∀ (w13 : World), Below w12.heap.size w12 w13 → True := fun _ _ => trivial
  by_cases hx0 : x ≤ 0
  · by_cases hy0 : y ≤ 0
    · have ht := P2.out hx0 hy0
      have ht' : ¬ 0 < t := by omega
      cases e0
      · have p1 := P1.out
        refine wp_region_qb (by kernel_rfl) (by kernel_rfl) ?_
        repeat (first
          | go_big_quiet_skip
          | (go_big_quiet_want; refine q_load (.tmp 4) rfl w.heap.size rfl a x12.regrown ?_; go_simp; go_big_quiet_on)
          | (go_big_quiet_want; refine q_load (.tmp 5) rfl (w.heap.size + 1) rfl b y12.regrown ?_; go_simp; go_big_quiet_on)
          | (go_big_quiet_want; refine q_load (.tmp 6) rfl (w.heap.size + 1 + 1) rfl c z12.regrown ?_; go_simp; go_big_quiet_on)
          | (go_big_quiet_want; refine q_load (.tmp 12) rfl w10.heap.size rfl k q12.regrown ?_; go_simp; go_big_quiet_on)
          | (go_big_quiet_want; go_big_quiet_op; first | go_big_quiet_on | go_big_quiet_call (first | (with_reducible exact Calls.regrown_of (hab.out _)) | (with_reducible exact Calls.regrown_of (hbc.out _)) | (with_reducible exact Calls.regrown_of (hba.out _)) | (with_reducible exact Calls.regrown_of (hac.out _)) | (with_reducible exact Calls.regrown_of (had.out _)) | (with_reducible exact Calls.regrown_of (hak.out _)) | (with_reducible exact Calls.regrown_of (hkb.out _)) | (with_reducible exact Calls.regrown_of (hkk.out _)))))
        refine wpQuiet_nil ?_
        intro w13 k13
        have x13 := x12.below k13 x12.lt
        have d13 := d12.below k13 d12.lt
        have q13 := q12.below k13 q12.lt
        have b13 := b12.trans (k13.mono b12.size)
        clear x12 y12 z12 d12 q12 b12 k13 p0 p1 p3 p4 hq1 nb
        go_wp2_with fail
        refine wp_region_qb (by kernel_rfl) (by kernel_rfl) ?_
        have ca0 := cell_regrown (Blk.cell x13 0 (v := .int .i64 a.k) rfl)
        have ca1 := cell_regrown (Blk.cell x13 1 (v := .int .u64 a.rd) rfl)
        have ck0 := cell_regrown (Blk.cell q13 0 (v := .int .i64 k.k) rfl)
        have ck1 := cell_regrown (Blk.cell q13 1 (v := .int .u64 k.rd) rfl)
        repeat (first
          | go_big_quiet_skip
          | (go_big_quiet_want; refine q_load (.tmp 4) rfl w.heap.size rfl a x13.regrown ?_; go_simp; go_big_quiet_on)
          | (go_big_quiet_want; refine q_load (.tmp 11) rfl w5.heap.size rfl { a with l := la, l2 := la } d13.regrown ?_; go_simp; go_big_quiet_on)
          | (go_big_quiet_want; refine q_load (.tmp 12) rfl w10.heap.size rfl k q13.regrown ?_; go_simp; go_big_quiet_on)
          | (go_big_quiet_want; go_big_quiet_op; first | go_big_quiet_on | go_big_quiet_call (first | (with_reducible exact Calls.regrown_of (hab.out _)) | (with_reducible exact Calls.regrown_of (hbc.out _)) | (with_reducible exact Calls.regrown_of (hba.out _)) | (with_reducible exact Calls.regrown_of (hac.out _)) | (with_reducible exact Calls.regrown_of (had.out _)) | (with_reducible exact Calls.regrown_of (hak.out _)) | (with_reducible exact Calls.regrown_of (hkb.out _)) | (with_reducible exact Calls.regrown_of (hkk.out _)))))
        refine wpQuiet_nil ?_
        intro w14 k14
        go_wp2
        go_ret
        exact ⟨rfl, b13.trans (k14.mono b13.size)⟩
      · have p1 := P1.out
        refine wp_region_qb (by kernel_rfl) (by kernel_rfl) ?_
        repeat (first
          | go_big_quiet_skip
          | (go_big_quiet_want; refine q_load (.tmp 4) rfl w.heap.size rfl a x12.regrown ?_; go_simp; go_big_quiet_on)
          | (go_big_quiet_want; refine q_load (.tmp 5) rfl (w.heap.size + 1) rfl b y12.regrown ?_; go_simp; go_big_quiet_on)
          | (go_big_quiet_want; refine q_load (.tmp 6) rfl (w.heap.size + 1 + 1) rfl c z12.regrown ?_; go_simp; go_big_quiet_on)
          | (go_big_quiet_want; refine q_load (.tmp 12) rfl w10.heap.size rfl k q12.regrown ?_; go_simp; go_big_quiet_on)
          | (go_big_quiet_want; go_big_quiet_op; first | go_big_quiet_on | go_big_quiet_call (first | (with_reducible exact Calls.regrown_of (hab.out _)) | (with_reducible exact Calls.regrown_of (hbc.out _)) | (with_reducible exact Calls.regrown_of (hba.out _)) | (with_reducible exact Calls.regrown_of (hac.out _)) | (with_reducible exact Calls.regrown_of (had.out _)) | (with_reducible exact Calls.regrown_of (hak.out _)) | (with_reducible exact Calls.regrown_of (hkb.out _)) | (with_reducible exact Calls.regrown_of (hkk.out _)))))
        refine wpQuiet_nil ?_
        intro w13 k13
        have x13 := x12.below k13 x12.lt
        have d13 := d12.below k13 d12.lt
        have q13 := q12.below k13 q12.lt
        have b13 := b12.trans (k13.mono b12.size)
        clear x12 y12 z12 d12 q12 b12 k13 p0 p1 p3 p4 hq1 nb
        go_wp2_with fail
        refine wp_region_qb (by kernel_rfl) (by kernel_rfl) ?_
        have ca0 := cell_regrown (Blk.cell x13 0 (v := .int .i64 a.k) rfl)
        have ca1 := cell_regrown (Blk.cell x13 1 (v := .int .u64 a.rd) rfl)
        have ck0 := cell_regrown (Blk.cell q13 0 (v := .int .i64 k.k) rfl)
        have ck1 := cell_regrown (Blk.cell q13 1 (v := .int .u64 k.rd) rfl)
        repeat (first
          | go_big_quiet_skip
          | (go_big_quiet_want; refine q_load (.tmp 4) rfl w.heap.size rfl a x13.regrown ?_; go_simp; go_big_quiet_on)
          | (go_big_quiet_want; refine q_load (.tmp 11) rfl w5.heap.size rfl { a with l := la, l2 := la } d13.regrown ?_; go_simp; go_big_quiet_on)
          | (go_big_quiet_want; refine q_load (.tmp 12) rfl w10.heap.size rfl k q13.regrown ?_; go_simp; go_big_quiet_on)
          | (go_big_quiet_want; go_big_quiet_op; first | go_big_quiet_on | go_big_quiet_call (first | (with_reducible exact Calls.regrown_of (hab.out _)) | (with_reducible exact Calls.regrown_of (hbc.out _)) | (with_reducible exact Calls.regrown_of (hba.out _)) | (with_reducible exact Calls.regrown_of (hac.out _)) | (with_reducible exact Calls.regrown_of (had.out _)) | (with_reducible exact Calls.regrown_of (hak.out _)) | (with_reducible exact Calls.regrown_of (hkb.out _)) | (with_reducible exact Calls.regrown_of (hkk.out _)))))
        refine wpQuiet_nil ?_
        intro w14 k14
        go_wp2
        go_ret
        exact ⟨rfl, b13.trans (k14.mono b13.size)⟩
    · cases e0
      · have p1 := P1.out
        refine wp_region_qb (by kernel_rfl) (by kernel_rfl) ?_
        repeat (first
          | go_big_quiet_skip
          | (go_big_quiet_want; refine q_load (.tmp 4) rfl w.heap.size rfl a x12.regrown ?_; go_simp; go_big_quiet_on)
          | (go_big_quiet_want; refine q_load (.tmp 5) rfl (w.heap.size + 1) rfl b y12.regrown ?_; go_simp; go_big_quiet_on)
          | (go_big_quiet_want; refine q_load (.tmp 6) rfl (w.heap.size + 1 + 1) rfl c z12.regrown ?_; go_simp; go_big_quiet_on)
          | (go_big_quiet_want; refine q_load (.tmp 12) rfl w10.heap.size rfl k q12.regrown ?_; go_simp; go_big_quiet_on)
          | (go_big_quiet_want; go_big_quiet_op; first | go_big_quiet_on | go_big_quiet_call (first | (with_reducible exact Calls.regrown_of (hab.out _)) | (with_reducible exact Calls.regrown_of (hbc.out _)) | (with_reducible exact Calls.regrown_of (hba.out _)) | (with_reducible exact Calls.regrown_of (hac.out _)) | (with_reducible exact Calls.regrown_of (had.out _)) | (with_reducible exact Calls.regrown_of (hak.out _)) | (with_reducible exact Calls.regrown_of (hkb.out _)) | (with_reducible exact Calls.regrown_of (hkk.out _)))))
        refine wpQuiet_nil ?_
        intro w13 k13
        have x13 := x12.below k13 x12.lt
        have d13 := d12.below k13 d12.lt
        have q13 := q12.below k13 q12.lt
        have b13 := b12.trans (k13.mono b12.size)
        clear x12 y12 z12 d12 q12 b12 k13 p0 p1 p3 p4 hq1 nb
        go_wp2_with fail
        refine wp_region_qb (by kernel_rfl) (by kernel_rfl) ?_
        have ca0 := cell_regrown (Blk.cell x13 0 (v := .int .i64 a.k) rfl)
        have ca1 := cell_regrown (Blk.cell x13 1 (v := .int .u64 a.rd) rfl)
        have ck0 := cell_regrown (Blk.cell q13 0 (v := .int .i64 k.k) rfl)
        have ck1 := cell_regrown (Blk.cell q13 1 (v := .int .u64 k.rd) rfl)
        repeat (first
          | go_big_quiet_skip
          | (go_big_quiet_want; refine q_load (.tmp 4) rfl w.heap.size rfl a x13.regrown ?_; go_simp; go_big_quiet_on)
          | (go_big_quiet_want; refine q_load (.tmp 11) rfl w5.heap.size rfl { a with l := la, l2 := la } d13.regrown ?_; go_simp; go_big_quiet_on)
          | (go_big_quiet_want; refine q_load (.tmp 12) rfl w10.heap.size rfl k q13.regrown ?_; go_simp; go_big_quiet_on)
          | (go_big_quiet_want; go_big_quiet_op; first | go_big_quiet_on | go_big_quiet_call (first | (with_reducible exact Calls.regrown_of (hab.out _)) | (with_reducible exact Calls.regrown_of (hbc.out _)) | (with_reducible exact Calls.regrown_of (hba.out _)) | (with_reducible exact Calls.regrown_of (hac.out _)) | (with_reducible exact Calls.regrown_of (had.out _)) | (with_reducible exact Calls.regrown_of (hak.out _)) | (with_reducible exact Calls.regrown_of (hkb.out _)) | (with_reducible exact Calls.regrown_of (hkk.out _)))))
        refine wpQuiet_nil ?_
        intro w14 k14
        go_wp2
        go_ret
        exact ⟨rfl, b13.trans (k14.mono b13.size)⟩
      · have p1 := P1.out
        refine wp_region_qb (by kernel_rfl) (by kernel_rfl) ?_
        repeat (first
          | go_big_quiet_skip
          | (go_big_quiet_want; refine q_load (.tmp 4) rfl w.heap.size rfl a x12.regrown ?_; go_simp; go_big_quiet_on)
          | (go_big_quiet_want; refine q_load (.tmp 5) rfl (w.heap.size + 1) rfl b y12.regrown ?_; go_simp; go_big_quiet_on)
          | (go_big_quiet_want; refine q_load (.tmp 6) rfl (w.heap.size + 1 + 1) rfl c z12.regrown ?_; go_simp; go_big_quiet_on)
          | (go_big_quiet_want; refine q_load (.tmp 12) rfl w10.heap.size rfl k q12.regrown ?_; go_simp; go_big_quiet_on)
          | (go_big_quiet_want; go_big_quiet_op; first | go_big_quiet_on | go_big_quiet_call (first | (with_reducible exact Calls.regrown_of (hab.out _)) | (with_reducible exact Calls.regrown_of (hbc.out _)) | (with_reducible exact Calls.regrown_of (hba.out _)) | (with_reducible exact Calls.regrown_of (hac.out _)) | (with_reducible exact Calls.regrown_of (had.out _)) | (with_reducible exact Calls.regrown_of (hak.out _)) | (with_reducible exact Calls.regrown_of (hkb.out _)) | (with_reducible exact Calls.regrown_of (hkk.out _)))))
        refine wpQuiet_nil ?_
        intro w13 k13
        have x13 := x12.below k13 x12.lt
        have d13 := d12.below k13 d12.lt
        have q13 := q12.below k13 q12.lt
        have b13 := b12.trans (k13.mono b12.size)
        clear x12 y12 z12 d12 q12 b12 k13 p0 p1 p3 p4 hq1 nb
        go_wp2_with fail
        refine wp_region_qb (by kernel_rfl) (by kernel_rfl) ?_
        have ca0 := cell_regrown (Blk.cell x13 0 (v := .int .i64 a.k) rfl)
        have ca1 := cell_regrown (Blk.cell x13 1 (v := .int .u64 a.rd) rfl)
        have ck0 := cell_regrown (Blk.cell q13 0 (v := .int .i64 k.k) rfl)
        have ck1 := cell_regrown (Blk.cell q13 1 (v := .int .u64 k.rd) rfl)
        repeat (first
          | go_big_quiet_skip
          | (go_big_quiet_want; refine q_load (.tmp 4) rfl w.heap.size rfl a x13.regrown ?_; go_simp; go_big_quiet_on)
          | (go_big_quiet_want; refine q_load (.tmp 11) rfl w5.heap.size rfl { a with l := la, l2 := la } d13.regrown ?_; go_simp; go_big_quiet_on)
          | (go_big_quiet_want; refine q_load (.tmp 12) rfl w10.heap.size rfl k q13.regrown ?_; go_simp; go_big_quiet_on)
          | (go_big_quiet_want; go_big_quiet_op; first | go_big_quiet_on | go_big_quiet_call (first | (with_reducible exact Calls.regrown_of (hab.out _)) | (with_reducible exact Calls.regrown_of (hbc.out _)) | (with_reducible exact Calls.regrown_of (hba.out _)) | (with_reducible exact Calls.regrown_of (hac.out _)) | (with_reducible exact Calls.regrown_of (had.out _)) | (with_reducible exact Calls.regrown_of (hak.out _)) | (with_reducible exact Calls.regrown_of (hkb.out _)) | (with_reducible exact Calls.regrown_of (hkk.out _)))))
        refine wpQuiet_nil ?_
        intro w14 k14
        go_wp2
        go_ret
        exact ⟨rfl, b13.trans (k14.mono b13.size)⟩
  · cases e0
    · have p1 := P1.out
      refine wp_region_qb (by kernel_rfl) (by kernel_rfl) ?_
      repeat (first
        | go_big_quiet_skip
        | (go_big_quiet_want; refine q_load (.tmp 4) rfl w.heap.size rfl a x12.regrown ?_; go_simp; go_big_quiet_on)
        | (go_big_quiet_want; refine q_load (.tmp 5) rfl (w.heap.size + 1) rfl b y12.regrown ?_; go_simp; go_big_quiet_on)
        | (go_big_quiet_want; refine q_load (.tmp 6) rfl (w.heap.size + 1 + 1) rfl c z12.regrown ?_; go_simp; go_big_quiet_on)
        | (go_big_quiet_want; refine q_load (.tmp 12) rfl w10.heap.size rfl k q12.regrown ?_; go_simp; go_big_quiet_on)
        | (go_big_quiet_want; go_big_quiet_op; first | go_big_quiet_on | go_big_quiet_call (first | (with_reducible exact Calls.regrown_of (hab.out _)) | (with_reducible exact Calls.regrown_of (hbc.out _)) | (with_reducible exact Calls.regrown_of (hba.out _)) | (with_reducible exact Calls.regrown_of (hac.out _)) | (with_reducible exact Calls.regrown_of (had.out _)) | (with_reducible exact Calls.regrown_of (hak.out _)) | (with_reducible exact Calls.regrown_of (hkb.out _)) | (with_reducible exact Calls.regrown_of (hkk.out _)))))
      refine wpQuiet_nil ?_
      intro w13 k13
      have x13 := x12.below k13 x12.lt
      have d13 := d12.below k13 d12.lt
      have q13 := q12.below k13 q12.lt
      have b13 := b12.trans (k13.mono b12.size)
      clear x12 y12 z12 d12 q12 b12 k13 p0 p1 p3 p4 hq1 nb
      go_wp2_with fail
      refine wp_region_qb (by kernel_rfl) (by kernel_rfl) ?_
      have ca0 := cell_regrown (Blk.cell x13 0 (v := .int .i64 a.k) rfl)
      have ca1 := cell_regrown (Blk.cell x13 1 (v := .int .u64 a.rd) rfl)
      have ck0 := cell_regrown (Blk.cell q13 0 (v := .int .i64 k.k) rfl)
      have ck1 := cell_regrown (Blk.cell q13 1 (v := .int .u64 k.rd) rfl)
      repeat (first
        | go_big_quiet_skip
        | (go_big_quiet_want; refine q_load (.tmp 4) rfl w.heap.size rfl a x13.regrown ?_; go_simp; go_big_quiet_on)
        | (go_big_quiet_want; refine q_load (.tmp 11) rfl w5.heap.size rfl { a with l := la, l2 := la } d13.regrown ?_; go_simp; go_big_quiet_on)
        | (go_big_quiet_want; refine q_load (.tmp 12) rfl w10.heap.size rfl k q13.regrown ?_; go_simp; go_big_quiet_on)
        | (go_big_quiet_want; go_big_quiet_op; first | go_big_quiet_on | go_big_quiet_call (first | (with_reducible exact Calls.regrown_of (hab.out _)) | (with_reducible exact Calls.regrown_of (hbc.out _)) | (with_reducible exact Calls.regrown_of (hba.out _)) | (with_reducible exact Calls.regrown_of (hac.out _)) | (with_reducible exact Calls.regrown_of (had.out _)) | (with_reducible exact Calls.regrown_of (hak.out _)) | (with_reducible exact Calls.regrown_of (hkb.out _)) | (with_reducible exact Calls.regrown_of (hkk.out _)))))
      refine wpQuiet_nil ?_
      intro w14 k14
      go_wp2
      go_ret
      exact ⟨rfl, b13.trans (k14.mono b13.size)⟩
    · exfalso
      have := P1.out
      have hx : x = 0 := by simpa using this
      omega

end Go.Proofs.Ythjcffklgailcaa
