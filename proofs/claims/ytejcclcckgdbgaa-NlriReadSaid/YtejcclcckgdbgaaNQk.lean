/- The reference of layer 4: Bytes at kinds 1, 3, 4, and of routes that are not valid. No condition. -/
import Derived.Test.YtejcclcckgdbgaaNQh
import Derived.Test.YtejcclcckgdbgaaNBg
import Derived.Test.YtejcclcckgdbgaaNAp
import Derived.Test.YtejcclcckgdbgaaNBy
namespace Go.Proofs.Ytejcclcckgdbgaa
open Go.RowKit Go.Sort
set_option linter.unusedVariables false
set_option linter.unusedSimpArgs false
set_option maxRecDepth 100000

theorem eqE_comm (e f : Nat → Int) : eqE e f = eqE f e := by
  cases h : eqE e f with
  | true => exact ((eqE_iff f e).2 fun j hj => ((eqE_iff e f).1 h j hj).symm).symm
  | false =>
    cases h2 : eqE f e with
    | false => rfl
    | true =>
      have := (eqE_iff e f).2 fun j hj => ((eqE_iff f e).1 h2 j hj).symm
      rw [this] at h
      cases h
theorem bc (a b : Int) : (a == b) = (b == a) := by
  by_cases h : a = b
  · subst h; rfl
  · have h' : ¬ b = a := fun e => h e.symm
    rw [show (a == b) = false by simpa using h, show (b == a) = false by simpa using h']
theorem bcb (a b : Bool) : (a == b) = (b == a) := by cases a <;> cases b <;> rfl
theorem NL.eqb_comm (n m : NL) : n.eqb m = m.eqb n := by
  unfold NL.eqb
  rw [bc n.k, bc n.rd, eqE_comm n.e, bc n.t, bc n.m, bc n.ip, bcb n.h, bc n.pi, bc n.pn, bc n.g, bc n.l, bc n.l2]
section
variable {ops : Array Oper} {rest : List Oper} {o : Oper} {a : Act} {w : World} {Q : Exit → Act → World → Prop}
theorem at_neqNL (hgd : o.guard = none) (x y : Operand) (ho : o.op = .binOp .neq 36 x y 36) (n m : NL) (hx : a.eval x = n.v) (hy : a.eval y = m.v) (h : wpList Try.prog ops Q rest (a.put o.dst (.bool (!(n.eqb m)))) w) : wpList Try.prog ops Q (o :: rest) a w :=
  wpList_plain hgd fun _ hK => by
    have h2 : Sem.run Try.prog (Op.equal 36 n.v m.v) w = .ok (n.eqb m) w := eqN n m w
    have hr : (binOp .neq 36 n.v m.v).run Try.prog w = .ok (.bool (!(n.eqb m))) w := by
      unfold NL.v at h2 ⊢
      simp [binOp, h2]
    have hg : Sem.run Try.prog (eqGuard .neq 36 x y n.v m.v) w = .ok () w := by kernel_rfl
    unfold Oper.wp execOp
    simp only [ho, hx, hy, Sem.run_bind, hg, hr, Sem.run_pure, Result.andThen_ok]
    exact hK _ _ h
theorem at_neqPf (hgd : o.guard = none) (x y : Operand) (ho : o.op = .binOp .neq 34 x y 34) (p q p' q' : Int) (hx : a.eval x = .agg #[.int .u32 p, .int .i64 q]) (hy : a.eval y = .agg #[.int .u32 p', .int .i64 q']) (h : wpList Try.prog ops Q rest (a.put o.dst (.bool (!((p == p') && (q == q'))))) w) : wpList Try.prog ops Q (o :: rest) a w :=
  wpList_plain hgd fun _ hK => by
    have h2 : Sem.run Try.prog (Op.equal 34 (.agg #[.int .u32 p, .int .i64 q]) (.agg #[.int .u32 p', .int .i64 q'])) w = .ok ((p == p') && (q == q')) w := eqP_top p q p' q' w
    have hr : (binOp .neq 34 (.agg #[.int .u32 p, .int .i64 q]) (.agg #[.int .u32 p', .int .i64 q'])).run Try.prog w = .ok (.bool (!((p == p') && (q == q')))) w := by
      simp only [binOp, Sem.run_bind, h2, Result.andThen_ok, Sem.run_pure]
    have hg : Sem.run Try.prog (eqGuard .neq 34 x y (.agg #[.int .u32 p, .int .i64 q]) (.agg #[.int .u32 p', .int .i64 q'])) w = .ok () w := by kernel_rfl
    unfold Oper.wp execOp
    simp only [ho, hx, hy, Sem.run_bind, hg, hr, Sem.run_pure, Result.andThen_ok]
    exact hK _ _ h
end
set_option maxHeartbeats 4000000 in
theorem rchk_is (n : NL) (w : World) : Calls Try.prog 18 #[n.v] w fun r w' => r = .returned (.int .i64 n.chk) ∧ Below w.heap.size w w' := by
  by_cases hl : lay n.k = none
  · have hO := fun w => only_none n hl w
    have hc : n.chk = 6 := by unfold NL.chk; rw [if_pos hl]
    have HC := Lib.hid hc
    clear hc hl
    unfold NL.v at hO ⊢
    go_enter Try.func18, Try.ntmps18
    go_wp2_with (first
      | (refine at_box rfl _ rfl n rfl ?_; rintro w1 ⟨x1, k1, s1⟩; clear s1)
      | (refine at_load rfl _ rfl w.heap.size rfl n x1 ?_))
    go_at_call 38
    refine (hO _).mono ?_
    rintro r w2 ⟨rfl, k2⟩
    have K2 := k1.trans (k2.mono k1.size)
    go_wp2_with (first
      | (refine at_new rfl rfl ?_; rintro w3 ⟨z3, k3, s3⟩; clear s3)
      | (refine at_store rfl _ _ rfl rfl w2.heap.size rfl NL.zero (o0 n) rfl z3 ?_; rintro w4 g4))
    go_ret
    exact ⟨by rw [HC.out]; rfl, K2.trans ((But.below k3 g4.but (Nat.le_refl _) k3.size).mono K2.size)⟩
  · have hO := fun w => only_is n hl w
    have hcq : ∀ c, (if n.eqb n.norm = false then (3 : Int) else if 281474976710655 < n.m ∨ 16777215 < n.l ∨ 16777215 < n.l2 ∨ vld n.pn = false then 2 else if ((n.pi == cln n.pi n.pn) && (n.pn == n.pn)) = false then 3 else 0) = c → n.chk = c := fun c h => by
      unfold NL.chk
      rw [if_neg hl]
      exact h
    have HC := Lib.hid hcq
    clear hcq hl
    have hcomm := NL.eqb_comm n.norm n
    generalize n.norm = m at hO HC hcomm
    unfold NL.v at hO ⊢
    go_enter Try.func18, Try.ntmps18
    go_wp2_with (first
      | (refine at_box rfl _ rfl n rfl ?_; rintro w1 ⟨x1, k1, s1⟩; clear s1)
      | (refine at_load rfl _ rfl w.heap.size rfl n x1 ?_))
    go_at_call 38
    refine (hO _).mono ?_
    rintro r w2 ⟨rfl, k2⟩
    have K2 := k1.trans (k2.mono k1.size)
    have x2 := x1.below k2 x1.lt
    go_upto_region 4 with (first
      | (refine at_new rfl rfl ?_; rintro w3 ⟨z3, k3, s3⟩; clear s3)
      | (refine at_store rfl _ _ rfl rfl w2.heap.size rfl NL.zero m rfl z3 ?_; rintro w4 g4; have o4 := g4.bx; have k4 := But.below k3 g4.but (Nat.le_refl _) k3.size; have x4 := x2.below k4 x2.lt; have K4 := K2.trans (k4.mono K2.size); clear g4 k4 k3 z3))
    clear hO x1 x2 k1 k2 K2
    cases hq : n.eqb m with
    | false =>
      rw [hq] at hcomm
      have hF := HC.out 3 (by rw [if_pos hq])
      have HF := Lib.hid hF
      clear hF hq
      go_wp2_with (first
        | (refine at_load rfl (.tmp 3) rfl w2.heap.size rfl m o4 ?_)
        | (refine at_load rfl (.tmp 1) rfl w.heap.size rfl n x4 ?_)
        | (refine at_neqNL rfl (.tmp 16) (.tmp 17) rfl m n rfl rfl ?_; rw [hcomm]))
      go_ret
      exact ⟨by rw [HF.out]; rfl, K4⟩
    | true =>
      rw [hq] at hcomm
      have hC2 : ∀ c, (if 281474976710655 < n.m ∨ 16777215 < n.l ∨ 16777215 < n.l2 ∨ vld n.pn = false then (2 : Int) else if ((n.pi == cln n.pi n.pn) && (n.pn == n.pn)) = false then 3 else 0) = c → n.chk = c := fun c h => HC.out c (by rw [if_neg (by simp [hq])]; exact h)
      have HC2 := Lib.hid hC2
      clear hC2 HC hq
      go_upto_region 6 with (first
        | (refine at_load rfl (.tmp 3) rfl w2.heap.size rfl m o4 ?_)
        | (refine at_load rfl (.tmp 1) rfl w.heap.size rfl n x4 ?_)
        | (refine at_neqNL rfl (.tmp 16) (.tmp 17) rfl m n rfl rfl ?_; rw [hcomm]))
      clear hcomm o4
      have c13 := Blk.cell x4 13 (v := .int .u64 n.m) rfl
      have c19 := Blk.cell x4 19 (v := .int .u32 n.l) rfl
      have c20 := Blk.cell x4 20 (v := .int .u32 n.l2) rfl
      have c17 := Blk.cell x4 17 (v := .int .i64 n.pn) rfl
      have c16 := Blk.cell x4 16 (v := .int .u32 n.pi) rfl
      have bad : (281474976710655 < n.m ∨ 16777215 < n.l ∨ 16777215 < n.l2 ∨ vld n.pn = false) → n.chk = 2 := fun h => HC2.out 2 (by rw [if_pos h])
      have HB := Lib.hid bad
      clear bad
      by_cases h1 : 281474976710655 < n.m
      · have HF := Lib.hid (HB.out (.inl h1))
        go_wp2
        go_ret
        exact ⟨by rw [HF.out]; rfl, K4⟩
      by_cases h2 : 16777215 < n.l
      · have HF := Lib.hid (HB.out (.inr (.inl h2)))
        go_wp2
        go_ret
        exact ⟨by rw [HF.out]; rfl, K4⟩
      by_cases h3 : 16777215 < n.l2
      · have HF := Lib.hid (HB.out (.inr (.inr (.inl h3))))
        go_wp2
        go_ret
        exact ⟨by rw [HF.out]; rfl, K4⟩
      by_cases h4 : n.pn < 0
      · have HF := Lib.hid (HB.out (.inr (.inr (.inr (by unfold vld; rw [decide_eq_false (by omega)]; rfl)))))
        go_wp2
        go_ret
        exact ⟨by rw [HF.out]; rfl, K4⟩
      by_cases h5 : 32 < n.pn
      · have HF := Lib.hid (HB.out (.inr (.inr (.inr (by unfold vld; rw [decide_eq_false (show ¬ n.pn ≤ 32 by omega), Bool.and_false])))))
        go_wp2
        go_ret
        exact ⟨by rw [HF.out]; rfl, K4⟩
      have hv : vld n.pn = true := by unfold vld; rw [decide_eq_true (show 0 ≤ n.pn by omega), decide_eq_true (show n.pn ≤ 32 by omega)]; rfl
      have hCl := fun w => rclean_is n.pi n.pn w
      simp only [clnA, clnN, clnE, hv, if_true] at hCl
      have hC3 : ∀ c, (if ((n.pi == cln n.pi n.pn) && (n.pn == n.pn)) = false then (3 : Int) else 0) = c → n.chk = c := fun c h => HC2.out c (by rw [if_neg (by rw [hv]; simp; omega)]; exact h)
      have HC3 := Lib.hid hC3
      clear hC3 HC2 HB hv
      go_wp2_with fail
      go_at_call 39
      refine (hCl _).mono ?_
      rintro r w5 ⟨rfl, k5⟩
      have x5 := x4.below k5 x4.lt
      have K5 := K4.trans (k5.mono K4.size)
      clear c13 c19 c20 c17 c16 hCl x4 K4 k5
      have hb := bc n.pi (cln n.pi n.pn)
      generalize cln n.pi n.pn = cl at HC3 hb ⊢
      have d16 := Blk.cell x5 16 (v := .int .u32 n.pi) rfl
      have d17 := Blk.cell x5 17 (v := .int .i64 n.pn) rfl
      go_upto_region 9 with (first
        | (refine at_newP rfl rfl ?_; rintro w6 H6 k6 s6; clear s6)
        | (refine at_storeP rfl _ _ rfl rfl w5.heap.size rfl _ _ cl n.pn rfl H6 ?_; rintro w7 H7 k7; have k67 := k6.trans (k7 _ (Nat.le_refl _)); have x7 := x5.below k67 x5.lt; have K7 := K5.trans (k67.mono K5.size); clear k6 k7 H6))
      clear d16 d17
      have c16 := Blk.cell x7 16 (v := .int .u32 n.pi) rfl
      have c17 := Blk.cell x7 17 (v := .int .i64 n.pn) rfl
      have P7 := x7.rangeP
      cases he : (n.pi == cl) with
      | false =>
        rw [he] at hb
        have HF := Lib.hid (HC3.out 3 (by rw [he]; rfl))
        go_wp2_with (first
          | (refine at_loadP rfl (.tmp 5) rfl w5.heap.size rfl cl n.pn H7 ?_)
          | (refine wpList_load_mid rfl 34 (.tmp 52) rfl w.heap.size 16 rfl _ _ P7 Try.underlying34 rfl szP ?_)
          | (refine at_neqPf rfl (.tmp 51) (.tmp 53) rfl cl n.pn n.pi n.pn rfl rfl ?_; rw [← hb, Bool.false_and, Bool.not_false]))
        go_ret
        exact ⟨by rw [HF.out]; rfl, K7⟩
      | true =>
        rw [he] at hb
        have HF := Lib.hid (HC3.out 0 (by rw [he]; simp))
        go_wp2_with (first
          | (refine at_loadP rfl (.tmp 5) rfl w5.heap.size rfl cl n.pn H7 ?_)
          | (refine wpList_load_mid rfl 34 (.tmp 52) rfl w.heap.size 16 rfl _ _ P7 Try.underlying34 rfl szP ?_)
          | (refine at_neqPf rfl (.tmp 51) (.tmp 53) rfl cl n.pn n.pi n.pn rfl rfl ?_; rw [← hb, Bool.true_and, show (n.pn == n.pn) = true by simp, Bool.not_true]))
        go_ret
        exact ⟨by rw [HF.out]; rfl, K7⟩
end Go.Proofs.Ytejcclcckgdbgaa
namespace Go.Proofs.Ytejcclcckgdbgaa
open Go.RowKit Go.Sort
set_option linter.unusedVariables false
set_option linter.unusedSimpArgs false
set_option maxRecDepth 100000

theorem run_lit1 (w : World) (x : Int) : (Instr.buildSlice 23 1 #[(0, .int .u8 x)]).run Try.prog w = .ok (.slice (some ⟨w.heap.size, 0, none⟩) 1 1) (w.alloc (.cells #[.int .u8 x] 5)) := by kernel_rfl
theorem dat_one (w : World) (x : Int) : Dat (w.alloc (.cells #[.int .u8 x] 5)) (.slice (some ⟨w.heap.size, 0, none⟩) 1 1) [x] := by
  refine Dat.mk (xs := [x]) (cs := [.int .u8 x]) (Nat.le_refl 1) (by decide) ?_ rfl rfl
  exact World.alloc_heap_new w _
theorem at_lit1 {ops : Array Oper} {rest : List Oper} {o : Oper} {a : Act} {w : World} {Q : Exit → Act → World → Prop} (hgd : o.guard = none) (y : Operand) (ho : o.op = .buildSlice 23 1 #[(0, y)]) (x : Int) (hy : a.eval y = .int .u8 x)
    (h : ∀ w' v, Dat w' v [x] → Below w.heap.size w w' → wpList Try.prog ops Q rest (a.put o.dst v) w') : wpList Try.prog ops Q (o :: rest) a w :=
  wpList_plain hgd fun _ hK => by
    unfold Oper.wp execOp
    simp only [ho, List.map_toArray, List.map_cons, List.map_nil, hy, Sem.run_bind, run_lit1, Result.andThen_ok, Sem.run_pure]
    exact hK _ _ (h _ _ (dat_one w x) ((Below.refl _ w).alloc (Nat.le_refl _) _))
theorem at_app {ops : Array Oper} {rest : List Oper} {o : Oper} {a : Act} {w : World} {Q : Exit → Act → World → Prop} (hgd : o.guard = none) (s x : Operand) (ho : o.op = .call { callee := .builtin .append, args := #[s, x], argTypes := #[23, 23] }) (vs vx : Value) (hs : a.eval s = vs) (hx : a.eval x = vx)
    (B : Nat) (ys zs : List Int) (hv : DatB B w vs ys) (hu : Dat w vx zs) (hB : B ≤ w.heap.size) (hl : ys.length + zs.length ≤ 1000000)
    (h : ∀ w' v, DatB B w' v (ys ++ zs) → Below B w w' → w.heap.size ≤ w'.heap.size → wpList Try.prog ops Q rest (a.put o.dst v) w') : wpList Try.prog ops Q (o :: rest) a w := by
  obtain ⟨v', w', hr, hd, hg⟩ := append_dat w o.type B vs vx ys zs hv hu hB (by omega)
  have hb : Below B w w' := (Below.refl B w).grown hg hB fun k hk => (World.ownsRow.lt hv k hk).1
  exact Lib.wpList_append_run _ hgd s x 23 23 ho _ _ hs hx _ _ hr (h w' v' hd hb hg.size)
theorem byte_at (n : Int) (h0 : 0 ≤ n) (j : Nat) : n / 2 ^ (8 * j) % 256 = ((n.toNat / 256 ^ j % 256 : Nat) : Int) := by
  obtain ⟨N, rfl⟩ := Int.eq_ofNat_of_zero_le h0
  rw [Int.toNat_natCast, show (256 : Nat) ^ j = 2 ^ (8 * j) by rw [Nat.pow_mul]]
  simp
set_option maxHeartbeats 2000000 in
theorem put_is (B : Nat) (xs : List Int) (hx : xs.length ≤ 1000) (v : Value) (n : Int) (k : Nat) (h0 : 0 ≤ n) (h1 : n < 18446744073709551616) (hk : k ≤ 8) (w : World) (hB : B ≤ w.heap.size) (hd : DatB B w v xs) :
    Calls Try.prog 36 #[v, .int .u64 n, .int .i64 k] w fun r w' => ∃ v', r = .returned v' ∧ DatB B w' v' (xs ++ enc k n.toNat) ∧ Below B w w' ∧ w.heap.size ≤ w'.heap.size := by
  go_enter Try.func36, Try.ntmps36
  go_wp2_with fail
  go_loopw [0, 7] (fun v0 v7 wr => ∃ (r : Nat) (ys : List Int), r ≤ k ∧ v7 = .int .i64 ((r : Int) - 1) ∧ DatB B wr v0 ys ∧ Hid (ys ++ enc r n.toNat = xs ++ enc k n.toNat) ∧ ys.length ≤ 1008 ∧ Below B w wr ∧ w.heap.size ≤ wr.heap.size) (fun _ v7 _ => (intOf v7 + 1).toNat)
  case atStart => exact ⟨k, xs, Nat.le_refl _, rfl, hd, Lib.hid rfl, by omega, Below.refl _ _, Nat.le_refl _⟩
  case round =>
    clear hd
    obtain ⟨r, ys, hr, rfl, hD, hE, hl, hb, hs⟩ := hrel
    cases r with
    | zero =>
      have he := hE.out
      have he2 : ys = xs ++ enc k n.toNat := by rw [← he]; simp [enc]
      subst he2
      clear hE he
      go_wp2
      go_ret
      exact ⟨_, rfl, hD, hb, hs⟩
    | succ j =>
      have hj : ((j + 1 : Nat) : Int) - 1 = j := by omega
      have hj0 : (0 : Int) ≤ j := by omega
      have hj8 : (j : Int) < 8 := by omega
      rw [hj]
      clear hj
      go_upto_region 4 with fail
      have hx' := byte_at n h0 j
      obtain ⟨x, hxx⟩ : ∃ x, n / 2 ^ (8 * j) % 256 = x := ⟨_, rfl⟩
      rw [hxx] at hx'
      have hen : ys ++ [x] ++ enc j n.toNat = xs ++ enc k n.toNat := by
        rw [hx', List.append_assoc]
        exact hE.out
      have HEN := Lib.hid hen
      have hyl : ys.length + 1 ≤ 1008 := by
        have := congrArg List.length hE.out
        rw [List.length_append, List.length_append, enc_length, enc_length] at this
        omega
      clear hen hE hx'
      go_wp2_with (first
        | (refine at_lit1 rfl (.tmp 19) rfl x (by rw [← hxx]; rfl) ?_; rintro w1 u1 D1 k1)
        | (refine at_app rfl (.tmp 14) (.tmp 20) rfl _ _ rfl rfl B ys [x] (DatB.below hD k1) D1 (by have := k1.size; omega) (by simp; omega) ?_; rintro w2 u2 D2 b2 s2))
      have hB2 := hb.trans ((k1.mono (by omega)).trans b2)
      have hs2 : w.heap.size ≤ w2.heap.size := by have := k1.size; omega
      clear D1 k1 b2 s2 hD hb
      go_roundw
      case rel => exact ⟨j, ys ++ [x], by omega, by go_num, D2, HEN, by simp; omega, hB2, hs2⟩
      case measure => first | (simp [intOf]; done) | (simp [intOf]; omega)
def adrB (ip : Int) (h : Bool) : List Int := if h then enc 1 32 ++ enc 4 ip.toNat else enc 1 0
theorem address_is (B : Nat) (xs : List Int) (hx : xs.length ≤ 900) (v : Value) (ip : Int) (h : Bool) (h0 : 0 ≤ ip) (h1 : ip < 4294967296) (w : World) (hB : B ≤ w.heap.size) (hd : DatB B w v xs) :
    Calls Try.prog 37 #[v, .int .u32 ip, .bool h] w fun r w' => ∃ v', r = .returned v' ∧ DatB B w' v' (xs ++ adrB ip h) ∧ Below B w w' ∧ w.heap.size ≤ w'.heap.size := by
  cases h with
  | false =>
    go_enter Try.func37, Try.ntmps37
    go_wp2_with (first
      | (refine at_lit1 rfl (.const (.int .u8 0)) rfl 0 rfl ?_; rintro w1 u1 D1 k1)
      | (refine at_app rfl (.tmp 9) (.tmp 10) rfl _ _ rfl rfl B xs [0] (DatB.below hd k1) D1 (by have := k1.size; omega) (by simp; omega) ?_; rintro w2 u2 D2 b2 s2))
    go_ret
    exact ⟨_, rfl, D2, (k1.mono hB).trans b2, by have := k1.size; omega⟩
  | true =>
    go_enter Try.func37, Try.ntmps37
    go_wp2_with (first
      | (refine at_lit1 rfl (.const (.int .u8 32)) rfl 32 rfl ?_; rintro w1 u1 D1 k1)
      | (refine at_app rfl (.tmp 12) (.tmp 13) rfl _ _ rfl rfl B xs [32] (DatB.below hd k1) D1 (by have := k1.size; omega) (by simp; omega) ?_; rintro w2 u2 D2 b2 s2))
    go_at_call 36
    have hs2 : w.heap.size ≤ w2.heap.size := by have := k1.size; omega
    refine (put_is B (xs ++ [32]) (by simp; omega) u2 ip 4 h0 (by omega) (by decide) w2 (by omega) D2).mono ?_
    rintro r w3 ⟨v3, rfl, D3, b3, s3⟩
    rw [show xs ++ [32] ++ enc 4 ip.toNat = xs ++ adrB ip true by rw [List.append_assoc]; rfl] at D3
    clear D1 D2 hd
    go_wp2
    go_ret
    exact ⟨_, rfl, D3, ((k1.mono hB).trans b2).trans b3, by omega⟩
end Go.Proofs.Ytejcclcckgdbgaa
namespace Go.Proofs.Ytejcclcckgdbgaa
open Go.RowKit Go.Sort
set_option linter.unusedVariables false
set_option linter.unusedSimpArgs false
set_option maxRecDepth 100000

theorem append_seg (w : World) (ty : TypeId) (B : Nat) (v : Value) (ys zs : List Int) (b o len cap : Nat) (hv : DatB B w v ys) (hz' : zs.length = len) (hc : ∀ j u, (zs.map (Value.int .u8))[j]? = some u → w.cell? ⟨b, o + j, none⟩ = some u) (hB : B ≤ w.heap.size) (hl : ys.length + zs.length ≤ 1000000) :
    ∃ v' w', (Builtin.append_ #[23, 23] ty #[v, .slice (some ⟨b, o, none⟩) len cap]).run Try.prog w = .ok v' w' ∧ DatB B w' v' (ys ++ zs) ∧ w.grownBy w' v.ownBlock := by
  obtain ⟨i, hi, hz, hs, hb⟩ := info_u8
  subst hz'
  obtain ⟨v', w', hr, ho, hgr, -⟩ := run_append_own (P := Try.prog) w B 23 ty 5 i (.int .u8 0) 1 1 Try.underlying23 hi hz hs hb rfl (by decide) v ys.length _ hv ⟨b, o, none⟩ zs.length cap (zs.map (Value.int .u8)) (by simp) (fun j u hj => by rw [add_is]; exact hc j u hj) (by simp [Value.oneCell']) (by unfold maxLen; omega) (by omega) hB
  refine ⟨v', w', hr, ?_, hgr⟩
  unfold DatB
  simpa using ho
theorem at_appS {ops : Array Oper} {rest : List Oper} {o : Oper} {a : Act} {w : World} {Q : Exit → Act → World → Prop} (hgd : o.guard = none) (s x : Operand) (ho : o.op = .call { callee := .builtin .append, args := #[s, x], argTypes := #[23, 23] }) (vs : Value) (hs : a.eval s = vs) (b of len cap : Nat) (hx : a.eval x = .slice (some ⟨b, of, none⟩) len cap)
    (B : Nat) (ys zs : List Int) (hv : DatB B w vs ys) (hz' : zs.length = len) (hc : ∀ j u, (zs.map (Value.int .u8))[j]? = some u → w.cell? ⟨b, of + j, none⟩ = some u) (hB : B ≤ w.heap.size) (hl : ys.length + zs.length ≤ 1000000)
    (h : ∀ w' v, DatB B w' v (ys ++ zs) → Below B w w' → w.heap.size ≤ w'.heap.size → wpList Try.prog ops Q rest (a.put o.dst v) w') : wpList Try.prog ops Q (o :: rest) a w := by
  obtain ⟨v', w', hr, hd, hg⟩ := append_seg w o.type B vs ys zs b of len cap hv hz' hc hB hl
  have hb : Below B w w' := (Below.refl B w).grown hg hB fun k hk => (World.ownsRow.lt hv k hk).1
  exact Lib.wpList_append_run _ hgd s x 23 23 ho _ _ hs hx _ _ hr (h w' v' hd hb hg.size)
theorem run_lit2 (w : World) (x y : Int) : (Instr.buildSlice 23 2 #[(0, .int .u8 x), (1, .int .u8 y)]).run Try.prog w = .ok (.slice (some ⟨w.heap.size, 0, none⟩) 2 2) (w.alloc (.cells #[.int .u8 x, .int .u8 y] 5)) := by kernel_rfl
theorem at_lit2 {ops : Array Oper} {rest : List Oper} {o : Oper} {a : Act} {w : World} {Q : Exit → Act → World → Prop} (hgd : o.guard = none) (p q : Operand) (ho : o.op = .buildSlice 23 2 #[(0, p), (1, q)]) (x y : Int) (hp : a.eval p = .int .u8 x) (hq : a.eval q = .int .u8 y) (B : Nat) (hB : B ≤ w.heap.size)
    (h : ∀ w' v, DatB B w' v [x, y] → Below w.heap.size w w' → wpList Try.prog ops Q rest (a.put o.dst v) w') : wpList Try.prog ops Q (o :: rest) a w :=
  wpList_plain hgd fun _ hK => by
    unfold Oper.wp execOp
    simp only [ho, List.map_toArray, List.map_cons, List.map_nil, hp, hq, Sem.run_bind, run_lit2, Result.andThen_ok, Sem.run_pure]
    exact hK _ _ (h _ _ (DatB.lit hB x y) ((Below.refl _ w).alloc (Nat.le_refl _) _))
theorem Bx.esiCells {w : World} {b : Nat} {n : NL} (h : Bx w b n) : ∀ j u, ((esiL n.e).map (Value.int .u8))[j]? = some u → w.cell? ⟨b, 2 + j, none⟩ = some u := fun j u hu => h.range j u (by
  have : (esiL n.e).map (Value.int .u8) = esi n.e := rfl
  rwa [this] at hu)
theorem esiL_len (e : Nat → Int) : (esiL e).length = 10 := rfl
theorem datB_nil (B : Nat) (w : World) : DatB B w (.slice none 0 0) [] := World.ownsRow_nil w _ _ _
set_option maxHeartbeats 2000000 in
theorem rbytes_bad (n : NL) (hc : n.chk ≠ 0) (w : World) : Calls Try.prog 16 #[n.v] w fun r w' => r = .returned (.tuple #[.slice none 0 0, .int .i64 n.chk]) ∧ Below w.heap.size w w' := by
  have hC := fun w => rchk_is n w
  have A : (n.chk != 0) = true := by simpa using hc
  generalize n.chk = x at hC A ⊢
  clear hc
  unfold NL.v at hC ⊢
  go_enter Try.func16, Try.ntmps16
  go_wp2_with (first
    | (refine at_box rfl _ rfl n rfl ?_; rintro w1 ⟨x1, k1, s1⟩; clear s1)
    | (refine at_load rfl _ rfl w.heap.size rfl n x1 ?_))
  go_at_call 18
  refine (hC _).mono ?_
  rintro r w2 ⟨rfl, k2⟩
  go_wp2
  go_ret2
  exact ⟨rfl, k1.trans (k2.mono k1.size)⟩
set_option maxHeartbeats 4000000 in
theorem rbytes_1 (n : NL) (hn : n.Ok) (hk : n.k = 1) (hc : n.chk = 0) (w : World) : Calls Try.prog 16 #[n.v] w fun r w' => ∃ v, r = .returned (.tuple #[v, .int .i64 0]) ∧ Dat w' v n.code ∧ Below w.heap.size w w' := by
  have hcode : n.code = [1, (n.val.length : Int)] ++ n.val := by unfold NL.code; rw [hk]; rfl
  have hval : n.val = enc 8 n.rd.toNat ++ esiL n.e ++ enc 4 n.t.toNat ++ enc 3 n.l.toNat := by unfold NL.val; rw [if_pos hk]; rfl
  have hvl : n.val.length = 25 := by rw [hval]; simp [enc_length, esiL_len, adrB]
  rw [hcode, hvl, hval]
  clear hcode hval hvl
  have hC := fun w => rchk_is n w
  rw [hc] at hC
  obtain ⟨r0, r1⟩ := hn.rd
  obtain ⟨t0, t1⟩ := hn.t
  obtain ⟨l0, l1⟩ := hn.l
  obtain ⟨i0, i1⟩ := hn.ip
  clear hc hn
  unfold NL.v at hC ⊢
  go_enter Try.func16, Try.ntmps16
  go_wp2_with (first
    | (refine at_box rfl _ rfl n rfl ?_; rintro w1 ⟨x1, k1, s1⟩; clear s1)
    | (refine at_load rfl _ rfl w.heap.size rfl n x1 ?_))
  go_at_call 18
  refine (hC _).mono ?_
  rintro r w2 ⟨rfl, k2⟩
  have x2 := x1.below k2 x1.lt
  have K2 := k1.trans (k2.mono k1.size)
  clear hC x1 k1 k2
  have a0 := Blk.cell x2 0 (v := .int .i64 n.k) rfl
  rw [hk] at a0
  have a1 := Blk.cell x2 1 (v := .int .u64 n.rd) rfl
  go_wp2_with fail
  go_at_call 36
  refine (put_is w2.heap.size [] (by decide) (.slice none 0 0) n.rd 8 r0 r1 (by decide) w2 (Nat.le_refl _) (datB_nil _ _)).mono ?_
  rintro r w3 ⟨v3, rfl, D3, e3, -⟩
  rw [List.nil_append] at D3
  clear a0 a1
  have x3 := x2.below e3 x2.lt
  have a0 := Blk.cell x3 0 (v := .int .i64 n.k) rfl
  rw [hk] at a0
  have a2 := Blk.cell x3 12 (v := .int .u32 n.t) rfl
  have a3 := Blk.cell x3 14 (v := .int .u32 n.ip) rfl
  go_wp2_with (refine at_appS rfl (.tmp 17) (.tmp 19) rfl _ rfl w.heap.size 2 10 10 rfl w2.heap.size (enc 8 n.rd.toNat) (esiL n.e) D3 (esiL_len _) x3.esiCells e3.size (by rw [enc_length, esiL_len]; decide) ?_; rintro w4 v4 D4 f4 -; have e4 := e3.trans f4; have x4 := x2.below e4 x2.lt; have g0 := Blk.cell x4 0 (v := .int .i64 n.k) rfl; rw [hk] at g0; have g2 := Blk.cell x4 12 (v := .int .u32 n.t) rfl; have g3 := Blk.cell x4 14 (v := .int .u32 n.ip) rfl; clear a0 a2 a3 f4 D3)
  go_at_call 36
  refine (put_is w2.heap.size (enc 8 n.rd.toNat ++ esiL n.e) (by simp [enc_length, esiL_len]) v4 n.t 4 t0 (by omega) (by decide) w4 e4.size D4).mono ?_
  rintro r w5 ⟨v5, rfl, D5, f5, -⟩
  have e5 := e4.trans f5
  clear g0 g2 g3 D4 f5
  have x5 := x2.below e5 x2.lt
  have g0 := Blk.cell x5 0 (v := .int .i64 n.k) rfl
  rw [hk] at g0
  have g3 := Blk.cell x5 14 (v := .int .u32 n.ip) rfl
  have g4 := Blk.cell x5 19 (v := .int .u32 n.l) rfl
  go_wp2_with fail
  go_at_call 36
  refine (put_is w2.heap.size (enc 8 n.rd.toNat ++ esiL n.e ++ enc 4 n.t.toNat) (by simp [enc_length, esiL_len]) v5 n.l 3 l0 (by omega) (by decide) w5 e5.size D5).mono ?_
  rintro r w6 ⟨v6, rfl, D6, f6, -⟩
  have e6 := e5.trans f6
  clear D5 f6
  have hlen : (enc 8 n.rd.toNat ++ esiL n.e ++ enc 4 n.t.toNat ++ enc 3 n.l.toNat).length = 25 := by simp [enc_length, esiL_len, adrB]
  obtain ⟨vl, hvl⟩ : ∃ vl, enc 8 n.rd.toNat ++ esiL n.e ++ enc 4 n.t.toNat ++ enc 3 n.l.toNat = vl := ⟨_, rfl⟩
  rw [hvl] at D6 hlen
  have HVL := Lib.hid hvl
  obtain ⟨sa, sc, hsh⟩ := (DatB.dat D6).shape
  rw [hlen] at hsh
  subst hsh
  clear hvl
  have y6 := x2.below e6 x2.lt
  have h0 := Blk.cell y6 0 (v := .int .i64 n.k) rfl
  rw [hk] at h0
  go_wp2_with (first
    | (refine at_lit2 rfl (.tmp 93) (.tmp 96) rfl 1 25 rfl rfl w2.heap.size e6.size ?_; rintro wl ul Dl kl)
    | (refine at_app rfl (.tmp 97) (.tmp 98) rfl _ _ rfl rfl w2.heap.size [1, 25] vl Dl ((DatB.dat D6).below kl) (by have := kl.size; have := e6.size; omega) (by rw [hlen]; decide) ?_; rintro wf vf Df ff -))
  have ef := e6.trans ((kl.mono e6.size).trans ff)
  go_ret2
  exact ⟨_, rfl, by have q := Df.dat; rw [← HVL.out] at q; exact q, K2.trans (ef.mono K2.size)⟩
set_option maxHeartbeats 4000000 in
theorem rbytes_3 (n : NL) (hn : n.Ok) (hk : n.k = 3) (hc : n.chk = 0) (w : World) : Calls Try.prog 16 #[n.v] w fun r w' => ∃ v, r = .returned (.tuple #[v, .int .i64 0]) ∧ Dat w' v n.code ∧ Below w.heap.size w w' := by
  have hcode : n.code = [3, (n.val.length : Int)] ++ n.val := by unfold NL.code; rw [hk]; rfl
  have hval : n.val = enc 8 n.rd.toNat ++ enc 4 n.t.toNat ++ adrB n.ip true := by unfold NL.val; rw [if_neg (by omega), if_neg (by omega), if_pos hk]; rfl
  have hvl : n.val.length = 17 := by rw [hval]; simp [enc_length, esiL_len, adrB]
  rw [hcode, hvl, hval]
  clear hcode hval hvl
  have hC := fun w => rchk_is n w
  rw [hc] at hC
  obtain ⟨r0, r1⟩ := hn.rd
  obtain ⟨t0, t1⟩ := hn.t
  obtain ⟨l0, l1⟩ := hn.l
  obtain ⟨i0, i1⟩ := hn.ip
  clear hc hn
  unfold NL.v at hC ⊢
  go_enter Try.func16, Try.ntmps16
  go_wp2_with (first
    | (refine at_box rfl _ rfl n rfl ?_; rintro w1 ⟨x1, k1, s1⟩; clear s1)
    | (refine at_load rfl _ rfl w.heap.size rfl n x1 ?_))
  go_at_call 18
  refine (hC _).mono ?_
  rintro r w2 ⟨rfl, k2⟩
  have x2 := x1.below k2 x1.lt
  have K2 := k1.trans (k2.mono k1.size)
  clear hC x1 k1 k2
  have a0 := Blk.cell x2 0 (v := .int .i64 n.k) rfl
  rw [hk] at a0
  have a1 := Blk.cell x2 1 (v := .int .u64 n.rd) rfl
  go_wp2_with fail
  go_at_call 36
  refine (put_is w2.heap.size [] (by decide) (.slice none 0 0) n.rd 8 r0 r1 (by decide) w2 (Nat.le_refl _) (datB_nil _ _)).mono ?_
  rintro r w3 ⟨v3, rfl, D3, e3, -⟩
  rw [List.nil_append] at D3
  clear a0 a1
  have x3 := x2.below e3 x2.lt
  have g0 := Blk.cell x3 0 (v := .int .i64 n.k) rfl
  rw [hk] at g0
  have g2 := Blk.cell x3 12 (v := .int .u32 n.t) rfl
  have g3 := Blk.cell x3 14 (v := .int .u32 n.ip) rfl
  go_wp2_with fail
  go_at_call 36
  refine (put_is w2.heap.size (enc 8 n.rd.toNat) (by simp [enc_length, esiL_len]) v3 n.t 4 t0 (by omega) (by decide) w3 e3.size D3).mono ?_
  rintro r w4 ⟨v4, rfl, D4, f4, -⟩
  have e4 := e3.trans f4
  clear g0 g2 g3 D3 f4
  have x4 := x2.below e4 x2.lt
  have g0 := Blk.cell x4 0 (v := .int .i64 n.k) rfl
  rw [hk] at g0
  have g3 := Blk.cell x4 14 (v := .int .u32 n.ip) rfl
  have g4 := Blk.cell x4 19 (v := .int .u32 n.l) rfl
  go_wp2_with fail
  go_at_call 37
  refine (address_is w2.heap.size (enc 8 n.rd.toNat ++ enc 4 n.t.toNat) (by simp [enc_length, esiL_len]) v4 n.ip true i0 i1 w4 e4.size D4).mono ?_
  rintro r w5 ⟨v5, rfl, D5, f5, -⟩
  have e5 := e4.trans f5
  clear D4 f5
  have hlen : (enc 8 n.rd.toNat ++ enc 4 n.t.toNat ++ adrB n.ip true).length = 17 := by simp [enc_length, esiL_len, adrB]
  obtain ⟨vl, hvl⟩ : ∃ vl, enc 8 n.rd.toNat ++ enc 4 n.t.toNat ++ adrB n.ip true = vl := ⟨_, rfl⟩
  rw [hvl] at D5 hlen
  have HVL := Lib.hid hvl
  obtain ⟨sa, sc, hsh⟩ := (DatB.dat D5).shape
  rw [hlen] at hsh
  subst hsh
  clear hvl
  have y5 := x2.below e5 x2.lt
  have h0 := Blk.cell y5 0 (v := .int .i64 n.k) rfl
  rw [hk] at h0
  go_wp2_with (first
    | (refine at_lit2 rfl (.tmp 93) (.tmp 96) rfl 3 17 rfl rfl w2.heap.size e5.size ?_; rintro wl ul Dl kl)
    | (refine at_app rfl (.tmp 97) (.tmp 98) rfl _ _ rfl rfl w2.heap.size [3, 17] vl Dl ((DatB.dat D5).below kl) (by have := kl.size; have := e5.size; omega) (by rw [hlen]; decide) ?_; rintro wf vf Df ff -))
  have ef := e5.trans ((kl.mono e5.size).trans ff)
  go_ret2
  exact ⟨_, rfl, by have q := Df.dat; rw [← HVL.out] at q; exact q, K2.trans (ef.mono K2.size)⟩
set_option maxHeartbeats 4000000 in
theorem rbytes_4 (n : NL) (hn : n.Ok) (hk : n.k = 4) (hc : n.chk = 0) (w : World) : Calls Try.prog 16 #[n.v] w fun r w' => ∃ v, r = .returned (.tuple #[v, .int .i64 0]) ∧ Dat w' v n.code ∧ Below w.heap.size w w' := by
  have hcode : n.code = [4, (n.val.length : Int)] ++ n.val := by unfold NL.code; rw [hk]; rfl
  have hval : n.val = enc 8 n.rd.toNat ++ esiL n.e ++ adrB n.ip true := by unfold NL.val; rw [if_neg (by omega), if_neg (by omega), if_neg (by omega), if_pos hk]; rfl
  have hvl : n.val.length = 23 := by rw [hval]; simp [enc_length, esiL_len, adrB]
  rw [hcode, hvl, hval]
  clear hcode hval hvl
  have hC := fun w => rchk_is n w
  rw [hc] at hC
  obtain ⟨r0, r1⟩ := hn.rd
  obtain ⟨t0, t1⟩ := hn.t
  obtain ⟨l0, l1⟩ := hn.l
  obtain ⟨i0, i1⟩ := hn.ip
  clear hc hn
  unfold NL.v at hC ⊢
  go_enter Try.func16, Try.ntmps16
  go_wp2_with (first
    | (refine at_box rfl _ rfl n rfl ?_; rintro w1 ⟨x1, k1, s1⟩; clear s1)
    | (refine at_load rfl _ rfl w.heap.size rfl n x1 ?_))
  go_at_call 18
  refine (hC _).mono ?_
  rintro r w2 ⟨rfl, k2⟩
  have x2 := x1.below k2 x1.lt
  have K2 := k1.trans (k2.mono k1.size)
  clear hC x1 k1 k2
  have a0 := Blk.cell x2 0 (v := .int .i64 n.k) rfl
  rw [hk] at a0
  have a1 := Blk.cell x2 1 (v := .int .u64 n.rd) rfl
  go_wp2_with fail
  go_at_call 36
  refine (put_is w2.heap.size [] (by decide) (.slice none 0 0) n.rd 8 r0 r1 (by decide) w2 (Nat.le_refl _) (datB_nil _ _)).mono ?_
  rintro r w3 ⟨v3, rfl, D3, e3, -⟩
  rw [List.nil_append] at D3
  clear a0 a1
  have x3 := x2.below e3 x2.lt
  have a0 := Blk.cell x3 0 (v := .int .i64 n.k) rfl
  rw [hk] at a0
  have a2 := Blk.cell x3 12 (v := .int .u32 n.t) rfl
  have a3 := Blk.cell x3 14 (v := .int .u32 n.ip) rfl
  go_wp2_with (refine at_appS rfl (.tmp 17) (.tmp 19) rfl _ rfl w.heap.size 2 10 10 rfl w2.heap.size (enc 8 n.rd.toNat) (esiL n.e) D3 (esiL_len _) x3.esiCells e3.size (by rw [enc_length, esiL_len]; decide) ?_; rintro w4 v4 D4 f4 -; have e4 := e3.trans f4; have x4 := x2.below e4 x2.lt; have g0 := Blk.cell x4 0 (v := .int .i64 n.k) rfl; rw [hk] at g0; have g2 := Blk.cell x4 12 (v := .int .u32 n.t) rfl; have g3 := Blk.cell x4 14 (v := .int .u32 n.ip) rfl; clear a0 a2 a3 f4 D3)
  go_at_call 37
  refine (address_is w2.heap.size (enc 8 n.rd.toNat ++ esiL n.e) (by simp [enc_length, esiL_len]) v4 n.ip true i0 i1 w4 e4.size D4).mono ?_
  rintro r w5 ⟨v5, rfl, D5, f5, -⟩
  have e5 := e4.trans f5
  clear D4 f5
  have hlen : (enc 8 n.rd.toNat ++ esiL n.e ++ adrB n.ip true).length = 23 := by simp [enc_length, esiL_len, adrB]
  obtain ⟨vl, hvl⟩ : ∃ vl, enc 8 n.rd.toNat ++ esiL n.e ++ adrB n.ip true = vl := ⟨_, rfl⟩
  rw [hvl] at D5 hlen
  have HVL := Lib.hid hvl
  obtain ⟨sa, sc, hsh⟩ := (DatB.dat D5).shape
  rw [hlen] at hsh
  subst hsh
  clear hvl
  have y5 := x2.below e5 x2.lt
  have h0 := Blk.cell y5 0 (v := .int .i64 n.k) rfl
  rw [hk] at h0
  go_wp2_with (first
    | (refine at_lit2 rfl (.tmp 93) (.tmp 96) rfl 4 23 rfl rfl w2.heap.size e5.size ?_; rintro wl ul Dl kl)
    | (refine at_app rfl (.tmp 97) (.tmp 98) rfl _ _ rfl rfl w2.heap.size [4, 23] vl Dl ((DatB.dat D5).below kl) (by have := kl.size; have := e5.size; omega) (by rw [hlen]; decide) ?_; rintro wf vf Df ff -))
  have ef := e5.trans ((kl.mono e5.size).trans ff)
  go_ret2
  exact ⟨_, rfl, by have q := Df.dat; rw [← HVL.out] at q; exact q, K2.trans (ef.mono K2.size)⟩
end Go.Proofs.Ytejcclcckgdbgaa
