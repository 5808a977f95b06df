/- The reference of layer 7: Put. No condition. The reference of layer 7: Sum. No condition. The reference of layer 7: Sum, walked. No condition. The reference of layer 7: Header. No condition. The reference of layer 7: Ported, Multicast, Check. No condition. The reference of layer 7: Bytes at kind 0. No condition. The reference of layer 7: Bytes at kind 1. No condition. The reference of layer 7: Bytes at kind 2. No condition. The reference of layer 7: Bytes at kind 2. No condition. The examples of the chapter; frames that are not valid. No condition. PacketCalls: the law's walk. No condition. -/
import Derived.Test.YtgpjelcihmbiiaaPOl
import Derived.Test.YtgpjelcihmbiiaaPSu
import Derived.Test.YtgpjelcihmbiiaaPRh
import Derived.Test.YtgpjelcihmbiiaaPRk
import Derived.Laws.BitsAllLaws
namespace Go.Proofs.Ytgpjelcihmbiiaa
open Go.RowKit Go.Sort
set_option linter.unusedVariables false
set_option linter.unusedSimpArgs false
set_option maxRecDepth 100000

theorem run_lit1 (w : World) (x : Int) : (Instr.buildSlice 23 1 #[(0, .int .u8 x)]).run Try.prog w = .ok (.slice (some ⟨w.heap.size, 0, none⟩) 1 1) (w.alloc (.cells #[.int .u8 x] 5)) := by kernel_rfl
theorem dat_one (w : World) (x : Int) : Dat (w.alloc (.cells #[.int .u8 x] 5)) (.slice (some ⟨w.heap.size, 0, none⟩) 1 1) [x] := by
  refine Dat.mk (xs := [x]) (cs := [.int .u8 x]) (Nat.le_refl 1) (by decide) ?_ rfl rfl
  exact World.alloc_heap_new w _
theorem at_lit1 {ops : Array Oper} {rest : List Oper} {o : Oper} {a : Act} {w : World} {Q : Exit → Act → World → Prop} (hgd : o.guard = none) (y : Operand) (ho : o.op = .buildSlice 23 1 #[(0, y)]) (x : Int) (hy : a.eval y = .int .u8 x)
    (h : ∀ w' v, Dat w' v [x] → Below w.heap.size w w' → wpList Try.prog ops Q rest (a.put o.dst v) w') : wpList Try.prog ops Q (o :: rest) a w :=
  wpList_plain hgd fun _ hK => by
    unfold Oper.wp execOp
    simp only [ho, List.map_toArray, List.map_cons, List.map_nil, hy, Sem.run_bind, run_lit1, Result.andThen_ok, Sem.run_pure]
    exact hK _ _ (h _ _ (dat_one w x) ((Below.refl _ w).alloc (Nat.le_refl _) _))
theorem at_app {ops : Array Oper} {rest : List Oper} {o : Oper} {a : Act} {w : World} {Q : Exit → Act → World → Prop} (hgd : o.guard = none) (s x : Operand) (ho : o.op = .call { callee := .builtin .append, args := #[s, x], argTypes := #[23, 23] }) (vs vx : Value) (hs : a.eval s = vs) (hx : a.eval x = vx)
    (B : Nat) (ys zs : List Int) (hv : DatB B w vs ys) (hu : Dat w vx zs) (hB : B ≤ w.heap.size) (hl : ys.length + zs.length ≤ 1000000)
    (h : ∀ w' v, DatB B w' v (ys ++ zs) → Below B w w' → w.heap.size ≤ w'.heap.size → wpList Try.prog ops Q rest (a.put o.dst v) w') : wpList Try.prog ops Q (o :: rest) a w := by
  obtain ⟨v', w', hr, hd, hg⟩ := append_any w o.type B vs vx ys zs hv hu.seg hB (by omega)
  have hb : Below B w w' := (Below.refl B w).grown hg hB fun k hk => (World.ownsRow.lt hv k hk).1
  exact Lib.wpList_append_run _ hgd s x 23 23 ho _ _ hs hx _ _ hr (h w' v' hd hb hg.size)
theorem byte_at (n : Int) (h0 : 0 ≤ n) (j : Nat) : n / 2 ^ (8 * j) % 256 = ((n.toNat / 256 ^ j % 256 : Nat) : Int) := by
  obtain ⟨N, rfl⟩ := Int.eq_ofNat_of_zero_le h0
  rw [Int.toNat_natCast, show (256 : Nat) ^ j = 2 ^ (8 * j) by rw [Nat.pow_mul]]
  simp
set_option maxHeartbeats 2000000 in
theorem rput_is (B : Nat) (xs : List Int) (hx : xs.length ≤ 1000) (v : Value) (n : Int) (k : Nat) (h0 : 0 ≤ n) (h1 : n < 18446744073709551616) (hk : k ≤ 8) (w : World) (hB : B ≤ w.heap.size) (hd : DatB B w v xs) :
    Calls Try.prog 51 #[v, .int .u64 n, .int .i64 k] w fun r w' => ∃ v', r = .returned v' ∧ DatB B w' v' (xs ++ enc k n.toNat) ∧ Below B w w' ∧ w.heap.size ≤ w'.heap.size := by
  go_enter Try.func51, Try.ntmps51
  go_wp2_with fail
  go_loopw [0, 7] (fun v0 v7 wr => ∃ (r : Nat) (ys : List Int), r ≤ k ∧ v7 = .int .i64 ((r : Int) - 1) ∧ DatB B wr v0 ys ∧ Hid (ys ++ enc r n.toNat = xs ++ enc k n.toNat) ∧ ys.length ≤ 1008 ∧ Below B w wr ∧ w.heap.size ≤ wr.heap.size) (fun _ v7 _ => (intOf v7 + 1).toNat)
  case atStart => exact ⟨k, xs, Nat.le_refl _, rfl, hd, Lib.hid rfl, by omega, Below.refl _ _, Nat.le_refl _⟩
  case round =>
    clear hd
    obtain ⟨r, ys, hr, rfl, hD, hE, hl, hb, hs⟩ := hrel
    cases r with
    | zero =>
      have he := hE.out
      have he2 : ys = xs ++ enc k n.toNat := by rw [← he]; simp [enc]
      subst he2
      clear hE he
      go_wp2
      go_ret
      exact ⟨_, rfl, hD, hb, hs⟩
    | succ j =>
      have hj : ((j + 1 : Nat) : Int) - 1 = j := by omega
      have hj0 : (0 : Int) ≤ j := by omega
      have hj8 : (j : Int) < 8 := by omega
      rw [hj]
      clear hj
      go_upto_region 4 with fail
      have hx' := byte_at n h0 j
      obtain ⟨x, hxx⟩ : ∃ x, n / 2 ^ (8 * j) % 256 = x := ⟨_, rfl⟩
      rw [hxx] at hx'
      have hen : ys ++ [x] ++ enc j n.toNat = xs ++ enc k n.toNat := by
        rw [hx', List.append_assoc]
        exact hE.out
      have HEN := Lib.hid hen
      have hyl : ys.length + 1 ≤ 1008 := by
        have := congrArg List.length hE.out
        rw [List.length_append, List.length_append, enc_length, enc_length] at this
        omega
      clear hen hE hx'
      go_wp2_with (first
        | (refine at_lit1 rfl (.tmp 19) rfl x (by rw [← hxx]; rfl) ?_; rintro w1 u1 D1 k1)
        | (refine at_app rfl (.tmp 14) (.tmp 20) rfl _ _ rfl rfl B ys [x] (DatB.below hD k1) D1 (by have := k1.size; omega) (by simp; omega) ?_; rintro w2 u2 D2 b2 s2))
      have hB2 := hb.trans ((k1.mono (by omega)).trans b2)
      have hs2 : w.heap.size ≤ w2.heap.size := by have := k1.size; omega
      clear D1 k1 b2 s2 hD hb
      go_roundw
      case rel => exact ⟨j, ys ++ [x], by omega, by go_num, D2, HEN, by simp; omega, hB2, hs2⟩
      case measure => first | (simp [intOf]; done) | (simp [intOf]; omega)
end Go.Proofs.Ytgpjelcihmbiiaa
namespace Go.Proofs.Ytgpjelcihmbiiaa
open Go.RowKit Go.Sort
set_option linter.unusedVariables false
set_option linter.unusedSimpArgs false
set_option maxRecDepth 100000

/-- What the octet at i adds to the sum. -/
def half (xs : List Int) (i : Nat) : Int := if i % 2 = 0 then xs.getD i 0 * 256 else xs.getD i 0
def psum (xs : List Int) : Nat → Int
  | 0 => 0
  | n + 1 => psum xs n + half xs n
theorem psum_even (xs : List Int) : ∀ n, psum xs (2 * n) = tot xs n
  | 0 => rfl
  | n + 1 => by
    have := psum_even xs n
    show psum xs (2 * n) + half xs (2 * n) + half xs (2 * n + 1) = tot xs n + wd xs n
    unfold half wd
    rw [if_pos (by omega), if_neg (by omega)]
    omega
theorem psum_full (xs : List Int) : psum xs xs.length = tot xs ((xs.length + 1) / 2) := by
  rcases Nat.mod_two_eq_zero_or_one xs.length with h | h
  · rw [show (xs.length + 1) / 2 = xs.length / 2 by omega, ← psum_even, show 2 * (xs.length / 2) = xs.length by omega]
  · obtain ⟨n, hn⟩ : ∃ n, xs.length = 2 * n + 1 := ⟨xs.length / 2, by omega⟩
    rw [show (xs.length + 1) / 2 = n + 1 by omega, ← psum_even, hn]
    show psum xs (2 * n + 1) = psum xs (2 * n + 1) + half xs (2 * n + 1)
    have : half xs (2 * n + 1) = 0 := by
      unfold half
      rw [if_neg (by omega), List.getD_eq_getElem?_getD, List.getElem?_eq_none (by omega)]
      rfl
    omega
theorem getD_oct {xs : List Int} (h : Oct xs) (i : Nat) : 0 ≤ xs.getD i 0 ∧ xs.getD i 0 < 256 := by
  rcases Nat.lt_or_ge i xs.length with q | q
  · rw [List.getD_eq_getElem?_getD, List.getElem?_eq_getElem q]
    exact h _ (List.getElem_mem q)
  · rw [List.getD_eq_getElem?_getD, List.getElem?_eq_none q]
    decide
theorem psum_lt {xs : List Int} (h : Oct xs) : ∀ n, 0 ≤ psum xs n ∧ psum xs n ≤ 65280 * n
  | 0 => by simp [psum]
  | n + 1 => by
    have h1 := psum_lt h n
    have h2 := getD_oct h n
    show 0 ≤ psum xs n + half xs n ∧ psum xs n + half xs n ≤ _
    unfold half
    split <;> omega
theorem acc_zero {xs : List Int} (h : Oct xs) : ∀ n, accS xs (List.range n) = 0 ↔ tot xs n = 0
  | 0 => by simp [accS, tot]
  | n + 1 => by
    have h0 := acc_zero h n
    have h1 := accS_lt h (List.range n)
    have h2 := wd_lt h n
    rw [List.range_succ, accS_snoc]
    show stepS _ _ = 0 ↔ tot xs n + wd xs n = 0
    have h3 : 0 ≤ tot xs n := by
      clear h0 h1 h2
      induction n with
      | zero => exact Int.le_refl _
      | succ n ih => have := wd_lt h n; show 0 ≤ tot xs n + wd xs n; omega
    unfold stepS
    omega
/-- A number folded to its rest is the sum with the carries added at once. -/
theorem fold_eq {xs : List Int} (h : Oct xs) (n : Nat) (s : Int) (h0 : 0 ≤ s) (h1 : s ≤ 65535) (hm : s % 65535 = tot xs n % 65535) (hz : s = 0 ↔ tot xs n = 0) : s = accS xs (List.range n) := by
  have a1 := accS_mod xs n
  have a2 := accS_lt h (List.range n)
  have a3 := acc_zero h n
  omega
end Go.Proofs.Ytgpjelcihmbiiaa
namespace Go.Proofs.Ytgpjelcihmbiiaa
open Go.RowKit Go.Sort
set_option linter.unusedVariables false
set_option linter.unusedSimpArgs false
set_option maxRecDepth 100000

theorem and_low64 (a : Int) (h0 : 0 ≤ a) (h1 : a < 18446744073709551616) : bits .and .u64 a 65535 = a % 65536 := by
  rw [u64_and _ _ h0 h1 (by decide) (by decide)]
  have := Nat.and_two_pow_sub_one_eq_mod a.toNat 16
  rw [show ((65535 : Int).toNat) = 2 ^ 16 - 1 by decide, this]
  omega
set_option maxHeartbeats 2000000 in
theorem rsum_is (xs : List Int) (v : Value) (w : World) (hd : Seg w v xs) (ho : Oct xs) (hl : xs.length ≤ 1000000) :
    Calls Try.prog 24 #[v] w fun e w' => e = .returned (.int .u16 (sumI xs)) ∧ w' = w := by
  obtain ⟨a, c, rfl, hcap, hx⟩ := hd
  go_enter Try.func24, Try.ntmps24
  go_wp2_with fail
  go_loopw [3, 4] (fun v3 v4 wr => ∃ i : Nat, i ≤ xs.length ∧ v3 = .int .u64 (psum xs i) ∧ v4 = .int .i64 i ∧ wr = w) (fun _ v4 _ => xs.length - (intOf v4).toNat)
  case atStart => exact ⟨0, Nat.zero_le _, rfl, rfl, rfl⟩
  case round =>
    obtain ⟨i, hi, rfl, rfl, hw⟩ := hrel
    subst hw
    have hP := psum_lt ho i
    by_cases hlt : i < xs.length
    · obtain ⟨b, o, rfl, hc⟩ := hx i hlt
      have hO := getD_oct ho i
      have hq : (i : Int) < xs.length := by omega
      have hs : psum xs (i + 1) = psum xs i + half xs i := rfl
      have HS := Lib.hid hs
      have HX := Lib.hid hx
      clear hx hs
      unfold half at HS
      generalize xs.getD i 0 = y at *
      rcases Nat.mod_two_eq_zero_or_one i with hp | hp
      · have hp1 : ((i : Int) % 2 == 0) = true := by simp; omega
        have hp2 : ((i : Int).tmod 2 == 0) = true := by simp [Int.tmod_eq_emod_of_nonneg]; omega
        have e1 : psum xs (i + 1) = psum xs i + y * 256 := by have := HS.out; rw [if_pos hp] at this; exact this
        have E1 := Lib.hid e1
        clear e1 HS
        go_wp2
        exact ⟨⟨i + 1, by omega, by rw [E1.out], by simp only [Value.int.injEq, true_and]; omega, trivial⟩, by simp [intOf]; omega⟩
      · have hp1 : ((i : Int) % 2 == 0) = false := by simp; omega
        have hp2 : ((i : Int).tmod 2 == 0) = false := by simp [Int.tmod_eq_emod_of_nonneg]; omega
        have e1 : psum xs (i + 1) = psum xs i + y := by have := HS.out; rw [if_neg (by omega)] at this; exact this
        have E1 := Lib.hid e1
        clear e1 HS
        go_wp2
        exact ⟨⟨i + 1, by omega, by rw [E1.out], by simp only [Value.int.injEq, true_and]; omega, trivial⟩, by simp [intOf]; omega⟩
    · obtain rfl : i = xs.length := by omega
      have hpf := psum_full xs
      have hF := Lib.hid (fun s a b c d => fold_eq ho ((xs.length + 1) / 2) s a b c d)
      rw [← hpf] at hF
      have hB : psum xs xs.length ≤ 65280000000 := by omega
      have hB0 := hP.1
      clear hpf hP hx hi hlt
      generalize psum xs xs.length = P at *
      go_wp2_with fail
      go_loopw [3] (fun v3 wr2 => ∃ s : Int, v3 = .int .u64 s ∧ 0 ≤ s ∧ s ≤ 65280000000 ∧ Hid (s % 65535 = P % 65535) ∧ Hid (s = 0 ↔ P = 0) ∧ wr2 = wr) (fun v3 _ => (intOf v3).toNat)
      case atStart => exact ⟨P, rfl, hB0, hB, Lib.hid rfl, Lib.hid Iff.rfl, rfl⟩
      case round =>
        obtain ⟨s, rfl, s0, s1, sm, sz, hw2⟩ := hrel
        subst hw2
        by_cases hs : 65535 < s
        · have ha := and_low64 s s0 (by omega)
          have he : s % 65536 + s / 65536 < 18446744073709551616 := by omega
          go_wp2
          exact ⟨⟨s % 65536 + s / 65536, rfl, by omega, by omega, Lib.hid (by have := sm.out; omega), Lib.hid (by have := sz.out; omega), trivial⟩, by simp [intOf]; omega⟩
        · have hsum : sumI xs = 65535 - s := by
            have := hF.out s s0 (by omega) sm.out sz.out
            unfold sumI
            rw [← this]
          have hxo := xor_max s s0 (by omega)
          have hmod : s % 65536 = s := by omega
          have HSU := Lib.hid hsum
          clear hsum hF sm sz
          go_wp2
          go_ret
          exact ⟨by rw [HSU.out]; first | rfl | (rw [← hxo]; rfl), rfl⟩
end Go.Proofs.Ytgpjelcihmbiiaa
namespace Go.Proofs.Ytgpjelcihmbiiaa
open Go.RowKit Go.Sort
set_option linter.unusedVariables false
set_option linter.unusedSimpArgs false
set_option maxRecDepth 100000

theorem run_l45 (w : World) : (Instr.buildSlice 23 2 #[(0, .int .u8 69), (1, .int .u8 0)]).run Try.prog w = .ok (.slice (some ⟨w.heap.size, 0, none⟩) 2 2) (w.alloc (.cells (([69, 0] : List Int).map (Value.int .u8)).toArray 5)) := by kernel_rfl
theorem at_l45 {ops : Array Oper} {rest : List Oper} {o : Oper} {a : Act} {w : World} {Q : Exit → Act → World → Prop} (hgd : o.guard = none) (ho : o.op = .buildSlice 23 2 #[(0, .const (.int .u8 69)), (1, .const (.int .u8 0))])
    (h : ∀ w', DatB w.heap.size w' (.slice (some ⟨w.heap.size, 0, none⟩) 2 2) [69, 0] → Below w.heap.size w w' → wpList Try.prog ops Q rest (a.put o.dst (.slice (some ⟨w.heap.size, 0, none⟩) 2 2)) w') : wpList Try.prog ops Q (o :: rest) a w :=
  wpList_plain hgd fun _ hK => by
    have ec : ∀ k, a.eval (.const (.int .u8 k)) = .int .u8 k := fun _ => rfl
    unfold Oper.wp execOp
    simp only [ho, List.map_toArray, List.map_cons, List.map_nil, ec, Sem.run_bind, run_l45, Result.andThen_ok, Sem.run_pure]
    exact hK _ _ (h _ (datB_lit _ w [69, 0] (Nat.le_refl _) (by simp)) ((Below.refl _ w).alloc (Nat.le_refl _) _))
theorem run_lhd (p q : Int) (w : World) : (Instr.buildSlice 23 8 #[(0, .int .u8 0), (1, .int .u8 0), (2, .int .u8 0), (3, .int .u8 0), (4, .int .u8 p), (5, .int .u8 q), (6, .int .u8 0), (7, .int .u8 0)]).run Try.prog w = .ok (.slice (some ⟨w.heap.size, 0, none⟩) 8 8) (w.alloc (.cells (([0, 0, 0, 0, p, q, 0, 0] : List Int).map (Value.int .u8)).toArray 5)) := by kernel_rfl
theorem at_lhd {ops : Array Oper} {rest : List Oper} {o : Oper} {a : Act} {w : World} {Q : Exit → Act → World → Prop} (hgd : o.guard = none) (yp : Operand) (yq : Operand) (ho : o.op = .buildSlice 23 8 #[(0, .const (.int .u8 0)), (1, .const (.int .u8 0)), (2, .const (.int .u8 0)), (3, .const (.int .u8 0)), (4, yp), (5, yq), (6, .const (.int .u8 0)), (7, .const (.int .u8 0))]) (p q : Int) (hp : a.eval yp = .int .u8 p) (hq : a.eval yq = .int .u8 q)
    (h : ∀ w', DatB w.heap.size w' (.slice (some ⟨w.heap.size, 0, none⟩) 8 8) [0, 0, 0, 0, p, q, 0, 0] → Below w.heap.size w w' → wpList Try.prog ops Q rest (a.put o.dst (.slice (some ⟨w.heap.size, 0, none⟩) 8 8)) w') : wpList Try.prog ops Q (o :: rest) a w :=
  wpList_plain hgd fun _ hK => by
    have ec : ∀ k, a.eval (.const (.int .u8 k)) = .int .u8 k := fun _ => rfl
    unfold Oper.wp execOp
    simp only [ho, List.map_toArray, List.map_cons, List.map_nil, ec, hp, hq, Sem.run_bind, run_lhd, Result.andThen_ok, Sem.run_pure]
    exact hK _ _ (h _ (datB_lit _ w [0, 0, 0, 0, p, q, 0, 0] (Nat.le_refl _) (by simp)) ((Below.refl _ w).alloc (Nat.le_refl _) _))
set_option maxHeartbeats 4000000 in
theorem rheader_is (n tt pr hs hd : Int) (n0 : 0 ≤ n) (n1 : n < 65536) (t0 : 0 ≤ tt) (t1 : tt < 256) (p0 : 0 ≤ pr) (p1 : pr < 256) (s0 : 0 ≤ hs) (s1 : hs < 4294967296) (d0 : 0 ≤ hd) (d1 : hd < 4294967296) (ho : Oct (rh n tt pr hs hd 0)) (w : World) :
    Calls Try.prog 52 #[.int .i64 n, .int .i64 tt, .int .i64 pr, .int .u32 hs, .int .u32 hd] w fun r w' => ∃ v, r = .returned v ∧ DatB w.heap.size w' v (rh n tt pr hs hd (sumI (rh n tt pr hs hd 0))) ∧ Below w.heap.size w w' := by
  have hb := rh_built n tt pr hs hd t0 t1 p0 p1
  have hse := fun s a b => rh_set n tt pr hs hd s a b
  have hle := rh_length n tt pr hs hd 0
  have hsb := sumI_lt ho
  generalize rh n tt pr hs hd 0 = Z at *
  have HB := Lib.hid hb; have HSE := Lib.hid hse; have HL := Lib.hid hle; have HO := Lib.hid ho
  clear hb hse hle ho
  go_enter Try.func52, Try.ntmps52
  go_wp2_with (refine at_l45 rfl rfl ?_; rintro w1 D1 k1)
  go_at_call 51
  refine (rput_is w.heap.size [69, 0] (by decide) _ n 2 n0 (by omega) (by decide) w1 k1.size D1).mono ?_
  rintro r w2 ⟨v2, rfl, D2, k2, z2⟩
  have b2 := k1.trans k2
  clear D1 k1 k2 z2
  go_wp2_with (first
    | (refine at_lhd rfl (.tmp 19) (.tmp 21) rfl tt pr rfl rfl ?_; rintro w3 D3 k3)
    | (refine at_app rfl (.tmp 17) (.tmp 22) rfl _ _ rfl rfl w.heap.size _ _ (D2.below k3) D3.dat (Nat.le_trans b2.size k3.size) (by simp [enc_length]) ?_; rintro w4 v4 D4 k4 z4))
  have b4 := (b2.trans (k3.mono b2.size)).trans k4
  clear D2 D3 k3 k4 b2
  go_at_call 51
  refine (rput_is w.heap.size _ (by simp [enc_length]) _ hs 4 s0 (by omega) (by decide) w4 b4.size D4).mono ?_
  rintro r w5 ⟨v5, rfl, D5, k5, z5⟩
  have b5 := b4.trans k5
  clear D4 k5 b4 z4
  go_wp2_with fail
  go_at_call 51
  refine (rput_is w.heap.size _ (by simp [enc_length]) _ hd 4 d0 (by omega) (by decide) w5 b5.size D5).mono ?_
  rintro r w6 ⟨v6, rfl, D6, k6, z6⟩
  have b6 := b5.trans k6
  clear D5 k6 b5 z5
  rw [HB.out] at D6
  obtain ⟨g, cap, cs, rfl, hg, f1, f2, f3, f4, f5⟩ := D6.form (by rw [HL.out]; decide)
  have DS := D6.dat.seg
  rw [HL.out] at f1 f5 DS ⊢
  go_wp2_with fail
  go_at_call 24
  refine (rsum_is Z _ w6 DS HO.out (by rw [HL.out]; decide)).mono ?_
  rintro r w7 ⟨rfl, hw⟩
  obtain rfl := hw.symm
  obtain ⟨s, hs'⟩ : ∃ s, sumI Z = s := ⟨_, rfl⟩
  rw [hs'] at hsb ⊢
  have HSS := Lib.hid hs'
  clear hs'
  have hj10 : 10 < cs.length := by omega
  have hj11 : 11 < cs.length := by omega
  have e1 : s / 256 % 256 = s / 256 := by omega
  have F1 := Lib.hid f1; have F2 := Lib.hid f2; have F4 := Lib.hid f4; have F5 := Lib.hid f5
  clear f1 f2 f4 f5 D6 DS
  go_wp2_with (first
    | (refine at_set rfl 5 _ _ rfl rfl g 10 rfl 5 cs (cs.set 10 (.int .u8 (s / 256))) (.int .u8 (s / 256)) rfl f3 rfl rfl rfl u8_one hj10 ?_; rintro w8 g8)
    | (refine at_set rfl 5 _ _ rfl rfl g 11 rfl 5 (cs.set 10 (.int .u8 (s / 256))) ((cs.set 10 (.int .u8 (s / 256))).set 11 (.int .u8 (s % 256))) (.int .u8 (s % 256)) rfl g8.blk rfl rfl rfl u8_one (by rw [List.length_set]; exact hj11) ?_; rintro w9 g9))
  go_ret
  have b8 := g8.below b6 hg
  have b9 := g9.below b8 hg
  refine ⟨.slice (some ⟨g, 0, none⟩) 20 cap, rfl, ?_, b9⟩
  rw [HSS.out, ← HSE.out s hsb.1 hsb.2]
  have hz : ((Z.set 10 (s / 256)).set 11 (s % 256)).length = 20 := by rw [List.length_set, List.length_set]; exact HL.out
  have := DatB.mk (xs := (Z.set 10 (s / 256)).set 11 (s % 256)) (cap := cap) hg (by rw [hz]; exact F1.out) F2.out g9.blk (by rw [List.length_set, List.length_set]; exact F4.out) (by rw [hz, List.take_set, List.take_set, F5.out, List.map_set, List.map_set])
  rw [hz] at this
  exact this
end Go.Proofs.Ytgpjelcihmbiiaa
namespace Go.Proofs.Ytgpjelcihmbiiaa
open Go.RowKit Go.Sort
set_option linter.unusedVariables false
set_option linter.unusedSimpArgs false
set_option maxRecDepth 100000

theorem rported_is (p : Int) (w : World) : Calls Try.prog 25 #[.int .i64 p] w fun e w' => e = .returned (.bool (pt p)) ∧ w' = w := by
  by_cases h : p = 6
  · subst h
    go_enter Try.func25, Try.ntmps25
    go_wp2
    go_ret
    exact ⟨rfl, rfl⟩
  · have b6 : (p == 6) = false := by simpa using h
    by_cases h2 : p = 17
    · subst h2
      go_enter Try.func25, Try.ntmps25
      go_wp2
      go_ret
      exact ⟨rfl, rfl⟩
    · have b17 : (p == 17) = false := by simpa using h2
      have e : pt p = false := by simp [pt, b6, b17]
      rw [e]
      go_enter Try.func25, Try.ntmps25
      go_wp2
      go_ret
      exact ⟨rfl, rfl⟩
theorem and_bit (n k : Nat) : n &&& 2 ^ k = if n.testBit k = true then 2 ^ k else 0 := by
  apply Nat.eq_of_testBit_eq
  intro i
  rw [Nat.testBit_and, Nat.testBit_two_pow]
  by_cases h : k = i
  · subst h
    cases n.testBit k <;> simp [Nat.testBit_two_pow]
  · cases n.testBit k <;> simp [Nat.testBit_two_pow, h]
theorem mc_bit (m : Int) (h0 : 0 ≤ m) (h1 : m < 18446744073709551616) : (bits .and .u64 m 1099511627776 != 0) = (bits .and .u64 (m / 1099511627776) 1 == 1) := by
  obtain ⟨n, rfl⟩ := Int.eq_ofNat_of_zero_le h0
  rw [u64_and _ _ h0 h1 (by decide) (by decide), u64_and _ _ (by omega) (by omega) (by decide) (by decide)]
  have e1 : (((n : Int)).toNat &&& (1099511627776 : Int).toNat) = if n.testBit 40 = true then 2 ^ 40 else 0 := by
    rw [show (1099511627776 : Int).toNat = 2 ^ 40 by decide, Int.toNat_natCast, and_bit]
  have e2 : (((n : Int) / 1099511627776).toNat &&& (1 : Int).toNat) = n / 2 ^ 40 % 2 := by
    rw [show (1 : Int).toNat = 2 ^ 1 - 1 by decide, Nat.and_two_pow_sub_one_eq_mod]
    omega
  rw [e1, e2, Nat.testBit_eq_decide_div_mod_eq]
  have : n / 2 ^ 40 % 2 = 0 ∨ n / 2 ^ 40 % 2 = 1 := by omega
  rcases this with h | h <;> rw [h] <;> decide
theorem rmc_is (m : Int) (h0 : 0 ≤ m) (h1 : m < 18446744073709551616) (w : World) : Calls Try.prog 53 #[.int .u64 m] w fun e w' => e = .returned (.bool (mc m)) ∧ w' = w := by
  by_cases h : m ≤ 281474976710655
  · have b : decide (m ≤ 281474976710655) = true := by simpa using h
    have e : mc m = (bits .and .u64 (m / 1099511627776) 1 == 1) := by rw [← mc_bit m h0 h1]; simp [mc, h]
    rw [e]
    clear e
    go_enter Try.func53, Try.ntmps53
    go_wp2
    go_ret
    exact ⟨rfl, rfl⟩
  · have b : decide (m ≤ 281474976710655) = false := by simpa using h
    have e : mc m = false := by simp [mc, h]
    rw [e]
    clear e
    go_enter Try.func53, Try.ntmps53
    go_wp2
    go_ret
    exact ⟨rfl, rfl⟩
section
variable {o : Oper} {a : Act} {w : World} {K : Act → World → Prop} {Q : Exit → Act → World → Prop}
theorem op_new (ty : TypeId) (cs : List Value) (ho : o.op = .alloc ty) (hr : ∀ w, (Instr.alloc ty true (.tuple #[])).run Try.prog w = .ok (.pointer (some ⟨w.heap.size, 0, none⟩)) (w.alloc (.cells cs.toArray ty)))
    (h : ∀ w', Blk w' w.heap.size ty cs → Below w.heap.size w w' → w'.heap.size = w.heap.size + 1 → K (a.put o.dst (.pointer (some ⟨w.heap.size, 0, none⟩))) w') : o.wp Try.prog a w K Q := by
  unfold Oper.wp execOp
  simp only [ho, Sem.run_bind, hr, Result.andThen_ok, Sem.run_pure]
  exact h _ (Blk.new w ty cs) ((Below.refl _ w).alloc (Nat.le_refl _) _) (by simp)
theorem op_put (ty : TypeId) (x y : Operand) (ho : o.op = .store ty x y) (hd : o.dst = none) (b : Nat) (hx : a.eval x = .pointer (some ⟨b, 0, none⟩)) (cs : List Value) (hy : a.eval y = .agg cs.toArray) {old : List Value} (hb : Blk w b ty old) (hl : old.length = cs.length)
    (hi : (Try.prog.info? ty).map (·.size) = some cs.length) (h1 : cs.toArray.all (·.oneCell') = true) (h : ∀ w', Wrote b ty w w' cs → K a w') : o.wp Try.prog a w K Q :=
  wp_store_row _ x y ho b cs.toArray hx hy _ old.toArray hb (by simpa using hi) (by simpa using hl) h1 (by
    rw [hd]
    exact h _ ⟨setRow_heap w b _ _ _ _ hb, ⟨rfl, rfl, rfl, by simp [World.setRow], fun k hk hn => by simp [World.setRow, Array.getElem?_modify, Ne.symm hn]⟩, by simp [World.setRow]⟩)
end
theorem up_any {tt pr sp dp : Int} (h : ¬ (((((((0 ≤ tt ∧ tt ≤ 255) ∧ 0 ≤ pr) ∧ pr ≤ 255) ∧ 0 ≤ sp) ∧ sp ≤ 65535) ∧ 0 ≤ dp) ∧ dp ≤ 65535)) : up 255 tt = false ∨ up 255 pr = false ∨ up 65535 sp = false ∨ up 65535 dp = false := by
  simp only [up, Bool.and_eq_false_iff, decide_eq_false_iff_not]
  omega
theorem up_t {m n : Int} (h : 0 ≤ n) (h2 : n ≤ m) : up m n = true := by simp [up, h, h2]
theorem up_f1 {m n : Int} (h : n < 0) : up m n = false := by simp [up]; omega
theorem up_f2 {m n : Int} (h : m < n) : up m n = false := by simp [up]; omega
/-- A piece of code with two new blocks: what comes after it is walked once. -/
theorem reg_split {P : Program} {c : Code} {Q : Exit → Act → World → Prop} {K : Act → World → Prop} {a : Act} {w : World} (A : Act → Nat → Nat → Act) (C : Nat → Nat → World → Prop)
    (h : ∀ K' : Act → World → Prop, (∀ b3 b4 w' a', a' = A a b3 b4 → C b3 b4 w' → K' a' w') → c.wp P (Exit.then K' Q) a w) (rest : ∀ b3 b4 w', C b3 b4 w' → K (A a b3 b4) w') : c.wp P (Exit.then K Q) a w :=
  h K fun b3 b4 w' a' e hc => e ▸ rest b3 b4 w' hc
theorem run_newA (w : World) : (Instr.alloc 34 true (.tuple #[])).run Try.prog w = .ok (.pointer (some ⟨w.heap.size, 0, none⟩)) (w.alloc (.cells F0.ar.toArray 34)) := by kernel_rfl
theorem run_newH (w : World) : (Instr.alloc 32 true (.tuple #[])).run Try.prog w = .ok (.pointer (some ⟨w.heap.size, 0, none⟩)) (w.alloc (.cells F0.ip.toArray 32)) := by kernel_rfl
set_option maxHeartbeats 8000000 in
theorem rcheck_is (f : FL) (hs0 : 0 ≤ f.s ∧ f.s < 18446744073709551616) (w : World) : Calls Try.prog 23 #[f.v] w fun e w' => e = .returned (.int .i64 f.chk) ∧ Below w.heap.size w w' := by
  obtain ⟨s, d, k, op, sm, si, tm, ti, hs, hd, tt, pr, sp, dp, x⟩ := f
  have hM := fun w => rmc_is s hs0.1 hs0.2 w
  unfold FL.v FL.cs
  dsimp only at *
  go_enter Try.func23, Try.ntmps23
  go_upto_region 1 with (refine at_box rfl _ _ rfl [.int .u64 s, .int .u64 d, .int .i64 k, .int .i64 op, .int .u64 sm, .int .u32 si, .int .u64 tm, .int .u32 ti, .int .u32 hs, .int .u32 hd, .int .i64 tt, .int .i64 pr, .int .i64 sp, .int .i64 dp, .int .u64 x] rfl ?_; rintro w1 H1 k1 s1)
  rename_i K hK
  refine reg_split (fun a b3 b4 => ((((((a.put (some 5) (.pointer (some ⟨w.heap.size, 3, none⟩))).put (some 6) (.agg #[.int .i64 op, .int .u64 sm, .int .u32 si, .int .u64 tm, .int .u32 ti])).put (some 7) (.pointer (some ⟨w.heap.size, 8, none⟩))).put (some 8) (.agg #[.int .u32 hs, .int .u32 hd, .int .i64 tt, .int .i64 pr, .int .i64 sp, .int .i64 dp])).put (some 3) (.pointer (some ⟨b3, 0, none⟩))).put (some 4) (.pointer (some ⟨b4, 0, none⟩)))) (fun b3 b4 w' => Blk w' b3 34 [.int .i64 op, .int .u64 sm, .int .u32 si, .int .u64 tm, .int .u32 ti] ∧ Blk w' b4 32 [.int .u32 hs, .int .u32 hd, .int .i64 tt, .int .i64 pr, .int .i64 sp, .int .i64 dp] ∧ Blk w' w.heap.size 36 [.int .u64 s, .int .u64 d, .int .i64 k, .int .i64 op, .int .u64 sm, .int .u32 si, .int .u64 tm, .int .u32 ti, .int .u32 hs, .int .u32 hd, .int .i64 tt, .int .i64 pr, .int .i64 sp, .int .i64 dp, .int .u64 x] ∧ Below w.heap.size w w') (fun K' hK' => ?_) (fun b3 b4 w' hC => ?_)
  · clear hK hM
    refine wp_region_selB w1.heap.size [0, 1, 2, 3] 4 rfl (by kernel_rfl) (by kernel_rfl) (by kernel_rfl) (by kernel_rfl) (fun _ d _ _ _ h => by cases d <;> exact h) ?_
    intro W hW
    have dr : Below w1.heap.size w1 W := by subst hW; exact (Below.refl _ _).drew
    have X := H1.below dr H1.lt
    have hbb : ∀ q : Beh w1.heap.size W, Blk q.w w.heap.size 36 [.int .u64 s, .int .u64 d, .int .i64 k, .int .i64 op, .int .u64 sm, .int .u32 si, .int .u64 tm, .int .u32 ti, .int .u32 hs, .int .u32 hd, .int .i64 tt, .int .i64 pr, .int .i64 sp, .int .i64 dp, .int .u64 x] := fun q => X.below q.h H1.lt
    have kk := k1.trans (dr.mono k1.size)
    have sz : w1.heap.size ≤ W.heap.size := dr.size
    clear hW dr H1 k1
    simp only [pickOps, List.filterMap_cons, List.filterMap_nil, List.getElem?_cons_zero, List.getElem?_cons_succ, Option.map_some, List.map_cons, List.map_nil]
    repeat (first
      | go_big_quiet_skip
      | (go_big_quiet_want; refine q_mid 34 (.tmp 5) rfl w.heap.size 3 rfl 36 [.int .u64 s, .int .u64 d, .int .i64 k, .int .i64 op, .int .u64 sm, .int .u32 si, .int .u64 tm, .int .u32 ti, .int .u32 hs, .int .u32 hd, .int .i64 tt, .int .i64 pr, .int .i64 sp, .int .i64 dp, .int .u64 x] (by rintro w' ⟨q, rfl⟩; exact hbb q) [.int .i64 op, .int .u64 sm, .int .u32 si, .int .u64 tm, .int .u32 ti] rfl _ Try.underlying34 rfl szA ?_; go_simp; go_big_quiet_on)
      | (go_big_quiet_want; refine q_mid 32 (.tmp 7) rfl w.heap.size 8 rfl 36 [.int .u64 s, .int .u64 d, .int .i64 k, .int .i64 op, .int .u64 sm, .int .u32 si, .int .u64 tm, .int .u32 ti, .int .u32 hs, .int .u32 hd, .int .i64 tt, .int .i64 pr, .int .i64 sp, .int .i64 dp, .int .u64 x] (by rintro w' ⟨q, rfl⟩; exact hbb q) [.int .u32 hs, .int .u32 hd, .int .i64 tt, .int .i64 pr, .int .i64 sp, .int .i64 dp] rfl _ Try.underlying32 rfl szH ?_; go_simp; go_big_quiet_on)
      | (go_big_quiet_step (fail)))
    refine wpQuiet_nil ?_
    clear hbb
    refine wpAnyH_two (j := 4) (k := 5) (by kernel_rfl) rfl rfl (fun L hQ => ?_) (fun L hQ => ?_)
    · refine if_true_prop (by kernel_rfl) ?_
      refine op_new 34 F0.ar rfl run_newA ?_
      rintro v1 XA1 e1 z1
      refine hQ _ _ ⟨⟨_, e1.mono sz⟩, rfl⟩ ?_
      clear hQ L
      refine wpAnyH_one (k := 5) (by kernel_rfl) rfl (fun L hQ => ?_)
      refine if_true_prop (by kernel_rfl) ?_
      refine op_new 32 F0.ip rfl run_newH ?_
      rintro v2 XH e2 z2
      have e12 := e1.trans (e2.mono e1.size)
      refine hQ _ _ ⟨⟨_, e12.mono sz⟩, rfl⟩ ?_
      clear hQ L
      have XA := XA1.below e2 XA1.lt
      refine wpAnyH_one (k := 6) (by kernel_rfl) rfl (fun L hQ => ?_)
      refine if_true_prop (by kernel_rfl) ?_
      refine op_put 34 (.tmp 3) (.tmp 6) rfl rfl W.heap.size rfl [.int .i64 op, .int .u64 sm, .int .u32 si, .int .u64 tm, .int .u32 ti] rfl XA rfl szA (by simp [Value.oneCell']) ?_
      rintro v3 g3
      have e3 : Below W.heap.size W v3 := g3.below e12 (by omega)
      refine hQ _ _ ⟨⟨_, e3.mono sz⟩, rfl⟩ ?_
      clear hQ L
      have YH := g3.but.blk XH XH.lt (show v1.heap.size ≠ W.heap.size by omega)
      refine wpAnyH_one (k := 7) (by kernel_rfl) rfl (fun L hQ => ?_)
      refine if_true_prop (by kernel_rfl) ?_
      refine op_put 32 (.tmp 4) (.tmp 8) rfl rfl v1.heap.size rfl [.int .u32 hs, .int .u32 hd, .int .i64 tt, .int .i64 pr, .int .i64 sp, .int .i64 dp] rfl YH rfl szH (by simp [Value.oneCell']) ?_
      rintro v4 g4
      have e4 : Below W.heap.size W v4 := g4.below e3 (by omega)
      refine hQ _ _ ⟨⟨_, e4.mono sz⟩, rfl⟩ ?_
      clear hQ L
      refine wpAnyH_done (by kernel_rfl) ?_ 0
      exact hK' (W.heap.size) (v1.heap.size) v4 _ (by kernel_rfl) ⟨g4.but.blk g3.blk g3.blk.lt (show W.heap.size ≠ v1.heap.size by omega), g4.blk, X.below e4 X.lt, kk.trans (e4.mono kk.size)⟩
    · refine if_true_prop (by kernel_rfl) ?_
      refine op_new 32 F0.ip rfl run_newH ?_
      rintro v1 XH1 e1 z1
      refine hQ _ _ ⟨⟨_, e1.mono sz⟩, rfl⟩ ?_
      clear hQ L
      refine wpAnyH_one (k := 4) (by kernel_rfl) rfl (fun L hQ => ?_)
      refine if_true_prop (by kernel_rfl) ?_
      refine op_new 34 F0.ar rfl run_newA ?_
      rintro v2 XA e2 z2
      have e12 := e1.trans (e2.mono e1.size)
      refine hQ _ _ ⟨⟨_, e12.mono sz⟩, rfl⟩ ?_
      clear hQ L
      have XH := XH1.below e2 XH1.lt
      refine wpAnyH_one (k := 6) (by kernel_rfl) rfl (fun L hQ => ?_)
      refine if_true_prop (by kernel_rfl) ?_
      refine op_put 34 (.tmp 3) (.tmp 6) rfl rfl v1.heap.size rfl [.int .i64 op, .int .u64 sm, .int .u32 si, .int .u64 tm, .int .u32 ti] rfl XA rfl szA (by simp [Value.oneCell']) ?_
      rintro v3 g3
      have e3 : Below W.heap.size W v3 := g3.below e12 (by omega)
      refine hQ _ _ ⟨⟨_, e3.mono sz⟩, rfl⟩ ?_
      clear hQ L
      have YH := g3.but.blk XH XH.lt (show W.heap.size ≠ v1.heap.size by omega)
      refine wpAnyH_one (k := 7) (by kernel_rfl) rfl (fun L hQ => ?_)
      refine if_true_prop (by kernel_rfl) ?_
      refine op_put 32 (.tmp 4) (.tmp 8) rfl rfl W.heap.size rfl [.int .u32 hs, .int .u32 hd, .int .i64 tt, .int .i64 pr, .int .i64 sp, .int .i64 dp] rfl YH rfl szH (by simp [Value.oneCell']) ?_
      rintro v4 g4
      have e4 : Below W.heap.size W v4 := g4.below e3 (by omega)
      refine hQ _ _ ⟨⟨_, e4.mono sz⟩, rfl⟩ ?_
      clear hQ L
      refine wpAnyH_done (by kernel_rfl) ?_ 0
      exact hK' (v1.heap.size) (W.heap.size) v4 _ (by kernel_rfl) ⟨g4.but.blk g3.blk g3.blk.lt (show v1.heap.size ≠ W.heap.size by omega), g4.blk, X.below e4 X.lt, kk.trans (e4.mono kk.size)⟩
  · refine hK _ _ ?_
    clear hK
    obtain ⟨Ha, Hh, Hf, hb⟩ := hC
    go_simp
    have c0 := Hf.cell 0 (v := .int .u64 s) rfl
    have c1 := Hf.cell 1 (v := .int .u64 d) rfl
    have c2 := Hf.cell 2 (v := .int .i64 k) rfl
    have a0 := Ha.cell 0 (v := .int .i64 op) rfl
    have a1 := Ha.cell 1 (v := .int .u64 sm) rfl
    have a3 := Ha.cell 3 (v := .int .u64 tm) rfl
    have i2 := Hh.cell 2 (v := .int .i64 tt) rfl
    have i3 := Hh.cell 3 (v := .int .i64 pr) rfl
    have i4 := Hh.cell 4 (v := .int .i64 sp) rfl
    have i5 := Hh.cell 5 (v := .int .i64 dp) rfl
    clear H1 k1 s1 Hf
    by_cases h0 : (281474976710655 : Int) < s
    · skip
      have HC := Lib.hid (show FL.chk ⟨s, d, k, op, sm, si, tm, ti, hs, hd, tt, pr, sp, dp, x⟩ = 2 from by
        unfold FL.chk
        simp only [FL.kn]
        rw [if_pos (.inl h0)])
      have q0 : decide ((281474976710655 : Int) < s) = true := by simpa using h0
      go_wp2_with fail
      go_ret
      exact ⟨by rw [HC.out] <;> rfl, hb⟩
    have q0 : decide ((281474976710655 : Int) < s) = false := by simpa using h0
    by_cases h1 : (281474976710655 : Int) < d
    · skip
      have HC := Lib.hid (show FL.chk ⟨s, d, k, op, sm, si, tm, ti, hs, hd, tt, pr, sp, dp, x⟩ = 2 from by
        unfold FL.chk
        simp only [FL.kn]
        rw [if_pos (.inr h1)])
      have q1 : decide ((281474976710655 : Int) < d) = true := by simpa using h1
      go_wp2_with fail
      go_ret
      exact ⟨by rw [HC.out] <;> rfl, hb⟩
    have q1 : decide ((281474976710655 : Int) < d) = false := by simpa using h1
    cases h2 : mc s with
    | true =>
      rw [h2] at hM
      have HC := Lib.hid (show FL.chk ⟨s, d, k, op, sm, si, tm, ti, hs, hd, tt, pr, sp, dp, x⟩ = 3 from by
        unfold FL.chk
        simp only [FL.kn]
        rw [if_neg (by omega), if_pos h2])
      go_wp2_with (first | (go_at_call 53; refine (hM _).mono ?_; rintro e w9 ⟨rfl, hw⟩; obtain rfl := hw.symm))
      go_ret
      exact ⟨by rw [HC.out] <;> rfl, hb⟩
    | false =>
      rw [h2] at hM
      by_cases h3 : k < 0
      · skip
        have HC := Lib.hid (show FL.chk ⟨s, d, k, op, sm, si, tm, ti, hs, hd, tt, pr, sp, dp, x⟩ = 6 from by
          unfold FL.chk
          simp only [FL.kn]
          rw [if_neg (by omega), if_neg (by simp [h2]), if_pos (by simp; omega)])
        have q2 : decide (k < 0) = true := by simpa using h3
        go_wp2_with (first | (go_at_call 53; refine (hM _).mono ?_; rintro e w9 ⟨rfl, hw⟩; obtain rfl := hw.symm))
        go_ret
        exact ⟨by rw [HC.out] <;> rfl, hb⟩
      by_cases h4 : 2 < k
      · skip
        have HC := Lib.hid (show FL.chk ⟨s, d, k, op, sm, si, tm, ti, hs, hd, tt, pr, sp, dp, x⟩ = 6 from by
          unfold FL.chk
          simp only [FL.kn]
          rw [if_neg (by omega), if_neg (by simp [h2]), if_pos (by simp; omega)])
        have q2 : decide (k < 0) = false := by simpa using h3
        have q3 : decide (2 < k) = true := by simpa using h4
        go_wp2_with (first | (go_at_call 53; refine (hM _).mono ?_; rintro e w9 ⟨rfl, hw⟩; obtain rfl := hw.symm))
        go_ret
        exact ⟨by rw [HC.out] <;> rfl, hb⟩
      have hk : k = 0 ∨ k = 1 ∨ k = 2 := by omega
      clear h3 h4
      rcases hk with rfl | rfl | rfl
      · skip
        cases h3 : FL.eqa ⟨s, d, 0, op, sm, si, tm, ti, hs, hd, tt, pr, sp, dp, x⟩ F0 with
        | false =>
          have HC := Lib.hid (show FL.chk ⟨s, d, 0, op, sm, si, tm, ti, hs, hd, tt, pr, sp, dp, x⟩ = 3 from by
            unfold FL.chk
            simp only [FL.kn]
            rw [if_neg (by omega), if_neg (by simp [h2]), if_neg (by decide), if_pos (by simp [h3])])
          have EA := fun w => neqA ⟨s, d, 0, op, sm, si, tm, ti, hs, hd, tt, pr, sp, dp, x⟩ F0 w
          rw [h3] at EA
          go_wp2_with (first | (go_at_call 53; refine (hM _).mono ?_; rintro e w9 ⟨rfl, hw⟩; obtain rfl := hw.symm) | (refine at_mid (by kernel_rfl) 34 _ rfl b3 0 rfl Ha [.int .i64 op, .int .u64 sm, .int .u32 si, .int .u64 tm, .int .u32 ti] rfl _ Try.underlying34 rfl szA ?_) | (refine at_cmp (by kernel_rfl) .neq 34 _ _ rfl (.agg #[.int .i64 op, .int .u64 sm, .int .u32 si, .int .u64 tm, .int .u32 ti]) (.agg F0.ar.toArray) rfl rfl true (by kernel_rfl) (EA _) ?_))
          go_ret
          exact ⟨by rw [HC.out] <;> rfl, hb⟩
        | true =>
          cases h4 : FL.eqh ⟨s, d, 0, op, sm, si, tm, ti, hs, hd, tt, pr, sp, dp, x⟩ F0 with
          | false =>
            have HC := Lib.hid (show FL.chk ⟨s, d, 0, op, sm, si, tm, ti, hs, hd, tt, pr, sp, dp, x⟩ = 3 from by
              unfold FL.chk
              simp only [FL.kn]
              rw [if_neg (by omega), if_neg (by simp [h2]), if_neg (by decide), if_pos (by simp [h4])])
            have EA := fun w => neqA ⟨s, d, 0, op, sm, si, tm, ti, hs, hd, tt, pr, sp, dp, x⟩ F0 w
            rw [h3] at EA
            have EH := fun w => neqH ⟨s, d, 0, op, sm, si, tm, ti, hs, hd, tt, pr, sp, dp, x⟩ F0 w
            rw [h4] at EH
            go_wp2_with (first | (go_at_call 53; refine (hM _).mono ?_; rintro e w9 ⟨rfl, hw⟩; obtain rfl := hw.symm) | (refine at_mid (by kernel_rfl) 34 _ rfl b3 0 rfl Ha [.int .i64 op, .int .u64 sm, .int .u32 si, .int .u64 tm, .int .u32 ti] rfl _ Try.underlying34 rfl szA ?_) | (refine at_cmp (by kernel_rfl) .neq 34 _ _ rfl (.agg #[.int .i64 op, .int .u64 sm, .int .u32 si, .int .u64 tm, .int .u32 ti]) (.agg F0.ar.toArray) rfl rfl false (by kernel_rfl) (EA _) ?_) | (refine at_mid (by kernel_rfl) 32 _ rfl b4 0 rfl Hh [.int .u32 hs, .int .u32 hd, .int .i64 tt, .int .i64 pr, .int .i64 sp, .int .i64 dp] rfl _ Try.underlying32 rfl szH ?_) | (refine at_cmp (by kernel_rfl) .neq 32 _ _ rfl (.agg #[.int .u32 hs, .int .u32 hd, .int .i64 tt, .int .i64 pr, .int .i64 sp, .int .i64 dp]) (.agg F0.ip.toArray) rfl rfl true (by kernel_rfl) (EH _) ?_))
            go_ret
            exact ⟨by rw [HC.out] <;> rfl, hb⟩
          | true =>
            have HC := Lib.hid (show FL.chk ⟨s, d, 0, op, sm, si, tm, ti, hs, hd, tt, pr, sp, dp, x⟩ = 0 from by
              unfold FL.chk
              simp only [FL.kn]
              rw [if_neg (by omega), if_neg (by simp [h2]), if_neg (by decide), if_neg (by simp [h3, h4]), if_neg (by decide), if_neg (by decide)])
            have EA := fun w => neqA ⟨s, d, 0, op, sm, si, tm, ti, hs, hd, tt, pr, sp, dp, x⟩ F0 w
            rw [h3] at EA
            have EH := fun w => neqH ⟨s, d, 0, op, sm, si, tm, ti, hs, hd, tt, pr, sp, dp, x⟩ F0 w
            rw [h4] at EH
            obtain ⟨rfl, rfl, rfl, rfl, rfl, rfl⟩ : hs = 0 ∧ hd = 0 ∧ tt = 0 ∧ pr = 0 ∧ sp = 0 ∧ dp = 0 := by simpa [FL.eqh, F0] using h4
            have HP := fun w => rported_is 0 w
            rw [show pt 0 = false by decide] at HP
            go_upto_region 11 with (first | (go_at_call 53; refine (hM _).mono ?_; rintro e w9 ⟨rfl, hw⟩; obtain rfl := hw.symm) | (refine at_mid (by kernel_rfl) 34 _ rfl b3 0 rfl Ha [.int .i64 op, .int .u64 sm, .int .u32 si, .int .u64 tm, .int .u32 ti] rfl _ Try.underlying34 rfl szA ?_) | (refine at_cmp (by kernel_rfl) .neq 34 _ _ rfl (.agg #[.int .i64 op, .int .u64 sm, .int .u32 si, .int .u64 tm, .int .u32 ti]) (.agg F0.ar.toArray) rfl rfl false (by kernel_rfl) (EA _) ?_) | (refine at_mid (by kernel_rfl) 32 _ rfl b4 0 rfl Hh [.int .u32 0, .int .u32 0, .int .i64 0, .int .i64 0, .int .i64 0, .int .i64 0] rfl _ Try.underlying32 rfl szH ?_) | (refine at_cmp (by kernel_rfl) .neq 32 _ _ rfl (.agg #[.int .u32 0, .int .u32 0, .int .i64 0, .int .i64 0, .int .i64 0, .int .i64 0]) (.agg F0.ip.toArray) rfl rfl false (by kernel_rfl) (EH _) ?_))
            try (refine wp_region_lit ?_)
            repeat (first | go_skip | go_guarded | go_step | go_upon)
            go_upto_region 13 with fail
            try (refine wp_region_lit ?_)
            repeat (first | go_skip | go_guarded | go_step | go_upon)
            go_upto_region 15 with fail
            try (refine wp_region_lit ?_)
            repeat (first | (go_at_call 25; refine (HP _).mono ?_; rintro e w9 ⟨rfl, hw⟩; obtain rfl := hw.symm) | go_skip | go_guarded | go_step | go_upon)
            go_wp2
            go_ret
            exact ⟨by rw [HC.out] <;> rfl, hb⟩
      · skip
        cases h4 : FL.eqh ⟨s, d, 1, op, sm, si, tm, ti, hs, hd, tt, pr, sp, dp, x⟩ F0 with
        | false =>
          have HC := Lib.hid (show FL.chk ⟨s, d, 1, op, sm, si, tm, ti, hs, hd, tt, pr, sp, dp, x⟩ = 3 from by
            unfold FL.chk
            simp only [FL.kn]
            rw [if_neg (by omega), if_neg (by simp [h2]), if_neg (by decide), if_pos (by simp [h4])])
          have EH := fun w => neqH ⟨s, d, 1, op, sm, si, tm, ti, hs, hd, tt, pr, sp, dp, x⟩ F0 w
          rw [h4] at EH
          go_wp2_with (first | (go_at_call 53; refine (hM _).mono ?_; rintro e w9 ⟨rfl, hw⟩; obtain rfl := hw.symm) | (refine at_mid (by kernel_rfl) 32 _ rfl b4 0 rfl Hh [.int .u32 hs, .int .u32 hd, .int .i64 tt, .int .i64 pr, .int .i64 sp, .int .i64 dp] rfl _ Try.underlying32 rfl szH ?_) | (refine at_cmp (by kernel_rfl) .neq 32 _ _ rfl (.agg #[.int .u32 hs, .int .u32 hd, .int .i64 tt, .int .i64 pr, .int .i64 sp, .int .i64 dp]) (.agg F0.ip.toArray) rfl rfl true (by kernel_rfl) (EH _) ?_))
          go_ret
          exact ⟨by rw [HC.out] <;> rfl, hb⟩
        | true =>
          have EH := fun w => neqH ⟨s, d, 1, op, sm, si, tm, ti, hs, hd, tt, pr, sp, dp, x⟩ F0 w
          rw [h4] at EH
          obtain ⟨rfl, rfl, rfl, rfl, rfl, rfl⟩ : hs = 0 ∧ hd = 0 ∧ tt = 0 ∧ pr = 0 ∧ sp = 0 ∧ dp = 0 := by simpa [FL.eqh, F0] using h4
          have HP := fun w => rported_is 0 w
          rw [show pt 0 = false by decide] at HP
          go_upto_region 11 with (first | (go_at_call 53; refine (hM _).mono ?_; rintro e w9 ⟨rfl, hw⟩; obtain rfl := hw.symm) | (refine at_mid (by kernel_rfl) 32 _ rfl b4 0 rfl Hh [.int .u32 0, .int .u32 0, .int .i64 0, .int .i64 0, .int .i64 0, .int .i64 0] rfl _ Try.underlying32 rfl szH ?_) | (refine at_cmp (by kernel_rfl) .neq 32 _ _ rfl (.agg #[.int .u32 0, .int .u32 0, .int .i64 0, .int .i64 0, .int .i64 0, .int .i64 0]) (.agg F0.ip.toArray) rfl rfl false (by kernel_rfl) (EH _) ?_))
          by_cases h5 : op < 1
          · skip
            have HC := Lib.hid (show FL.chk ⟨s, d, 1, op, sm, si, tm, ti, 0, 0, 0, 0, 0, 0, x⟩ = 2 from by
              unfold FL.chk
              simp only [FL.kn]
              rw [if_neg (by omega), if_neg (by simp [h2]), if_neg (by decide), if_neg (by simp [h4]), if_pos (by simp)]
              unfold FL.achk
              dsimp only
              exact if_pos (.inl (by omega)))
            have rh5 : decide (op < 1) = true := by simpa using h5
            try (refine wp_region_lit ?_)
            repeat (first | go_skip | go_guarded | go_step | go_upon)
            go_wp2
            go_ret
            exact ⟨by rw [HC.out] <;> rfl, hb⟩
          have rh5 : decide (op < 1) = false := by simpa using h5
          by_cases h6 : 2 < op
          · skip
            have HC := Lib.hid (show FL.chk ⟨s, d, 1, op, sm, si, tm, ti, 0, 0, 0, 0, 0, 0, x⟩ = 2 from by
              unfold FL.chk
              simp only [FL.kn]
              rw [if_neg (by omega), if_neg (by simp [h2]), if_neg (by decide), if_neg (by simp [h4]), if_pos (by simp)]
              unfold FL.achk
              dsimp only
              exact if_pos (.inl (by omega)))
            have rh6 : decide (2 < op) = true := by simpa using h6
            try (refine wp_region_lit ?_)
            repeat (first | go_skip | go_guarded | go_step | go_upon)
            go_wp2
            go_ret
            exact ⟨by rw [HC.out] <;> rfl, hb⟩
          have rh6 : decide (2 < op) = false := by simpa using h6
          by_cases h7 : (281474976710655 : Int) < sm
          · skip
            have HC := Lib.hid (show FL.chk ⟨s, d, 1, op, sm, si, tm, ti, 0, 0, 0, 0, 0, 0, x⟩ = 2 from by
              unfold FL.chk
              simp only [FL.kn]
              rw [if_neg (by omega), if_neg (by simp [h2]), if_neg (by decide), if_neg (by simp [h4]), if_pos (by simp)]
              unfold FL.achk
              dsimp only
              exact if_pos (.inr (.inl h7)))
            have rh7 : decide ((281474976710655 : Int) < sm) = true := by simpa using h7
            try (refine wp_region_lit ?_)
            repeat (first | go_skip | go_guarded | go_step | go_upon)
            go_wp2
            go_ret
            exact ⟨by rw [HC.out] <;> rfl, hb⟩
          have rh7 : decide ((281474976710655 : Int) < sm) = false := by simpa using h7
          by_cases h8 : (281474976710655 : Int) < tm
          · skip
            have HC := Lib.hid (show FL.chk ⟨s, d, 1, op, sm, si, tm, ti, 0, 0, 0, 0, 0, 0, x⟩ = 2 from by
              unfold FL.chk
              simp only [FL.kn]
              rw [if_neg (by omega), if_neg (by simp [h2]), if_neg (by decide), if_neg (by simp [h4]), if_pos (by simp)]
              unfold FL.achk
              dsimp only
              exact if_pos (.inr (.inr h8)))
            have rh8 : decide ((281474976710655 : Int) < tm) = true := by simpa using h8
            try (refine wp_region_lit ?_)
            repeat (first | go_skip | go_guarded | go_step | go_upon)
            go_wp2
            go_ret
            exact ⟨by rw [HC.out] <;> rfl, hb⟩
          have rh8 : decide ((281474976710655 : Int) < tm) = false := by simpa using h8
          have HC := Lib.hid (show FL.chk ⟨s, d, 1, op, sm, si, tm, ti, 0, 0, 0, 0, 0, 0, x⟩ = 0 from by
            unfold FL.chk
            simp only [FL.kn]
            rw [if_neg (by omega), if_neg (by simp [h2]), if_neg (by decide), if_neg (by simp [h4]), if_pos (by simp)]
            unfold FL.achk
            dsimp only
            exact if_neg (by omega))
          try (refine wp_region_lit ?_)
          repeat (first | go_skip | go_guarded | go_step | go_upon)
          go_upto_region 13 with fail
          try (refine wp_region_lit ?_)
          repeat (first | go_skip | go_guarded | go_step | go_upon)
          go_upto_region 15 with fail
          try (refine wp_region_lit ?_)
          repeat (first | (go_at_call 25; refine (HP _).mono ?_; rintro e w9 ⟨rfl, hw⟩; obtain rfl := hw.symm) | go_skip | go_guarded | go_step | go_upon)
          go_wp2
          go_ret
          exact ⟨by rw [HC.out] <;> rfl, hb⟩
      · skip
        cases h3 : FL.eqa ⟨s, d, 2, op, sm, si, tm, ti, hs, hd, tt, pr, sp, dp, x⟩ F0 with
        | false =>
          have HC := Lib.hid (show FL.chk ⟨s, d, 2, op, sm, si, tm, ti, hs, hd, tt, pr, sp, dp, x⟩ = 3 from by
            unfold FL.chk
            simp only [FL.kn]
            rw [if_neg (by omega), if_neg (by simp [h2]), if_neg (by decide), if_pos (by simp [h3])])
          have EA := fun w => neqA ⟨s, d, 2, op, sm, si, tm, ti, hs, hd, tt, pr, sp, dp, x⟩ F0 w
          rw [h3] at EA
          go_wp2_with (first | (go_at_call 53; refine (hM _).mono ?_; rintro e w9 ⟨rfl, hw⟩; obtain rfl := hw.symm) | (refine at_mid (by kernel_rfl) 34 _ rfl b3 0 rfl Ha [.int .i64 op, .int .u64 sm, .int .u32 si, .int .u64 tm, .int .u32 ti] rfl _ Try.underlying34 rfl szA ?_) | (refine at_cmp (by kernel_rfl) .neq 34 _ _ rfl (.agg #[.int .i64 op, .int .u64 sm, .int .u32 si, .int .u64 tm, .int .u32 ti]) (.agg F0.ar.toArray) rfl rfl true (by kernel_rfl) (EA _) ?_))
          go_ret
          exact ⟨by rw [HC.out] <;> rfl, hb⟩
        | true =>
          have EA := fun w => neqA ⟨s, d, 2, op, sm, si, tm, ti, hs, hd, tt, pr, sp, dp, x⟩ F0 w
          rw [h3] at EA
          go_upto_region 11 with (first | (go_at_call 53; refine (hM _).mono ?_; rintro e w9 ⟨rfl, hw⟩; obtain rfl := hw.symm) | (refine at_mid (by kernel_rfl) 34 _ rfl b3 0 rfl Ha [.int .i64 op, .int .u64 sm, .int .u32 si, .int .u64 tm, .int .u32 ti] rfl _ Try.underlying34 rfl szA ?_) | (refine at_cmp (by kernel_rfl) .neq 34 _ _ rfl (.agg #[.int .i64 op, .int .u64 sm, .int .u32 si, .int .u64 tm, .int .u32 ti]) (.agg F0.ar.toArray) rfl rfl false (by kernel_rfl) (EA _) ?_))
          try (refine wp_region_lit ?_)
          repeat (first | go_skip | go_guarded | go_step | go_upon)
          go_upto_region 15 with fail
          all_goals (try ((try go_wp2); go_ret; have HC := Lib.hid (show FL.chk ⟨s, d, 2, op, sm, si, tm, ti, hs, hd, tt, pr, sp, dp, x⟩ = 2 from by unfold FL.chk; simp only [FL.kn]; rw [if_neg (by omega), if_neg (by simp [h2]), if_neg (by decide), if_neg (by simp [h3]), if_neg (by decide), if_pos (by simp)]; unfold FL.hchk; dsimp only; exact if_pos (up_any (by omega))); exact ⟨by rw [HC.out] <;> rfl, hb⟩))
          have HP := fun w => rported_is pr w
          cases hp : pt pr with
          | true =>
            rw [hp] at HP
            have HC := Lib.hid (show FL.chk ⟨s, d, 2, op, sm, si, tm, ti, hs, hd, tt, pr, sp, dp, x⟩ = 0 from by
              unfold FL.chk
              simp only [FL.kn]
              rw [if_neg (by omega), if_neg (by simp [h2]), if_neg (by decide), if_neg (by simp [h3]), if_neg (by decide), if_pos (by simp)]
              unfold FL.hchk
              rw [if_neg (by rw [up_t (n := tt) (by omega) (by omega), up_t (n := pr) (by omega) (by omega), up_t (n := sp) (by omega) (by omega), up_t (n := dp) (by omega) (by omega)]; decide)]
              exact if_neg (by rw [hp]; simp))
            try (refine wp_region_lit ?_)
            repeat (first | (go_at_call 25; refine (HP _).mono ?_; rintro e w9 ⟨rfl, hw⟩; obtain rfl := hw.symm) | go_skip | go_guarded | go_step | go_upon)
            go_wp2
            go_ret
            exact ⟨by rw [HC.out] <;> rfl, hb⟩
          | false =>
            rw [hp] at HP
            by_cases h13 : sp = 0
            · have r13 : (sp != 0) = false := by simpa using h13
              by_cases h14 : dp = 0
              · have r14 : (dp != 0) = false := by simpa using h14
                have HC := Lib.hid (show FL.chk ⟨s, d, 2, op, sm, si, tm, ti, hs, hd, tt, pr, sp, dp, x⟩ = 0 from by
                  unfold FL.chk
                  simp only [FL.kn]
                  rw [if_neg (by omega), if_neg (by simp [h2]), if_neg (by decide), if_neg (by simp [h3]), if_neg (by decide), if_pos (by simp)]
                  unfold FL.hchk
                  rw [if_neg (by rw [up_t (n := tt) (by omega) (by omega), up_t (n := pr) (by omega) (by omega), up_t (n := sp) (by omega) (by omega), up_t (n := dp) (by omega) (by omega)]; decide)]
                  exact if_neg (fun q => q.2.elim (fun h => h h13) (fun h => h h14)))
                clear h13 h14
                try (refine wp_region_lit ?_)
                repeat (first | (go_at_call 25; refine (HP _).mono ?_; rintro e w9 ⟨rfl, hw⟩; obtain rfl := hw.symm) | go_skip | go_guarded | go_step | go_upon)
                go_wp2
                go_ret
                exact ⟨by rw [HC.out] <;> rfl, hb⟩
              · have r14 : (dp != 0) = true := by simpa using h14
                have HC := Lib.hid (show FL.chk ⟨s, d, 2, op, sm, si, tm, ti, hs, hd, tt, pr, sp, dp, x⟩ = 3 from by
                  unfold FL.chk
                  simp only [FL.kn]
                  rw [if_neg (by omega), if_neg (by simp [h2]), if_neg (by decide), if_neg (by simp [h3]), if_neg (by decide), if_pos (by simp)]
                  unfold FL.hchk
                  rw [if_neg (by rw [up_t (n := tt) (by omega) (by omega), up_t (n := pr) (by omega) (by omega), up_t (n := sp) (by omega) (by omega), up_t (n := dp) (by omega) (by omega)]; decide)]
                  exact if_pos ⟨hp, .inr h14⟩)
                clear h13 h14
                try (refine wp_region_lit ?_)
                repeat (first | (go_at_call 25; refine (HP _).mono ?_; rintro e w9 ⟨rfl, hw⟩; obtain rfl := hw.symm) | go_skip | go_guarded | go_step | go_upon)
                go_wp2
                go_ret
                exact ⟨by rw [HC.out] <;> rfl, hb⟩
            · have r13 : (sp != 0) = true := by simpa using h13
              have HC := Lib.hid (show FL.chk ⟨s, d, 2, op, sm, si, tm, ti, hs, hd, tt, pr, sp, dp, x⟩ = 3 from by
                unfold FL.chk
                simp only [FL.kn]
                rw [if_neg (by omega), if_neg (by simp [h2]), if_neg (by decide), if_neg (by simp [h3]), if_neg (by decide), if_pos (by simp)]
                unfold FL.hchk
                rw [if_neg (by rw [up_t (n := tt) (by omega) (by omega), up_t (n := pr) (by omega) (by omega), up_t (n := sp) (by omega) (by omega), up_t (n := dp) (by omega) (by omega)]; decide)]
                exact if_pos ⟨hp, .inl h13⟩)
              clear h13
              try (refine wp_region_lit ?_)
              repeat (first | (go_at_call 25; refine (HP _).mono ?_; rintro e w9 ⟨rfl, hw⟩; obtain rfl := hw.symm) | go_skip | go_guarded | go_step | go_upon)
              go_wp2
              go_ret
              exact ⟨by rw [HC.out] <;> rfl, hb⟩
end Go.Proofs.Ytgpjelcihmbiiaa
namespace Go.Proofs.Ytgpjelcihmbiiaa
open Go.RowKit Go.Sort
set_option linter.unusedVariables false
set_option linter.unusedSimpArgs false
set_option maxRecDepth 100000

theorem datB_nil (B : Nat) (w : World) : DatB B w (.slice none 0 0) [] := World.ownsRow_nil w _ _ _
theorem run_lmt (w : World) : (Instr.buildSlice 23 2 #[(0, .int .u8 136), (1, .int .u8 181)]).run Try.prog w = .ok (.slice (some ⟨w.heap.size, 0, none⟩) 2 2) (w.alloc (.cells (([136, 181] : List Int).map (Value.int .u8)).toArray 5)) := by kernel_rfl
theorem at_lmt {ops : Array Oper} {rest : List Oper} {o : Oper} {a : Act} {w : World} {Q : Exit → Act → World → Prop} (hgd : o.guard = none) (ho : o.op = .buildSlice 23 2 #[(0, .const (.int .u8 136)), (1, .const (.int .u8 181))])
    (h : ∀ w', DatB w.heap.size w' (.slice (some ⟨w.heap.size, 0, none⟩) 2 2) [136, 181] → Below w.heap.size w w' → wpList Try.prog ops Q rest (a.put o.dst (.slice (some ⟨w.heap.size, 0, none⟩) 2 2)) w') : wpList Try.prog ops Q (o :: rest) a w :=
  wpList_plain hgd fun _ hK => by
    have ec : ∀ k, a.eval (.const (.int .u8 k)) = .int .u8 k := fun _ => rfl
    unfold Oper.wp execOp
    simp only [ho, List.map_toArray, List.map_cons, List.map_nil, ec, Sem.run_bind, run_lmt, Result.andThen_ok, Sem.run_pure]
    exact hK _ _ (h _ (datB_lit _ w [136, 181] (Nat.le_refl _) (by simp)) ((Below.refl _ w).alloc (Nat.le_refl _) _))
set_option maxHeartbeats 2000000 in
theorem rbytes_0 (s d op sm si tm ti hs hd tt pr sp dp x : Int) (hf : FL.Ok ⟨s, d, 0, op, sm, si, tm, ti, hs, hd, tt, pr, sp, dp, x⟩) (hc : FL.chk ⟨s, d, 0, op, sm, si, tm, ti, hs, hd, tt, pr, sp, dp, x⟩ = 0) (w : World) : Calls Try.prog 22 #[.agg #[.int .u64 s, .int .u64 d, .int .i64 0, .int .i64 op, .int .u64 sm, .int .u32 si, .int .u64 tm, .int .u32 ti, .int .u32 hs, .int .u32 hd, .int .i64 tt, .int .i64 pr, .int .i64 sp, .int .i64 dp, .int .u64 x]] w fun e w' => ∃ v, e = .returned (.tuple #[v, .int .i64 0]) ∧ DatB w.heap.size w' v (FL.enc ⟨s, d, 0, op, sm, si, tm, ti, hs, hd, tt, pr, sp, dp, x⟩) ∧ Below w.heap.size w w' := by
  have hC := fun w => rcheck_is ⟨s, d, 0, op, sm, si, tm, ti, hs, hd, tt, pr, sp, dp, x⟩ hf.s w
  rw [hc] at hC
  have q1 := hf.s
  have q2 := hf.d
  have q3 := hf.x
  unfold FL.v FL.cs at hC
  dsimp only at hC q1 q2 q3
  go_enter Try.func22, Try.ntmps22
  go_wp2_with (first | (refine at_box rfl _ _ rfl [.int .u64 s, .int .u64 d, .int .i64 0, .int .i64 op, .int .u64 sm, .int .u32 si, .int .u64 tm, .int .u32 ti, .int .u32 hs, .int .u32 hd, .int .i64 tt, .int .i64 pr, .int .i64 sp, .int .i64 dp, .int .u64 x] rfl ?_; rintro w1 H1 k1 s1) | (refine at_mid rfl 36 _ rfl w.heap.size 0 rfl H1 [.int .u64 s, .int .u64 d, .int .i64 0, .int .i64 op, .int .u64 sm, .int .u32 si, .int .u64 tm, .int .u32 ti, .int .u32 hs, .int .u32 hd, .int .i64 tt, .int .i64 pr, .int .i64 sp, .int .i64 dp, .int .u64 x] rfl _ Try.underlying36 rfl szF ?_) | (go_at_call 23; refine (hC _).mono ?_; rintro r w2 ⟨rfl, k2⟩; have x2 := H1.below k2 H1.lt; have K2 := k1.trans (k2.mono k1.size); clear hC H1 k1 k2))
  refine wp_region_selB w2.heap.size [0, 1, 3, 4] 3 rfl (by kernel_rfl) (by kernel_rfl) (by kernel_rfl) (by kernel_rfl) (fun _ d _ _ _ h => by cases d <;> exact h) ?_
  intro W hW
  have drW : Below w2.heap.size w2 W := by subst hW; exact (Below.refl _ _).drew
  have X := x2.below drW x2.lt
  have c1 : ∀ q : Beh w2.heap.size W, q.w.cell? ⟨w.heap.size, 1, none⟩ = some (.int .u64 d) := fun q => Blk.cell (Blk.below X q.h x2.lt) 1 rfl
  have c0 : ∀ q : Beh w2.heap.size W, q.w.cell? ⟨w.heap.size, 0, none⟩ = some (.int .u64 s) := fun q => Blk.cell (Blk.below X q.h x2.lt) 0 rfl
  clear hW
  simp only [pickOps, List.filterMap_cons, List.filterMap_nil, List.getElem?_cons_zero, List.getElem?_cons_succ, Option.map_some, List.map_cons, List.map_nil]
  repeat (go_big_quiet_step (fail))
  refine wpQuiet_nil ?_
  clear c1 c0
  refine wpAnyH_one (k := 2) (by kernel_rfl) rfl (fun K hQ => ?_)
  go_simp
  refine (rput_is w2.heap.size [] (by decide) (.slice none 0 0) d 6 q2.1 q2.2 (by decide) W drW.size (datB_nil _ _)).mono ?_
  rintro r w3 ⟨v3, rfl, D3, e3, -⟩
  rw [List.nil_append] at D3
  refine hQ _ _ ⟨⟨_, e3⟩, rfl⟩ ?_
  clear hQ K
  refine wpAnyH_one (k := 5) (by kernel_rfl) rfl (fun K hQ => ?_)
  go_simp
  refine (rput_is w2.heap.size (enc 6 d.toNat) (by simp [enc_length]) v3 s 6 q1.1 q1.2 (by decide) w3 (drW.trans e3).size D3).mono ?_
  rintro r w4 ⟨v4, rfl, D4, e4, -⟩
  have b4 := e3.trans e4
  refine hQ _ _ ⟨⟨_, b4⟩, rfl⟩ ?_
  clear hQ K
  refine wpAnyH_one (k := 6) (by kernel_rfl) rfl (fun K hQ => ?_)
  go_simp
  refine hQ _ _ ⟨⟨_, b4⟩, rfl⟩ ?_
  clear hQ K
  refine wpAnyH_done (by kernel_rfl) ?_ 0
  have E4 := drW.trans b4
  have x4 := x2.below E4 x2.lt
  have c2 := Blk.cell x4 2 (v := .int .i64 0) rfl
  clear drW X D3 e3 e4 b4
  go_wp2_with (first
    | (refine at_lmt rfl rfl ?_; rintro w5 D5 k5)
    | (refine at_app rfl (.tmp 60) (.tmp 61) rfl _ _ rfl rfl w2.heap.size _ _ (D4.below k5) D5.dat (Nat.le_trans E4.size k5.size) (by simp [enc_length]) ?_; rintro w6 v6 D6 k6 z6; have E6 := (E4.trans (k5.mono E4.size)).trans k6; have x6 := x2.below E6 x2.lt; have c14 := Blk.cell x6 14 (v := .int .u64 x) rfl; clear D4 D5 k5 k6 c2 E4 x4))
  go_at_call 51
  refine (rput_is w2.heap.size _ (by simp [enc_length]) _ x 8 q3.1 q3.2 (by decide) w6 E6.size D6).mono ?_
  rintro r wz ⟨vz, rfl, Dz, ez, -⟩
  go_wp2
  go_ret2
  have EZ := E6.trans ez
  refine ⟨vz, rfl, ?_, K2.trans (EZ.mono K2.size)⟩
  have := World.ownsRow.mono Dz K2.size
  rw [show ([136, 181] : List Int) = enc 2 34997 by decide] at this
  rw [show FL.enc ⟨s, d, 0, op, sm, si, tm, ti, hs, hd, tt, pr, sp, dp, x⟩ = enc 6 d.toNat ++ enc 6 s.toNat ++ enc 2 34997 ++ enc 8 x.toNat by simp [FL.enc, FL.mid, List.append_assoc]]
  exact this
end Go.Proofs.Ytgpjelcihmbiiaa
namespace Go.Proofs.Ytgpjelcihmbiiaa
open Go.RowKit Go.Sort
set_option linter.unusedVariables false
set_option linter.unusedSimpArgs false
set_option maxRecDepth 100000

set_option maxHeartbeats 4000000 in
theorem rbytes_1 (s d op sm si tm ti hs hd tt pr sp dp x : Int) (hf : FL.Ok ⟨s, d, 1, op, sm, si, tm, ti, hs, hd, tt, pr, sp, dp, x⟩) (hc : FL.chk ⟨s, d, 1, op, sm, si, tm, ti, hs, hd, tt, pr, sp, dp, x⟩ = 0) (o0 : 0 ≤ op) (o1 : op < 65536) (w : World) : Calls Try.prog 22 #[.agg #[.int .u64 s, .int .u64 d, .int .i64 1, .int .i64 op, .int .u64 sm, .int .u32 si, .int .u64 tm, .int .u32 ti, .int .u32 hs, .int .u32 hd, .int .i64 tt, .int .i64 pr, .int .i64 sp, .int .i64 dp, .int .u64 x]] w fun e w' => ∃ v, e = .returned (.tuple #[v, .int .i64 0]) ∧ DatB w.heap.size w' v (FL.enc ⟨s, d, 1, op, sm, si, tm, ti, hs, hd, tt, pr, sp, dp, x⟩) ∧ Below w.heap.size w w' := by
  have hC := fun w => rcheck_is ⟨s, d, 1, op, sm, si, tm, ti, hs, hd, tt, pr, sp, dp, x⟩ hf.s w
  rw [hc] at hC
  have q1 := hf.s
  have q2 := hf.d
  have q3 := hf.x
  unfold FL.v FL.cs at hC
  dsimp only at hC q1 q2 q3
  go_enter Try.func22, Try.ntmps22
  go_wp2_with (first | (refine at_box rfl _ _ rfl [.int .u64 s, .int .u64 d, .int .i64 1, .int .i64 op, .int .u64 sm, .int .u32 si, .int .u64 tm, .int .u32 ti, .int .u32 hs, .int .u32 hd, .int .i64 tt, .int .i64 pr, .int .i64 sp, .int .i64 dp, .int .u64 x] rfl ?_; rintro w1 H1 k1 s1) | (refine at_mid rfl 36 _ rfl w.heap.size 0 rfl H1 [.int .u64 s, .int .u64 d, .int .i64 1, .int .i64 op, .int .u64 sm, .int .u32 si, .int .u64 tm, .int .u32 ti, .int .u32 hs, .int .u32 hd, .int .i64 tt, .int .i64 pr, .int .i64 sp, .int .i64 dp, .int .u64 x] rfl _ Try.underlying36 rfl szF ?_) | (go_at_call 23; refine (hC _).mono ?_; rintro r w2 ⟨rfl, k2⟩; have x2 := H1.below k2 H1.lt; have K2 := k1.trans (k2.mono k1.size); clear hC H1 k1 k2))
  refine wp_region_selB w2.heap.size [0, 1, 3, 4] 3 rfl (by kernel_rfl) (by kernel_rfl) (by kernel_rfl) (by kernel_rfl) (fun _ d _ _ _ h => by cases d <;> exact h) ?_
  intro W hW
  have drW : Below w2.heap.size w2 W := by subst hW; exact (Below.refl _ _).drew
  have X := x2.below drW x2.lt
  have c1 : ∀ q : Beh w2.heap.size W, q.w.cell? ⟨w.heap.size, 1, none⟩ = some (.int .u64 d) := fun q => Blk.cell (Blk.below X q.h x2.lt) 1 rfl
  have c0 : ∀ q : Beh w2.heap.size W, q.w.cell? ⟨w.heap.size, 0, none⟩ = some (.int .u64 s) := fun q => Blk.cell (Blk.below X q.h x2.lt) 0 rfl
  clear hW
  simp only [pickOps, List.filterMap_cons, List.filterMap_nil, List.getElem?_cons_zero, List.getElem?_cons_succ, Option.map_some, List.map_cons, List.map_nil]
  repeat (go_big_quiet_step (fail))
  refine wpQuiet_nil ?_
  clear c1 c0
  refine wpAnyH_one (k := 2) (by kernel_rfl) rfl (fun K hQ => ?_)
  go_simp
  refine (rput_is w2.heap.size [] (by decide) (.slice none 0 0) d 6 q2.1 q2.2 (by decide) W drW.size (datB_nil _ _)).mono ?_
  rintro r w3 ⟨v3, rfl, D3, e3, -⟩
  rw [List.nil_append] at D3
  refine hQ _ _ ⟨⟨_, e3⟩, rfl⟩ ?_
  clear hQ K
  refine wpAnyH_one (k := 5) (by kernel_rfl) rfl (fun K hQ => ?_)
  go_simp
  refine (rput_is w2.heap.size (enc 6 d.toNat) (by simp [enc_length]) v3 s 6 q1.1 q1.2 (by decide) w3 (drW.trans e3).size D3).mono ?_
  rintro r w4 ⟨v4, rfl, D4, e4, -⟩
  have b4 := e3.trans e4
  refine hQ _ _ ⟨⟨_, b4⟩, rfl⟩ ?_
  clear hQ K
  refine wpAnyH_one (k := 6) (by kernel_rfl) rfl (fun K hQ => ?_)
  go_simp
  refine hQ _ _ ⟨⟨_, b4⟩, rfl⟩ ?_
  clear hQ K
  refine wpAnyH_done (by kernel_rfl) ?_ 0
  have E4 := drW.trans b4
  have x4 := x2.below E4 x2.lt
  have c2 := Blk.cell x4 2 (v := .int .i64 1) rfl
  clear drW X D3 e3 e4 b4
  have q4 := hf.sm
  have q5 := hf.si
  have q6 := hf.tm
  have q7 := hf.ti
  dsimp only at q4 q5 q6 q7
  go_wp2_with fail
  clear c2
  refine wp_region_selB w2.heap.size [0, 3, 4, 5, 6] 4 rfl (by kernel_rfl) (by kernel_rfl) (by kernel_rfl) (by kernel_rfl) (fun _ d _ _ _ h => by cases d <;> exact h) ?_
  intro P hP
  have drP : Below w2.heap.size w4 P := by subst hP; exact (Below.refl _ _).drew
  have XP := x4.below drP x2.lt
  have EP := E4.trans drP
  have DP := D4.below (show Below w4.heap.size w4 P by subst hP; exact (Below.refl _ _).drew)
  have r3 : ∀ q : Beh w2.heap.size P, q.w.cell? ⟨w.heap.size, 3, none⟩ = some (.int .i64 op) := fun q => Blk.cell (Blk.below XP q.h x2.lt) 3 rfl
  clear hP x4 D4
  simp only [pickOps, List.filterMap_cons, List.filterMap_nil, List.getElem?_cons_zero, List.getElem?_cons_succ, Option.map_some, List.map_cons, List.map_nil]
  repeat (go_big_quiet_step (fail))
  refine wpQuiet_nil ?_
  clear r3
  have gP0 : Below w2.heap.size P P := Below.refl _ _
  have DlP : Dat (P.alloc (.cells #[.int .u8 8, .int .u8 6, .int .u8 0, .int .u8 1, .int .u8 8, .int .u8 0, .int .u8 6, .int .u8 4] 5)) (.slice (some ⟨P.heap.size, 0, none⟩) 8 8) [8, 6, 0, 1, 8, 0, 6, 4] := (datB_lit 0 P [8, 6, 0, 1, 8, 0, 6, 4] (Nat.zero_le _) (by simp)).dat
  have gP1 : Below w2.heap.size P (P.alloc (.cells #[.int .u8 8, .int .u8 6, .int .u8 0, .int .u8 1, .int .u8 8, .int .u8 0, .int .u8 6, .int .u8 4] 5)) := gP0.alloc (EP.trans gP0).size _
  have mP1 : Below P.heap.size P (P.alloc (.cells #[.int .u8 8, .int .u8 6, .int .u8 0, .int .u8 1, .int .u8 8, .int .u8 0, .int .u8 6, .int .u8 4] 5)) := (Below.refl _ _).alloc (Nat.le_refl _) _
  refine wpAnyH_one (k := 1) (by kernel_rfl) rfl (fun K hQ => ?_)
  go_simp
  refine hQ _ _ ⟨⟨_, gP1⟩, rfl⟩ ?_
  clear hQ K
  have DP1 := DP.below mP1
  obtain ⟨vaP, waP, hrP, DAP, hgP⟩ := append_any _ 23 w2.heap.size _ _ _ _ DP1 DlP.seg (EP.trans gP1).size (by simp [enc_length])
  have gP2 : Below w2.heap.size P waP := gP1.grown hgP (EP.trans gP1).size fun k hk => (World.ownsRow.lt DP1 k hk).1
  have HRP := Lib.hid hrP
  clear hrP hgP
  refine wpAnyH_one (k := 2) (by kernel_rfl) rfl (fun K hQ => ?_)
  refine if_true_prop (by kernel_rfl) ?_
  refine Lib.wp_append_run _ _ _ 23 23 rfl _ _ rfl rfl _ _ HRP.out ?_
  refine hQ _ _ ⟨⟨_, gP2⟩, rfl⟩ ?_
  clear hQ K HRP
  refine wpAnyH_one (k := 7) (by kernel_rfl) rfl (fun K hQ => ?_)
  go_simp
  refine (rput_is w2.heap.size _ (by simp [enc_length]) vaP op 2 o0 (by omega) (by decide) waP (EP.trans gP2).size DAP).mono ?_
  rintro r wP3 ⟨vP3, rfl, DP3, fP3, -⟩
  have gP3 : Below w2.heap.size P wP3 := gP2.trans fP3
  refine hQ _ _ ⟨⟨_, gP3⟩, rfl⟩ ?_
  clear hQ K fP3
  refine wpAnyH_one (k := 8) (by kernel_rfl) rfl (fun K hQ => ?_)
  go_simp
  refine hQ _ _ ⟨⟨_, gP3⟩, rfl⟩ ?_
  clear hQ K
  refine wpAnyH_done (by kernel_rfl) ?_ 0
  have FP := EP.trans gP3
  have xP := x2.below FP x2.lt
  clear drP XP EP
  go_wp2_with fail
  refine wp_region_selB w2.heap.size [0, 1, 2, 3, 5, 6, 7, 8] 3 rfl (by kernel_rfl) (by kernel_rfl) (by kernel_rfl) (by kernel_rfl) (fun _ d _ _ _ h => by cases d <;> exact h) ?_
  intro R hR
  have drR : Below w2.heap.size wP3 R := by subst hR; exact (Below.refl _ _).drew
  have XR := xP.below drR x2.lt
  have ER := FP.trans drR
  have DR := DP3.below (show Below wP3.heap.size wP3 R by subst hR; exact (Below.refl _ _).drew)
  have r4 : ∀ q : Beh w2.heap.size R, q.w.cell? ⟨w.heap.size, 4, none⟩ = some (.int .u64 sm) := fun q => Blk.cell (Blk.below XR q.h x2.lt) 4 rfl
  have r5 : ∀ q : Beh w2.heap.size R, q.w.cell? ⟨w.heap.size, 5, none⟩ = some (.int .u32 si) := fun q => Blk.cell (Blk.below XR q.h x2.lt) 5 rfl
  clear hR xP DP3
  simp only [pickOps, List.filterMap_cons, List.filterMap_nil, List.getElem?_cons_zero, List.getElem?_cons_succ, Option.map_some, List.map_cons, List.map_nil]
  repeat (go_big_quiet_step (fail))
  refine wpQuiet_nil ?_
  clear r4 r5
  have gR0 : Below w2.heap.size R R := Below.refl _ _
  refine wpAnyH_one (k := 4) (by kernel_rfl) rfl (fun K hQ => ?_)
  go_simp
  refine (rput_is w2.heap.size _ (by simp [enc_length]) vP3 sm 6 q4.1 q4.2 (by decide) R (ER.trans gR0).size DR).mono ?_
  rintro r wR1 ⟨vR1, rfl, DR1, fR1, -⟩
  have gR1 : Below w2.heap.size R wR1 := gR0.trans fR1
  refine hQ _ _ ⟨⟨_, gR1⟩, rfl⟩ ?_
  clear hQ K fR1
  refine wpAnyH_one (k := 9) (by kernel_rfl) rfl (fun K hQ => ?_)
  go_simp
  refine (rput_is w2.heap.size _ (by simp [enc_length]) vR1 si 4 q5.1 (by omega) (by decide) wR1 (ER.trans gR1).size DR1).mono ?_
  rintro r wR2 ⟨vR2, rfl, DR2, fR2, -⟩
  have gR2 : Below w2.heap.size R wR2 := gR1.trans fR2
  refine hQ _ _ ⟨⟨_, gR2⟩, rfl⟩ ?_
  clear hQ K fR2
  refine wpAnyH_one (k := 10) (by kernel_rfl) rfl (fun K hQ => ?_)
  go_simp
  refine hQ _ _ ⟨⟨_, gR2⟩, rfl⟩ ?_
  clear hQ K
  refine wpAnyH_done (by kernel_rfl) ?_ 0
  have FR := ER.trans gR2
  have xR := x2.below FR x2.lt
  clear drR XR ER
  go_wp2_with fail
  refine wp_region_selB w2.heap.size [0, 1, 2, 3, 5, 6, 7, 8] 3 rfl (by kernel_rfl) (by kernel_rfl) (by kernel_rfl) (by kernel_rfl) (fun _ d _ _ _ h => by cases d <;> exact h) ?_
  intro T hT
  have drT : Below w2.heap.size wR2 T := by subst hT; exact (Below.refl _ _).drew
  have XT := xR.below drT x2.lt
  have ET := FR.trans drT
  have DT := DR2.below (show Below wR2.heap.size wR2 T by subst hT; exact (Below.refl _ _).drew)
  have r6 : ∀ q : Beh w2.heap.size T, q.w.cell? ⟨w.heap.size, 6, none⟩ = some (.int .u64 tm) := fun q => Blk.cell (Blk.below XT q.h x2.lt) 6 rfl
  have r7 : ∀ q : Beh w2.heap.size T, q.w.cell? ⟨w.heap.size, 7, none⟩ = some (.int .u32 ti) := fun q => Blk.cell (Blk.below XT q.h x2.lt) 7 rfl
  clear hT xR DR2
  simp only [pickOps, List.filterMap_cons, List.filterMap_nil, List.getElem?_cons_zero, List.getElem?_cons_succ, Option.map_some, List.map_cons, List.map_nil]
  repeat (go_big_quiet_step (fail))
  refine wpQuiet_nil ?_
  clear r6 r7
  have gT0 : Below w2.heap.size T T := Below.refl _ _
  refine wpAnyH_one (k := 4) (by kernel_rfl) rfl (fun K hQ => ?_)
  go_simp
  refine (rput_is w2.heap.size _ (by simp [enc_length]) vR2 tm 6 q6.1 q6.2 (by decide) T (ET.trans gT0).size DT).mono ?_
  rintro r wT1 ⟨vT1, rfl, DT1, fT1, -⟩
  have gT1 : Below w2.heap.size T wT1 := gT0.trans fT1
  refine hQ _ _ ⟨⟨_, gT1⟩, rfl⟩ ?_
  clear hQ K fT1
  refine wpAnyH_one (k := 9) (by kernel_rfl) rfl (fun K hQ => ?_)
  go_simp
  refine (rput_is w2.heap.size _ (by simp [enc_length]) vT1 ti 4 q7.1 (by omega) (by decide) wT1 (ET.trans gT1).size DT1).mono ?_
  rintro r wT2 ⟨vT2, rfl, DT2, fT2, -⟩
  have gT2 : Below w2.heap.size T wT2 := gT1.trans fT2
  refine hQ _ _ ⟨⟨_, gT2⟩, rfl⟩ ?_
  clear hQ K fT2
  refine wpAnyH_one (k := 10) (by kernel_rfl) rfl (fun K hQ => ?_)
  go_simp
  refine hQ _ _ ⟨⟨_, gT2⟩, rfl⟩ ?_
  clear hQ K
  refine wpAnyH_done (by kernel_rfl) ?_ 0
  have FT := ET.trans gT2
  have xT := x2.below FT x2.lt
  clear drT XT ET
  have c14 := Blk.cell xT 14 (v := .int .u64 x) rfl
  go_wp2_with fail
  go_at_call 51
  refine (rput_is w2.heap.size _ (by simp [enc_length]) _ x 8 q3.1 q3.2 (by decide) wT2 FT.size DT2).mono ?_
  rintro r wz ⟨vz, rfl, Dz, ez, -⟩
  go_wp2
  go_ret2
  have EZ := FT.trans ez
  refine ⟨vz, rfl, ?_, K2.trans (EZ.mono K2.size)⟩
  have := World.ownsRow.mono Dz K2.size
  rw [show ([8, 6, 0, 1, 8, 0, 6, 4] : List Int) = enc 2 2054 ++ enc 6 4429186564 by decide] at this
  rw [show FL.enc ⟨s, d, 1, op, sm, si, tm, ti, hs, hd, tt, pr, sp, dp, x⟩ = enc 6 d.toNat ++ enc 6 s.toNat ++ (enc 2 2054 ++ enc 6 4429186564) ++ enc 2 op.toNat ++ enc 6 sm.toNat ++ enc 4 si.toNat ++ enc 6 tm.toNat ++ enc 4 ti.toNat ++ enc 8 x.toNat by simp [FL.enc, FL.mid, FL.arB, List.append_assoc]]
  exact this
end Go.Proofs.Ytgpjelcihmbiiaa
namespace Go.Proofs.Ytgpjelcihmbiiaa
open Go.RowKit Go.Sort
set_option linter.unusedVariables false
set_option linter.unusedSimpArgs false
set_option maxRecDepth 100000

theorem run_lpt (w : World) : (Instr.buildSlice 23 4 #[(0, .int .u8 0), (1, .int .u8 16), (2, .int .u8 0), (3, .int .u8 0)]).run Try.prog w = .ok (.slice (some ⟨w.heap.size, 0, none⟩) 4 4) (w.alloc (.cells (([0, 16, 0, 0] : List Int).map (Value.int .u8)).toArray 5)) := by kernel_rfl
theorem at_lpt {ops : Array Oper} {rest : List Oper} {o : Oper} {a : Act} {w : World} {Q : Exit → Act → World → Prop} (hgd : o.guard = none) (ho : o.op = .buildSlice 23 4 #[(0, .const (.int .u8 0)), (1, .const (.int .u8 16)), (2, .const (.int .u8 0)), (3, .const (.int .u8 0))])
    (h : ∀ w', DatB w.heap.size w' (.slice (some ⟨w.heap.size, 0, none⟩) 4 4) [0, 16, 0, 0] → Below w.heap.size w w' → wpList Try.prog ops Q rest (a.put o.dst (.slice (some ⟨w.heap.size, 0, none⟩) 4 4)) w') : wpList Try.prog ops Q (o :: rest) a w :=
  wpList_plain hgd fun _ hK => by
    have ec : ∀ k, a.eval (.const (.int .u8 k)) = .int .u8 k := fun _ => rfl
    unfold Oper.wp execOp
    simp only [ho, List.map_toArray, List.map_cons, List.map_nil, ec, Sem.run_bind, run_lpt, Result.andThen_ok, Sem.run_pure]
    exact hK _ _ (h _ (datB_lit _ w [0, 16, 0, 0] (Nat.le_refl _) (by simp)) ((Below.refl _ w).alloc (Nat.le_refl _) _))
set_option maxHeartbeats 4000000 in
theorem rbytes_2y (s d op sm si tm ti hs hd tt pr sp dp x : Int) (hf : FL.Ok ⟨s, d, 2, op, sm, si, tm, ti, hs, hd, tt, pr, sp, dp, x⟩) (hc : FL.chk ⟨s, d, 2, op, sm, si, tm, ti, hs, hd, tt, pr, sp, dp, x⟩ = 0) (hp : pt pr = true) (t0 : 0 ≤ tt) (t1 : tt < 256) (p0 : 0 ≤ pr) (p1 : pr < 256) (a0 : 0 ≤ sp) (a1 : sp < 65536) (b0 : 0 ≤ dp) (b1 : dp < 65536) (w : World) : Calls Try.prog 22 #[.agg #[.int .u64 s, .int .u64 d, .int .i64 2, .int .i64 op, .int .u64 sm, .int .u32 si, .int .u64 tm, .int .u32 ti, .int .u32 hs, .int .u32 hd, .int .i64 tt, .int .i64 pr, .int .i64 sp, .int .i64 dp, .int .u64 x]] w fun e w' => ∃ v, e = .returned (.tuple #[v, .int .i64 0]) ∧ DatB w.heap.size w' v (FL.enc ⟨s, d, 2, op, sm, si, tm, ti, hs, hd, tt, pr, sp, dp, x⟩) ∧ Below w.heap.size w w' := by
  have ho : Oct (rh 36 tt pr hs hd 0) := by
    have := hdB_oct ⟨s, d, 2, op, sm, si, tm, ti, hs, hd, tt, pr, sp, dp, x⟩ 0
    rw [← rh_hdB] at this
    simpa [FL.size, hp] using this
  have hrh : ∀ c, rh 36 tt pr hs hd c = FL.hdB ⟨s, d, 2, op, sm, si, tm, ti, hs, hd, tt, pr, sp, dp, x⟩ c := fun c => by
    have := rh_hdB ⟨s, d, 2, op, sm, si, tm, ti, hs, hd, tt, pr, sp, dp, x⟩ c
    simpa [FL.size, hp] using this
  have HO := Lib.hid ho; have HRH := Lib.hid hrh; have HPT := Lib.hid hp
  clear ho hrh
  have HP := fun w => rported_is pr w
  rw [hp] at HP
  clear hp
  have hC := fun w => rcheck_is ⟨s, d, 2, op, sm, si, tm, ti, hs, hd, tt, pr, sp, dp, x⟩ hf.s w
  rw [hc] at hC
  have q1 := hf.s
  have q2 := hf.d
  have q3 := hf.x
  unfold FL.v FL.cs at hC
  dsimp only at hC q1 q2 q3
  go_enter Try.func22, Try.ntmps22
  go_wp2_with (first | (refine at_box rfl _ _ rfl [.int .u64 s, .int .u64 d, .int .i64 2, .int .i64 op, .int .u64 sm, .int .u32 si, .int .u64 tm, .int .u32 ti, .int .u32 hs, .int .u32 hd, .int .i64 tt, .int .i64 pr, .int .i64 sp, .int .i64 dp, .int .u64 x] rfl ?_; rintro w1 H1 k1 s1) | (refine at_mid rfl 36 _ rfl w.heap.size 0 rfl H1 [.int .u64 s, .int .u64 d, .int .i64 2, .int .i64 op, .int .u64 sm, .int .u32 si, .int .u64 tm, .int .u32 ti, .int .u32 hs, .int .u32 hd, .int .i64 tt, .int .i64 pr, .int .i64 sp, .int .i64 dp, .int .u64 x] rfl _ Try.underlying36 rfl szF ?_) | (go_at_call 23; refine (hC _).mono ?_; rintro r w2 ⟨rfl, k2⟩; have x2 := H1.below k2 H1.lt; have K2 := k1.trans (k2.mono k1.size); clear hC H1 k1 k2))
  refine wp_region_selB w2.heap.size [0, 1, 3, 4] 3 rfl (by kernel_rfl) (by kernel_rfl) (by kernel_rfl) (by kernel_rfl) (fun _ d _ _ _ h => by cases d <;> exact h) ?_
  intro W hW
  have drW : Below w2.heap.size w2 W := by subst hW; exact (Below.refl _ _).drew
  have X := x2.below drW x2.lt
  have c1 : ∀ q : Beh w2.heap.size W, q.w.cell? ⟨w.heap.size, 1, none⟩ = some (.int .u64 d) := fun q => Blk.cell (Blk.below X q.h x2.lt) 1 rfl
  have c0 : ∀ q : Beh w2.heap.size W, q.w.cell? ⟨w.heap.size, 0, none⟩ = some (.int .u64 s) := fun q => Blk.cell (Blk.below X q.h x2.lt) 0 rfl
  clear hW
  simp only [pickOps, List.filterMap_cons, List.filterMap_nil, List.getElem?_cons_zero, List.getElem?_cons_succ, Option.map_some, List.map_cons, List.map_nil]
  repeat (go_big_quiet_step (fail))
  refine wpQuiet_nil ?_
  clear c1 c0
  refine wpAnyH_one (k := 2) (by kernel_rfl) rfl (fun K hQ => ?_)
  go_simp
  refine (rput_is w2.heap.size [] (by decide) (.slice none 0 0) d 6 q2.1 q2.2 (by decide) W drW.size (datB_nil _ _)).mono ?_
  rintro r w3 ⟨v3, rfl, D3, e3, -⟩
  rw [List.nil_append] at D3
  refine hQ _ _ ⟨⟨_, e3⟩, rfl⟩ ?_
  clear hQ K
  refine wpAnyH_one (k := 5) (by kernel_rfl) rfl (fun K hQ => ?_)
  go_simp
  refine (rput_is w2.heap.size (enc 6 d.toNat) (by simp [enc_length]) v3 s 6 q1.1 q1.2 (by decide) w3 (drW.trans e3).size D3).mono ?_
  rintro r w4 ⟨v4, rfl, D4, e4, -⟩
  have b4 := e3.trans e4
  refine hQ _ _ ⟨⟨_, b4⟩, rfl⟩ ?_
  clear hQ K
  refine wpAnyH_one (k := 6) (by kernel_rfl) rfl (fun K hQ => ?_)
  go_simp
  refine hQ _ _ ⟨⟨_, b4⟩, rfl⟩ ?_
  clear hQ K
  refine wpAnyH_done (by kernel_rfl) ?_ 0
  have E4 := drW.trans b4
  have x4 := x2.below E4 x2.lt
  have c2 := Blk.cell x4 2 (v := .int .i64 2) rfl
  clear drW X D3 e3 e4 b4
  have q4 := hf.hs
  have q5 := hf.hd
  dsimp only at q4 q5
  have c11 := Blk.cell x4 11 (v := .int .i64 pr) rfl
  go_wp2_with (go_at_call 25; refine (HP _).mono ?_; rintro e w9 ⟨rfl, hw⟩; obtain rfl := hw.symm)
  clear c2 c11 HP
  refine wp_region_selB w2.heap.size [0, 3, 4, 5, 6, 7, 8, 9, 10, 11, 12, 13, 14, 15] 5 rfl (by kernel_rfl) (by kernel_rfl) (by kernel_rfl) (by kernel_rfl) (fun _ d _ _ _ h => by cases d <;> exact h) ?_
  intro P hP
  have drP : Below w2.heap.size w4 P := by subst hP; exact (Below.refl _ _).drew
  have XP := x4.below drP x2.lt
  have EP := E4.trans drP
  have DP := D4.below (show Below w4.heap.size w4 P by subst hP; exact (Below.refl _ _).drew)
  have r10 : ∀ q : Beh w2.heap.size P, q.w.cell? ⟨w.heap.size, 10, none⟩ = some (.int .i64 tt) := fun q => Blk.cell (Blk.below XP q.h x2.lt) 10 rfl
  have r11 : ∀ q : Beh w2.heap.size P, q.w.cell? ⟨w.heap.size, 11, none⟩ = some (.int .i64 pr) := fun q => Blk.cell (Blk.below XP q.h x2.lt) 11 rfl
  have r8 : ∀ q : Beh w2.heap.size P, q.w.cell? ⟨w.heap.size, 8, none⟩ = some (.int .u32 hs) := fun q => Blk.cell (Blk.below XP q.h x2.lt) 8 rfl
  have r9 : ∀ q : Beh w2.heap.size P, q.w.cell? ⟨w.heap.size, 9, none⟩ = some (.int .u32 hd) := fun q => Blk.cell (Blk.below XP q.h x2.lt) 9 rfl
  clear hP x4 D4
  simp only [pickOps, List.filterMap_cons, List.filterMap_nil, List.getElem?_cons_zero, List.getElem?_cons_succ, Option.map_some, List.map_cons, List.map_nil]
  repeat (go_big_quiet_step (fail))
  refine wpQuiet_nil ?_
  clear r10 r11 r8 r9
  have gP0 : Below w2.heap.size P P := Below.refl _ _
  have DlP : Dat (P.alloc (.cells #[.int .u8 8, .int .u8 0] 5)) (.slice (some ⟨P.heap.size, 0, none⟩) 2 2) [8, 0] := (datB_lit 0 P [8, 0] (Nat.zero_le _) (by simp)).dat
  have gP1 : Below w2.heap.size P (P.alloc (.cells #[.int .u8 8, .int .u8 0] 5)) := gP0.alloc (EP.trans gP0).size _
  have mP1 : Below P.heap.size P (P.alloc (.cells #[.int .u8 8, .int .u8 0] 5)) := (Below.refl _ _).alloc (Nat.le_refl _) _
  refine wpAnyH_one (k := 1) (by kernel_rfl) rfl (fun K hQ => ?_)
  go_simp
  refine hQ _ _ ⟨⟨_, gP1⟩, rfl⟩ ?_
  clear hQ K
  have DP1 := DP.below mP1
  obtain ⟨vaP2, waP2, hrP2, DAP2, hgP2⟩ := append_any _ 23 w2.heap.size _ _ _ _ DP1 DlP.seg (EP.trans gP1).size (by simp [enc_length, rh_length])
  have gP2 : Below w2.heap.size P waP2 := gP1.grown hgP2 (EP.trans gP1).size fun k hk => (World.ownsRow.lt DP1 k hk).1
  have HRP2 := Lib.hid hrP2
  clear hrP2 hgP2
  refine wpAnyH_one (k := 2) (by kernel_rfl) rfl (fun K hQ => ?_)
  refine if_true_prop (by kernel_rfl) ?_
  refine Lib.wp_append_run _ _ _ 23 23 rfl _ _ rfl rfl _ _ HRP2.out ?_
  refine hQ _ _ ⟨⟨_, gP2⟩, rfl⟩ ?_
  clear hQ K HRP2
  refine wpAnyH_one (k := 16) (by kernel_rfl) rfl (fun K hQ => ?_)
  go_simp
  refine (rheader_is 36 tt pr hs hd (by decide) (by decide) t0 t1 p0 p1 q4.1 q4.2 q5.1 q5.2 HO.out waP2).mono ?_
  rintro r wh ⟨vh, rfl, Dh, kh⟩
  have gP3 : Below w2.heap.size P wh := gP2.trans (kh.mono (EP.trans gP2).size)
  refine hQ _ _ ⟨⟨_, gP3⟩, rfl⟩ ?_
  clear hQ K
  have DP3 := DAP2.below kh
  obtain ⟨vaP4, waP4, hrP4, DAP4, hgP4⟩ := append_any _ 23 w2.heap.size _ _ _ _ DP3 Dh.dat.seg (EP.trans gP3).size (by simp [enc_length, rh_length])
  have gP4 : Below w2.heap.size P waP4 := gP3.grown hgP4 (EP.trans gP3).size fun k hk => (World.ownsRow.lt DP3 k hk).1
  have HRP4 := Lib.hid hrP4
  clear hrP4 hgP4
  refine wpAnyH_one (k := 17) (by kernel_rfl) rfl (fun K hQ => ?_)
  refine if_true_prop (by kernel_rfl) ?_
  refine Lib.wp_append_run _ _ _ 23 23 rfl _ _ rfl rfl _ _ HRP4.out ?_
  refine hQ _ _ ⟨⟨_, gP4⟩, rfl⟩ ?_
  clear hQ K HRP4
  refine wpAnyH_one (k := 18) (by kernel_rfl) rfl (fun K hQ => ?_)
  go_simp
  refine hQ _ _ ⟨⟨_, gP4⟩, rfl⟩ ?_
  clear hQ K
  refine wpAnyH_done (by kernel_rfl) ?_ 0
  have FP := EP.trans gP4
  have xP := x2.below FP x2.lt
  clear drP XP EP
  go_wp2_with fail
  refine wp_region_selB w2.heap.size [0, 1, 2, 3, 4, 6, 7, 8, 9] 3 rfl (by kernel_rfl) (by kernel_rfl) (by kernel_rfl) (by kernel_rfl) (fun _ d _ _ _ h => by cases d <;> exact h) ?_
  intro R hR
  have drR : Below w2.heap.size waP4 R := by subst hR; exact (Below.refl _ _).drew
  have XR := xP.below drR x2.lt
  have ER := FP.trans drR
  have DR := DAP4.below (show Below waP4.heap.size waP4 R by subst hR; exact (Below.refl _ _).drew)
  have r12 : ∀ q : Beh w2.heap.size R, q.w.cell? ⟨w.heap.size, 12, none⟩ = some (.int .i64 sp) := fun q => Blk.cell (Blk.below XR q.h x2.lt) 12 rfl
  have r13 : ∀ q : Beh w2.heap.size R, q.w.cell? ⟨w.heap.size, 13, none⟩ = some (.int .i64 dp) := fun q => Blk.cell (Blk.below XR q.h x2.lt) 13 rfl
  clear hR xP DAP4
  simp only [pickOps, List.filterMap_cons, List.filterMap_nil, List.getElem?_cons_zero, List.getElem?_cons_succ, Option.map_some, List.map_cons, List.map_nil]
  repeat (go_big_quiet_step (fail))
  refine wpQuiet_nil ?_
  clear r12 r13
  have gR0 : Below w2.heap.size R R := Below.refl _ _
  refine wpAnyH_one (k := 5) (by kernel_rfl) rfl (fun K hQ => ?_)
  go_simp
  refine (rput_is w2.heap.size _ (by simp [enc_length, rh_length]) vaP4 sp 2 a0 (by omega) (by decide) R (ER.trans gR0).size DR).mono ?_
  rintro r wR1 ⟨vR1, rfl, DR1, fR1, -⟩
  have gR1 : Below w2.heap.size R wR1 := gR0.trans fR1
  refine hQ _ _ ⟨⟨_, gR1⟩, rfl⟩ ?_
  clear hQ K fR1
  refine wpAnyH_one (k := 10) (by kernel_rfl) rfl (fun K hQ => ?_)
  go_simp
  refine (rput_is w2.heap.size _ (by simp [enc_length, rh_length]) vR1 dp 2 b0 (by omega) (by decide) wR1 (ER.trans gR1).size DR1).mono ?_
  rintro r wR2 ⟨vR2, rfl, DR2, fR2, -⟩
  have gR2 : Below w2.heap.size R wR2 := gR1.trans fR2
  refine hQ _ _ ⟨⟨_, gR2⟩, rfl⟩ ?_
  clear hQ K fR2
  refine wpAnyH_one (k := 11) (by kernel_rfl) rfl (fun K hQ => ?_)
  go_simp
  refine hQ _ _ ⟨⟨_, gR2⟩, rfl⟩ ?_
  clear hQ K
  refine wpAnyH_done (by kernel_rfl) ?_ 0
  have FR := ER.trans gR2
  have xR := x2.below FR x2.lt
  clear drR XR ER
  go_wp2_with (first
    | (refine at_lpt rfl rfl ?_; rintro w5 D5 k5)
    | (refine at_app rfl (.tmp 55) (.tmp 56) rfl _ _ rfl rfl w2.heap.size _ _ (DR2.below k5) D5.dat (Nat.le_trans FR.size k5.size) (by simp [enc_length, rh_length]) ?_; rintro w6 v6 D6 k6 z6; have E6 := (FR.trans (k5.mono FR.size)).trans k6; have x6 := x2.below E6 x2.lt; have c14 := Blk.cell x6 14 (v := .int .u64 x) rfl))
  go_at_call 51
  refine (rput_is w2.heap.size _ (by simp [enc_length, rh_length]) _ x 8 q3.1 q3.2 (by decide) w6 E6.size D6).mono ?_
  rintro r wz ⟨vz, rfl, Dz, ez, -⟩
  go_wp2
  go_ret2
  have EZ := E6.trans ez
  refine ⟨vz, rfl, ?_, K2.trans (EZ.mono K2.size)⟩
  have := World.ownsRow.mono Dz K2.size
  rw [show ([8, 0] : List Int) = enc 2 2048 by decide] at this
  rw [show ([0, 16, 0, 0] : List Int) = enc 2 16 ++ enc 2 0 by decide] at this
  rw [HRH.out, HRH.out] at this
  rw [show FL.enc ⟨s, d, 2, op, sm, si, tm, ti, hs, hd, tt, pr, sp, dp, x⟩ = enc 6 d.toNat ++ enc 6 s.toNat ++ enc 2 2048 ++ FL.hdB ⟨s, d, 2, op, sm, si, tm, ti, hs, hd, tt, pr, sp, dp, x⟩ (sumI (FL.hdB ⟨s, d, 2, op, sm, si, tm, ti, hs, hd, tt, pr, sp, dp, x⟩ 0)) ++ enc 2 sp.toNat ++ enc 2 dp.toNat ++ (enc 2 16 ++ enc 2 0) ++ enc 8 x.toNat by simp [FL.enc, FL.mid, FL.ipB, FL.ptB, HPT.out, List.append_assoc]]
  exact this
end Go.Proofs.Ytgpjelcihmbiiaa
namespace Go.Proofs.Ytgpjelcihmbiiaa
open Go.RowKit Go.Sort
set_option linter.unusedVariables false
set_option linter.unusedSimpArgs false
set_option maxRecDepth 100000

set_option maxHeartbeats 4000000 in
theorem rbytes_2n (s d op sm si tm ti hs hd tt pr sp dp x : Int) (hf : FL.Ok ⟨s, d, 2, op, sm, si, tm, ti, hs, hd, tt, pr, sp, dp, x⟩) (hc : FL.chk ⟨s, d, 2, op, sm, si, tm, ti, hs, hd, tt, pr, sp, dp, x⟩ = 0) (hp : pt pr = false) (t0 : 0 ≤ tt) (t1 : tt < 256) (p0 : 0 ≤ pr) (p1 : pr < 256) (a0 : 0 ≤ sp) (a1 : sp < 65536) (b0 : 0 ≤ dp) (b1 : dp < 65536) (w : World) : Calls Try.prog 22 #[.agg #[.int .u64 s, .int .u64 d, .int .i64 2, .int .i64 op, .int .u64 sm, .int .u32 si, .int .u64 tm, .int .u32 ti, .int .u32 hs, .int .u32 hd, .int .i64 tt, .int .i64 pr, .int .i64 sp, .int .i64 dp, .int .u64 x]] w fun e w' => ∃ v, e = .returned (.tuple #[v, .int .i64 0]) ∧ DatB w.heap.size w' v (FL.enc ⟨s, d, 2, op, sm, si, tm, ti, hs, hd, tt, pr, sp, dp, x⟩) ∧ Below w.heap.size w w' := by
  have ho : Oct (rh 28 tt pr hs hd 0) := by
    have := hdB_oct ⟨s, d, 2, op, sm, si, tm, ti, hs, hd, tt, pr, sp, dp, x⟩ 0
    rw [← rh_hdB] at this
    simpa [FL.size, hp] using this
  have hrh : ∀ c, rh 28 tt pr hs hd c = FL.hdB ⟨s, d, 2, op, sm, si, tm, ti, hs, hd, tt, pr, sp, dp, x⟩ c := fun c => by
    have := rh_hdB ⟨s, d, 2, op, sm, si, tm, ti, hs, hd, tt, pr, sp, dp, x⟩ c
    simpa [FL.size, hp] using this
  have HO := Lib.hid ho; have HRH := Lib.hid hrh; have HPT := Lib.hid hp
  clear ho hrh
  have HP := fun w => rported_is pr w
  rw [hp] at HP
  clear hp
  have hC := fun w => rcheck_is ⟨s, d, 2, op, sm, si, tm, ti, hs, hd, tt, pr, sp, dp, x⟩ hf.s w
  rw [hc] at hC
  have q1 := hf.s
  have q2 := hf.d
  have q3 := hf.x
  unfold FL.v FL.cs at hC
  dsimp only at hC q1 q2 q3
  go_enter Try.func22, Try.ntmps22
  go_wp2_with (first | (refine at_box rfl _ _ rfl [.int .u64 s, .int .u64 d, .int .i64 2, .int .i64 op, .int .u64 sm, .int .u32 si, .int .u64 tm, .int .u32 ti, .int .u32 hs, .int .u32 hd, .int .i64 tt, .int .i64 pr, .int .i64 sp, .int .i64 dp, .int .u64 x] rfl ?_; rintro w1 H1 k1 s1) | (refine at_mid rfl 36 _ rfl w.heap.size 0 rfl H1 [.int .u64 s, .int .u64 d, .int .i64 2, .int .i64 op, .int .u64 sm, .int .u32 si, .int .u64 tm, .int .u32 ti, .int .u32 hs, .int .u32 hd, .int .i64 tt, .int .i64 pr, .int .i64 sp, .int .i64 dp, .int .u64 x] rfl _ Try.underlying36 rfl szF ?_) | (go_at_call 23; refine (hC _).mono ?_; rintro r w2 ⟨rfl, k2⟩; have x2 := H1.below k2 H1.lt; have K2 := k1.trans (k2.mono k1.size); clear hC H1 k1 k2))
  refine wp_region_selB w2.heap.size [0, 1, 3, 4] 3 rfl (by kernel_rfl) (by kernel_rfl) (by kernel_rfl) (by kernel_rfl) (fun _ d _ _ _ h => by cases d <;> exact h) ?_
  intro W hW
  have drW : Below w2.heap.size w2 W := by subst hW; exact (Below.refl _ _).drew
  have X := x2.below drW x2.lt
  have c1 : ∀ q : Beh w2.heap.size W, q.w.cell? ⟨w.heap.size, 1, none⟩ = some (.int .u64 d) := fun q => Blk.cell (Blk.below X q.h x2.lt) 1 rfl
  have c0 : ∀ q : Beh w2.heap.size W, q.w.cell? ⟨w.heap.size, 0, none⟩ = some (.int .u64 s) := fun q => Blk.cell (Blk.below X q.h x2.lt) 0 rfl
  clear hW
  simp only [pickOps, List.filterMap_cons, List.filterMap_nil, List.getElem?_cons_zero, List.getElem?_cons_succ, Option.map_some, List.map_cons, List.map_nil]
  repeat (go_big_quiet_step (fail))
  refine wpQuiet_nil ?_
  clear c1 c0
  refine wpAnyH_one (k := 2) (by kernel_rfl) rfl (fun K hQ => ?_)
  go_simp
  refine (rput_is w2.heap.size [] (by decide) (.slice none 0 0) d 6 q2.1 q2.2 (by decide) W drW.size (datB_nil _ _)).mono ?_
  rintro r w3 ⟨v3, rfl, D3, e3, -⟩
  rw [List.nil_append] at D3
  refine hQ _ _ ⟨⟨_, e3⟩, rfl⟩ ?_
  clear hQ K
  refine wpAnyH_one (k := 5) (by kernel_rfl) rfl (fun K hQ => ?_)
  go_simp
  refine (rput_is w2.heap.size (enc 6 d.toNat) (by simp [enc_length]) v3 s 6 q1.1 q1.2 (by decide) w3 (drW.trans e3).size D3).mono ?_
  rintro r w4 ⟨v4, rfl, D4, e4, -⟩
  have b4 := e3.trans e4
  refine hQ _ _ ⟨⟨_, b4⟩, rfl⟩ ?_
  clear hQ K
  refine wpAnyH_one (k := 6) (by kernel_rfl) rfl (fun K hQ => ?_)
  go_simp
  refine hQ _ _ ⟨⟨_, b4⟩, rfl⟩ ?_
  clear hQ K
  refine wpAnyH_done (by kernel_rfl) ?_ 0
  have E4 := drW.trans b4
  have x4 := x2.below E4 x2.lt
  have c2 := Blk.cell x4 2 (v := .int .i64 2) rfl
  clear drW X D3 e3 e4 b4
  have q4 := hf.hs
  have q5 := hf.hd
  dsimp only at q4 q5
  have c11 := Blk.cell x4 11 (v := .int .i64 pr) rfl
  go_wp2_with (go_at_call 25; refine (HP _).mono ?_; rintro e w9 ⟨rfl, hw⟩; obtain rfl := hw.symm)
  clear c2 c11 HP
  refine wp_region_selB w2.heap.size [0, 3, 4, 5, 6, 7, 8, 9, 10, 11, 12, 13, 14, 15] 5 rfl (by kernel_rfl) (by kernel_rfl) (by kernel_rfl) (by kernel_rfl) (fun _ d _ _ _ h => by cases d <;> exact h) ?_
  intro P hP
  have drP : Below w2.heap.size w4 P := by subst hP; exact (Below.refl _ _).drew
  have XP := x4.below drP x2.lt
  have EP := E4.trans drP
  have DP := D4.below (show Below w4.heap.size w4 P by subst hP; exact (Below.refl _ _).drew)
  have r10 : ∀ q : Beh w2.heap.size P, q.w.cell? ⟨w.heap.size, 10, none⟩ = some (.int .i64 tt) := fun q => Blk.cell (Blk.below XP q.h x2.lt) 10 rfl
  have r11 : ∀ q : Beh w2.heap.size P, q.w.cell? ⟨w.heap.size, 11, none⟩ = some (.int .i64 pr) := fun q => Blk.cell (Blk.below XP q.h x2.lt) 11 rfl
  have r8 : ∀ q : Beh w2.heap.size P, q.w.cell? ⟨w.heap.size, 8, none⟩ = some (.int .u32 hs) := fun q => Blk.cell (Blk.below XP q.h x2.lt) 8 rfl
  have r9 : ∀ q : Beh w2.heap.size P, q.w.cell? ⟨w.heap.size, 9, none⟩ = some (.int .u32 hd) := fun q => Blk.cell (Blk.below XP q.h x2.lt) 9 rfl
  clear hP x4 D4
  simp only [pickOps, List.filterMap_cons, List.filterMap_nil, List.getElem?_cons_zero, List.getElem?_cons_succ, Option.map_some, List.map_cons, List.map_nil]
  repeat (go_big_quiet_step (fail))
  refine wpQuiet_nil ?_
  clear r10 r11 r8 r9
  have gP0 : Below w2.heap.size P P := Below.refl _ _
  have DlP : Dat (P.alloc (.cells #[.int .u8 8, .int .u8 0] 5)) (.slice (some ⟨P.heap.size, 0, none⟩) 2 2) [8, 0] := (datB_lit 0 P [8, 0] (Nat.zero_le _) (by simp)).dat
  have gP1 : Below w2.heap.size P (P.alloc (.cells #[.int .u8 8, .int .u8 0] 5)) := gP0.alloc (EP.trans gP0).size _
  have mP1 : Below P.heap.size P (P.alloc (.cells #[.int .u8 8, .int .u8 0] 5)) := (Below.refl _ _).alloc (Nat.le_refl _) _
  refine wpAnyH_one (k := 1) (by kernel_rfl) rfl (fun K hQ => ?_)
  go_simp
  refine hQ _ _ ⟨⟨_, gP1⟩, rfl⟩ ?_
  clear hQ K
  have DP1 := DP.below mP1
  obtain ⟨vaP2, waP2, hrP2, DAP2, hgP2⟩ := append_any _ 23 w2.heap.size _ _ _ _ DP1 DlP.seg (EP.trans gP1).size (by simp [enc_length, rh_length])
  have gP2 : Below w2.heap.size P waP2 := gP1.grown hgP2 (EP.trans gP1).size fun k hk => (World.ownsRow.lt DP1 k hk).1
  have HRP2 := Lib.hid hrP2
  clear hrP2 hgP2
  refine wpAnyH_one (k := 2) (by kernel_rfl) rfl (fun K hQ => ?_)
  refine if_true_prop (by kernel_rfl) ?_
  refine Lib.wp_append_run _ _ _ 23 23 rfl _ _ rfl rfl _ _ HRP2.out ?_
  refine hQ _ _ ⟨⟨_, gP2⟩, rfl⟩ ?_
  clear hQ K HRP2
  refine wpAnyH_one (k := 16) (by kernel_rfl) rfl (fun K hQ => ?_)
  go_simp
  refine (rheader_is 28 tt pr hs hd (by decide) (by decide) t0 t1 p0 p1 q4.1 q4.2 q5.1 q5.2 HO.out waP2).mono ?_
  rintro r wh ⟨vh, rfl, Dh, kh⟩
  have gP3 : Below w2.heap.size P wh := gP2.trans (kh.mono (EP.trans gP2).size)
  refine hQ _ _ ⟨⟨_, gP3⟩, rfl⟩ ?_
  clear hQ K
  have DP3 := DAP2.below kh
  obtain ⟨vaP4, waP4, hrP4, DAP4, hgP4⟩ := append_any _ 23 w2.heap.size _ _ _ _ DP3 Dh.dat.seg (EP.trans gP3).size (by simp [enc_length, rh_length])
  have gP4 : Below w2.heap.size P waP4 := gP3.grown hgP4 (EP.trans gP3).size fun k hk => (World.ownsRow.lt DP3 k hk).1
  have HRP4 := Lib.hid hrP4
  clear hrP4 hgP4
  refine wpAnyH_one (k := 17) (by kernel_rfl) rfl (fun K hQ => ?_)
  refine if_true_prop (by kernel_rfl) ?_
  refine Lib.wp_append_run _ _ _ 23 23 rfl _ _ rfl rfl _ _ HRP4.out ?_
  refine hQ _ _ ⟨⟨_, gP4⟩, rfl⟩ ?_
  clear hQ K HRP4
  refine wpAnyH_one (k := 18) (by kernel_rfl) rfl (fun K hQ => ?_)
  go_simp
  refine hQ _ _ ⟨⟨_, gP4⟩, rfl⟩ ?_
  clear hQ K
  refine wpAnyH_done (by kernel_rfl) ?_ 0
  have FP := EP.trans gP4
  have xP := x2.below FP x2.lt
  clear drP XP EP
  have c14 := Blk.cell xP 14 (v := .int .u64 x) rfl
  go_wp2_with fail
  go_at_call 51
  refine (rput_is w2.heap.size _ (by simp [enc_length, rh_length]) _ x 8 q3.1 q3.2 (by decide) waP4 FP.size DAP4).mono ?_
  rintro r wz ⟨vz, rfl, Dz, ez, -⟩
  go_wp2
  go_ret2
  have EZ := FP.trans ez
  refine ⟨vz, rfl, ?_, K2.trans (EZ.mono K2.size)⟩
  have := World.ownsRow.mono Dz K2.size
  rw [show ([8, 0] : List Int) = enc 2 2048 by decide] at this
  rw [HRH.out, HRH.out] at this
  rw [show FL.enc ⟨s, d, 2, op, sm, si, tm, ti, hs, hd, tt, pr, sp, dp, x⟩ = enc 6 d.toNat ++ enc 6 s.toNat ++ enc 2 2048 ++ FL.hdB ⟨s, d, 2, op, sm, si, tm, ti, hs, hd, tt, pr, sp, dp, x⟩ (sumI (FL.hdB ⟨s, d, 2, op, sm, si, tm, ti, hs, hd, tt, pr, sp, dp, x⟩ 0)) ++ enc 8 x.toNat by simp [FL.enc, FL.mid, FL.ipB, FL.ptB, HPT.out, List.append_assoc]]
  exact this
end Go.Proofs.Ytgpjelcihmbiiaa
namespace Go.Proofs.Ytgpjelcihmbiiaa
open Go.RowKit Go.Sort
set_option linter.unusedVariables false
set_option linter.unusedSimpArgs false
set_option maxRecDepth 100000

/-- A region that draws its order, whose operations only read and whose callees make at most new memory. -/
theorem wp_region_qb {P : Program} {id : Nat} {Q : Exit → Act → World → Prop} {a : Act} {w : World} {l : List Oper} (hm : P.follows .mixedOrders = true) (hB : Region.lexB .any l.toArray = true)
    (h : wpQuiet P l.toArray (fun w' => ∃ p : Regrown, w' = grow (redrawn w p.d) p.os) (fun a' => ∀ w', Below w.heap.size w w' → Q .normal a' w') l a) : (Code.region id l.toArray true).wp P Q a w := by
  refine wp_region_quiet (C := fun w' => ∃ p : Regrown, w' = grow (redrawn w p.d) p.os) hm hB ⟨⟨w.drawn + 1, #[]⟩, by rw [grow_empty]; rfl⟩ ?_
  have e : (fun a' => ∀ w', Below w.heap.size w w' → Q .normal a' w') = (fun a' => ∀ w', (∃ p : Regrown, w' = grow (redrawn w p.d) p.os) → Q .normal a' w') := by
    funext a'
    apply propext
    constructor
    · rintro h w' ⟨p, rfl⟩
      exact h _ (below_regrown w p.d p.os)
    · intro h w' hb
      exact h w' (regrown_of_below hb)
  rw [e] at h
  simpa using h

theorem load_e {w : World} {b k : Nat} {e : Int} (h : w.cell? ⟨b, k, none⟩ = some (.int .i64 e)) : (loadVar 24 ⟨b, k, none⟩).run Try.prog w = .ok (.int .i64 e) w := by
  simp [go_sem, h]
theorem q_loadE {C : World → Prop} {o : Oper} {a : Act} {K : Act → Prop} (x : Operand) (ho : o.op = .load 24 x) (b k : Nat) (hx : a.eval x = .pointer (some ⟨b, k, none⟩)) (e : Int) (hC : ∀ w, C w → w.cell? ⟨b, k, none⟩ = some (.int .i64 e)) (h : K (a.put o.dst (.int .i64 e))) : o.quiet Try.prog a C K :=
  ⟨.int .i64 e, fun w hw => by
    unfold Oper.quietAt execOp
    simp only [ho, hx, Instr.loadAt, Instr.sureAddr, Sem.run_bind, Sem.run_pure, Result.andThen_ok, load_e (hC w hw), Oper.quietUpon, and_self], h⟩
theorem cellE {w wr : World} {b k : Nat} {e : Int} (hb : b < wr.heap.size) (h : wr.cell? ⟨b, k, none⟩ = some (.int .i64 e)) : ∀ w', (∃ p : Regrown, w' = grow (redrawn wr p.d) p.os) → w'.cell? ⟨b, k, none⟩ = some (.int .i64 e) := by
  rintro w' ⟨p, rfl⟩
  exact ((below_regrown wr p.d p.os).cell (p := ⟨b, k, none⟩) hb).trans h
def ex : FL := FL.mk 2199023255552 0 2 0 0 0 0 0 167837697 167837698 64 1 0 0 0
def exB : List Int := [0, 0, 0, 0, 0, 0, 2, 0, 0, 0, 0, 0, 8, 0, 69, 0, 0, 28, 0, 0, 0, 0, 64, 1, 102, 221, 10, 1, 0, 1, 10, 1, 0, 2, 0, 0, 0, 0, 0, 0, 0, 0]
theorem ex_ok : ex.Ok := ⟨by decide, by decide, by decide, by decide, by decide, by decide, by decide, by decide, by decide⟩
theorem ex_chk : ex.chk = 0 := by decide +kernel
theorem ex_enc : ex.enc = exB := by decide +kernel
def bads : List FL := [FL.mk 281474976710656 0 0 0 0 0 0 0 0 0 0 0 0 0 0, FL.mk 0 281474976710656 0 0 0 0 0 0 0 0 0 0 0 0 0, FL.mk 281474976710655 0 0 0 0 0 0 0 0 0 0 0 0 0 0, FL.mk 0 0 3 0 0 0 0 0 0 0 0 0 0 0 0, FL.mk 0 0 0 1 0 0 0 0 0 0 0 0 0 0 0, FL.mk 0 0 1 0 0 0 0 0 0 0 1 0 0 0 0, FL.mk 0 0 1 0 0 0 0 0 0 0 0 0 0 0 0, FL.mk 0 0 1 2 0 0 281474976710656 0 0 0 0 0 0 0 0, FL.mk 0 0 2 0 0 0 0 0 0 0 256 0 0 0 0, FL.mk 0 0 2 0 0 0 0 0 0 0 0 17 65536 0 0, FL.mk 0 0 2 0 0 0 0 0 0 0 0 1 0 1 0, FL.mk 0 0 2 0 0 0 0 0 0 0 0 6 0 1 0]
def bad (i : Nat) : FL := bads.getD i F0
def errs : List Int := [2, 2, 3, 6, 3, 3, 2, 2, 2, 2, 3, 0]
theorem bad_chk : ∀ i, i < 12 → (bad i).chk = errs.getD i 0 := by decide +kernel
def flF (l : List FL) : List Value := l.flatMap FL.cs
theorem flF_get (L : List FL) (i j : Nat) (n : FL) (h : L[i]? = some n) (hj : j < 15) : (flF L)[i * 15 + j]? = n.cs[j]? := by
  induction L generalizing i with
  | nil => simp at h
  | cons x L ih =>
    show (x.cs ++ flF L)[i * 15 + j]? = _
    cases i with
    | zero =>
      simp only [List.getElem?_cons_zero, Option.some.injEq] at h
      subst h
      rw [List.getElem?_append_left (by rw [cs_length]; omega), Nat.zero_mul, Nat.zero_add]
    | succ i =>
      rw [List.getElem?_append_right (by rw [cs_length]; omega), cs_length, show (i + 1) * 15 + j - 15 = i * 15 + j by omega]
      exact ih i (by simpa using h)
theorem bad_range {w : World} {g : Nat} (h : w.heap[g]? = some (.cells (flF bads).toArray 36 (0, 0))) (i : Nat) (hi : i < 12) : w.rangeAt g (i * 15) (bad i).cs := fun j u hu => by
  have hj : j < 15 := by
    rcases Nat.lt_or_ge j 15 with q | q
    · exact q
    · rw [List.getElem?_eq_none (by rw [cs_length]; exact q)] at hu; cases hu
  have hb : bads[i]? = some (bad i) := by
    unfold bad
    rw [List.getD_eq_getElem?_getD, List.getElem?_eq_getElem (show i < bads.length from hi)]
    rfl
  have := flF_get bads i j (bad i) hb hj
  rw [hu] at this
  rw [cell_of_row w g _ _ _ _ h]
  simpa using this
theorem rangeF {w wr : World} {b k : Nat} {n : FL} (hb : b < w.heap.size) (h : w.rangeAt b k n.cs) (hB : Below w.heap.size w wr) : ∀ w', (∃ p : Regrown, w' = grow (redrawn wr p.d) p.os) → w'.rangeAt b k n.cs := by
  rintro w' ⟨p, rfl⟩ j u hu
  exact ((hB.trans ((below_regrown wr p.d p.os).mono hB.size)).cell (p := ⟨b, k + j, none⟩) hb).trans (h j u hu)
theorem q_loadF {C : World → Prop} {o : Oper} {a : Act} {K : Act → Prop} (x : Operand) (ho : o.op = .load 36 x) (b k : Nat) (hx : a.eval x = .pointer (some ⟨b, k, none⟩)) (n : FL) (hC : ∀ w, C w → w.rangeAt b k n.cs) (h : K (a.put o.dst (.agg n.cs.toArray))) : o.quiet Try.prog a C K :=
  ⟨.agg n.cs.toArray, fun w hw => by
    have hr := run_loadAt_mid w b k 36 n.cs _ (hC w hw) Try.underlying36 rfl szF
    unfold Oper.quietAt execOp
    simp only [ho, hx, Sem.run_bind, hr, Sem.run_pure, Result.andThen_ok, Oper.quietUpon, and_self], h⟩
theorem run_lit12 (w : World) : (Instr.buildSlice 42 12 #[(0, (bad 0).v), (1, (bad 1).v), (2, (bad 2).v), (3, (bad 3).v), (4, (bad 4).v), (5, (bad 5).v), (6, (bad 6).v), (7, (bad 7).v), (8, (bad 8).v), (9, (bad 9).v), (10, (bad 10).v), (11, (bad 11).v)]).run Try.prog w = .ok (.slice (some ⟨w.heap.size, 0, none⟩) 12 12) (w.alloc (.cells (flF bads).toArray 36)) := by kernel_rfl
theorem at_lit12 {ops : Array Oper} {rest : List Oper} {o : Oper} {a : Act} {w : World} {Q : Exit → Act → World → Prop} (hgd : o.guard = none) (y0 y1 y2 y3 y4 y5 y6 y7 y8 y9 y10 y11 : Operand) (ho : o.op = .buildSlice 42 12 #[(0, y0), (1, y1), (2, y2), (3, y3), (4, y4), (5, y5), (6, y6), (7, y7), (8, y8), (9, y9), (10, y10), (11, y11)])
    (h0 : a.eval y0 = (bad 0).v) (h1 : a.eval y1 = (bad 1).v) (h2 : a.eval y2 = (bad 2).v) (h3 : a.eval y3 = (bad 3).v) (h4 : a.eval y4 = (bad 4).v) (h5 : a.eval y5 = (bad 5).v) (h6 : a.eval y6 = (bad 6).v) (h7 : a.eval y7 = (bad 7).v) (h8 : a.eval y8 = (bad 8).v) (h9 : a.eval y9 = (bad 9).v) (h10 : a.eval y10 = (bad 10).v) (h11 : a.eval y11 = (bad 11).v)
    (h : ∀ w', w'.heap[w.heap.size]? = some (.cells (flF bads).toArray 36 (0, 0)) → Below w.heap.size w w' → wpList Try.prog ops Q rest (a.put o.dst (.slice (some ⟨w.heap.size, 0, none⟩) 12 12)) w') : wpList Try.prog ops Q (o :: rest) a w :=
  wpList_plain hgd fun _ hK => by
    unfold Oper.wp execOp
    simp only [ho, List.map_toArray, List.map_cons, List.map_nil, h0, h1, h2, h3, h4, h5, h6, h7, h8, h9, h10, h11, Sem.run_bind, run_lit12, Result.andThen_ok, Sem.run_pure]
    exact hK _ _ (h _ (World.alloc_heap_new w _) ((Below.refl _ w).alloc (Nat.le_refl _) _))
theorem run_errs (w : World) : (Instr.buildSlice 43 12 #[(0, .int .i64 2), (1, .int .i64 2), (2, .int .i64 3), (3, .int .i64 6), (4, .int .i64 3), (5, .int .i64 3), (6, .int .i64 2), (7, .int .i64 2), (8, .int .i64 2), (9, .int .i64 2), (10, .int .i64 3), (11, .int .i64 0)]).run Try.prog w = .ok (.slice (some ⟨w.heap.size, 0, none⟩) 12 12) (w.alloc (.cells (errs.map (Value.int .i64)).toArray 24)) := by kernel_rfl
theorem at_errs {ops : Array Oper} {rest : List Oper} {o : Oper} {a : Act} {w : World} {Q : Exit → Act → World → Prop} (hgd : o.guard = none) (ho : o.op = .buildSlice 43 12 #[(0, .const (.int .i64 2)), (1, .const (.int .i64 2)), (2, .const (.int .i64 3)), (3, .const (.int .i64 6)), (4, .const (.int .i64 3)), (5, .const (.int .i64 3)), (6, .const (.int .i64 2)), (7, .const (.int .i64 2)), (8, .const (.int .i64 2)), (9, .const (.int .i64 2)), (10, .const (.int .i64 3)), (11, .const (.int .i64 0))])
    (h : ∀ w', (∀ i, i < 12 → w'.cell? ⟨w.heap.size, i, none⟩ = some (.int .i64 (errs.getD i 0))) → Below w.heap.size w w' → w'.heap.size = w.heap.size + 1 → wpList Try.prog ops Q rest (a.put o.dst (.slice (some ⟨w.heap.size, 0, none⟩) 12 12)) w') : wpList Try.prog ops Q (o :: rest) a w :=
  wpList_plain hgd fun _ hK => by
    have e : ∀ k, a.eval (.const (.int .i64 k)) = .int .i64 k := fun _ => rfl
    unfold Oper.wp execOp
    simp only [ho, List.map_toArray, List.map_cons, List.map_nil, e, Sem.run_bind, run_errs, Result.andThen_ok, Sem.run_pure]
    refine hK _ _ (h _ (fun i hi => ?_) ((Below.refl _ w).alloc (Nat.le_refl _) _) (by simp))
    have e := World.alloc_heap_new w (.cells (errs.map (Value.int .i64)).toArray 24)
    simp only [World.cell?, e]
    match i, hi with
    | 0, _ => rfl
    | 1, _ => rfl
    | 2, _ => rfl
    | 3, _ => rfl
    | 4, _ => rfl
    | 5, _ => rfl
    | 6, _ => rfl
    | 7, _ => rfl
    | 8, _ => rfl
    | 9, _ => rfl
    | 10, _ => rfl
    | 11, _ => rfl
end Go.Proofs.Ytgpjelcihmbiiaa
namespace Go.Proofs.Ytgpjelcihmbiiaa
open Go.RowKit Go.Sort
set_option linter.unusedVariables false
set_option linter.unusedSimpArgs false
set_option maxRecDepth 100000

theorem rbytes_bad (f : FL) (hf : f.Ok) (hc : f.chk ≠ 0) (w : World) : Calls Try.prog 22 #[f.v] w fun e w' => e = .returned (.tuple #[.slice none 0 0, .int .i64 f.chk]) ∧ Below w.heap.size w w' := by
  have hC := fun w => rcheck_is f hf.s w
  have A : (f.chk != 0) = true := by simpa using hc
  generalize f.chk = y at hC A ⊢
  clear hc hf
  obtain ⟨s, d, k, op, sm, si, tm, ti, hs, hd, tt, pr, sp, dp, x⟩ := f
  unfold FL.v FL.cs at hC ⊢
  dsimp only at hC ⊢
  go_enter Try.func22, Try.ntmps22
  go_wp2_with (first | (refine at_box rfl _ _ rfl [.int .u64 s, .int .u64 d, .int .i64 k, .int .i64 op, .int .u64 sm, .int .u32 si, .int .u64 tm, .int .u32 ti, .int .u32 hs, .int .u32 hd, .int .i64 tt, .int .i64 pr, .int .i64 sp, .int .i64 dp, .int .u64 x] rfl ?_; rintro w1 H1 k1 s1) | (refine at_mid rfl 36 _ rfl w.heap.size 0 rfl H1 [.int .u64 s, .int .u64 d, .int .i64 k, .int .i64 op, .int .u64 sm, .int .u32 si, .int .u64 tm, .int .u32 ti, .int .u32 hs, .int .u32 hd, .int .i64 tt, .int .i64 pr, .int .i64 sp, .int .i64 dp, .int .u64 x] rfl _ Try.underlying36 rfl szF ?_) | (go_at_call 23; refine (hC _).mono ?_; rintro r w2 ⟨rfl, k2⟩; have b2 := k1.trans (k2.mono k1.size); clear hC H1 k1 k2))
  go_ret2
  exact ⟨rfl, b2⟩
theorem up_b {m n : Int} (h : up m n = true) : 0 ≤ n ∧ n ≤ m := by simpa [up] using h
theorem rbytes_ok (f : FL) (hf : f.Ok) (hc : f.chk = 0) (w : World) : Calls Try.prog 22 #[f.v] w fun e w' => ∃ v, e = .returned (.tuple #[v, .int .i64 0]) ∧ DatB w.heap.size w' v f.enc ∧ Below w.heap.size w w' := by
  have h := (chk_zero hc).2.2.2
  obtain ⟨s, d, k, op, sm, si, tm, ti, hs, hd, tt, pr, sp, dp, x⟩ := f
  unfold FL.v FL.cs
  rcases h with ⟨h, -⟩ | ⟨h, -, ha⟩ | ⟨h, -, ha⟩
  · dsimp only at h ⊢
    subst h
    exact rbytes_0 s d op sm si tm ti hs hd tt pr sp dp x hf hc w
  · dsimp only at h ⊢
    subst h
    have hop : op = 1 ∨ op = 2 := by
      unfold FL.achk at ha
      dsimp only at ha
      by_cases q : op = 1 ∨ op = 2
      · exact q
      · rw [if_pos (.inl q)] at ha
        cases ha
    exact rbytes_1 s d op sm si tm ti hs hd tt pr sp dp x hf hc (by omega) (by omega) w
  · dsimp only at h ⊢
    subst h
    obtain ⟨u1, u2, u3, u4, -⟩ := hchk_zero ha
    have u1 := up_b u1
    have u2 := up_b u2
    have u3 := up_b u3
    have u4 := up_b u4
    dsimp only at u1 u2 u3 u4
    cases hp : pt pr
    · exact rbytes_2n s d op sm si tm ti hs hd tt pr sp dp x hf hc hp (by omega) (by omega) (by omega) (by omega) (by omega) (by omega) (by omega) (by omega) w
    · exact rbytes_2y s d op sm si tm ti hs hd tt pr sp dp x hf hc hp (by omega) (by omega) (by omega) (by omega) (by omega) (by omega) (by omega) (by omega) w
theorem conv_nil (w : World) : (convert 23 9 (.slice none 0 0)).run Try.prog w = .ok (.string ⟨#[]⟩) w := by kernel_rfl
theorem enc_some (f : FL) : f.enc ≠ [] := fun h => by
  have := congrArg List.length h
  simp [FL.enc, enc_length] at this
/-- Bytes of both: the same error, and values whose text is the same. -/
theorem bytes_both (f : FL) (hf : f.Ok) : ∃ (e : Int) (s : ByteArray) (F : World → Value → Prop),
    (∀ w, Calls Try.prog 16 #[f.v] w fun r w' => ∃ v, r = .returned (.tuple #[v, .int .i64 e]) ∧ F w' v ∧ Below w.heap.size w w') ∧
    (∀ w, Calls Try.prog 22 #[f.v] w fun r w' => ∃ v, r = .returned (.tuple #[v, .int .i64 e]) ∧ F w' v ∧ Below w.heap.size w w') ∧
    (∀ w v, F w v → (convert 23 9 v).run Try.prog w = .ok (.string s) w) ∧ (∀ w w' v, F w v → Below w.heap.size w w' → F w' v) := by
  by_cases hc : f.chk = 0
  · exact ⟨0, strOfNums f.enc, fun w v => Seg w v f.enc, fun w => (bytes_ok f hf hc w).mono fun r w' ⟨v, h1, h2, h3⟩ => ⟨v, h1, h2.dat.seg, h3⟩, fun w => (rbytes_ok f hf hc w).mono fun r w' ⟨v, h1, h2, h3⟩ => ⟨v, h1, h2.dat.seg, h3⟩, fun w v h => seg_string h (enc_some f), fun w w' v h k => h.below k⟩
  · exact ⟨f.chk, ⟨#[]⟩, fun _ v => v = .slice none 0 0, fun w => (bytes_bad f hc w).mono fun r w' ⟨h1, h2⟩ => ⟨_, h1, rfl, h2⟩, fun w => (rbytes_bad f hf hc w).mono fun r w' ⟨h1, h2⟩ => ⟨_, h1, rfl, h2⟩, fun w v h => by subst h; exact conv_nil w, fun w w' v h _ => h⟩
theorem q_conv {C : World → Prop} {o : Oper} {a : Act} {K : Act → Prop} (x : Operand) (ho : o.op = .convert 23 9 x) (v : Value) (hx : a.eval x = v) (s : ByteArray) (hC : ∀ w, C w → (convert 23 9 v).run Try.prog w = .ok (.string s) w) (h : K (a.put o.dst (.string s))) : o.quiet Try.prog a C K :=
  ⟨.string s, fun w hw => by
    unfold Oper.quietAt execOp
    simp only [ho, hx, Sem.run_bind, hC w hw, Sem.run_pure, Result.andThen_ok, Oper.quietUpon, and_self], h⟩
theorem conv_reg {F : World → Value → Prop} {s : ByteArray} (hcv : ∀ w v, F w v → (convert 23 9 v).run Try.prog w = .ok (.string s) w) (hF : ∀ w w' v, F w v → Below w.heap.size w w' → F w' v) {wr : World} {v : Value} (h : F wr v) : ∀ w', (∃ p : Regrown, w' = grow (redrawn wr p.d) p.os) → (convert 23 9 v).run Try.prog w' = .ok (.string s) w' := by
  rintro w' ⟨p, rfl⟩
  exact hcv _ _ (hF _ _ _ h (below_regrown wr p.d p.os))
set_option maxHeartbeats 4000000 in
theorem calls_is (f : FL) (hf : f.Ok) (xs : List Int) (ho : Oct xs) (v : Value) (w : World) (hv : Seg w v xs) (p : Int) :
    Calls Try.prog 4 #[f.v, v, .int .i64 p] w fun r w' => r = .returned (.bool true) ∧ Below w.heap.size w w' := by
  obtain ⟨e, s, F, B1, B2, hcv, hF⟩ := bytes_both f hf
  have c1 := fun w => check_is f w
  have c2 := fun w => rcheck_is f hf.s w
  generalize f.chk = ch at c1 c2
  obtain ⟨va, vc, rfl⟩ : ∃ a c, v = .slice a xs.length c := by obtain ⟨a, c, h, -⟩ := hv; exact ⟨a, c, h⟩
  clear hf
  generalize hN : f = N at *
  unfold FL.v at B1 B2 c1 c2 ⊢
  go_enter Try.func4, Try.ntmps4
  go_wp2_with (refine at_box rfl 36 _ rfl N.cs rfl ?_; rintro w1 x1 k1 s1)
  go_at_call 15
  refine (lives_is w1).mono ?_
  rintro r w2 ⟨rfl, k2⟩
  have X2 := x1.below k2 x1.lt
  have K2 := k1.trans (k2.mono k1.size)
  clear x1 k2 s1 k1
  by_cases hl : 300 < xs.length
  · have hl' : decide ((300 : Int) < xs.length) = true := by simp; omega
    go_wp2_with fail
    go_ret
    exact ⟨rfl, K2⟩
  have hl' : decide ((300 : Int) < xs.length) = false := by simp; omega
  go_wp2_with (refine at_mid rfl 36 _ rfl w.heap.size 0 rfl X2 N.cs rfl _ Try.underlying36 rfl szF ?_)
  go_at_call 16
  refine (B1 w2).mono ?_
  rintro r w4 ⟨v1, rfl, fa, k4⟩
  have X4 := X2.below k4 X2.lt
  have K4 := K2.trans (k4.mono K2.size)
  clear X2 K2 k4 B1
  go_wp2_with (refine at_mid rfl 36 _ rfl w.heap.size 0 rfl X4 N.cs rfl _ Try.underlying36 rfl szF ?_)
  go_at_call 22
  refine (B2 w4).mono ?_
  rintro r w5 ⟨v2, rfl, fb, k5⟩
  have X5 := X4.below k5 X4.lt
  have K5 := K4.trans (k5.mono K4.size)
  have fa5 := hF _ _ _ fa k5
  have V5 := hv.below K5
  have c3 : ∀ d os, Calls Try.prog 20 #[.slice va xs.length vc] (grow (redrawn w5 d) os) fun e w' => e = .returned (.int .u16 (sumI xs)) ∧ Below (grow (redrawn w5 d) os).heap.size (grow (redrawn w5 d) os) w' := fun d os => sum_is xs _ _ (V5.below (below_regrown w5 d os)) ho (by omega)
  have c4 : ∀ d os, Calls Try.prog 24 #[.slice va xs.length vc] (grow (redrawn w5 d) os) fun e w' => e = .returned (.int .u16 (sumI xs)) ∧ Below (grow (redrawn w5 d) os).heap.size (grow (redrawn w5 d) os) w' := fun d os => (rsum_is xs _ _ (V5.below (below_regrown w5 d os)) ho (by omega)).mono fun r w' ⟨h1, h2⟩ => ⟨h1, by subst h2; exact Below.refl _ _⟩
  have c5 : ∀ w, Calls Try.prog 21 #[.int .i64 p] w fun e w' => e = .returned (.bool (pt p)) ∧ Below w.heap.size w w' := fun w => (ported_is p w).mono fun r w' ⟨h1, h2⟩ => ⟨h1, by subst h2; exact Below.refl _ _⟩
  have c6 : ∀ w, Calls Try.prog 25 #[.int .i64 p] w fun e w' => e = .returned (.bool (pt p)) ∧ Below w.heap.size w w' := fun w => (rported_is p w).mono fun r w' ⟨h1, h2⟩ => ⟨h1, by subst h2; exact Below.refl _ _⟩
  generalize sumI xs = sx at c3 c4
  generalize pt p = pp at c5 c6
  have HX := Lib.hid (rangeF X5.lt (X5.range 0 N.cs rfl) (Below.refl _ _))
  have HA := Lib.hid (conv_reg hcv hF fa5)
  have HB := Lib.hid (conv_reg hcv hF fb)
  have hb : (pp == pp) = true := by simp
  clear X4 K4 k5 B2 fa X5 fa5 fb hcv hF V5 hv hl hl'
  go_wp2_with fail
  refine wp_region_qb (by kernel_rfl) (by kernel_rfl) ?_
  repeat (first
    | go_big_quiet_skip
    | (go_big_quiet_want; refine q_conv (.tmp 26) rfl v1 rfl s HA.out ?_; go_simp; go_big_quiet_on)
    | (go_big_quiet_want; refine q_conv (.tmp 28) rfl v2 rfl s HB.out ?_; go_simp; go_big_quiet_on)
    | (go_big_quiet_want; refine q_loadF (.tmp 3) rfl w.heap.size 0 rfl N HX.out ?_; go_simp; go_big_quiet_on)
    | (go_big_quiet_want; go_big_quiet_op; first | go_big_quiet_on | go_big_quiet_call (first
        | (with_reducible exact Calls.regrown_of (c1 _)) | (with_reducible exact Calls.regrown_of (c2 _)) | (with_reducible exact Calls.regrown_of (c3 _ _)) | (with_reducible exact Calls.regrown_of (c4 _ _))
        | (with_reducible exact Calls.regrown_of (c5 _)) | (with_reducible exact Calls.regrown_of (c6 _)))))
  refine wpQuiet_nil ?_
  intro w' hw'
  go_wp2
  go_ret
  exact ⟨rfl, K5.trans (hw'.mono K5.size)⟩
end Go.Proofs.Ytgpjelcihmbiiaa
