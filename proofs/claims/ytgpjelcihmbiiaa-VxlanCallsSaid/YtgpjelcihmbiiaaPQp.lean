/- The reference of layer 7: Put. No condition. -/
import Derived.Test.YtgpjelcihmbiiaaPOl
namespace Go.Proofs.Ytgpjelcihmbiiaa
open Go.RowKit Go.Sort
set_option linter.unusedVariables false
set_option linter.unusedSimpArgs false
set_option maxRecDepth 100000

theorem run_lit1 (w : World) (x : Int) : (Instr.buildSlice 23 1 #[(0, .int .u8 x)]).run Try.prog w = .ok (.slice (some ⟨w.heap.size, 0, none⟩) 1 1) (w.alloc (.cells #[.int .u8 x] 5)) := by kernel_rfl
theorem dat_one (w : World) (x : Int) : Dat (w.alloc (.cells #[.int .u8 x] 5)) (.slice (some ⟨w.heap.size, 0, none⟩) 1 1) [x] := by
  refine Dat.mk (xs := [x]) (cs := [.int .u8 x]) (Nat.le_refl 1) (by decide) ?_ rfl rfl
  exact World.alloc_heap_new w _
theorem at_lit1 {ops : Array Oper} {rest : List Oper} {o : Oper} {a : Act} {w : World} {Q : Exit → Act → World → Prop} (hgd : o.guard = none) (y : Operand) (ho : o.op = .buildSlice 23 1 #[(0, y)]) (x : Int) (hy : a.eval y = .int .u8 x)
    (h : ∀ w' v, Dat w' v [x] → Below w.heap.size w w' → wpList Try.prog ops Q rest (a.put o.dst v) w') : wpList Try.prog ops Q (o :: rest) a w :=
  wpList_plain hgd fun _ hK => by
    unfold Oper.wp execOp
    simp only [ho, List.map_toArray, List.map_cons, List.map_nil, hy, Sem.run_bind, run_lit1, Result.andThen_ok, Sem.run_pure]
    exact hK _ _ (h _ _ (dat_one w x) ((Below.refl _ w).alloc (Nat.le_refl _) _))
theorem at_app {ops : Array Oper} {rest : List Oper} {o : Oper} {a : Act} {w : World} {Q : Exit → Act → World → Prop} (hgd : o.guard = none) (s x : Operand) (ho : o.op = .call { callee := .builtin .append, args := #[s, x], argTypes := #[23, 23] }) (vs vx : Value) (hs : a.eval s = vs) (hx : a.eval x = vx)
    (B : Nat) (ys zs : List Int) (hv : DatB B w vs ys) (hu : Dat w vx zs) (hB : B ≤ w.heap.size) (hl : ys.length + zs.length ≤ 1000000)
    (h : ∀ w' v, DatB B w' v (ys ++ zs) → Below B w w' → w.heap.size ≤ w'.heap.size → wpList Try.prog ops Q rest (a.put o.dst v) w') : wpList Try.prog ops Q (o :: rest) a w := by
  obtain ⟨v', w', hr, hd, hg⟩ := append_any w o.type B vs vx ys zs hv hu.seg hB (by omega)
  have hb : Below B w w' := (Below.refl B w).grown hg hB fun k hk => (World.ownsRow.lt hv k hk).1
  exact Lib.wpList_append_run _ hgd s x 23 23 ho _ _ hs hx _ _ hr (h w' v' hd hb hg.size)
theorem byte_at (n : Int) (h0 : 0 ≤ n) (j : Nat) : n / 2 ^ (8 * j) % 256 = ((n.toNat / 256 ^ j % 256 : Nat) : Int) := by
  obtain ⟨N, rfl⟩ := Int.eq_ofNat_of_zero_le h0
  rw [Int.toNat_natCast, show (256 : Nat) ^ j = 2 ^ (8 * j) by rw [Nat.pow_mul]]
  simp
set_option maxHeartbeats 2000000 in
theorem rput_is (B : Nat) (xs : List Int) (hx : xs.length ≤ 1000) (v : Value) (n : Int) (k : Nat) (h0 : 0 ≤ n) (h1 : n < 18446744073709551616) (hk : k ≤ 8) (w : World) (hB : B ≤ w.heap.size) (hd : DatB B w v xs) :
    Calls Try.prog 51 #[v, .int .u64 n, .int .i64 k] w fun r w' => ∃ v', r = .returned v' ∧ DatB B w' v' (xs ++ enc k n.toNat) ∧ Below B w w' ∧ w.heap.size ≤ w'.heap.size := by
  go_enter Try.func51, Try.ntmps51
  go_wp2_with fail
  go_loopw [0, 7] (fun v0 v7 wr => ∃ (r : Nat) (ys : List Int), r ≤ k ∧ v7 = .int .i64 ((r : Int) - 1) ∧ DatB B wr v0 ys ∧ Hid (ys ++ enc r n.toNat = xs ++ enc k n.toNat) ∧ ys.length ≤ 1008 ∧ Below B w wr ∧ w.heap.size ≤ wr.heap.size) (fun _ v7 _ => (intOf v7 + 1).toNat)
  case atStart => exact ⟨k, xs, Nat.le_refl _, rfl, hd, Lib.hid rfl, by omega, Below.refl _ _, Nat.le_refl _⟩
  case round =>
    clear hd
    obtain ⟨r, ys, hr, rfl, hD, hE, hl, hb, hs⟩ := hrel
    cases r with
    | zero =>
      have he := hE.out
      have he2 : ys = xs ++ enc k n.toNat := by rw [← he]; simp [enc]
      subst he2
      clear hE he
      go_wp2
      go_ret
      exact ⟨_, rfl, hD, hb, hs⟩
    | succ j =>
      have hj : ((j + 1 : Nat) : Int) - 1 = j := by omega
      have hj0 : (0 : Int) ≤ j := by omega
      have hj8 : (j : Int) < 8 := by omega
      rw [hj]
      clear hj
      go_upto_region 4 with fail
      have hx' := byte_at n h0 j
      obtain ⟨x, hxx⟩ : ∃ x, n / 2 ^ (8 * j) % 256 = x := ⟨_, rfl⟩
      rw [hxx] at hx'
      have hen : ys ++ [x] ++ enc j n.toNat = xs ++ enc k n.toNat := by
        rw [hx', List.append_assoc]
        exact hE.out
      have HEN := Lib.hid hen
      have hyl : ys.length + 1 ≤ 1008 := by
        have := congrArg List.length hE.out
        rw [List.length_append, List.length_append, enc_length, enc_length] at this
        omega
      clear hen hE hx'
      go_wp2_with (first
        | (refine at_lit1 rfl (.tmp 19) rfl x (by rw [← hxx]; rfl) ?_; rintro w1 u1 D1 k1)
        | (refine at_app rfl (.tmp 14) (.tmp 20) rfl _ _ rfl rfl B ys [x] (DatB.below hD k1) D1 (by have := k1.size; omega) (by simp; omega) ?_; rintro w2 u2 D2 b2 s2))
      have hB2 := hb.trans ((k1.mono (by omega)).trans b2)
      have hs2 : w.heap.size ≤ w2.heap.size := by have := k1.size; omega
      clear D1 k1 b2 s2 hD hb
      go_roundw
      case rel => exact ⟨j, ys ++ [x], by omega, by go_num, D2, HEN, by simp; omega, hB2, hs2⟩
      case measure => first | (simp [intOf]; done) | (simp [intOf]; omega)
end Go.Proofs.Ytgpjelcihmbiiaa
