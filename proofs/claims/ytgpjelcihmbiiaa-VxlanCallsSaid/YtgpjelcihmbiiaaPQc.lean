/- The reference of layer 7: Ported, Multicast, Check. No condition. -/
import Derived.Test.YtgpjelcihmbiiaaPRk
import Derived.Laws.BitsAllLaws
namespace Go.Proofs.Ytgpjelcihmbiiaa
open Go.RowKit Go.Sort
set_option linter.unusedVariables false
set_option linter.unusedSimpArgs false
set_option maxRecDepth 100000

theorem rported_is (p : Int) (w : World) : Calls Try.prog 25 #[.int .i64 p] w fun e w' => e = .returned (.bool (pt p)) ∧ w' = w := by
  by_cases h : p = 6
  · subst h
    go_enter Try.func25, Try.ntmps25
    go_wp2
    go_ret
    exact ⟨rfl, rfl⟩
  · have b6 : (p == 6) = false := by simpa using h
    by_cases h2 : p = 17
    · subst h2
      go_enter Try.func25, Try.ntmps25
      go_wp2
      go_ret
      exact ⟨rfl, rfl⟩
    · have b17 : (p == 17) = false := by simpa using h2
      have e : pt p = false := by simp [pt, b6, b17]
      rw [e]
      go_enter Try.func25, Try.ntmps25
      go_wp2
      go_ret
      exact ⟨rfl, rfl⟩
theorem and_bit (n k : Nat) : n &&& 2 ^ k = if n.testBit k = true then 2 ^ k else 0 := by
  apply Nat.eq_of_testBit_eq
  intro i
  rw [Nat.testBit_and, Nat.testBit_two_pow]
  by_cases h : k = i
  · subst h
    cases n.testBit k <;> simp [Nat.testBit_two_pow]
  · cases n.testBit k <;> simp [Nat.testBit_two_pow, h]
theorem mc_bit (m : Int) (h0 : 0 ≤ m) (h1 : m < 18446744073709551616) : (bits .and .u64 m 1099511627776 != 0) = (bits .and .u64 (m / 1099511627776) 1 == 1) := by
  obtain ⟨n, rfl⟩ := Int.eq_ofNat_of_zero_le h0
  rw [u64_and _ _ h0 h1 (by decide) (by decide), u64_and _ _ (by omega) (by omega) (by decide) (by decide)]
  have e1 : (((n : Int)).toNat &&& (1099511627776 : Int).toNat) = if n.testBit 40 = true then 2 ^ 40 else 0 := by
    rw [show (1099511627776 : Int).toNat = 2 ^ 40 by decide, Int.toNat_natCast, and_bit]
  have e2 : (((n : Int) / 1099511627776).toNat &&& (1 : Int).toNat) = n / 2 ^ 40 % 2 := by
    rw [show (1 : Int).toNat = 2 ^ 1 - 1 by decide, Nat.and_two_pow_sub_one_eq_mod]
    omega
  rw [e1, e2, Nat.testBit_eq_decide_div_mod_eq]
  have : n / 2 ^ 40 % 2 = 0 ∨ n / 2 ^ 40 % 2 = 1 := by omega
  rcases this with h | h <;> rw [h] <;> decide
theorem rmc_is (m : Int) (h0 : 0 ≤ m) (h1 : m < 18446744073709551616) (w : World) : Calls Try.prog 53 #[.int .u64 m] w fun e w' => e = .returned (.bool (mc m)) ∧ w' = w := by
  by_cases h : m ≤ 281474976710655
  · have b : decide (m ≤ 281474976710655) = true := by simpa using h
    have e : mc m = (bits .and .u64 (m / 1099511627776) 1 == 1) := by rw [← mc_bit m h0 h1]; simp [mc, h]
    rw [e]
    clear e
    go_enter Try.func53, Try.ntmps53
    go_wp2
    go_ret
    exact ⟨rfl, rfl⟩
  · have b : decide (m ≤ 281474976710655) = false := by simpa using h
    have e : mc m = false := by simp [mc, h]
    rw [e]
    clear e
    go_enter Try.func53, Try.ntmps53
    go_wp2
    go_ret
    exact ⟨rfl, rfl⟩
section
variable {o : Oper} {a : Act} {w : World} {K : Act → World → Prop} {Q : Exit → Act → World → Prop}
theorem op_new (ty : TypeId) (cs : List Value) (ho : o.op = .alloc ty) (hr : ∀ w, (Instr.alloc ty true (.tuple #[])).run Try.prog w = .ok (.pointer (some ⟨w.heap.size, 0, none⟩)) (w.alloc (.cells cs.toArray ty)))
    (h : ∀ w', Blk w' w.heap.size ty cs → Below w.heap.size w w' → w'.heap.size = w.heap.size + 1 → K (a.put o.dst (.pointer (some ⟨w.heap.size, 0, none⟩))) w') : o.wp Try.prog a w K Q := by
  unfold Oper.wp execOp
  simp only [ho, Sem.run_bind, hr, Result.andThen_ok, Sem.run_pure]
  exact h _ (Blk.new w ty cs) ((Below.refl _ w).alloc (Nat.le_refl _) _) (by simp)
theorem op_put (ty : TypeId) (x y : Operand) (ho : o.op = .store ty x y) (hd : o.dst = none) (b : Nat) (hx : a.eval x = .pointer (some ⟨b, 0, none⟩)) (cs : List Value) (hy : a.eval y = .agg cs.toArray) {old : List Value} (hb : Blk w b ty old) (hl : old.length = cs.length)
    (hi : (Try.prog.info? ty).map (·.size) = some cs.length) (h1 : cs.toArray.all (·.oneCell') = true) (h : ∀ w', Wrote b ty w w' cs → K a w') : o.wp Try.prog a w K Q :=
  wp_store_row _ x y ho b cs.toArray hx hy _ old.toArray hb (by simpa using hi) (by simpa using hl) h1 (by
    rw [hd]
    exact h _ ⟨setRow_heap w b _ _ _ _ hb, ⟨rfl, rfl, rfl, by simp [World.setRow], fun k hk hn => by simp [World.setRow, Array.getElem?_modify, Ne.symm hn]⟩, by simp [World.setRow]⟩)
end
theorem up_any {tt pr sp dp : Int} (h : ¬ (((((((0 ≤ tt ∧ tt ≤ 255) ∧ 0 ≤ pr) ∧ pr ≤ 255) ∧ 0 ≤ sp) ∧ sp ≤ 65535) ∧ 0 ≤ dp) ∧ dp ≤ 65535)) : up 255 tt = false ∨ up 255 pr = false ∨ up 65535 sp = false ∨ up 65535 dp = false := by
  simp only [up, Bool.and_eq_false_iff, decide_eq_false_iff_not]
  omega
theorem up_t {m n : Int} (h : 0 ≤ n) (h2 : n ≤ m) : up m n = true := by simp [up, h, h2]
theorem up_f1 {m n : Int} (h : n < 0) : up m n = false := by simp [up]; omega
theorem up_f2 {m n : Int} (h : m < n) : up m n = false := by simp [up]; omega
/-- A piece of code with two new blocks: what comes after it is walked once. -/
theorem reg_split {P : Program} {c : Code} {Q : Exit → Act → World → Prop} {K : Act → World → Prop} {a : Act} {w : World} (A : Act → Nat → Nat → Act) (C : Nat → Nat → World → Prop)
    (h : ∀ K' : Act → World → Prop, (∀ b3 b4 w' a', a' = A a b3 b4 → C b3 b4 w' → K' a' w') → c.wp P (Exit.then K' Q) a w) (rest : ∀ b3 b4 w', C b3 b4 w' → K (A a b3 b4) w') : c.wp P (Exit.then K Q) a w :=
  h K fun b3 b4 w' a' e hc => e ▸ rest b3 b4 w' hc
theorem run_newA (w : World) : (Instr.alloc 34 true (.tuple #[])).run Try.prog w = .ok (.pointer (some ⟨w.heap.size, 0, none⟩)) (w.alloc (.cells F0.ar.toArray 34)) := by kernel_rfl
theorem run_newH (w : World) : (Instr.alloc 32 true (.tuple #[])).run Try.prog w = .ok (.pointer (some ⟨w.heap.size, 0, none⟩)) (w.alloc (.cells F0.ip.toArray 32)) := by kernel_rfl
set_option maxHeartbeats 8000000 in
theorem rcheck_is (f : FL) (hs0 : 0 ≤ f.s ∧ f.s < 18446744073709551616) (w : World) : Calls Try.prog 23 #[f.v] w fun e w' => e = .returned (.int .i64 f.chk) ∧ Below w.heap.size w w' := by
  obtain ⟨s, d, k, op, sm, si, tm, ti, hs, hd, tt, pr, sp, dp, x⟩ := f
  have hM := fun w => rmc_is s hs0.1 hs0.2 w
  unfold FL.v FL.cs
  dsimp only at *
  go_enter Try.func23, Try.ntmps23
  go_upto_region 1 with (refine at_box rfl _ _ rfl [.int .u64 s, .int .u64 d, .int .i64 k, .int .i64 op, .int .u64 sm, .int .u32 si, .int .u64 tm, .int .u32 ti, .int .u32 hs, .int .u32 hd, .int .i64 tt, .int .i64 pr, .int .i64 sp, .int .i64 dp, .int .u64 x] rfl ?_; rintro w1 H1 k1 s1)
  rename_i K hK
  refine reg_split (fun a b3 b4 => ((((((a.put (some 5) (.pointer (some ⟨w.heap.size, 3, none⟩))).put (some 6) (.agg #[.int .i64 op, .int .u64 sm, .int .u32 si, .int .u64 tm, .int .u32 ti])).put (some 7) (.pointer (some ⟨w.heap.size, 8, none⟩))).put (some 8) (.agg #[.int .u32 hs, .int .u32 hd, .int .i64 tt, .int .i64 pr, .int .i64 sp, .int .i64 dp])).put (some 3) (.pointer (some ⟨b3, 0, none⟩))).put (some 4) (.pointer (some ⟨b4, 0, none⟩)))) (fun b3 b4 w' => Blk w' b3 34 [.int .i64 op, .int .u64 sm, .int .u32 si, .int .u64 tm, .int .u32 ti] ∧ Blk w' b4 32 [.int .u32 hs, .int .u32 hd, .int .i64 tt, .int .i64 pr, .int .i64 sp, .int .i64 dp] ∧ Blk w' w.heap.size 36 [.int .u64 s, .int .u64 d, .int .i64 k, .int .i64 op, .int .u64 sm, .int .u32 si, .int .u64 tm, .int .u32 ti, .int .u32 hs, .int .u32 hd, .int .i64 tt, .int .i64 pr, .int .i64 sp, .int .i64 dp, .int .u64 x] ∧ Below w.heap.size w w') (fun K' hK' => ?_) (fun b3 b4 w' hC => ?_)
  · clear hK hM
    refine wp_region_selB w1.heap.size [0, 1, 2, 3] 4 rfl (by kernel_rfl) (by kernel_rfl) (by kernel_rfl) (by kernel_rfl) (fun _ d _ _ _ h => by cases d <;> exact h) ?_
    intro W hW
    have dr : Below w1.heap.size w1 W := by subst hW; exact (Below.refl _ _).drew
    have X := H1.below dr H1.lt
    have hbb : ∀ q : Beh w1.heap.size W, Blk q.w w.heap.size 36 [.int .u64 s, .int .u64 d, .int .i64 k, .int .i64 op, .int .u64 sm, .int .u32 si, .int .u64 tm, .int .u32 ti, .int .u32 hs, .int .u32 hd, .int .i64 tt, .int .i64 pr, .int .i64 sp, .int .i64 dp, .int .u64 x] := fun q => X.below q.h H1.lt
    have kk := k1.trans (dr.mono k1.size)
    have sz : w1.heap.size ≤ W.heap.size := dr.size
    clear hW dr H1 k1
    simp only [pickOps, List.filterMap_cons, List.filterMap_nil, List.getElem?_cons_zero, List.getElem?_cons_succ, Option.map_some, List.map_cons, List.map_nil]
    repeat (first
      | go_big_quiet_skip
      | (go_big_quiet_want; refine q_mid 34 (.tmp 5) rfl w.heap.size 3 rfl 36 [.int .u64 s, .int .u64 d, .int .i64 k, .int .i64 op, .int .u64 sm, .int .u32 si, .int .u64 tm, .int .u32 ti, .int .u32 hs, .int .u32 hd, .int .i64 tt, .int .i64 pr, .int .i64 sp, .int .i64 dp, .int .u64 x] (by rintro w' ⟨q, rfl⟩; exact hbb q) [.int .i64 op, .int .u64 sm, .int .u32 si, .int .u64 tm, .int .u32 ti] rfl _ Try.underlying34 rfl szA ?_; go_simp; go_big_quiet_on)
      | (go_big_quiet_want; refine q_mid 32 (.tmp 7) rfl w.heap.size 8 rfl 36 [.int .u64 s, .int .u64 d, .int .i64 k, .int .i64 op, .int .u64 sm, .int .u32 si, .int .u64 tm, .int .u32 ti, .int .u32 hs, .int .u32 hd, .int .i64 tt, .int .i64 pr, .int .i64 sp, .int .i64 dp, .int .u64 x] (by rintro w' ⟨q, rfl⟩; exact hbb q) [.int .u32 hs, .int .u32 hd, .int .i64 tt, .int .i64 pr, .int .i64 sp, .int .i64 dp] rfl _ Try.underlying32 rfl szH ?_; go_simp; go_big_quiet_on)
      | (go_big_quiet_step (fail)))
    refine wpQuiet_nil ?_
    clear hbb
    refine wpAnyH_two (j := 4) (k := 5) (by kernel_rfl) rfl rfl (fun L hQ => ?_) (fun L hQ => ?_)
    · refine if_true_prop (by kernel_rfl) ?_
      refine op_new 34 F0.ar rfl run_newA ?_
      rintro v1 XA1 e1 z1
      refine hQ _ _ ⟨⟨_, e1.mono sz⟩, rfl⟩ ?_
      clear hQ L
      refine wpAnyH_one (k := 5) (by kernel_rfl) rfl (fun L hQ => ?_)
      refine if_true_prop (by kernel_rfl) ?_
      refine op_new 32 F0.ip rfl run_newH ?_
      rintro v2 XH e2 z2
      have e12 := e1.trans (e2.mono e1.size)
      refine hQ _ _ ⟨⟨_, e12.mono sz⟩, rfl⟩ ?_
      clear hQ L
      have XA := XA1.below e2 XA1.lt
      refine wpAnyH_one (k := 6) (by kernel_rfl) rfl (fun L hQ => ?_)
      refine if_true_prop (by kernel_rfl) ?_
      refine op_put 34 (.tmp 3) (.tmp 6) rfl rfl W.heap.size rfl [.int .i64 op, .int .u64 sm, .int .u32 si, .int .u64 tm, .int .u32 ti] rfl XA rfl szA (by simp [Value.oneCell']) ?_
      rintro v3 g3
      have e3 : Below W.heap.size W v3 := g3.below e12 (by omega)
      refine hQ _ _ ⟨⟨_, e3.mono sz⟩, rfl⟩ ?_
      clear hQ L
      have YH := g3.but.blk XH XH.lt (show v1.heap.size ≠ W.heap.size by omega)
      refine wpAnyH_one (k := 7) (by kernel_rfl) rfl (fun L hQ => ?_)
      refine if_true_prop (by kernel_rfl) ?_
      refine op_put 32 (.tmp 4) (.tmp 8) rfl rfl v1.heap.size rfl [.int .u32 hs, .int .u32 hd, .int .i64 tt, .int .i64 pr, .int .i64 sp, .int .i64 dp] rfl YH rfl szH (by simp [Value.oneCell']) ?_
      rintro v4 g4
      have e4 : Below W.heap.size W v4 := g4.below e3 (by omega)
      refine hQ _ _ ⟨⟨_, e4.mono sz⟩, rfl⟩ ?_
      clear hQ L
      refine wpAnyH_done (by kernel_rfl) ?_ 0
      exact hK' (W.heap.size) (v1.heap.size) v4 _ (by kernel_rfl) ⟨g4.but.blk g3.blk g3.blk.lt (show W.heap.size ≠ v1.heap.size by omega), g4.blk, X.below e4 X.lt, kk.trans (e4.mono kk.size)⟩
    · refine if_true_prop (by kernel_rfl) ?_
      refine op_new 32 F0.ip rfl run_newH ?_
      rintro v1 XH1 e1 z1
      refine hQ _ _ ⟨⟨_, e1.mono sz⟩, rfl⟩ ?_
      clear hQ L
      refine wpAnyH_one (k := 4) (by kernel_rfl) rfl (fun L hQ => ?_)
      refine if_true_prop (by kernel_rfl) ?_
      refine op_new 34 F0.ar rfl run_newA ?_
      rintro v2 XA e2 z2
      have e12 := e1.trans (e2.mono e1.size)
      refine hQ _ _ ⟨⟨_, e12.mono sz⟩, rfl⟩ ?_
      clear hQ L
      have XH := XH1.below e2 XH1.lt
      refine wpAnyH_one (k := 6) (by kernel_rfl) rfl (fun L hQ => ?_)
      refine if_true_prop (by kernel_rfl) ?_
      refine op_put 34 (.tmp 3) (.tmp 6) rfl rfl v1.heap.size rfl [.int .i64 op, .int .u64 sm, .int .u32 si, .int .u64 tm, .int .u32 ti] rfl XA rfl szA (by simp [Value.oneCell']) ?_
      rintro v3 g3
      have e3 : Below W.heap.size W v3 := g3.below e12 (by omega)
      refine hQ _ _ ⟨⟨_, e3.mono sz⟩, rfl⟩ ?_
      clear hQ L
      have YH := g3.but.blk XH XH.lt (show W.heap.size ≠ v1.heap.size by omega)
      refine wpAnyH_one (k := 7) (by kernel_rfl) rfl (fun L hQ => ?_)
      refine if_true_prop (by kernel_rfl) ?_
      refine op_put 32 (.tmp 4) (.tmp 8) rfl rfl W.heap.size rfl [.int .u32 hs, .int .u32 hd, .int .i64 tt, .int .i64 pr, .int .i64 sp, .int .i64 dp] rfl YH rfl szH (by simp [Value.oneCell']) ?_
      rintro v4 g4
      have e4 : Below W.heap.size W v4 := g4.below e3 (by omega)
      refine hQ _ _ ⟨⟨_, e4.mono sz⟩, rfl⟩ ?_
      clear hQ L
      refine wpAnyH_done (by kernel_rfl) ?_ 0
      exact hK' (v1.heap.size) (W.heap.size) v4 _ (by kernel_rfl) ⟨g4.but.blk g3.blk g3.blk.lt (show v1.heap.size ≠ W.heap.size by omega), g4.blk, X.below e4 X.lt, kk.trans (e4.mono kk.size)⟩
  · refine hK _ _ ?_
    clear hK
    obtain ⟨Ha, Hh, Hf, hb⟩ := hC
    go_simp
    have c0 := Hf.cell 0 (v := .int .u64 s) rfl
    have c1 := Hf.cell 1 (v := .int .u64 d) rfl
    have c2 := Hf.cell 2 (v := .int .i64 k) rfl
    have a0 := Ha.cell 0 (v := .int .i64 op) rfl
    have a1 := Ha.cell 1 (v := .int .u64 sm) rfl
    have a3 := Ha.cell 3 (v := .int .u64 tm) rfl
    have i2 := Hh.cell 2 (v := .int .i64 tt) rfl
    have i3 := Hh.cell 3 (v := .int .i64 pr) rfl
    have i4 := Hh.cell 4 (v := .int .i64 sp) rfl
    have i5 := Hh.cell 5 (v := .int .i64 dp) rfl
    clear H1 k1 s1 Hf
    by_cases h0 : (281474976710655 : Int) < s
    · skip
      have HC := Lib.hid (show FL.chk ⟨s, d, k, op, sm, si, tm, ti, hs, hd, tt, pr, sp, dp, x⟩ = 2 from by
        unfold FL.chk
        simp only [FL.kn]
        rw [if_pos (.inl h0)])
      have q0 : decide ((281474976710655 : Int) < s) = true := by simpa using h0
      go_wp2_with fail
      go_ret
      exact ⟨by rw [HC.out] <;> rfl, hb⟩
    have q0 : decide ((281474976710655 : Int) < s) = false := by simpa using h0
    by_cases h1 : (281474976710655 : Int) < d
    · skip
      have HC := Lib.hid (show FL.chk ⟨s, d, k, op, sm, si, tm, ti, hs, hd, tt, pr, sp, dp, x⟩ = 2 from by
        unfold FL.chk
        simp only [FL.kn]
        rw [if_pos (.inr h1)])
      have q1 : decide ((281474976710655 : Int) < d) = true := by simpa using h1
      go_wp2_with fail
      go_ret
      exact ⟨by rw [HC.out] <;> rfl, hb⟩
    have q1 : decide ((281474976710655 : Int) < d) = false := by simpa using h1
    cases h2 : mc s with
    | true =>
      rw [h2] at hM
      have HC := Lib.hid (show FL.chk ⟨s, d, k, op, sm, si, tm, ti, hs, hd, tt, pr, sp, dp, x⟩ = 3 from by
        unfold FL.chk
        simp only [FL.kn]
        rw [if_neg (by omega), if_pos h2])
      go_wp2_with (first | (go_at_call 53; refine (hM _).mono ?_; rintro e w9 ⟨rfl, hw⟩; obtain rfl := hw.symm))
      go_ret
      exact ⟨by rw [HC.out] <;> rfl, hb⟩
    | false =>
      rw [h2] at hM
      by_cases h3 : k < 0
      · skip
        have HC := Lib.hid (show FL.chk ⟨s, d, k, op, sm, si, tm, ti, hs, hd, tt, pr, sp, dp, x⟩ = 6 from by
          unfold FL.chk
          simp only [FL.kn]
          rw [if_neg (by omega), if_neg (by simp [h2]), if_pos (by simp; omega)])
        have q2 : decide (k < 0) = true := by simpa using h3
        go_wp2_with (first | (go_at_call 53; refine (hM _).mono ?_; rintro e w9 ⟨rfl, hw⟩; obtain rfl := hw.symm))
        go_ret
        exact ⟨by rw [HC.out] <;> rfl, hb⟩
      by_cases h4 : 2 < k
      · skip
        have HC := Lib.hid (show FL.chk ⟨s, d, k, op, sm, si, tm, ti, hs, hd, tt, pr, sp, dp, x⟩ = 6 from by
          unfold FL.chk
          simp only [FL.kn]
          rw [if_neg (by omega), if_neg (by simp [h2]), if_pos (by simp; omega)])
        have q2 : decide (k < 0) = false := by simpa using h3
        have q3 : decide (2 < k) = true := by simpa using h4
        go_wp2_with (first | (go_at_call 53; refine (hM _).mono ?_; rintro e w9 ⟨rfl, hw⟩; obtain rfl := hw.symm))
        go_ret
        exact ⟨by rw [HC.out] <;> rfl, hb⟩
      have hk : k = 0 ∨ k = 1 ∨ k = 2 := by omega
      clear h3 h4
      rcases hk with rfl | rfl | rfl
      · skip
        cases h3 : FL.eqa ⟨s, d, 0, op, sm, si, tm, ti, hs, hd, tt, pr, sp, dp, x⟩ F0 with
        | false =>
          have HC := Lib.hid (show FL.chk ⟨s, d, 0, op, sm, si, tm, ti, hs, hd, tt, pr, sp, dp, x⟩ = 3 from by
            unfold FL.chk
            simp only [FL.kn]
            rw [if_neg (by omega), if_neg (by simp [h2]), if_neg (by decide), if_pos (by simp [h3])])
          have EA := fun w => neqA ⟨s, d, 0, op, sm, si, tm, ti, hs, hd, tt, pr, sp, dp, x⟩ F0 w
          rw [h3] at EA
          go_wp2_with (first | (go_at_call 53; refine (hM _).mono ?_; rintro e w9 ⟨rfl, hw⟩; obtain rfl := hw.symm) | (refine at_mid (by kernel_rfl) 34 _ rfl b3 0 rfl Ha [.int .i64 op, .int .u64 sm, .int .u32 si, .int .u64 tm, .int .u32 ti] rfl _ Try.underlying34 rfl szA ?_) | (refine at_cmp (by kernel_rfl) .neq 34 _ _ rfl (.agg #[.int .i64 op, .int .u64 sm, .int .u32 si, .int .u64 tm, .int .u32 ti]) (.agg F0.ar.toArray) rfl rfl true (by kernel_rfl) (EA _) ?_))
          go_ret
          exact ⟨by rw [HC.out] <;> rfl, hb⟩
        | true =>
          cases h4 : FL.eqh ⟨s, d, 0, op, sm, si, tm, ti, hs, hd, tt, pr, sp, dp, x⟩ F0 with
          | false =>
            have HC := Lib.hid (show FL.chk ⟨s, d, 0, op, sm, si, tm, ti, hs, hd, tt, pr, sp, dp, x⟩ = 3 from by
              unfold FL.chk
              simp only [FL.kn]
              rw [if_neg (by omega), if_neg (by simp [h2]), if_neg (by decide), if_pos (by simp [h4])])
            have EA := fun w => neqA ⟨s, d, 0, op, sm, si, tm, ti, hs, hd, tt, pr, sp, dp, x⟩ F0 w
            rw [h3] at EA
            have EH := fun w => neqH ⟨s, d, 0, op, sm, si, tm, ti, hs, hd, tt, pr, sp, dp, x⟩ F0 w
            rw [h4] at EH
            go_wp2_with (first | (go_at_call 53; refine (hM _).mono ?_; rintro e w9 ⟨rfl, hw⟩; obtain rfl := hw.symm) | (refine at_mid (by kernel_rfl) 34 _ rfl b3 0 rfl Ha [.int .i64 op, .int .u64 sm, .int .u32 si, .int .u64 tm, .int .u32 ti] rfl _ Try.underlying34 rfl szA ?_) | (refine at_cmp (by kernel_rfl) .neq 34 _ _ rfl (.agg #[.int .i64 op, .int .u64 sm, .int .u32 si, .int .u64 tm, .int .u32 ti]) (.agg F0.ar.toArray) rfl rfl false (by kernel_rfl) (EA _) ?_) | (refine at_mid (by kernel_rfl) 32 _ rfl b4 0 rfl Hh [.int .u32 hs, .int .u32 hd, .int .i64 tt, .int .i64 pr, .int .i64 sp, .int .i64 dp] rfl _ Try.underlying32 rfl szH ?_) | (refine at_cmp (by kernel_rfl) .neq 32 _ _ rfl (.agg #[.int .u32 hs, .int .u32 hd, .int .i64 tt, .int .i64 pr, .int .i64 sp, .int .i64 dp]) (.agg F0.ip.toArray) rfl rfl true (by kernel_rfl) (EH _) ?_))
            go_ret
            exact ⟨by rw [HC.out] <;> rfl, hb⟩
          | true =>
            have HC := Lib.hid (show FL.chk ⟨s, d, 0, op, sm, si, tm, ti, hs, hd, tt, pr, sp, dp, x⟩ = 0 from by
              unfold FL.chk
              simp only [FL.kn]
              rw [if_neg (by omega), if_neg (by simp [h2]), if_neg (by decide), if_neg (by simp [h3, h4]), if_neg (by decide), if_neg (by decide)])
            have EA := fun w => neqA ⟨s, d, 0, op, sm, si, tm, ti, hs, hd, tt, pr, sp, dp, x⟩ F0 w
            rw [h3] at EA
            have EH := fun w => neqH ⟨s, d, 0, op, sm, si, tm, ti, hs, hd, tt, pr, sp, dp, x⟩ F0 w
            rw [h4] at EH
            obtain ⟨rfl, rfl, rfl, rfl, rfl, rfl⟩ : hs = 0 ∧ hd = 0 ∧ tt = 0 ∧ pr = 0 ∧ sp = 0 ∧ dp = 0 := by simpa [FL.eqh, F0] using h4
            have HP := fun w => rported_is 0 w
            rw [show pt 0 = false by decide] at HP
            go_upto_region 11 with (first | (go_at_call 53; refine (hM _).mono ?_; rintro e w9 ⟨rfl, hw⟩; obtain rfl := hw.symm) | (refine at_mid (by kernel_rfl) 34 _ rfl b3 0 rfl Ha [.int .i64 op, .int .u64 sm, .int .u32 si, .int .u64 tm, .int .u32 ti] rfl _ Try.underlying34 rfl szA ?_) | (refine at_cmp (by kernel_rfl) .neq 34 _ _ rfl (.agg #[.int .i64 op, .int .u64 sm, .int .u32 si, .int .u64 tm, .int .u32 ti]) (.agg F0.ar.toArray) rfl rfl false (by kernel_rfl) (EA _) ?_) | (refine at_mid (by kernel_rfl) 32 _ rfl b4 0 rfl Hh [.int .u32 0, .int .u32 0, .int .i64 0, .int .i64 0, .int .i64 0, .int .i64 0] rfl _ Try.underlying32 rfl szH ?_) | (refine at_cmp (by kernel_rfl) .neq 32 _ _ rfl (.agg #[.int .u32 0, .int .u32 0, .int .i64 0, .int .i64 0, .int .i64 0, .int .i64 0]) (.agg F0.ip.toArray) rfl rfl false (by kernel_rfl) (EH _) ?_))
            try (refine wp_region_lit ?_)
            repeat (first | go_skip | go_guarded | go_step | go_upon)
            go_upto_region 13 with fail
            try (refine wp_region_lit ?_)
            repeat (first | go_skip | go_guarded | go_step | go_upon)
            go_upto_region 15 with fail
            try (refine wp_region_lit ?_)
            repeat (first | (go_at_call 25; refine (HP _).mono ?_; rintro e w9 ⟨rfl, hw⟩; obtain rfl := hw.symm) | go_skip | go_guarded | go_step | go_upon)
            go_wp2
            go_ret
            exact ⟨by rw [HC.out] <;> rfl, hb⟩
      · skip
        cases h4 : FL.eqh ⟨s, d, 1, op, sm, si, tm, ti, hs, hd, tt, pr, sp, dp, x⟩ F0 with
        | false =>
          have HC := Lib.hid (show FL.chk ⟨s, d, 1, op, sm, si, tm, ti, hs, hd, tt, pr, sp, dp, x⟩ = 3 from by
            unfold FL.chk
            simp only [FL.kn]
            rw [if_neg (by omega), if_neg (by simp [h2]), if_neg (by decide), if_pos (by simp [h4])])
          have EH := fun w => neqH ⟨s, d, 1, op, sm, si, tm, ti, hs, hd, tt, pr, sp, dp, x⟩ F0 w
          rw [h4] at EH
          go_wp2_with (first | (go_at_call 53; refine (hM _).mono ?_; rintro e w9 ⟨rfl, hw⟩; obtain rfl := hw.symm) | (refine at_mid (by kernel_rfl) 32 _ rfl b4 0 rfl Hh [.int .u32 hs, .int .u32 hd, .int .i64 tt, .int .i64 pr, .int .i64 sp, .int .i64 dp] rfl _ Try.underlying32 rfl szH ?_) | (refine at_cmp (by kernel_rfl) .neq 32 _ _ rfl (.agg #[.int .u32 hs, .int .u32 hd, .int .i64 tt, .int .i64 pr, .int .i64 sp, .int .i64 dp]) (.agg F0.ip.toArray) rfl rfl true (by kernel_rfl) (EH _) ?_))
          go_ret
          exact ⟨by rw [HC.out] <;> rfl, hb⟩
        | true =>
          have EH := fun w => neqH ⟨s, d, 1, op, sm, si, tm, ti, hs, hd, tt, pr, sp, dp, x⟩ F0 w
          rw [h4] at EH
          obtain ⟨rfl, rfl, rfl, rfl, rfl, rfl⟩ : hs = 0 ∧ hd = 0 ∧ tt = 0 ∧ pr = 0 ∧ sp = 0 ∧ dp = 0 := by simpa [FL.eqh, F0] using h4
          have HP := fun w => rported_is 0 w
          rw [show pt 0 = false by decide] at HP
          go_upto_region 11 with (first | (go_at_call 53; refine (hM _).mono ?_; rintro e w9 ⟨rfl, hw⟩; obtain rfl := hw.symm) | (refine at_mid (by kernel_rfl) 32 _ rfl b4 0 rfl Hh [.int .u32 0, .int .u32 0, .int .i64 0, .int .i64 0, .int .i64 0, .int .i64 0] rfl _ Try.underlying32 rfl szH ?_) | (refine at_cmp (by kernel_rfl) .neq 32 _ _ rfl (.agg #[.int .u32 0, .int .u32 0, .int .i64 0, .int .i64 0, .int .i64 0, .int .i64 0]) (.agg F0.ip.toArray) rfl rfl false (by kernel_rfl) (EH _) ?_))
          by_cases h5 : op < 1
          · skip
            have HC := Lib.hid (show FL.chk ⟨s, d, 1, op, sm, si, tm, ti, 0, 0, 0, 0, 0, 0, x⟩ = 2 from by
              unfold FL.chk
              simp only [FL.kn]
              rw [if_neg (by omega), if_neg (by simp [h2]), if_neg (by decide), if_neg (by simp [h4]), if_pos (by simp)]
              unfold FL.achk
              dsimp only
              exact if_pos (.inl (by omega)))
            have rh5 : decide (op < 1) = true := by simpa using h5
            try (refine wp_region_lit ?_)
            repeat (first | go_skip | go_guarded | go_step | go_upon)
            go_wp2
            go_ret
            exact ⟨by rw [HC.out] <;> rfl, hb⟩
          have rh5 : decide (op < 1) = false := by simpa using h5
          by_cases h6 : 2 < op
          · skip
            have HC := Lib.hid (show FL.chk ⟨s, d, 1, op, sm, si, tm, ti, 0, 0, 0, 0, 0, 0, x⟩ = 2 from by
              unfold FL.chk
              simp only [FL.kn]
              rw [if_neg (by omega), if_neg (by simp [h2]), if_neg (by decide), if_neg (by simp [h4]), if_pos (by simp)]
              unfold FL.achk
              dsimp only
              exact if_pos (.inl (by omega)))
            have rh6 : decide (2 < op) = true := by simpa using h6
            try (refine wp_region_lit ?_)
            repeat (first | go_skip | go_guarded | go_step | go_upon)
            go_wp2
            go_ret
            exact ⟨by rw [HC.out] <;> rfl, hb⟩
          have rh6 : decide (2 < op) = false := by simpa using h6
          by_cases h7 : (281474976710655 : Int) < sm
          · skip
            have HC := Lib.hid (show FL.chk ⟨s, d, 1, op, sm, si, tm, ti, 0, 0, 0, 0, 0, 0, x⟩ = 2 from by
              unfold FL.chk
              simp only [FL.kn]
              rw [if_neg (by omega), if_neg (by simp [h2]), if_neg (by decide), if_neg (by simp [h4]), if_pos (by simp)]
              unfold FL.achk
              dsimp only
              exact if_pos (.inr (.inl h7)))
            have rh7 : decide ((281474976710655 : Int) < sm) = true := by simpa using h7
            try (refine wp_region_lit ?_)
            repeat (first | go_skip | go_guarded | go_step | go_upon)
            go_wp2
            go_ret
            exact ⟨by rw [HC.out] <;> rfl, hb⟩
          have rh7 : decide ((281474976710655 : Int) < sm) = false := by simpa using h7
          by_cases h8 : (281474976710655 : Int) < tm
          · skip
            have HC := Lib.hid (show FL.chk ⟨s, d, 1, op, sm, si, tm, ti, 0, 0, 0, 0, 0, 0, x⟩ = 2 from by
              unfold FL.chk
              simp only [FL.kn]
              rw [if_neg (by omega), if_neg (by simp [h2]), if_neg (by decide), if_neg (by simp [h4]), if_pos (by simp)]
              unfold FL.achk
              dsimp only
              exact if_pos (.inr (.inr h8)))
            have rh8 : decide ((281474976710655 : Int) < tm) = true := by simpa using h8
            try (refine wp_region_lit ?_)
            repeat (first | go_skip | go_guarded | go_step | go_upon)
            go_wp2
            go_ret
            exact ⟨by rw [HC.out] <;> rfl, hb⟩
          have rh8 : decide ((281474976710655 : Int) < tm) = false := by simpa using h8
          have HC := Lib.hid (show FL.chk ⟨s, d, 1, op, sm, si, tm, ti, 0, 0, 0, 0, 0, 0, x⟩ = 0 from by
            unfold FL.chk
            simp only [FL.kn]
            rw [if_neg (by omega), if_neg (by simp [h2]), if_neg (by decide), if_neg (by simp [h4]), if_pos (by simp)]
            unfold FL.achk
            dsimp only
            exact if_neg (by omega))
          try (refine wp_region_lit ?_)
          repeat (first | go_skip | go_guarded | go_step | go_upon)
          go_upto_region 13 with fail
          try (refine wp_region_lit ?_)
          repeat (first | go_skip | go_guarded | go_step | go_upon)
          go_upto_region 15 with fail
          try (refine wp_region_lit ?_)
          repeat (first | (go_at_call 25; refine (HP _).mono ?_; rintro e w9 ⟨rfl, hw⟩; obtain rfl := hw.symm) | go_skip | go_guarded | go_step | go_upon)
          go_wp2
          go_ret
          exact ⟨by rw [HC.out] <;> rfl, hb⟩
      · skip
        cases h3 : FL.eqa ⟨s, d, 2, op, sm, si, tm, ti, hs, hd, tt, pr, sp, dp, x⟩ F0 with
        | false =>
          have HC := Lib.hid (show FL.chk ⟨s, d, 2, op, sm, si, tm, ti, hs, hd, tt, pr, sp, dp, x⟩ = 3 from by
            unfold FL.chk
            simp only [FL.kn]
            rw [if_neg (by omega), if_neg (by simp [h2]), if_neg (by decide), if_pos (by simp [h3])])
          have EA := fun w => neqA ⟨s, d, 2, op, sm, si, tm, ti, hs, hd, tt, pr, sp, dp, x⟩ F0 w
          rw [h3] at EA
          go_wp2_with (first | (go_at_call 53; refine (hM _).mono ?_; rintro e w9 ⟨rfl, hw⟩; obtain rfl := hw.symm) | (refine at_mid (by kernel_rfl) 34 _ rfl b3 0 rfl Ha [.int .i64 op, .int .u64 sm, .int .u32 si, .int .u64 tm, .int .u32 ti] rfl _ Try.underlying34 rfl szA ?_) | (refine at_cmp (by kernel_rfl) .neq 34 _ _ rfl (.agg #[.int .i64 op, .int .u64 sm, .int .u32 si, .int .u64 tm, .int .u32 ti]) (.agg F0.ar.toArray) rfl rfl true (by kernel_rfl) (EA _) ?_))
          go_ret
          exact ⟨by rw [HC.out] <;> rfl, hb⟩
        | true =>
          have EA := fun w => neqA ⟨s, d, 2, op, sm, si, tm, ti, hs, hd, tt, pr, sp, dp, x⟩ F0 w
          rw [h3] at EA
          go_upto_region 11 with (first | (go_at_call 53; refine (hM _).mono ?_; rintro e w9 ⟨rfl, hw⟩; obtain rfl := hw.symm) | (refine at_mid (by kernel_rfl) 34 _ rfl b3 0 rfl Ha [.int .i64 op, .int .u64 sm, .int .u32 si, .int .u64 tm, .int .u32 ti] rfl _ Try.underlying34 rfl szA ?_) | (refine at_cmp (by kernel_rfl) .neq 34 _ _ rfl (.agg #[.int .i64 op, .int .u64 sm, .int .u32 si, .int .u64 tm, .int .u32 ti]) (.agg F0.ar.toArray) rfl rfl false (by kernel_rfl) (EA _) ?_))
          try (refine wp_region_lit ?_)
          repeat (first | go_skip | go_guarded | go_step | go_upon)
          go_upto_region 15 with fail
          all_goals (try ((try go_wp2); go_ret; have HC := Lib.hid (show FL.chk ⟨s, d, 2, op, sm, si, tm, ti, hs, hd, tt, pr, sp, dp, x⟩ = 2 from by unfold FL.chk; simp only [FL.kn]; rw [if_neg (by omega), if_neg (by simp [h2]), if_neg (by decide), if_neg (by simp [h3]), if_neg (by decide), if_pos (by simp)]; unfold FL.hchk; dsimp only; exact if_pos (up_any (by omega))); exact ⟨by rw [HC.out] <;> rfl, hb⟩))
          have HP := fun w => rported_is pr w
          cases hp : pt pr with
          | true =>
            rw [hp] at HP
            have HC := Lib.hid (show FL.chk ⟨s, d, 2, op, sm, si, tm, ti, hs, hd, tt, pr, sp, dp, x⟩ = 0 from by
              unfold FL.chk
              simp only [FL.kn]
              rw [if_neg (by omega), if_neg (by simp [h2]), if_neg (by decide), if_neg (by simp [h3]), if_neg (by decide), if_pos (by simp)]
              unfold FL.hchk
              rw [if_neg (by rw [up_t (n := tt) (by omega) (by omega), up_t (n := pr) (by omega) (by omega), up_t (n := sp) (by omega) (by omega), up_t (n := dp) (by omega) (by omega)]; decide)]
              exact if_neg (by rw [hp]; simp))
            try (refine wp_region_lit ?_)
            repeat (first | (go_at_call 25; refine (HP _).mono ?_; rintro e w9 ⟨rfl, hw⟩; obtain rfl := hw.symm) | go_skip | go_guarded | go_step | go_upon)
            go_wp2
            go_ret
            exact ⟨by rw [HC.out] <;> rfl, hb⟩
          | false =>
            rw [hp] at HP
            by_cases h13 : sp = 0
            · have r13 : (sp != 0) = false := by simpa using h13
              by_cases h14 : dp = 0
              · have r14 : (dp != 0) = false := by simpa using h14
                have HC := Lib.hid (show FL.chk ⟨s, d, 2, op, sm, si, tm, ti, hs, hd, tt, pr, sp, dp, x⟩ = 0 from by
                  unfold FL.chk
                  simp only [FL.kn]
                  rw [if_neg (by omega), if_neg (by simp [h2]), if_neg (by decide), if_neg (by simp [h3]), if_neg (by decide), if_pos (by simp)]
                  unfold FL.hchk
                  rw [if_neg (by rw [up_t (n := tt) (by omega) (by omega), up_t (n := pr) (by omega) (by omega), up_t (n := sp) (by omega) (by omega), up_t (n := dp) (by omega) (by omega)]; decide)]
                  exact if_neg (fun q => q.2.elim (fun h => h h13) (fun h => h h14)))
                clear h13 h14
                try (refine wp_region_lit ?_)
                repeat (first | (go_at_call 25; refine (HP _).mono ?_; rintro e w9 ⟨rfl, hw⟩; obtain rfl := hw.symm) | go_skip | go_guarded | go_step | go_upon)
                go_wp2
                go_ret
                exact ⟨by rw [HC.out] <;> rfl, hb⟩
              · have r14 : (dp != 0) = true := by simpa using h14
                have HC := Lib.hid (show FL.chk ⟨s, d, 2, op, sm, si, tm, ti, hs, hd, tt, pr, sp, dp, x⟩ = 3 from by
                  unfold FL.chk
                  simp only [FL.kn]
                  rw [if_neg (by omega), if_neg (by simp [h2]), if_neg (by decide), if_neg (by simp [h3]), if_neg (by decide), if_pos (by simp)]
                  unfold FL.hchk
                  rw [if_neg (by rw [up_t (n := tt) (by omega) (by omega), up_t (n := pr) (by omega) (by omega), up_t (n := sp) (by omega) (by omega), up_t (n := dp) (by omega) (by omega)]; decide)]
                  exact if_pos ⟨hp, .inr h14⟩)
                clear h13 h14
                try (refine wp_region_lit ?_)
                repeat (first | (go_at_call 25; refine (HP _).mono ?_; rintro e w9 ⟨rfl, hw⟩; obtain rfl := hw.symm) | go_skip | go_guarded | go_step | go_upon)
                go_wp2
                go_ret
                exact ⟨by rw [HC.out] <;> rfl, hb⟩
            · have r13 : (sp != 0) = true := by simpa using h13
              have HC := Lib.hid (show FL.chk ⟨s, d, 2, op, sm, si, tm, ti, hs, hd, tt, pr, sp, dp, x⟩ = 3 from by
                unfold FL.chk
                simp only [FL.kn]
                rw [if_neg (by omega), if_neg (by simp [h2]), if_neg (by decide), if_neg (by simp [h3]), if_neg (by decide), if_pos (by simp)]
                unfold FL.hchk
                rw [if_neg (by rw [up_t (n := tt) (by omega) (by omega), up_t (n := pr) (by omega) (by omega), up_t (n := sp) (by omega) (by omega), up_t (n := dp) (by omega) (by omega)]; decide)]
                exact if_pos ⟨hp, .inl h13⟩)
              clear h13
              try (refine wp_region_lit ?_)
              repeat (first | (go_at_call 25; refine (HP _).mono ?_; rintro e w9 ⟨rfl, hw⟩; obtain rfl := hw.symm) | go_skip | go_guarded | go_step | go_upon)
              go_wp2
              go_ret
              exact ⟨by rw [HC.out] <;> rfl, hb⟩
end Go.Proofs.Ytgpjelcihmbiiaa
