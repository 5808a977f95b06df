/- VxlanFlows: the law is walked. No condition. -/
import Derived.Test.YtgpjelcihmbiiaaVFl
namespace Go.Proofs.Ytgpjelcihmbiiaa
open Go.RowKit Go.Sort
set_option linter.unusedVariables false
set_option linter.unusedSimpArgs false
set_option maxRecDepth 100000

theorem wp_set {o : Oper} {a : Act} {w : World} {K : Act → World → Prop} {Q : Exit → Act → World → Prop} (ty : TypeId) (x y : Operand) (ho : o.op = .store ty x y) (hd : o.dst = none) (b j : Nat) (hx : a.eval x = .pointer (some ⟨b, j, none⟩)) (t : TypeId) (cs cs' : List Value) (u : Value) (hy : a.eval y = u) (hb : Blk w b t cs) (hn : cs.set j u = cs')
    (hc : u.cells = #[u]) (h1 : u.oneCell' = true) (hi : (Try.prog.info? ty).map (·.size) = some 1) (hj : j < cs.length)
    (h : ∀ w', Wrote b t w w' cs' → K a w') : o.wp Try.prog a w K Q := by
  have hc' := Blk.cell hb j (List.getElem?_eq_getElem hj)
  unfold Oper.wp execOp
  simp only [ho, hx, hy, Sem.run_bind, set_run w ty b j u hc h1 hi (by rw [hc']; rfl) (Blk.frozen hb j), Result.andThen_ok, Sem.run_pure]
  show K (a.put o.dst undef) _
  rw [hd]
  exact h _ ⟨by rw [← hn]; exact Blk.set hb j u, (But.refl _ b w).setCell j u, by simp [World.setCell]⟩
theorem wp_setM {o : Oper} {a : Act} {w : World} {K : Act → World → Prop} {Q : Exit → Act → World → Prop} (ty : TypeId) (x y : Operand) (ho : o.op = .store ty x y) (hd : o.dst = none) (b k : Nat) (hx : a.eval x = .pointer (some ⟨b, k, none⟩)) (t : TypeId) (cs cs' vs : List Value) (hy : a.eval y = .agg vs.toArray) (hb : Blk w b t cs) (hn : putAt cs k vs = cs')
    (h1 : vs.toArray.all (·.oneCell') = true) (hi : (Try.prog.info? ty).map (·.size) = some vs.length) (hj : k + vs.length ≤ cs.length)
    (h : ∀ w', Wrote b t w w' cs' → K a w') : o.wp Try.prog a w K Q :=
  wp_store_mid ty x y ho b k vs.toArray hx hy (by simpa using Blk.there hb k vs.length hj) (by simpa using hi) h1
    (by rw [hd]; exact h _ ⟨by rw [← hn]; exact Blk.setCells (w := w) vs k hb, But.setCells _ k (But.refl _ b w), size_setCells _ k w⟩)
set_option maxHeartbeats 4000000 in
theorem vfl_ip (s d op sm si tm ti hs hd tt pr sp dp x s' d' k' op' sm' si' tm' ti' hs' hd' tt' pr' sp' dp' x' : Int) (hf : FL.Ok ⟨s, d, 2, op, sm, si, tm, ti, hs, hd, tt, pr, sp, dp, x⟩) (hg : FL.Ok ⟨s', d', k', op', sm', si', tm', ti', hs', hd', tt', pr', sp', dp', x'⟩) (w : World) : Calls Try.prog 13 #[FL.v ⟨s, d, 2, op, sm, si, tm, ti, hs, hd, tt, pr, sp, dp, x⟩, FL.v ⟨s', d', k', op', sm', si', tm', ti', hs', hd', tt', pr', sp', dp', x'⟩] w fun r w' => r = .returned (.bool true) ∧ Below w.heap.size w w' := by
  have hH : FL.Ok ⟨s', d', 2, op', sm', si', tm', ti', hs, hd, tt', pr, sp, dp, x'⟩ := ⟨hg.s, hg.d, hg.sm, hg.si, hg.tm, hg.ti, hf.hs, hf.hd, hg.x⟩
  have E1 := fun w => ent_is ⟨s, d, 2, op, sm, si, tm, ti, hs, hd, tt, pr, sp, dp, x⟩ hf w
  have E2 := fun w => ent_is ⟨s', d', 2, op', sm', si', tm', ti', hs, hd, tt', pr, sp, dp, x'⟩ hH w
  have heq : entro ⟨s', d', 2, op', sm', si', tm', ti', hs, hd, tt', pr, sp, dp, x'⟩ = entro ⟨s, d, 2, op, sm, si, tm, ti, hs, hd, tt, pr, sp, dp, x⟩ := by
    unfold entro flw
    rw [if_pos rfl, if_pos rfl]
  rw [heq] at E2
  have hb := hsh_lt (flw ⟨s, d, 2, op, sm, si, tm, ti, hs, hd, tt, pr, sp, dp, x⟩)
  have e1 : decide ((49152 : Int) ≤ entro ⟨s, d, 2, op, sm, si, tm, ti, hs, hd, tt, pr, sp, dp, x⟩) = true := by unfold entro; simp; omega
  have e2 : decide (entro ⟨s, d, 2, op, sm, si, tm, ti, hs, hd, tt, pr, sp, dp, x⟩ ≤ (65535 : Int)) = true := by unfold entro; simp; omega
  generalize entro ⟨s, d, 2, op, sm, si, tm, ti, hs, hd, tt, pr, sp, dp, x⟩ = N at *
  clear heq hb hH hf hg
  unfold FL.v at E1 E2 ⊢
  go_enter Try.func13, Try.ntmps13
  go_upto_region 1 with (first
    | (refine at_box rfl 36 (.tmp 0) rfl (FL.cs ⟨s, d, 2, op, sm, si, tm, ti, hs, hd, tt, pr, sp, dp, x⟩) rfl ?_; rintro w1 H1 k1 s1)
    | (refine at_box rfl 36 (.tmp 1) rfl (FL.cs ⟨s', d', k', op', sm', si', tm', ti', hs', hd', tt', pr', sp', dp', x'⟩) rfl ?_; rintro w2 G2 k2 s2; rw [s1] at G2; have H2 := H1.below k2 H1.lt; have b2 := k1.trans (k2.mono k1.size); have SS := Lib.hid s2; clear k1 k2 H1 s2; try go_simp))
  go_wp2_with (first
    | (go_at_call 28; refine (vlives_is w2).mono ?_; rintro e w3 ⟨rfl, k3⟩; have b3 := b2.trans (k3.mono b2.size); have H3 := H2.below k3 H2.lt; have G3 := G2.below k3 G2.lt; clear k3 b2 H2 G2)
    | (refine at_mid rfl 36 _ rfl w.heap.size 0 rfl H3 (FL.cs ⟨s, d, 2, op, sm, si, tm, ti, hs, hd, tt, pr, sp, dp, x⟩) rfl _ Try.underlying36 rfl szF ?_))
  go_at_call 37
  refine (E1 w3).mono ?_
  rintro e w4 ⟨rfl, k4⟩
  have b4 := b3.trans (k4.mono b3.size)
  have H4 := H3.below k4 H3.lt
  have G4 := G3.below k4 G3.lt
  have l4 := G4.lt
  have g14 := G4.cell 14 (v := .int .u64 x') rfl
  clear k4 b3 H3 G3 E1
  go_upto_region 7 with (first
    | (refine at_mid rfl 36 _ rfl w.heap.size 0 rfl H4 (FL.cs ⟨s, d, 2, op, sm, si, tm, ti, hs, hd, tt, pr, sp, dp, x⟩) rfl _ Try.underlying36 rfl szF ?_)
    | (refine at_new rfl 36 F0.cs rfl run_newFr ?_; rintro w5 T5 k5 s5; have b5 := b4.trans (k5.mono b4.size); have H5 := H4.below k5 H4.lt; have G5 := G4.below k5 G4.lt; have FB := b4.size; have S5 := Lib.hid s5; clear b4 H4 G4 g14 k5 s5; try go_simp)
    | (refine at_mid rfl 36 _ rfl w.heap.size 0 rfl H5 (FL.cs ⟨s, d, 2, op, sm, si, tm, ti, hs, hd, tt, pr, sp, dp, x⟩) rfl _ Try.underlying36 rfl szF ?_)
    | (refine at_put rfl 36 _ _ rfl rfl w4.heap.size rfl (FL.cs ⟨s, d, 2, op, sm, si, tm, ti, hs, hd, tt, pr, sp, dp, x⟩) rfl T5 rfl szF (cs_one _) ?_; rintro w6 g6; have T6 := g6.blk; have b6 := g6.below b5 FB; have H6 := g6.but.blk H5 H5.lt (show w.heap.size ≠ w4.heap.size by omega); have G6 := g6.but.blk G5 G5.lt (show w.heap.size + 1 ≠ w4.heap.size by omega); have g14 := G6.cell 14 (v := .int .u64 x') rfl; clear b5 H5 G5 T5 g6)
    | (refine at_set rfl 27 _ _ rfl rfl w4.heap.size 14 rfl 36 (FL.cs ⟨s, d, 2, op, sm, si, tm, ti, hs, hd, tt, pr, sp, dp, x⟩) (FL.cs ⟨s, d, 2, op, sm, si, tm, ti, hs, hd, tt, pr, sp, dp, x'⟩) (.int .u64 x') rfl T6 rfl rfl rfl u64_one (show 14 < 15 by decide) ?_; rintro w7 g7; have T7 := g7.blk; have b7 := g7.below b6 FB; have H7 := g7.but.blk H6 H6.lt (show w.heap.size ≠ w4.heap.size by omega); have G7 := g7.but.blk G6 G6.lt (show w.heap.size + 1 ≠ w4.heap.size by omega); have c2 := H7.cell 2 (v := .int .i64 2) rfl; clear b6 H6 G6 T6 g14 g7))
  clear c2
  refine wp_region_selG (w.heap.size + 1) [0, 1, 2, 3, 4, 5, 6, 7, 8, 9] 8 rfl (by kernel_rfl) (by kernel_rfl) (by kernel_rfl) (by kernel_rfl) (fun _ d _ _ _ h => by cases d <;> exact h) ?_
  intro V hV
  have d0 : Below w7.heap.size w7 V := by subst hV; exact (Below.refl _ _).drew
  have GV := G7.below d0 G7.lt
  have TV := T7.below d0 T7.lt
  have bV := b7.trans (d0.mono b7.size)
  have hC : ∀ w', (∃ q : Same1 (w.heap.size + 1) V, w' = q.w) → Blk w' (w.heap.size + 1) 36 (FL.cs ⟨s', d', k', op', sm', si', tm', ti', hs', hd', tt', pr', sp', dp', x'⟩) := by
    rintro _ ⟨q, rfl⟩
    exact q.h.trans GV
  have r0 : ∀ q : Same1 (w.heap.size + 1) V, q.w.cell? ⟨w.heap.size + 1, 0, none⟩ = some (.int .u64 s') := fun q => Blk.cell (q.h.trans GV) 0 rfl
  have r1 : ∀ q : Same1 (w.heap.size + 1) V, q.w.cell? ⟨w.heap.size + 1, 1, none⟩ = some (.int .u64 d') := fun q => Blk.cell (q.h.trans GV) 1 rfl
  have r10 : ∀ q : Same1 (w.heap.size + 1) V, q.w.cell? ⟨w.heap.size + 1, 10, none⟩ = some (.int .i64 tt') := fun q => Blk.cell (q.h.trans GV) 10 rfl
  clear hV
  simp only [pickOps, List.filterMap_cons, List.filterMap_nil, List.getElem?_cons_zero, List.getElem?_cons_succ, Option.map_some, List.map_cons, List.map_nil]
  repeat (first | (go_big_quiet_want; refine q_mid 34 (.tmp 25) rfl (w.heap.size + 1) 3 rfl _ (FL.cs ⟨s', d', k', op', sm', si', tm', ti', hs', hd', tt', pr', sp', dp', x'⟩) hC [.int .i64 op', .int .u64 sm', .int .u32 si', .int .u64 tm', .int .u32 ti'] rfl _ Try.underlying34 rfl szA ?_; go_simp; go_big_quiet_on) | go_big_quiet_step (fail))
  refine wpQuiet_nil ?_
  clear hC r0 r1 r10
  refine wpAnyH_one (k := 10) (by kernel_rfl) rfl (fun K hQ => ?_)
  refine if_true_prop (by kernel_rfl) ?_
  refine wp_set 28 _ _ rfl rfl w4.heap.size 0 rfl 36 (FL.cs ⟨s, d, 2, op, sm, si, tm, ti, hs, hd, tt, pr, sp, dp, x'⟩) (FL.cs ⟨s', d, 2, op, sm, si, tm, ti, hs, hd, tt, pr, sp, dp, x'⟩) (.int .u64 s') rfl TV rfl rfl rfl mac_one (show 0 < 15 by decide) ?_
  rintro y100 u100
  have T100 := u100.blk
  have G100 := u100.but.blk GV GV.lt (show w.heap.size + 1 ≠ w4.heap.size by omega)
  have B100 := u100.below bV FB
  refine hQ _ _ ⟨⟨_, G100.trans GV.symm⟩, rfl⟩ ?_
  clear hQ K u100
  refine wpAnyH_one (k := 11) (by kernel_rfl) rfl (fun K hQ => ?_)
  go_simp
  refine hQ _ _ ⟨⟨_, G100.trans GV.symm⟩, rfl⟩ ?_
  clear hQ K
  refine wpAnyH_one (k := 12) (by kernel_rfl) rfl (fun K hQ => ?_)
  refine if_true_prop (by kernel_rfl) ?_
  refine wp_set 28 _ _ rfl rfl w4.heap.size 1 rfl 36 (FL.cs ⟨s', d, 2, op, sm, si, tm, ti, hs, hd, tt, pr, sp, dp, x'⟩) (FL.cs ⟨s', d', 2, op, sm, si, tm, ti, hs, hd, tt, pr, sp, dp, x'⟩) (.int .u64 d') rfl T100 rfl rfl rfl mac_one (show 1 < 15 by decide) ?_
  rintro y101 u101
  have T101 := u101.blk
  have G101 := u101.but.blk G100 G100.lt (show w.heap.size + 1 ≠ w4.heap.size by omega)
  have B101 := u101.below B100 FB
  refine hQ _ _ ⟨⟨_, G101.trans GV.symm⟩, rfl⟩ ?_
  clear hQ K u101
  refine wpAnyH_one (k := 13) (by kernel_rfl) rfl (fun K hQ => ?_)
  go_simp
  refine hQ _ _ ⟨⟨_, G101.trans GV.symm⟩, rfl⟩ ?_
  clear hQ K
  refine wpAnyH_one (k := 14) (by kernel_rfl) rfl (fun K hQ => ?_)
  go_simp
  refine hQ _ _ ⟨⟨_, G101.trans GV.symm⟩, rfl⟩ ?_
  clear hQ K
  refine wpAnyH_one (k := 15) (by kernel_rfl) rfl (fun K hQ => ?_)
  refine if_true_prop (by kernel_rfl) ?_
  refine wp_set 3 _ _ rfl rfl w4.heap.size 10 rfl 36 (FL.cs ⟨s', d', 2, op, sm, si, tm, ti, hs, hd, tt, pr, sp, dp, x'⟩) (FL.cs ⟨s', d', 2, op, sm, si, tm, ti, hs, hd, tt', pr, sp, dp, x'⟩) (.int .i64 tt') rfl T101 rfl rfl rfl int_one (show 10 < 15 by decide) ?_
  rintro y102 u102
  have T102 := u102.blk
  have G102 := u102.but.blk G101 G101.lt (show w.heap.size + 1 ≠ w4.heap.size by omega)
  have B102 := u102.below B101 FB
  refine hQ _ _ ⟨⟨_, G102.trans GV.symm⟩, rfl⟩ ?_
  clear hQ K u102
  refine wpAnyH_one (k := 16) (by kernel_rfl) rfl (fun K hQ => ?_)
  go_simp
  refine hQ _ _ ⟨⟨_, G102.trans GV.symm⟩, rfl⟩ ?_
  clear hQ K
  refine wpAnyH_one (k := 17) (by kernel_rfl) rfl (fun K hQ => ?_)
  refine if_true_prop (by kernel_rfl) ?_
  refine wp_setM 34 _ _ rfl rfl w4.heap.size 3 rfl 36 (FL.cs ⟨s', d', 2, op, sm, si, tm, ti, hs, hd, tt', pr, sp, dp, x'⟩) (FL.cs ⟨s', d', 2, op', sm', si', tm', ti', hs, hd, tt', pr, sp, dp, x'⟩) [.int .i64 op', .int .u64 sm', .int .u32 si', .int .u64 tm', .int .u32 ti'] rfl T102 rfl (by simp [Value.oneCell']) szA (show 3 + 5 ≤ 15 by decide) ?_
  rintro y103 u103
  have T103 := u103.blk
  have G103 := u103.but.blk G102 G102.lt (show w.heap.size + 1 ≠ w4.heap.size by omega)
  have B103 := u103.below B102 FB
  refine hQ _ _ ⟨⟨_, G103.trans GV.symm⟩, rfl⟩ ?_
  clear hQ K u103
  refine wpAnyH_done (by kernel_rfl) ?_ 0
  clear GV TV bV G103
  go_wp2_with (first
    | (refine at_mid (by kernel_rfl) 36 _ rfl w4.heap.size 0 rfl T103 (FL.cs ⟨s', d', 2, op', sm', si', tm', ti', hs, hd, tt', pr, sp, dp, x'⟩) rfl _ Try.underlying36 rfl szF ?_)
    | (go_at_call 37; refine (E2 _).mono ?_; rintro e wz ⟨rfl, kz⟩))
  go_ret
  exact ⟨rfl, B103.trans (kz.mono B103.size)⟩
set_option maxHeartbeats 4000000 in
theorem vfl_mac (s d k op sm si tm ti hs hd tt pr sp dp x s' d' k' op' sm' si' tm' ti' hs' hd' tt' pr' sp' dp' x' : Int) (hf : FL.Ok ⟨s, d, k, op, sm, si, tm, ti, hs, hd, tt, pr, sp, dp, x⟩) (hg : FL.Ok ⟨s', d', k', op', sm', si', tm', ti', hs', hd', tt', pr', sp', dp', x'⟩) (hk : k ≠ 2) (w : World) : Calls Try.prog 13 #[FL.v ⟨s, d, k, op, sm, si, tm, ti, hs, hd, tt, pr, sp, dp, x⟩, FL.v ⟨s', d', k', op', sm', si', tm', ti', hs', hd', tt', pr', sp', dp', x'⟩] w fun r w' => r = .returned (.bool true) ∧ Below w.heap.size w w' := by
  have hH : FL.Ok ⟨s, d, k, op', sm', si', tm', ti', hs', hd', tt', pr', sp', dp', x'⟩ := ⟨hf.s, hf.d, hg.sm, hg.si, hg.tm, hg.ti, hg.hs, hg.hd, hg.x⟩
  have E1 := fun w => ent_is ⟨s, d, k, op, sm, si, tm, ti, hs, hd, tt, pr, sp, dp, x⟩ hf w
  have E2 := fun w => ent_is ⟨s, d, k, op', sm', si', tm', ti', hs', hd', tt', pr', sp', dp', x'⟩ hH w
  have heq : entro ⟨s, d, k, op', sm', si', tm', ti', hs', hd', tt', pr', sp', dp', x'⟩ = entro ⟨s, d, k, op, sm, si, tm, ti, hs, hd, tt, pr, sp, dp, x⟩ := by
    unfold entro flw
    rw [if_neg hk, if_neg hk]
  rw [heq] at E2
  have hb := hsh_lt (flw ⟨s, d, k, op, sm, si, tm, ti, hs, hd, tt, pr, sp, dp, x⟩)
  have e1 : decide ((49152 : Int) ≤ entro ⟨s, d, k, op, sm, si, tm, ti, hs, hd, tt, pr, sp, dp, x⟩) = true := by unfold entro; simp; omega
  have e2 : decide (entro ⟨s, d, k, op, sm, si, tm, ti, hs, hd, tt, pr, sp, dp, x⟩ ≤ (65535 : Int)) = true := by unfold entro; simp; omega
  generalize entro ⟨s, d, k, op, sm, si, tm, ti, hs, hd, tt, pr, sp, dp, x⟩ = N at *
  clear heq hb hH hf hg
  have hkb : (k == 2) = false := by simpa using hk
  clear hk
  unfold FL.v at E1 E2 ⊢
  go_enter Try.func13, Try.ntmps13
  go_upto_region 1 with (first
    | (refine at_box rfl 36 (.tmp 0) rfl (FL.cs ⟨s, d, k, op, sm, si, tm, ti, hs, hd, tt, pr, sp, dp, x⟩) rfl ?_; rintro w1 H1 k1 s1)
    | (refine at_box rfl 36 (.tmp 1) rfl (FL.cs ⟨s', d', k', op', sm', si', tm', ti', hs', hd', tt', pr', sp', dp', x'⟩) rfl ?_; rintro w2 G2 k2 s2; rw [s1] at G2; have H2 := H1.below k2 H1.lt; have b2 := k1.trans (k2.mono k1.size); have SS := Lib.hid s2; clear k1 k2 H1 s2; try go_simp))
  go_wp2_with (first
    | (go_at_call 28; refine (vlives_is w2).mono ?_; rintro e w3 ⟨rfl, k3⟩; have b3 := b2.trans (k3.mono b2.size); have H3 := H2.below k3 H2.lt; have G3 := G2.below k3 G2.lt; clear k3 b2 H2 G2)
    | (refine at_mid rfl 36 _ rfl w.heap.size 0 rfl H3 (FL.cs ⟨s, d, k, op, sm, si, tm, ti, hs, hd, tt, pr, sp, dp, x⟩) rfl _ Try.underlying36 rfl szF ?_))
  go_at_call 37
  refine (E1 w3).mono ?_
  rintro e w4 ⟨rfl, k4⟩
  have b4 := b3.trans (k4.mono b3.size)
  have H4 := H3.below k4 H3.lt
  have G4 := G3.below k4 G3.lt
  have l4 := G4.lt
  have g14 := G4.cell 14 (v := .int .u64 x') rfl
  clear k4 b3 H3 G3 E1
  go_upto_region 8 with (first
    | (refine at_mid rfl 36 _ rfl w.heap.size 0 rfl H4 (FL.cs ⟨s, d, k, op, sm, si, tm, ti, hs, hd, tt, pr, sp, dp, x⟩) rfl _ Try.underlying36 rfl szF ?_)
    | (refine at_new rfl 36 F0.cs rfl run_newFr ?_; rintro w5 T5 k5 s5; have b5 := b4.trans (k5.mono b4.size); have H5 := H4.below k5 H4.lt; have G5 := G4.below k5 G4.lt; have FB := b4.size; have S5 := Lib.hid s5; clear b4 H4 G4 g14 k5 s5; try go_simp)
    | (refine at_mid rfl 36 _ rfl w.heap.size 0 rfl H5 (FL.cs ⟨s, d, k, op, sm, si, tm, ti, hs, hd, tt, pr, sp, dp, x⟩) rfl _ Try.underlying36 rfl szF ?_)
    | (refine at_put rfl 36 _ _ rfl rfl w4.heap.size rfl (FL.cs ⟨s, d, k, op, sm, si, tm, ti, hs, hd, tt, pr, sp, dp, x⟩) rfl T5 rfl szF (cs_one _) ?_; rintro w6 g6; have T6 := g6.blk; have b6 := g6.below b5 FB; have H6 := g6.but.blk H5 H5.lt (show w.heap.size ≠ w4.heap.size by omega); have G6 := g6.but.blk G5 G5.lt (show w.heap.size + 1 ≠ w4.heap.size by omega); have g14 := G6.cell 14 (v := .int .u64 x') rfl; clear b5 H5 G5 T5 g6)
    | (refine at_set rfl 27 _ _ rfl rfl w4.heap.size 14 rfl 36 (FL.cs ⟨s, d, k, op, sm, si, tm, ti, hs, hd, tt, pr, sp, dp, x⟩) (FL.cs ⟨s, d, k, op, sm, si, tm, ti, hs, hd, tt, pr, sp, dp, x'⟩) (.int .u64 x') rfl T6 rfl rfl rfl u64_one (show 14 < 15 by decide) ?_; rintro w7 g7; have T7 := g7.blk; have b7 := g7.below b6 FB; have H7 := g7.but.blk H6 H6.lt (show w.heap.size ≠ w4.heap.size by omega); have G7 := g7.but.blk G6 G6.lt (show w.heap.size + 1 ≠ w4.heap.size by omega); have c2 := H7.cell 2 (v := .int .i64 k) rfl; clear b6 H6 G6 T6 g14 g7))
  clear c2
  refine wp_region_selG (w.heap.size + 1) [0, 1, 2, 3, 4] 3 rfl (by kernel_rfl) (by kernel_rfl) (by kernel_rfl) (by kernel_rfl) (fun _ d _ _ _ h => by cases d <;> exact h) ?_
  intro V hV
  have d0 : Below w7.heap.size w7 V := by subst hV; exact (Below.refl _ _).drew
  have GV := G7.below d0 G7.lt
  have TV := T7.below d0 T7.lt
  have bV := b7.trans (d0.mono b7.size)
  have hC : ∀ w', (∃ q : Same1 (w.heap.size + 1) V, w' = q.w) → Blk w' (w.heap.size + 1) 36 (FL.cs ⟨s', d', k', op', sm', si', tm', ti', hs', hd', tt', pr', sp', dp', x'⟩) := by
    rintro _ ⟨q, rfl⟩
    exact q.h.trans GV
  clear hV
  simp only [pickOps, List.filterMap_cons, List.filterMap_nil, List.getElem?_cons_zero, List.getElem?_cons_succ, Option.map_some, List.map_cons, List.map_nil]
  repeat (first | (go_big_quiet_want; refine q_mid 34 (.tmp 34) rfl (w.heap.size + 1) 3 rfl _ (FL.cs ⟨s', d', k', op', sm', si', tm', ti', hs', hd', tt', pr', sp', dp', x'⟩) hC [.int .i64 op', .int .u64 sm', .int .u32 si', .int .u64 tm', .int .u32 ti'] rfl _ Try.underlying34 rfl szA ?_; go_simp; go_big_quiet_on) | (go_big_quiet_want; refine q_mid 32 (.tmp 32) rfl (w.heap.size + 1) 8 rfl _ (FL.cs ⟨s', d', k', op', sm', si', tm', ti', hs', hd', tt', pr', sp', dp', x'⟩) hC [.int .u32 hs', .int .u32 hd', .int .i64 tt', .int .i64 pr', .int .i64 sp', .int .i64 dp'] rfl _ Try.underlying32 rfl szH ?_; go_simp; go_big_quiet_on) | go_big_quiet_step (fail))
  refine wpQuiet_nil ?_
  clear hC
  refine wpAnyH_one (k := 5) (by kernel_rfl) rfl (fun K hQ => ?_)
  refine if_true_prop (by kernel_rfl) ?_
  refine wp_setM 32 _ _ rfl rfl w4.heap.size 8 rfl 36 (FL.cs ⟨s, d, k, op, sm, si, tm, ti, hs, hd, tt, pr, sp, dp, x'⟩) (FL.cs ⟨s, d, k, op, sm, si, tm, ti, hs', hd', tt', pr', sp', dp', x'⟩) [.int .u32 hs', .int .u32 hd', .int .i64 tt', .int .i64 pr', .int .i64 sp', .int .i64 dp'] rfl TV rfl (by simp [Value.oneCell']) szH (show 8 + 6 ≤ 15 by decide) ?_
  rintro y100 u100
  have T100 := u100.blk
  have G100 := u100.but.blk GV GV.lt (show w.heap.size + 1 ≠ w4.heap.size by omega)
  have B100 := u100.below bV FB
  refine hQ _ _ ⟨⟨_, G100.trans GV.symm⟩, rfl⟩ ?_
  clear hQ K u100
  refine wpAnyH_one (k := 6) (by kernel_rfl) rfl (fun K hQ => ?_)
  go_simp
  refine hQ _ _ ⟨⟨_, G100.trans GV.symm⟩, rfl⟩ ?_
  clear hQ K
  refine wpAnyH_one (k := 7) (by kernel_rfl) rfl (fun K hQ => ?_)
  refine if_true_prop (by kernel_rfl) ?_
  refine wp_setM 34 _ _ rfl rfl w4.heap.size 3 rfl 36 (FL.cs ⟨s, d, k, op, sm, si, tm, ti, hs', hd', tt', pr', sp', dp', x'⟩) (FL.cs ⟨s, d, k, op', sm', si', tm', ti', hs', hd', tt', pr', sp', dp', x'⟩) [.int .i64 op', .int .u64 sm', .int .u32 si', .int .u64 tm', .int .u32 ti'] rfl T100 rfl (by simp [Value.oneCell']) szA (show 3 + 5 ≤ 15 by decide) ?_
  rintro y101 u101
  have T101 := u101.blk
  have G101 := u101.but.blk G100 G100.lt (show w.heap.size + 1 ≠ w4.heap.size by omega)
  have B101 := u101.below B100 FB
  refine hQ _ _ ⟨⟨_, G101.trans GV.symm⟩, rfl⟩ ?_
  clear hQ K u101
  refine wpAnyH_done (by kernel_rfl) ?_ 0
  clear GV TV bV G101
  go_wp2_with (first
    | (refine at_mid (by kernel_rfl) 36 _ rfl w4.heap.size 0 rfl T101 (FL.cs ⟨s, d, k, op', sm', si', tm', ti', hs', hd', tt', pr', sp', dp', x'⟩) rfl _ Try.underlying36 rfl szF ?_)
    | (go_at_call 37; refine (E2 _).mono ?_; rintro e wz ⟨rfl, kz⟩))
  go_ret
  exact ⟨rfl, B101.trans (kz.mono B101.size)⟩
theorem vflows_is (f : FL) (hf : f.Ok) (g : FL) (hg : g.Ok) (w : World) : Calls Try.prog 13 #[f.v, g.v] w fun r w' => r = .returned (.bool true) ∧ Below w.heap.size w w' := by
  obtain ⟨s, d, k, op, sm, si, tm, ti, hs, hd, tt, pr, sp, dp, x⟩ := f
  obtain ⟨s', d', k', op', sm', si', tm', ti', hs', hd', tt', pr', sp', dp', x'⟩ := g
  by_cases hk : k = 2
  · subst hk
    exact vfl_ip _ _ _ _ _ _ _ _ _ _ _ _ _ _ _ _ _ _ _ _ _ _ _ _ _ _ _ _ _ hf hg w
  · exact vfl_mac _ _ _ _ _ _ _ _ _ _ _ _ _ _ _ _ _ _ _ _ _ _ _ _ _ _ _ _ _ _ hf hg hk w
end Go.Proofs.Ytgpjelcihmbiiaa
