/- Read of a packet. No condition. -/
import Derived.Test.YtgpjelcihmbiiaaVRf
namespace Go.Proofs.Ytgpjelcihmbiiaa
open Go.RowKit Go.Sort
set_option linter.unusedVariables false
set_option linter.unusedSimpArgs false
set_option maxRecDepth 100000

theorem tk_take (xs : List Int) (m n k : Nat) (h : n + k ≤ m) : tk (xs.take m) n k = tk xs n k := by
  unfold tk
  rw [List.drop_take, List.take_take, Nat.min_eq_left (by omega)]
/-- The packet that the octets are, if they are one. -/
def vP (xs : List Int) : PL := ⟨tk xs 12 4, tk xs 16 4, tk xs 8 1, tk xs 20 2, tk xs 32 3, tk xs 29 3, rdF (xs.drop 36)⟩
def Pack (xs : List Int) : Prop := hfE xs = 0 ∧ rdX (xs.drop 36) = 0 ∧ (vP xs).chk = 0 ∧ (vP xs).enc = xs
instance (xs : List Int) : Decidable (Pack xs) := by unfold Pack; exact inferInstance
def vQ (xs : List Int) : PL := if Pack xs then vP xs else P0
def vE (xs : List Int) : Int := if hfE xs ≠ 0 then hfE xs else if rdX (xs.drop 36) ≠ 0 then rdX (xs.drop 36) else if Pack xs then 0 else 3
def vA (xs : List Int) : Int := if hfE xs ≠ 0 then hfA xs else if rdX (xs.drop 36) ≠ 0 then fA (xs.drop 36) else 0
def VReads (fn : Nat) (xs : List Int) (v : Value) (w : World) : Prop := Calls Try.prog fn #[v] w fun r w' => r = .returned (.tuple #[(vQ xs).v, .agg (flt (vE xs) (vA xs)).toArray]) ∧ Below w.heap.size w w'
theorem hfE_zero {xs : List Int} (h : hfE xs = 0) : 36 ≤ xs.length ∧ xs.getD 9 0 = 17 ∧ pn xs = 4789 ∧ hfA xs = 0 := by
  unfold hfE at h
  unfold hfA
  by_cases h1 : xs.length < 36
  · rw [if_pos h1] at h; cases h
  rw [if_neg h1] at h ⊢
  by_cases h2 : xs.getD 9 0 ≠ 17
  · rw [if_pos h2] at h; cases h
  rw [if_neg h2] at h ⊢
  by_cases h3 : pn xs ≠ 4789
  · rw [if_pos h3] at h; cases h
  rw [if_neg h3]
  exact ⟨by omega, by omega, by omega, rfl⟩
theorem vP_ok {xs : List Int} (ho : Oct xs) (h : 36 ≤ xs.length) : (vP xs).Ok := by
  have q1 := tk_lt ho 12 4 (by omega)
  have q2 := tk_lt ho 16 4 (by omega)
  have q3 := tk_lt ho 32 3 (by omega)
  have q4 := tk_lt ho 29 3 (by omega)
  have hf : (rdF (xs.drop 36)).Ok := by
    unfold rdF
    split
    · exact decF_ok (ho.drop 36)
    · exact ⟨by decide, by decide, by decide, by decide, by decide, by decide, by decide, by decide, by decide⟩
  refine ⟨⟨q1.1, ?_⟩, ⟨q2.1, ?_⟩, ⟨q3.1, ?_⟩, ⟨q4.1, ?_⟩, hf⟩
  · exact Int.lt_of_lt_of_le q1.2 (by decide)
  · exact Int.lt_of_lt_of_le q2.2 (by decide)
  · exact Int.lt_of_lt_of_le q3.2 (by decide)
  · exact Int.lt_of_lt_of_le q4.2 (by decide)
/-- A store of a whole struct. -/
theorem wp_put {o : Oper} {a : Act} {w : World} {K : Act → World → Prop} {Q : Exit → Act → World → Prop} (ty : TypeId) (x y : Operand) (ho : o.op = .store ty x y) (hd : o.dst = none) (b : Nat) (hx : a.eval x = .pointer (some ⟨b, 0, none⟩)) (cs : List Value) (hy : a.eval y = .agg cs.toArray) {old : List Value} (hb : Blk w b ty old) (hl : old.length = cs.length)
    (hi : (Try.prog.info? ty).map (·.size) = some cs.length) (h1 : cs.toArray.all (·.oneCell') = true) (h : ∀ w', Wrote b ty w w' cs → K a w') : o.wp Try.prog a w K Q :=
  wp_store_row ty x y ho b cs.toArray hx hy _ old.toArray hb (by simpa using hi) (by simpa using hl) h1 (by
    rw [hd]
    exact h _ ⟨setRow_heap w b _ _ _ _ hb, ⟨rfl, rfl, rfl, by simp [World.setRow], fun k hk hn => by simp [World.setRow, Array.getElem?_modify, Ne.symm hn]⟩, by simp [World.setRow]⟩)
theorem q_bld {C : World → Prop} {o : Oper} {a : Act} {K : Act → Prop} (ty : TypeId) (parts : Array (Nat × Operand)) (ho : o.op = .build ty parts) (cs : List Value)
    (hb : Try.prog.built ty (parts.map fun (i, x) => (i, a.eval x)).toList = some cs.toArray) (h : K (a.put o.dst (.agg cs.toArray))) : o.quiet Try.prog a C K :=
  ⟨.agg cs.toArray, fun w hw => by
    unfold Oper.quietAt execOp
    simp only [ho, Sem.run_bind, run_build w ty _ _ hb, Result.andThen_ok, Sem.run_pure, Oper.quietUpon, and_self], h⟩
set_option maxHeartbeats 4000000 in
theorem vr_head (xs : List Int) (ho : Oct xs) (hl : xs.length ≤ 1000000) (h : hfE xs ≠ 0) (v : Value) (w : World) (hv : Seg w v xs) : Calls Try.prog 29 #[v] w fun r w' => r = .returned (.tuple #[PL.v P0, .agg (flt (hfE xs) (hfA xs)).toArray]) ∧ Below w.heap.size w w' := by
  have HH := fun w h => head_is xs ho hl v w h
  have HV := Lib.hid hv
  have hne : (hfE xs != 0) = true := by simpa using h
  generalize hfE xs = E at *
  generalize hfA xs = A at *
  clear h
  obtain ⟨va, vc, rfl, -⟩ := id hv
  clear hv
  unfold PL.v
  go_enter Try.func29, Try.ntmps29
  go_wp2_with (first
    | (refine at_new rfl 55 P0.cs rfl run_newPk ?_; rintro w1 H1 k1 s1)
    | (refine at_new rfl 38 FZ rfl run_newFt ?_; rintro w2 G2 k2 s2; rw [s1] at G2; have H2 := H1.below k2 H1.lt; have b2 := k1.trans (k2.mono k1.size); have SS := Lib.hid s2; have l2 := G2.lt; clear k1 k2 H1 s2; try go_simp))
  go_at_call 55
  refine (HH w2 (HV.out.below b2)).mono ?_
  rintro r w3 ⟨rfl, k3⟩
  have b3 := b2.trans (k3.mono b2.size)
  have H3 := H2.below k3 H2.lt
  have G3 := G2.below k3 G2.lt
  have l3 := G3.lt
  clear b2 H2 G2 k3 HH
  go_wp2_with (first
    | (refine at_new rfl 38 FZ rfl run_newFt ?_; rintro w4 T4 k4 s4; have b4 := b3.trans (k4.mono b3.size); have H4 := H3.below k4 H3.lt; have G4 := G3.below k4 G3.lt; have FB3 := b3.size; have S4 := Lib.hid s4; clear b3 H3 G3 k4 s4; try go_simp)
    | (refine at_put rfl 38 _ _ rfl rfl w3.heap.size rfl (flt E A) rfl T4 rfl szFt (flt_one _ _) ?_; rintro w5 g5; have T5 := g5.blk; have b5 := g5.below b4 FB3; have H5 := g5.but.blk H4 H4.lt (show w.heap.size ≠ w3.heap.size by omega); have G5 := g5.but.blk G4 G4.lt (show w.heap.size + 1 ≠ w3.heap.size by omega); have c0 := T5.cell 0 (v := .int .i64 E) rfl; clear b4 H4 G4 T4 g5))
  clear c0
  refine wp_region_selG (w3.heap.size) [0, 1] 2 rfl (by kernel_rfl) (by kernel_rfl) (by kernel_rfl) (by kernel_rfl) (fun _ d _ _ _ h => by cases d <;> exact h) ?_
  intro V hV
  have d0 : Below w5.heap.size w5 V := by subst hV; exact (Below.refl _ _).drew
  have TV : Blk V (w3.heap.size) 38 (flt E A) := T5.below d0 T5.lt
  have HV' := H5.below d0 H5.lt
  have GV := G5.below d0 G5.lt
  have bV := b5.trans (d0.mono b5.size)
  have hC : ∀ w', (∃ q : Same1 (w3.heap.size) V, w' = q.w) → Blk w' (w3.heap.size) 38 (flt E A) := by
    rintro _ ⟨q, rfl⟩
    exact q.h.trans TV
  clear hV
  simp only [pickOps, List.filterMap_cons, List.filterMap_nil, List.getElem?_cons_zero, List.getElem?_cons_succ, Option.map_some, List.map_cons, List.map_nil]
  repeat (first | (go_big_quiet_want; refine q_mid 38 (.tmp 4) rfl (w3.heap.size) 0 rfl _ (flt E A) hC (flt E A) rfl _ Try.underlying38 rfl szFt ?_; go_simp; go_big_quiet_on) | (go_big_quiet_want; refine q_bld 55 _ rfl P0.cs (by kernel_rfl) ?_; go_simp; go_big_quiet_on) | go_big_quiet_step (fail))
  refine wpQuiet_nil ?_
  clear hC
  refine wpAnyH_one (k := 2) (by kernel_rfl) rfl (fun K hQ => ?_)
  refine if_true_prop (by kernel_rfl) ?_
  refine wp_put 55 _ _ rfl rfl w.heap.size rfl P0.cs rfl HV' rfl szP (pcs_one _) ?_
  rintro x1 g1
  have h1 := g1.blk
  have t1 := g1.but.blk TV TV.lt (show w3.heap.size ≠ w.heap.size by omega)
  have y1 := g1.but.blk GV GV.lt (show w.heap.size + 1 ≠ w.heap.size by omega)
  have p1 := g1.below bV (Nat.le_refl _)
  refine hQ _ _ ⟨⟨_, t1.trans TV.symm⟩, rfl⟩ ?_
  clear hQ K
  refine wpAnyH_one (k := 3) (by kernel_rfl) rfl (fun K hQ => ?_)
  refine if_true_prop (by kernel_rfl) ?_
  refine wp_put 38 _ _ rfl rfl (w.heap.size + 1) rfl (flt E A) rfl y1 rfl szFt (flt_one _ _) ?_
  rintro x2 g2
  have y2 := g2.blk
  have h2 := g2.but.blk h1 h1.lt (show w.heap.size ≠ w.heap.size + 1 by omega)
  have t2 := g2.but.blk t1 t1.lt (show w3.heap.size ≠ w.heap.size + 1 by omega)
  have p2 := g2.below p1 (Nat.le_succ _)
  refine hQ _ _ ⟨⟨_, t2.trans TV.symm⟩, rfl⟩ ?_
  clear hQ K
  refine wpAnyH_done (by kernel_rfl) ?_ 0
  clear TV HV' GV bV t1 t2 h1 y1 p1 g1 g2 d0
  go_wp2
  exact bodyPost_ret (results_rows (by rfl) _ _ w.heap.size (w.heap.size + 1) _ _ (PL.cs P0).toArray (flt E A).toArray _ _ _ _ rfl h2 Try.underlying55 rfl szP rfl y2 Try.underlying38 rfl szFt) rfl ⟨rfl, p2⟩
set_option maxHeartbeats 4000000 in
theorem vr_frame (xs : List Int) (ho : Oct xs) (hl : xs.length ≤ 1000000) (h : hfE xs = 0) (hx : rdX (xs.drop 36) ≠ 0) (v : Value) (w : World) (hv : Seg w v xs) : Calls Try.prog 29 #[v] w fun r w' => r = .returned (.tuple #[PL.v P0, .agg (flt (rdX (xs.drop 36)) (fA (xs.drop 36))).toArray]) ∧ Below w.heap.size w w' := by
  have HH := fun w h => head_is xs ho hl v w h
  have HV := Lib.hid hv
  obtain ⟨h36, -, -, hz⟩ := hfE_zero h
  rw [h, hz] at HH
  have HR := fun w h => rframe_is xs ho hl h36 v w h
  unfold FL.v at HR
  generalize rdF (xs.drop 36) = F at *
  have hne : (rdX (xs.drop 36) != 0) = true := by simpa using hx
  generalize rdX (xs.drop 36) = e at *
  generalize fA (xs.drop 36) = a at *
  clear h hx hz h36 ho hl
  obtain ⟨va, vc, rfl, -⟩ := id hv
  clear hv
  unfold PL.v
  go_enter Try.func29, Try.ntmps29
  go_wp2_with (first
    | (refine at_new rfl 55 P0.cs rfl run_newPk ?_; rintro w1 H1 k1 s1)
    | (refine at_new rfl 38 FZ rfl run_newFt ?_; rintro w2 G2 k2 s2; rw [s1] at G2; have H2 := H1.below k2 H1.lt; have b2 := k1.trans (k2.mono k1.size); have SS := Lib.hid s2; have l2 := G2.lt; clear k1 k2 H1 s2; try go_simp))
  go_at_call 55
  refine (HH w2 (HV.out.below b2)).mono ?_
  rintro r w3 ⟨rfl, k3⟩
  have b3 := b2.trans (k3.mono b2.size)
  have H3 := H2.below k3 H2.lt
  have G3 := G2.below k3 G2.lt
  have l3 := G3.lt
  clear b2 H2 G2 k3 HH
  go_wp2_with (first
    | (refine at_new rfl 38 FZ rfl run_newFt ?_; rintro w4 T4 k4 s4; have b4 := b3.trans (k4.mono b3.size); have H4 := H3.below k4 H3.lt; have G4 := G3.below k4 G3.lt; have FB3 := b3.size; have S4 := Lib.hid s4; clear b3 H3 G3 k4 s4; try go_simp)
    | (refine at_put rfl 38 _ _ rfl rfl w3.heap.size rfl (flt 0 0) rfl T4 rfl szFt (flt_one _ _) ?_; rintro w5 g5; have T5 := g5.blk; have b5 := g5.below b4 FB3; have H5 := g5.but.blk H4 H4.lt (show w.heap.size ≠ w3.heap.size by omega); have G5 := g5.but.blk G4 G4.lt (show w.heap.size + 1 ≠ w3.heap.size by omega); have c0 := T5.cell 0 (v := .int .i64 0) rfl; clear b4 H4 G4 T4 g5))
  go_at_call 56
  refine (HR w5 (HV.out.below b5)).mono ?_
  rintro r w6 ⟨rfl, k6⟩
  have b6 := b5.trans (k6.mono b5.size)
  have H6 := H5.below k6 H5.lt
  have G6 := G5.below k6 G5.lt
  have l6 := G6.lt
  clear b5 H5 G5 T5 k6 HR c0
  go_wp2_with (first
    | (refine at_new rfl 36 F0.cs rfl run_newFr ?_; rintro w7 X7 k7 s7; have b7 := b6.trans (k7.mono b6.size); have H7 := H6.below k7 H6.lt; have G7 := G6.below k7 G6.lt; have FB6 := b6.size; clear b6 H6 G6 k7; try go_simp)
    | (refine at_new rfl 38 FZ rfl run_newFt ?_; rintro w8 T8 k8 s8; rw [s7] at T8; have b8 := b7.trans (k8.mono b7.size); have H8 := H7.below k8 H7.lt; have G8 := G7.below k8 G7.lt; have X8 := X7.below k8 X7.lt; have S8 := Lib.hid s8; clear b7 H7 G7 X7 k8 s8; try go_simp)
    | (refine at_put rfl 36 _ _ rfl rfl w6.heap.size rfl (FL.cs F) rfl X8 rfl szF (cs_one _) ?_; rintro w9 g9; have X9 := g9.blk; have b9 := g9.below b8 FB6; have H9 := g9.but.blk H8 H8.lt (show w.heap.size ≠ w6.heap.size by omega); have G9 := g9.but.blk G8 G8.lt (show w.heap.size + 1 ≠ w6.heap.size by omega); have T9 := g9.but.blk T8 T8.lt (show w6.heap.size + 1 ≠ w6.heap.size by omega); clear b8 H8 G8 T8 X8 g9)
    | (refine at_put rfl 38 _ _ rfl rfl (w6.heap.size + 1) rfl (flt e a) rfl T9 rfl szFt (flt_one _ _) ?_; rintro w10 g10; have T10 := g10.blk; have b10 := g10.below b9 (Nat.le_succ_of_le FB6); have H10 := g10.but.blk H9 H9.lt (show w.heap.size ≠ w6.heap.size + 1 by omega); have G10 := g10.but.blk G9 G9.lt (show w.heap.size + 1 ≠ w6.heap.size + 1 by omega); have X10 := g10.but.blk X9 X9.lt (show w6.heap.size ≠ w6.heap.size + 1 by omega); have c0 := T10.cell 0 (v := .int .i64 e) rfl; clear b9 H9 G9 T9 X9 g10))
  clear c0
  refine wp_region_selG (w6.heap.size + 1) [0, 1] 2 rfl (by kernel_rfl) (by kernel_rfl) (by kernel_rfl) (by kernel_rfl) (fun _ d _ _ _ h => by cases d <;> exact h) ?_
  intro V hV
  have d0 : Below w10.heap.size w10 V := by subst hV; exact (Below.refl _ _).drew
  have TV : Blk V (w6.heap.size + 1) 38 (flt e a) := T10.below d0 T10.lt
  have HV' := H10.below d0 H10.lt
  have GV := G10.below d0 G10.lt
  have bV := b10.trans (d0.mono b10.size)
  have hC : ∀ w', (∃ q : Same1 (w6.heap.size + 1) V, w' = q.w) → Blk w' (w6.heap.size + 1) 38 (flt e a) := by
    rintro _ ⟨q, rfl⟩
    exact q.h.trans TV
  clear hV
  simp only [pickOps, List.filterMap_cons, List.filterMap_nil, List.getElem?_cons_zero, List.getElem?_cons_succ, Option.map_some, List.map_cons, List.map_nil]
  repeat (first | (go_big_quiet_want; refine q_mid 38 (.tmp 6) rfl (w6.heap.size + 1) 0 rfl _ (flt e a) hC (flt e a) rfl _ Try.underlying38 rfl szFt ?_; go_simp; go_big_quiet_on) | (go_big_quiet_want; refine q_bld 55 _ rfl P0.cs (by kernel_rfl) ?_; go_simp; go_big_quiet_on) | go_big_quiet_step (fail))
  refine wpQuiet_nil ?_
  clear hC
  refine wpAnyH_one (k := 2) (by kernel_rfl) rfl (fun K hQ => ?_)
  refine if_true_prop (by kernel_rfl) ?_
  refine wp_put 55 _ _ rfl rfl w.heap.size rfl P0.cs rfl HV' rfl szP (pcs_one _) ?_
  rintro x1 g1
  have h1 := g1.blk
  have t1 := g1.but.blk TV TV.lt (show w6.heap.size + 1 ≠ w.heap.size by omega)
  have y1 := g1.but.blk GV GV.lt (show w.heap.size + 1 ≠ w.heap.size by omega)
  have p1 := g1.below bV (Nat.le_refl _)
  refine hQ _ _ ⟨⟨_, t1.trans TV.symm⟩, rfl⟩ ?_
  clear hQ K
  refine wpAnyH_one (k := 3) (by kernel_rfl) rfl (fun K hQ => ?_)
  refine if_true_prop (by kernel_rfl) ?_
  refine wp_put 38 _ _ rfl rfl (w.heap.size + 1) rfl (flt e a) rfl y1 rfl szFt (flt_one _ _) ?_
  rintro x2 g2
  have y2 := g2.blk
  have h2 := g2.but.blk h1 h1.lt (show w.heap.size ≠ w.heap.size + 1 by omega)
  have t2 := g2.but.blk t1 t1.lt (show w6.heap.size + 1 ≠ w.heap.size + 1 by omega)
  have p2 := g2.below p1 (Nat.le_succ _)
  refine hQ _ _ ⟨⟨_, t2.trans TV.symm⟩, rfl⟩ ?_
  clear hQ K
  refine wpAnyH_done (by kernel_rfl) ?_ 0
  clear TV HV' GV bV t1 t2 h1 y1 p1 g1 g2 d0
  go_wp2
  exact bodyPost_ret (results_rows (by rfl) _ _ w.heap.size (w.heap.size + 1) _ _ (PL.cs P0).toArray (flt e a).toArray _ _ _ _ rfl h2 Try.underlying55 rfl szP rfl y2 Try.underlying38 rfl szFt) rfl ⟨rfl, p2⟩
end Go.Proofs.Ytgpjelcihmbiiaa
