/- The frame of a packet that is read. No condition. -/
import Derived.Test.YtgpjelcihmbiiaaVRh
import Derived.Test.YtgpjelcihmbiiaaPZh
import Derived.Defers
namespace Go.Proofs.Ytgpjelcihmbiiaa
open Go.RowKit
set_option linter.unusedVariables false
set_option linter.unusedSimpArgs false
set_option maxRecDepth 100000

theorem slice_lo {w : World} {v : Value} {xs : List Int} (h : Seg w v xs) (n : Nat) (hn : n ≤ xs.length) : ∃ v1, (∀ W, (Instr.slice 23 v (some (.int .i64 n)) none none).run Try.prog W = .ok v1 W) ∧ Seg w v1 (xs.drop n) := by
  have ht : Try.prog.underlying 23 = some (.slice (Try.prog.elem 23)) := by rw [elem_bytes]; exact Try.underlying23
  have hl : (xs.drop n).length = xs.length - n := by simp
  obtain ⟨a, c, rfl, hc, hx⟩ := h
  refine ⟨.slice (if c = n then a else a.map (·.add (n * 1))) (xs.length - n) (c - n), fun W => ?_, ?_⟩
  · have es : (sizeOf (Try.prog.elem 23)).run Try.prog W = .ok 1 W := by rw [elem_bytes]; exact Try.sizeOf5 W
    rw [run_slice_l W _ _ _ _ ht .i64 _ (by omega) (by omega), es]
    simp [sliced, Result.andThen]
  · refine ⟨_, c - n, by rw [hl], by rw [hl]; omega, fun i hi => ?_⟩
    rw [hl] at hi
    obtain ⟨b, o, rfl, hcell⟩ := hx (n + i) (by omega)
    have hcn : ¬ c = n := by omega
    rw [if_neg hcn]
    refine ⟨b, o + n, by simp [Addr.add], ?_⟩
    rw [Nat.add_assoc, hcell, List.getD_eq_getElem?_getD, List.getD_eq_getElem?_getD, List.getElem?_drop]
section
variable {ops : Array Oper} {rest : List Oper} {o : Oper} {a : Act} {w : World} {Q : Exit → Act → World → Prop}
theorem at_sliceL (hgd : o.guard = none) (ty : TypeId) (hu : Try.prog.underlying ty = some (.slice (Try.prog.elem ty))) (x y : Operand) (ho : o.op = .slice ty x (some y) none none) (v u v1 : Value) (hx : a.eval x = v) (hy : a.eval y = u) (hr : ∀ W, (Instr.slice ty v (some u) none none).run Try.prog W = .ok v1 W)
    (h : wpList Try.prog ops Q rest (a.put o.dst v1) w) : wpList Try.prog ops Q (o :: rest) a w :=
  wpList_plain hgd fun _ hK => by
    have hr' : (Instr.sliceAt ty v (some u) none none).run Try.prog w = .ok v1 w   := by rw [run_sliceAt_slice _ _ _ _ _ _ hu]; exact hr w
    unfold Oper.wp execOp
    simp only [ho, Option.map_some, Option.map_none, hx, hy, Sem.run_bind, hr', Result.andThen_ok, Sem.run_pure]
    exact hK _ _ h
end
theorem shift_no (g : Nat) (u : FrameMode) (w : World) (a : Int) (h : Blk w g 38 (flt 0 a)) :
    CallsD Try.prog 72 #[.pointer (some ⟨g, 0, none⟩)] u w fun e u' w' => u' = u ∧ (e = .returned (.tuple #[]) ∧ w' = w) := by
  have c0 := Blk.cell h 0 (v := .int .i64 0) rfl
  go_enter_d Try.func72, Try.ntmps72
  go_wp2
  go_end0
  exact ⟨rfl, rfl⟩
theorem shift_yes (g : Nat) (u : FrameMode) (w : World) (e a : Int) (he : (e != 0) = true) (h0 : 0 ≤ a) (h1 : a < 1000000000000000) (h : Blk w g 38 (flt e a)) :
    CallsD Try.prog 72 #[.pointer (some ⟨g, 0, none⟩)] u w fun r u' w' => u' = u ∧ (r = .returned (.tuple #[]) ∧ Wrote g 38 w w' (flt e (a + 36))) := by
  have c0 := Blk.cell h 0 (v := .int .i64 e) rfl
  have c1 := Blk.cell h 1 (v := .int .i64 a) rfl
  go_enter_d Try.func72, Try.ntmps72
  go_wp2_with (refine at_set rfl 3 _ _ rfl rfl g 1 rfl 38 (flt e a) (flt e (a + 36)) (.int .i64 (a + 36)) rfl h rfl rfl rfl int_one (show 1 < 2 by decide) ?_; rintro w2 g2)
  go_end0
  exact ⟨rfl, g2⟩
/-- The position of a fault of the frame, in the packet. -/
def fA (xs : List Int) : Int := if rdX xs = 0 then rdA xs else rdA xs + 36
theorem rdA_le (xs : List Int) : 0 ≤ rdA xs ∧ (rdA xs = xs.length ∨ rdA xs ≤ 50) := by
  have hs : 0 ≤ szOf (kdOf (tyAt xs)) xs ∧ szOf (kdOf (tyAt xs)) xs ≤ 50 := by
    unfold szOf
    split
    · decide
    · split
      · decide
      · split <;> decide
  unfold rdA
  split
  · omega
  · split
    · omega
    · split
      · omega
      · split <;> omega
set_option maxHeartbeats 2000000 in
theorem rframe_is (xs : List Int) (ho : Oct xs) (hl : xs.length ≤ 1000000) (h36 : 36 ≤ xs.length) (v : Value) (w : World) (hv : Seg w v xs) :
    Calls Try.prog 56 #[v] w fun r w' => r = .returned (.tuple #[(rdF (xs.drop 36)).v, .agg (flt (rdX (xs.drop 36)) (fA (xs.drop 36))).toArray]) ∧ Below w.heap.size w w' := by
  have hld : (xs.drop 36).length ≤ 1000000 := by simp; omega
  have HR := fun v w h => read_is (xs.drop 36) (ho.drop 36) (by omega) v w h
  have hA := rdA_le (xs.drop 36)
  have hmf : ∀ (fn : Fn) (first cap : Array Value) (w : World), (Instr.makeFunc fn first cap).run Try.prog w = .ok (.func fn first cap) w := fun _ _ _ _ => rfl
  have HV := Lib.hid hv
  unfold Reads FL.v at HR
  unfold FL.v fA
  generalize rdF (xs.drop 36) = F at *
  generalize rdX (xs.drop 36) = e at *
  generalize rdA (xs.drop 36) = a at *
  obtain ⟨z, hz⟩ : ∃ z, (if e = 0 then a else a + 36) = z := ⟨_, rfl⟩
  rw [hz]
  have HZ := Lib.hid hz
  clear hz
  have ha0 : 0 ≤ a := hA.1
  have ha1 : a < 1000000000000000 := by omega
  obtain ⟨sv, hsr, -⟩ := slice_lo hv 36 h36
  have HS := fun w' (b : Below w.heap.size w w') => slice_lo (hv.below b) 36 h36
  have hseg : ∀ w', Below w.heap.size w w' → Seg w' sv (xs.drop 36) := fun w' b => by
    obtain ⟨s2, h1, h2⟩ := HS w' b
    have e := (hsr w').symm.trans (h1 w')
    injection e with e1 e2
    rw [e1]
    exact h2
  have HSG := Lib.hid hseg
  obtain ⟨sa, sc, hsv⟩ : ∃ sa sc, sv = .slice sa (xs.length - 36) sc := by
    obtain ⟨sa, sc, h, -⟩ := hseg w (Below.refl _ _)
    exact ⟨sa, sc, by rw [h]; simp⟩
  subst hsv
  rw [show ((36 : Nat) : Int) = 36 from rfl] at hsr
  obtain ⟨va, vc, rfl, -⟩ := id hv
  have HE := Lib.hid hsr
  clear hv HS hseg hld hA hl h36
  go_enter_defers Try.func56, Try.ntmps56
  go_wp2_with (first
    | (refine at_new rfl 36 F0.cs rfl run_newFr ?_; rintro w1 H1 k1 s1)
    | (refine at_new rfl 38 FZ rfl run_newFt ?_; rintro w2 G2 k2 s2; rw [s1] at G2; have H2 := H1.below k2 H1.lt; have b2 := k1.trans (k2.mono k1.size); have SS := Lib.hid s2; clear k1 k2 H1 s2; try go_simp)
    | (refine at_sliceL rfl 23 under_b _ _ rfl (.slice va xs.length vc) (.int .i64 36) (.slice sa (xs.length - 36) sc) rfl rfl HE.out ?_))
  go_at_call 17
  refine (HR _ w2 (HSG.out w2 b2)).mono ?_
  rintro r w3 ⟨rfl, k3⟩
  have b3 := b2.trans (k3.mono b2.size)
  have H3 := H2.below k3 H2.lt
  have G3 := G2.below k3 G2.lt
  clear b2 H2 G2 k3 HR
  go_wp2_with (first
    | (refine at_put rfl 36 _ _ rfl rfl w.heap.size rfl (FL.cs F) rfl H3 rfl szF (cs_one _) ?_; rintro w4 g4; have H4 := g4.blk; have G4 := g4.but.blk G3 G3.lt (show w.heap.size + 1 ≠ w.heap.size by omega); have b4 := g4.below b3 (Nat.le_refl _); clear H3 G3 b3 g4)
    | (refine at_put rfl 38 _ _ rfl rfl (w.heap.size + 1) rfl (flt e a) rfl G4 rfl szFt (flt_one _ _) ?_; rintro w5 g5; have G5 := g5.blk; have H5 := g5.but.blk H4 H4.lt (show w.heap.size ≠ w.heap.size + 1 by omega); have b5 := g5.below b4 (Nat.le_succ _); clear H4 G4 b4 g5))
  refine leaves_cons (f := 72) (args := #[.pointer (some ⟨w.heap.size + 1, 0, none⟩)]) (by simp) (by simp [go_sem]) ?_
  by_cases he : e = 0
  · subst he
    have hz : z = a := by rw [← HZ.out, if_pos rfl]
    subst hz
    refine (shift_no (w.heap.size + 1) .returning w5 z G5).mono ?_
    rintro r u' w6 ⟨rfl, rfl, rfl⟩
    exact ⟨_, results_rows (by rfl) _ _ w.heap.size (w.heap.size + 1) _ _ (FL.cs F).toArray (flt 0 z).toArray _ _ _ _ rfl H5 Try.underlying36 rfl szF rfl G5 Try.underlying38 rfl szFt, rfl, b5⟩
  · refine (shift_yes (w.heap.size + 1) .returning w5 e a (by simpa using he) ha0 ha1 G5).mono ?_
    rintro r u' w6 ⟨rfl, rfl, g6⟩
    have G6 := g6.blk
    have H6 := g6.but.blk H5 H5.lt (show w.heap.size ≠ w.heap.size + 1 by omega)
    have b6 := g6.below b5 (Nat.le_succ _)
    exact ⟨_, results_rows (by rfl) _ _ w.heap.size (w.heap.size + 1) _ _ (FL.cs F).toArray (flt e (a + 36)).toArray _ _ _ _ rfl H6 Try.underlying36 rfl szF rfl G6 Try.underlying38 rfl szFt, by rw [← HZ.out, if_neg he], b6⟩
end Go.Proofs.Ytgpjelcihmbiiaa
