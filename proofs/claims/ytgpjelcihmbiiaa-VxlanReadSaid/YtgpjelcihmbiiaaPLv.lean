/- The example of the chapter holds; a frame is read back. No condition. -/
import Derived.Test.YtgpjelcihmbiiaaPMt
import Derived.Test.YtgpjelcihmbiiaaWLv
namespace Go.Proofs.Ytgpjelcihmbiiaa
open Go.RowKit
set_option linter.unusedVariables false
set_option linter.unusedSimpArgs false
set_option maxRecDepth 100000

theorem lives_is (w : World) : Calls Try.prog 15 #[] w fun e w' => e = .returned (.bool true) ∧ Below w.heap.size w w' := by
  have hok : FL.Ok (FL.mk 2199023255553 281474976710655 0 0 0 0 0 0 0 0 0 0 0 0 7) := ⟨by decide, by decide, by decide, by decide, by decide, by decide, by decide, by decide, by decide⟩
  have hmc : mc 2199023255553 = false := by decide
  have hck : FL.chk (FL.mk 2199023255553 281474976710655 0 0 0 0 0 0 0 0 0 0 0 0 7) = 0 := by
    unfold FL.chk
    rw [if_neg (by decide), hmc, if_neg (by decide), if_neg (by decide), if_neg (by decide), if_neg (by decide), if_neg (by decide)]
  have hB := fun w => bytes_ok _ hok hck w
  have hl : FL.enc (FL.mk 2199023255553 281474976710655 0 0 0 0 0 0 0 0 0 0 0 0 7) = [255, 255, 255, 255, 255, 255, 2, 0, 0, 0, 0, 1, 136, 181, 0, 0, 0, 0, 0, 0, 0, 7] := by decide
  rw [hl] at hB
  unfold FL.v at hB
  clear hok hmc hck hl
  go_enter Try.func15, Try.ntmps15
  go_wp2_with (refine at_bld rfl 36 _ rfl (FL.cs (FL.mk 2199023255553 281474976710655 0 0 0 0 0 0 0 0 0 0 0 0 7)) (by kernel_rfl) ?_)
  go_at_call 16
  refine (hB w).mono ?_
  rintro e w1 ⟨v, rfl, d1, k1⟩
  have hcv := dat_string d1.dat (by simp)
  rw [show strOfNums _ = (⟨#[255, 255, 255, 255, 255, 255, 2, 0, 0, 0, 0, 1, 136, 181, 0, 0, 0, 0, 0, 0, 0, 7]⟩ : ByteArray) from rfl] at hcv
  obtain ⟨a, c, rfl⟩ := d1.dat.shape
  simp only [List.length_cons, List.length_nil, Nat.reduceAdd] at hcv ⊢
  clear d1 hB
  go_wp2
  go_ret
  exact ⟨rfl, k1⟩
def FT (w : World) (b : Nat) (e a : Int) : Prop := Blk w b 38 (flt e a)
theorem fieldsT : (Try.prog.fieldsOf 38).toList.map (fun f => (f.name, f.type, f.offset)) = [("Err", 24, 0), ("At", 3, 1)] := by kernel_rfl
theorem eqT (n : Nat) (e a e' a' : Int) (w : World) : (Op.equalIn (n + 2) 38 (.agg (flt e a).toArray) (.agg (flt e' a').toArray)).run Try.prog w = .ok ((e == e') && (a == a')) w := by
  rw [run_equalIn_struct w (n + 1) _ _ _ (by kernel_rfl) (by kernel_rfl)]
  obtain ⟨f0, r0, e0, a0, b0, c0, h0⟩ := unmap fieldsT
  obtain ⟨f1, r1, e1, a1, b1, c1, h1⟩ := unmap h0
  obtain rfl := unmap0 h1
  rw [e0, e1]
  have := eqF (d := n + 1) (xs := (flt e a).toArray) (ys := (flt e' a').toArray) (w := w) (f := f0) (fs := [f1]) (a := .int .i64 e) (b := .int .i64 e') (r := e == e') (s := (a == a') && true) (by rw [a0]; decide) (by rw [b0, c0]; kernel_rfl) (by rw [b0, c0]; kernel_rfl) (by rw [b0]; exact run_equalIn_int w n _ .i64 .i64 _ _ Try.underlying24)
    (eqF (a := .int .i64 a) (b := .int .i64 a') (by rw [a1]; decide) (by rw [b1, c1]; kernel_rfl) (by rw [b1, c1]; kernel_rfl) (by rw [b1]; exact run_equalIn_int w n _ .i64 .i64 _ _ Try.underlying3) (s := true) (by simp [Op.eqFields]))
  rw [Bool.and_true] at this
  exact this
theorem eqlT (e a e' a' : Int) (w : World) : (binOp .eql 38 (.agg (flt e a).toArray) (.agg (flt e' a').toArray)).run Try.prog w = .ok (.bool ((e == e') && (a == a'))) w := by
  have h2 : Sem.run Try.prog (Op.equal 38 (.agg (flt e a).toArray) (.agg (flt e' a').toArray)) w = .ok ((e == e') && (a == a')) w := eqT 9998 e a e' a' w
  simp [binOp, h2]
set_option maxHeartbeats 2000000 in
theorem back_bad (f : FL) (hc : f.chk ≠ 0) (w : World) : Calls Try.prog 6 #[f.v] w fun r w' => r = .returned (.bool true) ∧ Below w.heap.size w w' := by
  have hB := fun w => bytes_bad f hc w
  have hC := fun w => check_is f w
  have A : (f.chk != 0) = true := by simpa using hc
  generalize f.chk = y at hB hC A
  clear hc
  unfold FL.v at hB hC ⊢
  go_enter Try.func6, Try.ntmps6
  go_wp2_with (first
    | (refine at_box rfl 36 _ rfl (FL.cs f) rfl ?_; rintro w1 H1 k1 s1)
    | (go_at_call 15; refine (lives_is w1).mono ?_; rintro e w2 ⟨rfl, k2⟩; have b2 := k1.trans (k2.mono k1.size); have H2 := H1.below k2 H1.lt; clear k1 k2 H1)
    | (refine at_mid rfl 36 _ rfl w.heap.size 0 rfl H2 (FL.cs f) rfl _ Try.underlying36 rfl szF ?_)
    | (go_at_call 16; refine (hB w2).mono ?_; rintro e w3 ⟨rfl, k3⟩; have b3 := b2.trans (k3.mono b2.size); have H3 := H2.below k3 H2.lt; clear k3 b2 H2 hB)
    | (refine at_mid rfl 36 _ rfl w.heap.size 0 rfl H3 (FL.cs f) rfl _ Try.underlying36 rfl szF ?_)
    | (go_at_call 19; refine (hC w3).mono ?_; rintro e w4 ⟨rfl, k4⟩; have b4 := b3.trans (k4.mono b3.size); clear k4 b3 H3 hC))
  go_ret
  exact ⟨rfl, b4⟩
set_option maxHeartbeats 2000000 in
theorem back_ok (f : FL) (hf : f.Ok) (hc : f.chk = 0) (w : World) : Calls Try.prog 6 #[f.v] w fun r w' => r = .returned (.bool true) ∧ Below w.heap.size w w' := by
  have hB := fun w => bytes_ok f hf hc w
  have hC := fun w => check_is f w
  have hR := fun v w h => read_enc hf hc v w h
  have hE := fun w => eqlF f f w
  rw [hc] at hC
  rw [eqb_refl] at hE
  clear hc hf
  generalize f.enc = xs at hB hR
  unfold FL.v at hB hC hR hE ⊢
  go_enter Try.func6, Try.ntmps6
  go_wp2_with (first
    | (refine at_box rfl 36 _ rfl (FL.cs f) rfl ?_; rintro w1 H1 k1 s1)
    | (go_at_call 15; refine (lives_is w1).mono ?_; rintro e w2 ⟨rfl, k2⟩; have b2 := k1.trans (k2.mono k1.size); have H2 := H1.below k2 H1.lt; clear k1 k2 H1)
    | (refine at_mid rfl 36 _ rfl w.heap.size 0 rfl H2 (FL.cs f) rfl _ Try.underlying36 rfl szF ?_)
    | (go_at_call 16; refine (hB w2).mono ?_; rintro e w3 ⟨v, rfl, d3, k3⟩; have b3 := b2.trans (k3.mono b2.size); have H3 := H2.below k3 H2.lt; obtain ⟨va, vc, rfl⟩ := d3.dat.shape; clear k3 b2 H2 hB)
    | (refine at_mid rfl 36 _ rfl w.heap.size 0 rfl H3 (FL.cs f) rfl _ Try.underlying36 rfl szF ?_)
    | (go_at_call 19; refine (hC w3).mono ?_; rintro e w4 ⟨rfl, k4⟩; have b4 := b3.trans (k4.mono b3.size); have H4 := H3.below k4 H3.lt; have d4 := d3.below k4; clear k4 b3 H3 d3 hC))
  go_at_call 17
  refine (hR _ w4 d4.dat.seg).mono ?_
  rintro e w5 ⟨rfl, k5⟩
  have b5 := b4.trans (k5.mono b4.size)
  have H5 := H4.below k5 H4.lt
  have l5 := H5.lt
  clear k5 b4 H4 d4 hR
  go_wp2_with (first
    | (refine at_new rfl 36 F0.cs rfl run_newFr ?_; rintro w6 X6 k6 s6; have b6 := b5.trans (k6.mono b5.size); have H6 := H5.below k6 l5; clear k6 b5 H5)
    | (refine at_new rfl 38 FZ rfl run_newFt ?_; rintro w7 Y7 k7 s7; rw [s6] at Y7; have X7 := X6.below k7 X6.lt; have H7 := H6.below k7 H6.lt; have FB := b6.size; have b7 := b6.trans (k7.mono b6.size); clear k7 b6 H6 X6 s7; try go_simp)
    | (refine at_put rfl 36 _ _ rfl rfl w5.heap.size rfl (FL.cs f) rfl X7 rfl szF (cs_one _) ?_; rintro w8 g8; have X8 := g8.blk; have Y8 := g8.but.blk Y7 Y7.lt (show w5.heap.size + 1 ≠ w5.heap.size by omega); have H8 := g8.but.blk H7 H7.lt (show w.heap.size ≠ w5.heap.size by omega); have b8 := g8.below b7 (show w.heap.size ≤ w5.heap.size by omega); clear g8 X7 Y7 H7 b7)
    | (refine at_put rfl 38 _ _ rfl rfl (w5.heap.size + 1) rfl (flt 0 0) rfl Y8 rfl szFt (flt_one _ _) ?_; rintro w9 g9; have Y9 := g9.blk; have X9 := g9.but.blk X8 X8.lt (show w5.heap.size ≠ w5.heap.size + 1 by omega); have H9 := g9.but.blk H8 H8.lt (show w.heap.size ≠ w5.heap.size + 1 by omega); have b9 := g9.below b8 (show w.heap.size ≤ w5.heap.size + 1 by omega); clear g9 X8 Y8 H8 b8)
    | (refine at_mid rfl 38 _ rfl (w5.heap.size + 1) 0 rfl Y9 (flt 0 0) rfl _ Try.underlying38 rfl szFt ?_)
    | (refine at_bld rfl 38 _ rfl (flt 0 0) (by kernel_rfl) ?_)
    | (refine at_cmp (by kernel_rfl) .eql 38 _ _ rfl (.agg (flt 0 0).toArray) (.agg (flt 0 0).toArray) rfl rfl true (by kernel_rfl) (eqlT 0 0 0 0 _) ?_)
    | (refine at_mid (by kernel_rfl) 36 _ rfl w.heap.size 0 rfl H9 (FL.cs f) rfl _ Try.underlying36 rfl szF ?_)
    | (refine at_mid (by kernel_rfl) 36 _ rfl w5.heap.size 0 rfl X9 (FL.cs f) rfl _ Try.underlying36 rfl szF ?_)
    | (refine at_cmp (by kernel_rfl) .eql 36 _ _ rfl (.agg f.cs.toArray) (.agg f.cs.toArray) rfl rfl true (by kernel_rfl) (hE _) ?_))
  go_ret
  exact ⟨rfl, b9⟩
theorem back_is (f : FL) (hf : f.Ok) (w : World) : Calls Try.prog 6 #[f.v] w fun r w' => r = .returned (.bool true) ∧ Below w.heap.size w w' := by
  by_cases hc : f.chk = 0
  · exact back_ok f hf hc w
  · exact back_bad f hc w
end Go.Proofs.Ytgpjelcihmbiiaa
