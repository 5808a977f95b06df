/- PacketRead: the law's walk. No condition. -/
import Derived.Test.YtgpjelcihmbiiaaPZg
namespace Go.Proofs.Ytgpjelcihmbiiaa
open Go.RowKit
set_option linter.unusedVariables false
set_option linter.unusedSimpArgs false
set_option maxRecDepth 100000

set_option maxHeartbeats 2000000 in
theorem pread_is (xs : List Int) (ho : Oct xs) (v : Value) (w : World) (hv : Seg w v xs) : Calls Try.prog 5 #[v] w fun r w' => r = .returned (.bool true) ∧ Below w.heap.size w w' := by
  obtain ⟨va, vc, rfl, -⟩ := id hv
  by_cases hl : 300 < xs.length
  · have hl' : (300 : Int) < xs.length := by omega
    clear hv
    go_enter Try.func5, Try.ntmps5
    go_wp2_with (go_at_call 15; refine (lives_is w).mono ?_; rintro e w2 ⟨rfl, b2⟩)
    go_ret
    exact ⟨rfl, b2⟩
  have hl' : ¬ (300 : Int) < xs.length := by omega
  have hR := fun v w h => read_is xs ho (by omega) v w h
  have hQ := fun v w h => rread_is xs ho (by omega) v w h
  have hE := fun w => eqlF (rdF xs) (rdF xs) w
  have hT : ∀ w, (binOp .eql 38 (.agg (flt (rdX xs) (rdA xs)).toArray) (.agg (flt (rdX xs) (rdA xs)).toArray)).run Try.prog w = .ok (.bool true) w := fun w => by simpa using eqlT (rdX xs) (rdA xs) (rdX xs) (rdA xs) w
  rw [eqb_refl] at hE
  have HL := Lib.hid hl
  have HV := Lib.hid hv
  unfold Reads FL.v at hR hQ
  unfold FL.v at hE
  generalize rdF xs = F at *
  generalize rdX xs = e at *
  generalize rdA xs = a at *
  clear hl hv
  go_enter Try.func5, Try.ntmps5
  go_wp2_with (go_at_call 15; refine (lives_is w).mono ?_; rintro e w2 ⟨rfl, b2⟩)
  go_at_call 18
  refine (own_is w2 _ xs (HV.out.below b2) (by have := HL.out; omega)).mono ?_
  rintro e w3 ⟨ov, rfl, d3, k3⟩
  have b3 := b2.trans (k3.mono b2.size)
  clear k3 b2
  obtain ⟨oa, oc, rfl⟩ := d3.dat.shape
  go_wp2_with fail
  go_at_call 17
  refine (hR _ w3 d3.dat.seg).mono ?_
  rintro e w4 ⟨rfl, k4⟩
  have b4 := b3.trans (k4.mono b3.size)
  clear k4 b3 d3 hR
  go_wp2_with (first
    | (refine at_new rfl 36 F0.cs rfl run_newFr ?_; rintro w5 X5 k5 s5; have FB4 := b4.size; have b5 := b4.trans (k5.mono b4.size); clear k5 b4; try go_simp)
    | (refine at_new rfl 38 FZ rfl run_newFt ?_; rintro w6 Y6 k6 s6; rw [s5] at Y6; have X6 := X5.below k6 X5.lt; have b6 := b5.trans (k6.mono b5.size); have S6 := Lib.hid s6; clear k6 b5 X5 s6; try go_simp)
    | (refine at_put rfl 36 _ _ rfl rfl w4.heap.size rfl (FL.cs F) rfl X6 rfl szF (cs_one _) ?_; rintro w7 g7; have X7 := g7.blk; have Y7 := g7.but.blk Y6 Y6.lt (show w4.heap.size + 1 ≠ w4.heap.size by omega); have b7 := g7.below b6 (show w.heap.size ≤ w4.heap.size by omega); clear g7 X6 Y6 b6)
    | (refine at_put rfl 38 _ _ rfl rfl (w4.heap.size + 1) rfl (flt e a) rfl Y7 rfl szFt (flt_one _ _) ?_; rintro w8 g8; have Y8 := g8.blk; have X8 := g8.but.blk X7 X7.lt (show w4.heap.size ≠ w4.heap.size + 1 by omega); have b8 := g8.below b7 (show w.heap.size ≤ w4.heap.size + 1 by omega); clear g8 X7 Y7 b7))
  go_at_call 26
  refine (hQ _ w8 (HV.out.below b8)).mono ?_
  rintro e w9 ⟨rfl, k9⟩
  have b9 := b8.trans (k9.mono b8.size)
  have X9 := X8.below k9 X8.lt
  have Y9 := Y8.below k9 Y8.lt
  have lX := X9.lt
  have lY := Y9.lt
  clear k9 b8 hQ X8 Y8
  go_wp2_with (first
    | (refine at_new rfl 36 F0.cs rfl run_newFr ?_; rintro w10 Z10 k10 s10; have FB9 := b9.size; have b10 := b9.trans (k10.mono b9.size); have X10 := X9.below k10 lX; have Y10 := Y9.below k10 lY; clear k10 b9 X9 Y9; try go_simp)
    | (refine at_new rfl 38 FZ rfl run_newFt ?_; rintro w11 V11 k11 s11; rw [s10] at V11; have Z11 := Z10.below k11 Z10.lt; have X11 := X10.below k11 X10.lt; have Y11 := Y10.below k11 Y10.lt; have b11 := b10.trans (k11.mono b10.size); have S11 := Lib.hid s11; clear k11 b10 X10 Y10 Z10 s11; try go_simp)
    | (refine at_put rfl 36 _ _ rfl rfl w9.heap.size rfl (FL.cs F) rfl Z11 rfl szF (cs_one _) ?_; rintro w12 g12; have Z12 := g12.blk; have V12 := g12.but.blk V11 V11.lt (show w9.heap.size + 1 ≠ w9.heap.size by omega); have X12 := g12.but.blk X11 X11.lt (show w4.heap.size ≠ w9.heap.size by omega); have Y12 := g12.but.blk Y11 Y11.lt (show w4.heap.size + 1 ≠ w9.heap.size by omega); have b12 := g12.below b11 (show w.heap.size ≤ w9.heap.size by omega); clear g12 X11 Y11 Z11 V11 b11)
    | (refine at_put rfl 38 _ _ rfl rfl (w9.heap.size + 1) rfl (flt e a) rfl V12 rfl szFt (flt_one _ _) ?_; rintro w13 g13; have V13 := g13.blk; have Z13 := g13.but.blk Z12 Z12.lt (show w9.heap.size ≠ w9.heap.size + 1 by omega); have X13 := g13.but.blk X12 X12.lt (show w4.heap.size ≠ w9.heap.size + 1 by omega); have Y13 := g13.but.blk Y12 Y12.lt (show w4.heap.size + 1 ≠ w9.heap.size + 1 by omega); have b13 := g13.below b12 (show w.heap.size ≤ w9.heap.size + 1 by omega); clear g13 X12 Y12 Z12 V12 b12)
    | (refine at_mid (by kernel_rfl) 36 _ rfl w4.heap.size 0 rfl X13 (FL.cs F) rfl _ Try.underlying36 rfl szF ?_)
    | (refine at_mid (by kernel_rfl) 36 _ rfl w9.heap.size 0 rfl Z13 (FL.cs F) rfl _ Try.underlying36 rfl szF ?_)
    | (refine at_mid (by kernel_rfl) 38 _ rfl (w4.heap.size + 1) 0 rfl Y13 (flt e a) rfl _ Try.underlying38 rfl szFt ?_)
    | (refine at_mid (by kernel_rfl) 38 _ rfl (w9.heap.size + 1) 0 rfl V13 (flt e a) rfl _ Try.underlying38 rfl szFt ?_)
    | (refine at_cmp (by kernel_rfl) .eql 38 _ _ rfl (.agg (flt e a).toArray) (.agg (flt e a).toArray) rfl rfl true (by kernel_rfl) (hT _) ?_)
    | (refine at_cmp (by kernel_rfl) .eql 36 _ _ rfl (.agg F.cs.toArray) (.agg F.cs.toArray) rfl rfl true (by kernel_rfl) (hE _) ?_))
  go_ret
  exact ⟨rfl, b13⟩
end Go.Proofs.Ytgpjelcihmbiiaa
