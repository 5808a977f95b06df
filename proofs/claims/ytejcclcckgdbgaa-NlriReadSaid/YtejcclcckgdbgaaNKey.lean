/- Key: the fields that identify a route. No condition. -/
import Derived.Test.YtejcclcckgdbgaaNO
namespace Go.Proofs.Ytejcclcckgdbgaa
open Go.RowKit Go.Sort
set_option linter.unusedVariables false
set_option linter.unusedSimpArgs false
set_option maxRecDepth 100000

/-- The key. -/
def NL.key (n : NL) : NL := { n with l := 0, l2 := 0, g := if n.k = 5 then 0 else n.g, e := if n.k = 5 ∨ n.k = 2 then fun _ => 0 else n.e }
theorem u32_one : (Try.prog.info? 29).map (·.size) = some 1 := by kernel_rfl
theorem ip_one : (Try.prog.info? 32).map (·.size) = some 1 := by kernel_rfl
theorem Wrote.next {b : Nat} {w0 w w' : World} {n : NL} (h : Wrote b w w' n) (k : Below w0.heap.size w0 w) (hb : w0.heap.size ≤ b) : Below w0.heap.size w0 w' := But.below k h.but hb k.size
theorem Wrote.other {b c : Nat} {w w' : World} {n m : NL} (h : Wrote b w w' n) (k : Bx w c m) (hc : c ≠ b) : Bx w' c m := h.but.blk k k.lt hc
set_option maxHeartbeats 2000000 in
theorem key_5 (n : NL) (w : World) (A : (n.k == 5) = true) : Calls Try.prog 19 #[n.v] w fun r w' => r = .returned n.key.v ∧ Below w.heap.size w w' := by
  unfold NL.v
  go_enter Try.func19, Try.ntmps19
  go_wp2_with (first
    | (refine at_box rfl _ rfl n rfl ?_; rintro w1 ⟨x1, k1, s1⟩)
    | (refine at_new rfl rfl ?_; rintro w2 ⟨z2, k2, s2⟩; rw [s1] at z2; have x2 := x1.below k2 x1.lt; have b2 := k1.trans (k2.mono k1.size); have hne : w.heap.size + 1 ≠ w.heap.size := by omega
       clear x1 k1 k2)
    | (refine at_set rfl 29 _ _ rfl rfl w.heap.size 19 rfl n { n with l := 0 } (.int .u32 0) rfl x2 rfl rfl rfl u32_one (by decide) ?_; rintro w3 g3; have x3 := g3.bx; have z3 := g3.other z2 hne; have b3 := g3.next b2 (Nat.le_refl _); clear g3 x2 z2 b2)
    | (refine at_set rfl 29 _ _ rfl rfl w.heap.size 20 rfl _ { n with l := 0, l2 := 0 } (.int .u32 0) rfl x3 rfl rfl rfl u32_one (by decide) ?_; rintro w4 g4; have x4 := g4.bx; have z4 := g4.other z3 hne; have b4 := g4.next b3 (Nat.le_refl _); have c4 := Blk.cell x4 0 (v := .int .i64 n.k) rfl; clear g4 x3 z3 b3)
    | (refine at_set rfl 32 _ _ rfl rfl w.heap.size 18 rfl _ { n with l := 0, l2 := 0, g := 0 } (.int .u32 0) rfl x4 rfl rfl rfl ip_one (by decide) ?_; rintro w5 g5; have x5 := g5.bx; have z5 := g5.other z4 hne; have b5 := g5.next b4 (Nat.le_refl _); clear g5 x4 z4 b4 c4)
    | (refine at_setEsi rfl _ _ rfl rfl w.heap.size rfl _ (fun _ => 0) rfl x5 ?_; rintro w6 g6; have x6 := g6.bx; have z6 := g6.other z5 hne; have b6 := g6.next b5 (Nat.le_refl _))
    | (refine at_load rfl _ rfl w.heap.size rfl { n with l := 0, l2 := 0, g := 0, e := fun _ => 0 } x6 ?_)
    | (refine at_store rfl _ _ rfl rfl (w.heap.size + 1) rfl NL.zero { n with l := 0, l2 := 0, g := 0, e := fun _ => 0 } rfl z6 ?_; rintro w7 g7; have x7 := g7.bx; have b7 := g7.next b6 (by omega); clear g7))
  refine bodyPost_ret (results_cell_row (by rfl) _ _ (w.heap.size + 1) _ _ _ _ rfl x7 Try.underlying36 rfl (NL.size _)) rfl ⟨?_, b7⟩
  have hk : n.k = 5 := by simpa using A
  simp [NL.key, hk, NL.v]
set_option maxHeartbeats 2000000 in
theorem key_2 (n : NL) (w : World) (A : (n.k == 5) = false) (B : (n.k == 2) = true) : Calls Try.prog 19 #[n.v] w fun r w' => r = .returned n.key.v ∧ Below w.heap.size w w' := by
  unfold NL.v
  go_enter Try.func19, Try.ntmps19
  go_wp2_with (first
    | (refine at_box rfl _ rfl n rfl ?_; rintro w1 ⟨x1, k1, s1⟩)
    | (refine at_new rfl rfl ?_; rintro w2 ⟨z2, k2, s2⟩; rw [s1] at z2; have x2 := x1.below k2 x1.lt; have b2 := k1.trans (k2.mono k1.size); have hne : w.heap.size + 1 ≠ w.heap.size := by omega
       clear x1 k1 k2)
    | (refine at_set rfl 29 _ _ rfl rfl w.heap.size 19 rfl n { n with l := 0 } (.int .u32 0) rfl x2 rfl rfl rfl u32_one (by decide) ?_; rintro w3 g3; have x3 := g3.bx; have z3 := g3.other z2 hne; have b3 := g3.next b2 (Nat.le_refl _); clear g3 x2 z2 b2)
    | (refine at_set rfl 29 _ _ rfl rfl w.heap.size 20 rfl _ { n with l := 0, l2 := 0 } (.int .u32 0) rfl x3 rfl rfl rfl u32_one (by decide) ?_; rintro w4 g4; have x4 := g4.bx; have z4 := g4.other z3 hne; have b4 := g4.next b3 (Nat.le_refl _); have c4 := Blk.cell x4 0 (v := .int .i64 n.k) rfl; clear g4 x3 z3 b3)
    | (refine at_setEsi rfl _ _ rfl rfl w.heap.size rfl _ (fun _ => 0) rfl x4 ?_; rintro w6 g6; have x6 := g6.bx; have z6 := g6.other z4 hne; have b6 := g6.next b4 (Nat.le_refl _))
    | (refine at_load rfl _ rfl w.heap.size rfl { n with l := 0, l2 := 0, e := fun _ => 0 } x6 ?_)
    | (refine at_store rfl _ _ rfl rfl (w.heap.size + 1) rfl NL.zero { n with l := 0, l2 := 0, e := fun _ => 0 } rfl z6 ?_; rintro w7 g7; have x7 := g7.bx; have b7 := g7.next b6 (by omega); clear g7))
  refine bodyPost_ret (results_cell_row (by rfl) _ _ (w.heap.size + 1) _ _ _ _ rfl x7 Try.underlying36 rfl (NL.size _)) rfl ⟨?_, b7⟩
  have hk : n.k = 2 := by simpa using B
  simp [NL.key, hk, NL.v]
set_option maxHeartbeats 2000000 in
theorem key_0 (n : NL) (w : World) (A : (n.k == 5) = false) (B : (n.k == 2) = false) : Calls Try.prog 19 #[n.v] w fun r w' => r = .returned n.key.v ∧ Below w.heap.size w w' := by
  unfold NL.v
  go_enter Try.func19, Try.ntmps19
  go_wp2_with (first
    | (refine at_box rfl _ rfl n rfl ?_; rintro w1 ⟨x1, k1, s1⟩)
    | (refine at_new rfl rfl ?_; rintro w2 ⟨z2, k2, s2⟩; rw [s1] at z2; have x2 := x1.below k2 x1.lt; have b2 := k1.trans (k2.mono k1.size); have hne : w.heap.size + 1 ≠ w.heap.size := by omega
       clear x1 k1 k2)
    | (refine at_set rfl 29 _ _ rfl rfl w.heap.size 19 rfl n { n with l := 0 } (.int .u32 0) rfl x2 rfl rfl rfl u32_one (by decide) ?_; rintro w3 g3; have x3 := g3.bx; have z3 := g3.other z2 hne; have b3 := g3.next b2 (Nat.le_refl _); clear g3 x2 z2 b2)
    | (refine at_set rfl 29 _ _ rfl rfl w.heap.size 20 rfl _ { n with l := 0, l2 := 0 } (.int .u32 0) rfl x3 rfl rfl rfl u32_one (by decide) ?_; rintro w4 g4; have x4 := g4.bx; have z4 := g4.other z3 hne; have b4 := g4.next b3 (Nat.le_refl _); have c4 := Blk.cell x4 0 (v := .int .i64 n.k) rfl; clear g4 x3 z3 b3)
    | (refine at_load rfl _ rfl w.heap.size rfl { n with l := 0, l2 := 0 } x4 ?_)
    | (refine at_store rfl _ _ rfl rfl (w.heap.size + 1) rfl NL.zero { n with l := 0, l2 := 0 } rfl z4 ?_; rintro w7 g7; have x7 := g7.bx; have b7 := g7.next b4 (by omega); clear g7))
  refine bodyPost_ret (results_cell_row (by rfl) _ _ (w.heap.size + 1) _ _ _ _ rfl x7 Try.underlying36 rfl (NL.size _)) rfl ⟨?_, b7⟩
  have hk : n.k ≠ 5 := by simpa using A
  have hk2 : n.k ≠ 2 := by simpa using B
  simp [NL.key, hk, hk2, NL.v]
theorem key_is (n : NL) (w : World) : Calls Try.prog 19 #[n.v] w fun r w' => r = .returned n.key.v ∧ Below w.heap.size w w' := by
  cases A : (n.k == 5)
  · cases B : (n.k == 2)
    · exact key_0 n w A B
    · exact key_2 n w A B
  · exact key_5 n w A
end Go.Proofs.Ytejcclcckgdbgaa
