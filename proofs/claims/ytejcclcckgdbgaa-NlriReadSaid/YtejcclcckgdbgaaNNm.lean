/- What each layout makes of a route: the fields that its kind uses. No condition. -/
import Derived.Test.YtejcclcckgdbgaaNKey
namespace Go.Proofs.Ytejcclcckgdbgaa
open Go.RowKit Go.Sort
set_option linter.unusedVariables false
set_option linter.unusedSimpArgs false
set_option maxRecDepth 100000

def NL.auto (n : NL) : NL := ⟨n.k, n.rd, n.e, n.t, 0, 0, false, 0, 0, 0, n.l, 0⟩
def NL.flood (n : NL) : NL := ⟨n.k, n.rd, fun _ => 0, n.t, 0, n.ip, true, 0, 0, 0, 0, 0⟩
def NL.segment (n : NL) : NL := ⟨n.k, n.rd, n.e, 0, 0, n.ip, true, 0, 0, 0, 0, 0⟩
def NL.mac (n : NL) : NL := { n with pi := 0, pn := 0, g := 0, ip := if n.h then n.ip else 0 }
def NL.prefix_ (n : NL) : NL := { n with m := 0, ip := 0, h := false, l2 := 0 }
theorem int_one : (Try.prog.info? 3).map (·.size) = some 1 := by kernel_rfl
theorem mac_one : (Try.prog.info? 28).map (·.size) = some 1 := by kernel_rfl
theorem bool_one : (Try.prog.info? 4).map (·.size) = some 1 := by kernel_rfl
theorem run_box0 (w : World) (ty : TypeId) : (Instr.box ty (.agg #[])).run Try.prog w = .ok (.pointer (some ⟨w.heap.size, 0, none⟩)) (w.alloc (.cells #[] ty)) := rfl
theorem at_box0 {ops : Array Oper} {rest : List Oper} {o : Oper} {a : Act} {w : World} {Q : Exit → Act → World → Prop} (hgd : o.guard = none) (ty : TypeId) (x : Operand) (ho : o.op = .box ty x) (hx : a.eval x = .agg #[])
    (h : ∀ w', Below w.heap.size w w' → w'.heap.size = w.heap.size + 1 → wpList Try.prog ops Q rest (a.put o.dst (.pointer (some ⟨w.heap.size, 0, none⟩))) w') : wpList Try.prog ops Q (o :: rest) a w :=
  wpList_plain hgd fun _ hK => by
    unfold Oper.wp execOp
    simp only [ho, hx, Sem.run_bind, run_box0, Result.andThen_ok, Sem.run_pure]
    exact hK _ _ (h _ ((Below.refl _ _).alloc (Nat.le_refl _) _) (by simp))
theorem at_build {ops : Array Oper} {rest : List Oper} {o : Oper} {a : Act} {w : World} {Q : Exit → Act → World → Prop} (hgd : o.guard = none) (parts : Array (Nat × Operand)) (ho : o.op = .build 36 parts) (n : NL)
    (hb : Try.prog.built 36 (parts.map fun (i, x) => (i, a.eval x)).toList = some n.cs.toArray) (h : wpList Try.prog ops Q rest (a.put o.dst (.agg n.cs.toArray)) w) : wpList Try.prog ops Q (o :: rest) a w :=
  wpList_build hgd _ parts ho (by rw [hb]; rfl) (by rw [hb]; exact h)
/-- The prefix of a route. -/
theorem at_setPrefix {ops : Array Oper} {rest : List Oper} {o : Oper} {a : Act} {w : World} {Q : Exit → Act → World → Prop} (hgd : o.guard = none) (x y : Operand) (ho : o.op = .store 34 x y) (hd : o.dst = none) (b : Nat) (hx : a.eval x = .pointer (some ⟨b, 16, none⟩)) (n : NL) (p q : Int) (hy : a.eval y = .agg #[.int .u32 p, .int .i64 q]) (hb : Bx w b n)
    (h : ∀ w', Wrote b w w' { n with pi := p, pn := q } → wpList Try.prog ops Q rest a w') : wpList Try.prog ops Q (o :: rest) a w :=
  wpList_store_mid hgd 34 x y ho b 16 #[.int .u32 p, .int .i64 q] hx hy (Blk.there hb 16 2 (by rw [NL.cs_length]; decide)) (by
      have : (Try.prog.info? 34).map (·.size) = some 2 := by kernel_rfl
      exact this) (by simp [Value.oneCell'])
    (by rw [hd]; exact h _ ⟨Blk.setCells (w := w) [.int .u32 p, .int .i64 q] 16 hb, But.setCells _ 16 (But.refl _ b w), size_setCells _ 16 w⟩)
set_option maxHeartbeats 2000000 in
theorem auto_is (n : NL) (w : World) : Calls Try.prog 102 #[.agg #[], n.v] w fun r w' => r = .returned n.auto.v ∧ Below w.heap.size w w' := by
  unfold NL.v
  go_enter Try.func102, Try.ntmps102
  go_wp2_with (first
    | (refine at_box0 rfl 93 _ rfl rfl ?_; rintro w1 k1 s1)
    | (refine at_box rfl _ rfl n rfl ?_; rintro w2 ⟨x2, k2, s2⟩; rw [s1] at x2 s2; have b2 := k1.trans (k2.mono k1.size); clear k1 k2)
    | (refine at_new rfl rfl ?_; rintro w3 ⟨z3, k3, s3⟩; rw [s2] at z3; have x3 := x2.below k3 x2.lt; have b3 := b2.trans (k3.mono b2.size); have c0 := Blk.cell x3 0 (v := .int .i64 n.k) rfl; have c1 := Blk.cell x3 1 (v := .int .u64 n.rd) rfl; have c12 := Blk.cell x3 12 (v := .int .u32 n.t) rfl; have c19 := Blk.cell x3 19 (v := .int .u32 n.l) rfl; clear x2 k3 b2)
    | (refine at_esi rfl _ rfl (w.heap.size + 1) rfl n x3 ?_)
    | (refine at_build rfl _ rfl n.auto (by kernel_rfl) ?_)
    | (refine at_store rfl _ _ rfl rfl (w.heap.size + 1 + 1) rfl NL.zero n.auto rfl z3 ?_; rintro w4 g4; have x4 := g4.bx; have b4 := g4.next b3 (by omega); clear g4))
  exact bodyPost_ret (results_cell_row (by rfl) _ _ (w.heap.size + 1 + 1) _ _ _ _ rfl x4 Try.underlying36 rfl (NL.size _)) rfl ⟨rfl, b4⟩
set_option maxHeartbeats 2000000 in
theorem flood_is (n : NL) (w : World) : Calls Try.prog 126 #[.agg #[], n.v] w fun r w' => r = .returned n.flood.v ∧ Below w.heap.size w w' := by
  unfold NL.v
  go_enter Try.func126, Try.ntmps126
  go_wp2_with (first
    | (refine at_box0 rfl 95 _ rfl rfl ?_; rintro w1 k1 s1)
    | (refine at_box rfl _ rfl n rfl ?_; rintro w2 ⟨x2, k2, s2⟩; rw [s1] at x2 s2; have b2 := k1.trans (k2.mono k1.size); clear k1 k2)
    | (refine at_new rfl rfl ?_; rintro w3 ⟨z3, k3, s3⟩; rw [s2] at z3; have x3 := x2.below k3 x2.lt; have b3 := b2.trans (k3.mono b2.size); have c0 := Blk.cell x3 0 (v := .int .i64 n.k) rfl; have c1 := Blk.cell x3 1 (v := .int .u64 n.rd) rfl; have c12 := Blk.cell x3 12 (v := .int .u32 n.t) rfl; have c14 := Blk.cell x3 14 (v := .int .u32 n.ip) rfl; clear x2 k3 b2)
    | (refine at_build rfl _ rfl n.flood (by kernel_rfl) ?_)
    | (refine at_store rfl _ _ rfl rfl (w.heap.size + 1 + 1) rfl NL.zero n.flood rfl z3 ?_; rintro w4 g4; have x4 := g4.bx; have b4 := g4.next b3 (by omega); clear g4))
  exact bodyPost_ret (results_cell_row (by rfl) _ _ (w.heap.size + 1 + 1) _ _ _ _ rfl x4 Try.underlying36 rfl (NL.size _)) rfl ⟨rfl, b4⟩
set_option maxHeartbeats 2000000 in
theorem segment_is (n : NL) (w : World) : Calls Try.prog 129 #[.agg #[], n.v] w fun r w' => r = .returned n.segment.v ∧ Below w.heap.size w w' := by
  unfold NL.v
  go_enter Try.func129, Try.ntmps129
  go_wp2_with (first
    | (refine at_box0 rfl 96 _ rfl rfl ?_; rintro w1 k1 s1)
    | (refine at_box rfl _ rfl n rfl ?_; rintro w2 ⟨x2, k2, s2⟩; rw [s1] at x2 s2; have b2 := k1.trans (k2.mono k1.size); clear k1 k2)
    | (refine at_new rfl rfl ?_; rintro w3 ⟨z3, k3, s3⟩; rw [s2] at z3; have x3 := x2.below k3 x2.lt; have b3 := b2.trans (k3.mono b2.size); have c0 := Blk.cell x3 0 (v := .int .i64 n.k) rfl; have c1 := Blk.cell x3 1 (v := .int .u64 n.rd) rfl; have c14 := Blk.cell x3 14 (v := .int .u32 n.ip) rfl; clear x2 k3 b2)
    | (refine at_esi rfl _ rfl (w.heap.size + 1) rfl n x3 ?_)
    | (refine at_build rfl _ rfl n.segment (by kernel_rfl) ?_)
    | (refine at_store rfl _ _ rfl rfl (w.heap.size + 1 + 1) rfl NL.zero n.segment rfl z3 ?_; rintro w4 g4; have x4 := g4.bx; have b4 := g4.next b3 (by omega); clear g4))
  exact bodyPost_ret (results_cell_row (by rfl) _ _ (w.heap.size + 1 + 1) _ _ _ _ rfl x4 Try.underlying36 rfl (NL.size _)) rfl ⟨rfl, b4⟩
set_option maxHeartbeats 2000000 in
theorem mac_t (n : NL) (A : n.h = true) (w : World) : Calls Try.prog 119 #[.agg #[], n.v] w fun r w' => r = .returned n.mac.v ∧ Below w.heap.size w w' := by
  have hv : n.mac = { n with pi := 0, pn := 0, g := 0 } := by simp [NL.mac, A]
  rw [hv]
  clear hv
  unfold NL.v
  go_enter Try.func119, Try.ntmps119
  go_wp2_with (first
    | (refine at_box0 rfl 94 _ rfl rfl ?_; rintro w1 k1 s1)
    | (refine at_box rfl _ rfl n rfl ?_; rintro w2 ⟨x2, k2, s2⟩; rw [s1] at x2 s2; have b2 := k1.trans (k2.mono k1.size); clear k1 k2)
    | (refine at_new rfl rfl ?_; rintro w3 ⟨z3, k3, s3⟩; rw [s2] at z3; have x3 := x2.below k3 x2.lt; have b3 := b2.trans (k3.mono b2.size); have hne : w.heap.size + 1 + 1 ≠ w.heap.size + 1 := by omega
       clear x2 k3 b2)
    | (refine at_setPrefix rfl _ _ rfl rfl (w.heap.size + 1) rfl n 0 0 rfl x3 ?_; rintro w4 g4; have x4 := g4.bx; have z4 := g4.other z3 hne; have b4 := g4.next b3 (by omega); clear g4 x3 z3 b3)
    | (refine at_set rfl 32 _ _ rfl rfl (w.heap.size + 1) 18 rfl _ { n with pi := 0, pn := 0, g := 0 } (.int .u32 0) rfl x4 rfl rfl rfl ip_one (by decide) ?_; rintro w5 g5; have x5 := g5.bx; have z5 := g5.other z4 hne; have b5 := g5.next b4 (by omega); have c15 := Blk.cell x5 15 (v := .bool n.h) rfl; rw [A] at c15; clear g5 x4 z4 b4)
    | (refine at_load rfl _ rfl (w.heap.size + 1) rfl { n with pi := 0, pn := 0, g := 0 } x5 ?_)
    | (refine at_store rfl _ _ rfl rfl (w.heap.size + 1 + 1) rfl NL.zero { n with pi := 0, pn := 0, g := 0 } rfl z5 ?_; rintro w7 g7; have x7 := g7.bx; have b7 := g7.next b5 (by omega); clear g7))
  exact bodyPost_ret (results_cell_row (by rfl) _ _ (w.heap.size + 1 + 1) _ _ _ _ rfl x7 Try.underlying36 rfl (NL.size _)) rfl ⟨rfl, b7⟩
set_option maxHeartbeats 2000000 in
theorem mac_f (n : NL) (A : n.h = false) (w : World) : Calls Try.prog 119 #[.agg #[], n.v] w fun r w' => r = .returned n.mac.v ∧ Below w.heap.size w w' := by
  have hv : n.mac = { n with pi := 0, pn := 0, g := 0, ip := 0 } := by simp [NL.mac, A]
  rw [hv]
  clear hv
  unfold NL.v
  go_enter Try.func119, Try.ntmps119
  go_wp2_with (first
    | (refine at_box0 rfl 94 _ rfl rfl ?_; rintro w1 k1 s1)
    | (refine at_box rfl _ rfl n rfl ?_; rintro w2 ⟨x2, k2, s2⟩; rw [s1] at x2 s2; have b2 := k1.trans (k2.mono k1.size); clear k1 k2)
    | (refine at_new rfl rfl ?_; rintro w3 ⟨z3, k3, s3⟩; rw [s2] at z3; have x3 := x2.below k3 x2.lt; have b3 := b2.trans (k3.mono b2.size); have hne : w.heap.size + 1 + 1 ≠ w.heap.size + 1 := by omega
       clear x2 k3 b2)
    | (refine at_setPrefix rfl _ _ rfl rfl (w.heap.size + 1) rfl n 0 0 rfl x3 ?_; rintro w4 g4; have x4 := g4.bx; have z4 := g4.other z3 hne; have b4 := g4.next b3 (by omega); clear g4 x3 z3 b3)
    | (refine at_set rfl 32 _ _ rfl rfl (w.heap.size + 1) 18 rfl _ { n with pi := 0, pn := 0, g := 0 } (.int .u32 0) rfl x4 rfl rfl rfl ip_one (by decide) ?_; rintro w5 g5; have x5 := g5.bx; have z5 := g5.other z4 hne; have b5 := g5.next b4 (by omega); have c15 := Blk.cell x5 15 (v := .bool n.h) rfl; rw [A] at c15; clear g5 x4 z4 b4)
    | (refine at_set rfl 32 _ _ rfl rfl (w.heap.size + 1) 14 rfl _ { n with pi := 0, pn := 0, g := 0, ip := 0 } (.int .u32 0) rfl x5 rfl rfl rfl ip_one (by decide) ?_; rintro w6 g6; have x6 := g6.bx; have z6 := g6.other z5 hne; have b6 := g6.next b5 (by omega); clear g6 x5 z5 b5)
    | (refine at_load rfl _ rfl (w.heap.size + 1) rfl { n with pi := 0, pn := 0, g := 0, ip := 0 } x6 ?_)
    | (refine at_store rfl _ _ rfl rfl (w.heap.size + 1 + 1) rfl NL.zero { n with pi := 0, pn := 0, g := 0, ip := 0 } rfl z6 ?_; rintro w7 g7; have x7 := g7.bx; have b7 := g7.next b6 (by omega); clear g7))
  exact bodyPost_ret (results_cell_row (by rfl) _ _ (w.heap.size + 1 + 1) _ _ _ _ rfl x7 Try.underlying36 rfl (NL.size _)) rfl ⟨rfl, b7⟩
theorem mac_is (n : NL) (w : World) : Calls Try.prog 119 #[.agg #[], n.v] w fun r w' => r = .returned n.mac.v ∧ Below w.heap.size w w' := by
  cases A : n.h
  · exact mac_f n A w
  · exact mac_t n A w
set_option maxHeartbeats 2000000 in
theorem prefix_is (n : NL) (w : World) : Calls Try.prog 132 #[.agg #[], n.v] w fun r w' => r = .returned n.prefix_.v ∧ Below w.heap.size w w' := by
  unfold NL.v
  go_enter Try.func132, Try.ntmps132
  go_wp2_with (first
    | (refine at_box0 rfl 97 _ rfl rfl ?_; rintro w1 k1 s1)
    | (refine at_box rfl _ rfl n rfl ?_; rintro w2 ⟨x2, k2, s2⟩; rw [s1] at x2 s2; have b2 := k1.trans (k2.mono k1.size); clear k1 k2)
    | (refine at_new rfl rfl ?_; rintro w3 ⟨z3, k3, s3⟩; rw [s2] at z3; have x3 := x2.below k3 x2.lt; have b3 := b2.trans (k3.mono b2.size); have hne : w.heap.size + 1 + 1 ≠ w.heap.size + 1 := by omega
       clear x2 k3 b2)
    | (refine at_set rfl 28 _ _ rfl rfl (w.heap.size + 1) 13 rfl n { n with m := 0 } (.int .u64 0) rfl x3 rfl rfl rfl mac_one (by decide) ?_; rintro w4 g4; have x4 := g4.bx; have z4 := g4.other z3 hne; have b4 := g4.next b3 (by omega); clear g4 x3 z3 b3)
    | (refine at_set rfl 32 _ _ rfl rfl (w.heap.size + 1) 14 rfl _ { n with m := 0, ip := 0 } (.int .u32 0) rfl x4 rfl rfl rfl ip_one (by decide) ?_; rintro w5 g5; have x5 := g5.bx; have z5 := g5.other z4 hne; have b5 := g5.next b4 (by omega); clear g5 x4 z4 b4)
    | (refine at_set rfl 4 _ _ rfl rfl (w.heap.size + 1) 15 rfl _ { n with m := 0, ip := 0, h := false } (.bool false) rfl x5 rfl rfl rfl bool_one (by decide) ?_; rintro w6 g6; have x6 := g6.bx; have z6 := g6.other z5 hne; have b6 := g6.next b5 (by omega); clear g6 x5 z5 b5)
    | (refine at_set rfl 29 _ _ rfl rfl (w.heap.size + 1) 20 rfl _ { n with m := 0, ip := 0, h := false, l2 := 0 } (.int .u32 0) rfl x6 rfl rfl rfl u32_one (by decide) ?_; rintro w7 g7; have x7 := g7.bx; have z7 := g7.other z6 hne; have b7 := g7.next b6 (by omega); clear g7 x6 z6 b6)
    | (refine at_load rfl _ rfl (w.heap.size + 1) rfl n.prefix_ x7 ?_)
    | (refine at_store rfl _ _ rfl rfl (w.heap.size + 1 + 1) rfl NL.zero n.prefix_ rfl z7 ?_; rintro w8 g8; have x8 := g8.bx; have b8 := g8.next b7 (by omega); clear g8))
  exact bodyPost_ret (results_cell_row (by rfl) _ _ (w.heap.size + 1 + 1) _ _ _ _ rfl x8 Try.underlying36 rfl (NL.size _)) rfl ⟨rfl, b8⟩
end Go.Proofs.Ytejcclcckgdbgaa
