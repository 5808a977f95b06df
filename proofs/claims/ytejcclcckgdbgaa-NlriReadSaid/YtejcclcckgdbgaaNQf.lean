/- The reference of layer 4: Compare. No condition. -/
import Derived.Test.YtejcclcckgdbgaaGb
import Derived.Test.YtejcclcckgdbgaaNOpn
import Derived.Laws.BitsAllLaws
import Derived.Test.YtejcclcckgdbgaaCln
import Derived.Deep.CutBlock
import Derived.Deep.DeepCutAuto
import Derived.RegionTactic
namespace Go.Proofs.Ytejcclcckgdbgaa
open Go.RowKit Go.Sort
set_option linter.unusedVariables false
set_option linter.unusedSimpArgs false
set_option maxRecDepth 100000

theorem results_row_tmpQ {P : Program} {fn : Func} {p u : Tmp} {ty : TypeId} (h : fn.results = #[.cell p ty, .tmp u]) (tmps : Array Value) (w : World) (g : Nat) (t : TypeId) (cs : Array Value) (fr : Nat × Nat) (d : TypeDesc)
    (hp : tmps.getD p undef = .pointer (some ⟨g, 0, none⟩)) (hg : w.heap[g]? = some (.cells cs t fr))
    (hu : P.underlying ty = some d) (hd : (match d with | .struct _ | .array _ _ => true | _ => false) = true) (hi : (P.info? ty).map (·.size) = some cs.size) :
    (results fn tmps).run P w = .ok (.tuple #[.agg cs, tmps.getD u undef]) w := by
  rw [results_cell_tmp h, hp]
  simp [asAddr, run_loadVar_row w g t ty cs fr d hg hu hd hi, Result.andThen]

set_option maxHeartbeats 2000000 in
theorem rkey_5 (n : NL) (w : World) (A : (n.k == 5) = true) (B : (n.k == 2) = false) : Calls Try.prog 20 #[n.v] w fun r w' => r = .returned n.key.v ∧ Below w.heap.size w w' := by
  unfold NL.v
  go_enter Try.func20, Try.ntmps20
  go_wp2_with (first
    | (refine at_box rfl _ rfl n rfl ?_; rintro w1 ⟨x1, k1, s1⟩)
    | (refine at_new rfl rfl ?_; rintro w2 ⟨z2, k2, s2⟩; rw [s1] at z2; have x2 := x1.below k2 x1.lt; have b2 := k1.trans (k2.mono k1.size); have hne : w.heap.size + 1 ≠ w.heap.size := by omega
       clear x1 k1 k2)
    | (refine at_set rfl 29 _ _ rfl rfl w.heap.size 19 rfl n { n with l := 0 } (.int .u32 0) rfl x2 rfl rfl rfl u32_one (by decide) ?_; rintro w3 g3; have x3 := g3.bx; have z3 := g3.other z2 hne; have b3 := g3.next b2 (Nat.le_refl _); clear g3 x2 z2 b2)
    | (refine at_set rfl 29 _ _ rfl rfl w.heap.size 20 rfl _ { n with l := 0, l2 := 0 } (.int .u32 0) rfl x3 rfl rfl rfl u32_one (by decide) ?_; rintro w4 g4; have x4 := g4.bx; have z4 := g4.other z3 hne; have b4 := g4.next b3 (Nat.le_refl _); have c4 := Blk.cell x4 0 (v := .int .i64 n.k) rfl; clear g4 x3 z3 b3)
    | (refine at_setEsi rfl _ _ rfl rfl w.heap.size rfl _ (fun _ => 0) rfl x4 ?_; rintro w6 g6; have x6 := g6.bx; have z6 := g6.other z4 hne; have b6 := g6.next b4 (Nat.le_refl _); have c6 := Blk.cell x6 0 (v := .int .i64 n.k) rfl; clear g6 x4 z4 b4 c4)
    | (refine at_set rfl 32 _ _ rfl rfl w.heap.size 18 rfl _ { n with l := 0, l2 := 0, e := fun _ => 0, g := 0 } (.int .u32 0) rfl x6 rfl rfl rfl ip_one (by decide) ?_; rintro w5 g5; have x5 := g5.bx; have z5 := g5.other z6 hne; have b5 := g5.next b6 (Nat.le_refl _); clear g5 x6 z6 b6 c6)
    | (refine at_load rfl _ rfl w.heap.size rfl { n with l := 0, l2 := 0, e := fun _ => 0, g := 0 } x5 ?_)
    | (refine at_store rfl _ _ rfl rfl (w.heap.size + 1) rfl NL.zero { n with l := 0, l2 := 0, e := fun _ => 0, g := 0 } rfl z5 ?_; rintro w7 g7; have x7 := g7.bx; have b7 := g7.next b5 (by omega); clear g7))
  refine bodyPost_ret (results_cell_row (by rfl) _ _ (w.heap.size + 1) _ _ _ _ rfl x7 Try.underlying36 rfl (NL.size _)) rfl ⟨?_, b7⟩
  have hk : n.k = 5 := by simpa using A
  simp [NL.key, hk, NL.v]
set_option maxHeartbeats 2000000 in
theorem rkey_2 (n : NL) (w : World) (A : (n.k == 5) = false) (B : (n.k == 2) = true) : Calls Try.prog 20 #[n.v] w fun r w' => r = .returned n.key.v ∧ Below w.heap.size w w' := by
  unfold NL.v
  go_enter Try.func20, Try.ntmps20
  go_wp2_with (first
    | (refine at_box rfl _ rfl n rfl ?_; rintro w1 ⟨x1, k1, s1⟩)
    | (refine at_new rfl rfl ?_; rintro w2 ⟨z2, k2, s2⟩; rw [s1] at z2; have x2 := x1.below k2 x1.lt; have b2 := k1.trans (k2.mono k1.size); have hne : w.heap.size + 1 ≠ w.heap.size := by omega
       clear x1 k1 k2)
    | (refine at_set rfl 29 _ _ rfl rfl w.heap.size 19 rfl n { n with l := 0 } (.int .u32 0) rfl x2 rfl rfl rfl u32_one (by decide) ?_; rintro w3 g3; have x3 := g3.bx; have z3 := g3.other z2 hne; have b3 := g3.next b2 (Nat.le_refl _); clear g3 x2 z2 b2)
    | (refine at_set rfl 29 _ _ rfl rfl w.heap.size 20 rfl _ { n with l := 0, l2 := 0 } (.int .u32 0) rfl x3 rfl rfl rfl u32_one (by decide) ?_; rintro w4 g4; have x4 := g4.bx; have z4 := g4.other z3 hne; have b4 := g4.next b3 (Nat.le_refl _); have c4 := Blk.cell x4 0 (v := .int .i64 n.k) rfl; clear g4 x3 z3 b3)
    | (refine at_setEsi rfl _ _ rfl rfl w.heap.size rfl _ (fun _ => 0) rfl x4 ?_; rintro w6 g6; have x6 := g6.bx; have z6 := g6.other z4 hne; have b6 := g6.next b4 (Nat.le_refl _); have c6 := Blk.cell x6 0 (v := .int .i64 n.k) rfl; clear g6 x4 z4 b4 c4)
    | (refine at_load rfl _ rfl w.heap.size rfl { n with l := 0, l2 := 0, e := fun _ => 0 } x6 ?_)
    | (refine at_store rfl _ _ rfl rfl (w.heap.size + 1) rfl NL.zero { n with l := 0, l2 := 0, e := fun _ => 0 } rfl z6 ?_; rintro w7 g7; have x7 := g7.bx; have b7 := g7.next b6 (by omega); clear g7))
  refine bodyPost_ret (results_cell_row (by rfl) _ _ (w.heap.size + 1) _ _ _ _ rfl x7 Try.underlying36 rfl (NL.size _)) rfl ⟨?_, b7⟩
  have hk : n.k = 2 := by simpa using B
  simp [NL.key, hk, NL.v]
set_option maxHeartbeats 2000000 in
theorem rkey_0 (n : NL) (w : World) (A : (n.k == 5) = false) (B : (n.k == 2) = false) : Calls Try.prog 20 #[n.v] w fun r w' => r = .returned n.key.v ∧ Below w.heap.size w w' := by
  unfold NL.v
  go_enter Try.func20, Try.ntmps20
  go_wp2_with (first
    | (refine at_box rfl _ rfl n rfl ?_; rintro w1 ⟨x1, k1, s1⟩)
    | (refine at_new rfl rfl ?_; rintro w2 ⟨z2, k2, s2⟩; rw [s1] at z2; have x2 := x1.below k2 x1.lt; have b2 := k1.trans (k2.mono k1.size); have hne : w.heap.size + 1 ≠ w.heap.size := by omega
       clear x1 k1 k2)
    | (refine at_set rfl 29 _ _ rfl rfl w.heap.size 19 rfl n { n with l := 0 } (.int .u32 0) rfl x2 rfl rfl rfl u32_one (by decide) ?_; rintro w3 g3; have x3 := g3.bx; have z3 := g3.other z2 hne; have b3 := g3.next b2 (Nat.le_refl _); clear g3 x2 z2 b2)
    | (refine at_set rfl 29 _ _ rfl rfl w.heap.size 20 rfl _ { n with l := 0, l2 := 0 } (.int .u32 0) rfl x3 rfl rfl rfl u32_one (by decide) ?_; rintro w4 g4; have x4 := g4.bx; have z4 := g4.other z3 hne; have b4 := g4.next b3 (Nat.le_refl _); have c4 := Blk.cell x4 0 (v := .int .i64 n.k) rfl; clear g4 x3 z3 b3)
    | (refine at_load rfl _ rfl w.heap.size rfl { n with l := 0, l2 := 0 } x4 ?_)
    | (refine at_store rfl _ _ rfl rfl (w.heap.size + 1) rfl NL.zero { n with l := 0, l2 := 0 } rfl z4 ?_; rintro w7 g7; have x7 := g7.bx; have b7 := g7.next b4 (by omega); clear g7))
  refine bodyPost_ret (results_cell_row (by rfl) _ _ (w.heap.size + 1) _ _ _ _ rfl x7 Try.underlying36 rfl (NL.size _)) rfl ⟨?_, b7⟩
  have hk : n.k ≠ 5 := by simpa using A
  have hk2 : n.k ≠ 2 := by simpa using B
  simp [NL.key, hk, hk2, NL.v]
theorem rkey_is (n : NL) (w : World) : Calls Try.prog 20 #[n.v] w fun r w' => r = .returned n.key.v ∧ Below w.heap.size w w' := by
  cases A : (n.k == 5)
  · cases B : (n.k == 2)
    · exact rkey_0 n w A B
    · exact rkey_2 n w A B
  · have B : (n.k == 2) = false := by
      have hk : n.k = 5 := by simpa using A
      simp [hk]
    exact rkey_5 n w A B
theorem rcmp_is (a b : Int) (w : World) : Calls Try.prog 49 #[.int .u64 a, .int .u64 b] w fun r w' => r = .returned (.int .i64 (sg a b)) ∧ w' = w := by
  unfold sg
  rcases Int.lt_trichotomy a b with h | h | h
  · go_enter Try.func49, Try.ntmps49
    go_wp2
    go_ret
    exact ⟨by first | rfl | simp [h], rfl⟩
  · subst h
    go_enter Try.func49, Try.ntmps49
    go_wp2
    go_ret
    exact ⟨by first | rfl | simp, rfl⟩
  · have h' : ¬ a < b := by omega
    go_enter Try.func49, Try.ntmps49
    go_wp2
    go_ret
    exact ⟨by first | rfl | simp [h, h'], rfl⟩
theorem rcmp1_is (a b : Int) (w : World) : Calls Try.prog 74 #[.int .i64 a, .int .i64 b] w fun r w' => r = .returned (.int .i64 (sg a b)) ∧ w' = w := by
  unfold sg
  rcases Int.lt_trichotomy a b with h | h | h
  · go_enter Try.func74, Try.ntmps74
    go_wp2
    go_ret
    exact ⟨by first | rfl | simp [h], rfl⟩
  · subst h
    go_enter Try.func74, Try.ntmps74
    go_wp2
    go_ret
    exact ⟨by first | rfl | simp, rfl⟩
  · have h' : ¬ a < b := by omega
    go_enter Try.func74, Try.ntmps74
    go_wp2
    go_ret
    exact ⟨by first | rfl | simp [h, h'], rfl⟩
theorem rnum_is (b : Bool) (w : World) : Calls Try.prog 51 #[.bool b] w fun r w' => r = .returned (.int .u64 (bit b)) ∧ w' = w := by
  cases b
  all_goals
    go_enter Try.func51, Try.ntmps51
    go_wp2
    go_ret
    exact ⟨rfl, rfl⟩
theorem rcmpP_is (a n b m : Int) (ha : 0 ≤ a ∧ a < 4294967296) (hb' : 0 ≤ b ∧ b < 4294967296) (w : World) : Calls Try.prog 52 #[.agg #[.int .u32 a, .int .i64 n], .agg #[.int .u32 b, .int .i64 m]] w fun r w' => r = .returned (.int .i64 (cmpP a n b m)) ∧ Below w.heap.size w w' := by
  have h1 := rcmp1_is a b
  have h2 := rcmp1_is n m
  have e : cmpP a n b m = if sg a b = 0 then sg n m else sg a b := by
    unfold cmpP orI
    by_cases h : sg a b = 0 <;> simp [h]
  rw [e]
  obtain ⟨ha0, ha1⟩ := ha
  obtain ⟨hb0, hb1⟩ := hb'
  have kb : Below w.heap.size w ((w.alloc (.cells #[.int .u32 a, .int .i64 n] 34)).alloc (.cells #[.int .u32 b, .int .i64 m] 34)) := ((Below.refl _ w).alloc (Nat.le_refl _) _).alloc (by simp) _
  by_cases h : sg a b = 0
  · rw [if_pos h]
    rw [h] at h1
    go_enter Try.func52, Try.ntmps52
    go_wp2_with (first
      | (go_at_call 74; (with_reducible refine (h1 _).mono ?_); rintro r w1 ⟨rfl, rfl⟩)
      | (go_at_call 74; (with_reducible refine (h2 _).mono ?_); rintro r w1 ⟨rfl, rfl⟩))
    go_ret
    exact ⟨rfl, kb⟩
  · rw [if_neg h]
    have hb : (sg a b == 0) = false := by simpa using h
    generalize sg a b = c at h1 hb h ⊢
    go_enter Try.func52, Try.ntmps52
    go_wp2_with (go_at_call 74; (with_reducible refine (h1 _).mono ?_); rintro r w1 ⟨rfl, rfl⟩)
    go_ret
    exact ⟨rfl, kb⟩
theorem rd_or (ip n : Int) (h0 : 0 ≤ ip) (h1 : ip < 4294967296) (n0 : 0 ≤ n) (n1 : n < 65536) : bits .or .u64 (bits .or .u64 281474976710656 (ip * 65536)) n = 281474976710656 + ip * 65536 + n := by
  obtain ⟨I, rfl⟩ := Int.eq_ofNat_of_zero_le h0
  obtain ⟨N, rfl⟩ := Int.eq_ofNat_of_zero_le n0
  have e1 : (281474976710656 ||| I * 65536 : Nat) = 281474976710656 + I * 65536 := by
    have := Nat.two_pow_add_eq_or_of_lt (i := 48) (b := I * 65536) (by omega) 1
    simpa using this.symm
  have e2 : ((281474976710656 + I * 65536) ||| N : Nat) = 281474976710656 + I * 65536 + N := by
    have := Nat.two_pow_add_eq_or_of_lt (i := 16) (b := N) (by omega) (4294967296 + I)
    rw [show 2 ^ 16 * (4294967296 + I) = 281474976710656 + I * 65536 by omega] at this
    exact this.symm
  rw [show (281474976710656 : Int) = ((281474976710656 : Nat) : Int) from rfl, show ((I : Int) * 65536) = ((I * 65536 : Nat) : Int) by omega, u64_or_nat _ _ (by omega) (by omega), e1, u64_or_nat _ _ (by omega) (by omega), e2]
  omega
end Go.Proofs.Ytejcclcckgdbgaa
namespace Go.Proofs.Ytejcclcckgdbgaa
open Go.RowKit Go.Sort
set_option linter.unusedVariables false
set_option linter.unusedSimpArgs false
set_option maxRecDepth 100000

theorem prd_is (ip n : Int) (h0 : 0 ≤ ip) (h1 : ip < 4294967296) (n0 : 0 ≤ n) (n1 : n < 65536) (w : World) : Calls Try.prog 14 #[.int .u32 ip, .int .u16 n] w fun r w' => r = .returned (.int .u64 (281474976710656 + ip * 65536 + n)) ∧ w' = w := by
  have e := rd_or ip n h0 h1 n0 n1
  rw [← e]
  clear e
  go_enter Try.func14, Try.ntmps14
  go_wp2
  go_ret
  exact ⟨rfl, rfl⟩
theorem rrd_is (ip n : Int) (h0 : 0 ≤ ip) (h1 : ip < 4294967296) (n0 : 0 ≤ n) (n1 : n < 65536) (w : World) : Calls Try.prog 23 #[.int .u32 ip, .int .u16 n] w fun r w' => r = .returned (.int .u64 (281474976710656 + ip * 65536 + n)) ∧ w' = w := by
  go_enter Try.func23, Try.ntmps23
  go_wp2
  go_ret
  exact ⟨rfl, rfl⟩
theorem results_tmps3' {P : Program} {fn : Func} {p q u : Tmp} (h : fn.results = #[.tmp p, .tmp q, .tmp u]) (tmps : Array Value) (w : World) : (results fn tmps).run P w = .ok (.tuple #[tmps.getD p undef, tmps.getD q undef, tmps.getD u undef]) w := by
  simp [results, h]
theorem rdofs (rd : Int) (h0 : 0 ≤ rd) (h1 : rd < 18446744073709551616) : ∃ a b c, (∀ w, Calls Try.prog 13 #[.int .u64 rd] w fun r w' => r = .returned (.tuple #[.int .u32 a, .int .u16 b, .bool c]) ∧ w' = w) ∧ (∀ w, Calls Try.prog 17 #[.int .u64 rd] w fun r w' => r = .returned (.tuple #[.int .u32 a, .int .u16 b, .bool c]) ∧ w' = w) := by
  by_cases h : rd / 281474976710656 = 1
  · have hb : (rd / 281474976710656 != 1) = false := by simp [h]
    refine ⟨rd / 65536 % 4294967296, rd % 65536, true, fun w => ?_, fun w => ?_⟩
    · go_enter Try.func13, Try.ntmps13
      go_wp2
      refine bodyPost_ret (results_tmps3' (by rfl) _ _) rfl ?_
      exact ⟨rfl, rfl⟩
    · go_enter Try.func17, Try.ntmps17
      go_wp2
      refine bodyPost_ret (results_tmps3' (by rfl) _ _) rfl ?_
      exact ⟨rfl, rfl⟩
  · have hb : (rd / 281474976710656 != 1) = true := by simpa using h
    refine ⟨0, 0, false, fun w => ?_, fun w => ?_⟩
    · go_enter Try.func13, Try.ntmps13
      go_wp2
      refine bodyPost_ret (results_tmps3' (by rfl) _ _) rfl ?_
      exact ⟨rfl, rfl⟩
    · go_enter Try.func17, Try.ntmps17
      go_wp2
      refine bodyPost_ret (results_tmps3' (by rfl) _ _) rfl ?_
      exact ⟨rfl, rfl⟩
end Go.Proofs.Ytejcclcckgdbgaa
namespace Go.Proofs.Ytejcclcckgdbgaa
open Go.RowKit Go.Sort
set_option linter.unusedVariables false
set_option linter.unusedSimpArgs false
set_option maxRecDepth 100000

theorem run_boxA (w : World) (ty : TypeId) (cs : Array Value) : (Instr.box ty (.agg cs)).run Try.prog w = .ok (.pointer (some ⟨w.heap.size, 0, none⟩)) (w.alloc (.cells cs ty)) := rfl
theorem at_boxE {ops : Array Oper} {rest : List Oper} {o : Oper} {a : Act} {w : World} {Q : Exit → Act → World → Prop} (hgd : o.guard = none) (ty : TypeId) (x : Operand) (ho : o.op = .box ty x) (e : Nat → Int) (hx : a.eval x = .agg (esi e).toArray)
    (h : ∀ w', (∀ j, j < 10 → w'.cell? ⟨w.heap.size, j, none⟩ = some (.int .u8 (e j))) → Below w.heap.size w w' → w'.heap.size = w.heap.size + 1 → wpList Try.prog ops Q rest (a.put o.dst (.pointer (some ⟨w.heap.size, 0, none⟩))) w') : wpList Try.prog ops Q (o :: rest) a w :=
  wpList_plain hgd fun _ hK => by
    unfold Oper.wp execOp
    simp only [ho, hx, Sem.run_bind, run_boxA, Result.andThen_ok, Sem.run_pure]
    refine hK _ _ (h _ (fun j hj => ?_) ((Below.refl _ _).alloc (Nat.le_refl _) _) (by simp))
    rw [World.cell?_alloc_at _ _ _ _ rfl]
    rcases j with _ | _ | _ | _ | _ | _ | _ | _ | _ | _ | j <;> first | rfl | omega
theorem load_u {w : World} {b k : Nat} {e : Int} (h : w.cell? ⟨b, k, none⟩ = some (.int .u8 e)) : (loadVar 5 ⟨b, k, none⟩).run Try.prog w = .ok (.int .u8 e) w := by
  simp [go_sem, h]
theorem q_loadU {C : World → Prop} {o : Oper} {a : Act} {K : Act → Prop} (x : Operand) (ho : o.op = .load 5 x) (b k : Nat) (hx : a.eval x = .pointer (some ⟨b, k, none⟩)) (e : Int) (hC : ∀ w, C w → w.cell? ⟨b, k, none⟩ = some (.int .u8 e)) (h : K (a.put o.dst (.int .u8 e))) : o.quiet Try.prog a C K :=
  ⟨.int .u8 e, fun w hw => by
    unfold Oper.quietAt execOp
    simp only [ho, hx, Instr.loadAt, Instr.sureAddr, Sem.run_bind, Sem.run_pure, Result.andThen_ok, load_u (hC w hw), Oper.quietUpon, and_self], h⟩
theorem cellU {wr : World} {b k : Nat} {e : Int} (hb : b < wr.heap.size) (h : wr.cell? ⟨b, k, none⟩ = some (.int .u8 e)) : ∀ w', (∃ p : Regrown, w' = grow (redrawn wr p.d) p.os) → w'.cell? ⟨b, k, none⟩ = some (.int .u8 e) := by
  rintro w' ⟨p, rfl⟩
  exact ((below_regrown wr p.d p.os).cell (p := ⟨b, k, none⟩) hb).trans h
set_option maxHeartbeats 2000000 in
theorem resi_is (e f : Nat → Int) (he : ∀ j, 0 ≤ e j ∧ e j < 256) (hf : ∀ j, 0 ≤ f j ∧ f j < 256) (w : World) : Calls Try.prog 50 #[.agg (esi e).toArray, .agg (esi f).toArray] w fun r w' => r = .returned (.int .i64 (cmpE e f)) ∧ Below w.heap.size w w' := by
  go_enter Try.func50, Try.ntmps50
  go_wp2_with (first
    | (refine at_boxE rfl _ (.tmp 0) rfl e rfl ?_; rintro w1 H1 k1 s1; clear s1)
    | (refine at_boxE rfl _ (.tmp 1) rfl f rfl ?_; rintro w2 H2 k2 s2))
  have hz : w1.heap.size < w2.heap.size := by omega
  have hz0 : w.heap.size < w1.heap.size := by
    have := H1 0 (by decide)
    exact block_lt_of_cell this
  have k12 : Below w.heap.size w w2 := k1.trans (k2.mono k1.size)
  have HE := Lib.hid (fun j hj => (k2.cell (p := ⟨w.heap.size, j, none⟩) hz0).trans (H1 j hj))
  have HF := Lib.hid H2
  have HBE := Lib.hid he
  have HBF := Lib.hid hf
  clear H1 H2 k1 k2 s2 he hf
  go_loopw [5] (fun vi wr => ∃ i : Nat, i ≤ 10 ∧ vi = .int .i64 i ∧ Hid (∀ j, j < i → e j = f j) ∧ Below w2.heap.size w2 wr) (fun vi _ => 10 - (intOf vi).toNat)
  case atStart => exact ⟨0, by omega, rfl, Lib.hid (fun j hj => absurd hj (Nat.not_lt_zero _)), Below.refl _ _⟩
  case round =>
    obtain ⟨i, hi, rfl, HA, hB⟩ := hrel
    by_cases hlt : i < 10
    · have hil : (i : Int) < 10 := by omega
      have z1 : w.heap.size < wr.heap.size := by have := hB.size; omega
      have z2 : w1.heap.size < wr.heap.size := by have := hB.size; omega
      have e1 := cellU z1 ((hB.cell (p := ⟨w.heap.size, i, none⟩) (by show w.heap.size < _; omega)).trans (HE.out i hlt))
      have e2 := cellU z2 ((hB.cell (p := ⟨w1.heap.size, i, none⟩) hz).trans (HF.out i hlt))
      have hat := cmpFrom_at e f i 10 0 (Nat.zero_le _) (by omega) (fun j _ hj => HA.out j hj)
      have hx := HBE.out i
      have hy := HBF.out i
      have HAT := Lib.hid hat
      clear hat
      have hnext : e i = f i → ∀ j, j < i + 1 → e j = f j := fun h j hj => by
        rcases Nat.lt_or_ge j i with q | q
        · exact HA.out j q
        · obtain rfl : j = i := by omega
          exact h
      have HN := Lib.hid hnext
      clear hnext
      obtain ⟨x, hx'⟩ : ∃ x, e i = x := ⟨_, rfl⟩
      obtain ⟨y, hy'⟩ : ∃ y, f i = y := ⟨_, rfl⟩
      rw [hx'] at e1 hx HAT HN
      rw [hy'] at e2 hy HAT HN
      clear hx' hy'
      obtain ⟨hx0, hx1⟩ := hx
      obtain ⟨hy0, hy1⟩ := hy
      have hC := fun w => rcmp1_is x y w
      have hC' : ∀ w, Calls Try.prog 74 #[.int .i64 x, .int .i64 y] w fun r w' => r = .returned (.int .i64 (sg x y)) ∧ w = w' := fun w => (hC w).mono fun _ _ h => ⟨h.1, h.2.symm⟩
      obtain ⟨c, hc⟩ : ∃ c, sg x y = c := ⟨_, rfl⟩
      rw [hc] at hC' HAT
      go_wp2_with fail
      refine wp_region_qb (by kernel_rfl) (by kernel_rfl) ?_
      repeat (first
        | go_big_quiet_skip
        | (go_big_quiet_want; refine q_loadU (.tmp 12) rfl w.heap.size i rfl x e1 ?_; go_simp; go_big_quiet_on)
        | (go_big_quiet_want; refine q_loadU (.tmp 12) rfl w.heap.size (0 + i) rfl x (by rw [Nat.zero_add]; exact e1) ?_; go_simp; go_big_quiet_on)
        | (go_big_quiet_want; refine q_loadU (.tmp 16) rfl w1.heap.size i rfl y e2 ?_; go_simp; go_big_quiet_on)
        | (go_big_quiet_want; refine q_loadU (.tmp 16) rfl w1.heap.size (0 + i) rfl y (by rw [Nat.zero_add]; exact e2) ?_; go_simp; go_big_quiet_on)
        | (go_big_quiet_want; go_big_quiet_op; first | go_big_quiet_on | go_big_quiet_call (with_reducible exact regrown_same (hC' _)))
        | (go_big_quiet_step (fail)))
      refine wpQuiet_nil ?_
      intro w' hw'
      have hb2 := hB.trans (hw'.mono hB.size)
      clear e1 e2 z1 z2 hC hC' hw' hB hx0 hx1 hy0 hy1
      by_cases hxy : x = y
      · have hc0 : c = 0 := by rw [← hc, sg_zero]; exact hxy
        subst hc0
        have hn := HN.out hxy
        have HA2 := Lib.hid hn
        clear HN HAT hc hxy hn
        go_wp2
        go_roundw
        case rel => exact ⟨i + 1, by omega, by go_num, HA2, hb2⟩
        case measure => simp [intOf]; omega
      · have hcn : (c != 0) = true := by
          have : c ≠ 0 := by rw [← hc]; exact sg_ne hxy
          simpa using this
        have hfin := HAT.out hxy
        have hfin2 : cmpE e f = c := hfin
        have HFN := Lib.hid hfin2
        clear HN HAT hc hfin hfin2
        go_wp2
        go_ret
        exact ⟨by rw [HFN.out]; rfl, k12.trans (hb2.mono k12.size)⟩
    · obtain rfl : i = 10 := by omega
      have h0 : cmpE e f = 0 := cmpFrom_eq e f 10 0 fun j _ hj => HA.out j (by omega)
      have HFN := Lib.hid h0
      clear h0
      go_wp2
      go_ret
      exact ⟨by rw [HFN.out]; rfl, k12.trans (hB.mono k12.size)⟩
end Go.Proofs.Ytejcclcckgdbgaa
namespace Go.Proofs.Ytejcclcckgdbgaa
open Go.RowKit Go.Sort
set_option linter.unusedVariables false
set_option linter.unusedSimpArgs false
set_option maxRecDepth 100000

theorem rvalid_is (a n : Int) (w : World) : Calls Try.prog 65 #[.agg #[.int .u32 a, .int .i64 n]] w fun r w' => r = .returned (.bool (vld n)) ∧ Below w.heap.size w w' := by
  have kb : Below w.heap.size w (w.alloc (.cells #[.int .u32 a, .int .i64 n] 34)) := (Below.refl _ w).alloc (Nat.le_refl _) _
  unfold vld
  by_cases h0 : 0 ≤ n
  · by_cases h1 : n ≤ 32
    · rw [decide_eq_true h0, decide_eq_true h1]
      go_enter Try.func65, Try.ntmps65
      go_wp2
      go_ret
      exact ⟨by first | rfl | simp [h1], kb⟩
    · rw [decide_eq_true h0, decide_eq_false h1]
      go_enter Try.func65, Try.ntmps65
      go_wp2
      go_ret
      exact ⟨by first | rfl | simp [h1], kb⟩
  · rw [decide_eq_false h0, Bool.false_and]
    go_enter Try.func65, Try.ntmps65
    go_wp2
    go_ret
    exact ⟨by first | rfl | simp [h0], kb⟩
theorem rmask_is (n : Int) (h0 : 0 ≤ n) (h1 : n ≤ 32) (w : World) : Calls Try.prog 66 #[.int .i64 n] w fun r w' => r = .returned (.int .u32 (msk n)) ∧ w = w' := by
  have h : n = 0 ∨ n = 1 ∨ n = 2 ∨ n = 3 ∨ n = 4 ∨ n = 5 ∨ n = 6 ∨ n = 7 ∨ n = 8 ∨ n = 9 ∨ n = 10 ∨ n = 11 ∨ n = 12 ∨ n = 13 ∨ n = 14 ∨ n = 15 ∨ n = 16 ∨ n = 17 ∨ n = 18 ∨ n = 19 ∨ n = 20 ∨ n = 21 ∨ n = 22 ∨ n = 23 ∨ n = 24 ∨ n = 25 ∨ n = 26 ∨ n = 27 ∨ n = 28 ∨ n = 29 ∨ n = 30 ∨ n = 31 ∨ n = 32 := by omega
  clear h0 h1
  rcases h with rfl | rfl | rfl | rfl | rfl | rfl | rfl | rfl | rfl | rfl | rfl | rfl | rfl | rfl | rfl | rfl | rfl | rfl | rfl | rfl | rfl | rfl | rfl | rfl | rfl | rfl | rfl | rfl | rfl | rfl | rfl | rfl | rfl
  all_goals
    go_enter Try.func66, Try.ntmps66
    go_wp2
    go_ret
    exact ⟨by first | rfl | decide +kernel, rfl⟩
end Go.Proofs.Ytejcclcckgdbgaa
namespace Go.Proofs.Ytejcclcckgdbgaa
open Go.RowKit Go.Sort
set_option linter.unusedVariables false
set_option linter.unusedSimpArgs false
set_option maxRecDepth 100000

def Bk (w : World) (b : Nat) (ty : TypeId) (cs : Array Value) : Prop := w.heap[b]? = some (.cells cs ty (0, 0))
theorem Bk.lt {w : World} {b : Nat} {ty : TypeId} {cs : Array Value} (h : Bk w b ty cs) : b < w.heap.size := (Array.getElem?_eq_some_iff.1 h).1
theorem Bk.below {w w' : World} {b : Nat} {ty : TypeId} {cs : Array Value} (h : Bk w b ty cs) (k : Below w.heap.size w w') : Bk w' b ty cs := (k.block b h.lt).trans h
theorem Bk.cell {w : World} {b : Nat} {ty : TypeId} {cs : Array Value} (h : Bk w b ty cs) (j : Nat) : w.cell? ⟨b, j, none⟩ = cs[j]? := cell_of_row w b j cs ty (0, 0) h
theorem setRow_bk (w : World) (b : Nat) (old cs : Array Value) (t : TypeId) (h : Bk w b t old) : Bk (w.setRow b cs) b t cs := by
  have h' : w.heap[b]? = some (.cells old t (0, 0)) := h
  unfold Bk
  simp [World.setRow, Array.getElem?_modify, h']
theorem run_newP (w : World) : (Instr.alloc 34 true (.tuple #[])).run Try.prog w = .ok (.pointer (some ⟨w.heap.size, 0, none⟩)) (w.alloc (.cells #[.int .u32 0, .int .i64 0] 34)) := by kernel_rfl
theorem szP : (Try.prog.info? 34).map (·.size) = some 2 := by kernel_rfl
section
variable {ops : Array Oper} {rest : List Oper} {o : Oper} {a : Act} {w : World} {Q : Exit → Act → World → Prop}
theorem at_boxA (hgd : o.guard = none) (ty : TypeId) (x : Operand) (ho : o.op = .box ty x) (cs : Array Value) (hx : a.eval x = .agg cs)
    (h : ∀ w', Bk w' w.heap.size ty cs → Below w.heap.size w w' → w'.heap.size = w.heap.size + 1 → wpList Try.prog ops Q rest (a.put o.dst (.pointer (some ⟨w.heap.size, 0, none⟩))) w') : wpList Try.prog ops Q (o :: rest) a w :=
  wpList_plain hgd fun _ hK => by
    unfold Oper.wp execOp
    simp only [ho, hx, Sem.run_bind, run_boxA, Result.andThen_ok, Sem.run_pure]
    exact hK _ _ (h _ (World.alloc_heap_new w _) ((Below.refl _ _).alloc (Nat.le_refl _) _) (by simp))
theorem at_newP (hgd : o.guard = none) (ho : o.op = .alloc 34)
    (h : ∀ w', Bk w' w.heap.size 34 #[.int .u32 0, .int .i64 0] → Below w.heap.size w w' → w'.heap.size = w.heap.size + 1 → wpList Try.prog ops Q rest (a.put o.dst (.pointer (some ⟨w.heap.size, 0, none⟩))) w') : wpList Try.prog ops Q (o :: rest) a w :=
  wpList_plain hgd fun _ hK => by
    unfold Oper.wp execOp
    simp only [ho, Sem.run_bind, run_newP, Result.andThen_ok, Sem.run_pure]
    exact hK _ _ (h _ (World.alloc_heap_new w _) ((Below.refl _ w).alloc (Nat.le_refl _) _) (by simp))
theorem at_storeP (hgd : o.guard = none) (x y : Operand) (ho : o.op = .store 34 x y) (hd : o.dst = none) (b : Nat) (hx : a.eval x = .pointer (some ⟨b, 0, none⟩)) (p q p' q' : Int) (hy : a.eval y = .agg #[.int .u32 p', .int .i64 q']) (hb : Bk w b 34 #[.int .u32 p, .int .i64 q])
    (h : ∀ w', Bk w' b 34 #[.int .u32 p', .int .i64 q'] → (∀ B, B ≤ b → Below B w w') → wpList Try.prog ops Q rest a w') : wpList Try.prog ops Q (o :: rest) a w :=
  wpList_store_row hgd _ x y ho b _ hx hy _ _ hb szP rfl (by simp [Value.oneCell']) (by rw [hd]; exact h _ (setRow_bk w b _ _ _ hb) fun B hB => ⟨rfl, rfl, rfl, by simp [World.setRow], fun i hi => by simp [World.setRow, Array.getElem?_modify]; omega⟩)
theorem at_loadP (hgd : o.guard = none) (x : Operand) (ho : o.op = .load 34 x) (b : Nat) (hx : a.eval x = .pointer (some ⟨b, 0, none⟩)) (p q : Int) (hb : Bk w b 34 #[.int .u32 p, .int .i64 q])
    (h : wpList Try.prog ops Q rest (a.put o.dst (.agg #[.int .u32 p, .int .i64 q])) w) : wpList Try.prog ops Q (o :: rest) a w :=
  wpList_load_row hgd _ x ho b hx _ _ _ _ hb Try.underlying34 rfl szP h
end
set_option maxHeartbeats 2000000 in
theorem rclean_is (a n : Int) (w : World) : Calls Try.prog 39 #[.agg #[.int .u32 a, .int .i64 n]] w fun r w' => r = .returned (.tuple #[.agg #[.int .u32 (clnA a n), .int .i64 (clnN n)], .int .i64 (clnE n)]) ∧ Below w.heap.size w w' := by
  have hv := fun w => rvalid_is a n w
  cases hm : vld n with
  | false =>
    rw [hm] at hv
    simp only [clnA, clnN, clnE, hm, Bool.false_eq_true, if_false]
    clear hm
    go_enter Try.func39, Try.ntmps39
    go_wp2_with (first
      | (refine at_boxA rfl _ _ rfl #[.int .u32 a, .int .i64 n] rfl ?_; rintro w1 H1 k1 s1; clear s1)
      | (refine at_newP rfl rfl ?_; rintro w2 H2 k2 s2; clear s2)
      | (refine at_loadP rfl _ rfl w.heap.size rfl a n (H1.below k2) ?_))
    go_at_call 65
    refine (hv _).mono ?_
    rintro r w3 ⟨rfl, k3⟩
    have H3 := H2.below k3
    have K3 : Below w.heap.size w w3 := k1.trans ((k2.trans (k3.mono k2.size)).mono k1.size)
    go_wp2_with (refine at_storeP rfl _ _ rfl rfl w1.heap.size rfl _ _ 0 0 rfl H3 ?_; rintro w4 H4 k4)
    refine bodyPost_ret (results_row_tmpQ (by rfl) _ _ w1.heap.size _ _ _ _ rfl H4 Try.underlying34 rfl szP) rfl ⟨rfl, K3.trans (k4 _ k1.size)⟩
  | true =>
    obtain ⟨h0, h1⟩ := vld_yes hm
    rw [hm] at hv
    simp only [clnA, clnN, clnE, hm, if_true]
    have hM := fun w => rmask_is n h0 h1 w
    clear hm
    go_enter Try.func39, Try.ntmps39
    go_wp2_with (first
      | (refine at_boxA rfl _ _ rfl #[.int .u32 a, .int .i64 n] rfl ?_; rintro w1 H1 k1 s1; clear s1)
      | (refine at_newP rfl rfl ?_; rintro w2 H2 k2 s2; clear s2)
      | (refine at_loadP rfl _ rfl w.heap.size rfl a n (H1.below k2) ?_))
    go_at_call 65
    refine (hv _).mono ?_
    rintro r w3 ⟨rfl, k3⟩
    have H3 := H2.below k3
    have B3 := (H1.below k2).below k3
    have K3 : Below w.heap.size w w3 := k1.trans ((k2.trans (k3.mono k2.size)).mono k1.size)
    have c0 := cell_regrown (show w3.cell? ⟨w.heap.size, 0, none⟩ = some (.int .u32 a) from B3.cell 0)
    have c1 := cell_regrown (show w3.cell? ⟨w.heap.size, 1, none⟩ = some (.int .i64 n) from B3.cell 1)
    go_wp2_with fail
    refine wp_region_qtail 9 (by kernel_rfl) (by kernel_rfl) ?_
    simp only [List.take_succ_cons, List.take_zero, List.drop_succ_cons, List.drop_zero]
    repeat (first
      | go_big_quiet_skip
      | (go_big_quiet_want; go_big_quiet_op; first | go_big_quiet_on | go_big_quiet_call (with_reducible exact regrown_same (hM _)))
      | (go_big_quiet_step (fail)))
    refine wpQuiet_nil ?_
    intro w5 k5
    have H5 := H3.below k5
    have K5 := K3.trans (k5.mono K3.size)
    go_wp2_with (refine at_storeP rfl _ _ rfl rfl w1.heap.size rfl _ _ (cln a n) n rfl H5 ?_; rintro w4 H4 k4)
    refine bodyPost_ret (results_row_tmpQ (by rfl) _ _ w1.heap.size _ _ _ _ rfl H4 Try.underlying34 rfl szP) rfl ⟨rfl, K5.trans (k4 _ k1.size)⟩
end Go.Proofs.Ytejcclcckgdbgaa
namespace Go.Proofs.Ytejcclcckgdbgaa
open Go.RowKit Go.Sort
set_option linter.unusedVariables false
set_option linter.unusedSimpArgs false
set_option maxRecDepth 100000

def orF (c d : Int) : Int := if c = 0 then d else c
theorem orF_zero {c d : Int} (h : c = 0) : orF c d = d := if_pos h
theorem orF_ne {c d : Int} (h : ¬ c = 0) : orF c d = c := if_neg h
theorem orF_assoc (a b c : Int) : orF (orF a b) c = orF a (orF b c) := by
  unfold orF
  by_cases h : a = 0 <;> simp [h]
theorem orL_cons (x : Int) (r : List Int) : orL (x :: r) = orF x (orL r) := by
  unfold orF
  show (if x ≠ 0 then x else orL r) = _
  by_cases h : x = 0 <;> simp [h]
theorem orL_chain (c0 c1 c2 c3 c4 c5 c6 c7 c8 : Int) (h : c0 = 0) : orF (orF (orF (orF (orF (orF (orF c1 c2) c3) c4) c5) c6) c7) c8 = orL [c0, c1, c2, c3, c4, c5, c6, c7, c8] := by
  simp only [orL_cons, orF_assoc]
  rw [orF_zero h]
  have e : orF c8 (orL []) = c8 := by
    unfold orF
    by_cases h : c8 = 0
    · rw [if_pos h, h]; rfl
    · rw [if_neg h]
  rw [e]
theorem NL.key_Ok {n : NL} (h : n.Ok) : n.key.Ok := by
  refine ⟨h.rd, fun j => ?_, h.t, h.m, h.ip, h.pi, ?_, (show (0 : Int) ≤ 0 ∧ (0 : Int) < 4294967296 by omega), (show (0 : Int) ≤ 0 ∧ (0 : Int) < 4294967296 by omega)⟩
  · show 0 ≤ (if n.k = 5 ∨ n.k = 2 then fun _ => 0 else n.e) j ∧ (if n.k = 5 ∨ n.k = 2 then fun _ => 0 else n.e) j < 256
    split
    · exact (show (0 : Int) ≤ 0 ∧ (0 : Int) < 256 by omega)
    · exact h.e j
  · show 0 ≤ (if n.k = 5 then 0 else n.g) ∧ (if n.k = 5 then 0 else n.g) < 4294967296
    split
    · exact ⟨by decide, by decide⟩
    · exact h.g
theorem rnum' (b : Bool) (w : World) : Calls Try.prog 51 #[.bool b] w fun r w' => r = .returned (.int .u64 (bit b)) ∧ w = w' := (rnum_is b w).mono fun _ _ h => ⟨h.1, h.2.symm⟩
theorem rcmp' (a b : Int) (w : World) : Calls Try.prog 49 #[.int .u64 a, .int .u64 b] w fun r w' => r = .returned (.int .i64 (sg a b)) ∧ w = w' := (rcmp_is a b w).mono fun _ _ h => ⟨h.1, h.2.symm⟩

set_option maxHeartbeats 8000000 in
theorem rcompare_is (a b : NL) (ha : a.Ok) (hb : b.Ok) (w : World) : Calls Try.prog 22 #[a.v, b.v] w fun r w' => r = .returned (.int .i64 (a.cmp b)) ∧ Below w.heap.size w w' := by
  unfold NL.cmp
  have hka := fun w => rkey_is a w
  have hkb := fun w => rkey_is b w
  have hpo := NL.key_Ok ha
  have hqo := NL.key_Ok hb
  generalize a.key = p at hka hpo ⊢
  generalize b.key = q at hkb hqo ⊢
  have HPO := Lib.hid hpo
  have HQO := Lib.hid hqo
  clear ha hb hpo hqo
  unfold NL.v at hka hkb ⊢
  go_enter Try.func22, Try.ntmps22
  go_wp2_with (first
    | (refine at_box rfl (.tmp 0) rfl a rfl ?_; rintro w1 ⟨x1, k1, s1⟩)
    | (refine at_box rfl (.tmp 1) rfl b rfl ?_; rintro w2 ⟨y2, k2, s2⟩; rw [s1] at y2; have x2 := x1.below k2 x1.lt; have b2 := k1.trans (k2.mono k1.size); have hne : w.heap.size + 1 ≠ w.heap.size := by omega
       clear x1 k1 k2))
  refine wp_region_qtail 4 (by kernel_rfl) (by kernel_rfl) ?_
  simp only [List.take_succ_cons, List.take_zero, List.drop_succ_cons, List.drop_zero]
  repeat (first
    | go_big_quiet_skip
    | (go_big_quiet_want; refine q_load (.tmp 2) rfl w.heap.size rfl a x2.regrown ?_; go_simp; go_big_quiet_on)
    | (go_big_quiet_want; refine q_load (.tmp 3) rfl (w.heap.size + 1) rfl b y2.regrown ?_; go_simp; go_big_quiet_on)
    | (go_big_quiet_want; go_big_quiet_op; first | go_big_quiet_on | go_big_quiet_call (first | (with_reducible exact Calls.regrown_of (hka _)) | (with_reducible exact Calls.regrown_of (hkb _)))))
  refine wpQuiet_nil ?_
  intro w3 k3
  have x3 := x2.below k3 x2.lt
  have y3 := y2.below k3 y2.lt
  have b3 := b2.trans (k3.mono b2.size)
  clear x2 y2 b2 k3 hka hkb
  go_upto_region 2 with (first
    | (refine at_store rfl (.tmp 2) _ rfl rfl w.heap.size rfl a p rfl x3 ?_; rintro w4 g4; have x4 := g4.bx; have y4 := g4.other y3 hne; have b4 := g4.next b3 (Nat.le_refl _); clear g4 x3 y3 b3)
    | (refine at_store rfl (.tmp 3) _ rfl rfl (w.heap.size + 1) rfl b q rfl y4 ?_; rintro w5 g5; have y5 := g5.bx; have x5 := g5.other x4 (Ne.symm hne); have b5 := g5.next b4 (by omega); clear g5 x4 y4 b4))
  have X5 := Lib.hid x5
  have Y5 := Lib.hid y5
  have c0 := Blk.cell x5 0 (v := .int .i64 p.k) rfl
  have d0 := Blk.cell y5 0 (v := .int .i64 q.k) rfl
  clear x5 y5 s1 s2 hne
  rcases Int.lt_trichotomy p.k q.k with h | h | h
  · have e : orL (signs p q) = -1 := by
      show (if sg p.k q.k ≠ 0 then sg p.k q.k else _) = -1
      have : sg p.k q.k = -1 := if_pos h
      rw [this]
      rfl
    have HE := Lib.hid e
    clear e
    generalize p.k = pk at c0 h
    generalize q.k = qk at d0 h
    go_wp2
    go_ret
    exact ⟨by rw [HE.out]; rfl, b5⟩
  rotate_left
  · have h' : ¬ p.k < q.k := by omega
    have e : orL (signs p q) = 1 := by
      show (if sg p.k q.k ≠ 0 then sg p.k q.k else _) = 1
      have : sg p.k q.k = 1 := by unfold sg; rw [if_neg h', if_pos h]
      rw [this]
      rfl
    have HE := Lib.hid e
    clear e
    generalize p.k = pk at c0 h h'
    generalize q.k = qk at d0 h h'
    go_wp2
    go_ret
    exact ⟨by rw [HE.out]; rfl, b5⟩
  have h' : ¬ p.k < q.k := by omega
  have h'' : ¬ q.k < p.k := by omega
  have hs0 : sg p.k q.k = 0 := by unfold sg; rw [if_neg h', if_neg h'']
  have HCH := Lib.hid (show orF (orF (orF (orF (orF (orF (orF (sg p.rd q.rd) (cmpE p.e q.e)) (sg p.t q.t)) (sg p.m q.m)) (sg (bit p.h) (bit q.h))) (sg p.ip q.ip)) (cmpP p.pi p.pn q.pi q.pn)) (sg p.g q.g) = orL (signs p q) from orL_chain (sg p.k q.k) (sg p.rd q.rd) (cmpE p.e q.e) (sg p.t q.t) (sg p.m q.m) (sg (bit p.h) (bit q.h)) (sg p.ip q.ip) (cmpP p.pi p.pn q.pi q.pn) (sg p.g q.g) hs0)
  clear hs0
  have hc1 := fun w => rcmp' p.rd q.rd w
  have a1 := Blk.cell X5.out 1 (v := .int .u64 p.rd) rfl
  have e1 := Blk.cell Y5.out 1 (v := .int .u64 q.rd) rfl
  generalize p.k = pk at c0 h h' h''
  generalize q.k = qk at d0 h h' h''
  subst h
  go_wp2_with fail
  go_at_call 49
  refine (hc1 _).mono ?_
  rintro r w6 ⟨rfl, rfl⟩
  clear c0 d0 h' h'' hc1 a1 e1
  obtain ⟨C1, hC1⟩ : ∃ C, sg p.rd q.rd = C := ⟨_, rfl⟩
  rw [hC1] at HCH ⊢
  clear hC1
  have hB := Below.refl w5.heap.size w5
  go_upto_if 28 with fail
  go_cut [5] (fun s wx => s = .int .i64 (orF C1 (cmpE p.e q.e)) ∧ Below w5.heap.size w5 wx)
  case first =>
    by_cases hc : C1 = 0
    · have hcb : (C1 == 0) = true := by simpa using hc
      go_wp2_with (first
        | (refine at_esi rfl (.tmp 29) rfl w.heap.size rfl p (X5.out.below hB X5.out.lt) ?_)
        | (refine at_esi rfl (.tmp 31) rfl (w.heap.size + 1) rfl q (Y5.out.below hB Y5.out.lt) ?_))
      go_at_call 50
      refine (resi_is p.e q.e HPO.out.e HQO.out.e _).mono ?_
      rintro r wy ⟨rfl, ky⟩
      have hB2 := hB.trans (ky.mono hB.size)
      go_wp2_with fail
      go_meet
      exact ⟨by rw [orF_zero hc], hB2⟩
    · have hcb : (C1 == 0) = false := by simpa using hc
      go_wp2_with fail
      go_meet
      exact ⟨by rw [orF_ne hc], hB⟩
  case rest =>
    clear hB
    obtain ⟨rfl, hB⟩ := hcut
    obtain ⟨C2, hC2⟩ : ∃ C, orF C1 (cmpE p.e q.e) = C := ⟨_, rfl⟩
    rw [hC2] at HCH ⊢
    clear hC2
    go_upto_if 35 with fail
    go_cut [5] (fun s wx => s = .int .i64 (orF C2 (sg p.t q.t)) ∧ Below w5.heap.size w5 wx)
    case first =>
      by_cases hc : C2 = 0
      · have hcb : (C2 == 0) = true := by simpa using hc
        have a1 := Blk.cell (X5.out.below hB X5.out.lt) 12 (v := .int .u32 p.t) rfl
        have e1 := Blk.cell (Y5.out.below hB Y5.out.lt) 12 (v := .int .u32 q.t) rfl
        obtain ⟨u1, u2⟩ := HPO.out.t
        obtain ⟨v1, v2⟩ := HQO.out.t
        go_wp2_with fail
        go_at_call 49
        refine (rcmp' p.t q.t _).mono ?_
        rintro r wy ⟨rfl, rfl⟩
        go_wp2_with fail
        go_meet
        exact ⟨by rw [orF_zero hc], hB⟩
      · have hcb : (C2 == 0) = false := by simpa using hc
        go_wp2_with fail
        go_meet
        exact ⟨by rw [orF_ne hc], hB⟩
    case rest =>
      clear hB
      obtain ⟨rfl, hB⟩ := hcut
      obtain ⟨C3, hC3⟩ : ∃ C, orF C2 (sg p.t q.t) = C := ⟨_, rfl⟩
      rw [hC3] at HCH ⊢
      clear hC3
      go_upto_if 44 with fail
      go_cut [5] (fun s wx => s = .int .i64 (orF C3 (sg p.m q.m)) ∧ Below w5.heap.size w5 wx)
      case first =>
        by_cases hc : C3 = 0
        · have hcb : (C3 == 0) = true := by simpa using hc
          have a1 := Blk.cell (X5.out.below hB X5.out.lt) 13 (v := .int .u64 p.m) rfl
          have e1 := Blk.cell (Y5.out.below hB Y5.out.lt) 13 (v := .int .u64 q.m) rfl
          go_wp2_with fail
          go_at_call 49
          refine (rcmp' p.m q.m _).mono ?_
          rintro r wy ⟨rfl, rfl⟩
          go_wp2_with fail
          go_meet
          exact ⟨by rw [orF_zero hc], hB⟩
        · have hcb : (C3 == 0) = false := by simpa using hc
          go_wp2_with fail
          go_meet
          exact ⟨by rw [orF_ne hc], hB⟩
      case rest =>
        clear hB
        obtain ⟨rfl, hB⟩ := hcut
        obtain ⟨C4, hC4⟩ : ∃ C, orF C3 (sg p.m q.m) = C := ⟨_, rfl⟩
        rw [hC4] at HCH ⊢
        clear hC4
        go_upto_if 51 with fail
        go_cut [5] (fun s wx => s = .int .i64 (orF C4 (sg (bit p.h) (bit q.h))) ∧ Below w5.heap.size w5 wx)
        case first =>
          by_cases hc : C4 = 0
          · have hcb : (C4 == 0) = true := by simpa using hc
            have a1 := cell_regrown (Blk.cell (X5.out.below hB X5.out.lt) 15 (v := .bool p.h) rfl)
            have e1 := cell_regrown (Blk.cell (Y5.out.below hB Y5.out.lt) 15 (v := .bool q.h) rfl)
            go_wp2_with fail
            refine wp_region_qb (by kernel_rfl) (by kernel_rfl) ?_
            repeat (first
              | go_big_quiet_skip
              | (go_big_quiet_want; go_big_quiet_op; first | go_big_quiet_on | go_big_quiet_call (first | (with_reducible exact regrown_same (rnum' _ _)) | (with_reducible exact regrown_same (rcmp' _ _ _)))))
            refine wpQuiet_nil ?_
            intro wy ky
            have hB2 := hB.trans (ky.mono hB.size)
            go_wp2_with fail
            go_meet
            exact ⟨by rw [orF_zero hc], hB2⟩
          · have hcb : (C4 == 0) = false := by simpa using hc
            go_wp2_with fail
            go_meet
            exact ⟨by rw [orF_ne hc], hB⟩
        case rest =>
          clear hB
          obtain ⟨rfl, hB⟩ := hcut
          obtain ⟨C5, hC5⟩ : ∃ C, orF C4 (sg (bit p.h) (bit q.h)) = C := ⟨_, rfl⟩
          rw [hC5] at HCH ⊢
          clear hC5
          go_upto_if 60 with fail
          go_cut [5] (fun s wx => s = .int .i64 (orF C5 (sg p.ip q.ip)) ∧ Below w5.heap.size w5 wx)
          case first =>
            by_cases hc : C5 = 0
            · have hcb : (C5 == 0) = true := by simpa using hc
              have a1 := Blk.cell (X5.out.below hB X5.out.lt) 14 (v := .int .u32 p.ip) rfl
              have e1 := Blk.cell (Y5.out.below hB Y5.out.lt) 14 (v := .int .u32 q.ip) rfl
              obtain ⟨u1, u2⟩ := HPO.out.ip
              obtain ⟨v1, v2⟩ := HQO.out.ip
              go_wp2_with fail
              go_at_call 49
              refine (rcmp' p.ip q.ip _).mono ?_
              rintro r wy ⟨rfl, rfl⟩
              go_wp2_with fail
              go_meet
              exact ⟨by rw [orF_zero hc], hB⟩
            · have hcb : (C5 == 0) = false := by simpa using hc
              go_wp2_with fail
              go_meet
              exact ⟨by rw [orF_ne hc], hB⟩
          case rest =>
            clear hB
            obtain ⟨rfl, hB⟩ := hcut
            obtain ⟨C6, hC6⟩ : ∃ C, orF C5 (sg p.ip q.ip) = C := ⟨_, rfl⟩
            rw [hC6] at HCH ⊢
            clear hC6
            go_upto_if 69 with fail
            go_cut [5] (fun s wx => s = .int .i64 (orF C6 (cmpP p.pi p.pn q.pi q.pn)) ∧ Below w5.heap.size w5 wx)
            case first =>
              by_cases hc : C6 = 0
              · have hcb : (C6 == 0) = true := by simpa using hc
                have a1 := Blk.cell (X5.out.below hB X5.out.lt) 16 (v := .int .u32 p.pi) rfl
                have a2 := Blk.cell (X5.out.below hB X5.out.lt) 17 (v := .int .i64 p.pn) rfl
                have e1 := Blk.cell (Y5.out.below hB Y5.out.lt) 16 (v := .int .u32 q.pi) rfl
                have e2 := Blk.cell (Y5.out.below hB Y5.out.lt) 17 (v := .int .i64 q.pn) rfl
                go_wp2_with fail
                go_at_call 52
                refine (rcmpP_is p.pi p.pn q.pi q.pn HPO.out.pi HQO.out.pi _).mono ?_
                rintro r wy ⟨rfl, ky⟩
                have hB2 := hB.trans (ky.mono hB.size)
                go_wp2_with fail
                go_meet
                exact ⟨by rw [orF_zero hc], hB2⟩
              · have hcb : (C6 == 0) = false := by simpa using hc
                go_wp2_with fail
                go_meet
                exact ⟨by rw [orF_ne hc], hB⟩
            case rest =>
              clear hB
              obtain ⟨rfl, hB⟩ := hcut
              obtain ⟨C7, hC7⟩ : ∃ C, orF C6 (cmpP p.pi p.pn q.pi q.pn) = C := ⟨_, rfl⟩
              rw [hC7] at HCH ⊢
              clear hC7
              go_upto_if 76 with fail
              go_cut [5] (fun s wx => s = .int .i64 (orF C7 (sg p.g q.g)) ∧ Below w5.heap.size w5 wx)
              case first =>
                by_cases hc : C7 = 0
                · have hcb : (C7 == 0) = true := by simpa using hc
                  have a1 := Blk.cell (X5.out.below hB X5.out.lt) 18 (v := .int .u32 p.g) rfl
                  have e1 := Blk.cell (Y5.out.below hB Y5.out.lt) 18 (v := .int .u32 q.g) rfl
                  obtain ⟨u1, u2⟩ := HPO.out.g
                  obtain ⟨v1, v2⟩ := HQO.out.g
                  go_wp2_with fail
                  go_at_call 49
                  refine (rcmp' p.g q.g _).mono ?_
                  rintro r wy ⟨rfl, rfl⟩
                  go_wp2_with fail
                  go_meet
                  exact ⟨by rw [orF_zero hc], hB⟩
                · have hcb : (C7 == 0) = false := by simpa using hc
                  go_wp2_with fail
                  go_meet
                  exact ⟨by rw [orF_ne hc], hB⟩
              case rest =>
                clear hB
                obtain ⟨rfl, hB⟩ := hcut
                obtain ⟨C8, hC8⟩ : ∃ C, orF C7 (sg p.g q.g) = C := ⟨_, rfl⟩
                rw [hC8] at HCH ⊢
                clear hC8
                go_wp2
                go_ret
                exact ⟨by rw [← HCH.out]; rfl, b5.trans (hB.mono b5.size)⟩
end Go.Proofs.Ytejcclcckgdbgaa
