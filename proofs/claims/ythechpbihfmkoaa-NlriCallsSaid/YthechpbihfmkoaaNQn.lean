/- NlriCalls: the law's walk. No condition. -/
import Derived.Test.YthechpbihfmkoaaNQm
import Derived.Test.YthechpbihfmkoaaNLi
import Derived.Test.YthechpbihfmkoaaNCp
import Derived.Test.YthechpbihfmkoaaNQf
namespace Go.Proofs.Ythechpbihfmkoaa
open Go.RowKit Go.Sort
set_option linter.unusedVariables false
set_option linter.unusedSimpArgs false
set_option maxRecDepth 100000

theorem conv_nil (w : World) : (convert 23 9 (.slice none 0 0)).run Try.prog w = .ok (.string ⟨#[]⟩) w := by kernel_rfl
/-- Bytes of both: the same error, and values whose text is the same. -/
theorem bytes_both (n : NL) (hn : n.Ok) : ∃ (e : Int) (s : ByteArray) (F : World → Value → Prop),
    (∀ w, Calls Try.prog 10 #[n.v] w fun r w' => ∃ v, r = .returned (.tuple #[v, .int .i64 e]) ∧ F w' v ∧ Below w.heap.size w w') ∧
    (∀ w, Calls Try.prog 16 #[n.v] w fun r w' => ∃ v, r = .returned (.tuple #[v, .int .i64 e]) ∧ F w' v ∧ Below w.heap.size w w') ∧
    (∀ w v, F w v → (convert 23 9 v).run Try.prog w = .ok (.string s) w) ∧ (∀ w w' v, F w v → Below w.heap.size w w' → F w' v) := by
  by_cases hc : n.chk = 0
  · exact ⟨0, strOfNums n.code, fun w v => Dat w v n.code, fun w => bytes_ok n hn hc w, fun w => rbytes_ok n hn hc w, fun w v h => dat_string h (by unfold NL.code; simp), fun w w' v h k => h.below k⟩
  · exact ⟨n.chk, ⟨#[]⟩, fun _ v => v = .slice none 0 0, fun w => (bytes_bad n hc w).mono fun r w' ⟨h1, h2⟩ => ⟨_, h1, rfl, h2⟩, fun w => (rbytes_bad n hc w).mono fun r w' ⟨h1, h2⟩ => ⟨_, h1, rfl, h2⟩, fun w v h => by subst h; exact conv_nil w, fun w w' v h _ => h⟩
theorem q_conv {C : World → Prop} {o : Oper} {a : Act} {K : Act → Prop} (x : Operand) (ho : o.op = .convert 23 9 x) (v : Value) (hx : a.eval x = v) (s : ByteArray) (hC : ∀ w, C w → (convert 23 9 v).run Try.prog w = .ok (.string s) w) (h : K (a.put o.dst (.string s))) : o.quiet Try.prog a C K :=
  ⟨.string s, fun w hw => by
    unfold Oper.quietAt execOp
    simp only [ho, hx, Sem.run_bind, hC w hw, Sem.run_pure, Result.andThen_ok, Oper.quietUpon, and_self], h⟩
theorem eqlN (n : NL) (w : World) : (binOp .eql 36 n.v n.v).run Try.prog w = .ok (.bool true) w := by
  have h : n.eqb n = true := by
    have : eqE n.e n.e = true := (eqE_iff _ _).2 fun _ _ => rfl
    simp [NL.eqb, this]
  have := eqN n n w
  rw [h] at this
  unfold NL.v
  simp [go_sem, this]
theorem q_eqlN {C : World → Prop} {o : Oper} {a : Act} {K : Act → Prop} (x y : Operand) (ho : o.op = .binOp .eql 36 x y 36) (n : NL) (hx : a.eval x = n.v) (hy : a.eval y = n.v) (h : K (a.put o.dst (.bool true))) : o.quiet Try.prog a C K :=
  ⟨.bool true, fun w hw => by
    have := eqlN n w
    have hg : Sem.run Try.prog (eqGuard .eql 36 x y n.v n.v) w = .ok () w := by kernel_rfl
    unfold Oper.quietAt execOp
    simp only [ho, hx, hy, Sem.run_bind, hg, this, Sem.run_pure, Result.andThen_ok, Oper.quietUpon, and_self], h⟩
theorem bx_reg {wr : World} {b : Nat} {n : NL} (h : Bx wr b n) : ∀ w', (∃ p : Regrown, w' = grow (redrawn wr p.d) p.os) → Bx w' b n := by
  rintro w' ⟨p, rfl⟩
  exact h.below (below_regrown wr p.d p.os) h.lt
theorem conv_reg {F : World → Value → Prop} {s : ByteArray} (hcv : ∀ w v, F w v → (convert 23 9 v).run Try.prog w = .ok (.string s) w) (hF : ∀ w w' v, F w v → Below w.heap.size w w' → F w' v) {wr : World} {v : Value} (h : F wr v) : ∀ w', (∃ p : Regrown, w' = grow (redrawn wr p.d) p.os) → (convert 23 9 v).run Try.prog w' = .ok (.string s) w' := by
  rintro w' ⟨p, rfl⟩
  exact hcv _ _ (hF _ _ _ h (below_regrown wr p.d p.os))
set_option maxHeartbeats 4000000 in
theorem calls_is (n m : NL) (hn : n.Ok) (hm : m.Ok) (ip x rd : Int) (hi : 0 ≤ ip ∧ ip < 4294967296) (hx : 0 ≤ x ∧ x < 65536) (hr : 0 ≤ rd ∧ rd < 18446744073709551616) (w : World) :
    Calls Try.prog 4 #[n.v, m.v, .int .u32 ip, .int .u16 x, .int .u64 rd] w fun r w' => r = .returned (.bool true) ∧ Below w.heap.size w w' := by
  obtain ⟨e, s, F, B1, B2, hcv, hF⟩ := bytes_both n hn
  obtain ⟨ra, rb, rc, d1, d2⟩ := rdofs rd hr.1 hr.2
  have c1 := fun w => check_is n w
  have c2 := fun w => rchk_is n w
  have c3 := fun w => key_is n w
  have c4 := fun w => rkey_is n w
  have c5 := fun w => compare_is n m w
  have c6 := fun w => rcompare_is n m hn hm w
  have c7 : ∀ w, Calls Try.prog 14 #[.int .u32 ip, .int .u16 x] w fun r w' => r = .returned (.int .u64 (281474976710656 + ip * 65536 + x)) ∧ Below w.heap.size w w' := fun w => (prd_is ip x hi.1 hi.2 hx.1 hx.2 w).mono fun r w' ⟨h1, h2⟩ => ⟨h1, by subst h2; exact Below.refl _ _⟩
  have c8 : ∀ w, Calls Try.prog 23 #[.int .u32 ip, .int .u16 x] w fun r w' => r = .returned (.int .u64 (281474976710656 + ip * 65536 + x)) ∧ Below w.heap.size w w' := fun w => (rrd_is ip x hi.1 hi.2 hx.1 hx.2 w).mono fun r w' ⟨h1, h2⟩ => ⟨h1, by subst h2; exact Below.refl _ _⟩
  generalize 281474976710656 + ip * 65536 + x = y at c7 c8
  generalize n.chk = ch at c1 c2
  generalize n.cmp m = cm at c5 c6
  obtain ⟨ky, hky⟩ : ∃ ky, n.key = ky := ⟨_, rfl⟩
  rw [hky] at c3 c4
  clear hky hi hx hr hn hm
  unfold NL.v at B1 B2 c1 c2 c3 c4 c5 c6 ⊢
  go_enter Try.func4, Try.ntmps4
  go_wp2_with (first
    | (refine at_box rfl _ rfl n rfl ?_; rintro w1 ⟨x1, k1, s1⟩)
    | (refine at_box rfl _ rfl m rfl ?_; rintro w2 ⟨x2, k2, s2⟩; rw [s1] at x2; have X2 := x1.below k2 x1.lt; have K2 := k1.trans (k2.mono k1.size); clear x1 s2 k2))
  go_at_call 9
  refine (lives_is w2).mono ?_
  rintro r w3 ⟨rfl, k3⟩
  have X3 := X2.below k3 X2.lt
  have Y3 := x2.below k3 x2.lt
  have K3 := K2.trans (k3.mono K2.size)
  clear X2 x2 K2 k3 s1 k1
  go_wp2_with (refine at_load rfl _ rfl w.heap.size rfl n X3 ?_)
  go_at_call 10
  refine (B1 w3).mono ?_
  rintro r w4 ⟨va, rfl, fa, k4⟩
  have X4 := X3.below k4 X3.lt
  have Y4 := Y3.below k4 Y3.lt
  have K4 := K3.trans (k4.mono K3.size)
  clear X3 Y3 K3 k4 B1
  go_wp2_with (refine at_load rfl _ rfl w.heap.size rfl n X4 ?_)
  go_at_call 16
  refine (B2 w4).mono ?_
  rintro r w5 ⟨vb, rfl, fb, k5⟩
  have X5 := X4.below k5 X4.lt
  have Y5 := Y4.below k5 Y4.lt
  have K5 := K4.trans (k5.mono K4.size)
  have fa5 := hF _ _ _ fa k5
  clear X4 Y4 K4 k5 B2 fa
  go_wp2_with fail
  go_at_call 13
  refine (d1 _).mono ?_
  rintro r w6 ⟨rfl, hw6⟩
  subst hw6
  go_wp2_with fail
  go_at_call 17
  refine (d2 _).mono ?_
  rintro r w7 ⟨rfl, hw7⟩
  subst hw7
  have HX := Lib.hid (bx_reg X5)
  have HY := Lib.hid (bx_reg Y5)
  have HA := Lib.hid (conv_reg hcv hF fa5)
  have HB := Lib.hid (conv_reg hcv hF fb)
  clear d1 d2 X5 Y5 fa5 fb hcv hF
  go_wp2_with fail
  refine wp_region_qb (by kernel_rfl) (by kernel_rfl) ?_
  repeat (first
    | go_big_quiet_skip
    | (go_big_quiet_want; refine q_conv (.tmp 45) rfl va rfl s HA.out ?_; go_simp; go_big_quiet_on)
    | (go_big_quiet_want; refine q_conv (.tmp 47) rfl vb rfl s HB.out ?_; go_simp; go_big_quiet_on)
    | (go_big_quiet_want; refine q_load (.tmp 5) rfl w.heap.size rfl n HX.out ?_; go_simp; go_big_quiet_on)
    | (go_big_quiet_want; refine q_load (.tmp 6) rfl (w.heap.size + 1) rfl m HY.out ?_; go_simp; go_big_quiet_on)
    | (go_big_quiet_want; refine q_eqlN (.tmp 64) (.tmp 66) rfl ky rfl rfl ?_; go_simp; go_big_quiet_on)
    | (go_big_quiet_want; go_big_quiet_op; first | go_big_quiet_on | go_big_quiet_call (first
        | (with_reducible exact Calls.regrown_of (c1 _)) | (with_reducible exact Calls.regrown_of (c2 _)) | (with_reducible exact Calls.regrown_of (c3 _)) | (with_reducible exact Calls.regrown_of (c4 _))
        | (with_reducible exact Calls.regrown_of (c5 _)) | (with_reducible exact Calls.regrown_of (c6 _)) | (with_reducible exact Calls.regrown_of (c7 _)) | (with_reducible exact Calls.regrown_of (c8 _)))))
  refine wpQuiet_nil ?_
  intro w' hw'
  go_wp2
  go_ret
  exact ⟨rfl, K5.trans (hw'.mono K5.size)⟩
end Go.Proofs.Ythechpbihfmkoaa
