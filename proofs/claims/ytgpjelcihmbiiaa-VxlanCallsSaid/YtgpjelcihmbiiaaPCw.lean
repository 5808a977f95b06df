/- PacketCalls: the law's walk. No condition. -/
import Derived.Test.YtgpjelcihmbiiaaPQd
import Derived.Test.YtgpjelcihmbiiaaPQe
import Derived.Test.YtgpjelcihmbiiaaPQg
import Derived.Test.YtgpjelcihmbiiaaPNl
namespace Go.Proofs.Ytgpjelcihmbiiaa
open Go.RowKit Go.Sort
set_option linter.unusedVariables false
set_option linter.unusedSimpArgs false
set_option maxRecDepth 100000

theorem rbytes_bad (f : FL) (hf : f.Ok) (hc : f.chk ≠ 0) (w : World) : Calls Try.prog 22 #[f.v] w fun e w' => e = .returned (.tuple #[.slice none 0 0, .int .i64 f.chk]) ∧ Below w.heap.size w w' := by
  have hC := fun w => rcheck_is f hf.s w
  have A : (f.chk != 0) = true := by simpa using hc
  generalize f.chk = y at hC A ⊢
  clear hc hf
  obtain ⟨s, d, k, op, sm, si, tm, ti, hs, hd, tt, pr, sp, dp, x⟩ := f
  unfold FL.v FL.cs at hC ⊢
  dsimp only at hC ⊢
  go_enter Try.func22, Try.ntmps22
  go_wp2_with (first | (refine at_box rfl _ _ rfl [.int .u64 s, .int .u64 d, .int .i64 k, .int .i64 op, .int .u64 sm, .int .u32 si, .int .u64 tm, .int .u32 ti, .int .u32 hs, .int .u32 hd, .int .i64 tt, .int .i64 pr, .int .i64 sp, .int .i64 dp, .int .u64 x] rfl ?_; rintro w1 H1 k1 s1) | (refine at_mid rfl 36 _ rfl w.heap.size 0 rfl H1 [.int .u64 s, .int .u64 d, .int .i64 k, .int .i64 op, .int .u64 sm, .int .u32 si, .int .u64 tm, .int .u32 ti, .int .u32 hs, .int .u32 hd, .int .i64 tt, .int .i64 pr, .int .i64 sp, .int .i64 dp, .int .u64 x] rfl _ Try.underlying36 rfl szF ?_) | (go_at_call 23; refine (hC _).mono ?_; rintro r w2 ⟨rfl, k2⟩; have b2 := k1.trans (k2.mono k1.size); clear hC H1 k1 k2))
  go_ret2
  exact ⟨rfl, b2⟩
theorem up_b {m n : Int} (h : up m n = true) : 0 ≤ n ∧ n ≤ m := by simpa [up] using h
theorem rbytes_ok (f : FL) (hf : f.Ok) (hc : f.chk = 0) (w : World) : Calls Try.prog 22 #[f.v] w fun e w' => ∃ v, e = .returned (.tuple #[v, .int .i64 0]) ∧ DatB w.heap.size w' v f.enc ∧ Below w.heap.size w w' := by
  have h := (chk_zero hc).2.2.2
  obtain ⟨s, d, k, op, sm, si, tm, ti, hs, hd, tt, pr, sp, dp, x⟩ := f
  unfold FL.v FL.cs
  rcases h with ⟨h, -⟩ | ⟨h, -, ha⟩ | ⟨h, -, ha⟩
  · dsimp only at h ⊢
    subst h
    exact rbytes_0 s d op sm si tm ti hs hd tt pr sp dp x hf hc w
  · dsimp only at h ⊢
    subst h
    have hop : op = 1 ∨ op = 2 := by
      unfold FL.achk at ha
      dsimp only at ha
      by_cases q : op = 1 ∨ op = 2
      · exact q
      · rw [if_pos (.inl q)] at ha
        cases ha
    exact rbytes_1 s d op sm si tm ti hs hd tt pr sp dp x hf hc (by omega) (by omega) w
  · dsimp only at h ⊢
    subst h
    obtain ⟨u1, u2, u3, u4, -⟩ := hchk_zero ha
    have u1 := up_b u1
    have u2 := up_b u2
    have u3 := up_b u3
    have u4 := up_b u4
    dsimp only at u1 u2 u3 u4
    cases hp : pt pr
    · exact rbytes_2n s d op sm si tm ti hs hd tt pr sp dp x hf hc hp (by omega) (by omega) (by omega) (by omega) (by omega) (by omega) (by omega) (by omega) w
    · exact rbytes_2y s d op sm si tm ti hs hd tt pr sp dp x hf hc hp (by omega) (by omega) (by omega) (by omega) (by omega) (by omega) (by omega) (by omega) w
theorem conv_nil (w : World) : (convert 23 9 (.slice none 0 0)).run Try.prog w = .ok (.string ⟨#[]⟩) w := by kernel_rfl
theorem enc_some (f : FL) : f.enc ≠ [] := fun h => by
  have := congrArg List.length h
  simp [FL.enc, enc_length] at this
/-- Bytes of both: the same error, and values whose text is the same. -/
theorem bytes_both (f : FL) (hf : f.Ok) : ∃ (e : Int) (s : ByteArray) (F : World → Value → Prop),
    (∀ w, Calls Try.prog 16 #[f.v] w fun r w' => ∃ v, r = .returned (.tuple #[v, .int .i64 e]) ∧ F w' v ∧ Below w.heap.size w w') ∧
    (∀ w, Calls Try.prog 22 #[f.v] w fun r w' => ∃ v, r = .returned (.tuple #[v, .int .i64 e]) ∧ F w' v ∧ Below w.heap.size w w') ∧
    (∀ w v, F w v → (convert 23 9 v).run Try.prog w = .ok (.string s) w) ∧ (∀ w w' v, F w v → Below w.heap.size w w' → F w' v) := by
  by_cases hc : f.chk = 0
  · exact ⟨0, strOfNums f.enc, fun w v => Seg w v f.enc, fun w => (bytes_ok f hf hc w).mono fun r w' ⟨v, h1, h2, h3⟩ => ⟨v, h1, h2.dat.seg, h3⟩, fun w => (rbytes_ok f hf hc w).mono fun r w' ⟨v, h1, h2, h3⟩ => ⟨v, h1, h2.dat.seg, h3⟩, fun w v h => seg_string h (enc_some f), fun w w' v h k => h.below k⟩
  · exact ⟨f.chk, ⟨#[]⟩, fun _ v => v = .slice none 0 0, fun w => (bytes_bad f hc w).mono fun r w' ⟨h1, h2⟩ => ⟨_, h1, rfl, h2⟩, fun w => (rbytes_bad f hf hc w).mono fun r w' ⟨h1, h2⟩ => ⟨_, h1, rfl, h2⟩, fun w v h => by subst h; exact conv_nil w, fun w w' v h _ => h⟩
theorem q_conv {C : World → Prop} {o : Oper} {a : Act} {K : Act → Prop} (x : Operand) (ho : o.op = .convert 23 9 x) (v : Value) (hx : a.eval x = v) (s : ByteArray) (hC : ∀ w, C w → (convert 23 9 v).run Try.prog w = .ok (.string s) w) (h : K (a.put o.dst (.string s))) : o.quiet Try.prog a C K :=
  ⟨.string s, fun w hw => by
    unfold Oper.quietAt execOp
    simp only [ho, hx, Sem.run_bind, hC w hw, Sem.run_pure, Result.andThen_ok, Oper.quietUpon, and_self], h⟩
theorem conv_reg {F : World → Value → Prop} {s : ByteArray} (hcv : ∀ w v, F w v → (convert 23 9 v).run Try.prog w = .ok (.string s) w) (hF : ∀ w w' v, F w v → Below w.heap.size w w' → F w' v) {wr : World} {v : Value} (h : F wr v) : ∀ w', (∃ p : Regrown, w' = grow (redrawn wr p.d) p.os) → (convert 23 9 v).run Try.prog w' = .ok (.string s) w' := by
  rintro w' ⟨p, rfl⟩
  exact hcv _ _ (hF _ _ _ h (below_regrown wr p.d p.os))
set_option maxHeartbeats 4000000 in
theorem calls_is (f : FL) (hf : f.Ok) (xs : List Int) (ho : Oct xs) (v : Value) (w : World) (hv : Seg w v xs) (p : Int) :
    Calls Try.prog 4 #[f.v, v, .int .i64 p] w fun r w' => r = .returned (.bool true) ∧ Below w.heap.size w w' := by
  obtain ⟨e, s, F, B1, B2, hcv, hF⟩ := bytes_both f hf
  have c1 := fun w => check_is f w
  have c2 := fun w => rcheck_is f hf.s w
  generalize f.chk = ch at c1 c2
  obtain ⟨va, vc, rfl⟩ : ∃ a c, v = .slice a xs.length c := by obtain ⟨a, c, h, -⟩ := hv; exact ⟨a, c, h⟩
  clear hf
  generalize hN : f = N at *
  unfold FL.v at B1 B2 c1 c2 ⊢
  go_enter Try.func4, Try.ntmps4
  go_wp2_with (refine at_box rfl 36 _ rfl N.cs rfl ?_; rintro w1 x1 k1 s1)
  go_at_call 15
  refine (lives_is w1).mono ?_
  rintro r w2 ⟨rfl, k2⟩
  have X2 := x1.below k2 x1.lt
  have K2 := k1.trans (k2.mono k1.size)
  clear x1 k2 s1 k1
  by_cases hl : 300 < xs.length
  · have hl' : decide ((300 : Int) < xs.length) = true := by simp; omega
    go_wp2_with fail
    go_ret
    exact ⟨rfl, K2⟩
  have hl' : decide ((300 : Int) < xs.length) = false := by simp; omega
  go_wp2_with (refine at_mid rfl 36 _ rfl w.heap.size 0 rfl X2 N.cs rfl _ Try.underlying36 rfl szF ?_)
  go_at_call 16
  refine (B1 w2).mono ?_
  rintro r w4 ⟨v1, rfl, fa, k4⟩
  have X4 := X2.below k4 X2.lt
  have K4 := K2.trans (k4.mono K2.size)
  clear X2 K2 k4 B1
  go_wp2_with (refine at_mid rfl 36 _ rfl w.heap.size 0 rfl X4 N.cs rfl _ Try.underlying36 rfl szF ?_)
  go_at_call 22
  refine (B2 w4).mono ?_
  rintro r w5 ⟨v2, rfl, fb, k5⟩
  have X5 := X4.below k5 X4.lt
  have K5 := K4.trans (k5.mono K4.size)
  have fa5 := hF _ _ _ fa k5
  have V5 := hv.below K5
  have c3 : ∀ d os, Calls Try.prog 20 #[.slice va xs.length vc] (grow (redrawn w5 d) os) fun e w' => e = .returned (.int .u16 (sumI xs)) ∧ Below (grow (redrawn w5 d) os).heap.size (grow (redrawn w5 d) os) w' := fun d os => sum_is xs _ _ (V5.below (below_regrown w5 d os)) ho (by omega)
  have c4 : ∀ d os, Calls Try.prog 24 #[.slice va xs.length vc] (grow (redrawn w5 d) os) fun e w' => e = .returned (.int .u16 (sumI xs)) ∧ Below (grow (redrawn w5 d) os).heap.size (grow (redrawn w5 d) os) w' := fun d os => (rsum_is xs _ _ (V5.below (below_regrown w5 d os)) ho (by omega)).mono fun r w' ⟨h1, h2⟩ => ⟨h1, by subst h2; exact Below.refl _ _⟩
  have c5 : ∀ w, Calls Try.prog 21 #[.int .i64 p] w fun e w' => e = .returned (.bool (pt p)) ∧ Below w.heap.size w w' := fun w => (ported_is p w).mono fun r w' ⟨h1, h2⟩ => ⟨h1, by subst h2; exact Below.refl _ _⟩
  have c6 : ∀ w, Calls Try.prog 25 #[.int .i64 p] w fun e w' => e = .returned (.bool (pt p)) ∧ Below w.heap.size w w' := fun w => (rported_is p w).mono fun r w' ⟨h1, h2⟩ => ⟨h1, by subst h2; exact Below.refl _ _⟩
  generalize sumI xs = sx at c3 c4
  generalize pt p = pp at c5 c6
  have HX := Lib.hid (rangeF X5.lt (X5.range 0 N.cs rfl) (Below.refl _ _))
  have HA := Lib.hid (conv_reg hcv hF fa5)
  have HB := Lib.hid (conv_reg hcv hF fb)
  have hb : (pp == pp) = true := by simp
  clear X4 K4 k5 B2 fa X5 fa5 fb hcv hF V5 hv hl hl'
  go_wp2_with fail
  refine wp_region_qb (by kernel_rfl) (by kernel_rfl) ?_
  repeat (first
    | go_big_quiet_skip
    | (go_big_quiet_want; refine q_conv (.tmp 26) rfl v1 rfl s HA.out ?_; go_simp; go_big_quiet_on)
    | (go_big_quiet_want; refine q_conv (.tmp 28) rfl v2 rfl s HB.out ?_; go_simp; go_big_quiet_on)
    | (go_big_quiet_want; refine q_loadF (.tmp 3) rfl w.heap.size 0 rfl N HX.out ?_; go_simp; go_big_quiet_on)
    | (go_big_quiet_want; go_big_quiet_op; first | go_big_quiet_on | go_big_quiet_call (first
        | (with_reducible exact Calls.regrown_of (c1 _)) | (with_reducible exact Calls.regrown_of (c2 _)) | (with_reducible exact Calls.regrown_of (c3 _ _)) | (with_reducible exact Calls.regrown_of (c4 _ _))
        | (with_reducible exact Calls.regrown_of (c5 _)) | (with_reducible exact Calls.regrown_of (c6 _)))))
  refine wpQuiet_nil ?_
  intro w' hw'
  go_wp2
  go_ret
  exact ⟨rfl, K5.trans (hw'.mono K5.size)⟩
end Go.Proofs.Ytgpjelcihmbiiaa
