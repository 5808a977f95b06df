/- Check, at other kinds. No condition. -/
import Derived.Test.YtejcclcckgdbgaaNChk
namespace Go.Proofs.Ytejcclcckgdbgaa
open Go.RowKit Go.Sort
set_option linter.unusedVariables false
set_option linter.unusedSimpArgs false
set_option maxRecDepth 100000
set_option maxHeartbeats 4000000 in
theorem chk_segment (n : NL) (hk : n.k = 4) (w : World) : Calls Try.prog 15 #[n.v] w fun r w' => r = .returned (.int .i64 n.chk) ∧ Below w.heap.size w w' := by
  have hL : lay n.k = some 96 := by rw [hk]; rfl
  have hM : n.norm = n.segment := by unfold NL.norm; rw [hk]; rfl
  have hl := fun w => layout_is n.k w
  rw [hL] at hl
  unfold layV at hl
  have hN := fun w => segment_is n w
  have hq := fun w => eqN n n.norm w
  rw [← hM] at hN
  have HV := Lib.hid (show n.chk = if n.eqb n.norm = false then 3 else if 281474976710655 < n.m ∨ 16777215 < n.l ∨ 16777215 < n.l2 ∨ vld n.pn = false then 2 else if ((n.pi == cln n.pi n.pn) && (n.pn == n.pn)) = false then 3 else 0 by unfold NL.chk; rw [if_neg (by rw [hL]; simp)])
  have hme : ∀ j w, Sem.run Try.prog (method (j + 1) 96 (.agg #[]) "leafmesh/nlri.normal") w = .ok (129, .agg #[]) w := fun j w => by kernel_rfl
  have hcf : ∀ x w, Sem.run Try.prog (callFunc 129 #[.agg #[], x]) w = .ok (.enter 129 #[.agg #[], x]) w := fun x w => by kernel_rfl
  generalize n.eqb n.norm = b at hq HV
  generalize n.norm = m at hN hq
  clear hM hL hk
  generalize n.chk = x at HV ⊢
  unfold NL.v at hN ⊢
  go_enter Try.func15, Try.ntmps15
  go_wp2_with (first
    | (refine at_box rfl _ rfl n rfl ?_; rintro w1 ⟨x1, k1, s1⟩; have c0 := Blk.cell x1 0 (v := .int .i64 n.k) rfl)
    | (go_at_call 29; refine (hl w1).mono ?_; rintro e w2 ⟨rfl, k2⟩; have b2 := k1.trans (k2.mono k1.size); have x2 := x1.below k2 x1.lt; clear c0 k1 k2 x1 hl))
  refine wp_region_qb (by kernel_rfl) (by kernel_rfl) ?_
  repeat (first
    | go_big_quiet_skip
    | (go_big_quiet_want; refine q_load (.tmp 1) rfl w.heap.size rfl n x2.regrown ?_; go_simp; go_big_quiet_on)
    | (go_big_quiet_want; go_big_quiet_op; first | go_big_quiet_on | go_big_quiet_call (with_reducible exact Calls.regrown_of (hN _))))
  refine wpQuiet_nil ?_
  intro w3 k3
  have x3 := x2.below k3 x2.lt
  have b3 := b2.trans (k3.mono b2.size)
  have c13 := Blk.cell x3 13 (v := .int .u64 n.m) rfl
  have c16 := Blk.cell x3 16 (v := .int .u32 n.pi) rfl
  have c17 := Blk.cell x3 17 (v := .int .i64 n.pn) rfl
  have c19 := Blk.cell x3 19 (v := .int .u32 n.l) rfl
  have c20 := Blk.cell x3 20 (v := .int .u32 n.l2) rfl
  have hz := x3.lt
  clear x2 x3 k3 b2 hq hN
  have HV' := HV.out
  cases b with
  | false =>
    rw [if_pos rfl] at HV'
    subst HV'
    go_wp2
    go_ret
    exact ⟨rfl, b3⟩
  | true =>
    rw [if_neg (by simp)] at HV'
    have HV := Lib.hid HV'
    clear HV'
    by_cases h1 : 281474976710655 < n.m
    · have hx := HV.out
      rw [if_pos (.inl h1)] at hx
      subst hx
      have hcl := clean_any n.pi n.pn w3
      go_wp2_with (go_at_call 35; refine hcl.mono ?_; rintro e w4 ⟨rfl, k4⟩; obtain ⟨hc, hf⟩ := bcell k4; have z4 := Nat.lt_of_lt_of_le hz k4.size; have b4 := b3.trans (k4.mono b3.size); clear hcl)
      go_ret
      exact ⟨rfl, by go_grown⟩
    · by_cases h2 : 16777215 < n.l
      · have hx := HV.out
        rw [if_pos (.inr (.inl h2))] at hx
        subst hx
        have hcl := clean_any n.pi n.pn w3
        go_wp2_with (go_at_call 35; refine hcl.mono ?_; rintro e w4 ⟨rfl, k4⟩; obtain ⟨hc, hf⟩ := bcell k4; have z4 := Nat.lt_of_lt_of_le hz k4.size; have b4 := b3.trans (k4.mono b3.size); clear hcl)
        go_ret
        exact ⟨rfl, by go_grown⟩
      · by_cases h3 : 16777215 < n.l2
        · have hx := HV.out
          rw [if_pos (.inr (.inr (.inl h3)))] at hx
          subst hx
          have hcl := clean_any n.pi n.pn w3
          go_wp2_with (go_at_call 35; refine hcl.mono ?_; rintro e w4 ⟨rfl, k4⟩; obtain ⟨hc, hf⟩ := bcell k4; have z4 := Nat.lt_of_lt_of_le hz k4.size; have b4 := b3.trans (k4.mono b3.size); clear hcl)
          go_ret
          exact ⟨rfl, by go_grown⟩
        · cases hv : vld n.pn
          · have hx := HV.out
            rw [if_pos (.inr (.inr (.inr hv)))] at hx
            subst hx
            have hcl := clean_no n.pi n.pn hv w3
            have HVV := Lib.hid hv
            clear hv
            go_wp2_with (go_at_call 35; refine hcl.mono ?_; rintro e w4 ⟨rfl, k4⟩; obtain ⟨hc, hf⟩ := bcell k4; have z4 := Nat.lt_of_lt_of_le hz k4.size; have b4 := b3.trans (k4.mono b3.size); clear hcl)
            go_ret
            exact ⟨rfl, by go_grown⟩
          · have hx := HV.out
            rw [if_neg (by rintro (q | q | q | q)
                           · exact h1 q
                           · exact h2 q
                           · exact h3 q
                           · rw [hv] at q; cases q)] at hx
            have hcl := clean_yes n.pi n.pn hv w3
            have HVV := Lib.hid hv
            have hp := fun w => eqP_top n.pi n.pn (cln n.pi n.pn) n.pn w
            clear hv HV
            cases hc : ((n.pi == cln n.pi n.pn) && (n.pn == n.pn))
            · rw [if_pos hc] at hx
              subst hx
              rw [hc] at hp
              clear hc
              go_wp2_with (go_at_call 35; refine hcl.mono ?_; rintro e w4 ⟨rfl, k4⟩; obtain ⟨hc, hf⟩ := bcell k4; have z4 := Nat.lt_of_lt_of_le hz k4.size; have b4 := b3.trans (k4.mono b3.size); clear hcl)
              go_ret
              exact ⟨rfl, by go_grown⟩
            · rw [if_neg (by rw [hc]; simp)] at hx
              subst hx
              rw [hc] at hp
              clear hc
              go_wp2_with (go_at_call 35; refine hcl.mono ?_; rintro e w4 ⟨rfl, k4⟩; obtain ⟨hc, hf⟩ := bcell k4; have z4 := Nat.lt_of_lt_of_le hz k4.size; have b4 := b3.trans (k4.mono b3.size); clear hcl)
              go_ret
              exact ⟨rfl, by go_grown⟩
set_option maxHeartbeats 4000000 in
theorem chk_prefix_ (n : NL) (hk : n.k = 5) (w : World) : Calls Try.prog 15 #[n.v] w fun r w' => r = .returned (.int .i64 n.chk) ∧ Below w.heap.size w w' := by
  have hL : lay n.k = some 97 := by rw [hk]; rfl
  have hM : n.norm = n.prefix_ := by unfold NL.norm; rw [hk]; rfl
  have hl := fun w => layout_is n.k w
  rw [hL] at hl
  unfold layV at hl
  have hN := fun w => prefix_is n w
  have hq := fun w => eqN n n.norm w
  rw [← hM] at hN
  have HV := Lib.hid (show n.chk = if n.eqb n.norm = false then 3 else if 281474976710655 < n.m ∨ 16777215 < n.l ∨ 16777215 < n.l2 ∨ vld n.pn = false then 2 else if ((n.pi == cln n.pi n.pn) && (n.pn == n.pn)) = false then 3 else 0 by unfold NL.chk; rw [if_neg (by rw [hL]; simp)])
  have hme : ∀ j w, Sem.run Try.prog (method (j + 1) 97 (.agg #[]) "leafmesh/nlri.normal") w = .ok (132, .agg #[]) w := fun j w => by kernel_rfl
  have hcf : ∀ x w, Sem.run Try.prog (callFunc 132 #[.agg #[], x]) w = .ok (.enter 132 #[.agg #[], x]) w := fun x w => by kernel_rfl
  generalize n.eqb n.norm = b at hq HV
  generalize n.norm = m at hN hq
  clear hM hL hk
  generalize n.chk = x at HV ⊢
  unfold NL.v at hN ⊢
  go_enter Try.func15, Try.ntmps15
  go_wp2_with (first
    | (refine at_box rfl _ rfl n rfl ?_; rintro w1 ⟨x1, k1, s1⟩; have c0 := Blk.cell x1 0 (v := .int .i64 n.k) rfl)
    | (go_at_call 29; refine (hl w1).mono ?_; rintro e w2 ⟨rfl, k2⟩; have b2 := k1.trans (k2.mono k1.size); have x2 := x1.below k2 x1.lt; clear c0 k1 k2 x1 hl))
  refine wp_region_qb (by kernel_rfl) (by kernel_rfl) ?_
  repeat (first
    | go_big_quiet_skip
    | (go_big_quiet_want; refine q_load (.tmp 1) rfl w.heap.size rfl n x2.regrown ?_; go_simp; go_big_quiet_on)
    | (go_big_quiet_want; go_big_quiet_op; first | go_big_quiet_on | go_big_quiet_call (with_reducible exact Calls.regrown_of (hN _))))
  refine wpQuiet_nil ?_
  intro w3 k3
  have x3 := x2.below k3 x2.lt
  have b3 := b2.trans (k3.mono b2.size)
  have c13 := Blk.cell x3 13 (v := .int .u64 n.m) rfl
  have c16 := Blk.cell x3 16 (v := .int .u32 n.pi) rfl
  have c17 := Blk.cell x3 17 (v := .int .i64 n.pn) rfl
  have c19 := Blk.cell x3 19 (v := .int .u32 n.l) rfl
  have c20 := Blk.cell x3 20 (v := .int .u32 n.l2) rfl
  have hz := x3.lt
  clear x2 x3 k3 b2 hq hN
  have HV' := HV.out
  cases b with
  | false =>
    rw [if_pos rfl] at HV'
    subst HV'
    go_wp2
    go_ret
    exact ⟨rfl, b3⟩
  | true =>
    rw [if_neg (by simp)] at HV'
    have HV := Lib.hid HV'
    clear HV'
    by_cases h1 : 281474976710655 < n.m
    · have hx := HV.out
      rw [if_pos (.inl h1)] at hx
      subst hx
      have hcl := clean_any n.pi n.pn w3
      go_wp2_with (go_at_call 35; refine hcl.mono ?_; rintro e w4 ⟨rfl, k4⟩; obtain ⟨hc, hf⟩ := bcell k4; have z4 := Nat.lt_of_lt_of_le hz k4.size; have b4 := b3.trans (k4.mono b3.size); clear hcl)
      go_ret
      exact ⟨rfl, by go_grown⟩
    · by_cases h2 : 16777215 < n.l
      · have hx := HV.out
        rw [if_pos (.inr (.inl h2))] at hx
        subst hx
        have hcl := clean_any n.pi n.pn w3
        go_wp2_with (go_at_call 35; refine hcl.mono ?_; rintro e w4 ⟨rfl, k4⟩; obtain ⟨hc, hf⟩ := bcell k4; have z4 := Nat.lt_of_lt_of_le hz k4.size; have b4 := b3.trans (k4.mono b3.size); clear hcl)
        go_ret
        exact ⟨rfl, by go_grown⟩
      · by_cases h3 : 16777215 < n.l2
        · have hx := HV.out
          rw [if_pos (.inr (.inr (.inl h3)))] at hx
          subst hx
          have hcl := clean_any n.pi n.pn w3
          go_wp2_with (go_at_call 35; refine hcl.mono ?_; rintro e w4 ⟨rfl, k4⟩; obtain ⟨hc, hf⟩ := bcell k4; have z4 := Nat.lt_of_lt_of_le hz k4.size; have b4 := b3.trans (k4.mono b3.size); clear hcl)
          go_ret
          exact ⟨rfl, by go_grown⟩
        · cases hv : vld n.pn
          · have hx := HV.out
            rw [if_pos (.inr (.inr (.inr hv)))] at hx
            subst hx
            have hcl := clean_no n.pi n.pn hv w3
            have HVV := Lib.hid hv
            clear hv
            go_wp2_with (go_at_call 35; refine hcl.mono ?_; rintro e w4 ⟨rfl, k4⟩; obtain ⟨hc, hf⟩ := bcell k4; have z4 := Nat.lt_of_lt_of_le hz k4.size; have b4 := b3.trans (k4.mono b3.size); clear hcl)
            go_ret
            exact ⟨rfl, by go_grown⟩
          · have hx := HV.out
            rw [if_neg (by rintro (q | q | q | q)
                           · exact h1 q
                           · exact h2 q
                           · exact h3 q
                           · rw [hv] at q; cases q)] at hx
            have hcl := clean_yes n.pi n.pn hv w3
            have HVV := Lib.hid hv
            have hp := fun w => eqP_top n.pi n.pn (cln n.pi n.pn) n.pn w
            clear hv HV
            cases hc : ((n.pi == cln n.pi n.pn) && (n.pn == n.pn))
            · rw [if_pos hc] at hx
              subst hx
              rw [hc] at hp
              clear hc
              go_wp2_with (go_at_call 35; refine hcl.mono ?_; rintro e w4 ⟨rfl, k4⟩; obtain ⟨hc, hf⟩ := bcell k4; have z4 := Nat.lt_of_lt_of_le hz k4.size; have b4 := b3.trans (k4.mono b3.size); clear hcl)
              go_ret
              exact ⟨rfl, by go_grown⟩
            · rw [if_neg (by rw [hc]; simp)] at hx
              subst hx
              rw [hc] at hp
              clear hc
              go_wp2_with (go_at_call 35; refine hcl.mono ?_; rintro e w4 ⟨rfl, k4⟩; obtain ⟨hc, hf⟩ := bcell k4; have z4 := Nat.lt_of_lt_of_le hz k4.size; have b4 := b3.trans (k4.mono b3.size); clear hcl)
              go_ret
              exact ⟨rfl, by go_grown⟩
end Go.Proofs.Ytejcclcckgdbgaa
