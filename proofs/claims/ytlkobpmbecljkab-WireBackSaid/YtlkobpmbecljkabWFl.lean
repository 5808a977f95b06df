/- WireFaults: the law returns true. No condition. -/
import Derived.Test.YtlkobpmbecljkabWQb
import Derived.LoopTactic
namespace Go.Proofs.Ytlkobpmbecljkab
open Go.RowKit Go.Sort
set_option linter.unusedVariables false
set_option linter.unusedSimpArgs false
set_option maxRecDepth 100000

def I64 (x : Int) : Prop := -9223372036854775808 ≤ x ∧ x ≤ 9223372036854775807
/-- A slice of pairs of ints. -/
def Prs (w : World) (v : Value) (m : Nat) (K N : Nat → Int) : Prop := ∃ a c, v = .slice a m c ∧ ∀ i, i < m → (∃ b o, a = some ⟨b, o, none⟩ ∧ w.cell? ⟨b, o + i * 2, none⟩ = some (.int .i64 (K i)) ∧ w.cell? ⟨b, o + i * 2 + 1, none⟩ = some (.int .i64 (N i))) ∧ I64 (K i) ∧ I64 (N i)

theorem faults_long (w : World) (v0 v3 : Value) (xs : List Int) (m : Nat) (K N : Nat → Int) (s e : Int) (h0 : Seg w v0 xs) (h3 : Prs w v3 m K N) (hl : 400 < xs.length ∨ 60 < m)  :
    Calls Try.prog 8 #[v0, .int .i64 s, .int .i64 e, v3] w fun e w' => e = .returned (.bool true) ∧ Below w.heap.size w w' := by
  obtain ⟨a, c, rfl, -, -⟩ := h0
  obtain ⟨a3, c3, rfl, -⟩ := h3
  by_cases h : 400 < xs.length
  · have hq : (400 : Int) < xs.length := by omega
    go_enter Try.func8, Try.ntmps8
    go_wp2_with fail
    go_at_call 9
    refine (lives_is w).mono ?_
    rintro e' w1 ⟨rfl, B1⟩
    go_wp2
    go_ret
    exact ⟨rfl, B1⟩
  · have hq : ¬ (400 : Int) < xs.length := by omega
    have hr : (60 : Int) < m := by omega
    go_enter Try.func8, Try.ntmps8
    go_wp2_with fail
    go_at_call 9
    refine (lives_is w).mono ?_
    rintro e' w1 ⟨rfl, B1⟩
    go_wp2
    go_ret
    exact ⟨rfl, B1⟩

set_option maxHeartbeats 4000000 in
theorem faults_walk (w : World) (v0 v3 : Value) (xs : List Int) (m : Nat) (K N : Nat → Int) (s e : Int) (h0 : Seg w v0 xs) (ho : Oct xs) (h3 : Prs w v3 m K N) (hl : xs.length ≤ 400) (hm : m ≤ 60) (hs : I64 s) (he : I64 e) :
    Calls Try.prog 8 #[v0, .int .i64 s, .int .i64 e, v3] w fun e w' => e = .returned (.bool true) ∧ Below w.heap.size w w' := by
  have S0 := h0
  obtain ⟨a, c, rfl, -, -⟩ := h0
  obtain ⟨a3, c3, rfl, h3⟩ := h3
  have q1 : ¬ (400 : Int) < xs.length := by omega
  have q2 : ¬ (60 : Int) < m := by omega
  go_enter Try.func8, Try.ntmps8
  go_wp2_with fail
  go_at_call 9
  refine (lives_is w).mono ?_
  rintro e' w1 ⟨rfl, B1⟩
  go_wp2_with fail
  go_at_call 14
  refine (rd_New w1 _ xs (S0.below B1) ho (by omega)).mono ?_
  rintro e' w2 ⟨b, rfl, hb0, R2, k2⟩
  have B2 := B1.trans (k2.mono B1.size)
  have hb : w.heap.size ≤ b := Nat.le_trans B1.size hb0
  clear B1 k2 hb0
  go_wp2_with fail
  go_at_call 30
  rw [show (xs.length : Int) + 1 = ((xs.length + 1 : Nat) : Int) from rfl]
  refine (pick_is s (xs.length + 1) (by omega) (by omega) hs w2).mono ?_
  rintro e' wx ⟨p, rfl, hp, hw⟩
  obtain rfl := hw.symm
  go_wp2_with fail
  go_at_call 26
  refine (rd_Bytes w2 b _ p R2).mono ?_
  rintro e' w3 ⟨v3, rfl, -, R3, k3⟩
  have B3 := But.below B2 k3 hb B2.size
  have e3 : RS.next ⟨0, 0, xs, 0, 0⟩ p = ⟨0, p, xs, 0, 0⟩ := by
    unfold RS.next
    rw [if_pos ⟨rfl, by omega, by show (p : Int) ≤ (xs.length : Int) - ((0 : Nat) : Int); omega⟩]
    simp [RS.adv]
  rw [e3] at R3
  clear B2 k3 R2 e3
  go_wp2_with fail
  go_at_call 17
  refine (rd_At w3 b _ R3).mono ?_
  rintro e' wx ⟨rfl, hw⟩
  obtain rfl := hw.symm
  rw [show ((0 : Nat) : Int) + ((p : Nat) : Int) = (p : Int) by omega]
  go_wp2_with fail
  go_at_call 20
  refine (rd_Fail w3 b _ 0 R3).mono ?_
  rintro e' w4 ⟨rfl, R4, k4⟩
  have B4 := But.below B3 k4 hb B3.size
  rw [show RS.fail ⟨0, p, xs, 0, 0⟩ 0 = ⟨0, p, xs, 0, 0⟩ from rfl] at R4
  clear B3 k4 R3
  go_wp2_with fail
  go_at_call 19
  refine (rd_Fault w4 b _ R4).mono ?_
  rintro e' w5 ⟨rfl, k5⟩
  have B5 := B4.trans (k5.mono B4.size)
  have R5 := R4.below k5
  clear B4 k5 R4
  go_wp2_with fail
  go_at_call 30
  refine (pick_is e 20 (by omega) (by omega) he w5).mono ?_
  rintro e' wx ⟨f, rfl, hf, hw⟩
  obtain rfl := hw.symm
  go_wp2_with fail
  go_at_call 20
  refine (rd_Fail w5 b _ (1 + f) R5).mono ?_
  rintro e' w6 ⟨rfl, R6, k6⟩
  have B6 := But.below B5 k6 hb B5.size
  have e6 : RS.fail ⟨0, p, xs, 0, 0⟩ (1 + f) = ⟨0, p, xs, 1 + f, p⟩ := by
    unfold RS.fail
    rw [if_pos ⟨rfl, by omega⟩]
    simp
  rw [e6] at R6
  clear B5 k6 R5 e6
  have E7 := Blk.new w6 39 [.int .i64 (1 + f), .int .i64 p]
  have a7 : Below w6.heap.size w6 (w6.alloc (.cells [.int .i64 (1 + f), .int .i64 p].toArray 39)) := (Below.refl _ _).alloc (Nat.le_refl _) _
  have B7 := B6.trans (a7.mono B6.size)
  have R7 := R6.below a7
  clear B6 R6 a7
  go_wp2_with fail
  generalize hX : w6.alloc (.cells #[.int .i64 (1 + f), .int .i64 p] 39) = w7 at E7 B7 R7 ⊢
  generalize w6.heap.size = d at E7 ⊢
  clear hX
  have hdb : d ≠ b := by
    obtain ⟨⟨u, hu, -⟩, -⟩ := R7
    exact E7.ne hu (by decide)
  have her : (1 + (f : Int)) ≠ 0 := by omega
  go_loopw [12] (fun vi wr => ∃ i : Nat, i ≤ m ∧ vi = .int .i64 i ∧ Rdr wr b ⟨0, p, xs, 1 + f, p⟩ ∧ Below w.heap.size w wr ∧ Blk wr d 39 [.int .i64 (1 + f), .int .i64 p])
    (fun vi _ => m - (intOf vi).toNat)
  case atStart => exact ⟨0, Nat.zero_le _, rfl, R7, B7, E7⟩
  case round =>
    obtain ⟨i, hi, rfl, hR, hB, hE⟩ := hrel
    by_cases hlt : i < m
    · obtain ⟨⟨g, o, rfl, ck, cn⟩, wk, wn⟩ := h3 i hlt
      have ck' := (hB.cell (p := ⟨g, o + i * 2, none⟩) (block_lt_of_cell ck)).trans ck
      have cn' := (hB.cell (p := ⟨g, o + i * 2 + 1, none⟩) (block_lt_of_cell cn)).trans cn
      have hil : (i : Int) < m := by omega
      clear ck cn h3
      go_wp2_with fail
      go_at_call 30
      refine (pick_is (K i) 11 (by omega) (by omega) wk _).mono ?_
      rintro e' wx ⟨k, rfl, hk, hw⟩
      obtain rfl := hw.symm
      by_cases h6 : k < 6
      · have z6 : (k : Int) < 6 := by omega
        go_wp2_with fail
        go_at_call 40
        refine (get_is _ b _ k h6 hR).mono ?_
        rintro e' w8 ⟨rfl, R8, k8⟩
        have B8 := But.below hB k8 hb hB.size
        have E8 := k8.blk hE hE.lt hdb
        rw [RS.bad_next (R := ⟨0, p, xs, 1 + f, p⟩) her] at R8
        rw [RS.bad_part (R := ⟨0, p, xs, 1 + f, p⟩) her, show be [] = 0 from rfl]
        clear hR hB hE k8 ck' cn'
        go_wp2_with fail
        refine wp_region_qb (by kernel_rfl) (by kernel_rfl) ?_
        have kd0 := cell_regrown (E8.cell 0 (v := .int .i64 (1 + f)) rfl)
        have kd1 := cell_regrown (E8.cell 1 (v := .int .i64 p) rfl)
        repeat (go_big_quiet_step (first | exact Calls.regrown_of (rd_Fault _ b _ (R8.grown _ _)) | exact regrown_same ((rd_At _ b _ (R8.grown _ _)).mono fun _ _ h => ⟨h.1, h.2.symm⟩) | exact Calls.regrown_of (rd_Left _ b _ (R8.grown _ _))))
        refine wpQuiet_nil ?_
        intro w9 k9
        have R9 := R8.below k9
        have B9 := B8.trans (k9.mono B8.size)
        have E9 := E8.below k9 E8.lt
        clear R8 B8 E8 k9 kd0 kd1
        go_wp2
        exact ⟨⟨i + 1, hlt, rfl, R9, B9, E9⟩, by simp [intOf]; omega⟩
      · have z6 : ¬ (k : Int) < 6 := by omega
        by_cases h7 : k = 6
        · subst h7
          go_wp2_with fail
          go_at_call 26
          refine (rd_Bytes _ b _ (N i) hR).mono ?_
          rintro e' w8 ⟨v8, rfl, D8, R8, k8⟩
          have B8 := But.below hB k8 hb hB.size
          have E8 := k8.blk hE hE.lt hdb
          rw [RS.bad_next (R := ⟨0, p, xs, 1 + f, p⟩) her] at R8
          rw [RS.bad_part (R := ⟨0, p, xs, 1 + f, p⟩) her] at D8
          obtain ⟨a8, c8, rfl⟩ := D8.shape
          clear D8
          clear hR hB hE k8 ck' cn'
          go_wp2_with fail
          refine wp_region_qb (by kernel_rfl) (by kernel_rfl) ?_
          have kd0 := cell_regrown (E8.cell 0 (v := .int .i64 (1 + f)) rfl)
          have kd1 := cell_regrown (E8.cell 1 (v := .int .i64 p) rfl)
          repeat (go_big_quiet_step (first | exact Calls.regrown_of (rd_Fault _ b _ (R8.grown _ _)) | exact regrown_same ((rd_At _ b _ (R8.grown _ _)).mono fun _ _ h => ⟨h.1, h.2.symm⟩) | exact Calls.regrown_of (rd_Left _ b _ (R8.grown _ _))))
          refine wpQuiet_nil ?_
          intro w9 k9
          have R9 := R8.below k9
          have B9 := B8.trans (k9.mono B8.size)
          have E9 := E8.below k9 E8.lt
          clear R8 B8 E8 k9 kd0 kd1
          go_wp2
          exact ⟨⟨i + 1, hlt, rfl, R9, B9, E9⟩, by simp [intOf]; omega⟩
        · have z7 : ((k : Int) == 6) = false := by simp; omega
          by_cases h9 : k < 9
          · have z9 : (k : Int) < 9 := by omega
            go_wp2_with fail
            go_at_call 16
            refine (rd_Sub _ b _ (N i) hR).mono ?_
            rintro e' w8 ⟨s8, rfl, -, S8, R8, k8⟩
            have B8 := But.below hB k8 hb hB.size
            have E8 := k8.blk hE hE.lt hdb
            rw [RS.bad_next (R := ⟨0, p, xs, 1 + f, p⟩) her] at R8
            rw [show RS.sub ⟨0, p, xs, 1 + f, p⟩ (N i) = ⟨0 + p, 0, [], 1 + f, p⟩ by unfold RS.sub; rw [RS.bad_part (R := ⟨0, p, xs, 1 + f, p⟩) her, RS.bad_next (R := ⟨0, p, xs, 1 + f, p⟩) her]] at S8
            clear hR hB hE k8 ck' cn'
            go_wp2_with fail
            refine wp_region_qb (by kernel_rfl) (by kernel_rfl) ?_
            have kd0 := cell_regrown (E8.cell 0 (v := .int .i64 (1 + f)) rfl)
            have kd1 := cell_regrown (E8.cell 1 (v := .int .i64 p) rfl)
            repeat (go_big_quiet_step (first | exact Calls.regrown_of (rd_Fault _ s8 _ (S8.grown _ _)) | exact Calls.regrown_of (rd_Left _ s8 _ (S8.grown _ _))))
            refine wpQuiet_nil ?_
            intro w10 k10
            have R10 := R8.below k10
            have B10 := B8.trans (k10.mono B8.size)
            have E10 := E8.below k10 E8.lt
            clear R8 B8 E8 S8 k10 kd0 kd1
            go_wp2_with fail
            refine wp_region_qb (by kernel_rfl) (by kernel_rfl) ?_
            have kd0 := cell_regrown (E10.cell 0 (v := .int .i64 (1 + f)) rfl)
            have kd1 := cell_regrown (E10.cell 1 (v := .int .i64 p) rfl)
            repeat (go_big_quiet_step (first | exact Calls.regrown_of (rd_Fault _ b _ (R10.grown _ _)) | exact regrown_same ((rd_At _ b _ (R10.grown _ _)).mono fun _ _ h => ⟨h.1, h.2.symm⟩) | exact Calls.regrown_of (rd_Left _ b _ (R10.grown _ _))))
            refine wpQuiet_nil ?_
            intro w9 k9
            have R9 := R10.below k9
            have B9 := B10.trans (k9.mono B10.size)
            have E9 := E10.below k9 E10.lt
            clear R10 B10 E10 k9 kd0 kd1
            go_wp2
            exact ⟨⟨i + 1, hlt, rfl, R9, B9, E9⟩, by simp [intOf]; omega⟩
          · have z9 : ¬ (k : Int) < 9 := by omega
            go_wp2_with fail
            go_at_call 20
            refine (rd_Fail _ b _ (N i) hR).mono ?_
            rintro e' w8 ⟨rfl, R8, k8⟩
            have B8 := But.below hB k8 hb hB.size
            have E8 := k8.blk hE hE.lt hdb
            rw [RS.bad_fail (R := ⟨0, p, xs, 1 + f, p⟩) her] at R8
            clear hR hB hE k8 ck' cn'
            go_wp2_with fail
            refine wp_region_qb (by kernel_rfl) (by kernel_rfl) ?_
            have kd0 := cell_regrown (E8.cell 0 (v := .int .i64 (1 + f)) rfl)
            have kd1 := cell_regrown (E8.cell 1 (v := .int .i64 p) rfl)
            repeat (go_big_quiet_step (first | exact Calls.regrown_of (rd_Fault _ b _ (R8.grown _ _)) | exact regrown_same ((rd_At _ b _ (R8.grown _ _)).mono fun _ _ h => ⟨h.1, h.2.symm⟩) | exact Calls.regrown_of (rd_Left _ b _ (R8.grown _ _))))
            refine wpQuiet_nil ?_
            intro w9 k9
            have R9 := R8.below k9
            have B9 := B8.trans (k9.mono B8.size)
            have E9 := E8.below k9 E8.lt
            clear R8 B8 E8 k9 kd0 kd1
            go_wp2
            exact ⟨⟨i + 1, hlt, rfl, R9, B9, E9⟩, by simp [intOf]; omega⟩
    · obtain rfl : i = m := by omega
      clear h3
      go_wp2
      go_ret
      exact ⟨rfl, hB⟩
theorem faults_any (w : World) (v0 v3 : Value) (xs : List Int) (m : Nat) (K N : Nat → Int) (s e : Int) (h0 : Seg w v0 xs) (ho : Oct xs) (h3 : Prs w v3 m K N) (hs : I64 s) (he : I64 e) :
    Calls Try.prog 8 #[v0, .int .i64 s, .int .i64 e, v3] w fun e w' => e = .returned (.bool true) ∧ Below w.heap.size w w' := by
  by_cases hl : 400 < xs.length
  · exact faults_long w v0 v3 xs m K N s e h0 h3 (.inl hl)
  · by_cases hm : 60 < m
    · exact faults_long w v0 v3 xs m K N s e h0 h3 (.inr hm)
    · exact faults_walk w v0 v3 xs m K N s e h0 ho h3 (by omega) (by omega) hs he
end Go.Proofs.Ytlkobpmbecljkab
