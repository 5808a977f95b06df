/- Why a packet is not valid: the program. No condition. -/
import Derived.Test.YtgpjelcihmbiiaaVKt
namespace Go.Proofs.Ytgpjelcihmbiiaa
open Go.RowKit
set_option linter.unusedVariables false
set_option linter.unusedSimpArgs false
set_option maxRecDepth 100000

theorem vupTo_is (m n : Int) (w : World) : Calls Try.prog 60 #[.int .i64 m, .int .i64 n] w fun e w' => e = .returned (.bool (up m n)) ∧ w' = w := by
  by_cases h : 0 ≤ n
  · have b0 : decide (0 ≤ n) = true := by simpa using h
    have e : up m n = decide (n ≤ m) := by simp [up, h]
    rw [e]
    go_enter Try.func60, Try.ntmps60
    go_wp2
    go_ret
    exact ⟨rfl, rfl⟩
  · have b0 : decide (0 ≤ n) = false := by simpa using h
    have e : up m n = false := by simp [up, h]
    rw [e]
    go_enter Try.func60, Try.ntmps60
    go_wp2
    go_ret
    exact ⟨rfl, rfl⟩
set_option maxHeartbeats 2000000 in
theorem vck1 (src dst ttl ent vni mark : Int) (f : FL) (h1 : up 255 ttl = false) (w : World) : Calls Try.prog 32 #[PL.v ⟨src, dst, ttl, ent, vni, mark, f⟩] w fun e w' => e = .returned (.int .i64 2) ∧ Below w.heap.size w w' := by
  have U1 := fun w => vupTo_is 255 ttl w
  rw [h1] at U1
  unfold PL.v
  go_enter Try.func32, Try.ntmps32
  go_wp2_with (first
    | (refine at_box rfl 55 _ rfl (PL.cs ⟨src, dst, ttl, ent, vni, mark, f⟩) rfl ?_; rintro w1 H1 k1 s1; have c2 := H1.cell 2 (v := .int .i64 ttl) rfl; have c3 := H1.cell 3 (v := .int .i64 ent) rfl; have c4 := H1.cell 4 (v := .int .u32 vni) rfl; have c5 := H1.cell 5 (v := .int .u32 mark) rfl)
    | (go_at_call 60; refine (U1 _).mono ?_; rintro e w' ⟨rfl, hw⟩; obtain rfl := hw.symm))
  go_ret
  exact ⟨rfl, k1⟩
set_option maxHeartbeats 2000000 in
theorem vck2 (src dst ttl ent vni mark : Int) (f : FL) (h1 : up 255 ttl = true) (h2 : up 65535 ent = false) (w : World) : Calls Try.prog 32 #[PL.v ⟨src, dst, ttl, ent, vni, mark, f⟩] w fun e w' => e = .returned (.int .i64 2) ∧ Below w.heap.size w w' := by
  have U1 := fun w => vupTo_is 255 ttl w
  rw [h1] at U1
  have U2 := fun w => vupTo_is 65535 ent w
  rw [h2] at U2
  unfold PL.v
  go_enter Try.func32, Try.ntmps32
  go_wp2_with (first
    | (refine at_box rfl 55 _ rfl (PL.cs ⟨src, dst, ttl, ent, vni, mark, f⟩) rfl ?_; rintro w1 H1 k1 s1; have c2 := H1.cell 2 (v := .int .i64 ttl) rfl; have c3 := H1.cell 3 (v := .int .i64 ent) rfl; have c4 := H1.cell 4 (v := .int .u32 vni) rfl; have c5 := H1.cell 5 (v := .int .u32 mark) rfl)
    | (go_at_call 60; (first | (with_reducible refine (U1 _).mono ?_) | (with_reducible refine (U2 _).mono ?_)); rintro e w' ⟨rfl, hw⟩; obtain rfl := hw.symm))
  go_ret
  exact ⟨rfl, k1⟩
set_option maxHeartbeats 2000000 in
theorem vck3 (src dst ttl ent vni mark : Int) (f : FL) (h1 : up 255 ttl = true) (h2 : up 65535 ent = true) (h3 : 16777215 < vni) (w : World) : Calls Try.prog 32 #[PL.v ⟨src, dst, ttl, ent, vni, mark, f⟩] w fun e w' => e = .returned (.int .i64 2) ∧ Below w.heap.size w w' := by
  have U1 := fun w => vupTo_is 255 ttl w
  rw [h1] at U1
  have U2 := fun w => vupTo_is 65535 ent w
  rw [h2] at U2
  have q3 : decide ((16777215 : Int) < vni) = true := by simp; omega
  clear h3
  unfold PL.v
  go_enter Try.func32, Try.ntmps32
  go_wp2_with (first
    | (refine at_box rfl 55 _ rfl (PL.cs ⟨src, dst, ttl, ent, vni, mark, f⟩) rfl ?_; rintro w1 H1 k1 s1; have c2 := H1.cell 2 (v := .int .i64 ttl) rfl; have c3 := H1.cell 3 (v := .int .i64 ent) rfl; have c4 := H1.cell 4 (v := .int .u32 vni) rfl; have c5 := H1.cell 5 (v := .int .u32 mark) rfl)
    | (go_at_call 60; (first | (with_reducible refine (U1 _).mono ?_) | (with_reducible refine (U2 _).mono ?_)); rintro e w' ⟨rfl, hw⟩; obtain rfl := hw.symm))
  go_ret
  exact ⟨rfl, k1⟩
set_option maxHeartbeats 2000000 in
theorem vck4 (src dst ttl ent vni mark : Int) (f : FL) (h1 : up 255 ttl = true) (h2 : up 65535 ent = true) (h3 : vni ≤ 16777215) (h4 : 16777215 < mark) (w : World) : Calls Try.prog 32 #[PL.v ⟨src, dst, ttl, ent, vni, mark, f⟩] w fun e w' => e = .returned (.int .i64 2) ∧ Below w.heap.size w w' := by
  have U1 := fun w => vupTo_is 255 ttl w
  rw [h1] at U1
  have U2 := fun w => vupTo_is 65535 ent w
  rw [h2] at U2
  have q3 : decide ((16777215 : Int) < vni) = false := by simp; omega
  have q4 : decide ((16777215 : Int) < mark) = true := by simp; omega
  clear h3 h4
  unfold PL.v
  go_enter Try.func32, Try.ntmps32
  go_wp2_with (first
    | (refine at_box rfl 55 _ rfl (PL.cs ⟨src, dst, ttl, ent, vni, mark, f⟩) rfl ?_; rintro w1 H1 k1 s1; have c2 := H1.cell 2 (v := .int .i64 ttl) rfl; have c3 := H1.cell 3 (v := .int .i64 ent) rfl; have c4 := H1.cell 4 (v := .int .u32 vni) rfl; have c5 := H1.cell 5 (v := .int .u32 mark) rfl)
    | (go_at_call 60; (first | (with_reducible refine (U1 _).mono ?_) | (with_reducible refine (U2 _).mono ?_)); rintro e w' ⟨rfl, hw⟩; obtain rfl := hw.symm))
  go_ret
  exact ⟨rfl, k1⟩
set_option maxHeartbeats 2000000 in
theorem vck5 (src dst ttl ent vni mark : Int) (f : FL) (h1 : up 255 ttl = true) (h2 : up 65535 ent = true) (h3 : vni ≤ 16777215) (h4 : mark ≤ 16777215) (w : World) : Calls Try.prog 32 #[PL.v ⟨src, dst, ttl, ent, vni, mark, f⟩] w fun e w' => e = .returned (.int .i64 f.chk) ∧ Below w.heap.size w w' := by
  have U1 := fun w => vupTo_is 255 ttl w
  rw [h1] at U1
  have U2 := fun w => vupTo_is 65535 ent w
  rw [h2] at U2
  have q3 : decide ((16777215 : Int) < vni) = false := by simp; omega
  have q4 : decide ((16777215 : Int) < mark) = false := by simp; omega
  have HC := fun w => check_is f w
  generalize f.chk = y at *
  unfold FL.v at HC
  clear h3 h4
  unfold PL.v
  go_enter Try.func32, Try.ntmps32
  go_wp2_with (first
    | (refine at_box rfl 55 _ rfl (PL.cs ⟨src, dst, ttl, ent, vni, mark, f⟩) rfl ?_; rintro w1 H1 k1 s1; have c2 := H1.cell 2 (v := .int .i64 ttl) rfl; have c3 := H1.cell 3 (v := .int .i64 ent) rfl; have c4 := H1.cell 4 (v := .int .u32 vni) rfl; have c5 := H1.cell 5 (v := .int .u32 mark) rfl)
    | (go_at_call 60; (first | (with_reducible refine (U1 _).mono ?_) | (with_reducible refine (U2 _).mono ?_)); rintro e w' ⟨rfl, hw⟩; obtain rfl := hw.symm)
    | (refine at_mid rfl 36 _ rfl w.heap.size 6 rfl H1 (FL.cs f) rfl _ Try.underlying36 rfl szF ?_))
  go_at_call 19
  refine (HC w1).mono ?_
  rintro e w2 ⟨rfl, k2⟩
  have b2 := k1.trans (k2.mono k1.size)
  clear k1 k2 c2 c3 c4 c5 H1
  go_wp2
  go_ret
  exact ⟨rfl, b2⟩
theorem vchk_two {p : PL} (h : ¬ (up 255 p.ttl = true ∧ up 65535 p.ent = true ∧ p.vni ≤ 16777215 ∧ p.mark ≤ 16777215)) : p.chk = 2 := by
  unfold PL.chk
  rw [if_neg]
  intro q
  simp only [PL.hd, Bool.and_eq_true, decide_eq_true_eq] at q
  exact h q
theorem vchk_in {p : PL} (h1 : up 255 p.ttl = true) (h2 : up 65535 p.ent = true) (h3 : p.vni ≤ 16777215) (h4 : p.mark ≤ 16777215) : p.chk = p.f.chk := by
  unfold PL.chk
  rw [if_pos]
  simp [PL.hd, h1, h2, h3, h4]
theorem vcheck_is (p : PL) (w : World) : Calls Try.prog 32 #[p.v] w fun e w' => e = .returned (.int .i64 p.chk) ∧ Below w.heap.size w w' := by
  obtain ⟨src, dst, ttl, ent, vni, mark, f⟩ := p
  cases h1 : up 255 ttl
  · rw [vchk_two (by simp [h1])]
    exact vck1 _ _ _ _ _ _ _ h1 w
  cases h2 : up 65535 ent
  · rw [vchk_two (by simp [h2])]
    exact vck2 _ _ _ _ _ _ _ h1 h2 w
  by_cases h3 : vni ≤ 16777215
  · by_cases h4 : mark ≤ 16777215
    · rw [vchk_in h1 h2 h3 h4]
      exact vck5 _ _ _ _ _ _ _ h1 h2 h3 h4 w
    · rw [vchk_two (by simp; omega)]
      exact vck4 _ _ _ _ _ _ _ h1 h2 h3 (by omega) w
  · rw [vchk_two (by simp; omega)]
    exact vck3 _ _ _ _ _ _ _ h1 h2 (by omega) w
end Go.Proofs.Ytgpjelcihmbiiaa
