/- The reference's Kind. No condition. -/
import Derived.Test.YtmajalobkcnobaaDoorCKnd
namespace Go.Proofs.YtmajalobkcnobaaDoor
open Go.RowKit Go.Sort
set_option linter.unusedVariables false
set_option linter.unusedSimpArgs false
set_option maxRecDepth 100000

def Sk1 (a b : Int) (k : Nat) : Prop := ∀ j, j < k → ¬ (khi (j + 1) = a ∧ klo (j + 1) = b)
theorem Sk1.step {a b : Int} {k : Nat} (h : Sk1 a b k) (hn : ¬ (khi (k + 1) = a ∧ klo (k + 1) = b)) : Sk1 a b (k + 1) := fun j hj => by
  rcases Nat.lt_succ_iff_lt_or_eq.1 hj with h' | rfl
  · exact h j h'
  · exact hn
theorem kd_none1 {a b : Int} (h : Sk1 a b 7) : kd a b = 0 := by
  have h1 := h 0 (by decide); have h2 := h 1 (by decide); have h3 := h 2 (by decide); have h4 := h 3 (by decide); have h5 := h 4 (by decide); have h6 := h 5 (by decide); have h7 := h 6 (by decide)
  simp only [khi, klo] at h1 h2 h3 h4 h5 h6 h7
  unfold kd
  repeat' split
  all_goals omega
theorem tb_cells (w : World) (e : Nat → Int) : ∀ k, k < 7 → ((w.alloc (.cells #[.int .u8 (e 0), .int .u8 (e 1), .int .u8 (e 2), .int .u8 (e 3), .int .u8 (e 4), .int .u8 (e 5), .int .u8 (e 6), .int .u8 (e 7)] 24)).alloc (.cells #[.int .u8 0, .int .u8 2, .int .u8 3, .int .u8 12, .int .u8 6, .int .u8 0, .int .u8 6, .int .u8 1, .int .u8 6, .int .u8 2, .int .u8 6, .int .u8 3, .int .u8 6, .int .u8 6] 79)).cell? ⟨w.heap.size + 1, k * 2, none⟩ = some (.int .u8 (khi (k + 1))) ∧ ((w.alloc (.cells #[.int .u8 (e 0), .int .u8 (e 1), .int .u8 (e 2), .int .u8 (e 3), .int .u8 (e 4), .int .u8 (e 5), .int .u8 (e 6), .int .u8 (e 7)] 24)).alloc (.cells #[.int .u8 0, .int .u8 2, .int .u8 3, .int .u8 12, .int .u8 6, .int .u8 0, .int .u8 6, .int .u8 1, .int .u8 6, .int .u8 2, .int .u8 6, .int .u8 3, .int .u8 6, .int .u8 6] 79)).cell? ⟨w.heap.size + 1, k * 2 + 1, none⟩ = some (.int .u8 (klo (k + 1))) := by
  intro k hk
  have hz : (w.alloc (.cells #[.int .u8 (e 0), .int .u8 (e 1), .int .u8 (e 2), .int .u8 (e 3), .int .u8 (e 4), .int .u8 (e 5), .int .u8 (e 6), .int .u8 (e 7)] 24)).heap.size = w.heap.size + 1 := by simp
  rw [← hz]
  rcases k with _ | _ | _ | _ | _ | _ | _ | k
  all_goals first | omega | exact ⟨World.cell?_alloc_at _ _ _ _ rfl, World.cell?_alloc_at _ _ _ _ rfl⟩

set_option maxHeartbeats 2000000 in
theorem rkind_is (e : Nat → Int) (w : World) :
    Calls Tryd.prog 28 #[.agg #[.int .u8 (e 0), .int .u8 (e 1), .int .u8 (e 2), .int .u8 (e 3), .int .u8 (e 4), .int .u8 (e 5), .int .u8 (e 6), .int .u8 (e 7)]] w fun r w' => r = .returned (.int .i64 (kd (e 0) (e 1) : Nat)) ∧ Below w.heap.size w w' := by
  have hx := (Bx.new w e 24).below ((Below.refl _ _).alloc (Nat.le_refl _) (.cells #[.int .u8 0, .int .u8 2, .int .u8 3, .int .u8 12, .int .u8 6, .int .u8 0, .int .u8 6, .int .u8 1, .int .u8 6, .int .u8 2, .int .u8 6, .int .u8 3, .int .u8 6, .int .u8 6] 79)) (by simp)
  have ht := tb_cells w e
  have b2 : Below w.heap.size w ((w.alloc (.cells #[.int .u8 (e 0), .int .u8 (e 1), .int .u8 (e 2), .int .u8 (e 3), .int .u8 (e 4), .int .u8 (e 5), .int .u8 (e 6), .int .u8 (e 7)] 24)).alloc (.cells #[.int .u8 0, .int .u8 2, .int .u8 3, .int .u8 12, .int .u8 6, .int .u8 0, .int .u8 6, .int .u8 1, .int .u8 6, .int .u8 2, .int .u8 6, .int .u8 3, .int .u8 6, .int .u8 6] 79)) := ((Below.refl _ _).alloc (Nat.le_refl _) _).alloc (by simp) _
  have hz : w.heap.size + 1 < ((w.alloc (.cells #[.int .u8 (e 0), .int .u8 (e 1), .int .u8 (e 2), .int .u8 (e 3), .int .u8 (e 4), .int .u8 (e 5), .int .u8 (e 6), .int .u8 (e 7)] 24)).alloc (.cells #[.int .u8 0, .int .u8 2, .int .u8 3, .int .u8 12, .int .u8 6, .int .u8 0, .int .u8 6, .int .u8 1, .int .u8 6, .int .u8 2, .int .u8 6, .int .u8 3, .int .u8 6, .int .u8 6] 79)).heap.size := by simp
  generalize hr : kd (e 0) (e 1) = r
  have HR := Lib.hid hr
  have HX := Lib.hid hx
  have HT := Lib.hid ht
  clear hr hx ht
  go_enter Tryd.func28, Tryd.ntmps28
  go_wp2_with fail
  generalize ((w.alloc (.cells #[.int .u8 (e 0), .int .u8 (e 1), .int .u8 (e 2), .int .u8 (e 3), .int .u8 (e 4), .int .u8 (e 5), .int .u8 (e 6), .int .u8 (e 7)] 24)).alloc (.cells #[.int .u8 0, .int .u8 2, .int .u8 3, .int .u8 12, .int .u8 6, .int .u8 0, .int .u8 6, .int .u8 1, .int .u8 6, .int .u8 2, .int .u8 6, .int .u8 3, .int .u8 6, .int .u8 6] 79)) = w2 at b2 hz HX HT ⊢
  go_loopw [4] (fun vi wr => ∃ k : Nat, k ≤ 7 ∧ vi = .int .i64 k ∧ Below w2.heap.size w2 wr ∧ Hid (Sk1 (e 0) (e 1) k)) (fun vi _ => 7 - (intOf vi).toNat)
  case atStart => exact ⟨0, Nat.zero_le _, rfl, Below.refl _ _, Lib.hid (fun j hj => absurd hj (Nat.not_lt_zero _))⟩
  case round =>
    obtain ⟨k, hk, rfl, hB, hS⟩ := hrel
    have hBel : Below w.heap.size w wr := b2.trans (hB.mono (by omega))
    by_cases hlt : k < 7
    · have hil : (k : Int) < 7 := by omega
      have S : St w2 [(w.heap.size, 0, .int .u8 (e 0)), (w.heap.size, 1, .int .u8 (e 1)), (w.heap.size + 1, k * 2, .int .u8 (khi (k + 1))), (w.heap.size + 1, k * 2 + 1, .int .u8 (klo (k + 1)))] wr := by
        obtain ⟨t0, t1⟩ := HT.out k hlt
        have x0 := HX.out.1
        have x1 := HX.out.2.1
        exact ((((St.start w2).cons _ _ _ t1).cons _ _ _ t0).cons _ _ _ x1).cons _ _ _ x0 |>.below hB
      have HK := Lib.hid (kd_at (k + 1) (by omega))
      have HE : Hid (khi (k + 1) = e 0 ∧ klo (k + 1) = e 1 → r = k + 1) := fun q => by rw [← HR.out, ← q.1, ← q.2, HK.out]
      have HS : Hid (¬ (khi (k + 1) = e 0 ∧ klo (k + 1) = e 1) → Sk1 (e 0) (e 1) (k + 1)) := fun q => hS.out.step q
      clear HK hS
      generalize khi (k + 1) = hi at S HE HS
      generalize klo (k + 1) = lo at S HE HS
      by_cases ha : hi = e 0
      · by_cases hb : lo = e 1
        · have hq : r = k + 1 := HE.out ⟨ha, hb⟩
          have A : (e 0 == hi) = true := by rw [ha]; simp
          have B : (e 1 == lo) = true := by rw [hb]; simp
          clear ha hb HE HS
          subst hq
          go_wp2_with fail
          refine wp_region_qs S (by kernel_rfl) (by kernel_rfl) ?_
          intro kc
          simp only [CellsAt, and_true] at kc
          repeat (go_big_quiet_step (fail))
          refine wpQuiet_nil ?_
          intro w' S'
          go_wp2
          go_ret
          exact ⟨by go_num, b2.trans (S'.2.mono (by omega))⟩
        · have A : (e 0 == hi) = true := by rw [ha]; simp
          have B : (e 1 == lo) = false := by rw [beq_eq_false_iff_ne]; exact fun q => hb q.symm
          have hn := Lib.hid (HS.out fun q => hb q.2)
          clear ha hb HE HS
          go_wp2_with fail
          refine wp_region_qs S (by kernel_rfl) (by kernel_rfl) ?_
          intro kc
          simp only [CellsAt, and_true] at kc
          repeat (go_big_quiet_step (fail))
          refine wpQuiet_nil ?_
          intro w' S'
          go_wp2
          go_roundw
          case rel => exact ⟨k + 1, by omega, by go_num, S'.2, hn⟩
          case measure => simp [intOf]; omega
      · have A : (e 0 == hi) = false := by rw [beq_eq_false_iff_ne]; exact fun q => ha q.symm
        have hn := Lib.hid (HS.out fun q => ha q.1)
        clear ha HE HS
        go_wp2_with fail
        refine wp_region_qs S (by kernel_rfl) (by kernel_rfl) ?_
        intro kc
        simp only [CellsAt, and_true] at kc
        repeat (go_big_quiet_step (fail))
        refine wpQuiet_nil ?_
        intro w' S'
        go_wp2
        go_roundw
        case rel => exact ⟨k + 1, by omega, by go_num, S'.2, hn⟩
        case measure => simp [intOf]; omega
    · obtain rfl : k = 7 := by omega
      have hq : r = 0 := by rw [← HR.out]; exact kd_none1 hS.out
      subst hq
      go_wp2
      go_ret
      exact ⟨rfl, hBel⟩
end Go.Proofs.YtmajalobkcnobaaDoor
