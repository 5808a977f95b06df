/- Equality of lists; the sort of few numbers makes an ascending list of them; the examples of the chapter. No condition. -/
import Derived.Test.YtmajalobkcnobaaDoorCTw
namespace Go.Proofs.YtmajalobkcnobaaDoor
open Go.RowKit Go.Sort
set_option linter.unusedVariables false
set_option linter.unusedSimpArgs false
set_option maxRecDepth 100000

theorem below_drewN (B : Nat) (w : World) (n : Nat) : Below B w (w.drewN n) := ⟨rfl, rfl, rfl, Nat.le_refl _, fun _ _ => rfl⟩

set_option maxHeartbeats 2000000 in
theorem same_u (xs ys : List Int) (hm : xs.length ≤ 1000000) (v u : Value) (w : World) (hv : USeg w v xs) (hu : USeg w u ys) :
    Calls Tryd.prog 40 #[v, u] w fun r w' => r = .returned (.bool (decide (xs = ys))) ∧ Below w.heap.size w w' := by
  obtain ⟨a, c, rfl, -, hx⟩ := hv
  obtain ⟨a', c', rfl, -, hy⟩ := hu
  obtain ⟨R, hR⟩ : ∃ R, R = decide (xs = ys) := ⟨_, rfl⟩
  rw [← hR]
  by_cases hl : xs.length = ys.length
  · rw [← hl]
    have HR := Lib.hid hR
    clear hR
    have hy' : ∀ i, i < xs.length → ∃ b o, a' = some ⟨b, o, none⟩ ∧ b < w.heap.size ∧ w.cell? ⟨b, o + i, none⟩ = some (.int .u32 (ys.getD i 0)) := fun i hi => hy i (by omega)
    have HX := Lib.hid hx
    have HY := Lib.hid hy'
    have HL := Lib.hid hl
    generalize hn : xs.length = n at hm hl HX HY HL ⊢
    have HN := Lib.hid hn
    clear hx hy hy' hl hn
    go_enter Tryd.func40, Tryd.ntmps40
    go_wp2_with fail
    go_loopw [5] (fun vi wr => ∃ i : Nat, i ≤ n ∧ vi = .int .i64 i ∧ Below w.heap.size w wr ∧ Hid (∀ j, j < i → xs.getD j 0 = ys.getD j 0)) (fun vi _ => n - (intOf vi).toNat)
    case atStart => exact ⟨0, Nat.zero_le _, rfl, Below.refl _ _, Lib.hid (fun j hj => absurd hj (Nat.not_lt_zero _))⟩
    case round =>
      obtain ⟨i, hi, rfl, hB, hS⟩ := hrel
      by_cases hlt : i < n
      · obtain ⟨b, o, rfl, hb, hc⟩ := HX.out i hlt
        obtain ⟨b', o', rfl, hb', hc'⟩ := HY.out i hlt
        have k1 := (hB.cell (p := ⟨b, o + i, none⟩) hb).trans hc
        have k2 := (hB.cell (p := ⟨b', o' + i, none⟩) hb').trans hc'
        have hil : (i : Int) < n := by omega
        clear hc hc'
        by_cases he : xs.getD i 0 = ys.getD i 0
        · have HS : Hid (∀ j, j < i + 1 → xs.getD j 0 = ys.getD j 0) := Lib.hid fun j hj => by
            rcases Nat.lt_succ_iff_lt_or_eq.1 hj with h' | rfl
            · exact hS.out j h'
            · exact he
          have A : (xs.getD i 0 != ys.getD i 0) = false := by rw [he]; simp
          clear he hS
          generalize xs.getD i 0 = x at k1 A
          generalize ys.getD i 0 = y at k2 A
          go_wp2_with fail
          go_quiet (fail)
          go_wp2
          go_roundw
          case rel => exact ⟨i + 1, by omega, by go_num, hB.trans (below_drewN _ _ _), HS⟩
          case measure => simp [intOf]; omega
        · have hne : R = false := by
            rw [HR.out, decide_eq_false_iff_not]
            exact fun q => he (by rw [q])
          subst hne
          have A : (xs.getD i 0 != ys.getD i 0) = true := by simpa using he
          clear he HR
          generalize xs.getD i 0 = x at k1 A
          generalize ys.getD i 0 = y at k2 A
          go_wp2_with fail
          go_quiet (fail)
          go_wp2
          go_ret
          exact ⟨rfl, hB.trans (below_drewN _ _ _)⟩
      · obtain rfl : i = n := by omega
        have he : R = true := by
          rw [HR.out, decide_eq_true_eq]
          apply List.ext_getElem (by rw [HN.out, HL.out])
          intro j h1 h2
          have := hS.out j (by rw [← HN.out]; exact h1)
          simpa [List.getD, h1, h2] using this
        subst he
        clear HR
        go_wp2
        go_ret
        exact ⟨rfl, hB⟩
  · have hne : R = false := by
      rw [hR, decide_eq_false_iff_not]
      exact fun q => hl (by rw [q])
    have hl2 : ¬ (xs.length : Int) = ys.length := by omega
    subst hne
    clear hx hy hl hR hm
    generalize xs.length = n at hl2 ⊢
    generalize ys.length = m at hl2 ⊢
    have A : ((n : Int) != m) = true := by simpa using hl2
    clear hl2
    go_enter Tryd.func40, Tryd.ntmps40
    go_wp2
    go_ret
    exact ⟨rfl, Below.refl _ _⟩

theorem srt_of {d d' : Array Int} (hP : PermIn 0 d.size d d') (hS : SortedIn ltInt 0 d.size d') : Srt d d' := by
  obtain ⟨hs, -, hp⟩ := hP
  refine ⟨hs, ?_, ?_⟩
  · have e1 : d'.extract 0 d.size = d' := by rw [← hs]; simp
    have e2 : d.extract 0 d.size = d := by simp
    rwa [e1, e2] at hp
  · rw [List.pairwise_iff_getElem]
    intro i j hi hj hij
    have h := hS i j (Nat.zero_le _) hij (by rw [← hs]; simpa using hj)
    have hi' : i < d'.size := by simpa using hi
    have hj' : j < d'.size := by simpa using hj
    rw [getElem!_pos d' i hi', getElem!_pos d' j hj'] at h
    simp [ltInt] at h
    simpa using h
theorem sortOK12 : SortOK 12 := fun blk cap d w hH h => (sort_small_is blk 0 cap d w hH h).mono fun r w' ⟨hr, n, hw⟩ => by
  have := insertionSort_holds swo_ltInt d 0 d.size (Nat.zero_le _) (Nat.le_refl _)
  exact ⟨hr, n, _, srt_of this.1 this.2, hw⟩
end Go.Proofs.YtmajalobkcnobaaDoor
