/- The library's Compact over a list of communities: the walk. No condition. -/
import Derived.Test.YtmajalobkcnobaaDoorCCm
namespace Go.Proofs.YtmajalobkcnobaaDoor
open Go.RowKit Go.Sort Go.Shelf Go.Lib
set_option linter.unusedVariables false
set_option linter.unusedSimpArgs false
set_option maxRecDepth 100000

set_option maxHeartbeats 4000000 in
theorem compact_row (B g cap n : Nat) (G : Nat → Nat → Int) (w : World) (hR : Rw g cap n G w) (hB : B ≤ g) (hn : n ≤ cap) (hm : cap ≤ maxLen) :
    Calls Tryd.prog 60 #[.slice (some ⟨g, 0, none⟩) n cap] w fun e w' => e = .returned (.slice (some ⟨g, 0, none⟩) (kept G n).length cap) ∧ NuC B w' (.slice (some ⟨g, 0, none⟩) (kept G n).length cap) (kept G n) ∧ Below B w w' := by
  have hmx : maxLen ≤ 9223372036854775807 := by decide
  have same : ∀ w', Rw g cap n G w' → (∀ j, j < n → kp G j = true) → (kept G n).length = n ∧ NuC B w' (.slice (some ⟨g, 0, none⟩) (kept G n).length cap) (kept G n) := by
    intro w' hR hall
    have e := kept_all G n hall
    have hl : (kept G n).length = n := by rw [e]; simp
    exact ⟨hl, hR.own hB hl hn hm fun j hj => by rw [e]; simp [hj]⟩
  have HS := Lib.hid same
  clear same
  by_cases h2 : n < 2
  · have H0 := Lib.hid hR
    clear hR
    go_enter Tryd.func60, Tryd.ntmps60
    go_wp2
    go_ret
    obtain ⟨e1, e2⟩ := HS.out _ H0.out (fun j hj => kp_one G j (by omega))
    exact ⟨by rw [e1]; rfl, e2, Below.refl _ _⟩
  · go_enter Tryd.func60, Tryd.ntmps60
    go_wp2
    go_loopg [3] n (fun gg s3 wr => ∃ k : Nat, 1 ≤ k ∧ k ≤ n ∧ n - k ≤ gg ∧ s3 = .int .i64 k ∧ Below B w wr ∧ Rw g cap n G wr ∧ ∀ j, j < k → kp G j = true)
    case atStart => exact ⟨1, by omega, by omega, by omega, rfl, Below.refl _ _, hR, kp_one G⟩
    case round =>
      clear hR
      obtain ⟨k, hk1, hk, hg, rfl, hb, hRr, hall⟩ := hrel
      have HA := Lib.hid hall
      clear hall
      by_cases hlt : k < n
      · obtain ⟨i, rfl⟩ : ∃ i, k = i + 1 := ⟨k - 1, by omega⟩
        obtain ⟨p0, p1, p2, p3, p4, p5, p6, p7⟩ := hRr.at (i + 1) hlt ((i + 1) * 8) rfl
        obtain ⟨q0, q1, q2, q3, q4, q5, q6, q7⟩ := hRr.at i (by omega) (i * 8) rfl
        have HR := Lib.hid hRr
        clear hRr
        have e := run_eqC (G (i + 1)) (G i)
        by_cases hd : eqC (G (i + 1)) (G i) = true
        · rw [hd] at e
          have hk0 := Lib.hid (show kp G (i + 1) = false by rw [kp_next, hd]; rfl)
          clear hd
          go_wp2_with fail
          refine wp_region_qb (by kernel_rfl) (by kernel_rfl) ?_
          repeat (go_big_quiet_step (fail))
          refine wpQuiet_nil ?_
          intro w' hw'
          have hb' := hb.trans (hw'.mono (Nat.le_trans hB (Nat.le_of_lt HR.out.lt)))
          have HR' := Lib.hid (HR.out.below hw')
          clear p0 p1 p2 p3 p4 p5 p6 p7 q0 q1 q2 q3 q4 q5 q6 q7 e hw' HR hb
          go_wp2
          go_loopg [3, 5] n (fun gg s3 s5 wr => ∃ (kk k2 : Nat) (H : Nat → Nat → Int), s3 = .int .i64 kk ∧ s5 = .int .i64 k2 ∧ 1 ≤ k2 ∧ i + 1 + k2 ≤ n ∧ n - (i + 1 + k2) ≤ gg ∧ Below B w wr ∧ Rw g cap n H wr ∧ CI G (i + 1 + k2) kk H)
          case atStart => exact ⟨i + 1, 1, G, rfl, rfl, by omega, by omega, by omega, hb', HR'.out, CI.start HA.out hk0.out⟩
          case round =>
            clear hb' HR'
            obtain ⟨kk, k2, H, rfl, rfl, h1, hle, hg2, hb, hRr, hI⟩ := hrel
            have hkk := hI.lt
            have HI := Lib.hid hI
            by_cases hlt2 : i + 1 + k2 < n
            · obtain ⟨j2, rfl⟩ : ∃ j2, k2 = j2 + 1 := ⟨k2 - 1, by omega⟩
              have hRG : ∀ m, kk ≤ m → H m = G m := hI.high
              obtain ⟨p0, p1, p2, p3, p4, p5, p6, p7⟩ := hRr.at (i + 1 + (j2 + 1)) hlt2 ((i + 1) * 8 + (j2 + 1) * 8) (by omega)
              obtain ⟨q0, q1, q2, q3, q4, q5, q6, q7⟩ := hRr.at (i + 1 + j2) (by omega) ((i + 1) * 8 + j2 * 8) (by omega)
              rw [hRG _ (by omega)] at p0 p1 p2 p3 p4 p5 p6 p7 q0 q1 q2 q3 q4 q5 q6 q7
              have HR := Lib.hid hRr
              clear hRr hRG hI
              have e := run_eqC (G (i + 1 + (j2 + 1))) (G (i + 1 + j2))
              have hkp := kp_next G (i + 1 + j2)
              by_cases hd : eqC (G (i + 1 + (j2 + 1))) (G (i + 1 + j2)) = true
              · rw [hd] at e
                have hk0 := Lib.hid (show kp G (i + 1 + (j2 + 1)) = false by rw [show i + 1 + (j2 + 1) = i + 1 + j2 + 1 by omega] at hd ⊢; rw [hkp, hd]; rfl)
                clear hd hkp
                go_wp2_with fail
                refine wp_region_qb (by kernel_rfl) (by kernel_rfl) ?_
                repeat (go_big_quiet_step (fail))
                refine wpQuiet_nil ?_
                intro w' hw'
                have hb' := hb.trans (hw'.mono (Nat.le_trans hB (Nat.le_of_lt HR.out.lt)))
                have HR' := Lib.hid (HR.out.below hw')
                clear p0 p1 p2 p3 p4 p5 p6 p7 q0 q1 q2 q3 q4 q5 q6 q7 e hw' HR hb
                go_wp2
                go_roundg (n - (i + 1 + (j2 + 1 + 1)))
                case measure => omega
                case rel => exact ⟨kk, j2 + 1 + 1, H, rfl, by go_num, by omega, by omega, Nat.le_refl _, hb', HR'.out, HI.out.skip hk0.out⟩
              · rw [Bool.not_eq_true] at hd
                rw [hd] at e
                have hk0 := Lib.hid (show kp G (i + 1 + (j2 + 1)) = true by rw [show i + 1 + (j2 + 1) = i + 1 + j2 + 1 by omega] at hd ⊢; rw [hkp, hd]; rfl)
                clear hd hkp
                go_wp2_with fail
                refine wp_region_qb (by kernel_rfl) (by kernel_rfl) ?_
                repeat (go_big_quiet_step (fail))
                refine wpQuiet_nil ?_
                intro w' hw'
                have hb' := hb.trans (hw'.mono (Nat.le_trans hB (Nat.le_of_lt HR.out.lt)))
                have HR' := Lib.hid (HR.out.below hw')
                clear p0 p1 p2 p3 p4 p5 p6 p7 q0 q1 q2 q3 q4 q5 q6 q7 e hw' HR hb
                have hhi : H (i + 1 + (j2 + 1)) = G (i + 1 + (j2 + 1)) := HI.out.high _ (by omega)
                obtain ⟨p0, p1, p2, p3, p4, p5, p6, p7⟩ := HR'.out.now (i + 1 + (j2 + 1)) hlt2 ((i + 1) * 8 + (j2 + 1) * 8) (by omega)
                rw [hhi] at p0 p1 p2 p3 p4 p5 p6 p7
                clear hhi
                obtain ⟨w1, w2, w3, w4, w5, w6, w7, w8, s0, s1, s2, s3, s4, s5, s6, s7, c0, c1, c2, c3, c4, c5, c6, c7, f0, f1, f2, f3, f4, f5, f6, f7, e8⟩ := HR'.out.steps kk (by omega) (kk * 8) rfl (G (i + 1 + (j2 + 1)))
                have E8 := Lib.hid e8
                clear e8
                go_wp2_with fail
                go_roundg (n - (i + 1 + (j2 + 1 + 1)))
                case measure => omega
                case rel =>
                  have hr := HR'.out.put hn kk (G (i + 1 + (j2 + 1)))
                  have hbb := Go.below_setCells hB (c8 (G (i + 1 + (j2 + 1)))) (kk * 8) _ hb'
                  rw [← E8.out] at hr hbb
                  exact ⟨kk + 1, j2 + 1 + 1, _, by go_num, by go_num, by omega, by omega, Nat.le_refl _, hbb, hr, HI.out.keep hk0.out⟩
            · have hend : i + 1 + k2 = n := by omega
              have hcl : ∀ ty, (Builtin.clear_ #[35] ty #[.slice (some ⟨g, kk * 8, none⟩) (n - kk) (cap - kk)]).run Tryd.prog wr = .ok (.tuple #[]) (wr.setCells g (kk * 8) (zs (n - kk))) := fun ty => run_clear wr ty g (kk * 8) (n - kk) _ (by omega) (fun j hj => by
                have := hRr.cell (kk + j / 8) (by omega) (j % 8) (by omega)
                rw [show (kk + j / 8) * 8 + j % 8 = kk * 8 + j by omega] at this
                rw [this]
                rfl) (fun j hj => hRr.frozen _)
              have HR := Lib.hid hRr
              clear hRr hI
              go_wp2
              go_ret
              have hI := HI.out
              rw [hend] at hI
              have hle2 : kk ≤ n := by omega
              refine ⟨by rw [hI.len]; rfl, (HR.out.cut hn kk hle2 _).own hB hI.len (by omega) hm hI.low, Go.below_setCells hB _ _ _ hb⟩
        · rw [Bool.not_eq_true] at hd
          rw [hd] at e
          have hk0 := Lib.hid (show kp G (i + 1) = true by rw [kp_next, hd]; rfl)
          clear hd
          go_wp2_with fail
          refine wp_region_qb (by kernel_rfl) (by kernel_rfl) ?_
          repeat (go_big_quiet_step (fail))
          refine wpQuiet_nil ?_
          intro w' hw'
          have hb' := hb.trans (hw'.mono (Nat.le_trans hB (Nat.le_of_lt HR.out.lt)))
          have HR' := Lib.hid (HR.out.below hw')
          clear p0 p1 p2 p3 p4 p5 p6 p7 q0 q1 q2 q3 q4 q5 q6 q7 e hw' HR hb
          go_wp2
          go_roundg (n - (i + 1 + 1))
          case measure => omega
          case rel => exact ⟨i + 1 + 1, by omega, by omega, Nat.le_refl _, by go_num, hb', HR'.out, fun j hj => by
            by_cases hj2 : j = i + 1
            · rw [hj2]; exact hk0.out
            · exact HA.out j (by omega)⟩
      · have hkn : k = n := by omega
        have HR := Lib.hid hRr
        clear hRr
        go_wp2
        go_ret
        obtain ⟨e1, e2⟩ := HS.out _ HR.out (by rw [← hkn]; exact HA.out)
        exact ⟨by rw [e1]; rfl, e2, hb⟩
end Go.Proofs.YtmajalobkcnobaaDoor
