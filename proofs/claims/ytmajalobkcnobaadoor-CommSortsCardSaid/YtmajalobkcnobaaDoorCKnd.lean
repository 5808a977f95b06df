/- The kind of a community: the program's function and the reference's. No condition. -/
import Derived.Test.YtmajalobkcnobaaDoorCVal
namespace Go.Proofs.YtmajalobkcnobaaDoor
open Go.RowKit Go.Sort
set_option linter.unusedVariables false
set_option linter.unusedSimpArgs false
set_option maxRecDepth 100000

/-- The box of a community. -/
def Bx (w : World) (b : Nat) (e : Nat → Int) : Prop := w.cell? ⟨b, 0, none⟩ = some (.int .u8 (e 0)) ∧ w.cell? ⟨b, 1, none⟩ = some (.int .u8 (e 1)) ∧ w.cell? ⟨b, 2, none⟩ = some (.int .u8 (e 2)) ∧ w.cell? ⟨b, 3, none⟩ = some (.int .u8 (e 3)) ∧ w.cell? ⟨b, 4, none⟩ = some (.int .u8 (e 4)) ∧ w.cell? ⟨b, 5, none⟩ = some (.int .u8 (e 5)) ∧ w.cell? ⟨b, 6, none⟩ = some (.int .u8 (e 6)) ∧ w.cell? ⟨b, 7, none⟩ = some (.int .u8 (e 7))
theorem Bx.new (w : World) (e : Nat → Int) (T : TypeId) : Bx (w.alloc (.cells #[.int .u8 (e 0), .int .u8 (e 1), .int .u8 (e 2), .int .u8 (e 3), .int .u8 (e 4), .int .u8 (e 5), .int .u8 (e 6), .int .u8 (e 7)] T)) w.heap.size e :=
  ⟨World.cell?_alloc_at _ _ _ _ rfl, World.cell?_alloc_at _ _ _ _ rfl, World.cell?_alloc_at _ _ _ _ rfl, World.cell?_alloc_at _ _ _ _ rfl, World.cell?_alloc_at _ _ _ _ rfl, World.cell?_alloc_at _ _ _ _ rfl, World.cell?_alloc_at _ _ _ _ rfl, World.cell?_alloc_at _ _ _ _ rfl⟩
theorem Bx.lt {w : World} {b : Nat} {e : Nat → Int} (h : Bx w b e) : b < w.heap.size := block_lt_of_cell h.1
theorem Bx.below {w w' : World} {b B : Nat} {e : Nat → Int} (h : Bx w b e) (k : Below B w w') (hB : b < B) : Bx w' b e := by
  have q : ∀ o, w'.cell? ⟨b, o, none⟩ = w.cell? ⟨b, o, none⟩ := fun o => k.cell (p := ⟨b, o, none⟩) hB
  unfold Bx at h ⊢
  simpa only [q] using h

theorem upon_of_run {P : Program} {o : Oper} {a : Act} {next : Act → World → Prop} {Q : Exit → Act → World → Prop} {r : Result Next} {v : Value} {w' : World} (h : r = .ok (.value v) w') (k : next (a.put o.dst v) w') : o.upon P a next Q r := by
  subst h
  exact k

/-- What a round of the search knows. -/
def Sk (a b : Int) (k : Nat) : Prop := ∀ j, j < k → ¬ (khi j = a ∧ klo j = b)
theorem Sk.step {a b : Int} {k : Nat} (h : Sk a b k) (hn : ¬ (khi k = a ∧ klo k = b)) : Sk a b (k + 1) := fun j hj => by
  rcases Nat.lt_succ_iff_lt_or_eq.1 hj with h' | rfl
  · exact h j h'
  · exact hn

set_option maxHeartbeats 1000000 in
theorem kind_is (e : Nat → Int) (w : World) (hK : KI w) :
    Calls Tryd.prog 18 #[.agg #[.int .u8 (e 0), .int .u8 (e 1), .int .u8 (e 2), .int .u8 (e 3), .int .u8 (e 4), .int .u8 (e 5), .int .u8 (e 6), .int .u8 (e 7)]] w fun r w' => r = .returned (.int .i64 (kd (e 0) (e 1) : Nat)) ∧ Below w.heap.size w w' := by
  have b1 := (Below.refl w.heap.size w).alloc (Nat.le_refl _) (.cells #[.int .u8 (e 0), .int .u8 (e 1), .int .u8 (e 2), .int .u8 (e 3), .int .u8 (e 4), .int .u8 (e 5), .int .u8 (e 6), .int .u8 (e 7)] 24)
  have hx := Bx.new w e 24
  have hk1 := hK.below b1 hK.lt
  have hz : w.heap.size < (w.alloc (.cells #[.int .u8 (e 0), .int .u8 (e 1), .int .u8 (e 2), .int .u8 (e 3), .int .u8 (e 4), .int .u8 (e 5), .int .u8 (e 6), .int .u8 (e 7)] 24)).heap.size := by simp
  generalize hr : kd (e 0) (e 1) = r
  have HR := Lib.hid hr
  clear hr hK
  have z72 : ∀ (h : 72 < Tryd.prog.types.size), (Tryd.prog.types[72]'h).size = 2 := fun _ => by kernel_rfl
  go_enter Tryd.func18, Tryd.ntmps18
  have HX := Lib.hid hx
  unfold KI at hk1
  obtain ⟨h0, h1, h2, h3, h4, h5, h6, h7, h8, h9, h10, h11, h12, h13, h14, h15⟩ := hk1
  clear hx
  go_wp2_with fail
  clear h0 h1 h2 h3 h4 h5 h6 h7 h8 h9 h10 h11 h12 h13 h14 h15
  generalize (w.alloc (.cells #[.int .u8 (e 0), .int .u8 (e 1), .int .u8 (e 2), .int .u8 (e 3), .int .u8 (e 4), .int .u8 (e 5), .int .u8 (e 6), .int .u8 (e 7)] 24)) = w1 at b1 hz HX ⊢
  go_loopw [6] (fun vi wr => ∃ k : Nat, k ≤ 8 ∧ vi = .int .i64 k ∧ Below w1.heap.size w1 wr ∧ Hid (Sk (e 0) (e 1) k)) (fun vi _ => 8 - (intOf vi).toNat)
  case atStart => exact ⟨0, Nat.zero_le _, rfl, Below.refl _ _, Lib.hid (fun j hj => absurd hj (Nat.not_lt_zero _))⟩
  case round =>
    obtain ⟨k, hk, rfl, hB, hS⟩ := hrel
    have hx' := HX.out.below hB hz
    have hb' : w.heap.size < wr.heap.size := hx'.lt
    obtain ⟨x0, x1, -⟩ := hx'
    have hBel : Below w.heap.size w wr := b1.trans (hB.mono (Nat.le_of_lt hz))
    by_cases hlt : k < 8
    · have hil : (k : Int) < 8 := by omega
      by_cases ha : khi k = e 0
      · by_cases hb : klo k = e 1
        · have hq : k = r := by
            have q := HR.out
            rw [← ha, ← hb, kd_at k hlt] at q
            exact q
          have A : (khi k == e 0) = true := by rw [ha]; simp
          have B : (klo k == e 1) = true := by rw [hb]; simp
          have HA := A
          clear ha hb HR
          subst hq
          go_wp2_with fail
          refine upon_of_run (v := .agg #[.int .u8 (khi k), .int .u8 (klo k)]) (w' := wr) (by (obtain rfl | rfl | rfl | rfl | rfl | rfl | rfl | rfl : k = 0 ∨ k = 1 ∨ k = 2 ∨ k = 3 ∨ k = 4 ∨ k = 5 ∨ k = 6 ∨ k = 7 := by omega) <;> kernel_rfl) ?_
          generalize khi k = hi at A B HA ⊢
          generalize klo k = lo at A B HA ⊢
          go_wp2
          go_ret
          exact ⟨rfl, hBel.alloc hBel.size _⟩
        · have A : (khi k == e 0) = true := by rw [ha]; simp
          have B : (klo k == e 1) = false := by rw [beq_eq_false_iff_ne]; exact hb
          have HN := Lib.hid (show ¬ (khi k = e 0 ∧ klo k = e 1) from fun q => hb q.2)
          have HA := A
          clear ha hb
          go_wp2_with fail
          refine upon_of_run (v := .agg #[.int .u8 (khi k), .int .u8 (klo k)]) (w' := wr) (by (obtain rfl | rfl | rfl | rfl | rfl | rfl | rfl | rfl : k = 0 ∨ k = 1 ∨ k = 2 ∨ k = 3 ∨ k = 4 ∨ k = 5 ∨ k = 6 ∨ k = 7 := by omega) <;> kernel_rfl) ?_
          generalize khi k = hi at A B HA ⊢
          generalize klo k = lo at A B HA ⊢
          go_wp2
          go_roundw
          case rel => exact ⟨k + 1, by omega, by go_num, hB.alloc hB.size _, Lib.hid (hS.out.step HN.out)⟩
          case measure => simp [intOf]; omega
      · have A : (khi k == e 0) = false := by rw [beq_eq_false_iff_ne]; exact ha
        have B := A
        have HN := Lib.hid (show ¬ (khi k = e 0 ∧ klo k = e 1) from fun q => ha q.1)
        have HA := A
        clear ha
        go_wp2_with fail
        refine upon_of_run (v := .agg #[.int .u8 (khi k), .int .u8 (klo k)]) (w' := wr) (by (obtain rfl | rfl | rfl | rfl | rfl | rfl | rfl | rfl : k = 0 ∨ k = 1 ∨ k = 2 ∨ k = 3 ∨ k = 4 ∨ k = 5 ∨ k = 6 ∨ k = 7 := by omega) <;> kernel_rfl) ?_
        generalize khi k = hi at A B HA ⊢
        generalize klo k = lo at A B HA ⊢
        go_wp2
        go_roundw
        case rel => exact ⟨k + 1, by omega, by go_num, hB.alloc hB.size _, Lib.hid (hS.out.step HN.out)⟩
        case measure => simp [intOf]; omega
    · obtain rfl : k = 8 := by omega
      have hq : r = 0 := by rw [← HR.out]; exact kd_none hS.out
      subst hq
      go_wp2
      go_ret
      exact ⟨rfl, hBel⟩
end Go.Proofs.YtmajalobkcnobaaDoor
