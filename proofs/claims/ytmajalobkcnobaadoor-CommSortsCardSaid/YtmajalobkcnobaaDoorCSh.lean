/- Lists of communities: the same, and whether one is in it. No condition. -/
import Derived.Test.YtmajalobkcnobaaDoorCSp
import Derived.Test.YtmajalobkcnobaaDoorCBk
namespace Go.Proofs.YtmajalobkcnobaaDoor
open Go.RowKit Go.Sort Go.Shelf Go.Lib
set_option linter.unusedVariables false
set_option linter.unusedSimpArgs false
set_option maxRecDepth 100000

theorem range_at {w wr : World} {b o : Nat} {e : Nat → Int} (hb : b < w.heap.size) (h : w.rangeAt b o [.int .u8 (e 0), .int .u8 (e 1), .int .u8 (e 2), .int .u8 (e 3), .int .u8 (e 4), .int .u8 (e 5), .int .u8 (e 6), .int .u8 (e 7)]) (hB : Below w.heap.size w wr) : (∀ d os, (grow (redrawn wr d) os).cell? ⟨b, o, none⟩ = some (.int .u8 (e 0))) ∧ (∀ d os, (grow (redrawn wr d) os).cell? ⟨b, o + 1, none⟩ = some (.int .u8 (e 1))) ∧ (∀ d os, (grow (redrawn wr d) os).cell? ⟨b, o + 2, none⟩ = some (.int .u8 (e 2))) ∧ (∀ d os, (grow (redrawn wr d) os).cell? ⟨b, o + 3, none⟩ = some (.int .u8 (e 3))) ∧ (∀ d os, (grow (redrawn wr d) os).cell? ⟨b, o + 4, none⟩ = some (.int .u8 (e 4))) ∧ (∀ d os, (grow (redrawn wr d) os).cell? ⟨b, o + 5, none⟩ = some (.int .u8 (e 5))) ∧ (∀ d os, (grow (redrawn wr d) os).cell? ⟨b, o + 6, none⟩ = some (.int .u8 (e 6))) ∧ (∀ d os, (grow (redrawn wr d) os).cell? ⟨b, o + 7, none⟩ = some (.int .u8 (e 7))) := by
  have k : ∀ j u, ([.int .u8 (e 0), .int .u8 (e 1), .int .u8 (e 2), .int .u8 (e 3), .int .u8 (e 4), .int .u8 (e 5), .int .u8 (e 6), .int .u8 (e 7)] : List Value)[j]? = some u → ∀ d os, (grow (redrawn wr d) os).cell? ⟨b, o + j, none⟩ = some u := fun j u hu d os =>
    ((hB.trans ((below_regrown wr d os).mono hB.size)).cell (p := ⟨b, o + j, none⟩) hb).trans (h j u hu)
  exact ⟨k 0 _ rfl, k 1 _ rfl, k 2 _ rfl, k 3 _ rfl, k 4 _ rfl, k 5 _ rfl, k 6 _ rfl, k 7 _ rfl⟩
def at0 (E : List (Nat → Int)) (i : Nat) : Nat → Int := E.getD i (fun _ => 0)
theorem at0_some (E : List (Nat → Int)) (i : Nat) (hi : i < E.length) : E[i]? = some (at0 E i) := by
  simp [at0, hi]

set_option maxHeartbeats 4000000 in
theorem same_c (E F : List (Nat → Int)) (hm : E.length ≤ 1000000) (v u : Value) (w : World) (hv : CSeg w v E) (hu : CSeg w u F) (hl : E.length = F.length) (hs : ∀ j, j < E.length → eqC (at0 E j) (at0 F j) = true) :
    Calls Tryd.prog 43 #[v, u] w fun r w' => r = .returned (.bool true) ∧ Below w.heap.size w w' := by
  obtain ⟨a, c, rfl, -, hx⟩ := hv
  obtain ⟨a', c', rfl, -, hy⟩ := hu
  rw [← hl]
  have hx' : ∀ i, i < E.length → ∃ b o, a = some ⟨b, o, none⟩ ∧ b < w.heap.size ∧ w.rangeAt b (o + i * 8) [.int .u8 (at0 E i 0), .int .u8 (at0 E i 1), .int .u8 (at0 E i 2), .int .u8 (at0 E i 3), .int .u8 (at0 E i 4), .int .u8 (at0 E i 5), .int .u8 (at0 E i 6), .int .u8 (at0 E i 7)] := fun i hi => hx i _ (at0_some E i hi)
  have hy' : ∀ i, i < E.length → ∃ b o, a' = some ⟨b, o, none⟩ ∧ b < w.heap.size ∧ w.rangeAt b (o + i * 8) [.int .u8 (at0 F i 0), .int .u8 (at0 F i 1), .int .u8 (at0 F i 2), .int .u8 (at0 F i 3), .int .u8 (at0 F i 4), .int .u8 (at0 F i 5), .int .u8 (at0 F i 6), .int .u8 (at0 F i 7)] := fun i hi => hy i _ (at0_some F i (by omega))
  generalize at0 E = e at hx' hs
  generalize at0 F = f at hy' hs
  generalize E.length = n at hm hx' hy' hs ⊢
  have HX := Lib.hid hx'
  have HY := Lib.hid hy'
  have HS := Lib.hid hs
  clear hx hy hx' hy' hs hl
  go_enter Tryd.func43, Tryd.ntmps43
  go_wp2_with fail
  go_loopw [5] (fun vi wr => ∃ i : Nat, i ≤ n ∧ vi = .int .i64 i ∧ Below w.heap.size w wr) (fun vi _ => n - (intOf vi).toNat)
  case atStart => exact ⟨0, Nat.zero_le _, rfl, Below.refl _ _⟩
  case round =>
    obtain ⟨i, hi, rfl, hB⟩ := hrel
    by_cases hlt : i < n
    · obtain ⟨b, o, rfl, hb, hc⟩ := HX.out i hlt
      obtain ⟨b', o', rfl, hb', hc'⟩ := HY.out i hlt
      obtain ⟨p0, p1, p2, p3, p4, p5, p6, p7⟩ := range_at hb hc hB
      obtain ⟨q0, q1, q2, q3, q4, q5, q6, q7⟩ := range_at hb' hc' hB
      have hil : (i : Int) < n := by omega
      have A := run_eqC (e i) (f i)
      rw [HS.out i hlt] at A
      clear hc hc'
      go_wp2_with fail
      refine wp_region_qb (by kernel_rfl) (by kernel_rfl) ?_
      repeat (go_big_quiet_step (fail))
      refine wpQuiet_nil ?_
      intro w' hw'
      have hb2 := hB.trans (hw'.mono hB.size)
      clear p0 p1 p2 p3 p4 p5 p6 p7 q0 q1 q2 q3 q4 q5 q6 q7 A hw' hB
      go_wp2
      go_roundw
      case rel => exact ⟨i + 1, by omega, by go_num, hb2⟩
      case measure => simp [intOf]; omega
    · obtain rfl : i = n := by omega
      go_wp2
      go_ret
      exact ⟨rfl, hB⟩

def hasC (E : List (Nat → Int)) (x : Nat → Int) : Bool := E.any fun e => eqC e x
theorem hasC_iff (E : List (Nat → Int)) (x : Nat → Int) : hasC E x = true ↔ ∃ j, j < E.length ∧ eqC (at0 E j) x = true := by
  unfold hasC
  rw [List.any_eq_true]
  constructor
  · rintro ⟨e, he, h⟩
    obtain ⟨j, hj, rfl⟩ := List.getElem_of_mem he
    exact ⟨j, hj, by simpa [at0, hj] using h⟩
  · rintro ⟨j, hj, h⟩
    exact ⟨E[j], by simp, by simpa [at0, hj] using h⟩
theorem box_range (w : World) (x : Nat → Int) (T : TypeId) : (w.alloc (.cells #[.int .u8 (x 0), .int .u8 (x 1), .int .u8 (x 2), .int .u8 (x 3), .int .u8 (x 4), .int .u8 (x 5), .int .u8 (x 6), .int .u8 (x 7)] T)).rangeAt w.heap.size 0 [.int .u8 (x 0), .int .u8 (x 1), .int .u8 (x 2), .int .u8 (x 3), .int .u8 (x 4), .int .u8 (x 5), .int .u8 (x 6), .int .u8 (x 7)] := fun j u hu => by
  have := c8_new w x T j u hu
  rw [Addr.add_mid] at this
  exact this
set_option maxHeartbeats 4000000 in
theorem has_c (E : List (Nat → Int)) (x : Nat → Int) (hm : E.length ≤ 1000000) (v : Value) (w : World) (hv : CSeg w v E) :
    Calls Tryd.prog 46 #[v, .agg #[.int .u8 (x 0), .int .u8 (x 1), .int .u8 (x 2), .int .u8 (x 3), .int .u8 (x 4), .int .u8 (x 5), .int .u8 (x 6), .int .u8 (x 7)]] w fun r w' => r = .returned (.bool (hasC E x)) ∧ Below w.heap.size w w' := by
  obtain ⟨a, c, rfl, -, hx⟩ := hv
  have hx' : ∀ i, i < E.length → ∃ b o, a = some ⟨b, o, none⟩ ∧ b < w.heap.size ∧ w.rangeAt b (o + i * 8) [.int .u8 (at0 E i 0), .int .u8 (at0 E i 1), .int .u8 (at0 E i 2), .int .u8 (at0 E i 3), .int .u8 (at0 E i 4), .int .u8 (at0 E i 5), .int .u8 (at0 E i 6), .int .u8 (at0 E i 7)] := fun i hi => hx i _ (at0_some E i hi)
  have hi := hasC_iff E x
  generalize hasC E x = R at hi ⊢
  generalize at0 E = e at hx' hi
  generalize E.length = n at hm hx' hi ⊢
  have HX := Lib.hid hx'
  have HI := Lib.hid hi
  clear hx hx' hi
  go_enter Tryd.func46, Tryd.ntmps46
  go_wp2_with fail
  have hbx := Lib.hid (box_range w x 24)
  have hw0 : Below w.heap.size w (w.alloc (.cells #[.int .u8 (x 0), .int .u8 (x 1), .int .u8 (x 2), .int .u8 (x 3), .int .u8 (x 4), .int .u8 (x 5), .int .u8 (x 6), .int .u8 (x 7)] 24)) := (Below.refl _ _).alloc (Nat.le_refl _) _
  have hz0 : w.heap.size < (w.alloc (.cells #[.int .u8 (x 0), .int .u8 (x 1), .int .u8 (x 2), .int .u8 (x 3), .int .u8 (x 4), .int .u8 (x 5), .int .u8 (x 6), .int .u8 (x 7)] 24)).heap.size := by simp
  generalize w.alloc (.cells #[.int .u8 (x 0), .int .u8 (x 1), .int .u8 (x 2), .int .u8 (x 3), .int .u8 (x 4), .int .u8 (x 5), .int .u8 (x 6), .int .u8 (x 7)] 24) = w0 at hbx hw0 hz0 ⊢
  go_loopw [5] (fun vi wr => ∃ i : Nat, i ≤ n ∧ vi = .int .i64 i ∧ Below w0.heap.size w0 wr ∧ Hid (∀ j, j < i → eqC (e j) x = false)) (fun vi _ => n - (intOf vi).toNat)
  case atStart => exact ⟨0, Nat.zero_le _, rfl, Below.refl _ _, Lib.hid (fun j hj => absurd hj (Nat.not_lt_zero _))⟩
  case round =>
    obtain ⟨i, hi, rfl, hB0, hS⟩ := hrel
    have hB := hw0.trans (hB0.mono (Nat.le_of_lt hz0))
    by_cases hlt : i < n
    · obtain ⟨b, o, rfl, hb, hc⟩ := HX.out i hlt
      obtain ⟨p0, p1, p2, p3, p4, p5, p6, p7⟩ := range_at hb hc hB
      obtain ⟨q0, q1, q2, q3, q4, q5, q6, q7⟩ := range_at hz0 hbx.out hB0
      simp only [Nat.zero_add] at q0 q1 q2 q3 q4 q5 q6 q7
      have hil : (i : Int) < n := by omega
      have A := run_eqC (e i) x
      clear hc
      by_cases he : eqC (e i) x = true
      · have hR : R = true := HI.out.2 ⟨i, hlt, he⟩
        subst hR
        rw [he] at A
        clear he
        go_wp2_with fail
        refine wp_region_qb (by kernel_rfl) (by kernel_rfl) ?_
        repeat (go_big_quiet_step (fail))
        refine wpQuiet_nil ?_
        intro w' hw'
        have hb2 := hB.trans (hw'.mono hB.size)
        have hb3 := hB0.trans (hw'.mono hB0.size)
        clear p0 p1 p2 p3 p4 p5 p6 p7 q0 q1 q2 q3 q4 q5 q6 q7 A hw' hB hB0
        go_wp2
        go_ret
        exact ⟨rfl, hb2⟩
      · rw [Bool.not_eq_true] at he
        rw [he] at A
        have HN : Hid (∀ j, j < i + 1 → eqC (e j) x = false) := Lib.hid fun j hj => by
          rcases Nat.lt_succ_iff_lt_or_eq.1 hj with h' | rfl
          · exact hS.out j h'
          · exact he
        clear he hS
        go_wp2_with fail
        refine wp_region_qb (by kernel_rfl) (by kernel_rfl) ?_
        repeat (go_big_quiet_step (fail))
        refine wpQuiet_nil ?_
        intro w' hw'
        have hb2 := hB.trans (hw'.mono hB.size)
        have hb3 := hB0.trans (hw'.mono hB0.size)
        clear p0 p1 p2 p3 p4 p5 p6 p7 q0 q1 q2 q3 q4 q5 q6 q7 A hw' hB hB0
        go_wp2
        go_roundw
        case rel => exact ⟨i + 1, by omega, by go_num, hb3, HN⟩
        case measure => simp [intOf]; omega
    · obtain rfl : i = n := by omega
      have hR : R = false := by
        cases hq : R with
        | false => rfl
        | true =>
          obtain ⟨j, hj, hje⟩ := HI.out.1 hq
          rw [hS.out j hj] at hje
          cases hje
      subst hR
      go_wp2
      go_ret
      exact ⟨rfl, hB⟩
end Go.Proofs.YtmajalobkcnobaaDoor
