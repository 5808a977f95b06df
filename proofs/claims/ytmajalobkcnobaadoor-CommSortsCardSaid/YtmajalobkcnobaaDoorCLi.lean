/- The examples of the chapter hold. No condition but what the table of kinds holds. -/
import Derived.Test.YtmajalobkcnobaaDoorCSm
import Derived.Test.YtmajalobkcnobaaDoorCTr
namespace Go.Proofs.YtmajalobkcnobaaDoor
open Go.RowKit Go.Sort
set_option linter.unusedVariables false
set_option linter.unusedSimpArgs false
set_option maxRecDepth 100000

theorem range4 (a b c d e : Nat → Int) (w : World) (i : Nat) (h : [a, b, c, d][i]? = some e) : (w.alloc (.cells #[.int .u8 (a 0), .int .u8 (a 1), .int .u8 (a 2), .int .u8 (a 3), .int .u8 (a 4), .int .u8 (a 5), .int .u8 (a 6), .int .u8 (a 7), .int .u8 (b 0), .int .u8 (b 1), .int .u8 (b 2), .int .u8 (b 3), .int .u8 (b 4), .int .u8 (b 5), .int .u8 (b 6), .int .u8 (b 7), .int .u8 (c 0), .int .u8 (c 1), .int .u8 (c 2), .int .u8 (c 3), .int .u8 (c 4), .int .u8 (c 5), .int .u8 (c 6), .int .u8 (c 7), .int .u8 (d 0), .int .u8 (d 1), .int .u8 (d 2), .int .u8 (d 3), .int .u8 (d 4), .int .u8 (d 5), .int .u8 (d 6), .int .u8 (d 7)] 24)).rangeAt w.heap.size (0 + i * 8) [.int .u8 (e 0), .int .u8 (e 1), .int .u8 (e 2), .int .u8 (e 3), .int .u8 (e 4), .int .u8 (e 5), .int .u8 (e 6), .int .u8 (e 7)] := by
  rcases i with _ | _ | _ | _ | i
  · obtain rfl : e = a := by simpa using h.symm
    intro j u hj
    have hj8 : j < 8 := by
      rcases Nat.lt_or_ge j 8 with q | q
      · exact q
      · rw [List.getElem?_eq_none (by simpa using q)] at hj
        cases hj
    rcases j with _ | _ | _ | _ | _ | _ | _ | _ | j
    all_goals first | omega | (simp only [List.getElem?_cons_zero, List.getElem?_cons_succ, Option.some.injEq] at hj; subst hj; exact World.cell?_alloc_at _ _ _ _ rfl)
  · obtain rfl : e = b := by simpa using h.symm
    intro j u hj
    have hj8 : j < 8 := by
      rcases Nat.lt_or_ge j 8 with q | q
      · exact q
      · rw [List.getElem?_eq_none (by simpa using q)] at hj
        cases hj
    rcases j with _ | _ | _ | _ | _ | _ | _ | _ | j
    all_goals first | omega | (simp only [List.getElem?_cons_zero, List.getElem?_cons_succ, Option.some.injEq] at hj; subst hj; exact World.cell?_alloc_at _ _ _ _ rfl)
  · obtain rfl : e = c := by simpa using h.symm
    intro j u hj
    have hj8 : j < 8 := by
      rcases Nat.lt_or_ge j 8 with q | q
      · exact q
      · rw [List.getElem?_eq_none (by simpa using q)] at hj
        cases hj
    rcases j with _ | _ | _ | _ | _ | _ | _ | _ | j
    all_goals first | omega | (simp only [List.getElem?_cons_zero, List.getElem?_cons_succ, Option.some.injEq] at hj; subst hj; exact World.cell?_alloc_at _ _ _ _ rfl)
  · obtain rfl : e = d := by simpa using h.symm
    intro j u hj
    have hj8 : j < 8 := by
      rcases Nat.lt_or_ge j 8 with q | q
      · exact q
      · rw [List.getElem?_eq_none (by simpa using q)] at hj
        cases hj
    rcases j with _ | _ | _ | _ | _ | _ | _ | _ | j
    all_goals first | omega | (simp only [List.getElem?_cons_zero, List.getElem?_cons_succ, Option.some.injEq] at hj; subst hj; exact World.cell?_alloc_at _ _ _ _ rfl)
  · simp at h
theorem cseg4 (a b c d : Nat → Int) (w : World) : CSeg (w.alloc (.cells #[.int .u8 (a 0), .int .u8 (a 1), .int .u8 (a 2), .int .u8 (a 3), .int .u8 (a 4), .int .u8 (a 5), .int .u8 (a 6), .int .u8 (a 7), .int .u8 (b 0), .int .u8 (b 1), .int .u8 (b 2), .int .u8 (b 3), .int .u8 (b 4), .int .u8 (b 5), .int .u8 (b 6), .int .u8 (b 7), .int .u8 (c 0), .int .u8 (c 1), .int .u8 (c 2), .int .u8 (c 3), .int .u8 (c 4), .int .u8 (c 5), .int .u8 (c 6), .int .u8 (c 7), .int .u8 (d 0), .int .u8 (d 1), .int .u8 (d 2), .int .u8 (d 3), .int .u8 (d 4), .int .u8 (d 5), .int .u8 (d 6), .int .u8 (d 7)] 24)) (.slice (some ⟨w.heap.size, 0, none⟩) 4 4) [a, b, c, d] :=
  ⟨_, _, rfl, Nat.le_refl _, fun i e h => ⟨w.heap.size, 0, rfl, by simp, range4 a b c d e w i h⟩⟩
theorem useg2 (x y : Int) (w : World) : USeg (w.alloc (.cells #[.int .u32 x, .int .u32 y] 28)) (.slice (some ⟨w.heap.size, 0, none⟩) 2 2) [x, y] := by
  refine ⟨_, _, rfl, Nat.le_refl _, fun i hi => ⟨w.heap.size, 0, rfl, by simp, ?_⟩⟩
  rcases i with _ | _ | i
  · exact World.cell?_alloc_at _ _ _ _ rfl
  · exact World.cell?_alloc_at _ _ _ _ rfl
  · simp only [List.length_cons, List.length_nil] at hi; omega

/-- The content of a target. -/
def tn (a n : Int) : Int := a * 4294967296 + n
theorem live_nums : nums [mk 0 2 (tn 65000 9), mk 0 2 (tn 1 5), mk 0 2 (tn 65000 7), mk 0 2 (tn 65000 9)] = [9, 7, 9] := by decide +kernel
theorem live_srt {d : Array Int} (h : Srt #[9, 7, 9] d) : d = #[7, 9, 9] := by
  obtain ⟨-, hp, hs⟩ := h
  have e : d.toList = [7, 9, 9] := by
    refine List.Perm.eq_of_pairwise (le := (· ≤ ·)) (fun x y _ _ h1 h2 => by omega) hs (by decide) (hp.trans ?_)
    decide
  rw [← Array.toArray_toList (xs := d), e]
theorem live_compact : Lib.compactUpTo (#[7, 9, 9] : Array Int) 3 = [7, 9] := by decide +kernel
theorem tn_o8 (n : Int) : O8 (mk 0 2 n) := mk_o8 (by decide) (by decide) (by decide) (by decide)
theorem live_targets (w : World) (v : Value) (hv : CSeg w v [mk 0 2 (tn 65000 9), mk 0 2 (tn 1 5), mk 0 2 (tn 65000 7), mk 0 2 (tn 65000 9)]) (hK : KI w) :
    Calls Tryd.prog 41 #[v] w fun r w' => (∃ u, r = .returned u ∧ USeg w' u [7, 9]) ∧ Below w.heap.size w w' := by
  refine (targets_list 12 sortOK12 _ (by decide) (by rw [live_nums]; decide) (fun e he => ?_) v w hv hK).mono fun r w' ⟨u, d, hr, hd, hu, hB⟩ => ?_
  · simp only [List.mem_cons, List.not_mem_nil, or_false] at he
    rcases he with rfl | rfl | rfl | rfl <;> exact tn_o8 _
  · rw [live_nums] at hd
    obtain rfl := live_srt hd
    rw [show (#[7, 9, 9] : Array Int).size = 3 from rfl, live_compact] at hu
    exact ⟨⟨u, hr, hu⟩, hB⟩
theorem target_t (a n : Int) (ha : 0 ≤ a) (ha1 : a < 65536) (h0 : 0 ≤ n) (h1 : n < 4294967296) (w : World) (hK : KI w) :
    Calls Tryd.prog 25 #[.int .u16 a, .int .u32 n] w fun r w' => r = .returned (.agg #[.int .u8 (mk 0 2 (tn a n) 0), .int .u8 (mk 0 2 (tn a n) 1), .int .u8 (mk 0 2 (tn a n) 2), .int .u8 (mk 0 2 (tn a n) 3), .int .u8 (mk 0 2 (tn a n) 4), .int .u8 (mk 0 2 (tn a n) 5), .int .u8 (mk 0 2 (tn a n) 6), .int .u8 (mk 0 2 (tn a n) 7)]) ∧ Below w.heap.size w w' := target_is a n ha ha1 h0 h1 w hK

def lt8 : Nat → Int | 0 => 0 | 1 => 2 | 2 => 253 | 3 => 232 | 7 => 7 | _ => 0
theorem live_eq : eqC (mk 0 2 (tn 65000 7)) lt8 = true := by decide +kernel

set_option maxHeartbeats 4000000 in
theorem lives_is (w : World) (hK : KI w) : Calls Tryd.prog 9 #[] w fun r w' => r = .returned (.bool true) ∧ Below w.heap.size w w' := by
  have hq : ∀ W, Sem.run Tryd.prog (Op.equalIn 10000 24 (.agg #[.int .u8 (mk 0 2 (tn 65000 7) 0), .int .u8 (mk 0 2 (tn 65000 7) 1), .int .u8 (mk 0 2 (tn 65000 7) 2), .int .u8 (mk 0 2 (tn 65000 7) 3), .int .u8 (mk 0 2 (tn 65000 7) 4), .int .u8 (mk 0 2 (tn 65000 7) 5), .int .u8 (mk 0 2 (tn 65000 7) 6), .int .u8 (mk 0 2 (tn 65000 7) 7)]) (.agg #[.int .u8 0, .int .u8 2, .int .u8 253, .int .u8 232, .int .u8 0, .int .u8 0, .int .u8 0, .int .u8 7])) W = .ok true W := fun W => by
    rw [← live_eq]
    exact run_eqC (mk 0 2 (tn 65000 7)) lt8 W
  have S : ∀ W, Below w.heap.size w W → KI W := fun W h => hK.below h hK.lt
  have HS := Lib.hid S
  clear S
  go_enter Tryd.func9, Tryd.ntmps9
  go_wp2_with fail
  go_at_call 25
  refine (target_t 65000 7 (by decide) (by decide) (by decide) (by decide) _ hK).mono ?_
  rintro r w1 ⟨rfl, b1⟩
  go_wp2_with fail
  go_at_call 25
  refine (target_t 65000 9 (by decide) (by decide) (by decide) (by decide) _ (HS.out _ b1)).mono ?_
  rintro r w2 ⟨rfl, b2'⟩
  have b2 := b1.trans (b2'.mono b1.size)
  go_wp2_with fail
  go_at_call 25
  refine (target_t 1 5 (by decide) (by decide) (by decide) (by decide) _ (HS.out _ b2)).mono ?_
  rintro r w3 ⟨rfl, b3'⟩
  have b3 := b2.trans (b3'.mono b2.size)
  go_wp2_with fail
  go_at_call 25
  refine (target_t 65000 7 (by decide) (by decide) (by decide) (by decide) _ (HS.out _ b3)).mono ?_
  rintro r w4 ⟨rfl, b4'⟩
  have b4 := b3.trans (b4'.mono b3.size)
  go_wp2_with fail
  go_at_call 25
  refine (target_t 65000 9 (by decide) (by decide) (by decide) (by decide) _ (HS.out _ b4)).mono ?_
  rintro r w5 ⟨rfl, b5'⟩
  have b5 := b4.trans (b5'.mono b4.size)
  go_wp2_with fail
  go_at_call 41
  have hv := cseg4 (mk 0 2 (tn 65000 9)) (mk 0 2 (tn 1 5)) (mk 0 2 (tn 65000 7)) (mk 0 2 (tn 65000 9)) w5
  have b6 := b5.alloc b5.size (.cells #[.int .u8 (mk 0 2 (tn 65000 9) 0), .int .u8 (mk 0 2 (tn 65000 9) 1), .int .u8 (mk 0 2 (tn 65000 9) 2), .int .u8 (mk 0 2 (tn 65000 9) 3), .int .u8 (mk 0 2 (tn 65000 9) 4), .int .u8 (mk 0 2 (tn 65000 9) 5), .int .u8 (mk 0 2 (tn 65000 9) 6), .int .u8 (mk 0 2 (tn 65000 9) 7), .int .u8 (mk 0 2 (tn 1 5) 0), .int .u8 (mk 0 2 (tn 1 5) 1), .int .u8 (mk 0 2 (tn 1 5) 2), .int .u8 (mk 0 2 (tn 1 5) 3), .int .u8 (mk 0 2 (tn 1 5) 4), .int .u8 (mk 0 2 (tn 1 5) 5), .int .u8 (mk 0 2 (tn 1 5) 6), .int .u8 (mk 0 2 (tn 1 5) 7), .int .u8 (mk 0 2 (tn 65000 7) 0), .int .u8 (mk 0 2 (tn 65000 7) 1), .int .u8 (mk 0 2 (tn 65000 7) 2), .int .u8 (mk 0 2 (tn 65000 7) 3), .int .u8 (mk 0 2 (tn 65000 7) 4), .int .u8 (mk 0 2 (tn 65000 7) 5), .int .u8 (mk 0 2 (tn 65000 7) 6), .int .u8 (mk 0 2 (tn 65000 7) 7), .int .u8 (mk 0 2 (tn 65000 9) 0), .int .u8 (mk 0 2 (tn 65000 9) 1), .int .u8 (mk 0 2 (tn 65000 9) 2), .int .u8 (mk 0 2 (tn 65000 9) 3), .int .u8 (mk 0 2 (tn 65000 9) 4), .int .u8 (mk 0 2 (tn 65000 9) 5), .int .u8 (mk 0 2 (tn 65000 9) 6), .int .u8 (mk 0 2 (tn 65000 9) 7)] 24)
  refine (live_targets _ _ hv (HS.out _ b6)).mono ?_
  rintro r w7 ⟨⟨u, rfl, hu⟩, b7'⟩
  have b7 := b6.trans (b7'.mono b6.size)
  go_wp2_with fail
  go_at_call 40
  have b8 := b7.alloc b7.size (.cells #[.int .u32 7, .int .u32 9] 28)
  refine (same_u [7, 9] [7, 9] (by decide) u _ _ (hu.below ((Below.refl _ _).alloc (Nat.le_refl _) _)) (useg2 7 9 w7)).mono ?_
  rintro r w9 ⟨rfl, b9'⟩
  have b9 := b8.trans (b9'.mono b8.size)
  go_wp2
  go_ret
  exact ⟨rfl, b9⟩
end Go.Proofs.YtmajalobkcnobaaDoor
