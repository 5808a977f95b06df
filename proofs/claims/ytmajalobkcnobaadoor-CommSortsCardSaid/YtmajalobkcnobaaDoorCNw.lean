/- CommNames: the walk of the law. No condition but what the table of kinds holds. -/
import Derived.Test.YtmajalobkcnobaaDoorCGe
import Derived.Test.YtmajalobkcnobaaDoorCCl
namespace Go.Proofs.YtmajalobkcnobaaDoor
open Go.RowKit Go.Sort
set_option linter.unusedVariables false
set_option linter.unusedSimpArgs false
set_option maxRecDepth 100000

theorem range2 (a b e : Nat → Int) (w : World) (i : Nat) (h : [a, b][i]? = some e) : (w.alloc (.cells #[.int .u8 (a 0), .int .u8 (a 1), .int .u8 (a 2), .int .u8 (a 3), .int .u8 (a 4), .int .u8 (a 5), .int .u8 (a 6), .int .u8 (a 7), .int .u8 (b 0), .int .u8 (b 1), .int .u8 (b 2), .int .u8 (b 3), .int .u8 (b 4), .int .u8 (b 5), .int .u8 (b 6), .int .u8 (b 7)] 24)).rangeAt w.heap.size (0 + i * 8) [.int .u8 (e 0), .int .u8 (e 1), .int .u8 (e 2), .int .u8 (e 3), .int .u8 (e 4), .int .u8 (e 5), .int .u8 (e 6), .int .u8 (e 7)] := by
  rcases i with _ | _ | i
  · obtain rfl : e = a := by simpa using h.symm
    intro j u hj
    have hj8 : j < 8 := by
      rcases Nat.lt_or_ge j 8 with q | q
      · exact q
      · rw [List.getElem?_eq_none (by simpa using q)] at hj
        cases hj
    rcases j with _ | _ | _ | _ | _ | _ | _ | _ | j
    all_goals first | omega | (simp only [List.getElem?_cons_zero, List.getElem?_cons_succ, Option.some.injEq] at hj; subst hj; exact World.cell?_alloc_at _ _ _ _ rfl)
  · obtain rfl : e = b := by simpa using h.symm
    intro j u hj
    have hj8 : j < 8 := by
      rcases Nat.lt_or_ge j 8 with q | q
      · exact q
      · rw [List.getElem?_eq_none (by simpa using q)] at hj
        cases hj
    rcases j with _ | _ | _ | _ | _ | _ | _ | _ | j
    all_goals first | omega | (simp only [List.getElem?_cons_zero, List.getElem?_cons_succ, Option.some.injEq] at hj; subst hj; exact World.cell?_alloc_at _ _ _ _ rfl)
  · simp at h
theorem cseg2 (a b : Nat → Int) (w : World) : CSeg (w.alloc (.cells #[.int .u8 (a 0), .int .u8 (a 1), .int .u8 (a 2), .int .u8 (a 3), .int .u8 (a 4), .int .u8 (a 5), .int .u8 (a 6), .int .u8 (a 7), .int .u8 (b 0), .int .u8 (b 1), .int .u8 (b 2), .int .u8 (b 3), .int .u8 (b 4), .int .u8 (b 5), .int .u8 (b 6), .int .u8 (b 7)] 24)) (.slice (some ⟨w.heap.size, 0, none⟩) 2 2) [a, b] :=
  ⟨_, _, rfl, Nat.le_refl _, fun i e h => ⟨w.heap.size, 0, rfl, by simp, range2 a b e w i h⟩⟩

/-! The library's functions on a list without elements. -/
theorem compactC_short (a : Option Addr) (n c : Nat) (h : n < 2) (w : World) : Calls Tryd.prog 60 #[.slice a n c] w fun e w' => e = .returned (.slice a n c) ∧ w = w' := by
  have h2 : (n : Int) < 2 := by omega
  go_enter Tryd.func60, Tryd.ntmps60
  go_wp2
  go_ret
  exact ⟨rfl, rfl⟩
theorem sortfunc_none (p : Option Addr) (c : Nat) (w : World) :
    Calls Tryd.prog 57 #[.slice p 0 c, .func (.func 58) #[] #[]] w fun e w' => e = .returned (.tuple #[]) ∧ w' = w := by
  have hl : Calls Tryd.prog 76 #[.int .u64 (0 : Int)] w fun e w' => e = .returned (.int .i64 (0 : Nat)) ∧ w' = w := by
    have h := Any.bits_Len Tryd.bitsLen (0 : Int) w (by omega) (by omega)
    have e : Lib.bitLen (Int.toNat 0) = 0 := by decide
    rwa [e] at h
  have hi : Calls Tryd.prog 79 #[.slice p 0 c, .int .i64 0, .int .i64 0, .func (.func 58) #[] #[]] w fun e w' => e = .returned (.tuple #[]) ∧ w' = w := by
    go_enter Tryd.func79, Tryd.ntmps79
    go_wp2_with fail
    refine wp_loop_rounds 1 ?_
    rw [rounds_succ]
    go_wp2
    go_end0
    exact ⟨rfl, rfl⟩
  have hp : Calls Tryd.prog 75 #[.slice p 0 c, .int .i64 0, .int .i64 0, .int .i64 0, .func (.func 58) #[] #[]] w fun e w' => e = .returned (.tuple #[]) ∧ w' = w := by
    go_enter Tryd.func75, Tryd.ntmps75
    go_wp2_with fail
    refine wp_loop_rounds 1 ?_
    rw [rounds_succ]
    go_wp2_with (go_at_call 79; refine hi.mono ?_; rintro e w' ⟨rfl, rfl⟩)
    (try simp only [Exit.inBlock, Exit.then])
    refine bodyPost_ret (results_none rfl _ _ _) rfl ?_
    exact ⟨rfl, rfl⟩
  go_enter Tryd.func57, Tryd.ntmps57
  go_wp2_with (first | (go_at_call 76; refine hl.mono ?_; rintro e w' ⟨rfl, rfl⟩) | (go_at_call 75; refine hp.mono ?_; rintro e w' ⟨rfl, rfl⟩))
  go_end0
  exact ⟨rfl, rfl⟩
theorem sort_nil (n c : Nat) (w : World) : Calls Tryd.prog 19 #[.slice none n c] w fun e w' => e = .returned (.slice none 0 0) ∧ Below w.heap.size w w' := by
  have hcl := AnyE.slices_Clone_nil Tryd.cloneC n c w
  change Calls Tryd.prog 56 _ _ _ at hcl
  go_enter Tryd.func19, Tryd.ntmps19
  go_wp2_with (first
    | (go_at_call 56; refine hcl.mono ?_; rintro e w' ⟨rfl, rfl⟩)
    | (go_at_call 57; refine (sortfunc_none _ _ _).mono ?_; rintro e w' ⟨rfl, rfl⟩)
    | (go_at_call 60; refine (compactC_short _ _ _ (by decide) _).mono ?_; rintro e w' ⟨rfl, rfl⟩))
  go_ret
  exact ⟨rfl, Below.refl _ _⟩

def litA : Nat → Int | 0 => 6 | 1 => 1 | 2 => 1 | 3 => 0 | 4 => 0 | 5 => 0 | 6 => 1 | _ => 2
def litB : Nat → Int | 0 => 6 | 1 => 6 | 2 => 2 | 3 => 0 | 4 => 0 | 5 => 0 | 6 => 127 | _ => 255
def litC : Nat → Int | 0 => 3 | 1 => 12 | 2 => 0 | 3 => 0 | 4 => 0 | 5 => 0 | 6 => 0 | _ => 8
def litK0 : Nat → Int | 0 => 6 | 1 => 5 | 2 => 0 | 3 => 0 | 4 => 0 | 5 => 0 | 6 => 0 | _ => 0
def litK7 : Nat → Int | 0 => 6 | 1 => 6 | 2 => 9 | 3 => 0 | 4 => 0 | 5 => 0 | 6 => 0 | _ => 0

def cB : Int := 2 * 1099511627776 + 32767
theorem nEqA : eqC (mk 6 1 (fl true + 258)) litA = true := by decide +kernel
theorem nEqB : eqC (mk 6 6 cB) litB = true := by decide +kernel
theorem nEqC : eqC (mk 3 12 8) litC = true := by decide +kernel
theorem el_n (w : World) (hK : KI w) : Calls Tryd.prog 14 #[.int .i64 2, .int .i64 32767] w fun r w' => r = .returned (.tuple #[.agg #[.int .u8 (mk 6 6 cB 0), .int .u8 (mk 6 6 cB 1), .int .u8 (mk 6 6 cB 2), .int .u8 (mk 6 6 cB 3), .int .u8 (mk 6 6 cB 4), .int .u8 (mk 6 6 cB 5), .int .u8 (mk 6 6 cB 6), .int .u8 (mk 6 6 cB 7)], .int .i64 0]) ∧ Below w.heap.size w w' := election_is 2 32767 (by decide) (by decide) (by decide) (by decide) w hK
theorem kind_0 (w : World) (hK : KI w) : Calls Tryd.prog 18 #[.agg #[.int .u8 6, .int .u8 5, .int .u8 0, .int .u8 0, .int .u8 0, .int .u8 0, .int .u8 0, .int .u8 0]] w fun r w' => r = .returned (.int .i64 0) ∧ Below w.heap.size w w' := kind_eq 0 litK0 (by decide) w hK
theorem kind_7 (w : World) (hK : KI w) : Calls Tryd.prog 18 #[.agg #[.int .u8 6, .int .u8 6, .int .u8 9, .int .u8 0, .int .u8 0, .int .u8 0, .int .u8 0, .int .u8 0]] w fun r w' => r = .returned (.int .i64 7) ∧ Below w.heap.size w w' := kind_eq 7 litK7 (by decide) w hK
theorem nFk3 : fk 3 [mk 6 0 (fl true + 3), mk 6 0 (fl false + 9)] = some (mk 6 0 (fl true + 3)) := by kernel_rfl
theorem nFk4 : fk 4 [mk 6 0 (fl true + 3), mk 6 0 (fl false + 9)] = none := by kernel_rfl
theorem nMob : mobV3 (some (mk 6 0 (fl true + 3))) = .tuple #[.bool true, .int .u32 3, .bool true] := by kernel_rfl
theorem nLab : labV3 none = .tuple #[.bool false, .int .u32 0, .bool false] := by kernel_rfl
theorem nO8 : ∀ e ∈ [mk 6 0 (fl true + 3), mk 6 0 (fl false + 9)], O8 e := fun e he => by
  simp only [List.mem_cons, List.not_mem_nil, or_false] at he
  rcases he with rfl | rfl <;> exact mk_o8 (by decide) (by decide) (by decide) (by decide)
theorem mob_n (w : World) (v : Value) (hv : CSeg w v [mk 6 0 (fl true + 3), mk 6 0 (fl false + 9)]) (hK : KI w) : Calls Tryd.prog 16 #[v] w fun r w' => r = .returned (.tuple #[.bool true, .int .u32 3, .bool true]) ∧ Below w.heap.size w w' := by
  have h := MobilityOf_is _ (by decide) nO8 v w hv hK
  rwa [nFk3, nMob] at h
theorem lab_n (w : World) (v : Value) (hv : CSeg w v [mk 6 0 (fl true + 3), mk 6 0 (fl false + 9)]) (hK : KI w) : Calls Tryd.prog 17 #[v] w fun r w' => r = .returned (.tuple #[.bool false, .int .u32 0, .bool false]) ∧ Below w.heap.size w w' := by
  have h := LabelOf_is _ (by decide) nO8 v w hv hK
  rwa [nFk4, nLab] at h
theorem Bs.cells {w0 w : World} {L : List (Nat × (Nat → Int))} (h : Bs w0 L w) (g : Nat) (e : Nat → Int) (hx : (g, e) ∈ L) : w.cell? ⟨g, 0, none⟩ = some (.int .u8 (e 0)) ∧ w.cell? ⟨g, 1, none⟩ = some (.int .u8 (e 1)) ∧ w.cell? ⟨g, 2, none⟩ = some (.int .u8 (e 2)) ∧ w.cell? ⟨g, 3, none⟩ = some (.int .u8 (e 3)) ∧ w.cell? ⟨g, 4, none⟩ = some (.int .u8 (e 4)) ∧ w.cell? ⟨g, 5, none⟩ = some (.int .u8 (e 5)) ∧ w.cell? ⟨g, 6, none⟩ = some (.int .u8 (e 6)) ∧ w.cell? ⟨g, 7, none⟩ = some (.int .u8 (e 7)) := by
  have k : ∀ o v, (#[.int .u8 (e 0), .int .u8 (e 1), .int .u8 (e 2), .int .u8 (e 3), .int .u8 (e 4), .int .u8 (e 5), .int .u8 (e 6), .int .u8 (e 7)] : Array Value)[o]? = some v → w.cell? ⟨g, o, none⟩ = some v := fun o v hv => by
    rw [cell_of_row _ g o _ _ _ (h.1 _ hx)]
    exact hv
  exact ⟨k 0 _ rfl, k 1 _ rfl, k 2 _ rfl, k 3 _ rfl, k 4 _ rfl, k 5 _ rfl, k 6 _ rfl, k 7 _ rfl⟩
theorem Bs.skip {w0 w : World} {L : List (Nat × (Nat → Int))} (h : Bs w0 L w) (o : Obj) : Bs w0 L (w.alloc o) := h.below ((Below.refl _ _).alloc (Nat.le_refl _) _)

set_option maxHeartbeats 8000000 in
theorem names_walk (w : World) (hK : KI w) : Calls Tryd.prog 3 #[] w fun r w' => r = .returned (.bool true) ∧ Below w.heap.size w w' := by
  have S := Bs.start w
  have q1 : ∀ W, Sem.run Tryd.prog (Op.equalIn 10000 24 (.agg #[.int .u8 (mk 6 1 (fl true + 258) 0), .int .u8 (mk 6 1 (fl true + 258) 1), .int .u8 (mk 6 1 (fl true + 258) 2), .int .u8 (mk 6 1 (fl true + 258) 3), .int .u8 (mk 6 1 (fl true + 258) 4), .int .u8 (mk 6 1 (fl true + 258) 5), .int .u8 (mk 6 1 (fl true + 258) 6), .int .u8 (mk 6 1 (fl true + 258) 7)]) (.agg #[.int .u8 6, .int .u8 1, .int .u8 1, .int .u8 0, .int .u8 0, .int .u8 0, .int .u8 1, .int .u8 2])) W = .ok true W := fun W => by
    rw [← nEqA]; exact run_eqC (mk 6 1 (fl true + 258)) litA W
  have q2 : ∀ W, Sem.run Tryd.prog (Op.equalIn 10000 24 (.agg #[.int .u8 (mk 6 6 cB 0), .int .u8 (mk 6 6 cB 1), .int .u8 (mk 6 6 cB 2), .int .u8 (mk 6 6 cB 3), .int .u8 (mk 6 6 cB 4), .int .u8 (mk 6 6 cB 5), .int .u8 (mk 6 6 cB 6), .int .u8 (mk 6 6 cB 7)]) (.agg #[.int .u8 6, .int .u8 6, .int .u8 2, .int .u8 0, .int .u8 0, .int .u8 0, .int .u8 127, .int .u8 255])) W = .ok true W := fun W => by
    rw [← nEqB]; exact run_eqC (mk 6 6 cB) litB W
  have q3 : ∀ W, Sem.run Tryd.prog (Op.equalIn 10000 24 (.agg #[.int .u8 (mk 3 12 8 0), .int .u8 (mk 3 12 8 1), .int .u8 (mk 3 12 8 2), .int .u8 (mk 3 12 8 3), .int .u8 (mk 3 12 8 4), .int .u8 (mk 3 12 8 5), .int .u8 (mk 3 12 8 6), .int .u8 (mk 3 12 8 7)]) (.agg #[.int .u8 3, .int .u8 12, .int .u8 0, .int .u8 0, .int .u8 0, .int .u8 0, .int .u8 0, .int .u8 8])) W = .ok true W := fun W => by
    rw [← nEqC]; exact run_eqC (mk 3 12 8) litC W
  go_enter Tryd.func3, Tryd.ntmps3
  go_wp2_with fail
  go_at_call 9
  refine (lives_is _ (S.ki hK)).mono ?_
  rintro r w0 ⟨rfl, hb⟩
  replace S := S.below hb
  clear hb
  go_wp2_with fail
  go_at_call 10
  refine (label_is true 258 (by decide) (by decide) _ (S.ki hK)).mono ?_
  rintro r w1 ⟨rfl, hb⟩
  replace S := (S.below hb).box (mk 6 1 (fl true + 258))
  clear hb
  go_wp2_with fail
  go_at_call 10
  refine (label_no false 16777216 (by decide) _).mono ?_
  rintro r w2 ⟨rfl, hb⟩
  replace S := (S.below hb).skip (.cells #[.int .u8 0, .int .u8 0, .int .u8 0, .int .u8 0, .int .u8 0, .int .u8 0, .int .u8 0, .int .u8 0] 24)
  clear hb
  go_wp2_with fail
  go_at_call 11
  refine (encap_no 65536 (by decide) _).mono ?_
  rintro r w3 ⟨rfl, hb⟩
  replace S := (S.below hb).skip (.cells #[.int .u8 0, .int .u8 0, .int .u8 0, .int .u8 0, .int .u8 0, .int .u8 0, .int .u8 0, .int .u8 0] 24)
  clear hb
  go_wp2_with fail
  go_at_call 12
  refine (import_no 281474976710656 (by decide) _ (S.ki hK)).mono ?_
  rintro r w4 ⟨rfl, hb⟩
  replace S := (S.below hb).skip (.cells #[.int .u8 0, .int .u8 0, .int .u8 0, .int .u8 0, .int .u8 0, .int .u8 0, .int .u8 0, .int .u8 0] 24)
  clear hb
  go_wp2_with fail
  go_at_call 13
  refine (router_no 281474976710656 (by decide) _ (S.ki hK)).mono ?_
  rintro r w5 ⟨rfl, hb⟩
  replace S := (S.below hb).skip (.cells #[.int .u8 0, .int .u8 0, .int .u8 0, .int .u8 0, .int .u8 0, .int .u8 0, .int .u8 0, .int .u8 0] 24)
  clear hb
  go_wp2_with fail
  go_at_call 14
  refine (election_alg 32 0 (by decide) _).mono ?_
  rintro r w6 ⟨rfl, hb⟩
  replace S := (S.below hb).skip (.cells #[.int .u8 0, .int .u8 0, .int .u8 0, .int .u8 0, .int .u8 0, .int .u8 0, .int .u8 0, .int .u8 0] 24)
  clear hb
  go_wp2_with fail
  go_at_call 14
  refine (election_pref 0 (-1) (by decide) (by decide) (by decide) _).mono ?_
  rintro r w7 ⟨rfl, hb⟩
  replace S := (S.below hb).skip (.cells #[.int .u8 0, .int .u8 0, .int .u8 0, .int .u8 0, .int .u8 0, .int .u8 0, .int .u8 0, .int .u8 0] 24)
  clear hb
  go_wp2_with fail
  go_at_call 14
  refine (el_n _ (S.ki hK)).mono ?_
  rintro r w8 ⟨rfl, hb⟩
  replace S := (S.below hb).box (mk 6 6 cB)
  clear hb
  go_wp2_with fail
  go_at_call 11
  refine (encap_is 8 (by decide) (by decide) _ (S.ki hK)).mono ?_
  rintro r w9 ⟨rfl, hb⟩
  replace S := (S.below hb).box (mk 3 12 8)
  clear hb
  go_wp2_with fail
  go_at_call 15
  refine (mobility_is true 3 (by decide) (by decide) _ (S.ki hK)).mono ?_
  rintro r w10 ⟨rfl, hb⟩
  replace S := S.below hb
  clear hb
  go_wp2_with fail
  go_at_call 15
  refine (mobility_is false 9 (by decide) (by decide) _ (S.ki hK)).mono ?_
  rintro r w11 ⟨rfl, hb⟩
  replace S := (S.below hb).skip (.cells #[.int .u8 (mk 6 0 (fl true + 3) 0), .int .u8 (mk 6 0 (fl true + 3) 1), .int .u8 (mk 6 0 (fl true + 3) 2), .int .u8 (mk 6 0 (fl true + 3) 3), .int .u8 (mk 6 0 (fl true + 3) 4), .int .u8 (mk 6 0 (fl true + 3) 5), .int .u8 (mk 6 0 (fl true + 3) 6), .int .u8 (mk 6 0 (fl true + 3) 7), .int .u8 (mk 6 0 (fl false + 9) 0), .int .u8 (mk 6 0 (fl false + 9) 1), .int .u8 (mk 6 0 (fl false + 9) 2), .int .u8 (mk 6 0 (fl false + 9) 3), .int .u8 (mk 6 0 (fl false + 9) 4), .int .u8 (mk 6 0 (fl false + 9) 5), .int .u8 (mk 6 0 (fl false + 9) 6), .int .u8 (mk 6 0 (fl false + 9) 7)] 24)
  clear hb
  have hv := cseg2 (mk 6 0 (fl true + 3)) (mk 6 0 (fl false + 9)) w11
  have HV := Lib.hid hv
  clear hv
  go_wp2_with fail
  go_at_call 16
  refine (mob_n _ _ HV.out (S.ki hK)).mono ?_
  rintro r w12 ⟨rfl, hb⟩
  have HV2 := Lib.hid (HV.out.below hb)
  replace S := S.below hb
  clear hb
  go_wp2_with fail
  go_at_call 17
  refine (lab_n _ _ HV2.out (S.ki hK)).mono ?_
  rintro r w13 ⟨rfl, hb⟩
  replace S := S.below hb
  clear hb
  have l1 := S.cells w1.heap.size (mk 6 1 (fl true + 258)) (by simp)
  have l8 := S.cells w8.heap.size (mk 6 6 cB) (by simp)
  have l9 := S.cells w9.heap.size (mk 3 12 8) (by simp)
  go_wp2_with fail
  go_at_call 18
  refine (kind_0 _ (S.ki hK)).mono ?_
  rintro r w14 ⟨rfl, hb⟩
  replace S := S.below hb
  clear hb l1 l8 l9
  go_wp2_with fail
  go_at_call 18
  refine (kind_7 _ (S.ki hK)).mono ?_
  rintro r w15 ⟨rfl, hb⟩
  replace S := S.below hb
  clear hb
  go_wp2_with fail
  go_at_call 19
  refine (sort_nil _ _ _).mono ?_
  rintro r w16 ⟨rfl, hb⟩
  replace S := S.below hb
  clear hb
  go_wp2
  go_ret
  exact ⟨rfl, S.2⟩
end Go.Proofs.YtmajalobkcnobaaDoor
