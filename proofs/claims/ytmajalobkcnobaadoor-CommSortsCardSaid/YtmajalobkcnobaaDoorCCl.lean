/- CommCalls: the walk of the law. No condition but what the table of kinds holds. -/
import Derived.Test.YtmajalobkcnobaaDoorCAn
namespace Go.Proofs.YtmajalobkcnobaaDoor
open Go.RowKit Go.Sort
set_option linter.unusedVariables false
set_option linter.unusedSimpArgs false
set_option maxRecDepth 100000

/-- What the law's walk carries: boxes of communities; of the memory of w0 nothing has turned. -/
def Bs (w0 : World) (L : List (Nat × (Nat → Int))) (w : World) : Prop := (∀ x ∈ L, w.heap[x.1]? = some (.cells #[.int .u8 (x.2 0), .int .u8 (x.2 1), .int .u8 (x.2 2), .int .u8 (x.2 3), .int .u8 (x.2 4), .int .u8 (x.2 5), .int .u8 (x.2 6), .int .u8 (x.2 7)] 24 (0, 0))) ∧ Below w0.heap.size w0 w
theorem Bs.start (w0 : World) : Bs w0 [] w0 := ⟨fun _ h => (by cases h), Below.refl _ _⟩
theorem Bs.lt {w0 w : World} {L : List (Nat × (Nat → Int))} (h : Bs w0 L w) : ∀ x ∈ L, x.1 < w.heap.size := fun x hx => by
  have := h.1 x hx
  rcases Nat.lt_or_ge x.1 w.heap.size with q | q
  · exact q
  · rw [Array.getElem?_eq_none q] at this
    cases this
theorem Bs.below {w0 w w' : World} {L : List (Nat × (Nat → Int))} (h : Bs w0 L w) (k : Below w.heap.size w w') : Bs w0 L w' :=
  ⟨fun x hx => (k.block x.1 (h.lt x hx)).trans (h.1 x hx), h.2.trans (k.mono h.2.size)⟩
theorem Bs.box {w0 w : World} {L : List (Nat × (Nat → Int))} (h : Bs w0 L w) (e : Nat → Int) : Bs w0 ((w.heap.size, e) :: L) (w.alloc (.cells #[.int .u8 (e 0), .int .u8 (e 1), .int .u8 (e 2), .int .u8 (e 3), .int .u8 (e 4), .int .u8 (e 5), .int .u8 (e 6), .int .u8 (e 7)] 24)) := by
  have h' := h.below ((Below.refl _ _).alloc (Nat.le_refl _) (.cells #[.int .u8 (e 0), .int .u8 (e 1), .int .u8 (e 2), .int .u8 (e 3), .int .u8 (e 4), .int .u8 (e 5), .int .u8 (e 6), .int .u8 (e 7)] 24))
  refine ⟨fun x hx => ?_, h'.2⟩
  rcases List.mem_cons.1 hx with rfl | hx
  · exact heap_alloc_last w _
  · exact h'.1 x hx
theorem Bs.load {w0 w : World} {L : List (Nat × (Nat → Int))} (h : Bs w0 L w) (g : Nat) (e : Nat → Int) (hx : (g, e) ∈ L) : Sem.run Tryd.prog (loadCellsFrom ⟨g, 0, none⟩ 0 8 #[]) w = .ok (#[.int .u8 (e 0), .int .u8 (e 1), .int .u8 (e 2), .int .u8 (e 3), .int .u8 (e 4), .int .u8 (e 5), .int .u8 (e 6), .int .u8 (e 7)]) w := by
  have hg := h.1 _ hx
  have := run_loadCells_list (P := Tryd.prog) w ⟨g, 0, none⟩ (#[.int .u8 (e 0), .int .u8 (e 1), .int .u8 (e 2), .int .u8 (e 3), .int .u8 (e 4), .int .u8 (e 5), .int .u8 (e 6), .int .u8 (e 7)] : Array Value).toList (fun j v hv => by
    have hadd : (⟨g, 0, none⟩ : Addr).add j = ⟨g, j, none⟩ := by unfold Addr.add; split <;> simp_all
    rw [hadd, cell_of_row w g j _ _ _ hg]
    simpa using hv)
  simpa [loadCells] using this
theorem Bs.cellsAt {w0 w : World} {L : List (Nat × (Nat → Int))} (h : Bs w0 L w) (g : Nat) (e : Nat → Int) (hx : (g, e) ∈ L) : (∀ d os, (grow (redrawn w d) os).cell? ⟨g, 0, none⟩ = some (.int .u8 (e 0))) ∧ (∀ d os, (grow (redrawn w d) os).cell? ⟨g, 1, none⟩ = some (.int .u8 (e 1))) ∧ (∀ d os, (grow (redrawn w d) os).cell? ⟨g, 2, none⟩ = some (.int .u8 (e 2))) ∧ (∀ d os, (grow (redrawn w d) os).cell? ⟨g, 3, none⟩ = some (.int .u8 (e 3))) ∧ (∀ d os, (grow (redrawn w d) os).cell? ⟨g, 4, none⟩ = some (.int .u8 (e 4))) ∧ (∀ d os, (grow (redrawn w d) os).cell? ⟨g, 5, none⟩ = some (.int .u8 (e 5))) ∧ (∀ d os, (grow (redrawn w d) os).cell? ⟨g, 6, none⟩ = some (.int .u8 (e 6))) ∧ (∀ d os, (grow (redrawn w d) os).cell? ⟨g, 7, none⟩ = some (.int .u8 (e 7))) := by
  have k : ∀ d os o v, (#[.int .u8 (e 0), .int .u8 (e 1), .int .u8 (e 2), .int .u8 (e 3), .int .u8 (e 4), .int .u8 (e 5), .int .u8 (e 6), .int .u8 (e 7)] : Array Value)[o]? = some v → (grow (redrawn w d) os).cell? ⟨g, o, none⟩ = some v := fun d os o v hv => by
    have hg := (h.below (below_regrown w d os)).1 _ hx
    rw [cell_of_row _ g o _ _ _ hg]
    exact hv
  exact ⟨fun d os => k d os 0 _ rfl, fun d os => k d os 1 _ rfl, fun d os => k d os 2 _ rfl, fun d os => k d os 3 _ rfl, fun d os => k d os 4 _ rfl, fun d os => k d os 5 _ rfl, fun d os => k d os 6 _ rfl, fun d os => k d os 7 _ rfl⟩
theorem Bs.ki {w0 w : World} {L : List (Nat × (Nat → Int))} (h : Bs w0 L w) (hK : KI w0) : KI w := hK.below h.2 hK.lt

set_option maxHeartbeats 8000000 in
theorem calls_walk (s n : Int) (has : 0 ≤ s ∧ s < 65536) (hn : 0 ≤ n ∧ n < 4294967296) (a b : Int) (ha : -9223372036854775808 ≤ a ∧ a ≤ 9223372036854775807) (hb0 : -9223372036854775808 ≤ b ∧ b ≤ 9223372036854775807) (m : Int) (hm : 0 ≤ m) (is : Bool) (c : Nat → Int) (hc : O8 c) (w : World) (hK : KI w) :
    Calls Tryd.prog 4 #[.int .u16 s, .int .u32 n, .int .i64 a, .int .i64 b, .int .u64 m, .bool is, .agg #[.int .u8 (c 0), .int .u8 (c 1), .int .u8 (c 2), .int .u8 (c 3), .int .u8 (c 4), .int .u8 (c 5), .int .u8 (c 6), .int .u8 (c 7)]] w fun r w' => r = .returned (.bool true) ∧ Below w.heap.size w w' := by
  have S := (Bs.start w).box c
  have q0 := run_eqC (encapE a) (encapE a)
  have q1 := run_eqC (labelE is n) (labelE is n)
  have q2 := run_eqC (importE m) (importE m)
  have q3 := run_eqC (routerE m) (routerE m)
  have q4 := run_eqC (electionE a b) (electionE a b)
  have q5 := run_eqC (mk 0 2 (s * 4294967296 + n)) (mk 0 2 (s * 4294967296 + n))
  have q6 := run_eqC (mk 6 0 (fl is + n)) (mk 6 0 (fl is + n))
  rw [eqC_refl] at q0 q1 q2 q3 q4 q5 q6
  go_enter Tryd.func4, Tryd.ntmps4
  go_wp2_with fail
  go_at_call 9
  refine (lives_is _ (S.ki hK)).mono ?_
  rintro r w0 ⟨rfl, hb⟩
  replace S := S.below hb
  clear hb
  go_wp2_with fail
  go_at_call 11
  refine (encap_any a ha _ (S.ki hK)).mono ?_
  rintro r w1 ⟨rfl, hb⟩
  replace S := (S.below hb).box (encapE a)
  clear hb
  go_wp2_with fail
  go_at_call 20
  refine (rencap_any a ha _).mono ?_
  rintro r w2 ⟨rfl, hb⟩
  replace S := (S.below hb).box (encapE a)
  clear hb
  go_wp2_with fail
  go_at_call 10
  refine (label_any is n hn _ (S.ki hK)).mono ?_
  rintro r w3 ⟨rfl, hb⟩
  replace S := (S.below hb).box (labelE is n)
  clear hb
  go_wp2_with fail
  go_at_call 21
  refine (rlabel_any is n hn _).mono ?_
  rintro r w4 ⟨rfl, hb⟩
  replace S := (S.below hb).box (labelE is n)
  clear hb
  go_wp2_with fail
  go_at_call 12
  refine (import_any m hm _ (S.ki hK)).mono ?_
  rintro r w5 ⟨rfl, hb⟩
  replace S := (S.below hb).box (importE m)
  clear hb
  go_wp2_with fail
  go_at_call 22
  refine (rimport_any m hm _).mono ?_
  rintro r w6 ⟨rfl, hb⟩
  replace S := (S.below hb).box (importE m)
  clear hb
  go_wp2_with fail
  go_at_call 13
  refine (router_any m hm _ (S.ki hK)).mono ?_
  rintro r w7 ⟨rfl, hb⟩
  replace S := (S.below hb).box (routerE m)
  clear hb
  go_wp2_with fail
  go_at_call 23
  refine (rrouter_any m hm _).mono ?_
  rintro r w8 ⟨rfl, hb⟩
  replace S := (S.below hb).box (routerE m)
  clear hb
  go_wp2_with fail
  go_at_call 14
  refine (election_any a b ha.1 _ (S.ki hK)).mono ?_
  rintro r w9 ⟨rfl, hb⟩
  replace S := (S.below hb).box (electionE a b)
  clear hb
  go_wp2_with fail
  go_at_call 24
  refine (relection_any a b ha.1 _).mono ?_
  rintro r w10 ⟨rfl, hb⟩
  replace S := (S.below hb).box (electionE a b)
  clear hb
  have HL := Lib.hid (fun d os => S.below (below_regrown _ d os))
  clear hb0
  go_wp2_with fail
  have l1 := S.cellsAt w1.heap.size (encapE a) (by simp)
  have l2 := S.cellsAt w2.heap.size (encapE a) (by simp)
  have l3 := S.cellsAt w3.heap.size (labelE is n) (by simp)
  have l4 := S.cellsAt w4.heap.size (labelE is n) (by simp)
  have l5 := S.cellsAt w5.heap.size (importE m) (by simp)
  have l6 := S.cellsAt w6.heap.size (importE m) (by simp)
  have l7 := S.cellsAt w7.heap.size (routerE m) (by simp)
  have l8 := S.cellsAt w8.heap.size (routerE m) (by simp)
  have l9 := S.cellsAt w9.heap.size (electionE a b) (by simp)
  have l10 := S.cellsAt w10.heap.size (electionE a b) (by simp)
  have l0 := S.cellsAt w.heap.size c (by simp)
  have HKI := Lib.hid (fun d os => (HL.out d os).ki hK)
  have HB := Lib.hid S.2
  have HS := Lib.hid has
  have HNN := Lib.hid hn
  have HBz := Lib.hid S.2.size
  clear S has hn ha hm hc hK
  simp only [List.append_eq, List.cons_append, List.nil_append]
  refine wp_region_qb (by kernel_rfl) (by kernel_rfl) ?_
  repeat (go_big_quiet_step (first
    | exact Calls.regrown_of (target_is s n HS.out.1 HS.out.2 HNN.out.1 HNN.out.2 _ (HKI.out _ _))
    | exact Calls.regrown_of (rtarget_is s n HS.out.1 HS.out.2 HNN.out.1 HNN.out.2 _)
    | exact Calls.regrown_of (mobility_is is n HNN.out.1 HNN.out.2 _ (HKI.out _ _))
    | exact Calls.regrown_of (rmobility_is is n HNN.out.1 HNN.out.2 _)
    | exact Calls.regrown_of (kind_is c _ (HKI.out _ _))
    | exact Calls.regrown_of (rkind_is c _)))
  refine wpQuiet_nil ?_
  intro w' hb
  go_wp2
  go_ret
  exact ⟨rfl, HB.out.trans (hb.mono HBz.out)⟩
end Go.Proofs.YtmajalobkcnobaaDoor
