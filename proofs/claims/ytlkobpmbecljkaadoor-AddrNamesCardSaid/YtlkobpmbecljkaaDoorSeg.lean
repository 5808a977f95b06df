/- The identifier of a segment. No condition. -/
import Derived.Test.YtlkobpmbecljkaaDoorPar
namespace Go.Proofs.YtlkobpmbecljkaaDoor
open Go.RowKit Go.Shelf
attribute [local go_sem] Oper.semAt_some
set_option linter.unusedVariables false

/-- The bytes of a segment's identifier, when the bytes 'pre' of its number have been laid. -/
def cur (N : Int) (pre : List (Fin 4)) (j : Nat) : Int := if 6 ≤ j ∧ fin4 (j - 6) ∈ pre then byt N (j - 6) else if j = 0 then 3 else 0
def segB (N : Int) (j : Nat) : Int := if 6 ≤ j then byt N (j - 6) else if j = 0 then 3 else 0
theorem cur_nil (N : Int) (j : Nat) : cur N [] j = if j = 0 then 3 else 0 := by simp [cur]
theorem cur_snoc_at (N : Int) (pre : List (Fin 4)) (x : Fin 4) : cur N (pre ++ [x]) (6 + x.val) = byt N x.val := by
  have hx : fin4 x.val = x := by
    apply Fin.ext
    exact fin4_val x.isLt
  simp [cur, Nat.add_sub_cancel_left, hx]
theorem cur_snoc_ne (N : Int) (pre : List (Fin 4)) (x : Fin 4) (j : Nat) (hj : j < 10) (h : j ≠ 6 + x.val) : cur N (pre ++ [x]) j = cur N pre j := by
  unfold cur
  by_cases h6 : 6 ≤ j
  · have : fin4 (j - 6) ≠ x := by
      intro e
      have := congrArg Fin.val e
      rw [fin4_val (by omega)] at this
      omega
    simp [h6, this]
  · simp [h6]
theorem cur_all (N : Int) (j : Nat) (hj : j < 10) : cur N (upto fin4 4) j = segB N j := by
  unfold cur segB
  by_cases h6 : 6 ≤ j
  · have : fin4 (j - 6) ∈ upto fin4 4 := by
      simp only [upto, List.mem_map, List.mem_range]
      exact ⟨j - 6, by omega, rfl⟩
    simp [h6, this]
  · simp [h6]

theorem segment_no (s : Int) (h : s < 0 ∨ 64 ≤ s) (w : World) :
    Calls Tryd.prog 10 #[.int .i64 s] w fun e w' => e = .returned (.tuple #[.agg #[.int .u8 0, .int .u8 0, .int .u8 0, .int .u8 0, .int .u8 0, .int .u8 0, .int .u8 0, .int .u8 0, .int .u8 0, .int .u8 0], .int .i64 2]) ∧ Below w.heap.size w w' := by
  rcases h with h | h
  · go_enter Tryd.func10, Tryd.ntmps10
    go_wp2
    refine bodyPost_ret (v := .tuple #[.agg #[.int .u8 0, .int .u8 0, .int .u8 0, .int .u8 0, .int .u8 0, .int .u8 0, .int .u8 0, .int .u8 0, .int .u8 0, .int .u8 0], .int .i64 2]) (by simp [results, Tryd.results10, go_sem]) rfl ⟨rfl, ?_⟩
    exact (Below.refl _ _).alloc (Nat.le_refl _) _
  · have h' : ¬ s < 0 := by omega
    go_enter Tryd.func10, Tryd.ntmps10
    go_wp2
    refine bodyPost_ret (v := .tuple #[.agg #[.int .u8 0, .int .u8 0, .int .u8 0, .int .u8 0, .int .u8 0, .int .u8 0, .int .u8 0, .int .u8 0, .int .u8 0, .int .u8 0], .int .i64 2]) (by simp [results, Tryd.results10, go_sem]) rfl ⟨rfl, ?_⟩
    exact (Below.refl _ _).alloc (Nat.le_refl _) _

theorem cellsU8 (w : World) (c : Array Value) (T : TypeId) (e : Nat → Int) (h : ∀ j, j < 10 → c[j]? = some (.int .u8 (e j))) : ∀ j, j < 10 → (w.alloc (.cells c T)).cell? ⟨w.heap.size, j, none⟩ = some (.int .u8 (e j)) ∧ (w.alloc (.cells c T)).frozen? ⟨w.heap.size, j, none⟩ = false :=
  fun j hj => ⟨by rw [World.cell?_alloc_at _ _ _ _ rfl]; exact h j hj, World.frozen?_alloc_at _ _ _ _ rfl⟩
theorem keepU8 {w : World} {b : Nat} {e : Nat → Int} (o : Obj) (h : ∀ j, j < 10 → w.cell? ⟨b, j, none⟩ = some (.int .u8 (e j)) ∧ w.frozen? ⟨b, j, none⟩ = false) : ∀ j, j < 10 → (w.alloc o).cell? ⟨b, j, none⟩ = some (.int .u8 (e j)) ∧ (w.alloc o).frozen? ⟨b, j, none⟩ = false := fun j hj => by
  have hb : b < w.heap.size := block_lt_of_cell (h j hj).1
  rw [World.cell?_alloc_lt _ _ _ hb, World.frozen?_alloc_old _ _ _ (Nat.ne_of_lt hb)]
  exact h j hj

theorem set10_cells (W : World) (b : Nat) (c : Nat → Int) (h : ∀ j, j < 10 → (W.cell? ⟨b, j, none⟩).isSome = true) : ∀ j, j < 10 → ((((((((((W.setCell ⟨b, 0, none⟩ (.int .u8 (c 0))).setCell ⟨b, 1, none⟩ (.int .u8 (c 1))).setCell ⟨b, 2, none⟩ (.int .u8 (c 2))).setCell ⟨b, 3, none⟩ (.int .u8 (c 3))).setCell ⟨b, 4, none⟩ (.int .u8 (c 4))).setCell ⟨b, 5, none⟩ (.int .u8 (c 5))).setCell ⟨b, 6, none⟩ (.int .u8 (c 6))).setCell ⟨b, 7, none⟩ (.int .u8 (c 7))).setCell ⟨b, 8, none⟩ (.int .u8 (c 8))).setCell ⟨b, 9, none⟩ (.int .u8 (c 9))).cell? ⟨b, j, none⟩ = some (.int .u8 (c j)) := by
  intro j hj
  have := World.cell?_setCells_in b [.int .u8 (c 0), .int .u8 (c 1), .int .u8 (c 2), .int .u8 (c 3), .int .u8 (c 4), .int .u8 (c 5), .int .u8 (c 6), .int .u8 (c 7), .int .u8 (c 8), .int .u8 (c 9)] 0 W (fun i hi => by rw [Nat.zero_add]; exact h i (by simpa using hi)) j (by simpa using hj)
  rw [Nat.zero_add] at this
  refine Eq.trans this ?_
  rcases j with _ | _ | _ | _ | _ | _ | _ | _ | _ | _ | j
  all_goals first | rfl | omega

set_option maxRecDepth 100000 in
set_option maxHeartbeats 8000000 in
theorem segment_in (s : Int) (h0 : 0 ≤ s) (h1 : s < 64) (w : World) :
    CallsIn Fence.wide 5 Tryd.prog 10 #[.int .i64 s] w fun r W' => r = .returned (.tuple #[.agg #[.int .u8 (segB (s + 1) 0), .int .u8 (segB (s + 1) 1), .int .u8 (segB (s + 1) 2), .int .u8 (segB (s + 1) 3), .int .u8 (segB (s + 1) 4), .int .u8 (segB (s + 1) 5), .int .u8 (segB (s + 1) 6), .int .u8 (segB (s + 1) 7), .int .u8 (segB (s + 1) 8), .int .u8 (segB (s + 1) 9)], .int .i64 0]) ∧ Below w.heap.size w W' := by
  have h2 : ¬ s < 0 := by omega
  have h3 : ¬ 64 ≤ s := by omega
  have hN : 0 ≤ s + 1 := by omega
  have r0 := keepU8 (.cells #[.int .i64 4] 3) (keepU8 (.cells #[.int .u32 (s + 1)] 23) (keepU8 (.cells #[.int .u8 3, .int .u8 0, .int .u8 0, .int .u8 0, .int .u8 0, .int .u8 0, .int .u8 0, .int .u8 0, .int .u8 0, .int .u8 0] 39) (cellsU8 w #[.int .u8 0, .int .u8 0, .int .u8 0, .int .u8 0, .int .u8 0, .int .u8 0, .int .u8 0, .int .u8 0, .int .u8 0, .int .u8 0] 39 (fun _ => 0) (fun j hj => by rcases j with _ | _ | _ | _ | _ | _ | _ | _ | _ | _ | j <;> first | rfl | omega))))
  have e0 := keepU8 (.cells #[.int .i64 4] 3) (keepU8 (.cells #[.int .u32 (s + 1)] 23) (cellsU8 (w.alloc (.cells #[.int .u8 0, .int .u8 0, .int .u8 0, .int .u8 0, .int .u8 0, .int .u8 0, .int .u8 0, .int .u8 0, .int .u8 0, .int .u8 0] 39)) #[.int .u8 3, .int .u8 0, .int .u8 0, .int .u8 0, .int .u8 0, .int .u8 0, .int .u8 0, .int .u8 0, .int .u8 0, .int .u8 0] 39 (cur (s + 1) []) (fun j hj => by rcases j with _ | _ | _ | _ | _ | _ | _ | _ | _ | _ | j <;> first | rfl | omega)))
  have n0 := (Boxed.new ((w.alloc (.cells #[.int .u8 0, .int .u8 0, .int .u8 0, .int .u8 0, .int .u8 0, .int .u8 0, .int .u8 0, .int .u8 0, .int .u8 0, .int .u8 0] 39)).alloc (.cells #[.int .u8 3, .int .u8 0, .int .u8 0, .int .u8 0, .int .u8 0, .int .u8 0, .int .u8 0, .int .u8 0, .int .u8 0, .int .u8 0] 39)) 23 (.int .u32 (s + 1))).alloc (.cells #[.int .i64 4] 3)
  have m0 := Boxed.new (((w.alloc (.cells #[.int .u8 0, .int .u8 0, .int .u8 0, .int .u8 0, .int .u8 0, .int .u8 0, .int .u8 0, .int .u8 0, .int .u8 0, .int .u8 0] 39)).alloc (.cells #[.int .u8 3, .int .u8 0, .int .u8 0, .int .u8 0, .int .u8 0, .int .u8 0, .int .u8 0, .int .u8 0, .int .u8 0, .int .u8 0] 39)).alloc (.cells #[.int .u32 (s + 1)] 23)) 3 (.int .i64 4)
  simp only [World.size_alloc] at e0 n0 m0
  have hB0 : Below w.heap.size w ((((w.alloc (.cells #[.int .u8 0, .int .u8 0, .int .u8 0, .int .u8 0, .int .u8 0, .int .u8 0, .int .u8 0, .int .u8 0, .int .u8 0, .int .u8 0] 39)).alloc (.cells #[.int .u8 3, .int .u8 0, .int .u8 0, .int .u8 0, .int .u8 0, .int .u8 0, .int .u8 0, .int .u8 0, .int .u8 0, .int .u8 0] 39)).alloc (.cells #[.int .u32 (s + 1)] 23)).alloc (.cells #[.int .i64 4] 3)) := ((((Below.refl _ w).alloc (Nat.le_refl _) _).alloc (by simp) _).alloc (by simp; omega) _).alloc (by simp; omega) _
  have HR := Lib.hid r0; have HE := Lib.hid e0; have HN := Lib.hid n0.cell; have HM := Lib.hid m0.cell; have HB := Lib.hid hB0
  clear r0 e0 n0 m0 hB0
  refine callsIn_of_wp_marks Tryd.func10 rfl trivial ?_ rfl
  simp only [Tryd.ntmps10, List.size_toArray, List.length_cons, List.length_nil, Nat.reduceAdd, Nat.reduceSub, Array.replicate_succ, Array.replicate_zero, List.push_toArray, List.append_toArray, List.nil_append, List.cons_append]
  gi_wp2_with (refine ⟨trivial, ?_⟩; gi_at_call 28; refine (callsIn_wide.2 (parts_any (s + 1) 4 _)).mono ?_; rintro x w' ⟨rfl, rfl⟩)
  refine wpIn_rangeFunc_ownF rfl (by decide) (gf := 44) (lb := #[.pointer (some ⟨w.heap.size + 1 + 1 + 1, 0, none⟩), .pointer (some ⟨w.heap.size + 1 + 1, 0, none⟩)]) rfl trivial (enters_of Tryd.func44 (by kernel_rfl) rfl)
    (parts_stops Fence.wide (5 - 1) trivial rfl (by decide) (w.heap.size + 1 + 1) (s + 1) hN _ (by simp) HN.out HM.out) mid_t (mid_b (by simp)) (Below.refl _ _) (fun _ => rfl)
    (fun pre W => ((∀ j, j < 10 → W.cell? ⟨w.heap.size + 1, j, none⟩ = some (.int .u8 (cur (s + 1) pre j)) ∧ W.frozen? ⟨w.heap.size + 1, j, none⟩ = false) ∧ (∀ j, j < 10 → W.cell? ⟨w.heap.size, j, none⟩ = some (.int .u8 0) ∧ W.frozen? ⟨w.heap.size, j, none⟩ = false)) ∧ Below w.heap.size w W)
    (fun _ _ _ => False)
    (OwnFrom.and (Own.from (fun s A B row hs hg hr => ⟨fun j hj => ⟨cell_kept (hs.1 j hj).1 hg hr, (frozen_kept (hs.1 j hj).1 hg hr).trans (hs.1 j hj).2⟩, fun j hj => ⟨cell_kept (hs.2 j hj).1 hg hr, (frozen_kept (hs.2 j hj).1 hg hr).trans (hs.2 j hj).2⟩⟩) _) (ownFrom_below (Nat.le_refl _) (by simp; omega)))
    (fun _ _ _ _ _ hs _ _ => hs)
    ⟨⟨HE.out, HR.out⟩, HB.out⟩
    (fun x => { tmps := #[.int .i64 s, undef, .pointer (some ⟨w.heap.size, 0, none⟩), .int .i64 0, .pointer (some ⟨w.heap.size + 1, 0, none⟩), .int .i64 (x.val : Int), .int .u8 (byt (s + 1) x.val), .int .i64 s, .bool false, .bool false, .int .i64 s, .bool false, .bool false, undef, .agg #[.int .u8 3, .int .u8 0, .int .u8 0, .int .u8 0, .int .u8 0, .int .u8 0, .int .u8 0, .int .u8 0, .int .u8 0, .int .u8 0], .int .i64 s, .int .u32 s, .int .u32 (s + 1), .func (.func 44) #[] #[.pointer (some ⟨w.heap.size + 1 + 1 + 1, 0, none⟩), .pointer (some ⟨w.heap.size + 1 + 1, 0, none⟩)], .int .i64 (x.val : Int), .int .u8 (byt (s + 1) x.val), undef, undef, undef, undef, undef], defers := [] }) ?assign ?body ?done ?stop
  case assign =>
    intro l x W K hK
    gi_wp2
    exact hK
  case body =>
    rintro l pre x W ⟨⟨he, hr⟩, hB⟩ _
    have HEs := Lib.hid he; have HRs := Lib.hid hr
    have hx := x.isLt
    have hxc := (he (6 + x.val) (by omega)).1
    have hxf := (he (6 + x.val) (by omega)).2
    clear he hr
    gi_wp2
    have hxc2 : (W.cell? ⟨w.heap.size + 1, 6 + x.val, none⟩).isSome = true := by rw [hxc]; rfl
    refine ⟨KeepsOthers.setCell _ _ _, mid_set W _ _ (by simp), ⟨fun j hj => ⟨?_, by rw [World.frozen?_setCell]; exact (HEs.out j hj).2⟩, fun j hj => ⟨?_, by rw [World.frozen?_setCell]; exact (HRs.out j hj).2⟩⟩, hB.setCell (p := ⟨w.heap.size + 1, 6 + x.val, none⟩) (by simp) _⟩
    · by_cases hjx : j = 6 + x.val
      · subst hjx
        rw [cur_snoc_at]
        exact World.cell?_setCell_same' _ _ _ hxc2
      · rw [World.cell?_setCell_other _ _ _ _ (fun e => hjx (congrArg Addr.off e).symm), cur_snoc_ne _ _ _ _ hj hjx]
        exact (HEs.out j hj).1
    · rw [World.cell?_setCell_other _ _ _ _ (fun e => by have := congrArg Addr.block e; simp at this)]
      exact (HRs.out j hj).1
  case done =>
    rintro D ys W hD rfl ⟨⟨he, hr⟩, hB⟩ hK
    gi_wp2
    obtain ⟨WN, hWN⟩ : ∃ WN, ((((((((((W.setCell ⟨w.heap.size, 0, none⟩ (.int .u8 (cur (s + 1) (upto fin4 4) 0))).setCell ⟨w.heap.size, 1, none⟩ (.int .u8 (cur (s + 1) (upto fin4 4) 1))).setCell ⟨w.heap.size, 2, none⟩ (.int .u8 (cur (s + 1) (upto fin4 4) 2))).setCell ⟨w.heap.size, 3, none⟩ (.int .u8 (cur (s + 1) (upto fin4 4) 3))).setCell ⟨w.heap.size, 4, none⟩ (.int .u8 (cur (s + 1) (upto fin4 4) 4))).setCell ⟨w.heap.size, 5, none⟩ (.int .u8 (cur (s + 1) (upto fin4 4) 5))).setCell ⟨w.heap.size, 6, none⟩ (.int .u8 (cur (s + 1) (upto fin4 4) 6))).setCell ⟨w.heap.size, 7, none⟩ (.int .u8 (cur (s + 1) (upto fin4 4) 7))).setCell ⟨w.heap.size, 8, none⟩ (.int .u8 (cur (s + 1) (upto fin4 4) 8))).setCell ⟨w.heap.size, 9, none⟩ (.int .u8 (cur (s + 1) (upto fin4 4) 9))) = WN := ⟨_, rfl⟩
    have hc : ∀ j, j < 10 → WN.cell? ⟨w.heap.size, j, none⟩ = some (.int .u8 (segB (s + 1) j)) := by
      intro j hj
      rw [← hWN, ← cur_all (s + 1) j hj]
      exact set10_cells W _ (cur (s + 1) (upto fin4 4)) (fun j hj => by rw [(hr j hj).1]; rfl) j hj
    have hBN : Below w.heap.size w WN := by
      rw [← hWN]
      exact ((((((((((hB.setCell (p := ⟨w.heap.size, _, none⟩) (Nat.le_refl _) _).setCell (p := ⟨w.heap.size, _, none⟩) (Nat.le_refl _) _).setCell (p := ⟨w.heap.size, _, none⟩) (Nat.le_refl _) _).setCell (p := ⟨w.heap.size, _, none⟩) (Nat.le_refl _) _).setCell (p := ⟨w.heap.size, _, none⟩) (Nat.le_refl _) _).setCell (p := ⟨w.heap.size, _, none⟩) (Nat.le_refl _) _).setCell (p := ⟨w.heap.size, _, none⟩) (Nat.le_refl _) _).setCell (p := ⟨w.heap.size, _, none⟩) (Nat.le_refl _) _).setCell (p := ⟨w.heap.size, _, none⟩) (Nat.le_refl _) _).setCell (p := ⟨w.heap.size, _, none⟩) (Nat.le_refl _) _)
    have hKN : WN.heap[D]? = some (.deferred (some [])) := by
      have hko : KeepsOthers W WN := by
        rw [← hWN]
        exact ((((((((((KeepsOthers.setCell _ _ _).trans (KeepsOthers.setCell _ _ _)).trans (KeepsOthers.setCell _ _ _)).trans (KeepsOthers.setCell _ _ _)).trans (KeepsOthers.setCell _ _ _)).trans (KeepsOthers.setCell _ _ _)).trans (KeepsOthers.setCell _ _ _)).trans (KeepsOthers.setCell _ _ _)).trans (KeepsOthers.setCell _ _ _)).trans (KeepsOthers.setCell _ _ _))
      exact hko.same D _ hK rfl
    rw [hWN]
    refine ⟨by simp, .inl ⟨_, _, rfl, run_takeDeferred hKN, ?_⟩⟩
    have k0 := cell_kept (hc 0 (by decide)) (grownBy_putObj' _ D (.deferred none)) (fun r e => by cases e; exact ⟨_, hKN, rfl⟩)
    have k1 := cell_kept (hc 1 (by decide)) (grownBy_putObj' _ D (.deferred none)) (fun r e => by cases e; exact ⟨_, hKN, rfl⟩)
    have k2 := cell_kept (hc 2 (by decide)) (grownBy_putObj' _ D (.deferred none)) (fun r e => by cases e; exact ⟨_, hKN, rfl⟩)
    have k3 := cell_kept (hc 3 (by decide)) (grownBy_putObj' _ D (.deferred none)) (fun r e => by cases e; exact ⟨_, hKN, rfl⟩)
    have k4 := cell_kept (hc 4 (by decide)) (grownBy_putObj' _ D (.deferred none)) (fun r e => by cases e; exact ⟨_, hKN, rfl⟩)
    have k5 := cell_kept (hc 5 (by decide)) (grownBy_putObj' _ D (.deferred none)) (fun r e => by cases e; exact ⟨_, hKN, rfl⟩)
    have k6 := cell_kept (hc 6 (by decide)) (grownBy_putObj' _ D (.deferred none)) (fun r e => by cases e; exact ⟨_, hKN, rfl⟩)
    have k7 := cell_kept (hc 7 (by decide)) (grownBy_putObj' _ D (.deferred none)) (fun r e => by cases e; exact ⟨_, hKN, rfl⟩)
    have k8 := cell_kept (hc 8 (by decide)) (grownBy_putObj' _ D (.deferred none)) (fun r e => by cases e; exact ⟨_, hKN, rfl⟩)
    have k9 := cell_kept (hc 9 (by decide)) (grownBy_putObj' _ D (.deferred none)) (fun r e => by cases e; exact ⟨_, hKN, rfl⟩)
    refine ⟨.tuple #[.agg #[.int .u8 (segB (s + 1) 0), .int .u8 (segB (s + 1) 1), .int .u8 (segB (s + 1) 2), .int .u8 (segB (s + 1) 3), .int .u8 (segB (s + 1) 4), .int .u8 (segB (s + 1) 5), .int .u8 (segB (s + 1) 6), .int .u8 (segB (s + 1) 7), .int .u8 (segB (s + 1) 8), .int .u8 (segB (s + 1) 9)], .int .i64 0], ?_, rfl, hBN.trans (belowK_b (w := w) (Nat.le_refl _) _ D _ _ (by simp at hD; omega) hKN rfl rfl)⟩
    generalize WN.putObj D (.deferred none) = WF at k0 k1 k2 k3 k4 k5 k6 k7 k8 k9 ⊢
    simp [results, Tryd.results10, go_sem, k0, k1, k2, k3, k4, k5, k6, k7, k8, k9]
  case stop =>
    rintro D c pre W _ _ h _
    exact h.elim

theorem segment_yes (s : Int) (h0 : 0 ≤ s) (h1 : s < 64) (w : World) :
    Calls Tryd.prog 10 #[.int .i64 s] w fun r W' => r = .returned (.tuple #[.agg #[.int .u8 (segB (s + 1) 0), .int .u8 (segB (s + 1) 1), .int .u8 (segB (s + 1) 2), .int .u8 (segB (s + 1) 3), .int .u8 (segB (s + 1) 4), .int .u8 (segB (s + 1) 5), .int .u8 (segB (s + 1) 6), .int .u8 (segB (s + 1) 7), .int .u8 (segB (s + 1) 8), .int .u8 (segB (s + 1) 9)], .int .i64 0]) ∧ Below w.heap.size w W' :=
  callsIn_wide.1 (segment_in s h0 h1 w)
end Go.Proofs.YtlkobpmbecljkaaDoor
