/- The number that some bytes of an identifier form. No condition. -/
import Derived.Test.YtogkkcbmopdbnaaCmp
namespace Go.Proofs.Ytogkkcbmopdbnaa
open Go.RowKit Go.Shelf
attribute [local go_sem] Oper.semAt_some
set_option linter.unusedVariables false

/-- The bytes from place a on, below b, as a number. -/
def wit32L (e : Nat → Int) (a b : Int) : List (Fin 10) → Int := List.foldl (fun acc x => if a ≤ (x.val : Int) ∧ (x.val : Int) < b then bits BinOp.or IntKind.u32 (acc * 256 % 4294967296) (e x.val) else acc) 0
theorem wit32L_snoc (e : Nat → Int) (a b : Int) (pre : List (Fin 10)) (x : Fin 10) : wit32L e a b (pre ++ [x]) = if a ≤ (x.val : Int) ∧ (x.val : Int) < b then bits BinOp.or IntKind.u32 (wit32L e a b pre * 256 % 4294967296) (e x.val) else wit32L e a b pre := by
  simp [wit32L]
set_option maxRecDepth 100000 in
set_option maxHeartbeats 4000000 in
theorem wit32_in (e : Nat → Int) (a b : Int) (hbd : ∀ j, j < 10 → 0 ≤ e j ∧ e j < 256) (w : World) :
    CallsIn Fence.wide 5 Try.prog 33 #[.agg #[.int .u8 (e 0), .int .u8 (e 1), .int .u8 (e 2), .int .u8 (e 3), .int .u8 (e 4), .int .u8 (e 5), .int .u8 (e 6), .int .u8 (e 7), .int .u8 (e 8), .int .u8 (e 9)], .int .i64 a, .int .i64 b] w fun r W' => r = .returned (.int .u32 (wit32L e a b (upto fin 10))) ∧ Below w.heap.size w W' := by
  have he0 := cell_new10 ((((w.alloc (.cells #[.int .u8 (e 0), .int .u8 (e 1), .int .u8 (e 2), .int .u8 (e 3), .int .u8 (e 4), .int .u8 (e 5), .int .u8 (e 6), .int .u8 (e 7), .int .u8 (e 8), .int .u8 (e 9)] 34)).alloc (.cells #[.int .i64 a] 3)).alloc (.cells #[.int .i64 b] 3)).alloc (.cells #[.int .u32 0] 22)) e 34
  have ba := (((Boxed.new (w.alloc (.cells #[.int .u8 (e 0), .int .u8 (e 1), .int .u8 (e 2), .int .u8 (e 3), .int .u8 (e 4), .int .u8 (e 5), .int .u8 (e 6), .int .u8 (e 7), .int .u8 (e 8), .int .u8 (e 9)] 34)) 3 (.int .i64 a)).alloc (.cells #[.int .i64 b] 3)).alloc (.cells #[.int .u32 0] 22)).alloc (.cells #[.int .u8 (e 0), .int .u8 (e 1), .int .u8 (e 2), .int .u8 (e 3), .int .u8 (e 4), .int .u8 (e 5), .int .u8 (e 6), .int .u8 (e 7), .int .u8 (e 8), .int .u8 (e 9)] 34)
  have bb := ((Boxed.new ((w.alloc (.cells #[.int .u8 (e 0), .int .u8 (e 1), .int .u8 (e 2), .int .u8 (e 3), .int .u8 (e 4), .int .u8 (e 5), .int .u8 (e 6), .int .u8 (e 7), .int .u8 (e 8), .int .u8 (e 9)] 34)).alloc (.cells #[.int .i64 a] 3)) 3 (.int .i64 b)).alloc (.cells #[.int .u32 0] 22)).alloc (.cells #[.int .u8 (e 0), .int .u8 (e 1), .int .u8 (e 2), .int .u8 (e 3), .int .u8 (e 4), .int .u8 (e 5), .int .u8 (e 6), .int .u8 (e 7), .int .u8 (e 8), .int .u8 (e 9)] 34)
  have bn := (Boxed.new (((w.alloc (.cells #[.int .u8 (e 0), .int .u8 (e 1), .int .u8 (e 2), .int .u8 (e 3), .int .u8 (e 4), .int .u8 (e 5), .int .u8 (e 6), .int .u8 (e 7), .int .u8 (e 8), .int .u8 (e 9)] 34)).alloc (.cells #[.int .i64 a] 3)).alloc (.cells #[.int .i64 b] 3)) 22 (.int .u32 0)).alloc (.cells #[.int .u8 (e 0), .int .u8 (e 1), .int .u8 (e 2), .int .u8 (e 3), .int .u8 (e 4), .int .u8 (e 5), .int .u8 (e 6), .int .u8 (e 7), .int .u8 (e 8), .int .u8 (e 9)] 34)
  simp only [World.size_alloc] at he0 ba bb bn
  have hB0 : Below w.heap.size w (((((w.alloc (.cells #[.int .u8 (e 0), .int .u8 (e 1), .int .u8 (e 2), .int .u8 (e 3), .int .u8 (e 4), .int .u8 (e 5), .int .u8 (e 6), .int .u8 (e 7), .int .u8 (e 8), .int .u8 (e 9)] 34)).alloc (.cells #[.int .i64 a] 3)).alloc (.cells #[.int .i64 b] 3)).alloc (.cells #[.int .u32 0] 22)).alloc (.cells #[.int .u8 (e 0), .int .u8 (e 1), .int .u8 (e 2), .int .u8 (e 3), .int .u8 (e 4), .int .u8 (e 5), .int .u8 (e 6), .int .u8 (e 7), .int .u8 (e 8), .int .u8 (e 9)] 34)) := (((((Below.refl _ w).alloc (Nat.le_refl _) _).alloc (by simp) _).alloc (by simp; omega) _).alloc (by simp; omega) _).alloc (by simp; omega) _
  have HE := Lib.hid he0; have HA := Lib.hid ba.cell; have HC := Lib.hid bb.cell; have HN := Lib.hid bn; have HB := Lib.hid hB0; have HD := Lib.hid hbd
  clear he0 ba bb bn hB0 hbd
  refine callsIn_of_wp_marks Try.func33 rfl trivial ?_ rfl
  simp only [Try.ntmps33, List.size_toArray, List.length_cons, List.length_nil, Nat.reduceAdd, Nat.reduceSub, Array.replicate_succ, Array.replicate_zero, List.push_toArray, List.append_toArray, List.nil_append, List.cons_append]
  gi_wp2_with (refine ⟨trivial, ?_⟩; gi_at_call 25; refine (callsIn_wide.2 (octets_any e _)).mono ?_; rintro x w' ⟨rfl, rfl⟩)
  refine wpIn_rangeFunc_ownF rfl (by decide) (gf := 36) (lb := #[.pointer (some ⟨w.heap.size + 1 + 1 + 1 + 1, 0, none⟩)]) rfl trivial (enters_of Try.func36 (by kernel_rfl) rfl)
    (octets_stops Fence.wide (5 - 1) trivial rfl (by decide) (w.heap.size + 1 + 1 + 1 + 1) w.heap.size e _ (by simp) HE.out) belowK_t (belowK_b (by simp; omega)) (Below.refl _ _) (fun _ => rfl)
    (fun pre W => (W.cell? ⟨w.heap.size + 1, 0, none⟩ = some (.int .i64 a) ∧ W.cell? ⟨w.heap.size + 1 + 1, 0, none⟩ = some (.int .i64 b) ∧ W.cell? ⟨w.heap.size + 1 + 1 + 1, 0, none⟩ = some (.int .u32 (wit32L e a b pre)) ∧ W.frozen? ⟨w.heap.size + 1 + 1 + 1, 0, none⟩ = false) ∧ Below w.heap.size w W)
    (fun _ _ _ => False)
    (OwnFrom.and (Own.from (fun s A B row hs hg hr => ⟨cell_kept hs.1 hg hr, cell_kept hs.2.1 hg hr, cell_kept hs.2.2.1 hg hr, (frozen_kept hs.2.2.1 hg hr).trans hs.2.2.2⟩) _) (ownFrom_below (Nat.le_refl _) (by simp; omega)))
    (fun _ _ _ _ _ hs _ _ => hs)
    ⟨⟨HA.out, HC.out, HN.out.cell, HN.out.frozen⟩, HB.out⟩
    (fun x => { tmps := #[.agg #[.int .u8 (e 0), .int .u8 (e 1), .int .u8 (e 2), .int .u8 (e 3), .int .u8 (e 4), .int .u8 (e 5), .int .u8 (e 6), .int .u8 (e 7), .int .u8 (e 8), .int .u8 (e 9)], .int .i64 a, .int .i64 b, .pointer (some ⟨w.heap.size, 0, none⟩), .pointer (some ⟨w.heap.size + 1, 0, none⟩), .pointer (some ⟨w.heap.size + 1 + 1, 0, none⟩), .int .u32 0, .pointer (some ⟨w.heap.size + 1 + 1 + 1, 0, none⟩), .int .i64 (x.val : Int), .int .u8 (e x.val), .agg #[.int .u8 (e 0), .int .u8 (e 1), .int .u8 (e 2), .int .u8 (e 3), .int .u8 (e 4), .int .u8 (e 5), .int .u8 (e 6), .int .u8 (e 7), .int .u8 (e 8), .int .u8 (e 9)], .func (.func 36) #[] #[.pointer (some ⟨w.heap.size + 1 + 1 + 1 + 1, 0, none⟩)], .int .i64 (x.val : Int), .int .u8 (e x.val), undef, undef, undef, undef, undef, undef, undef, undef, undef, undef, undef, undef, undef, undef], defers := [] }) ?assign ?body ?done ?stop
  case assign =>
    intro l x W K hK
    gi_wp2
    exact hK
  case body =>
    rintro l pre x W ⟨⟨ha, hc, hn, hf⟩, hB⟩ _
    obtain ⟨hx0, hx1⟩ := HD.out x.val x.isLt
    obtain ⟨N, hNd⟩ : ∃ N, wit32L e a b pre = N := ⟨_, rfl⟩
    rw [hNd] at hn
    have HNd := Lib.hid hNd
    clear hNd
    by_cases h1 : a ≤ (x.val : Int)
    · by_cases h2 : (x.val : Int) < b
      · gi_wp2
        refine ⟨KeepsOthers.setCell _ _ _, (Below.refl w.heap.size W).setCell (p := ⟨w.heap.size + 1 + 1 + 1, 0, none⟩) (by simp; omega) _, ⟨?_, ?_, ?_, ?_⟩, hB.setCell (p := ⟨w.heap.size + 1 + 1 + 1, 0, none⟩) (by simp; omega) _⟩
        · rw [World.cell?_setCell_other _ _ _ _ (fun q => by have := congrArg Addr.block q; simp at this <;> omega)]; exact ha
        · rw [World.cell?_setCell_other _ _ _ _ (fun q => by have := congrArg Addr.block q; simp at this <;> omega)]; exact hc
        · rw [wit32L_snoc, if_pos ⟨h1, h2⟩, HNd.out]
          exact World.cell?_setCell_same' _ _ _ (by rw [hn]; rfl)
        · rw [World.frozen?_setCell]; exact hf
      · gi_wp2
        refine ⟨KeepsOthers.refl _, Below.refl _ _, ⟨ha, hc, ?_, hf⟩, hB⟩
        rw [wit32L_snoc, if_neg (by omega), HNd.out]
        exact hn
    · have h1' : decide (a ≤ (x.val : Int)) = false := by simpa using h1
      gi_wp2
      refine ⟨KeepsOthers.refl _, Below.refl _ _, ⟨ha, hc, ?_, hf⟩, hB⟩
      rw [wit32L_snoc, if_neg (by omega), HNd.out]
      exact hn
  case done =>
    rintro D ys W hD rfl ⟨⟨_, _, hn, hf⟩, hB⟩ hK
    gi_wp2
    refine ⟨by simp, .inl ⟨_, _, rfl, run_takeDeferred hK, ?_⟩⟩
    exact ⟨_, results_tmp rfl _ _ _, rfl, hB.trans (belowK_b (w := w) (Nat.le_refl _) W D _ _ (by simp at hD; omega) hK rfl rfl)⟩
  case stop =>
    rintro D c pre W _ _ h _
    exact h.elim
theorem wit32_any (e : Nat → Int) (a b : Int) (hbd : ∀ j, j < 10 → 0 ≤ e j ∧ e j < 256) (w : World) :
    Calls Try.prog 33 #[.agg #[.int .u8 (e 0), .int .u8 (e 1), .int .u8 (e 2), .int .u8 (e 3), .int .u8 (e 4), .int .u8 (e 5), .int .u8 (e 6), .int .u8 (e 7), .int .u8 (e 8), .int .u8 (e 9)], .int .i64 a, .int .i64 b] w fun r W' => r = .returned (.int .u32 (wit32L e a b (upto fin 10))) ∧ Below w.heap.size w W' :=
  callsIn_wide.1 (wit32_in e a b hbd w)
end Go.Proofs.Ytogkkcbmopdbnaa
