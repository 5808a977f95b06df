/- Comparing numbers, and comparing identifiers byte by byte. No condition. -/
import Derived.Test.YtejcclcckgdbgaaOct
namespace Go.Proofs.Ytejcclcckgdbgaa
open Go.RowKit Go.Shelf
attribute [local go_sem] Oper.semAt_some
/-- The sign of a comparison. -/
def sg (x y : Int) : Int := if x < y then -1 else if y < x then 1 else 0
theorem cmpByte_any (x y : Int) (w : World) :
    Calls Try.prog 70 #[.int .u8 x, .int .u8 y] w fun e w' => e = .returned (.int .i64 (sg x y)) ∧ w = w' := by
  have ex : (x != x) = false := by simp
  have ey : (y != y) = false := by simp
  rcases Int.lt_trichotomy x y with h | h | h
  · have hs : sg x y = -1 := by simp [sg, h]
    rw [hs]
    go_enter Try.func70, Try.ntmps70
    go_wp2
    go_ret
    exact ⟨rfl, rfl⟩
  · subst h
    have hs : sg x x = 0 := by simp [sg]
    rw [hs]
    go_enter Try.func70, Try.ntmps70
    go_wp2
    go_ret
    exact ⟨rfl, rfl⟩
  · have hs : sg x y = 1 := by unfold sg; rw [if_neg (by omega), if_pos h]
    have h' : ¬ x < y := by omega
    rw [hs]
    go_enter Try.func70, Try.ntmps70
    go_wp2
    go_ret
    exact ⟨rfl, rfl⟩
theorem cmpInt_any (x y : Int) (w : World) :
    Calls Try.prog 41 #[.int .i64 x, .int .i64 y] w fun e w' => e = .returned (.int .i64 (sg x y)) ∧ w = w' := by
  have ex : (x != x) = false := by simp
  have ey : (y != y) = false := by simp
  rcases Int.lt_trichotomy x y with h | h | h
  · have hs : sg x y = -1 := by simp [sg, h]
    rw [hs]
    go_enter Try.func41, Try.ntmps41
    go_wp2
    go_ret
    exact ⟨rfl, rfl⟩
  · subst h
    have hs : sg x x = 0 := by simp [sg]
    rw [hs]
    go_enter Try.func41, Try.ntmps41
    go_wp2
    go_ret
    exact ⟨rfl, rfl⟩
  · have hs : sg x y = 1 := by unfold sg; rw [if_neg (by omega), if_pos h]
    have h' : ¬ x < y := by omega
    rw [hs]
    go_enter Try.func41, Try.ntmps41
    go_wp2
    go_ret
    exact ⟨rfl, rfl⟩
theorem cmpIP_any (x y : Int) (w : World) :
    Calls Try.prog 47 #[.int .u32 x, .int .u32 y] w fun e w' => e = .returned (.int .i64 (sg x y)) ∧ w = w' := by
  have ex : (x != x) = false := by simp
  have ey : (y != y) = false := by simp
  rcases Int.lt_trichotomy x y with h | h | h
  · have hs : sg x y = -1 := by simp [sg, h]
    rw [hs]
    go_enter Try.func47, Try.ntmps47
    go_wp2
    go_ret
    exact ⟨rfl, rfl⟩
  · subst h
    have hs : sg x x = 0 := by simp [sg]
    rw [hs]
    go_enter Try.func47, Try.ntmps47
    go_wp2
    go_ret
    exact ⟨rfl, rfl⟩
  · have hs : sg x y = 1 := by unfold sg; rw [if_neg (by omega), if_pos h]
    have h' : ¬ x < y := by omega
    rw [hs]
    go_enter Try.func47, Try.ntmps47
    go_wp2
    go_ret
    exact ⟨rfl, rfl⟩

/-- The first byte in which two identifiers differ decides: from byte i on, at most n bytes. -/
def cmpFrom (e f : Nat → Int) : Nat → Nat → Int
  | _, 0 => 0
  | i, n + 1 => if e i = f i then cmpFrom e f (i + 1) n else sg (e i) (f i)
def cmpE (e f : Nat → Int) : Int := cmpFrom e f 0 10
theorem cmpFrom_at (e f : Nat → Int) (k : Nat) : ∀ n i, i ≤ k → k < i + n → (∀ j, i ≤ j → j < k → e j = f j) → e k ≠ f k → cmpFrom e f i n = sg (e k) (f k)
  | 0, i, h1, h2, _, _ => by omega
  | n + 1, i, h1, h2, hj, hk => by
    unfold cmpFrom
    by_cases hik : i = k
    · subst hik
      rw [if_neg hk]
    · rw [if_pos (hj i (Nat.le_refl _) (by omega))]
      exact cmpFrom_at e f k n (i + 1) (by omega) (by omega) (fun j a b => hj j (by omega) b) hk
theorem cmpFrom_eq (e f : Nat → Int) : ∀ n i, (∀ j, i ≤ j → j < i + n → e j = f j) → cmpFrom e f i n = 0
  | 0, _, _ => rfl
  | n + 1, i, hj => by
    unfold cmpFrom
    rw [if_pos (hj i (Nat.le_refl _) (by omega))]
    exact cmpFrom_eq e f n (i + 1) (fun j a b => hj j (by omega) (by omega))

theorem cell_new10 (w : World) (e : Nat → Int) (T : TypeId) : ∀ j, j < 10 → (w.alloc (.cells #[.int .u8 (e 0), .int .u8 (e 1), .int .u8 (e 2), .int .u8 (e 3), .int .u8 (e 4), .int .u8 (e 5), .int .u8 (e 6), .int .u8 (e 7), .int .u8 (e 8), .int .u8 (e 9)] T)).cell? ⟨w.heap.size, j, none⟩ = some (.int .u8 (e j)) := by
  intro j hj
  rw [World.cell?_alloc_at _ _ _ _ rfl]
  rcases j with _ | _ | _ | _ | _ | _ | _ | _ | _ | _ | j
  all_goals first | rfl | omega

theorem St.box10 {w0 w : World} {cs : List (Nat × Nat × Value)} (h : St w0 cs w) (e : Nat → Int) (T : TypeId) : St w0 ((w.heap.size, 0, .int .u8 (e 0)) :: (w.heap.size, 1, .int .u8 (e 1)) :: (w.heap.size, 2, .int .u8 (e 2)) :: (w.heap.size, 3, .int .u8 (e 3)) :: (w.heap.size, 4, .int .u8 (e 4)) :: (w.heap.size, 5, .int .u8 (e 5)) :: (w.heap.size, 6, .int .u8 (e 6)) :: (w.heap.size, 7, .int .u8 (e 7)) :: (w.heap.size, 8, .int .u8 (e 8)) :: (w.heap.size, 9, .int .u8 (e 9)) :: cs) (w.alloc (.cells #[.int .u8 (e 0), .int .u8 (e 1), .int .u8 (e 2), .int .u8 (e 3), .int .u8 (e 4), .int .u8 (e 5), .int .u8 (e 6), .int .u8 (e 7), .int .u8 (e 8), .int .u8 (e 9)] T)) :=
  (((((((((((h.alloc _).cons _ _ _ (cell_new10 w e T 9 (by decide))).cons _ _ _ (cell_new10 w e T 8 (by decide))).cons _ _ _ (cell_new10 w e T 7 (by decide))).cons _ _ _ (cell_new10 w e T 6 (by decide))).cons _ _ _ (cell_new10 w e T 5 (by decide))).cons _ _ _ (cell_new10 w e T 4 (by decide))).cons _ _ _ (cell_new10 w e T 3 (by decide))).cons _ _ _ (cell_new10 w e T 2 (by decide))).cons _ _ _ (cell_new10 w e T 1 (by decide))).cons _ _ _ (cell_new10 w e T 0 (by decide)))

theorem upto_mem {k j : Nat} (hj : j < k) : fin j ∈ upto fin k := by
  simp only [upto, List.mem_map, List.mem_range]
  exact ⟨j, hj, rfl⟩

set_option maxRecDepth 100000 in
set_option maxHeartbeats 4000000 in
theorem compareESI_in (e f : Nat → Int) (w : World) :
    CallsIn Fence.wide 5 Try.prog 43 #[.agg #[.int .u8 (e 0), .int .u8 (e 1), .int .u8 (e 2), .int .u8 (e 3), .int .u8 (e 4), .int .u8 (e 5), .int .u8 (e 6), .int .u8 (e 7), .int .u8 (e 8), .int .u8 (e 9)], .agg #[.int .u8 (f 0), .int .u8 (f 1), .int .u8 (f 2), .int .u8 (f 3), .int .u8 (f 4), .int .u8 (f 5), .int .u8 (f 6), .int .u8 (f 7), .int .u8 (f 8), .int .u8 (f 9)]] w fun r W' => r = .returned (.int .i64 (cmpE e f)) ∧ Below w.heap.size w W' := by
  have hf0 := cell_new10 (w.alloc (.cells #[.int .u8 (e 0), .int .u8 (e 1), .int .u8 (e 2), .int .u8 (e 3), .int .u8 (e 4), .int .u8 (e 5), .int .u8 (e 6), .int .u8 (e 7), .int .u8 (e 8), .int .u8 (e 9)] 31)) f 31
  have he0 := cell_new10 (((w.alloc (.cells #[.int .u8 (e 0), .int .u8 (e 1), .int .u8 (e 2), .int .u8 (e 3), .int .u8 (e 4), .int .u8 (e 5), .int .u8 (e 6), .int .u8 (e 7), .int .u8 (e 8), .int .u8 (e 9)] 31)).alloc (.cells #[.int .u8 (f 0), .int .u8 (f 1), .int .u8 (f 2), .int .u8 (f 3), .int .u8 (f 4), .int .u8 (f 5), .int .u8 (f 6), .int .u8 (f 7), .int .u8 (f 8), .int .u8 (f 9)] 31)).alloc (.cells #[.int .i64 0] 3)) e 31
  have bR := Boxed.new ((w.alloc (.cells #[.int .u8 (e 0), .int .u8 (e 1), .int .u8 (e 2), .int .u8 (e 3), .int .u8 (e 4), .int .u8 (e 5), .int .u8 (e 6), .int .u8 (e 7), .int .u8 (e 8), .int .u8 (e 9)] 31)).alloc (.cells #[.int .u8 (f 0), .int .u8 (f 1), .int .u8 (f 2), .int .u8 (f 3), .int .u8 (f 4), .int .u8 (f 5), .int .u8 (f 6), .int .u8 (f 7), .int .u8 (f 8), .int .u8 (f 9)] 31)) 3 (.int .i64 0)
  simp only [World.size_alloc] at hf0 he0 bR
  have hf : ∀ j, j < 10 → ((((w.alloc (.cells #[.int .u8 (e 0), .int .u8 (e 1), .int .u8 (e 2), .int .u8 (e 3), .int .u8 (e 4), .int .u8 (e 5), .int .u8 (e 6), .int .u8 (e 7), .int .u8 (e 8), .int .u8 (e 9)] 31)).alloc (.cells #[.int .u8 (f 0), .int .u8 (f 1), .int .u8 (f 2), .int .u8 (f 3), .int .u8 (f 4), .int .u8 (f 5), .int .u8 (f 6), .int .u8 (f 7), .int .u8 (f 8), .int .u8 (f 9)] 31)).alloc (.cells #[.int .i64 0] 3)).alloc (.cells #[.int .u8 (e 0), .int .u8 (e 1), .int .u8 (e 2), .int .u8 (e 3), .int .u8 (e 4), .int .u8 (e 5), .int .u8 (e 6), .int .u8 (e 7), .int .u8 (e 8), .int .u8 (e 9)] 31)).cell? ⟨w.heap.size + 1, j, none⟩ = some (.int .u8 (f j)) := fun j hj => by
    rw [World.cell?_alloc_lt _ _ _ (by simp), World.cell?_alloc_lt _ _ _ (by simp)]
    exact hf0 j hj
  have hB0 : Below w.heap.size w ((((w.alloc (.cells #[.int .u8 (e 0), .int .u8 (e 1), .int .u8 (e 2), .int .u8 (e 3), .int .u8 (e 4), .int .u8 (e 5), .int .u8 (e 6), .int .u8 (e 7), .int .u8 (e 8), .int .u8 (e 9)] 31)).alloc (.cells #[.int .u8 (f 0), .int .u8 (f 1), .int .u8 (f 2), .int .u8 (f 3), .int .u8 (f 4), .int .u8 (f 5), .int .u8 (f 6), .int .u8 (f 7), .int .u8 (f 8), .int .u8 (f 9)] 31)).alloc (.cells #[.int .i64 0] 3)).alloc (.cells #[.int .u8 (e 0), .int .u8 (e 1), .int .u8 (e 2), .int .u8 (e 3), .int .u8 (e 4), .int .u8 (e 5), .int .u8 (e 6), .int .u8 (e 7), .int .u8 (e 8), .int .u8 (e 9)] 31)) := ((((Below.refl _ w).alloc (Nat.le_refl _) _).alloc (by simp) _).alloc (by simp; omega) _).alloc (by simp; omega) _
  have bR1 := bR.alloc (.cells #[.int .u8 (e 0), .int .u8 (e 1), .int .u8 (e 2), .int .u8 (e 3), .int .u8 (e 4), .int .u8 (e 5), .int .u8 (e 6), .int .u8 (e 7), .int .u8 (e 8), .int .u8 (e 9)] 31)
  have HE := Lib.hid he0; have HF := Lib.hid hf; have HB := Lib.hid hB0; have HR := Lib.hid bR1
  clear he0 hf0 hf hB0 bR bR1
  refine callsIn_of_wp_marks Try.func43 rfl trivial ?_ rfl
  simp only [Try.ntmps43, List.size_toArray, List.length_cons, List.length_nil, Nat.reduceAdd, Nat.reduceSub, Array.replicate_succ, Array.replicate_zero, List.push_toArray, List.append_toArray, List.nil_append, List.cons_append]
  gi_wp2_with (refine ⟨trivial, ?_⟩; gi_at_call 69; refine (callsIn_wide.2 (octets_any e _)).mono ?_; rintro x w' ⟨rfl, rfl⟩)
  refine wpIn_rangeFunc_ownF rfl (by decide) (gf := 80) (lb := #[.pointer (some ⟨w.heap.size + 1 + 1 + 1, 0, none⟩)]) rfl trivial (enters_of Try.func80 (by kernel_rfl) rfl)
    (octets_stops Fence.wide (5 - 1) trivial rfl (by decide) (w.heap.size + 1 + 1 + 1) w.heap.size e _ (by simp) HE.out) belowK_t (belowK_b (by simp; omega)) (Below.refl _ _) (fun _ => rfl)
    (fun pre W => ((∀ p ∈ pre, e p.val = f p.val) ∧ (∀ j, j < 10 → W.cell? ⟨w.heap.size + 1, j, none⟩ = some (.int .u8 (f j))) ∧ W.cell? ⟨w.heap.size + 1 + 1, 0, none⟩ = some (.int .i64 0) ∧ W.frozen? ⟨w.heap.size + 1 + 1, 0, none⟩ = false) ∧ Below w.heap.size w W)
    (fun c pre W => (c = .ret ∧ ∃ ini last, pre = ini ++ [last] ∧ (∀ p ∈ ini, e p.val = f p.val) ∧ e last.val ≠ f last.val ∧ W.cell? ⟨w.heap.size + 1 + 1, 0, none⟩ = some (.int .i64 (sg (e last.val) (f last.val)))) ∧ Below w.heap.size w W)
    (OwnFrom.and (Own.from (fun s A B row hs hg hr => ⟨hs.1, fun j hj => cell_kept (hs.2.1 j hj) hg hr, cell_kept hs.2.2.1 hg hr, (frozen_kept hs.2.2.1 hg hr).trans hs.2.2.2⟩) _) (ownFrom_below (Nat.le_refl _) (by simp; omega)))
    (fun c => OwnFrom.and (Own.from (fun s A B row hs hg hr => by obtain ⟨hc, ini, last, e1, e2, e3, e4⟩ := hs; exact ⟨hc, ini, last, e1, e2, e3, cell_kept e4 hg hr⟩) _) (ownFrom_below (Nat.le_refl _) (by simp; omega)))
    ⟨⟨by simp, HF.out, HR.out.cell, HR.out.frozen⟩, HB.out⟩
    (fun x => { tmps := #[.agg #[.int .u8 (e 0), .int .u8 (e 1), .int .u8 (e 2), .int .u8 (e 3), .int .u8 (e 4), .int .u8 (e 5), .int .u8 (e 6), .int .u8 (e 7), .int .u8 (e 8), .int .u8 (e 9)], .agg #[.int .u8 (f 0), .int .u8 (f 1), .int .u8 (f 2), .int .u8 (f 3), .int .u8 (f 4), .int .u8 (f 5), .int .u8 (f 6), .int .u8 (f 7), .int .u8 (f 8), .int .u8 (f 9)], .pointer (some ⟨w.heap.size, 0, none⟩), .pointer (some ⟨w.heap.size + 1, 0, none⟩), .pointer (some ⟨w.heap.size + 1 + 1, 0, none⟩), .int .i64 (x.val : Int), .int .u8 (e x.val), .agg #[.int .u8 (e 0), .int .u8 (e 1), .int .u8 (e 2), .int .u8 (e 3), .int .u8 (e 4), .int .u8 (e 5), .int .u8 (e 6), .int .u8 (e 7), .int .u8 (e 8), .int .u8 (e 9)], .func (.func 80) #[] #[.pointer (some ⟨w.heap.size + 1 + 1 + 1, 0, none⟩)], .int .i64 (x.val : Int), .int .u8 (e x.val), undef, undef, undef, undef, undef, undef, undef, undef, undef, undef], defers := [] }) ?assign ?body ?done ?stop
  case assign =>
    intro l x W K hK
    gi_wp2
    exact hK
  case body =>
    rintro l pre x W ⟨⟨hp, hfs, hcr, hfr⟩, hB⟩ _
    have hx := x.isLt
    have hfx := hfs x.val hx
    have HFS := Lib.hid hfs
    clear hfs
    by_cases hd : e x.val = f x.val
    · have hne : (e x.val != f x.val) = false := by simp [hd]
      have HP := Lib.hid hp; have HD := Lib.hid hd
      clear hp hd
      gi_wp2
      exact ⟨KeepsOthers.refl _, Below.refl _ _, ⟨fun p hp' => (List.mem_append.1 hp').elim (HP.out p) (fun q => by simp at q; subst q; exact HD.out), HFS.out, hcr, hfr⟩, hB⟩
    · have hne : (e x.val != f x.val) = true := by simp [hd]
      have HP := Lib.hid hp; have HD := Lib.hid hd
      clear hp hd
      gi_wp2_with (refine ⟨trivial, ?_⟩; gi_at_call 70; refine (CallsIn.inRound l (callsIn_wide.2 (cmpByte_any (e x.val) (f x.val) _))).mono ?_; rintro r w' ⟨rfl, rfl⟩)
      exact ⟨KeepsOthers.setCell _ _ _, ⟨rfl, pre, x, rfl, HP.out, HD.out, World.cell?_setCell_same' _ _ _ (by rw [hcr]; rfl)⟩, hB.setCell (p := ⟨w.heap.size + 1 + 1, 0, none⟩) (by simp; omega) _⟩
  case done =>
    rintro D ys W hD rfl ⟨⟨hne, _, hcr, hfr⟩, hB⟩ hK
    gi_wp2
    have hK' := (KeepsOthers.setCell W ⟨w.heap.size + 1 + 1, 0, none⟩ (.int .i64 0)).same D _ hK rfl
    refine ⟨by simp, .inl ⟨_, _, rfl, run_takeDeferred hK', ?_⟩⟩
    have hc5 := cell_kept (World.cell?_setCell_same' W ⟨w.heap.size + 1 + 1, 0, none⟩ (.int .i64 0) (by rw [hcr]; rfl)) (grownBy_putObj' _ D (.deferred none)) (fun r e => by cases e; exact ⟨_, hK', rfl⟩)
    refine ⟨.int .i64 0, ?_, ?_, (hB.setCell (p := ⟨w.heap.size + 1 + 1, 0, none⟩) (by simp; omega) _).trans (belowK_b (w := w) (Nat.le_refl _) _ D _ _ (by simp at hD; omega) hK' rfl rfl)⟩
    · simp [results, Try.f43, go_sem, hc5]
    · have : cmpE e f = 0 := cmpFrom_eq e f 10 0 (fun j _ hj => by have := hne (fin j) (upto_mem (by omega)); rwa [fin_val (by omega)] at this)
      rw [this]
  case stop =>
    rintro D c pre W hD ⟨k, hk, rfl⟩ ⟨⟨rfl, ini, last, e1, e2, e3, hcr⟩, hB⟩ hK
    gi_wp2
    refine ⟨by simp, .inl ⟨_, _, rfl, run_takeDeferred hK, ?_⟩⟩
    have hc5 := cell_kept hcr (grownBy_putObj' _ D (.deferred none)) (fun r e => by cases e; exact ⟨_, hK, rfl⟩)
    obtain ⟨k', rfl⟩ : ∃ k', k = k' + 1 := by
      cases k with
      | zero => simp [upto] at e1
      | succ k' => exact ⟨k', rfl⟩
    rw [upto_succ] at e1
    obtain ⟨rfl, e5⟩ := List.append_inj' e1 rfl
    obtain rfl : fin k' = last := by simpa using e5
    refine ⟨.int .i64 (sg (e (fin k').val) (f (fin k').val)), ?_, ?_, hB.trans (belowK_b (w := w) (Nat.le_refl _) W D _ _ (by simp at hD; omega) hK rfl rfl)⟩
    · simp [results, Try.f43, go_sem, hc5]
    · rw [fin_val (by omega)] at e3 ⊢
      have : cmpE e f = sg (e k') (f k') := cmpFrom_at e f k' 10 0 (by omega) (by omega) (fun j _ hj => by have := e2 (fin j) (upto_mem hj); rwa [fin_val (by omega)] at this) e3
      rw [this]

theorem compareESI_any (e f : Nat → Int) (w : World) :
    Calls Try.prog 43 #[.agg #[.int .u8 (e 0), .int .u8 (e 1), .int .u8 (e 2), .int .u8 (e 3), .int .u8 (e 4), .int .u8 (e 5), .int .u8 (e 6), .int .u8 (e 7), .int .u8 (e 8), .int .u8 (e 9)], .agg #[.int .u8 (f 0), .int .u8 (f 1), .int .u8 (f 2), .int .u8 (f 3), .int .u8 (f 4), .int .u8 (f 5), .int .u8 (f 6), .int .u8 (f 7), .int .u8 (f 8), .int .u8 (f 9)]] w fun r W' => r = .returned (.int .i64 (cmpE e f)) ∧ Below w.heap.size w W' :=
  callsIn_wide.1 (compareESI_in e f w)
end Go.Proofs.Ytejcclcckgdbgaa
