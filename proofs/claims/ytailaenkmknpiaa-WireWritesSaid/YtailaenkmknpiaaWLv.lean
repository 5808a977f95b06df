/- The examples that every statement asks first: they hold. No condition. -/
import Derived.Test.YtailaenkmknpiaaWWn
import Derived.Laws.BytesArg
namespace Go.Proofs.Ytailaenkmknpiaa
open Go.RowKit
set_option linter.unusedVariables false
set_option linter.unusedSimpArgs false
set_option maxRecDepth 100000

theorem Put.yes {b : Nat} {W : WS} {r : Int} {ys : List Int} {w w' : World} {e : Ending} (h : Put b W r ys w e w') (hr : r = 0) : e = .returned (.int .i64 0) ∧ ∃ v', Wtr w' b { W with xs := W.xs ++ ys, v := v' } ∧ ButW b W.v w w' ∧ (v'.ownBlock = W.v.ownBlock ∨ ∀ g, v'.ownBlock = some g → w.heap.size ≤ g) := by
  obtain ⟨he, ⟨h, -⟩ | ⟨-, h⟩⟩ := h
  · exact absurd hr h
  · exact ⟨hr ▸ he, h⟩
theorem Put.no {b : Nat} {W : WS} {r : Int} {ys : List Int} {w w' : World} {e : Ending} (h : Put b W r ys w e w') (hr : r ≠ 0) : e = .returned (.int .i64 r) ∧ w' = w := by
  obtain ⟨he, ⟨-, h⟩ | ⟨h, -⟩⟩ := h
  · exact ⟨he, h⟩
  · exact absurd h hr
theorem Wtr.below {w w' : World} {b : Nat} {W : WS} (h : Wtr w b W) (k : Below w.heap.size w w') : Wtr w' b W := ⟨h.1.below k h.1.lt, h.2.1.below k, h.2.2⟩
/-- Where the writer's own blocks lie. -/
def Own (B b : Nat) (v : Value) : Prop := B ≤ b ∧ ∀ g, v.ownBlock = some g → B ≤ g
theorem Own.next {B b : Nat} {v v' : Value} {w : World} (h : Own B b v) (hs : B ≤ w.heap.size) (o : v'.ownBlock = v.ownBlock ∨ ∀ g, v'.ownBlock = some g → w.heap.size ≤ g) : Own B b v' :=
  ⟨h.1, fun g hg => o.elim (fun e => h.2 g (e ▸ hg)) (fun f => Nat.le_trans hs (f g hg))⟩
theorem dat_string {w : World} {v : Value} {xs : List Int} (h : Dat w v xs) (h0 : xs ≠ []) : (convert 33 9 v).run Try.prog w = .ok (.string (strOfNums xs)) w := by
  rcases h.form with ⟨-, e⟩ | ⟨g, cap, cs, rfl, h1, h2, hb, h3, h4⟩
  · exact absurd e h0
  · exact run_convert_bytes_arg w _ _ Try.underlying33 Try.underlying5 g 0 _ _ xs rfl (fun i hi => hb.cell _ (by rw [Nat.zero_add]; exact take_at h4 i hi)) _ Try.underlying9
theorem seg_lit (w : World) (xs : List Int) : Seg (w.alloc (.cells (xs.map (Value.int .u8)).toArray 5)) (.slice (some ⟨w.heap.size, 0, none⟩) xs.length xs.length) xs :=
  ⟨_, _, rfl, Nat.le_refl _, fun i hi => ⟨w.heap.size, 0, rfl, (Blk.new w 5 (xs.map (Value.int .u8))).cell _ (by simp [List.getD_eq_getElem?_getD, hi])⟩⟩

set_option maxHeartbeats 1600000 in
theorem lives_is (w : World) : Calls Try.prog 5 #[] w fun e w' => e = .returned (.bool true) ∧ Below w.heap.size w w' := by
  go_enter Try.func5, Try.ntmps5
  go_wp2_with fail
  go_at_call 7
  refine (wr_New w 100 (by decide)).mono ?_
  rintro e w1 ⟨b, rfl, m, W1, hbb, -, -, B1⟩
  have O1 : Own w.heap.size b (.slice none 0 0) := ⟨hbb, fun g hg => by simp [Value.ownBlock] at hg⟩
  go_wp2_with fail
  go_at_call 37
  refine (wr_U16 w1 b _ 258 W1 (by decide)).mono ?_
  rintro e w2 hp
  obtain ⟨rfl, v2, W2, k2, o2⟩ := hp.yes rfl
  have B2 := k2.below B1 O1.1 O1.2 B1.size
  have O2 := O1.next B1.size o2
  clear hp k2 o2 O1 B1 W1
  go_wp2_with fail
  go_at_call 38
  refine (wr_U24 w2 b _ 1 W2 (by decide)).mono ?_
  rintro e w3 hp
  obtain ⟨rfl, v3, W3, k3, o3⟩ := hp.yes rfl
  have B3 := k3.below B2 O2.1 O2.2 B2.size
  clear hp k3 o3 O2 B2 W2
  go_wp2_with fail
  go_at_call 39
  refine (wr_U8 w3 b _ 256 W3 (by decide)).mono ?_
  rintro e w' hp
  obtain ⟨rfl, hw⟩ := hp.no (show (2 : Int) ≠ 0 by decide)
  obtain rfl := hw.symm
  rw [show WS.res _ 1 256 = 2 from rfl]
  clear hp
  go_wp2_with fail
  go_at_call 23
  refine (rd_New _ _ [1, 2, 3] (seg_lit w3 [1, 2, 3]) (by unfold Oct; decide) (by decide)).mono ?_
  rintro e w4 ⟨c, rfl, hc0, R4, k4⟩
  have l4 : Below w3.heap.size w3 (w3.alloc (.cells ([1, 2, 3].map (Value.int .u8)).toArray 5)) := (Below.refl _ _).alloc (Nat.le_refl _) _
  have m4 : Below w3.heap.size w3 w4 := l4.trans (k4.mono l4.size)
  have B4 : Below w.heap.size w w4 := B3.trans (m4.mono B3.size)
  have W4 := W3.below m4
  have hc : w.heap.size ≤ c := Nat.le_trans (Nat.le_trans B3.size l4.size) hc0
  clear hc0 k4 l4 m4 B3 W3
  go_wp2_with fail
  go_at_call 20
  refine (wr_Out w4 b _ W4).mono ?_
  rintro e w5 ⟨v5, rfl, D5, k5⟩
  have R5 := R4.below k5
  have B5 := B4.trans (k5.mono B4.size)
  have hcv := dat_string D5 (by simp [enc])
  rw [show strOfNums _ = (⟨#[1, 2, 0, 0, 1]⟩ : ByteArray) from rfl] at hcv
  clear W4 R4 B4 D5 k5
  dsimp only
  repeat (first | go_skip | go_guarded | go_step | go_upon)
  go_at_call 40
  refine (rd_U16 w5 c ⟨0, 0, [1, 2, 3], 0, 0⟩ R5).mono ?_
  rintro e w6 ⟨rfl, R6, k6⟩
  have B6 := But.below B5 k6 hc B5.size
  rw [show be (RS.part ⟨0, 0, [1, 2, 3], 0, 0⟩ 2) = 258 from rfl]
  rw [show RS.next ⟨0, 0, [1, 2, 3], 0, 0⟩ 2 = ⟨0, 2, [1, 2, 3], 0, 0⟩ from rfl] at R6
  clear R5 B5 k6
  dsimp only
  repeat (first | go_skip | go_guarded | go_step | go_upon)
  go_at_call 40
  refine (rd_U16 w6 c ⟨0, 2, [1, 2, 3], 0, 0⟩ R6).mono ?_
  rintro e w7 ⟨rfl, R7, k7⟩
  have B7 := But.below B6 k7 hc B6.size
  rw [show be (RS.part ⟨0, 2, [1, 2, 3], 0, 0⟩ 2) = 0 from rfl]
  rw [show RS.next ⟨0, 2, [1, 2, 3], 0, 0⟩ 2 = ⟨0, 2, [1, 2, 3], 4, 2⟩ from rfl] at R7
  clear R6 B6 k7
  dsimp only
  repeat (first | go_skip | go_guarded | go_step | go_upon)
  go_at_call 41
  refine (rd_U8 w7 c ⟨0, 2, [1, 2, 3], 4, 2⟩ R7).mono ?_
  rintro e w8 ⟨rfl, R8, k8⟩
  have B8 := But.below B7 k8 hc B7.size
  rw [show be (RS.part ⟨0, 2, [1, 2, 3], 4, 2⟩ 1) = 0 from rfl]
  rw [show RS.next ⟨0, 2, [1, 2, 3], 4, 2⟩ 1 = ⟨0, 2, [1, 2, 3], 4, 2⟩ from rfl] at R8
  clear R7 B7 k8
  dsimp only
  repeat (first | go_skip | go_guarded | go_step | go_upon)
  go_at_call 36
  refine (rd_Fault w8 c _ R8).mono ?_
  rintro e w9 ⟨rfl, k9⟩
  have R9 := R8.below k9
  have B9 := B8.trans (k9.mono B8.size)
  clear R8 B8 k9
  dsimp only
  repeat (first | go_skip | go_guarded | go_step | go_upon)
  go_at_call 33
  refine (rd_Left w9 c _ R9).mono ?_
  rintro e w10 ⟨rfl, k10⟩
  have B10 := B9.trans (k10.mono B9.size)
  clear R9 B9 k10
  rw [show (([1, 2, 3] : List Int).length : Int) - ((2 : Nat) : Int) = 1 from rfl]
  dsimp only
  repeat (first | go_skip | go_guarded | go_step | go_upon)
  go_ret
  exact ⟨rfl, B10⟩
end Go.Proofs.Ytailaenkmknpiaa
