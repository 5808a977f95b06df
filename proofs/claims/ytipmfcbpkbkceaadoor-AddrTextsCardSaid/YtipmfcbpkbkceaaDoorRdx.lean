/- strconv.ParseUint at base 16 and 8 bits; readHex; readDecimal: a number, or none. The two error variables hold interface values. -/
import Derived.Test.YtipmfcbpkbkceaaDoorHxp
import Derived.Lib.AtoiErrMem
import Derived.Lib.ParseIntBCases
namespace Go.Proofs.YtipmfcbpkbkceaaDoor
open Go.RowKit Go.Shelf
set_option linter.unusedVariables false
set_option linter.unusedSimpArgs false

/-- What the two error variables hold. -/
def Errs (w : World) : Prop := (∃ te pe, w.cell? ⟨1, 0, none⟩ = some (.iface te pe)) ∧ ∃ te pe, w.cell? ⟨2, 0, none⟩ = some (.iface te pe)
theorem Errs.below {w w' : World} (h : Errs w) (hb : Below w.heap.size w w') : Errs w' := by
  obtain ⟨⟨a, b, h1⟩, ⟨c, d, h2⟩⟩ := h
  exact ⟨⟨a, b, (hb.cell (p := ⟨1, 0, none⟩) (block_lt_of_cell h1)).trans h1⟩, ⟨c, d, (hb.cell (p := ⟨2, 0, none⟩) (block_lt_of_cell h2)).trans h2⟩⟩

set_option maxHeartbeats 4000000 in
set_option maxRecDepth 100000 in
theorem parseUint16_ok (t : ByteArray) (h2 : t.size = 2) (v : Nat) (h : hexM 0 t.data.toList = some v) (w : World) :
    Calls Tryd.prog 35 #[.string t, .int .i64 16, .int .i64 8] w fun e w' => e = .returned (.tuple #[.int .u64 v, .nilIface]) ∧ Below w.heap.size w w' := by
  have hI := parseUint16_in t (by omega) (by omega) w
  rw [h] at hI
  have hI : Calls Tryd.prog 42 #[.string t, .int .i64 16, .int .i64 8] w fun e w' => e = .returned (.tuple #[.int .u64 v, .nilIface]) ∧ w' = Lib.bytesWorld w 5 t := hI
  clear h h2
  go_enter Tryd.func35, Tryd.ntmps35
  go_wp2_with (go_at_call 42; refine hI.mono ?_; rintro e W1 ⟨rfl, hW⟩)
  go_ret2
  exact ⟨rfl, by first | (rw [hW]; exact Lib.bytesWorld_below _ _ _) | exact Lib.bytesWorld_below _ _ _⟩

set_option maxHeartbeats 4000000 in
set_option maxRecDepth 100000 in
theorem parseUint16_no (t : ByteArray) (h2 : t.size = 2) (h : hexM 0 t.data.toList = none) (w : World) (hE : Errs w) :
    Calls Tryd.prog 35 #[.string t, .int .i64 16, .int .i64 8] w fun e w' => (∃ N, e = .returned (.tuple #[.int .u64 0, .iface 86 (.pointer (some ⟨N, 0, none⟩))])) ∧ Below w.heap.size w w' := by
  obtain ⟨⟨te, pe, hv⟩, _⟩ := hE
  have hI := parseUint16_in t (by omega) (by omega) w
  rw [h] at hI
  have hI : Calls Tryd.prog 42 #[.string t, .int .i64 16, .int .i64 8] w fun e w' => e = .returned (.tuple #[.int .u64 0, .iface 83 (.int .i64 2)]) ∧ w' = Lib.bytesWorld w 5 t := hI
  have hG : 1 < w.heap.size := block_lt_of_cell hv
  clear h
  go_enter Tryd.func35, Tryd.ntmps35
  go_wp2_with (go_at_call 42; refine hI.mono ?_)
  rintro e W1 ⟨rfl, hW⟩
  have hb1 : Below w.heap.size w W1 := by
    rw [hW]; exact Lib.bytesWorld_below _ _ _
  have hv1 : W1.cell? ⟨1, 0, none⟩ = some (.iface te pe) := (hb1.cell (show (⟨1, 0, none⟩ : Addr).block < w.heap.size from hG)).trans hv
  clear hW
  go_wp2_with (go_at_call 43; refine (AnyPu.strconv_toError_syntax { Tryd.laysPu14 with } ⟨#[80, 97, 114, 115, 101, 85, 105, 110, 116]⟩ t 16 8 (.iface te pe) _ (by omega) hv1 (.inr ⟨_, _, rfl⟩)).mono ?_)
  rintro e W2 ⟨N, rfl, h1, h2', h3⟩
  go_wp2
  go_ret2
  exact ⟨⟨N, rfl⟩, hb1.trans (h3.mono hb1.size)⟩

/-- The byte that exactly two hexadecimal digits spell. -/
def hexRd (s : ByteArray) : Option Nat := if s.size = 2 then hexM 0 s.data.toList else none
/-- The byte that a decimal numeral without a leading zero spells. -/
def decRd (s : ByteArray) : Option Nat := if 1 < s.size ∧ s.data.toList.getD 0 0 = 48 then none else match Lib.parseUintB 8 s.data.toList with
  | .ok u => some u
  | _ => none
/-- What a function says that reads a group. -/
def Reads (f : Nat) (rd : ByteArray → Option Nat) : Prop := ∀ (s : ByteArray), s.size ≤ 281474976710656 → ∀ w, Errs w →
  Calls Tryd.prog f #[.string s] w fun e w' => (∃ b : Int, e = .returned (.tuple #[.int .u8 b, .bool (rd s).isSome]) ∧ ∀ v, rd s = some v → b = (v : Int)) ∧ Below w.heap.size w w'

theorem hexM_lt : ∀ (l : List UInt8) (acc v : Nat), hexM acc l = some v → v < (acc + 1) * 16 ^ l.length
  | [], acc, v, h => by simp [hexM] at h; simp; omega
  | c :: r, acc, v, h => by
    unfold hexM at h
    split at h
    · rename_i d hd
      have h15 := hexv_lt c.toNat c.toNat_lt d hd
      have ih := hexM_lt r _ v h
      have : (acc * 16 + d + 1) * 16 ^ r.length ≤ ((acc + 1) * 16) * 16 ^ r.length := Nat.mul_le_mul_right _ (by omega)
      rw [List.length_cons, Nat.pow_succ, Nat.mul_comm (16 ^ r.length) 16, ← Nat.mul_assoc]
      omega
    · cases h
theorem hexRd_lt {s : ByteArray} {v : Nat} (h : hexRd s = some v) : v < 256 := by
  unfold hexRd at h
  split at h
  · rename_i h2
    have := hexM_lt _ _ _ h
    rw [Lib.size_eq] at h2
    rw [h2] at this
    simpa using this
  · cases h

set_option maxHeartbeats 4000000 in
set_option maxRecDepth 100000 in
theorem readHex_is : Reads 23 hexRd := by
  intro s hlim w hE
  by_cases h2 : s.size = 2
  · rcases hr : hexM 0 s.data.toList with _ | v
    · have hx : hexRd s = none := by simp [hexRd, h2, hr]
      rw [hx]
      go_enter Tryd.func23, Tryd.ntmps23
      go_wp2_with (go_at_call 35; refine (parseUint16_no s h2 hr _ hE).mono ?_; rintro e w1 ⟨⟨N, rfl⟩, hb⟩)
      refine wp_region_qb (by kernel_rfl) (by kernel_rfl) ?_
      repeat (go_big_quiet_step (fail))
      refine wpQuiet_nil ?_
      intro w2 hb2
      go_wp2
      go_ret2
      exact ⟨⟨_, rfl, fun v h => by cases h⟩, hb.trans (hb2.mono hb.size)⟩
    · have hx : hexRd s = some v := by simp [hexRd, h2, hr]
      have hv := hexRd_lt hx
      rw [hx]
      go_enter Tryd.func23, Tryd.ntmps23
      go_wp2_with (go_at_call 35; refine (parseUint16_ok s h2 v hr _).mono ?_; rintro e w1 ⟨rfl, hb⟩)
      refine wp_region_qb (by kernel_rfl) (by kernel_rfl) ?_
      repeat (go_big_quiet_step (fail))
      refine wpQuiet_nil ?_
      intro w2 hb2
      go_wp2
      go_ret2
      exact ⟨⟨_, rfl, fun v' h => by cases h; rfl⟩, hb.trans (hb2.mono hb.size)⟩
  · have hx : hexRd s = none := by simp [hexRd, h2]
    rw [hx]
    go_enter Tryd.func23, Tryd.ntmps23
    go_wp2
    go_ret2
    exact ⟨⟨_, rfl, fun v h => by cases h⟩, Below.refl _ _⟩

theorem decRd_lt {s : ByteArray} {v : Nat} (h : decRd s = some v) : v < 256 := by
  unfold decRd at h
  split at h
  · cases h
  · split at h
    · rename_i u hu
      cases h
      have := Lib.parseUintB_le hu; omega
    · cases h

theorem byte0 (s : ByteArray) (h : 0 < s.size) : s.data.toList.getD 0 0 = s[0] := by
  have h' : 0 < s.data.size := h
  simp only [List.getD, Array.getElem?_toList]
  rw [Array.getElem?_eq_getElem h']
  rfl
theorem byte0_is {s : ByteArray} (h : 0 < s.size) (b : Bool) (hb : decide (s.data.toList.getD 0 0 = 48) = b) : (((s[0]'h).toNat : Int) == 48) = b := by
  rw [← hb, byte0 s h, Bool.eq_iff_iff]
  simp only [beq_iff_eq, decide_eq_true_eq]
  constructor
  · intro e
    apply UInt8.toNat_inj.1
    show _ = 48
    omega
  · intro e
    rw [e]
    rfl

set_option maxHeartbeats 4000000 in
set_option maxRecDepth 100000 in
theorem readDec_ok (s : ByteArray) (w : World) (h0 : ¬ (1 < s.size ∧ s.data.toList.getD 0 0 = 48)) (v : Nat) (hv : v < 256) (hC : Calls Tryd.prog 35 #[.string s, .int .i64 10, .int .i64 8] w fun e w' => e = .returned (.tuple #[.int .u64 (v : Int), .nilIface]) ∧ Below w.heap.size w w') :
    Calls Tryd.prog 18 #[.string s] w fun e w' => (∃ b : Int, e = .returned (.tuple #[.int .u8 b, .bool ((some v : Option Nat)).isSome]) ∧ ∀ v', (some v : Option Nat) = some v' → b = (v' : Int)) ∧ Below w.heap.size w w' := by
  by_cases h1 : 1 < s.size
  · have hb := byte0_is (show 0 < s.size by omega) false (by simpa using fun h => h0 ⟨h1, h⟩)
    clear h0
    go_enter Tryd.func18, Tryd.ntmps18
    go_wp2_with (go_at_call 35; refine hC.mono ?_; rintro e w1 ⟨rfl, hbl⟩)
    refine wp_region_qb (by kernel_rfl) (by kernel_rfl) ?_
    repeat (go_big_quiet_step (fail))
    refine wpQuiet_nil ?_
    intro w2 hb2
    go_wp2
    go_ret2
    exact ⟨⟨_, rfl, fun v' h => by cases h; rfl⟩, hbl.trans (hb2.mono hbl.size)⟩
  · clear h0
    go_enter Tryd.func18, Tryd.ntmps18
    go_wp2_with (go_at_call 35; refine hC.mono ?_; rintro e w1 ⟨rfl, hbl⟩)
    refine wp_region_qb (by kernel_rfl) (by kernel_rfl) ?_
    repeat (go_big_quiet_step (fail))
    refine wpQuiet_nil ?_
    intro w2 hb2
    go_wp2
    go_ret2
    exact ⟨⟨_, rfl, fun v' h => by cases h; rfl⟩, hbl.trans (hb2.mono hbl.size)⟩

set_option maxHeartbeats 4000000 in
set_option maxRecDepth 100000 in
theorem readDec_no (s : ByteArray) (w : World) (h0 : ¬ (1 < s.size ∧ s.data.toList.getD 0 0 = 48)) (u : Int) (hu0 : 0 ≤ u) (hu1 : u ≤ 255) (hC : Calls Tryd.prog 35 #[.string s, .int .i64 10, .int .i64 8] w fun e w' => (∃ N, e = .returned (.tuple #[.int .u64 u, .iface 86 (.pointer (some ⟨N, 0, none⟩))])) ∧ Below w.heap.size w w') :
    Calls Tryd.prog 18 #[.string s] w fun e w' => (∃ b : Int, e = .returned (.tuple #[.int .u8 b, .bool ((none : Option Nat)).isSome]) ∧ ∀ v', (none : Option Nat) = some v' → b = (v' : Int)) ∧ Below w.heap.size w w' := by
  by_cases h1 : 1 < s.size
  · have hb := byte0_is (show 0 < s.size by omega) false (by simpa using fun h => h0 ⟨h1, h⟩)
    clear h0
    go_enter Tryd.func18, Tryd.ntmps18
    go_wp2_with (go_at_call 35; refine hC.mono ?_; rintro e w1 ⟨⟨N, rfl⟩, hbl⟩)
    refine wp_region_qb (by kernel_rfl) (by kernel_rfl) ?_
    repeat (go_big_quiet_step (fail))
    refine wpQuiet_nil ?_
    intro w2 hb2
    go_wp2
    go_ret2
    exact ⟨⟨_, rfl, fun v' h => by cases h⟩, hbl.trans (hb2.mono hbl.size)⟩
  · clear h0
    go_enter Tryd.func18, Tryd.ntmps18
    go_wp2_with (go_at_call 35; refine hC.mono ?_; rintro e w1 ⟨⟨N, rfl⟩, hbl⟩)
    refine wp_region_qb (by kernel_rfl) (by kernel_rfl) ?_
    repeat (go_big_quiet_step (fail))
    refine wpQuiet_nil ?_
    intro w2 hb2
    go_wp2
    go_ret2
    exact ⟨⟨_, rfl, fun v' h => by cases h⟩, hbl.trans (hb2.mono hbl.size)⟩

theorem readDecimal_is : Reads 18 decRd := by
  intro s hlim w hE
  obtain ⟨⟨t1, p1, e1⟩, ⟨t2, p2, e2⟩⟩ := hE
  by_cases h0 : 1 < s.size ∧ s.data.toList.getD 0 0 = 48
  · have hx : decRd s = none := by unfold decRd; rw [if_pos h0]
    obtain ⟨h1, h48⟩ := h0
    have hb := byte0_is (show 0 < s.size by omega) true (by simpa using h48)
    rw [hx]
    clear h48 hx e1 e2
    go_enter Tryd.func18, Tryd.ntmps18
    go_wp2
    go_ret2
    exact ⟨⟨_, rfl, fun v h => by cases h⟩, Below.refl _ _⟩
  · rcases hr : Lib.parseUintB 8 s.data.toList with u | _ | _
    · have hx : decRd s = some u := by unfold decRd; rw [if_neg h0, hr]
      have := Lib.parseUintB_le hr
      rw [hx]
      refine readDec_ok s w h0 u (by omega) ((Tryd.strconv_ParseUint_10_at8_ok s (by omega) u hr w).mono ?_)
      rintro e w' ⟨rfl, hw⟩
      refine ⟨rfl, ?_⟩
      rcases hw with rfl | rfl
      · exact Below.refl _ _
      · exact Lib.bytesWorld_below _ _ _
    · have hx : decRd s = none := by unfold decRd; rw [if_neg h0, hr]
      rw [hx]
      refine readDec_no s w h0 0 (by decide) (by decide) ((Tryd.strconv_ParseUint_10_at8_syntax s hlim hr _ w e1 (.inr ⟨_, _, rfl⟩)).mono ?_)
      rintro e w' ⟨N, rfl, _, _, hb⟩
      exact ⟨⟨N, rfl⟩, hb⟩
    · have hx : decRd s = none := by unfold decRd; rw [if_neg h0, hr]
      rw [hx]
      refine readDec_no s w h0 255 (by decide) (by decide) ((Tryd.strconv_ParseUint_10_at8_range s hlim hr _ w e2 (.inr ⟨_, _, rfl⟩)).mono ?_)
      rintro e w' ⟨N, rfl, _, _, hb⟩
      exact ⟨⟨N, rfl⟩, hb⟩
end Go.Proofs.YtipmfcbpkbkceaaDoor
