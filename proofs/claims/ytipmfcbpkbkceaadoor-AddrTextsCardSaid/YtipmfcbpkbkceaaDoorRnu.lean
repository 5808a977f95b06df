/- readNumber, ParseIP, ParseMAC: the number that the groups' bytes form. No condition but the variables'. -/
import Derived.Test.YtipmfcbpkbkceaaDoorRbs
import Derived.Laws.BitsAllLaws
namespace Go.Proofs.YtipmfcbpkbkceaaDoor
open Go.RowKit Go.Shelf Go.Sort
set_option linter.unusedVariables false
set_option linter.unusedSimpArgs false

theorem groups_lt {c : UInt8} {rd : ByteArray → Option Nat} (hrd : ∀ s v, rd s = some v → v < 256) : ∀ (n : Nat) (s : List UInt8) (l : List Nat), groups c rd n s = some l → ∀ b ∈ l, b < 256
  | 0, s, l, h => by cases h
  | n + 1, s, l, h => by
    unfold groups at h
    split at h
    · cases h
    · rename_i b hb
      have hb' := hrd _ _ hb
      split at h
      · split at h
        · cases h
        · rw [Option.map_eq_some_iff] at h
          obtain ⟨r, hr, rfl⟩ := h
          intro x hx
          rcases List.mem_cons.1 hx with rfl | hx
          · exact hb'
          · exact groups_lt hrd n _ _ hr x hx
      · split at h
        · cases h
          intro x hx
          rw [List.mem_singleton.1 hx]
          exact hb'
        · cases h

/-- The number that bytes form. -/
def numB (l : List Nat) : Nat := l.foldl (fun n b => n * 256 + b) 0
theorem numB_take (l : List Nat) (k : Nat) (h : k < l.length) : numB (l.take (k + 1)) = numB (l.take k) * 256 + l.getD k 0 := by
  have e : l.take (k + 1) = l.take k ++ [l.getD k 0] := by rw [List.take_add_one, List.getElem?_eq_getElem h]; simp [List.getD, h]
  unfold numB
  rw [e, List.foldl_append]
  rfl
theorem numB_lt : ∀ (l : List Nat) (k : Nat), (∀ b ∈ l, b < 256) → k ≤ l.length → numB (l.take k) < 256 ^ k
  | l, 0, _, _ => by simp [numB]
  | l, k + 1, h, hk => by
    rw [numB_take l k (by omega), Nat.pow_succ]
    have := numB_lt l k h (by omega)
    have hb : l.getD k 0 < 256 := by
      rw [List.getD_eq_getElem?_getD, List.getElem?_eq_getElem (show k < l.length by omega)]
      exact h _ (List.getElem_mem _)
    omega
theorem or_byte (a b : Nat) (hb : b < 256) : a * 256 ||| b = a * 256 + b := by
  have := Nat.two_pow_add_eq_or_of_lt (i := 8) (by simpa using hb) a
  rw [Nat.mul_comm] at this
  simpa using this.symm
theorem orb32 (a b : Nat) (ha : a < 16777216) (hb : b < 256) : bits BinOp.or IntKind.u32 ((a : Int) * 256) (b : Int) = ((a * 256 + b : Nat) : Int) := by
  rw [show ((a : Int) * 256) = ((a * 256 : Nat) : Int) by omega, u32_or _ _ (Int.natCast_nonneg _) (by omega) (Int.natCast_nonneg _) (by omega), Int.toNat_natCast, Int.toNat_natCast, or_byte a b hb]
theorem orb64 (a b : Nat) (ha : a < 1099511627776) (hb : b < 256) : bits BinOp.or IntKind.u64 ((a : Int) * 256) (b : Int) = ((a * 256 + b : Nat) : Int) := by
  rw [show ((a : Int) * 256) = ((a * 256 : Nat) : Int) by omega, u64_or _ _ (Int.natCast_nonneg _) (by omega) (Int.natCast_nonneg _) (by omega), Int.toNat_natCast, Int.toNat_natCast, or_byte a b hb]
theorem own_cells {w : World} {B e n : Nat} {v : Value} {l : List Nat} (h : w.ownsRow B e 1 v n (l.map byteV)) (hn : 0 < n) : ∃ g cap, v = .slice (some ⟨g, 0, none⟩) n cap ∧ ∀ j, j < n → w.cell? ⟨g, j, none⟩ = some (.int .u8 ((l.getD j 0 : Nat) : Int)) := by
  have hl := h.1
  rcases h.2 with ⟨_, h0⟩ | ⟨g, cap, cur, rfl, _⟩
  · omega
  · refine ⟨g, cap, rfl, fun j hj => ?_⟩
    have hj' : j < l.length := by simp at hl; omega
    rw [h.cellAt j (by omega)]
    simp [List.getElem?_map, List.getElem?_eq_getElem hj', byteV]

def numResIP (r : Option (List Nat)) : Value := match r with
  | some l => .tuple #[.int .u32 (numB l : Int), .int .i64 0]
  | none => .tuple #[.int .u32 0, .int .i64 19]
set_option maxHeartbeats 16000000 in
set_option maxRecDepth 100000 in
theorem readNumberIP (c : UInt8) (s : List UInt8) (hs : s.length < 4294967281) (w : World) (hV : Vars w) :
    Calls Tryd.prog 17 #[.string ⟨s.toArray⟩, .string ⟨#[c]⟩, .int .i64 4, .func (.func 18) #[] #[]] w fun e w' => e = .returned (numResIP (groups c decRd 4 s)) ∧ Below w.heap.size w w' := by
  have hC := readBytes_dec4 c s hs w hV
  have hlt := fun l h => groups_lt (c := c) (rd := decRd) (fun s v h => decRd_lt h) 4 s l h
  generalize groups c decRd 4 s = G at hC hlt ⊢
  rcases G with _ | l
  · go_enter Tryd.func17, Tryd.ntmps17
    go_wp2_with (go_at_call 22; refine hC.mono ?_; rintro e w1 ⟨⟨sv, rfl, _⟩, hb⟩)
    go_ret2
    exact ⟨rfl, hb⟩
  · have hl := hlt l rfl
    clear hlt
    go_enter Tryd.func17, Tryd.ntmps17
    go_wp2_with (go_at_call 22; refine hC.mono ?_; rintro e w1 ⟨⟨sv, rfl, hsv⟩, hb⟩; obtain ⟨hlen, hown⟩ := hsv l rfl; obtain ⟨g, cap, rfl, hcell⟩ := own_cells hown (by decide); clear hsv hown)
    have HL := Lib.hid hl
    clear hl hC
    go_loop [12, 27] (fun vn vi => ∃ k : Nat, k ≤ 4 ∧ vi = .int .i64 k ∧ vn = .int .u32 (numB (l.take k) : Int)) (fun _ vi => 4 - (intOf vi).toNat)
    case atStart => exact ⟨0, Nat.zero_le _, rfl, by simp [numB]⟩
    case round =>
      obtain ⟨k, hk, rfl, rfl⟩ := hrel
      by_cases hkn : k < 4
      · have hc := hcell k hkn
        have hN := numB_lt l k HL.out (by omega)
        have h24 : numB (l.take k) < 16777216 := Nat.lt_of_lt_of_le hN (by
          have := Nat.pow_le_pow_right (n := 256) (by decide) (show k ≤ 3 by omega)
          simpa using this)
        have hbyte : l.getD k 0 < 256 := by
          rw [List.getD_eq_getElem?_getD, List.getElem?_eq_getElem (show k < l.length by omega)]
          exact HL.out _ (List.getElem_mem _)
        have HS := Lib.hid (numB_take l k (by omega))
        have HO := Lib.hid (orb32 (numB (l.take k)) (l.getD k 0) h24 hbyte)
        clear hN
        generalize l.getD k 0 = b at hc hbyte HS HO
        generalize numB (l.take k) = a at HS HO h24
        clear hcell
        go_wp2
        refine ⟨⟨k + 1, by omega, by simp, ?_⟩, by simp [intOf]; omega⟩
        rw [HS.out, ← HO.out]
      · have hkk : k = 4 := by omega
        subst hkk
        have he : numB (l.take 4) = numB l := by rw [← hlen, List.take_length]
        go_wp2
        go_ret2
        first | exact ⟨rfl, hb⟩ | exact ⟨by rw [he]; rfl, hb⟩

theorem parseIP_is (s : List UInt8) (hs : s.length < 4294967281) (w : World) (hV : Vars w) :
    Calls Tryd.prog 5 #[.string ⟨s.toArray⟩] w fun e w' => e = .returned (numResIP (groups 46 decRd 4 s)) ∧ Below w.heap.size w w' := by
  have hC := readNumberIP 46 s hs w hV
  rcases hG : groups 46 decRd 4 s with _ | l
  all_goals
    rw [hG] at hC
    simp only [numResIP] at hC
    go_enter Tryd.func5, Tryd.ntmps5
    go_wp2_with (go_at_call 17; refine hC.mono ?_; rintro e w1 ⟨rfl, hb⟩)
    go_ret2
    exact ⟨rfl, hb⟩

def numResMAC (r : Option (List Nat)) : Value := match r with
  | some l => .tuple #[.int .u64 (numB l : Int), .int .i64 0]
  | none => .tuple #[.int .u64 0, .int .i64 19]
set_option maxHeartbeats 16000000 in
set_option maxRecDepth 100000 in
theorem readNumberMAC (c : UInt8) (s : List UInt8) (hs : s.length < 4294967281) (w : World) (hV : Vars w) :
    Calls Tryd.prog 28 #[.string ⟨s.toArray⟩, .string ⟨#[c]⟩, .int .i64 6, .func (.func 23) #[] #[]] w fun e w' => e = .returned (numResMAC (groups c hexRd 6 s)) ∧ Below w.heap.size w w' := by
  have hC := readBytes_hex6 c s hs w hV
  have hlt := fun l h => groups_lt (c := c) (rd := hexRd) (fun s v h => hexRd_lt h) 6 s l h
  generalize groups c hexRd 6 s = G at hC hlt ⊢
  rcases G with _ | l
  · go_enter Tryd.func28, Tryd.ntmps28
    go_wp2_with (go_at_call 22; refine hC.mono ?_; rintro e w1 ⟨⟨sv, rfl, _⟩, hb⟩)
    go_ret2
    exact ⟨rfl, hb⟩
  · have hl := hlt l rfl
    clear hlt
    go_enter Tryd.func28, Tryd.ntmps28
    go_wp2_with (go_at_call 22; refine hC.mono ?_; rintro e w1 ⟨⟨sv, rfl, hsv⟩, hb⟩; obtain ⟨hlen, hown⟩ := hsv l rfl; obtain ⟨g, cap, rfl, hcell⟩ := own_cells hown (by decide); clear hsv hown)
    have HL := Lib.hid hl
    clear hl hC
    go_loop [12, 27] (fun vn vi => ∃ k : Nat, k ≤ 6 ∧ vi = .int .i64 k ∧ vn = .int .u64 (numB (l.take k) : Int)) (fun _ vi => 6 - (intOf vi).toNat)
    case atStart => exact ⟨0, Nat.zero_le _, rfl, by simp [numB]⟩
    case round =>
      obtain ⟨k, hk, rfl, rfl⟩ := hrel
      by_cases hkn : k < 6
      · have hc := hcell k hkn
        have hN := numB_lt l k HL.out (by omega)
        have h24 : numB (l.take k) < 1099511627776 := Nat.lt_of_lt_of_le hN (by
          have := Nat.pow_le_pow_right (n := 256) (by decide) (show k ≤ 5 by omega)
          simpa using this)
        have hbyte : l.getD k 0 < 256 := by
          rw [List.getD_eq_getElem?_getD, List.getElem?_eq_getElem (show k < l.length by omega)]
          exact HL.out _ (List.getElem_mem _)
        have HS := Lib.hid (numB_take l k (by omega))
        have HO := Lib.hid (orb64 (numB (l.take k)) (l.getD k 0) h24 hbyte)
        clear hN
        generalize l.getD k 0 = b at hc hbyte HS HO
        generalize numB (l.take k) = a at HS HO h24
        clear hcell
        go_wp2
        refine ⟨⟨k + 1, by omega, by simp, ?_⟩, by simp [intOf]; omega⟩
        rw [HS.out, ← HO.out]
      · have hkk : k = 6 := by omega
        subst hkk
        have he : numB (l.take 6) = numB l := by rw [← hlen, List.take_length]
        go_wp2
        go_ret2
        first | exact ⟨rfl, hb⟩ | exact ⟨by rw [he]; rfl, hb⟩

theorem parseMAC_is (s : List UInt8) (hs : s.length < 4294967281) (w : World) (hV : Vars w) :
    Calls Tryd.prog 10 #[.string ⟨s.toArray⟩] w fun e w' => e = .returned (numResMAC (groups 58 hexRd 6 s)) ∧ Below w.heap.size w w' := by
  have hC := readNumberMAC 58 s hs w hV
  rcases hG : groups 58 hexRd 6 s with _ | l
  all_goals
    rw [hG] at hC
    simp only [numResMAC] at hC
    go_enter Tryd.func10, Tryd.ntmps10
    go_wp2_with (go_at_call 28; refine hC.mono ?_; rintro e w1 ⟨rfl, hb⟩)
    go_ret2
    exact ⟨rfl, hb⟩
end Go.Proofs.YtipmfcbpkbkceaaDoor
