/- strconv.ParseUint at base 16 and 8 bits, at two bytes: the number that two hexadecimal digits spell, or an error. No condition. -/
import Derived.Test.YtipmfcbpkbkceaaDoorAdr
import Derived.Test.YtipmfcbpkbkceaaDoorShelf
import Derived.Lib.Walk
import Derived.Lib.ConvBytes
import Derived.Lib.Strings
import Derived.Lib.AtoiErrMem
import Derived.Laws.Strings3
import Derived.Laws.Closers25
import Derived.Laws.Closers25b
import Derived.BigCall
import Derived.BigGuard
namespace Go.Proofs.YtipmfcbpkbkceaaDoor
open Go.RowKit Go.Shelf
set_option linter.unusedVariables false
set_option linter.unusedSimpArgs false

/-- The value of a hexadecimal digit. -/
def hexv (c : Nat) : Option Nat := if 48 ≤ c ∧ c ≤ 57 then some (c - 48) else if 97 ≤ c ∧ c ≤ 102 then some (c - 87) else if 65 ≤ c ∧ c ≤ 70 then some (c - 55) else none
def hexM : Nat → List UInt8 → Option Nat
  | acc, [] => some acc
  | acc, c :: r => match hexv c.toNat with
    | some d => hexM (acc * 16 + d) r
    | none => none
def hexRes (v : Option Nat) : Value := match v with
  | some n => .tuple #[.int .u64 n, .nilIface]
  | none => .tuple #[.int .u64 0, .iface 83 (.int .i64 2)]
/-- A byte with the bit 32 set. -/
def low (c : Nat) : Nat := if c / 32 % 2 = 1 then c else c + 32
theorem low_eq : ∀ c : Nat, c < 256 → bits .or .u8 (c : Int) 32 = (low c : Int) := by decide +kernel
theorem hexv_hi : ∀ c, c < 256 → ¬ (48 ≤ c ∧ c ≤ 57) → 97 ≤ low c → low c ≤ 102 → hexv c = some (low c - 87) := by decide +kernel
theorem hexv_no : ∀ c, c < 256 → ¬ (48 ≤ c ∧ c ≤ 57) → ¬ (97 ≤ low c ∧ low c ≤ 102) → hexv c = none := by decide +kernel
theorem low_95 : low 95 = 127 := by decide
theorem hexv_lt : ∀ c, c < 256 → ∀ d, hexv c = some d → d ≤ 15 := by
  intro c _ d h
  unfold hexv at h
  split at h
  · simp at h; omega
  · split at h
    · simp at h; omega
    · split at h
      · simp at h; omega
      · cases h

theorem lower_is (c l : Int) (h : bits .or .u8 c 32 = l) (w : World) : Calls Tryd.prog 47 #[.int .u8 c] w fun e w' => e = .returned (.int .u8 l) ∧ w' = w := by
  rw [← h]
  exact AnyPu.internal_strconv_lower { Tryd.laysPu14 with } c w

set_option maxHeartbeats 32000000 in
set_option maxRecDepth 100000 in
/-- internal/strconv.ParseUint(s, 16, 8), at one or two bytes. -/
theorem parseUint16_in (t : ByteArray) (hne : t.size ≠ 0) (hmax : t.size ≤ 2) (w : World) :
    Calls Tryd.prog 42 #[.string t, .int .i64 16, .int .i64 8] w fun e w' => e = .returned (hexRes (hexM 0 t.data.toList)) ∧ w' = Lib.bytesWorld w 5 t := by
  have hemp : t.toList.isEmpty = false := by
    rw [← decide_eq_emptyBytes]
    exact decide_eq_false (fun h => hne (by rw [h]; rfl))
  have hcv := Lib.run_convert_string_bytes (P := Tryd.prog) w 9 58 5 t (u := .string) Tryd.underlying9 Tryd.underlying58 Tryd.underlying5
  have hB : ∀ j, j < t.size → (Lib.bytesWorld w 5 t).cell? ⟨w.heap.size, j, none⟩ = some (.int .u8 (t.data.toList.getD j 0).toNat) := fun j hj => Lib.bytesWorld_cell w 5 t j hj
  obtain ⟨W1, hW1⟩ : ∃ W1, W1 = Lib.bytesWorld w 5 t := ⟨_, rfl⟩
  rw [← hW1] at hcv hB ⊢
  clear hW1
  obtain ⟨bs, hL⟩ : ∃ bs, bs = t.data.toList := ⟨_, rfl⟩
  have hLn : bs.length = t.size := by rw [hL, Lib.size_eq]
  rw [← hL] at hB ⊢
  clear hL
  have hmv : IntKind.u64.wrap (IntKind.u64.wrap 256 - 1) = 255 := by
    rw [IntKind.wrap_u64, IntKind.wrap_u64]
    decide
  go_enter Tryd.func42, Tryd.ntmps42
  go_wp2
  go_loop [12, 13, 101] (fun vu vn vi => ∃ (k acc : Nat) (a : Int), vu = .bool false ∧ vn = .int .u64 a ∧ vi = .int .i64 k ∧ k ≤ t.size ∧ Hid (a = (acc : Int) ∧ acc ≤ 255 ∧ (k = 0 → acc = 0) ∧ (k = 1 → acc ≤ 15) ∧ hexM 0 bs = hexM acc (bs.drop k)))
    (fun _ _ vi => t.size - (intOf vi).toNat)
  case atStart => exact ⟨0, 0, 0, rfl, rfl, rfl, by omega, rfl, by omega, fun _ => rfl, by omega, rfl⟩
  case round =>
    obtain ⟨k, acc, a, rfl, rfl, rfl, hk, hh⟩ := hrel
    obtain ⟨ha, hacc, hz0, hz1, hdec⟩ := hh.out
    clear hh
    have a0 : 0 ≤ a := by omega
    have a1 : a ≤ 255 := by omega
    by_cases hkn : k < t.size
    · have hc := hB k hkn
      have hdrop : bs.drop k = bs[k]'(by omega) :: bs.drop (k + 1) := List.drop_eq_getElem_cons (by omega)
      have hget : bs.getD k 0 = bs[k]'(by omega) := by simp [List.getD, List.getElem?_eq_getElem (show k < bs.length by omega)]
      rw [hdrop] at hdec
      rw [hget] at hc
      generalize bs[k]'(by omega) = c at hc hdec
      have hc256 : c.toNat < 256 := c.toNat_lt
      have hacc15 : acc ≤ 15 := by
        rcases k with _ | _ | k
        · rw [hz0 rfl]; omega
        · exact hz1 rfl
        · omega
      have hk1 : k + 1 = 1 → acc = 0 := fun h => hz0 (by omega)
      clear hB hdrop hget hz0 hz1
      by_cases hdig : 48 ≤ c.toNat ∧ c.toNat ≤ 57
      · obtain ⟨hd0, hd1⟩ := hdig
        have hF : hexM acc (c :: bs.drop (k + 1)) = hexM (acc * 16 + (c.toNat - 48)) (bs.drop (k + 1)) := by simp [hexM, hexv, hd0, hd1]
        have HN : Hid (a * 16 + ((c.toNat : Int) - 48) = ((acc * 16 + (c.toNat - 48) : Nat) : Int) ∧ acc * 16 + (c.toNat - 48) ≤ 255 ∧ (k + 1 = 0 → acc * 16 + (c.toNat - 48) = 0) ∧ (k + 1 = 1 → acc * 16 + (c.toNat - 48) ≤ 15) ∧ hexM 0 bs = hexM (acc * 16 + (c.toNat - 48)) (bs.drop (k + 1))) := Lib.hid ⟨by omega, by omega, by omega, fun h => by have := hk1 h; omega, hdec.trans hF⟩
        have iov : a * 16 + ((c.toNat : Int) - 48) ≤ 255 := by omega
        have a15 : a ≤ 15 := by omega
        clear hacc hF hdec ha hacc15 hk1
        go_wp2
        refine ⟨⟨k + 1, acc * 16 + (c.toNat - 48), a * 16 + ((c.toNat : Int) - 48), rfl, (by first | rfl | (congr 1; omega)), (by first | rfl | (congr 1; omega)), by omega, HN⟩, by simp [intOf]; omega⟩
      · have hlow := low_eq c.toNat hc256
        by_cases hlet : 97 ≤ low c.toNat ∧ low c.toNat ≤ 102
        · have hv := hexv_hi c.toNat hc256 hdig hlet.1 hlet.2
          have hF : hexM acc (c :: bs.drop (k + 1)) = hexM (acc * 16 + (low c.toNat - 87)) (bs.drop (k + 1)) := by simp [hexM, hv]
          have hn95 : ¬ ((c.toNat : Int) = 95) := fun h => by
            have : c.toNat = 95 := by omega
            rw [this, low_95] at hlet
            omega
          obtain ⟨l, hl⟩ : ∃ l, l = low c.toNat := ⟨_, rfl⟩
          rw [← hl] at hlow hlet hF
          obtain ⟨hl0, hl1⟩ := hlet
          have HN : Hid (a * 16 + ((l : Int) - 97 + 10) = ((acc * 16 + (l - 87) : Nat) : Int) ∧ acc * 16 + (l - 87) ≤ 255 ∧ (k + 1 = 0 → acc * 16 + (l - 87) = 0) ∧ (k + 1 = 1 → acc * 16 + (l - 87) ≤ 15) ∧ hexM 0 bs = hexM (acc * 16 + (l - 87)) (bs.drop (k + 1))) := Lib.hid ⟨by omega, by omega, by omega, fun h => by have := hk1 h; omega, hdec.trans hF⟩
          have iov : a * 16 + ((l : Int) - 97 + 10) ≤ 255 := by omega
          have a15 : a ≤ 15 := by omega
          clear hacc hF hdec ha hacc15 hk1 hv hl
          go_wp2_with (go_at_call 47; refine (lower_is _ _ hlow _).mono ?_; rintro e w' ⟨rfl, rfl⟩)
          all_goals refine ⟨⟨k + 1, acc * 16 + (l - 87), a * 16 + ((l : Int) - 97 + 10), rfl, (by first | rfl | (congr 1; omega)), (by first | rfl | (congr 1; omega)), by omega, HN⟩, by simp [intOf]; omega⟩
        · have hv := hexv_no c.toNat hc256 hdig hlet
          have hF : hexM acc (c :: bs.drop (k + 1)) = none := by simp [hexM, hv]
          rw [hF] at hdec
          have hlt : low c.toNat < 256 + 32 := by unfold low; split <;> omega
          have hlt2 : (low c.toNat : Int) ≤ 255 := by rw [← hlow]; exact bits_hi_u8 .or (c.toNat : Int) 32
          have h95 := low_eq 95 (by decide)
          rw [low_95] at h95
          clear hacc hF ha hv hacc15 hk1
          by_cases h95' : c.toNat = 95
          · rw [h95'] at hc hlow hlet
            clear hdig hc256 h95' hlt hlt2
            go_wp2_with (go_at_call 47; refine (lower_is _ _ h95 _).mono ?_; rintro e w' ⟨rfl, rfl⟩)
            all_goals go_ret2
            all_goals first | exact ⟨rfl, rfl⟩ | exact ⟨by rw [hdec]; rfl, rfl⟩
          · have hn95 : ¬ ((c.toNat : Int) = 95) := by omega
            have hl0 : (0 : Int) ≤ (low c.toNat : Int) := Int.natCast_nonneg _
            generalize low c.toNat = l at hlow hlet hlt2 hlt hl0
            go_wp2_with (go_at_call 47; refine (lower_is _ _ hlow _).mono ?_; rintro e w' ⟨rfl, rfl⟩)
            all_goals go_ret2
            all_goals first | exact ⟨rfl, rfl⟩ | exact ⟨by rw [hdec]; rfl, rfl⟩
    · have hkk : k = t.size := by omega
      subst hkk
      have hF : hexM acc (bs.drop t.size) = some acc := by rw [List.drop_eq_nil_of_le (by omega)]; rfl
      rw [hF] at hdec
      subst ha
      clear hacc hF a0 a1 hz0 hz1
      go_wp2
      go_ret2
      first | exact ⟨rfl, rfl⟩ | exact ⟨by rw [hdec]; rfl, rfl⟩
end Go.Proofs.YtipmfcbpkbkceaaDoor
