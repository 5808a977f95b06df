/- The content of a community. No condition. -/
import Derived.Test.YtmajalobkcnobaaDoorCTr
namespace Go.Proofs.YtmajalobkcnobaaDoor
open Go.RowKit Go.Sort
set_option linter.unusedVariables false
set_option linter.unusedSimpArgs false
set_option maxRecDepth 100000

/-- Its bytes are octets. -/
def O8 (e : Nat → Int) : Prop := ∀ i, i < 8 → 0 ≤ e i ∧ e i < 256
/-- The number that its last six bytes spell, the first j of them. -/
def ct (e : Nat → Int) : Nat → Int
  | 0 => 0
  | j + 1 => ct e j * 256 + e (2 + j)
theorem ct_bd {e : Nat → Int} (h : O8 e) : ∀ j, j ≤ 6 → 0 ≤ ct e j ∧ ct e j < 256 ^ j := by
  intro j
  induction j with
  | zero => intro _; simp [ct]
  | succ j ih =>
    intro hj
    have h1 := ih (by omega)
    have h2 := h (2 + j) (by omega)
    simp only [ct, Int.pow_succ]
    omega
theorem ct_lt {e : Nat → Int} (h : O8 e) (j : Nat) (hj : j ≤ 6) : ct e j < 281474976710656 := by
  have h1 := (ct_bd h j hj).2
  have : (256 : Nat) ^ j ≤ 256 ^ 6 := Nat.pow_le_pow_right (by decide) hj
  have h3 : ((256 ^ j : Nat) : Int) ≤ ((256 ^ 6 : Nat) : Int) := by exact_mod_cast this
  have h4 : ((256 ^ j : Nat) : Int) = (256 : Int) ^ j := by push_cast; rfl
  have h5 : ((256 ^ 6 : Nat) : Int) = 281474976710656 := by decide
  omega
theorem mk_o8 {a b n : Int} (ha : 0 ≤ a) (ha1 : a < 256) (hb : 0 ≤ b) (hb1 : b < 256) : O8 (mk a b n) := by
  intro i hi
  rcases i with _ | _ | _ | _ | _ | _ | _ | _ | i
  all_goals first | omega | (simp only [mk]; omega)
theorem ct_mk {a b n : Int} (h0 : 0 ≤ n) (h1 : n < 281474976710656) : ct (mk a b n) 6 = n := by
  simp only [ct, mk]
  omega
theorem bx_at {w : World} {g : Nat} {e : Nat → Int} (h : Bx w g e) : ∀ i, i < 8 → w.cell? ⟨g, i, none⟩ = some (.int .u8 (e i)) := by
  intro i hi
  obtain ⟨h0, h1, h2, h3, h4, h5, h6, h7⟩ := h
  rcases i with _ | _ | _ | _ | _ | _ | _ | _ | i
  all_goals first | omega | assumption

set_option maxHeartbeats 2000000 in
theorem content_is (e : Nat → Int) (hO : O8 e) (w : World) :
    Calls Tryd.prog 70 #[.agg #[.int .u8 (e 0), .int .u8 (e 1), .int .u8 (e 2), .int .u8 (e 3), .int .u8 (e 4), .int .u8 (e 5), .int .u8 (e 6), .int .u8 (e 7)]] w fun r w' => r = .returned (.int .u64 (ct e 6)) ∧ Below w.heap.size w w' := by
  have hx := Lib.hid (bx_at (Bx.new w e 24))
  have b1 := (Below.refl w.heap.size w).alloc (Nat.le_refl _) (.cells #[.int .u8 (e 0), .int .u8 (e 1), .int .u8 (e 2), .int .u8 (e 3), .int .u8 (e 4), .int .u8 (e 5), .int .u8 (e 6), .int .u8 (e 7)] 24)
  go_enter Tryd.func70, Tryd.ntmps70
  go_wp2_with fail
  generalize (w.alloc (.cells #[.int .u8 (e 0), .int .u8 (e 1), .int .u8 (e 2), .int .u8 (e 3), .int .u8 (e 4), .int .u8 (e 5), .int .u8 (e 6), .int .u8 (e 7)] 24)) = w1 at b1 hx ⊢
  go_loop [3, 8] (fun vn vi => ∃ (j : Nat) (m : Int), j ≤ 6 ∧ vn = .int .u64 m ∧ vi = .int .i64 j ∧ Hid (m = ct e j))
    (fun _ vi => 6 - (intOf vi).toNat)
  case atStart => exact ⟨0, 0, by omega, rfl, rfl, rfl⟩
  case round =>
    obtain ⟨j, m, hj, rfl, rfl, hh⟩ := hrel
    have hm : m = ct e j := hh.out
    by_cases hlt : j < 6
    · have hcell := hx.out (2 + j) (by omega)
      obtain ⟨m0, m1⟩ : 0 ≤ m ∧ m < 281474976710656 := by rw [hm]; exact ⟨(ct_bd hO j (by omega)).1, ct_lt hO j (by omega)⟩
      obtain ⟨d0, d1⟩ := hO (2 + j) (by omega)
      have hjl : (j : Int) < 6 := by omega
      have hor : bits .or .u64 (m * 256) (e (2 + j)) = m * 256 + e (2 + j) := or_add m _ 8 m0 (by omega) d0 (by omega) (by decide)
      have HS : Hid (m * 256 + e (2 + j) = ct e (j + 1)) := Lib.hid (by rw [hm, ct])
      generalize e (2 + j) = y at hcell d0 d1 hor HS
      clear hh hm
      go_wp2
      exact ⟨⟨j + 1, m * 256 + y, by omega, rfl, by go_num, HS⟩, by simp [intOf]; omega⟩
    · obtain rfl : j = 6 := by omega
      have HM := Lib.hid hm
      clear hh hm hx
      go_wp2
      go_ret
      exact ⟨by rw [HM.out]; rfl, b1⟩

set_option maxHeartbeats 2000000 in
theorem number_is (e : Nat → Int) (hO : O8 e) (w : World) :
    Calls Tryd.prog 73 #[.agg #[.int .u8 (e 0), .int .u8 (e 1), .int .u8 (e 2), .int .u8 (e 3), .int .u8 (e 4), .int .u8 (e 5), .int .u8 (e 6), .int .u8 (e 7)]] w fun r w' => r = .returned (.int .u64 (ct e 6)) ∧ Below w.heap.size w w' := by
  have hx := Lib.hid (bx_at (Bx.new w e 24))
  have b1 := (Below.refl w.heap.size w).alloc (Nat.le_refl _) (.cells #[.int .u8 (e 0), .int .u8 (e 1), .int .u8 (e 2), .int .u8 (e 3), .int .u8 (e 4), .int .u8 (e 5), .int .u8 (e 6), .int .u8 (e 7)] 24)
  go_enter Tryd.func73, Tryd.ntmps73
  go_wp2_with fail
  generalize (w.alloc (.cells #[.int .u8 (e 0), .int .u8 (e 1), .int .u8 (e 2), .int .u8 (e 3), .int .u8 (e 4), .int .u8 (e 5), .int .u8 (e 6), .int .u8 (e 7)] 24)) = w1 at b1 hx ⊢
  go_loop [3, 4] (fun vn vi => ∃ (j : Nat) (m : Int), j ≤ 6 ∧ vn = .int .u64 m ∧ vi = .int .i64 ((2 + j : Nat) : Int) ∧ Hid (m = ct e j))
    (fun _ vi => 8 - (intOf vi).toNat)
  case atStart => exact ⟨0, 0, by omega, rfl, rfl, rfl⟩
  case round =>
    obtain ⟨j, m, hj, rfl, rfl, hh⟩ := hrel
    have hm : m = ct e j := hh.out
    by_cases hlt : j < 6
    · have hcell := hx.out (2 + j) (by omega)
      obtain ⟨m0, m1⟩ : 0 ≤ m ∧ m < 281474976710656 := by rw [hm]; exact ⟨(ct_bd hO j (by omega)).1, ct_lt hO j (by omega)⟩
      obtain ⟨d0, d1⟩ := hO (2 + j) (by omega)
      have HS : Hid (m * 256 + e (2 + j) = ct e (j + 1)) := Lib.hid (by rw [hm, ct])
      generalize e (2 + j) = y at hcell d0 d1 HS
      have hjl : ((2 + j : Nat) : Int) < 8 := by omega
      clear hh hm
      have HI : Hid (2 + j + 1 = 2 + (j + 1)) := Lib.hid (by omega)
      generalize hq : 2 + j = q at hcell hjl HI ⊢
      clear hq
      go_wp2
      exact ⟨⟨j + 1, m * 256 + y, by omega, rfl, by rw [← HI.out]; go_num, HS⟩, by simp [intOf]; omega⟩
    · obtain rfl : j = 6 := by omega
      have HM := Lib.hid hm
      clear hh hm hx
      go_wp2
      go_ret
      exact ⟨by rw [HM.out]; rfl, b1⟩
end Go.Proofs.YtmajalobkcnobaaDoor
