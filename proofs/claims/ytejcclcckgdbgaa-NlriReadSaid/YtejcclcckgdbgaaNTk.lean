/- The reference of layer 4: numbers that are read at offsets. No condition. -/
import Derived.Test.YtejcclcckgdbgaaNMc
import Derived.LoopTactic
namespace Go.Proofs.Ytejcclcckgdbgaa
open Go.RowKit Go.Sort
set_option linter.unusedVariables false
set_option linter.unusedSimpArgs false
set_option maxRecDepth 100000

/-- A reader of these octets at an offset. -/
def RA (xs : List Int) (a : Nat) : RS := ⟨0, a, xs, 0, 0⟩
/-- The number of k octets at an offset, or 0. -/
def tk (xs : List Int) (a k : Nat) : Nat := be ((RA xs a).part k)
theorem At.mv {xs : List Int} {a k : Nat} {p b : List Int} (h : At (RA xs a) (p ++ b)) (hk : p.length = k) : At (RA xs (a + k)) b := by
  have h1 := h.next k (by omega)
  have ok := h.ok k (by omega)
  have e : (RA xs a).next k = RA xs (a + k) := by
    unfold RS.next
    rw [if_pos ok]
    simp [RS.adv, RA]
  rw [e] at h1
  exact h1
theorem At.mvN {xs : List Int} {a k m : Nat} {b : List Int} (h : At (RA xs a) (enc k m ++ b)) : At (RA xs (a + k)) b := h.mv (enc_length k m)
theorem tk_lt {xs : List Int} (ho : Oct xs) (a k : Nat) : ((tk xs a k : Nat) : Int) < 256 ^ k := part_lt (R := RA xs a) ho k
theorem rtake_is (xs : List Int) (ho : Oct xs) (hl : xs.length ≤ 1000) (v : Value) (w : World) (h : Seg w v xs) (a k : Nat) (ha : a ≤ 1000) (hk : k ≤ 8) :
    Calls Try.prog 75 #[v, .int .i64 a, .int .i64 k] w fun r w' => r = .returned (.int .u64 (tk xs a k)) ∧ w' = w := by
  obtain ⟨ad, c, rfl, hc, hx⟩ := h
  by_cases hle : a + k ≤ xs.length
  · have ok : (RA xs a).ok k := ⟨rfl, by omega, by show (k : Int) ≤ (xs.length : Int) - (a : Nat); omega⟩
    have ep : (RA xs a).part k = (xs.drop a).take k := by
      unfold RS.part
      rw [if_pos ok]
      rfl
    have el := len_part xs a k hle
    have eo : Oct ((xs.drop a).take k) := (ho.drop _).take _
    unfold tk
    rw [ep]
    have hg : ∀ j, j < k → ((xs.drop a).take k).getD j 0 = xs.getD (a + j) 0 := fun j hj => getD_part xs a k j hj
    generalize (xs.drop a).take k = ps at el eo hg ⊢
    have hle' : (a : Int) + k ≤ xs.length := by omega
    clear ok ep
    go_enter Try.func75, Try.ntmps75
    go_wp2_with fail
    go_loop [7, 8] (fun va vi => ∃ (j : Nat) (m : Int), j ≤ k ∧ va = .int .u64 m ∧ vi = .int .i64 j ∧ Hid (m = (be (ps.take j) : Nat)))
      (fun _ vi => k - (intOf vi).toNat)
    case atStart => exact ⟨0, 0, by omega, rfl, rfl, rfl⟩
    case round =>
      obtain ⟨j, m, hj, rfl, rfl, hh⟩ := hrel
      by_cases hlt : j < k
      · obtain ⟨g, o, rfl, hcell⟩ := hx (a + j) (by omega)
        have hm := hh.out
        have hb := be_take_lt _ eo j (by omega)
        have hd := eo.getD j
        have m1 : m < 72057594037927936 := by
          have := Nat.pow_le_pow_right (n := 256) (by decide) (show j ≤ 7 by omega)
          have e : (256 : Nat) ^ 7 = 72057594037927936 := by decide
          omega
        have m0 : 0 ≤ m := by omega
        have hjl : (j : Int) < k := by omega
        have haj : (a : Int) + j < xs.length := by omega
        have hst := take_step ps j (by omega)
        rw [← hg j hlt] at hcell
        generalize hy : ps.getD j 0 = y at hcell hd hst
        obtain ⟨y0, y1⟩ := hd
        clear hh hx hg hb
        go_wp2
        refine ⟨⟨j + 1, m * 256 + y, hlt, by rw [← hm], rfl, ?_⟩, by simp [intOf]; omega⟩
        show m * 256 + y = _
        rw [hst, be_snoc]
        omega
      · have hm : m = (be (ps.take j) : Nat) := hh.out
        obtain rfl : j = k := by omega
        rw [List.take_of_length_le (by omega)] at hm
        clear hh hx hg
        go_wp2
        go_ret
        subst hm
        exact ⟨rfl, rfl⟩
  · have ok : ¬ (RA xs a).ok k := fun ⟨_, _, q⟩ => by
      have : (k : Int) ≤ (xs.length : Int) - (a : Nat) := q
      omega
    have ep : (RA xs a).part k = [] := if_neg ok
    unfold tk
    rw [ep, show be [] = 0 from rfl]
    have hle' : ¬ (a : Int) + k ≤ xs.length := by omega
    clear ok ep hx
    go_enter Try.func75, Try.ntmps75
    go_wp2_with fail
    go_loop [7, 8] (fun va vi => va = .int .u64 0 ∧ vi = .int .i64 0) (fun _ vi => 0)
    case atStart => exact ⟨rfl, rfl⟩
    case round =>
      obtain ⟨rfl, rfl⟩ := hrel
      by_cases h0 : 0 < k
      · have h0' : (0 : Int) < k := by omega
        go_wp2
        go_ret
        exact ⟨rfl, rfl⟩
      · have h0' : ¬ (0 : Int) < k := by omega
        go_wp2
        go_ret
        exact ⟨rfl, rfl⟩
/-- As a number of the walk. -/
theorem take_z (xs : List Int) (ho : Oct xs) (hl : xs.length ≤ 1000) (v : Value) (w : World) (h : Seg w v xs) (a k B : Int) (a0 : 0 ≤ a) (ha : a ≤ 1000) (k0 : 0 ≤ k) (hk : k ≤ 8) (hB : (256 : Int) ^ k.toNat ≤ B) :
    Calls Try.prog 75 #[v, .int .i64 a, .int .i64 k] w fun r w' => ∃ z : Int, r = .returned (.int .u64 z) ∧ Hid (z = ((tk xs a.toNat k.toNat : Nat) : Int)) ∧ 0 ≤ z ∧ z < B ∧ w' = w := by
  have := rtake_is xs ho hl v w h a.toNat k.toNat (by omega) (by omega)
  rw [Int.toNat_of_nonneg a0, Int.toNat_of_nonneg k0] at this
  exact this.mono fun r w' ⟨hr, hw⟩ => ⟨_, hr, Lib.hid rfl, by omega, Int.lt_of_lt_of_le (tk_lt ho _ _) hB, hw⟩
end Go.Proofs.Ytejcclcckgdbgaa
