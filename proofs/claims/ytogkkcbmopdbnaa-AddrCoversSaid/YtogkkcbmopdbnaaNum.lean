/- Plain numbers behind prefixes: an address masked to n bits; when a prefix contains an address; when it covers another one. No condition. -/
import Derived.Test.YtogkkcbmopdbnaaAdr
import Derived.Test.YtogkkcbmopdbnaaCov
import Derived.Laws.BitsAllLaws
namespace Go.Proofs.Ytogkkcbmopdbnaa
open Go.RowKit

theorem mask_val : ∀ k, k < 33 → 4294967295 * 2 ^ k % 4294967296 = (2 ^ (32 - k) - 1) <<< k := by decide +kernel

theorem mask_lt (k : Nat) (h : k < 33) : (2 ^ (32 - k) - 1) <<< k < 4294967296 := by rw [← mask_val k h]; exact Nat.mod_lt _ (by decide)

theorem and_mask (x k : Nat) (hx : x < 4294967296) (hk : k < 33) : x &&& ((2 ^ (32 - k) - 1) <<< k) = (x >>> k) <<< k := by
  apply Nat.eq_of_testBit_eq
  intro i
  rw [Nat.testBit_and, Nat.testBit_shiftLeft, Nat.testBit_shiftLeft, Nat.testBit_shiftRight, Nat.testBit_two_pow_sub_one]
  by_cases h : k ≤ i
  · by_cases h2 : i < 32
    · have e : k + (i - k) = i := by omega
      have e2 : i - k < 32 - k := by omega
      simp [h, e, e2]
    · have : x.testBit i = false := Nat.testBit_lt_two_pow (Nat.lt_of_lt_of_le hx (by have := Nat.pow_le_pow_right (n := 2) (by decide) (show 32 ≤ i by omega); simpa using this))
      have e : k + (i - k) = i := by omega
      simp [this, e]
  · simp [h]

/-- The first n bits of an address, as a number. -/
def top (n x : Int) : Nat := x.toNat >>> (32 - n).toNat

theorem msk_nat (n : Int) (h0 : 0 ≤ n) (h1 : n ≤ 32) : msk n = (((2 ^ (32 - (32 - n).toNat) - 1) <<< (32 - n).toNat : Nat) : Int) := by
  rw [← mask_val _ (by omega)]
  simp [msk]

theorem cln_eq (n x : Int) (h0 : 0 ≤ n) (h1 : n ≤ 32) (hx : 0 ≤ x) (hx2 : x < 4294967296) : cln x n = ((top n x <<< (32 - n).toNat : Nat) : Int) := by
  unfold cln top
  rw [msk_nat n h0 h1, u32_and _ _ hx hx2 (Int.natCast_nonneg _) (by have := mask_lt (32 - n).toNat (by omega); omega), Int.toNat_natCast, and_mask _ _ (by omega) (by omega)]

theorem cln_range (n x : Int) (h0 : 0 ≤ n) (h1 : n ≤ 32) (hx : 0 ≤ x) (hx2 : x < 4294967296) : 0 ≤ cln x n ∧ cln x n < 4294967296 := by
  rw [cln_eq n x h0 h1 hx hx2]
  refine ⟨Int.natCast_nonneg _, ?_⟩
  have : top n x <<< (32 - n).toNat ≤ x.toNat := by
    unfold top
    rw [Nat.shiftLeft_eq, Nat.shiftRight_eq_div_pow]
    exact Nat.div_mul_le_self _ _
  omega

theorem top_cln (n x : Int) (h0 : 0 ≤ n) (h1 : n ≤ 32) (hx : 0 ≤ x) (hx2 : x < 4294967296) : top n (cln x n) = top n x := by
  rw [cln_eq n x h0 h1 hx hx2]
  unfold top
  rw [Int.toNat_natCast, Nat.shiftLeft_shiftRight]

theorem hit_iff (a n b : Int) (h0 : 0 ≤ n) (h1 : n ≤ 32) (ha : 0 ≤ a) (ha2 : a < 4294967296) (hb : 0 ≤ b) (hb2 : b < 4294967296) : hit a n b = decide (top n a = top n b) := by
  have hxor : a.toNat ^^^ b.toNat < 4294967296 := Nat.xor_lt_two_pow (n := 32) (by omega) (by omega)
  unfold hit
  rw [u32_xor _ _ ha ha2 hb hb2, msk_nat n h0 h1, u32_and _ _ (Int.natCast_nonneg _) (by omega) (Int.natCast_nonneg _) (by have := mask_lt (32 - n).toNat (by omega); omega), Int.toNat_natCast, Int.toNat_natCast, and_mask _ _ hxor (by omega), Nat.shiftRight_xor_distrib]
  show ((((top n a ^^^ top n b) <<< (32 - n).toNat : Nat) : Int) == 0) = _
  rw [Bool.eq_iff_iff]
  simp only [beq_iff_eq, decide_eq_true_eq]
  rw [Nat.shiftLeft_eq]
  constructor
  · intro h
    have h' : (top n a ^^^ top n b) * 2 ^ (32 - n).toNat = 0 := by omega
    rcases Nat.mul_eq_zero.1 h' with h2 | h2
    · have := congrArg (· ^^^ top n b) h2
      simpa [Nat.xor_assoc] using this
    · have := Nat.two_pow_pos (32 - n).toNat; omega
  · intro h
    rw [h]
    simp

theorem top_mono (n m x y : Int) (h0 : 0 ≤ n) (h : n ≤ m) (h1 : m ≤ 32) (hxy : top m x = top m y) : top n x = top n y := by
  have e : (32 - n).toNat = (32 - m).toNat + (m - n).toNat := by omega
  unfold top at *
  rw [e, Nat.shiftRight_add, Nat.shiftRight_add, hxy]

/-- An address. -/
def Adr (x : Int) : Prop := 0 ≤ x ∧ x < 4294967296

theorem ctn_iff {a n b : Int} (ha : Adr a) (hb : Adr b) : ctn a n b = true ↔ (0 ≤ n ∧ n ≤ 32) ∧ top n a = top n b := by
  unfold ctn vld
  constructor
  · intro h
    simp only [Bool.and_eq_true, decide_eq_true_eq] at h
    rw [hit_iff a n b h.1.1 h.1.2 ha.1 ha.2 hb.1 hb.2] at h
    exact ⟨h.1, by simpa using h.2⟩
  · rintro ⟨⟨h0, h1⟩, h⟩
    rw [hit_iff a n b h0 h1 ha.1 ha.2 hb.1 hb.2]
    simp [h0, h1, h]

theorem cvr_iff {a n b m : Int} (ha : Adr a) (hb : Adr b) : cvr a n b m = true ↔ (0 ≤ n ∧ n ≤ m ∧ m ≤ 32) ∧ top n a = top n b := by
  unfold cvr
  rw [Bool.and_eq_true, Bool.and_eq_true, ctn_iff ha hb, decide_eq_true_eq]
  simp only [vld, Bool.and_eq_true, decide_eq_true_eq]
  constructor
  · rintro ⟨⟨h1, h2⟩, h3, h4⟩
    exact ⟨⟨h3.1, h2, h1.2⟩, h4⟩
  · rintro ⟨⟨h1, h2, h3⟩, h4⟩
    exact ⟨⟨⟨by omega, h3⟩, h2⟩, ⟨h1, by omega⟩, h4⟩

theorem adr_cln {a n : Int} (ha : Adr a) (h0 : 0 ≤ n) (h1 : n ≤ 32) : Adr (cln a n) := cln_range n a h0 h1 ha.1 ha.2

theorem cvr_self {a n : Int} (ha : Adr a) : cvr a n a n = vld n := by
  rw [Bool.eq_iff_iff, cvr_iff ha ha]
  simp [vld]
theorem ctn_cvr {a n b : Int} (ha : Adr a) (hb : Adr b) : cvr a n b 32 = ctn a n b := by
  rw [Bool.eq_iff_iff, cvr_iff ha hb, ctn_iff ha hb]
  constructor
  · rintro ⟨⟨h1, h2, _⟩, h⟩; exact ⟨⟨h1, h2⟩, h⟩
  · rintro ⟨⟨h1, h2⟩, h⟩; exact ⟨⟨h1, h2, by decide⟩, h⟩
theorem cvr_trans {a n b m c l : Int} (ha : Adr a) (hb : Adr b) (hc : Adr c) (h : cvr a n b m = true) (h2 : cvr b m c l = true) : cvr a n c l = true := by
  rw [cvr_iff ha hb] at h
  rw [cvr_iff hb hc] at h2
  rw [cvr_iff ha hc]
  obtain ⟨⟨p, q, r⟩, e⟩ := h
  obtain ⟨⟨p', q', r'⟩, e'⟩ := h2
  exact ⟨⟨p, by omega, r'⟩, e.trans (top_mono n m b c p q r e')⟩
theorem cvr_ctn {a n b m c : Int} (ha : Adr a) (hb : Adr b) (hc : Adr c) (h : cvr a n b m = true) (h2 : ctn b m c = true) : ctn a n c = true := by
  rw [← ctn_cvr hb hc] at h2
  rw [← ctn_cvr ha hc]
  exact cvr_trans ha hb hc h h2
theorem cvr_invalid {a n b m : Int} (ha : Adr a) (hb : Adr b) (h : vld n = false ∨ vld m = false) : cvr a n b m = false := by
  rw [Bool.eq_false_iff]
  intro h2
  rw [cvr_iff ha hb] at h2
  obtain ⟨⟨p, q, r⟩, _⟩ := h2
  simp only [vld, Bool.and_eq_false_iff, decide_eq_false_iff_not] at h
  omega
theorem cln_inj {a b n : Int} (ha : Adr a) (hb : Adr b) (h0 : 0 ≤ n) (h1 : n ≤ 32) : cln a n = cln b n ↔ top n a = top n b := by
  rw [cln_eq n a h0 h1 ha.1 ha.2, cln_eq n b h0 h1 hb.1 hb.2]
  constructor
  · intro h
    have h' : top n a <<< (32 - n).toNat = top n b <<< (32 - n).toNat := by omega
    have := congrArg (· >>> (32 - n).toNat) h'
    simpa using this
  · intro h
    rw [h]
theorem cln_cln {a n : Int} (ha : Adr a) (h0 : 0 ≤ n) (h1 : n ≤ 32) : cln (cln a n) n = cln a n :=
  (cln_inj (adr_cln ha h0 h1) ha h0 h1).2 (top_cln n a h0 h1 ha.1 ha.2)
theorem cvr_cln {a n : Int} (ha : Adr a) (h0 : 0 ≤ n) (h1 : n ≤ 32) : cvr (cln a n) n a n = true ∧ cvr a n (cln a n) n = true := by
  rw [cvr_iff (adr_cln ha h0 h1) ha, cvr_iff ha (adr_cln ha h0 h1)]
  have e := top_cln n a h0 h1 ha.1 ha.2
  exact ⟨⟨⟨h0, Int.le_refl _, h1⟩, e⟩, ⟨h0, Int.le_refl _, h1⟩, e.symm⟩
/-- Both cover each other just where they are cleaned alike. -/
theorem both_iff {a n b m : Int} (ha : Adr a) (hb : Adr b) (h0 : 0 ≤ n) (h1 : n ≤ 32) (g0 : 0 ≤ m) (g1 : m ≤ 32) : (cvr a n b m = true ∧ cvr b m a n = true) ↔ cln a n = cln b m ∧ n = m := by
  rw [cvr_iff ha hb, cvr_iff hb ha]
  constructor
  · rintro ⟨⟨⟨_, p, _⟩, e⟩, ⟨_, q, _⟩, _⟩
    obtain rfl : n = m := by omega
    exact ⟨(cln_inj ha hb h0 h1).2 e, rfl⟩
  · rintro ⟨e, rfl⟩
    have e' := (cln_inj ha hb h0 h1).1 e
    exact ⟨⟨⟨h0, Int.le_refl _, h1⟩, e'⟩, ⟨h0, Int.le_refl _, h1⟩, e'.symm⟩
end Go.Proofs.Ytogkkcbmopdbnaa
