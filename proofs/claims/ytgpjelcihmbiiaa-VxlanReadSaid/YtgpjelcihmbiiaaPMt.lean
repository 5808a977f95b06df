/- What is encoded is read back. No condition. -/
import Derived.Test.YtgpjelcihmbiiaaPRx
namespace Go.Proofs.Ytgpjelcihmbiiaa
open Go.RowKit
set_option linter.unusedVariables false
set_option linter.unusedSimpArgs false
set_option maxRecDepth 100000

theorem getD_skip {a : List Int} {n : Nat} (h : a.length = n) (l : List Int) (i : Nat) : (a ++ l).getD (n + i) 0 = l.getD i 0 := by
  subst h
  simp [List.getD_eq_getElem?_getD, List.getElem?_append_right]
theorem eqa_zero {f : FL} (h : f.eqa F0 = true) : f.op = 0 ∧ f.sm = 0 ∧ f.si = 0 ∧ f.tm = 0 ∧ f.ti = 0 := by
  simpa [FL.eqa, F0] using h
theorem eqh_zero {f : FL} (h : f.eqh F0 = true) : f.hs = 0 ∧ f.hd = 0 ∧ f.tt = 0 ∧ f.pr = 0 ∧ f.sp = 0 ∧ f.dp = 0 := by
  simpa [FL.eqh, F0] using h
theorem eqb_refl (f : FL) : f.eqb f = true := by simp [FL.eqb, FL.eqa, FL.eqh]
theorem eqb_iff (f g : FL) : f.eqb g = true ↔ f = g := by
  constructor
  · intro h
    obtain ⟨s, d, k, op, sm, si, tm, ti, hs, hd, tt, pr, sp, dp, x⟩ := f
    obtain ⟨s', d', k', op', sm', si', tm', ti', hs', hd', tt', pr', sp', dp', x'⟩ := g
    simp only [FL.eqb, FL.eqa, FL.eqh, Bool.and_eq_true, beq_iff_eq] at h
    obtain ⟨rfl, rfl, rfl, ⟨rfl, rfl, rfl, rfl, rfl⟩, ⟨rfl, rfl, rfl, rfl, rfl, rfl⟩, rfl⟩ := h
    rfl
  · rintro rfl
    exact eqb_refl _
theorem mid_start (f : FL) (hk : f.k = 0 ∨ f.k = 1 ∨ f.k = 2) : ∃ r, f.mid = enc 2 (if f.k = 0 then 34997 else if f.k = 1 then 2054 else 2048) ++ r := by
  unfold FL.mid
  rcases hk with h | h | h
  · rw [if_pos h, if_pos h]; exact ⟨[], (List.append_nil _).symm⟩
  · rw [if_neg (by omega), if_pos h, if_neg (by omega), if_pos h]; exact ⟨_, rfl⟩
  · rw [if_neg (by omega), if_neg (by omega), if_neg (by omega), if_neg (by omega)]; exact ⟨_, rfl⟩
theorem tyAt_enc (f : FL) (hk : f.k = 0 ∨ f.k = 1 ∨ f.k = 2) : tyAt f.enc = if f.k = 0 then 34997 else if f.k = 1 then 2054 else 2048 := by
  obtain ⟨r, hr⟩ := mid_start f hk
  unfold tyAt FL.enc
  rw [hr, show (12 : Nat) = 6 + (6 + 0) from rfl, show (13 : Nat) = 6 + (6 + 1) from rfl, getD_skip (enc_length 6 _), getD_skip (enc_length 6 _), getD_skip (enc_length 6 _), getD_skip (enc_length 6 _)]
  rcases hk with h | h | h
  · rw [if_pos h, if_pos h]; rfl
  · rw [if_neg (by omega), if_pos h, if_neg (by omega), if_pos h]; rfl
  · rw [if_neg (by omega), if_neg (by omega), if_neg (by omega), if_neg (by omega)]; rfl
theorem at_zero (xs : List Int) : At (R0 xs) xs := ⟨rfl, Nat.zero_le _, rfl⟩
theorem enc1 (x : Int) (h0 : 0 ≤ x) (h1 : x < 256) : enc 1 x.toNat = [x] := by
  have : x.toNat % 256 = x.toNat := Nat.mod_eq_of_lt (by omega)
  simp [enc, Nat.mod_mod]
  omega
/-- What is read of an encoding. -/
theorem dec_enc {f : FL} (hf : f.Ok) (hc : f.chk = 0) : knOf (tyAt f.enc) = true ∧ kdOf (tyAt f.enc) = f.k ∧ (f.enc.length : Int) = szOf f.k f.enc ∧ 14 ≤ f.enc.length ∧ decF f.k (R0 f.enc) = f := by
  obtain ⟨c1, c2, -, hk⟩ := chk_zero hc
  have hk3 : f.k = 0 ∨ f.k = 1 ∨ f.k = 2 := by rcases hk with ⟨h, -⟩ | ⟨h, -⟩ | ⟨h, -⟩ <;> omega
  have ht := tyAt_enc f hk3
  have A0 := at_zero f.enc
  have e0 : f.enc = enc 6 f.d.toNat ++ (enc 6 f.s.toNat ++ (f.mid ++ enc 8 f.x.toNat)) := rfl
  have hlen : f.enc.length = 12 + f.mid.length + 8 := by rw [e0]; simp [enc_length]; omega
  have A1 : At (R0 f.enc) (enc 6 f.d.toNat ++ (enc 6 f.s.toNat ++ (f.mid ++ enc 8 f.x.toNat))) := by rw [← e0]; exact A0
  have n1 := A1.num hf.d.1 (by have := c2; omega) 6 rfl
  have A2 := A1.skip 6 rfl
  have n2 := A2.num hf.s.1 (by have := c1; omega) 6 rfl
  have A3 := A2.skip 6 rfl
  rcases hk with ⟨h, ha, hh⟩ | ⟨h, hh, hc'⟩ | ⟨h, ha, hc'⟩
  · have hm : f.mid = enc 2 34997 := by unfold FL.mid; rw [if_pos h]
    rw [hm] at A3 hlen
    have A4 := A3.skip 2 rfl
    rw [← List.append_nil (enc 8 _)] at A4
    have n3 := A4.num hf.x.1 hf.x.2 8 rfl
    rw [h] at ht
    refine ⟨by rw [ht]; rfl, by rw [ht, h]; rfl, by rw [h, hlen]; rfl, by rw [hlen]; simp [enc_length], ?_⟩
    obtain ⟨a1, a2, a3, a4, a5⟩ := eqa_zero ha
    obtain ⟨b1, b2, b3, b4, b5, b6⟩ := eqh_zero hh
    obtain ⟨s, d, k, op, sm, si, tm, ti, hs, hd, tt, pr, sp, dp, x⟩ := f
    dsimp only at *
    subst h a1 a2 a3 a4 a5 b1 b2 b3 b4 b5 b6
    unfold decF
    rw [if_pos rfl]
    unfold decD RS.on
    rw [n1, n2, n3]
  · have hm : f.mid = f.arB := by unfold FL.mid; rw [if_neg (by omega), if_pos h]
    have ho : (f.op = 1 ∨ f.op = 2) ∧ f.sm ≤ 281474976710655 ∧ f.tm ≤ 281474976710655 := by
      unfold FL.achk at hc'
      by_cases q : ¬ (f.op = 1 ∨ f.op = 2) ∨ 281474976710655 < f.sm ∨ 281474976710655 < f.tm
      · rw [if_pos q] at hc'; cases hc'
      · omega
    rw [hm] at A3 hlen
    unfold FL.arB at A3
    simp only [List.append_assoc] at A3
    have A4 := A3.skip 2 rfl
    have A5 := A4.skip 6 rfl
    have m1 := A5.num (x := f.op) (by omega) (by omega) 2 rfl
    have A6 := A5.skip 2 rfl
    have m2 := A6.num hf.sm.1 (by omega) 6 rfl
    have A7 := A6.skip 6 rfl
    have m3 := A7.num hf.si.1 (by have := hf.si.2; omega) 4 rfl
    have A8 := A7.skip 4 rfl
    have m4 := A8.num hf.tm.1 (by omega) 6 rfl
    have A9 := A8.skip 6 rfl
    have m5 := A9.num hf.ti.1 (by have := hf.ti.2; omega) 4 rfl
    have A10 := A9.skip 4 rfl
    rw [← List.append_nil (enc 8 _)] at A10
    have n3 := A10.num hf.x.1 hf.x.2 8 rfl
    rw [h] at ht
    refine ⟨by rw [ht]; rfl, by rw [ht, h]; rfl, by rw [h, hlen, arB_length]; rfl, by rw [hlen, arB_length]; decide, ?_⟩
    obtain ⟨b1, b2, b3, b4, b5, b6⟩ := eqh_zero hh
    obtain ⟨s, d, k, op, sm, si, tm, ti, hs, hd, tt, pr, sp, dp, x⟩ := f
    dsimp only at *
    subst h b1 b2 b3 b4 b5 b6
    unfold decF
    rw [if_neg (by decide), if_pos rfl]
    unfold decA RS.on
    rw [n1, n2, n3, m1, m2, m3, m4, m5]
  · have hm : f.mid = f.ipB := by unfold FL.mid; rw [if_neg (by omega), if_neg (by omega)]
    obtain ⟨z1, z2, z3, z4, z5⟩ := hchk_zero hc'
    simp only [up, Bool.and_eq_true, decide_eq_true_eq] at z1 z2 z3 z4
    rw [hm] at A3 hlen
    unfold FL.ipB at A3
    unfold FL.hdB at A3
    simp only [List.append_assoc] at A3
    have A4 := A3.skip 2 rfl
    have A5 : At (((((R0 f.enc).next 6).next 6).next 2).next 8) _ := At.next (a := enc 2 17664 ++ (enc 2 f.size ++ enc 4 0)) (b := enc 1 f.tt.toNat ++ (enc 1 f.pr.toNat ++ (enc 2 (sumI (enc 2 17664 ++ (enc 2 f.size ++ (enc 4 0 ++ (enc 1 f.tt.toNat ++ (enc 1 f.pr.toNat ++ (enc 2 (Int.toNat 0) ++ (enc 4 f.hs.toNat ++ enc 4 f.hd.toNat)))))))).toNat ++ (enc 4 f.hs.toNat ++ (enc 4 f.hd.toNat ++ (f.ptB ++ enc 8 f.x.toNat)))))) (by simpa [List.append_assoc] using A4) 8 (by simp [enc_length])
    have m1 := A5.num (x := f.tt) (by omega) (by omega) 1 rfl
    have A6 := A5.skip 1 rfl
    have m2 := A6.num (x := f.pr) (by omega) (by omega) 1 rfl
    have A7 := A6.skip 1 rfl
    have A8 := A7.skip 2 rfl
    have m3 := A8.num hf.hs.1 (by have := hf.hs.2; omega) 4 rfl
    have A9 := A8.skip 4 rfl
    have m4 := A9.num hf.hd.1 (by have := hf.hd.2; omega) 4 rfl
    have A10 := A9.skip 4 rfl
    have hp : prR (R0 f.enc) = f.pr := by unfold prR RS.on; exact m2
    have h23 : f.enc.getD 23 0 = f.pr := by
      rw [e0, hm, show (23 : Nat) = 6 + (6 + (2 + (2 + (2 + (4 + (1 + 0)))))) from rfl, getD_skip (enc_length 6 _), getD_skip (enc_length 6 _)]
      unfold FL.ipB FL.hdB
      simp only [List.append_assoc]
      rw [getD_skip (enc_length 2 _), getD_skip (enc_length 2 _), getD_skip (enc_length 2 _), getD_skip (enc_length 4 _), getD_skip (enc_length 1 _), enc1 _ (by omega) (by omega)]
      rfl
    rw [h] at ht
    have hl2 : f.enc.length = 42 + f.ptB.length := by rw [hlen, ipB_length]; omega
    refine ⟨by rw [ht]; rfl, by rw [ht, h]; rfl, ?_, by omega, ?_⟩
    · unfold szOf
      rw [h, if_neg (by decide), if_neg (by decide), h23, hl2, ptB_length]
      cases hq : pt f.pr
      · rw [if_neg (by simp), if_neg (by simp)]; rfl
      · rw [if_pos rfl, if_pos ⟨by omega, rfl⟩]; rfl
    · unfold decF
      rw [h, if_neg (by decide), if_neg (by decide), hp]
      obtain ⟨a1, a2, a3, a4, a5⟩ := eqa_zero ha
      cases hq : pt f.pr
      · rw [if_neg (by simp)]
        obtain ⟨y1, y2⟩ := z5 hq
        have hP : f.ptB = [] := by unfold FL.ptB; rw [hq]; rfl
        rw [hP, List.nil_append, ← List.append_nil (enc 8 _)] at A10
        have n3 := A10.num hf.x.1 hf.x.2 8 rfl
        obtain ⟨s, d, k, op, sm, si, tm, ti, hs, hd, tt, pr, sp, dp, x⟩ := f
        dsimp only at *
        subst h a1 a2 a3 a4 a5 y1 y2
        unfold decN RS.on
        rw [n1, n2, n3, m1, m2, m3, m4]
      · rw [if_pos rfl]
        have hP : f.ptB = enc 2 f.sp.toNat ++ (enc 2 f.dp.toNat ++ (enc 2 16 ++ enc 2 0)) := by unfold FL.ptB; rw [hq]; rfl
        rw [hP] at A10
        simp only [List.append_assoc] at A10
        have m5 := A10.num (x := f.sp) (by omega) (by omega) 2 rfl
        have A11 := A10.skip 2 rfl
        have m6 := A11.num (x := f.dp) (by omega) (by omega) 2 rfl
        have A12 := A11.skip 2 rfl
        have A13 := At.next (a := enc 2 16 ++ enc 2 0) (b := enc 8 f.x.toNat) (by simpa [List.append_assoc] using A12) 4 (by simp [enc_length])
        rw [← List.append_nil (enc 8 _)] at A13
        have n3 := A13.num hf.x.1 hf.x.2 8 rfl
        obtain ⟨s, d, k, op, sm, si, tm, ti, hs, hd, tt, pr, sp, dp, x⟩ := f
        dsimp only at *
        subst h a1 a2 a3 a4 a5
        unfold decY RS.on
        rw [n1, n2, n3, m1, m2, m3, m4, m5, m6]
/-- Read of an encoding. -/
theorem read_enc {f : FL} (hf : f.Ok) (hc : f.chk = 0) (v : Value) (w : World) (hv : Seg w v f.enc) : Calls Try.prog 17 #[v] w fun r w' => r = .returned (.tuple #[f.v, .agg (flt 0 0).toArray]) ∧ Below w.heap.size w w' := by
  obtain ⟨d1, d2, d3, d4, d5⟩ := dec_enc hf hc
  have hl : f.enc.length ≤ 1099511627776 := by
    unfold szOf at d3
    split at d3
    · omega
    · split at d3
      · omega
      · split at d3 <;> omega
  have := read_ok f.enc (enc_octets f) hl d4 d1 (by rw [d2]; exact d3) (by rw [d2, d5]; exact hc) (by rw [d2, d5]) v w hv
  rw [d2, d5] at this
  exact this
end Go.Proofs.Ytgpjelcihmbiiaa
