/- What is encoded is read back; what is read is in range. No condition. -/
import Derived.Test.YtgpjelcihmbiiaaVRb
namespace Go.Proofs.Ytgpjelcihmbiiaa
open Go.RowKit
set_option linter.unusedVariables false
set_option linter.unusedSimpArgs false
set_option maxRecDepth 100000

theorem tk_at {xs B : List Int} {n k : Nat} {x : Int} (h : xs.drop n = enc k x.toNat ++ B) (h0 : 0 ≤ x) (h1 : x < 256 ^ k) : tk xs n k = x := by
  unfold tk
  rw [h, List.take_left' (enc_length _ _), be_enc _ _ (by
    have : (x.toNat : Int) < ((256 ^ k : Nat) : Int) := by rw [Int.toNat_of_nonneg h0]; simpa using h1
    exact Int.ofNat_lt.1 this)]
  omega
theorem drop_at {xs A B : List Int} {n m : Nat} (h : xs.drop n = A ++ B) (hA : A.length = m) : xs.drop (n + m) = B := by
  rw [← List.drop_drop, h, ← hA, List.drop_left]
theorem rd_of_enc {f : FL} (hf : f.Ok) (hc : f.chk = 0) : rdF f.enc = f ∧ rdX f.enc = 0 ∧ rdA f.enc = 0 := by
  obtain ⟨d1, d2, d3, d4, d5⟩ := dec_enc hf hc
  have hF : Fram f.enc := ⟨d4, d1, by rw [d2]; exact d3, by rw [d2, d5]; exact hc, by rw [d2, d5]⟩
  have hz : (f.enc.length : Int) = szOf (kdOf (tyAt f.enc)) f.enc := hF.2.2.1
  refine ⟨by unfold rdF; rw [if_pos hF, d2, d5], ?_, ?_⟩
  · unfold rdX
    rw [if_neg (by omega), if_neg (by simp [d1]), if_neg (by omega), if_neg (by omega), if_pos hF]
  · unfold rdA
    rw [if_neg (by omega), if_neg (by simp [d1]), if_neg (by omega), if_neg (by omega)]
theorem sumI_of (n tt pr hs hd : Int) : 0 ≤ sumI (rh n tt pr hs hd 0) ∧ sumI (rh n tt pr hs hd 0) < 65536 := sumI_lt (rh_oct _ _ _ _ _ _)
/-- What is read of an encoding. -/
theorem pack_enc {p : PL} (hp : p.Ok) (hc : p.chk = 0) : Pack p.enc ∧ vP p.enc = p := by
  obtain ⟨hh, hfc⟩ := pchk_zero hc
  have hb := hd_true hh
  have hle := enc_short hp.f hfc
  obtain ⟨r1, r2, r3⟩ := rd_of_enc hp.f hfc
  have q1 := hp.src; have q2 := hp.dst; have q3 := hp.vni; have q4 := hp.mark
  have hlen := penc_length p
  have e0 : p.enc.drop 0 = enc 2 17664 ++ (enc 2 ((p.f.enc.length + 36 : Nat) : Int).toNat ++ (enc 4 0 ++ (enc 1 p.ttl.toNat ++ (enc 1 (17 : Int).toNat ++ (enc 2 (sumI (rh (p.f.enc.length + 36 : Nat) p.ttl 17 p.src p.dst 0)).toNat ++ (enc 4 p.src.toNat ++ (enc 4 p.dst.toNat ++ (enc 2 p.ent.toNat ++ (enc 2 (4789 : Int).toNat ++ (enc 2 (p.f.enc.length + 16) ++ (enc 2 0 ++ (enc 1 8 ++ (enc 3 p.mark.toNat ++ (enc 3 p.vni.toNat ++ (enc 1 0 ++ p.f.enc))))))))))))))) := by
    show p.enc = _
    unfold PL.enc PL.hdr udB vxB
    generalize hS : sumI (rh (p.f.enc.length + 36 : Nat) p.ttl 17 p.src p.dst 0) = S
    unfold rh
    simp only [List.append_assoc]
    rfl
  have e2 := drop_at e0 (m := 2) (enc_length _ _)
  have e4 := drop_at e2 (m := 2) (enc_length _ _)
  have e8 := drop_at e4 (m := 4) (enc_length _ _)
  have e9 := drop_at e8 (m := 1) (enc_length _ _)
  have e10 := drop_at e9 (m := 1) (enc_length _ _)
  have e12 := drop_at e10 (m := 2) (enc_length _ _)
  have e16 := drop_at e12 (m := 4) (enc_length _ _)
  have e20 := drop_at e16 (m := 4) (enc_length _ _)
  have e22 := drop_at e20 (m := 2) (enc_length _ _)
  have e24 := drop_at e22 (m := 2) (enc_length _ _)
  have e26 := drop_at e24 (m := 2) (enc_length _ _)
  have e28 := drop_at e26 (m := 2) (enc_length _ _)
  have e29 := drop_at e28 (m := 1) (enc_length _ _)
  have e32 := drop_at e29 (m := 3) (enc_length _ _)
  have e35 := drop_at e32 (m := 3) (enc_length _ _)
  have e36 : p.enc.drop 36 = p.f.enc := drop_at e35 (m := 1) (enc_length _ _)
  have t8 := tk_at e8 hb.1 (by omega)
  have t9 : tk p.enc 9 1 = 17 := tk_at e9 (by decide) (by decide)
  have t12 := tk_at e12 q1.1 (by omega)
  have t16 := tk_at e16 q2.1 (by omega)
  have t20 := tk_at e20 hb.2.2.1 (by omega)
  have t22 : tk p.enc 22 2 = 4789 := tk_at e22 (by decide) (by decide)
  have t29 := tk_at e29 q4.1 (by omega)
  have t32 := tk_at e32 q3.1 (by omega)
  have ho := penc_oct p
  have h9 : p.enc.getD 9 0 = 17 := by rw [← tk_one ho 9 (by omega)]; exact t9
  have hpn : pn p.enc = 4789 := by unfold pn; rw [← tk_two ho 22 (by omega)]; exact t22
  have hE : hfE p.enc = 0 := by
    unfold hfE
    rw [if_neg (by omega), if_neg (by simp only [h9, ne_eq, not_true_eq_false, not_false_eq_true]), if_neg (by simp only [hpn, ne_eq, not_true_eq_false, not_false_eq_true])]
  have hv : vP p.enc = p := by
    unfold vP
    rw [e36, r1, t8, t12, t16, t20, t29, t32]
  exact ⟨⟨hE, by rw [e36]; exact r2, by rw [hv]; exact hc, by rw [hv]⟩, hv⟩
theorem vread_enc {p : PL} (hp : p.Ok) (hc : p.chk = 0) : vQ p.enc = p ∧ vE p.enc = 0 ∧ vA p.enc = 0 := by
  obtain ⟨h, hv⟩ := pack_enc hp hc
  obtain ⟨h1, h2, h3, h4⟩ := id h
  refine ⟨by unfold vQ; rw [if_pos h, hv], ?_, ?_⟩
  · unfold vE
    rw [if_neg (by simpa using h1), if_neg (by simpa using h2), if_pos h]
  · unfold vA
    rw [if_neg (by simpa using h1), if_neg (by simpa using h2)]
theorem rdA_len (xs : List Int) : 0 ≤ rdA xs ∧ rdA xs ≤ xs.length := by
  have h0 := (rdA_le xs).1
  refine ⟨h0, ?_⟩
  unfold rdA
  split
  · omega
  · split
    · omega
    · split
      · omega
      · split <;> omega
/-- What is rejected. -/
theorem vread_bad {xs : List Int} (h : ¬ Pack xs) : vQ xs = P0 ∧ vE xs ≠ 0 ∧ 0 ≤ vA xs ∧ vA xs ≤ xs.length := by
  have hq : vQ xs = P0 := by unfold vQ; rw [if_neg h]
  by_cases h1 : hfE xs = 0
  · obtain ⟨h36, -⟩ := hfE_zero h1
    have ha := rdA_len (xs.drop 36)
    rw [List.length_drop] at ha
    by_cases h2 : rdX (xs.drop 36) = 0
    · refine ⟨hq, ?_, ?_⟩
      · unfold vE
        rw [if_neg (by simpa using h1), if_neg (by simpa using h2), if_neg h]
        decide
      · unfold vA
        rw [if_neg (by simpa using h1), if_neg (by simpa using h2)]
        omega
    · refine ⟨hq, ?_, ?_⟩
      · unfold vE
        rw [if_neg (by simpa using h1), if_pos h2]
        exact h2
      · unfold vA fA
        rw [if_neg (by simpa using h1), if_pos h2, if_neg h2]
        omega
  · refine ⟨hq, ?_, ?_⟩
    · unfold vE
      rw [if_pos h1]
      exact h1
    · unfold vA hfA
      rw [if_pos h1]
      split
      · omega
      · split
        · omega
        · split <;> omega
theorem pack_short {xs : List Int} (h : Pack xs) : vE xs = 0 ∧ vA xs = 0 ∧ vQ xs = vP xs := by
  obtain ⟨h1, h2, -⟩ := id h
  refine ⟨?_, ?_, by unfold vQ; rw [if_pos h]⟩
  · unfold vE
    rw [if_neg (by simpa using h1), if_neg (by simpa using h2), if_pos h]
  · unfold vA
    rw [if_neg (by simpa using h1), if_neg (by simpa using h2)]
end Go.Proofs.Ytgpjelcihmbiiaa
