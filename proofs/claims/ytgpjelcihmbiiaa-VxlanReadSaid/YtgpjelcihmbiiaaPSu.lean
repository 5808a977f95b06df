/- The checksum of a header that holds its checksum; what a changed octet does to it; whatever Read answers. No condition. -/
import Derived.Test.YtgpjelcihmbiiaaPLv
namespace Go.Proofs.Ytgpjelcihmbiiaa
open Go.RowKit
set_option linter.unusedVariables false
set_option linter.unusedSimpArgs false
set_option maxRecDepth 100000

/-- The sum of the first n numbers. -/
def tot (xs : List Int) : Nat → Int
  | 0 => 0
  | n + 1 => tot xs n + wd xs n
theorem accS_mod (xs : List Int) : ∀ n, (accS xs (List.range n)) % 65535 = (tot xs n) % 65535
  | 0 => rfl
  | n + 1 => by
    rw [List.range_succ, accS_snoc]
    have := accS_mod xs n
    show stepS _ _ % 65535 = (tot xs n + wd xs n) % 65535
    unfold stepS
    omega
theorem accS_pos {xs : List Int} (h : Oct xs) (h0 : 0 < wd xs 0) : ∀ n, 0 < n → 0 < accS xs (List.range n)
  | 0, h => by omega
  | n + 1, _ => by
    rw [List.range_succ, accS_snoc]
    have h1 := accS_lt h (List.range n)
    have h2 := wd_lt h n
    unfold stepS
    rcases Nat.eq_zero_or_pos n with rfl | hn
    · have : accS xs (List.range 0) = 0 := rfl
      omega
    · have := accS_pos h h0 n hn
      omega
theorem sumI_zero {xs : List Int} (h : Oct xs) (hl : xs.length = 20) : sumI xs = 0 → (tot xs 10) % 65535 = 0 := fun hs => by
  have h1 := accS_mod xs 10
  unfold sumI at hs
  rw [hl] at hs
  rw [show (20 + 1) / 2 = 10 from rfl] at hs
  omega
theorem hdB_split (f : FL) : ∃ P Q : List Int, P.length = 10 ∧ Q.length = 8 ∧ ∀ c, f.hdB c = P ++ (enc 2 c.toNat ++ Q) :=
  ⟨enc 2 17664 ++ (enc 2 f.size ++ (enc 4 0 ++ (enc 1 f.tt.toNat ++ enc 1 f.pr.toNat))), enc 4 f.hs.toNat ++ enc 4 f.hd.toNat, by simp [enc_length], by simp [enc_length], fun c => by simp [FL.hdB, List.append_assoc]⟩
theorem getD_left {a : List Int} (l : List Int) {i : Nat} (h : i < a.length) : (a ++ l).getD i 0 = a.getD i 0 := by
  simp [List.getD_eq_getElem?_getD, List.getElem?_append_left h]
theorem enc2_wd (c : Int) (h0 : 0 ≤ c) (h1 : c < 65536) : ((c.toNat / 256 % 256 : Nat) : Int) * 256 + ((c.toNat % 256 : Nat) : Int) = c := by omega
theorem tot_hd (f : FL) (c : Int) (h0 : 0 ≤ c) (h1 : c < 65536) : tot (f.hdB c) 10 = tot (f.hdB 0) 10 + c := by
  obtain ⟨P, Q, hP, hQ, hs⟩ := hdB_split f
  rw [hs c, hs 0]
  have L : ∀ (R S : List Int) i, i < 5 → wd (P ++ R) i = wd (P ++ S) i := fun R S i hi => by
    unfold wd
    rw [getD_left R (by omega), getD_left S (by omega), getD_left R (by omega), getD_left S (by omega)]
  have Rr : ∀ (c : Int) i, wd (P ++ (enc 2 c.toNat ++ Q)) (6 + i) = wd Q i := fun c i => by
    unfold wd
    rw [show 2 * (6 + i) = 10 + (2 + 2 * i) by omega, show 10 + (2 + 2 * i) + 1 = 10 + (2 + (2 * i + 1)) by omega, getD_skip hP, getD_skip hP, getD_skip (enc_length 2 _), getD_skip (enc_length 2 _)]
  have M : ∀ c : Int, 0 ≤ c → c < 65536 → wd (P ++ (enc 2 c.toNat ++ Q)) 5 = c := fun c q0 q1 => by
    unfold wd
    rw [show 2 * 5 = 10 + 0 from rfl, show 10 + 0 + 1 = 10 + 1 from rfl, getD_skip hP, getD_skip hP]
    have e1 : (enc 2 c.toNat ++ Q).getD 0 0 = ((c.toNat / 256 % 256 : Nat) : Int) := by simp [enc]
    have e2 : (enc 2 c.toNat ++ Q).getD 1 0 = ((c.toNat % 256 : Nat) : Int) := by simp [enc]
    rw [e1, e2]
    exact enc2_wd c q0 q1
  simp only [tot]
  have l0 := L (enc 2 c.toNat ++ Q) (enc 2 (0 : Int).toNat ++ Q) 0 (by decide)
  have l1 := L (enc 2 c.toNat ++ Q) (enc 2 (0 : Int).toNat ++ Q) 1 (by decide)
  have l2 := L (enc 2 c.toNat ++ Q) (enc 2 (0 : Int).toNat ++ Q) 2 (by decide)
  have l3 := L (enc 2 c.toNat ++ Q) (enc 2 (0 : Int).toNat ++ Q) 3 (by decide)
  have l4 := L (enc 2 c.toNat ++ Q) (enc 2 (0 : Int).toNat ++ Q) 4 (by decide)
  have r6 := (Rr c 0).trans (Rr 0 0).symm
  have r7 := (Rr c 1).trans (Rr 0 1).symm
  have r8 := (Rr c 2).trans (Rr 0 2).symm
  have r9 := (Rr c 3).trans (Rr 0 3).symm
  have m1 := M c h0 h1
  have m2 := M 0 (by decide) (by decide)
  simp only [Nat.add_zero, Nat.reduceAdd] at r6 r7 r8 r9
  omega
/-- The checksum of a header with its checksum is 0. -/
theorem sum_full (f : FL) : sumI (f.hdB (sumI (f.hdB 0))) = 0 := by
  have h0 := sumI_lt (hdB_oct f 0)
  have ht := tot_hd f (sumI (f.hdB 0)) h0.1 h0.2
  have hl := hdB_length f 0
  have hl2 := hdB_length f (sumI (f.hdB 0))
  have e0 : sumI (f.hdB 0) = 65535 - accS (f.hdB 0) (List.range 10) := by
    unfold sumI
    rw [hl]
  have m0 := accS_mod (f.hdB 0) 10
  have m1 := accS_mod (f.hdB (sumI (f.hdB 0))) 10
  have b1 := accS_lt (hdB_oct f (sumI (f.hdB 0))) (List.range 10)
  have p1 : 0 < accS (f.hdB (sumI (f.hdB 0))) (List.range 10) := by
    refine accS_pos (hdB_oct f _) ?_ 10 (by decide)
    have : wd (f.hdB (sumI (f.hdB 0))) 0 = 17664 := by
      unfold wd FL.hdB
      rw [getD_left _ (by simp [enc_length]), getD_left _ (by simp [enc_length])]
      decide
    omega
  have e1 : sumI (f.hdB (sumI (f.hdB 0))) = 65535 - accS (f.hdB (sumI (f.hdB 0))) (List.range 10) := by
    rw [show sumI (f.hdB (sumI (f.hdB 0))) = 65535 - accS (f.hdB (sumI (f.hdB 0))) (List.range (((f.hdB (sumI (f.hdB 0))).length + 1) / 2)) from rfl, hl2]
  omega
theorem getD_set (xs : List Int) (p i : Nat) (v : Int) (h : p < xs.length) : (xs.set p v).getD i 0 = if p = i then v else xs.getD i 0 := by
  simp only [List.getD_eq_getElem?_getD, List.getElem?_set]
  by_cases e : p = i
  · subst e
    simp [h]
  · simp [e]
theorem tot_set (xs : List Int) (p : Nat) (v : Int) (h : p < xs.length) : ∀ n, tot (xs.set p v) n = tot xs n + if p < 2 * n then (v - xs.getD p 0) * (if p % 2 = 0 then 256 else 1) else 0
  | 0 => by simp [tot]
  | n + 1 => by
    show tot (xs.set p v) n + wd (xs.set p v) n = tot xs n + wd xs n + _
    rw [tot_set xs p v h n]
    unfold wd
    rw [getD_set xs p _ v h, getD_set xs p _ v h]
    by_cases h1 : p < 2 * n
    · have e1 : ¬ p = 2 * n := by omega
      have e2 : ¬ p = 2 * n + 1 := by omega
      have e3 : p < 2 * (n + 1) := by omega
      simp only [if_pos h1, if_neg e1, if_neg e2, if_pos e3]
      omega
    · by_cases h2 : p = 2 * n
      · have e2 : ¬ p = 2 * n + 1 := by omega
        have e3 : p < 2 * (n + 1) := by omega
        have e4 : p % 2 = 0 := by omega
        simp only [if_neg h1, if_pos h2, if_neg e2, if_pos e3, if_pos e4]
        rw [h2]
        omega
      · by_cases h3 : p = 2 * n + 1
        · have e3 : p < 2 * (n + 1) := by omega
          have e4 : ¬ p % 2 = 0 := by omega
          simp only [if_neg h1, if_neg h2, if_pos h3, if_pos e3, if_neg e4]
          rw [h3]
          omega
        · have e3 : ¬ p < 2 * (n + 1) := by omega
          simp only [if_neg h1, if_neg h2, if_neg h3, if_neg e3]
          omega
/-- Two headers that hold their checksums do not differ in one octet alone. -/
theorem one_octet (f g : FL) (p : Nat) (v : Int) (hp : p < 20) (hv : 0 ≤ v ∧ v < 256) (h : g.hdB (sumI (g.hdB 0)) = (f.hdB (sumI (f.hdB 0))).set p v) : v = (f.hdB (sumI (f.hdB 0))).getD p 0 := by
  have s1 := sumI_zero (hdB_oct f _) (hdB_length f _) (sum_full f)
  have s2 := sumI_zero (hdB_oct g _) (hdB_length g _) (sum_full g)
  rw [h, tot_set _ p v (by rw [hdB_length]; exact hp), if_pos (by omega)] at s2
  have ho := (hdB_oct f (sumI (f.hdB 0))).getD p
  generalize (f.hdB (sumI (f.hdB 0))).getD p 0 = u at *
  split at s2 <;> omega
/-- Whatever Read answers. -/
theorem read_any (xs : List Int) (ho : Oct xs) (hl : xs.length ≤ 1099511627776) (v : Value) (w : World) (hv : Seg w v xs) :
    Calls Try.prog 17 #[v] w fun r w' => (∃ (f : FL) (e a : Int), r = .returned (.tuple #[f.v, .agg (flt e a).toArray]) ∧ ((e ≠ 0 ∧ f = F0 ∧ 0 ≤ a ∧ a ≤ xs.length) ∨ (e = 0 ∧ a = 0 ∧ f.Ok ∧ f.chk = 0 ∧ f.enc = xs ∧ f.k = kdOf (tyAt xs)))) ∧ Below w.heap.size w w' := by
  by_cases h14 : xs.length < 14
  · exact (read_short xs ho hl h14 v w hv).mono fun r w' h => ⟨⟨F0, 4, _, h.1, .inl ⟨by decide, rfl, by omega, by omega⟩⟩, h.2⟩
  have h14' : 14 ≤ xs.length := by omega
  cases hk : knOf (tyAt xs)
  · exact (read_type xs ho hl h14' hk v w hv).mono fun r w' h => ⟨⟨F0, 6, _, h.1, .inl ⟨by decide, rfl, by omega, by omega⟩⟩, h.2⟩
  rcases Int.lt_trichotomy (xs.length : Int) (szOf (kdOf (tyAt xs)) xs) with hz | hz | hz
  · exact (read_less xs ho hl h14' hk hz v w hv).mono fun r w' h => ⟨⟨F0, 4, _, h.1, .inl ⟨by decide, rfl, by omega, by omega⟩⟩, h.2⟩
  · by_cases hc : FL.chk (decF (kdOf (tyAt xs)) (R0 xs)) = 0
    · by_cases he : FL.enc (decF (kdOf (tyAt xs)) (R0 xs)) = xs
      · refine (read_ok xs ho hl h14' hk hz hc he v w hv).mono fun r w' h => ⟨⟨_, 0, 0, h.1, .inr ⟨rfl, rfl, decF_ok ho, hc, he, ?_⟩⟩, h.2⟩
        unfold decF kdOf
        repeat' split
        all_goals first | rfl | omega
      · exact (read_bad2 xs ho hl h14' hk hz hc he v w hv).mono fun r w' h => ⟨⟨F0, 3, 0, h.1, .inl ⟨by decide, rfl, by omega, by omega⟩⟩, h.2⟩
    · exact (read_bad1 xs ho hl h14' hk hz hc v w hv).mono fun r w' h => ⟨⟨F0, 3, 0, h.1, .inl ⟨by decide, rfl, by omega, by omega⟩⟩, h.2⟩
  · refine (read_more xs ho hl h14' hk hz v w hv).mono fun r w' h => ⟨⟨F0, 5, _, h.1, .inl ⟨by decide, rfl, ?_, by omega⟩⟩, h.2⟩
    unfold szOf
    repeat' split
    all_goals decide
end Go.Proofs.Ytgpjelcihmbiiaa
