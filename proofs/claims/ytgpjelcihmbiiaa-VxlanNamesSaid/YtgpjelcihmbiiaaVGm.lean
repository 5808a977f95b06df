/- What a changed octet does to a packet. No condition. -/
import Derived.Test.YtgpjelcihmbiiaaVMt
import Derived.Test.YtgpjelcihmbiiaaPSu
namespace Go.Proofs.Ytgpjelcihmbiiaa
open Go.RowKit
set_option linter.unusedVariables false
set_option linter.unusedSimpArgs false
set_option maxRecDepth 100000

theorem rh_split (n tt pr hs hd : Int) : ∃ P Q : List Int, P.length = 10 ∧ Q.length = 8 ∧ ∀ c, rh n tt pr hs hd c = P ++ (enc 2 c.toNat ++ Q) :=
  ⟨enc 2 17664 ++ (enc 2 n.toNat ++ (enc 4 0 ++ (enc 1 tt.toNat ++ enc 1 pr.toNat))), enc 4 hs.toNat ++ enc 4 hd.toNat, by simp [enc_length], by simp [enc_length], fun c => by simp [rh, List.append_assoc]⟩
theorem tot_rh (n tt pr hs hd : Int) (c : Int) (h0 : 0 ≤ c) (h1 : c < 65536) : tot (rh n tt pr hs hd c) 10 = tot (rh n tt pr hs hd 0) 10 + c := by
  obtain ⟨P, Q, hP, hQ, hs⟩ := rh_split n tt pr hs hd
  rw [hs c, hs 0]
  have L : ∀ (R S : List Int) i, i < 5 → wd (P ++ R) i = wd (P ++ S) i := fun R S i hi => by
    unfold wd
    rw [getD_left R (by omega), getD_left S (by omega), getD_left R (by omega), getD_left S (by omega)]
  have Rr : ∀ (c : Int) i, wd (P ++ (enc 2 c.toNat ++ Q)) (6 + i) = wd Q i := fun c i => by
    unfold wd
    rw [show 2 * (6 + i) = 10 + (2 + 2 * i) by omega, show 10 + (2 + 2 * i) + 1 = 10 + (2 + (2 * i + 1)) by omega, getD_skip hP, getD_skip hP, getD_skip (enc_length 2 _), getD_skip (enc_length 2 _)]
  have M : ∀ c : Int, 0 ≤ c → c < 65536 → wd (P ++ (enc 2 c.toNat ++ Q)) 5 = c := fun c q0 q1 => by
    unfold wd
    rw [show 2 * 5 = 10 + 0 from rfl, show 10 + 0 + 1 = 10 + 1 from rfl, getD_skip hP, getD_skip hP]
    have e1 : (enc 2 c.toNat ++ Q).getD 0 0 = ((c.toNat / 256 % 256 : Nat) : Int) := by simp [enc]
    have e2 : (enc 2 c.toNat ++ Q).getD 1 0 = ((c.toNat % 256 : Nat) : Int) := by simp [enc]
    rw [e1, e2]
    exact enc2_wd c q0 q1
  simp only [tot]
  have l0 := L (enc 2 c.toNat ++ Q) (enc 2 (0 : Int).toNat ++ Q) 0 (by decide)
  have l1 := L (enc 2 c.toNat ++ Q) (enc 2 (0 : Int).toNat ++ Q) 1 (by decide)
  have l2 := L (enc 2 c.toNat ++ Q) (enc 2 (0 : Int).toNat ++ Q) 2 (by decide)
  have l3 := L (enc 2 c.toNat ++ Q) (enc 2 (0 : Int).toNat ++ Q) 3 (by decide)
  have l4 := L (enc 2 c.toNat ++ Q) (enc 2 (0 : Int).toNat ++ Q) 4 (by decide)
  have r6 := (Rr c 0).trans (Rr 0 0).symm
  have r7 := (Rr c 1).trans (Rr 0 1).symm
  have r8 := (Rr c 2).trans (Rr 0 2).symm
  have r9 := (Rr c 3).trans (Rr 0 3).symm
  have m1 := M c h0 h1
  have m2 := M 0 (by decide) (by decide)
  simp only [Nat.add_zero, Nat.reduceAdd] at r6 r7 r8 r9
  omega
/-- The checksum of a header with its checksum is 0. -/
theorem rsum_full (n tt pr hs hd : Int) : sumI (rh n tt pr hs hd (sumI (rh n tt pr hs hd 0))) = 0 := by
  have h0 := sumI_lt (rh_oct n tt pr hs hd 0)
  have ht := tot_rh n tt pr hs hd (sumI (rh n tt pr hs hd 0)) h0.1 h0.2
  have hl := rh_length n tt pr hs hd 0
  have hl2 := rh_length n tt pr hs hd (sumI (rh n tt pr hs hd 0))
  have e0 : sumI (rh n tt pr hs hd 0) = 65535 - accS (rh n tt pr hs hd 0) (List.range 10) := by
    unfold sumI
    rw [hl]
  have m0 := accS_mod (rh n tt pr hs hd 0) 10
  have m1 := accS_mod (rh n tt pr hs hd (sumI (rh n tt pr hs hd 0))) 10
  have b1 := accS_lt (rh_oct n tt pr hs hd (sumI (rh n tt pr hs hd 0))) (List.range 10)
  have p1 : 0 < accS (rh n tt pr hs hd (sumI (rh n tt pr hs hd 0))) (List.range 10) := by
    refine accS_pos (rh_oct n tt pr hs hd _) ?_ 10 (by decide)
    have : wd (rh n tt pr hs hd (sumI (rh n tt pr hs hd 0))) 0 = 17664 := by
      unfold wd rh
      rw [getD_left _ (by simp [enc_length]), getD_left _ (by simp [enc_length])]
      decide
    omega
  have e1 : sumI (rh n tt pr hs hd (sumI (rh n tt pr hs hd 0))) = 65535 - accS (rh n tt pr hs hd (sumI (rh n tt pr hs hd 0))) (List.range 10) := by
    rw [show sumI (rh n tt pr hs hd (sumI (rh n tt pr hs hd 0))) = 65535 - accS (rh n tt pr hs hd (sumI (rh n tt pr hs hd 0))) (List.range (((rh n tt pr hs hd (sumI (rh n tt pr hs hd 0))).length + 1) / 2)) from rfl, hl2]
  omega
/-- Two headers that hold their checksums do not differ in one octet alone. -/
theorem rone_octet (n tt pr hs hd n' tt' pr' hs' hd' : Int) (p : Nat) (v : Int) (hp : p < 20) (hv : 0 ≤ v ∧ v < 256) (h : rh n' tt' pr' hs' hd' (sumI (rh n' tt' pr' hs' hd' 0)) = (rh n tt pr hs hd (sumI (rh n tt pr hs hd 0))).set p v) : v = (rh n tt pr hs hd (sumI (rh n tt pr hs hd 0))).getD p 0 := by
  have s1 := sumI_zero (rh_oct n tt pr hs hd _) (rh_length n tt pr hs hd _) (rsum_full n tt pr hs hd)
  have s2 := sumI_zero (rh_oct n' tt' pr' hs' hd' _) (rh_length n' tt' pr' hs' hd' _) (rsum_full n' tt' pr' hs' hd')
  rw [h, tot_set _ p v (by rw [rh_length]; exact hp), if_pos (by omega)] at s2
  have ho := (rh_oct n tt pr hs hd (sumI (rh n tt pr hs hd 0))).getD p
  generalize (rh n tt pr hs hd (sumI (rh n tt pr hs hd 0))).getD p 0 = u at *
  split at s2 <;> omega
theorem getD_take2 (xs : List Int) (c i : Nat) (h : i < c) : (xs.take c).getD i 0 = xs.getD i 0 := by
  simp [List.getD_eq_getElem?_getD, List.getElem?_take_of_lt h]
theorem getD_drop2 (xs : List Int) (n i : Nat) : (xs.drop n).getD i 0 = xs.getD (n + i) 0 := by
  simp [List.getD_eq_getElem?_getD]
theorem set_same (xs : List Int) (i : Nat) (v : Int) (h : i < xs.length) (e : v = xs.getD i 0) : xs.set i v = xs := by
  subst e
  apply List.ext_getElem?
  intro j
  rw [List.getElem?_set]
  split
  · rename_i q
    subst q
    simp [h, List.getD_eq_getElem?_getD]
  · rfl
/-- The parts of an encoding. -/
theorem enc_parts (p : PL) : p.enc.take 20 = p.hdr p.f.enc.length ∧ (p.enc.drop 22).take 7 = enc 2 4789 ++ (enc 2 (p.f.enc.length + 16) ++ (enc 2 0 ++ enc 1 8)) ∧ (p.enc.drop 35).take 1 = enc 1 0 := by
  have e20 : p.enc.drop 20 = udB p.ent p.f.enc.length ++ (vxB p.mark p.vni ++ p.f.enc) := by
    unfold PL.enc
    exact List.drop_left' (hdr_length _ _)
  refine ⟨by unfold PL.enc; exact List.take_left' (hdr_length _ _), ?_, ?_⟩
  · have e22 : p.enc.drop 22 = (enc 2 4789 ++ (enc 2 (p.f.enc.length + 16) ++ (enc 2 0 ++ enc 1 8))) ++ (enc 3 p.mark.toNat ++ (enc 3 p.vni.toNat ++ (enc 1 0 ++ p.f.enc))) := by
      have e : p.enc.drop 20 = enc 2 p.ent.toNat ++ ((enc 2 4789 ++ (enc 2 (p.f.enc.length + 16) ++ (enc 2 0 ++ enc 1 8))) ++ (enc 3 p.mark.toNat ++ (enc 3 p.vni.toNat ++ (enc 1 0 ++ p.f.enc)))) := by
        rw [e20]
        unfold udB vxB
        simp only [List.append_assoc]
      exact drop_at e (m := 2) (enc_length _ _)
    rw [e22]
    exact List.take_left' (by simp [enc_length])
  · have e35 : p.enc.drop 35 = enc 1 0 ++ p.f.enc := by
      have e : p.enc.drop 20 = (udB p.ent p.f.enc.length ++ (enc 1 8 ++ (enc 3 p.mark.toNat ++ enc 3 p.vni.toNat))) ++ (enc 1 0 ++ p.f.enc) := by
        rw [e20]
        unfold vxB
        simp only [List.append_assoc]
      exact drop_at e (m := 15) (by simp [udB_length, enc_length])
    rw [e35]
    exact List.take_left' (enc_length _ _)
/-- A changed octet of the header of IPv4, or of a field that is fixed. -/
theorem set_bad {p : PL} (hp : p.Ok) (hc : p.chk = 0) (i : Nat) (hi : i < 20 ∨ (21 < i ∧ i < 29) ∨ i = 35) (v : Int) (hv : 0 ≤ v ∧ v < 256) (hne : v ≠ p.enc.getD i 0) : ¬ Pack (p.enc.set i v) := by
  intro h
  have hlen := penc_length p
  obtain ⟨-, -, h3, h4⟩ := id h
  generalize vP (p.enc.set i v) = q at h3 h4
  have hql := penc_length q
  rw [h4, List.length_set, hlen] at hql
  have hn : q.f.enc.length = p.f.enc.length := by omega
  obtain ⟨p1, p2, p3⟩ := enc_parts p
  obtain ⟨q1, q2, q3⟩ := enc_parts q
  rw [hn] at q1 q2
  rw [h4] at q1 q2 q3
  have hset : (p.enc.set i v).getD i 0 = v := by rw [getD_set _ _ _ _ (by omega), if_pos rfl]
  rcases hi with hi | hi | hi
  · unfold PL.hdr at p1 q1
    rw [List.take_set, p1] at q1
    have := rone_octet _ _ _ _ _ _ _ _ _ _ i v hi hv q1.symm
    rw [← p1, getD_take2 _ _ _ hi] at this
    exact hne this
  · have e1 : ((p.enc.drop 22).take 7).getD (i - 22) 0 = p.enc.getD i 0 := by rw [getD_take2 _ _ _ (by omega), getD_drop2, show 22 + (i - 22) = i by omega]
    have e2 : (((p.enc.set i v).drop 22).take 7).getD (i - 22) 0 = (p.enc.set i v).getD i 0 := by rw [getD_take2 _ _ _ (by omega), getD_drop2, show 22 + (i - 22) = i by omega]
    rw [p2] at e1
    rw [q2, e1, hset] at e2
    exact hne e2.symm
  · subst hi
    have e1 : ((p.enc.drop 35).take 1).getD 0 0 = p.enc.getD 35 0 := by rw [getD_take2 _ _ _ (by decide), getD_drop2]
    have e2 : (((p.enc.set 35 v).drop 35).take 1).getD 0 0 = (p.enc.set 35 v).getD 35 0 := by rw [getD_take2 _ _ _ (by decide), getD_drop2]
    rw [p3] at e1
    rw [q3, e1, hset] at e2
    exact hne e2.symm
theorem enc_be : ∀ (l : List Int), Oct l → enc l.length (be l) = l
  | [], _ => rfl
  | x :: r, ho => by
    have hx := ho x (List.mem_cons_self ..)
    have hr : Oct r := fun y hy => ho y (List.mem_cons_of_mem _ hy)
    have hb := be_lt r hr
    have e : be (x :: r) = x.toNat * 256 ^ r.length + be r := by
      have q := fold_enc r.length (be r) x.toNat
      rw [enc_be r hr, Nat.mod_eq_of_lt hb] at q
      show (x :: r).foldl _ 0 = _
      rw [be_cons, Nat.zero_mul, Nat.zero_add]
      exact q
    have em : ∀ k m n : Nat, enc k (n * 256 ^ k + m) = enc k m := by
      intro k
      induction k with
      | zero => intro m n; rfl
      | succ k ih =>
        intro m n
        have hd : (n * 256 ^ (k + 1) + m) / 256 ^ k % 256 = m / 256 ^ k % 256 := by
          rw [Nat.pow_succ, show n * (256 ^ k * 256) + m = m + 256 ^ k * (n * 256) by rw [Nat.mul_comm n, Nat.mul_assoc, Nat.mul_comm 256 n, Nat.add_comm], Nat.add_mul_div_left _ _ (Nat.pow_pos (by decide)), Nat.add_mul_mod_self_right]
        show (((n * 256 ^ (k + 1) + m) / 256 ^ k % 256 : Nat) : Int) :: enc k (n * 256 ^ (k + 1) + m) = ((m / 256 ^ k % 256 : Nat) : Int) :: enc k m
        rw [hd, Nat.pow_succ, show n * (256 ^ k * 256) + m = (n * 256) * 256 ^ k + m by rw [Nat.mul_comm (256 ^ k) 256, Nat.mul_assoc], ih]
    rw [e]
    show (((x.toNat * 256 ^ r.length + be r) / 256 ^ r.length % 256 : Nat) : Int) :: enc r.length (x.toNat * 256 ^ r.length + be r) = _
    rw [em, enc_be r hr]
    have : (x.toNat * 256 ^ r.length + be r) / 256 ^ r.length = x.toNat := by
      rw [Nat.mul_comm, Nat.mul_add_div (Nat.pow_pos (by decide)), Nat.div_eq_of_lt hb]
      omega
    rw [this]
    congr 1
    omega
theorem oct_set {l : List Int} (ho : Oct l) (i : Nat) (v : Int) (hv : 0 ≤ v ∧ v < 256) : Oct (l.set i v) := fun x hx => by
  rcases List.mem_or_eq_of_mem_set hx with q | q
  · exact ho x q
  · subst q
    exact hv
theorem set_enc (k m : Nat) (i : Nat) (v : Int) (hv : 0 ≤ v ∧ v < 256) : ∃ x : Int, 0 ≤ x ∧ x < ((256 ^ k : Nat) : Int) ∧ (enc k m).set i v = enc k x.toNat := by
  have ho := oct_set (enc_oct k m) i v hv
  have hl : ((enc k m).set i v).length = k := by rw [List.length_set, enc_length]
  have hb := be_lt _ ho
  have he := enc_be _ ho
  rw [hl] at hb he
  exact ⟨(be ((enc k m).set i v) : Nat), by omega, by exact_mod_cast hb, by rw [Int.toNat_natCast]; exact he.symm⟩
theorem set_right {A B : List Int} {n : Nat} (i : Nat) (v : Int) (h : A.length = n) : (A ++ B).set (n + i) v = A ++ B.set i v := by
  subst h
  rw [List.set_append_right _ _ (by omega)]
  congr 2
  omega
theorem set_left {A B : List Int} (i : Nat) (v : Int) (h : i < A.length) : (A ++ B).set i v = A.set i v ++ B := by
  rw [List.set_append_left _ _ h]
/-- A changed octet of Entropy, Mark or VNI gives another packet. -/
theorem set_good {p : PL} (hp : p.Ok) (hc : p.chk = 0) (i : Nat) (hi : (20 ≤ i ∧ i ≤ 21) ∨ (29 ≤ i ∧ i ≤ 34)) (v : Int) (hv : 0 ≤ v ∧ v < 256) : ∃ q : PL, q.Ok ∧ q.chk = 0 ∧ q.enc = p.enc.set i v := by
  obtain ⟨hh, hfc⟩ := pchk_zero hc
  have hb := hd_true hh
  have q1 := hp.src; have q2 := hp.dst; have q3 := hp.vni; have q4 := hp.mark
  obtain ⟨src, dst, ttl, ent, vni, mark, f⟩ := p
  dsimp only at hb q1 q2 q3 q4 hfc
  have hf : f.Ok := hp.f
  have mk : ∀ e m n : Int, 0 ≤ e → e ≤ 65535 → 0 ≤ m → m ≤ 16777215 → 0 ≤ n → n ≤ 16777215 → PL.Ok ⟨src, dst, ttl, e, n, m, f⟩ ∧ PL.chk ⟨src, dst, ttl, e, n, m, f⟩ = 0 := fun e m n e0 e1 m0 m1 n0 n1 => by
    refine ⟨⟨q1, q2, ⟨n0, show n < 4294967296 by omega⟩, ⟨m0, show m < 4294967296 by omega⟩, hf⟩, ?_⟩
    unfold PL.chk
    rw [if_pos]
    · exact hfc
    · simp only [PL.hd, up, Bool.and_eq_true, decide_eq_true_eq]
      omega
  have hE : ∀ e m n : Int, PL.enc ⟨src, dst, ttl, e, n, m, f⟩ = (PL.hdr ⟨src, dst, ttl, ent, vni, mark, f⟩ f.enc.length) ++ (enc 2 e.toNat ++ (((enc 2 4789 ++ (enc 2 (f.enc.length + 16) ++ enc 2 0)) ++ enc 1 8) ++ (enc 3 m.toNat ++ (enc 3 n.toNat ++ (enc 1 0 ++ f.enc))))) := fun e m n => by
    unfold PL.enc udB vxB PL.hdr
    simp only [List.append_assoc]
  have hh20 := hdr_length ⟨src, dst, ttl, ent, vni, mark, f⟩ f.enc.length
  have hC : ((enc 2 4789 ++ (enc 2 (f.enc.length + 16) ++ enc 2 0)) ++ enc 1 8).length = 7 := by simp [enc_length]
  generalize (enc 2 4789 ++ (enc 2 (f.enc.length + 16) ++ enc 2 0)) ++ enc 1 8 = C at hE hC
  generalize PL.hdr ⟨src, dst, ttl, ent, vni, mark, f⟩ f.enc.length = H at hE hh20
  rcases hi with hi | hi
  · obtain ⟨x, x0, x1, hx⟩ := set_enc 2 ent.toNat (i - 20) v hv
    obtain ⟨m1, m2⟩ := mk x mark vni x0 (by have : (256 : Nat) ^ 2 = 65536 := by decide
                                            omega) q4.1 (by omega) q3.1 (by omega)
    refine ⟨_, m1, m2, ?_⟩
    rw [hE, hE]
    obtain ⟨j, hj⟩ : ∃ j, i - 20 = j := ⟨_, rfl⟩
    rw [hj] at hx
    rw [show i = 20 + j by omega, set_right _ _ hh20, set_left _ _ (by rw [enc_length]; omega), hx]
  · by_cases h2 : i ≤ 31
    · obtain ⟨x, x0, x1, hx⟩ := set_enc 3 mark.toNat (i - 29) v hv
      obtain ⟨m1, m2⟩ := mk ent x vni (by omega) (by omega) x0 (by have : (256 : Nat) ^ 3 = 16777216 := by decide
                                                                   omega) q3.1 (by omega)
      refine ⟨_, m1, m2, ?_⟩
      rw [hE, hE]
      obtain ⟨j, hj⟩ : ∃ j, i - 29 = j := ⟨_, rfl⟩
      rw [hj] at hx
      rw [show i = 20 + (2 + (7 + j)) by omega, set_right _ _ hh20, set_right _ _ (enc_length _ _), set_right _ _ hC, set_left _ _ (by rw [enc_length]; omega), hx]
    · obtain ⟨x, x0, x1, hx⟩ := set_enc 3 vni.toNat (i - 32) v hv
      obtain ⟨m1, m2⟩ := mk ent mark x (by omega) (by omega) q4.1 (by omega) x0 (by have : (256 : Nat) ^ 3 = 16777216 := by decide
                                                                                    omega)
      refine ⟨_, m1, m2, ?_⟩
      rw [hE, hE]
      obtain ⟨j, hj⟩ : ∃ j, i - 32 = j := ⟨_, rfl⟩
      rw [hj] at hx
      rw [show i = 20 + (2 + (7 + (3 + j))) by omega, set_right _ _ hh20, set_right _ _ (enc_length _ _), set_right _ _ hC, set_right _ _ (enc_length _ _), set_left _ _ (by rw [enc_length]; omega), hx]
end Go.Proofs.Ytgpjelcihmbiiaa
