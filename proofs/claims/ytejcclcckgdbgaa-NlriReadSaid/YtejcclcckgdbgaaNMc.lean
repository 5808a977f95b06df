/- Read hands back the routes whose encodings it is given. No condition. -/
import Derived.Test.YtejcclcckgdbgaaNRd
namespace Go.Proofs.Ytejcclcckgdbgaa
open Go.RowKit Go.Shelf
set_option linter.unusedVariables false
set_option linter.unusedSimpArgs false
set_option maxRecDepth 100000

theorem be_cons (x : Int) (l : List Int) : ∀ acc : Nat, (x :: l).foldl (fun a x => a * 256 + x.toNat) acc = l.foldl (fun a x => a * 256 + x.toNat) (acc * 256 + x.toNat) := fun _ => rfl
theorem fold_enc (k n : Nat) : ∀ acc : Nat, (enc k n).foldl (fun a x => a * 256 + x.toNat) acc = acc * 256 ^ k + n % 256 ^ k := by
  induction k with
  | zero => intro acc; simp [enc, Nat.mod_one]
  | succ k ih =>
    intro acc
    show ((((n / 256 ^ k % 256 : Nat) : Int) :: enc k n).foldl _ acc) = _
    rw [be_cons, ih]
    rw [show ((n / 256 ^ k % 256 : Nat) : Int).toNat = n / 256 ^ k % 256 from rfl, Nat.pow_succ, Nat.mod_mul, Nat.add_mul, Nat.mul_assoc]
    rw [Nat.mul_comm 256 (256 ^ k), Nat.mul_comm (n / 256 ^ k % 256) (256 ^ k)]
    omega
theorem be_enc (k n : Nat) (h : n < 256 ^ k) : be (enc k n) = n := by
  unfold be
  rw [fold_enc, Nat.mod_eq_of_lt h]
  omega

/-- The reader stands before these octets, without a fault. -/
def At (R : RS) (l : List Int) : Prop := R.er = 0 ∧ R.n ≤ R.xs.length ∧ R.xs.drop R.n = l
theorem At.ok {R : RS} {a b : List Int} (h : At R (a ++ b)) (k : Int) (hk : (a.length : Int) = k) : R.ok k := by
  obtain ⟨h1, h2, h3⟩ := h
  have := congrArg List.length h3
  simp only [List.length_drop, List.length_append] at this
  exact ⟨h1, by omega, by omega⟩
theorem At.part {R : RS} {a b : List Int} (h : At R (a ++ b)) (k : Int) (hk : (a.length : Int) = k) : R.part k = a := by
  unfold RS.part
  rw [if_pos (h.ok k hk), h.2.2, ← hk]
  simp
theorem At.next {R : RS} {a b : List Int} (h : At R (a ++ b)) (k : Int) (hk : (a.length : Int) = k) : At (R.next k) b := by
  have ho := h.ok k hk
  unfold RS.next
  rw [if_pos ho]
  obtain ⟨h1, h2, h3⟩ := h
  have := congrArg List.length h3
  simp only [List.length_drop, List.length_append] at this
  refine ⟨h1, ?_, ?_⟩
  · show R.n + k.toNat ≤ R.xs.length
    omega
  · show R.xs.drop (R.n + k.toNat) = b
    rw [← List.drop_drop, h3, ← hk]
    simp
theorem At.over {R : RS} (h : At R []) (k : Int) (hk : 0 < k) : R.part k = [] := by
  obtain ⟨h1, h2, h3⟩ := h
  have := congrArg List.length h3
  simp only [List.length_drop, List.length_nil] at this
  unfold RS.part
  rw [if_neg (fun q => by have := q.2.2; omega)]
theorem At.num {R : RS} {b : List Int} {k : Nat} {x : Int} (h : At R (enc k x.toNat ++ b)) (h0 : 0 ≤ x) (h1 : x < 256 ^ k) (k' : Int) (hk : (k : Int) = k') : ((be (R.part k') : Nat) : Int) = x := by
  rw [h.part k' (by rw [enc_length]; exact hk), be_enc _ _ (by
    have : (x.toNat : Int) < ((256 ^ k : Nat) : Int) := by rw [Int.toNat_of_nonneg h0]; simpa using h1
    exact Int.ofNat_lt.1 this)]
  omega
theorem At.skip {R : RS} {b : List Int} {k m : Nat} (h : At R (enc k m ++ b)) (k' : Int) (hk : (k : Int) = k') : At (R.next k') b := h.next k' (by rw [enc_length]; exact hk)
theorem At.esi {R : RS} {b : List Int} {e : Nat → Int} (h : At R (esiL e ++ b)) : R.part 10 = esiL e := h.part 10 rfl
theorem At.skipE {R : RS} {b : List Int} {e : Nat → Int} (h : At R (esiL e ++ b)) : At (R.next 10) b := h.next 10 rfl

/-- Two routes with the same cells are alike. -/
theorem alike {n m : NL} (h : n.cs = m.cs) : n.code = m.code ∧ n.chk = m.chk ∧ n.k = m.k := by
  obtain ⟨k, rd, e, t, mm, ip, hh, pi, pn, g, l, l2⟩ := n
  obtain ⟨k', rd', e', t', mm', ip', hh', pi', pn', g', l', l2'⟩ := m
  simp only [NL.cs, List.cons.injEq, Value.int.injEq, true_and, and_true, Value.bool.injEq] at h
  obtain ⟨rfl, rfl, h0, h1, h2, h3, h4, h5, h6, h7, h8, h9, rfl, rfl, rfl, rfl, rfl, rfl, rfl, rfl, rfl⟩ := h
  have hE : esiL e = esiL e' := by simp [esiL, h0, h1, h2, h3, h4, h5, h6, h7, h8, h9]
  refine ⟨?_, ?_, rfl⟩
  · simp only [NL.code, NL.val, NL.autoV, NL.macV, NL.floodV, NL.segmentV, NL.prefixV, hE]
  · have hj : ∀ j, j < 10 → e j = e' j := fun j hj => by
      rcases j with _ | _ | _ | _ | _ | _ | _ | _ | _ | _ | j
      all_goals first | assumption | omega
    have hz : eqE e (fun _ => 0) = eqE e' (fun _ => 0) := by
      rw [Bool.eq_iff_iff, eqE_iff, eqE_iff]
      exact ⟨fun q j h => (hj j h) ▸ q j h, fun q j h => (hj j h).symm ▸ q j h⟩
    have hs : eqE e e = eqE e' e' := by
      rw [Bool.eq_iff_iff, eqE_iff, eqE_iff]
      exact ⟨fun _ _ _ => rfl, fun _ _ _ => rfl⟩
    have hqb : NL.eqb ⟨k, rd, e, t, mm, ip, hh, pi, pn, g, l, l2⟩ (NL.norm ⟨k, rd, e, t, mm, ip, hh, pi, pn, g, l, l2⟩) = NL.eqb ⟨k, rd, e', t, mm, ip, hh, pi, pn, g, l, l2⟩ (NL.norm ⟨k, rd, e', t, mm, ip, hh, pi, pn, g, l, l2⟩) := by
      unfold NL.norm
      dsimp only
      by_cases h1 : k = 1
      · rw [if_pos h1, if_pos h1]; simp only [NL.eqb, NL.auto, hs]
      rw [if_neg h1, if_neg h1]
      by_cases h2 : k = 2
      · rw [if_pos h2, if_pos h2]; simp only [NL.eqb, NL.mac, hs]
      rw [if_neg h2, if_neg h2]
      by_cases h3 : k = 3
      · rw [if_pos h3, if_pos h3]; simp only [NL.eqb, NL.flood, hz]
      rw [if_neg h3, if_neg h3]
      by_cases h4 : k = 4
      · rw [if_pos h4, if_pos h4]; simp only [NL.eqb, NL.segment, hs]
      rw [if_neg h4, if_neg h4]
      by_cases h5 : k = 5
      · rw [if_pos h5, if_pos h5]; simp only [NL.eqb, NL.prefix_, hs]
      rw [if_neg h5, if_neg h5]
      simp only [NL.eqb, hs]
    unfold NL.chk
    rw [hqb]
theorem esi_dec {R : RS} {b : List Int} {e : Nat → Int} (h : At R (esiL e ++ b)) : ∀ j, j < 10 → (R.part 10).getD j 0 = e j := fun j hj => by
  rw [h.esi]
  rcases j with _ | _ | _ | _ | _ | _ | _ | _ | _ | _ | j
  all_goals first | rfl | omega
theorem eqb_parts {n m : NL} (h : n.eqb m = true) : n.k = m.k ∧ n.rd = m.rd ∧ (∀ j, j < 10 → n.e j = m.e j) ∧ n.t = m.t ∧ n.m = m.m ∧ n.ip = m.ip ∧ n.h = m.h ∧ n.pi = m.pi ∧ n.pn = m.pn ∧ n.g = m.g ∧ n.l = m.l ∧ n.l2 = m.l2 := by
  simp only [NL.eqb, Bool.and_eq_true, beq_iff_eq, Bool.and_true] at h
  obtain ⟨h1, h2, h3, h4, h5, h6, h7, ⟨h8, h9⟩, h10, h11, h12⟩ := h
  exact ⟨h1, h2, (eqE_iff _ _).1 h3, h4, h5, h6, h7, h8, h9, h10, h11, h12⟩
theorem cs_of {n m : NL} (h1 : n.k = m.k) (h2 : n.rd = m.rd) (h3 : ∀ j, j < 10 → n.e j = m.e j) (h4 : n.t = m.t) (h5 : n.m = m.m) (h6 : n.ip = m.ip) (h7 : n.h = m.h) (h8 : n.pi = m.pi) (h9 : n.pn = m.pn) (h10 : n.g = m.g) (h11 : n.l = m.l) (h12 : n.l2 = m.l2) : n.cs = m.cs := by
  simp only [NL.cs, h1, h2, h4, h5, h6, h7, h8, h9, h10, h11, h12, h3 0 (by decide), h3 1 (by decide), h3 2 (by decide), h3 3 (by decide), h3 4 (by decide), h3 5 (by decide), h3 6 (by decide), h3 7 (by decide), h3 8 (by decide), h3 9 (by decide)]

theorem dec_auto {n : NL} (hn : n.Ok) (hs : n.Small) (hk : n.k = 1) (hq : n.eqb n.auto = true) {R : RS} (h : At R n.autoV) : (decAuto R).cs = n.cs := by
  obtain ⟨q1, q2, q3, q4, q5, q6, q7, q8, q9, q10, q11, q12⟩ := eqb_parts hq
  unfold NL.autoV at h
  simp only [List.append_assoc] at h
  have a1 := h.skip 8 rfl
  have a2 := a1.skipE
  have a3 := a2.skip 4 rfl
  rw [← List.append_nil (enc 3 n.l.toNat)] at a3
  exact cs_of hk.symm (h.num hn.rd.1 hn.rd.2 8 rfl) (esi_dec a1) (a2.num hn.t.1 hn.t.2 4 rfl) q5.symm q6.symm q7.symm q8.symm q9.symm q10.symm (a3.num hn.l.1 (by have := hs.l; exact this) 3 rfl) q12.symm
theorem dec_flood {n : NL} (hn : n.Ok) (hk : n.k = 3) (hq : n.eqb n.flood = true) {R : RS} (h : At R n.floodV) : (decFlood R).cs = n.cs := by
  obtain ⟨q1, q2, q3, q4, q5, q6, q7, q8, q9, q10, q11, q12⟩ := eqb_parts hq
  unfold NL.floodV at h
  simp only [List.append_assoc] at h
  have a1 := h.skip 8 rfl
  have a2 := a1.skip 4 rfl
  have a3 := a2.skip 1 rfl
  rw [← List.append_nil (enc 4 n.ip.toNat)] at a3
  exact cs_of hk.symm (h.num hn.rd.1 hn.rd.2 8 rfl) (fun j hj => (q3 j hj).symm) (a1.num hn.t.1 hn.t.2 4 rfl) q5.symm (a3.num hn.ip.1 hn.ip.2 4 rfl) q7.symm q8.symm q9.symm q10.symm q11.symm q12.symm
theorem dec_segment {n : NL} (hn : n.Ok) (hk : n.k = 4) (hq : n.eqb n.segment = true) {R : RS} (h : At R n.segmentV) : (decSegment R).cs = n.cs := by
  obtain ⟨q1, q2, q3, q4, q5, q6, q7, q8, q9, q10, q11, q12⟩ := eqb_parts hq
  unfold NL.segmentV at h
  simp only [List.append_assoc] at h
  have a1 := h.skip 8 rfl
  have a2 := a1.skipE
  have a3 := a2.skip 1 rfl
  rw [← List.append_nil (enc 4 n.ip.toNat)] at a3
  exact cs_of hk.symm (h.num hn.rd.1 hn.rd.2 8 rfl) (esi_dec a1) q4.symm q5.symm (a3.num hn.ip.1 hn.ip.2 4 rfl) q7.symm q8.symm q9.symm q10.symm q11.symm q12.symm
theorem dec_prefix {n : NL} (hn : n.Ok) (hs : n.Small) (hk : n.k = 5) (hq : n.eqb n.prefix_ = true) {R : RS} (h : At R n.prefixV) : (decPrefix R).cs = n.cs := by
  obtain ⟨q1, q2, q3, q4, q5, q6, q7, q8, q9, q10, q11, q12⟩ := eqb_parts hq
  unfold NL.prefixV at h
  simp only [List.append_assoc] at h
  have a1 := h.skip 8 rfl
  have a2 := a1.skipE
  have a3 := a2.skip 4 rfl
  have a4 := a3.skip 1 rfl
  have a5 := a4.skip 4 rfl
  have a6 := a5.skip 4 rfl
  rw [← List.append_nil (enc 3 n.l.toNat)] at a6
  exact cs_of hk.symm (h.num hn.rd.1 hn.rd.2 8 rfl) (esi_dec a1) (a2.num hn.t.1 hn.t.2 4 rfl) q5.symm q6.symm q7.symm (a4.num hn.pi.1 hn.pi.2 4 rfl) (a3.num hs.pn.1 hs.pn.2 1 rfl) (a5.num hn.g.1 hn.g.2 4 rfl) (a6.num hn.l.1 hs.l 3 rfl) q12.symm
theorem dec_l2 {n : NL} (hn : n.Ok) (hs : n.Small) {R : RS} (h : At R (if n.l2 = 0 then [] else enc 3 n.l2.toNat)) : ((be (R.part 3) : Nat) : Int) = n.l2 := by
  by_cases h0 : n.l2 = 0
  · rw [if_pos h0] at h
    rw [h.over 3 (by decide), h0]
    rfl
  · rw [if_neg h0, ← List.append_nil (enc 3 n.l2.toNat)] at h
    exact h.num hn.l2.1 hs.l2 3 rfl
theorem dec_mac {n : NL} (hn : n.Ok) (hs : n.Small) (hk : n.k = 2) (hq : n.eqb n.mac = true) {R : RS} (h : At R n.macV) : macC R = n.h ∧ (n.h = true → (decMacT R).cs = n.cs) ∧ (n.h = false → (decMacF R).cs = n.cs) := by
  obtain ⟨q1, q2, q3, q4, q5, q6, q7, q8, q9, q10, q11, q12⟩ := eqb_parts hq
  unfold NL.macV at h
  simp only [List.append_assoc] at h
  have a1 := h.skip 8 rfl
  have a2 := a1.skipE
  have a3 := a2.skip 4 rfl
  have a4 := a3.skip 1 rfl
  have a5 := a4.skip 6 rfl
  cases A : n.h with
  | true =>
    rw [A] at a5
    simp only [if_true, ↓reduceIte, List.append_assoc] at a5
    have a6 := a5.skip 1 rfl
    have a7 := a6.skip 4 rfl
    have a8 := a7.skip 3 rfl
    refine ⟨?_, fun _ => ?_, fun q => by cases q⟩
    · unfold macC
      show ((be ((((stR R).next 1).next 6).part 1)) != 0) = true
      rw [show stR R = ((R.next 8).next 10).next 4 from rfl, a5.part 1 rfl, be_enc 1 32 (by decide)]
      rfl
    · exact cs_of hk.symm (h.num hn.rd.1 hn.rd.2 8 rfl) (esi_dec a1) (a2.num hn.t.1 hn.t.2 4 rfl) (a4.num hn.m.1 hs.m 6 rfl) (a6.num hn.ip.1 hn.ip.2 4 rfl) A.symm q8.symm q9.symm q10.symm (a7.num hn.l.1 hs.l 3 rfl) (dec_l2 hn hs a8)
  | false =>
    rw [A] at a5
    simp only [if_false, ↓reduceIte, Bool.false_eq_true] at a5
    have a6 := a5.skip 1 rfl
    have a8 := a6.skip 3 rfl
    refine ⟨?_, fun q => (by cases q), fun _ => ?_⟩
    · unfold macC
      rw [show stR R = ((R.next 8).next 10).next 4 from rfl, a5.part 1 rfl, be_enc 1 0 (by decide)]
      rfl
    · have q6' : n.ip = 0 := by
        have := q6
        simp only [NL.mac, A] at this
        simpa using this
      exact cs_of hk.symm (h.num hn.rd.1 hn.rd.2 8 rfl) (esi_dec a1) (a2.num hn.t.1 hn.t.2 4 rfl) (a4.num hn.m.1 hs.m 6 rfl) q6'.symm A.symm q8.symm q9.symm q10.symm (a6.num hn.l.1 hs.l 3 rfl) (dec_l2 hn hs a8)
end Go.Proofs.Ytejcclcckgdbgaa
namespace Go.Proofs.Ytejcclcckgdbgaa
open Go.RowKit Go.Shelf
set_option linter.unusedVariables false
set_option linter.unusedSimpArgs false
set_option maxRecDepth 100000

/-- A route that Bytes encodes. -/
def Good (n : NL) : Prop := n.Ok ∧ n.chk = 0
theorem be_one (x : Int) : be [x] = x.toNat := by simp [be]
theorem at_start (xs : List Int) : At ⟨0, 0, xs, 0, 0⟩ xs := ⟨rfl, Nat.zero_le _, rfl⟩
theorem code_cons (n : NL) : n.code = [n.k] ++ ([(n.val.length : Int)] ++ (n.val ++ [])) := by
  rw [List.append_nil]
  rfl
theorem kind_small {n : NL} (h : lay n.k ≠ none) : 1 ≤ n.k ∧ n.k ≤ 5 := by
  rcases kind_of_lay h with h | h | h | h | h <;> omega
theorem code_head {n : NL} (h : Good n) : rrF n.code = 0 ∧ ((rrK n.code : Nat) : Int) = n.k ∧ At (rrV n.code) n.val := by
  have a0 := at_start n.code
  rw [code_cons] at a0
  have a1 := a0.next 1 rfl
  have a2 := a1.next 1 rfl
  rw [← code_cons] at a0 a1 a2
  have hS : rrS n.code = n.val.length := by
    unfold rrS
    rw [a1.part 1 rfl, be_one]
    rfl
  have a3 := a2.next (n.val.length : Nat) rfl
  have hp := a2.part (n.val.length : Nat) rfl
  refine ⟨?_, ?_, ?_⟩
  · unfold rrF rrA
    rw [hS]
    exact a3.1
  · unfold rrK
    have a0' := a0
    rw [code_cons] at a0'
    rw [show RS.part ⟨0, 0, n.code, 0, 0⟩ 1 = [n.k] from by rw [code_cons]; exact At.part (b := [(n.val.length : Int)] ++ (n.val ++ [])) (at_start _) 1 rfl, be_one]
    have := kind_small (chk_zero h.2).1
    omega
  · unfold rrV rrA
    rw [hS]
    refine ⟨?_, ?_, ?_⟩
    · exact a3.1
    · exact Nat.zero_le _
    · show (RS.part _ _).drop 0 = n.val
      rw [List.drop_zero]
      exact hp
theorem code_cs {n : NL} (h : Good n) : (rrN n.code).cs = n.cs := by
  obtain ⟨h1, h2, h3⟩ := code_head h
  obtain ⟨hn, hc⟩ := h
  obtain ⟨hl, hq, -⟩ := chk_zero hc
  have hs := small_of hc
  unfold rrN
  unfold NL.val at h3
  generalize rrV n.code = R at h3
  generalize rrK n.code = K at h2
  unfold NL.norm at hq
  rcases kind_of_lay hl with h | h | h | h | h
  · rw [if_pos (by omega)]
    rw [if_pos h] at h3 hq
    exact dec_auto hn hs h hq h3
  · rw [if_neg (by omega), if_pos (by omega)]
    rw [if_neg (by omega), if_pos h] at h3 hq
    obtain ⟨m1, m2, m3⟩ := dec_mac hn hs h hq h3
    rw [m1]
    cases A : n.h with
    | true =>
      rw [if_pos rfl]
      exact m2 A
    | false =>
      rw [if_neg (by simp)]
      exact m3 A
  · rw [if_neg (by omega), if_neg (by omega), if_pos (by omega)]
    rw [if_neg (by omega), if_neg (by omega), if_pos h] at h3 hq
    exact dec_flood hn h hq h3
  · rw [if_neg (by omega), if_neg (by omega), if_neg (by omega), if_pos (by omega)]
    rw [if_neg (by omega), if_neg (by omega), if_neg (by omega), if_pos h] at h3 hq
    exact dec_segment hn h hq h3
  · rw [if_neg (by omega), if_neg (by omega), if_neg (by omega), if_neg (by omega)]
    rw [if_neg (by omega), if_neg (by omega), if_neg (by omega), if_neg (by omega)] at h3
    rw [if_neg (by omega), if_neg (by omega), if_neg (by omega), if_neg (by omega), if_pos h] at hq
    exact dec_prefix hn hs h hq h3
theorem code_good {n : NL} (h : Good n) : rrE n.code = 0 ∧ (rrO n.code).cs = n.cs := by
  have hcs := code_cs h
  obtain ⟨h1, h2, h3⟩ := alike hcs
  obtain ⟨h4, h5, -⟩ := code_head h
  have hE : rrE n.code = 0 := by
    unfold rrE
    rw [if_neg (by omega), if_neg (by rw [h5]; exact (chk_zero h.2).1), if_pos ⟨h2.trans h.2, h1⟩]
  refine ⟨hE, ?_⟩
  unfold rrO
  rw [if_pos hE]
  exact hcs

/-- The octets of a list of routes. -/
def codes (L : List NL) : List Int := L.flatMap NL.code
theorem codes_append (L M : List NL) : codes (L ++ M) = codes L ++ codes M := List.flatMap_append ..
theorem codes_one (n : NL) : codes [n] = n.code := by simp [codes]
theorem code_len (n : NL) : n.code.length = n.val.length + 2 := rfl
theorem codes_oct {L : List NL} (h : ∀ n ∈ L, Good n) : Oct (codes L) := fun x hx => by
  obtain ⟨n, hn, hc⟩ := List.mem_flatMap.1 hx
  exact code_oct (h n hn).1 (h n hn).2 x hc
theorem codes_len (L : List NL) : (codes L).length ≤ L.length * 42 := by
  induction L with
  | nil => exact Nat.le_refl _
  | cons n L ih =>
    have := val_le n
    simp only [codes, List.flatMap_cons, List.length_append, List.length_cons, code_len] at ih ⊢
    omega
/-- Where one piece stands in the octets. -/
theorem piece_at (P S : List Int) (n : NL) : pEnd (P ++ (n.code ++ S)) P.length = P.length + n.code.length := by
  have hl : (P ++ (n.code ++ S)).length = P.length + (n.val.length + 2 + S.length) := by simp [code_len]
  unfold pEnd
  rw [hl, if_neg (by omega)]
  have : (P ++ (n.code ++ S)).getD (P.length + 1) 0 = (n.val.length : Int) := by
    rw [List.getD_eq_getElem?_getD, List.getElem?_append_right (by omega), show P.length + 1 - P.length = 1 by omega]
    rfl
  rw [this, code_len]
  omega
theorem ofs_codes (L : List NL) (T : List Int) : ∀ j, j ≤ L.length → ofs (codes L ++ T) j = (codes (L.take j)).length := by
  intro j
  induction j with
  | zero => intro _; rfl
  | succ j ih =>
    intro hj
    show pEnd (codes L ++ T) (ofs (codes L ++ T) j) = _
    rw [ih (by omega)]
    obtain ⟨n, hn⟩ : ∃ n, L[j]? = some n := ⟨L[j], List.getElem?_eq_getElem (by omega)⟩
    have hsplit : L = L.take j ++ ([n] ++ L.drop (j + 1)) := by
      have h1 := (List.take_append_drop j L).symm
      have h2 : L.drop j = n :: L.drop (j + 1) := by
        rw [List.drop_eq_getElem_cons (by omega)]
        congr 1
        rw [List.getElem?_eq_getElem (by omega)] at hn
        exact Option.some.inj hn
      rw [h2] at h1
      exact h1
    have h3 : codes L ++ T = codes (L.take j) ++ (n.code ++ (codes (L.drop (j + 1)) ++ T)) := by
      conv => lhs; rw [hsplit]
      rw [codes_append, codes_append, codes_one, List.append_assoc, List.append_assoc]
    rw [h3, piece_at, List.take_add_one, hn, codes_append, Option.toList_some, codes_one, List.length_append]
theorem px_codes (L : List NL) (T : List Int) (j : Nat) (n : NL) (hn : L[j]? = some n) : px (codes L ++ T) j = n.code := by
  have hj : j < L.length := (List.getElem?_eq_some_iff.1 hn).1
  have hsplit : L = L.take j ++ ([n] ++ L.drop (j + 1)) := by
    have h1 := (List.take_append_drop j L).symm
    have h2 : L.drop j = n :: L.drop (j + 1) := by
      rw [List.drop_eq_getElem_cons hj]
      congr 1
      rw [List.getElem?_eq_getElem hj] at hn
      exact Option.some.inj hn
    rw [h2] at h1
    exact h1
  have h3 : codes L ++ T = codes (L.take j) ++ (n.code ++ (codes (L.drop (j + 1)) ++ T)) := by
    conv => lhs; rw [hsplit]
    rw [codes_append, codes_append, codes_one, List.append_assoc, List.append_assoc]
  have h4 : (codes (L.take (j + 1))).length = (codes (L.take j)).length + n.code.length := by
    rw [List.take_add_one, hn, codes_append, Option.toList_some, codes_one, List.length_append]
  unfold px
  rw [ofs_codes L T j (by omega), ofs_codes L T (j + 1) (by omega), h4, h3, List.drop_left, show (codes (L.take j)).length + n.code.length - (codes (L.take j)).length = n.code.length by omega, List.take_left]
theorem flN_congr (f g : Nat → NL) (m : Nat) (h : ∀ j, j < m → (f j).cs = (g j).cs) : flN ((List.range m).map f) = flN ((List.range m).map g) := by
  induction m with
  | zero => rfl
  | succ m ih =>
    rw [List.range_succ, List.map_append, List.map_append, flN_append, flN_append, ih fun j hj => h j (by omega)]
    simp only [List.map_cons, List.map_nil, flN_one]
    rw [h m (by omega)]
theorem codes_mono (L : List NL) (j : Nat) (hj : j < L.length) : (codes (L.take j)).length < (codes L).length := by
  have h1 : codes L = codes (L.take j) ++ codes (L.drop j) := by rw [← codes_append, List.take_append_drop]
  rw [h1, List.length_append, List.drop_eq_getElem_cons hj]
  show _ < _ + (NL.code _ ++ codes _).length
  rw [List.length_append, code_len]
  omega
/-- What Read answers to the encodings of at most 4096 routes. -/
theorem reads_codes {lo : Nat} {L : List NL} {w : World} {V : Value} {E A : Int} (hL : ∀ n ∈ L, Good n) (hn : L.length ≤ 4095) (h : ReadsTo lo (codes L) w V E A) : E = 0 ∧ A = 0 ∧ NuN lo w V L ∧ (V = .slice none 0 0 ↔ L = []) := by
  have ho : ∀ j, j ≤ L.length → ofs (codes L) j = (codes (L.take j)).length := fun j hj => by
    have := ofs_codes L [] j hj
    rwa [List.append_nil] at this
  have hp : ∀ j n, L[j]? = some n → px (codes L) j = n.code := fun j n hn => by
    have := px_codes L [] j n hn
    rwa [List.append_nil] at this
  have hg : ∀ j, j < L.length → ge (codes L) j = 0 ∧ (gr (codes L) j).cs = (L.getD j NL.zero).cs := fun j hj => by
    have h1 : L[j]? = some (L.getD j NL.zero) := by rw [List.getD_eq_getElem?_getD, List.getElem?_eq_getElem hj]; rfl
    have h2 := code_good (hL _ (List.mem_of_getElem? h1))
    unfold ge gr
    rw [hp j _ h1]
    exact h2
  have hend : ofs (codes L) L.length = (codes L).length := by rw [ho _ (Nat.le_refl _), List.take_length]
  rcases h with ⟨m, h1, h2, h3, h4, rfl, rfl, h5, h6⟩ | ⟨m, h1, h2, h3, h4, h5, -⟩
  · have hm : m = L.length := by
      rcases Nat.lt_trichotomy m L.length with q | q | q
      · have := codes_mono L m q
        rw [ho m (by omega)] at h1
        omega
      · exact q
      · have := h2 L.length q
        omega
    subst hm
    refine ⟨rfl, rfl, ?_, ?_⟩
    · have e : flN ((List.range L.length).map (gr (codes L))) = flN L := by
        rw [flN_congr (gr (codes L)) (fun j => L.getD j NL.zero) L.length fun j hj => (hg j hj).2]
        congr 1
        apply List.ext_getElem (by simp)
        intro i i1 i2
        simp [List.getD_eq_getElem?_getD, List.getElem?_eq_getElem i2]
      unfold NuN at h5 ⊢
      rw [e, List.length_map, List.length_range] at h5
      exact h5
    · rw [h6]
      exact List.length_eq_zero_iff
  · have hm : m < L.length := by
      rcases Nat.lt_or_ge m L.length with q | q
      · exact q
      · have := h1 L.length (by omega)
        omega
    rw [if_neg (by omega), (hg m hm).1] at h4
    exact absurd h4 h5
end Go.Proofs.Ytejcclcckgdbgaa
