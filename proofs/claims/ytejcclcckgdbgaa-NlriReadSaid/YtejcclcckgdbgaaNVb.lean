/- The reference of layer 4: the route that a value would encode, what is said of it. No condition. -/
import Derived.Test.YtejcclcckgdbgaaNTk
import Derived.Test.YtejcclcckgdbgaaNSm
import Derived.Laws.CopyRow
namespace Go.Proofs.Ytejcclcckgdbgaa
open Go.RowKit Go.Sort
set_option linter.unusedVariables false
set_option linter.unusedSimpArgs false
set_option maxRecDepth 100000

/-- The result and the route under way in memory. -/
structure Va (w w' : World) (n : NL) : Prop where
  x : Bx w' (w.heap.size + 1) n
  z : Bx w' w.heap.size NL.zero
  b : Below w.heap.size w w'
theorem Va.set {w w' w'' : World} {n m : NL} (h : Va w w' n) (k : Wrote (w.heap.size + 1) w' w'' m) : Va w w'' m :=
  ⟨k.bx, k.other h.z (by omega), But.below h.b k.but (Nat.le_succ _) h.b.size⟩
/-- What is said of the route that is made of a value. -/
def Vals (k : Int) (xs : List Int) (n : NL) : Prop := n.Ok ∧ n.k = k ∧ ∀ m, Good m → m.k = k → m.val = xs → n.cs = m.cs
theorem val_len {m : NL} (h : lay m.k ≠ none) (h3 : m.k ≠ 3) : 18 ≤ m.val.length := by
  unfold NL.val
  rcases kind_of_lay h with h | h | h | h | h
  · rw [if_pos h]; simp [NL.autoV, enc_length, esiL]
  · rw [if_neg (by omega), if_pos h]; simp [NL.macV, enc_length, esiL]; omega
  · exact absurd h h3
  · rw [if_neg (by omega), if_neg (by omega), if_neg (by omega), if_pos h]; simp [NL.segmentV, enc_length, esiL]
  · rw [if_neg (by omega), if_neg (by omega), if_neg (by omega), if_neg (by omega)]; simp [NL.prefixV, enc_length, esiL]
theorem Vals.short {k : Int} {xs : List Int} {n : NL} (hk : n.k = k) (hn : n.Ok) (h3 : k ≠ 3) (hl : ¬ 18 ≤ xs.length) : Vals k xs n :=
  ⟨hn, hk, fun m hm hmk hv => absurd (by rw [← hv]; exact val_len (chk_zero hm.2).1 (by rw [hmk]; exact h3)) hl⟩
theorem esi_drop (xs : List Int) : (fun j => xs.getD (8 + j) 0) = fun j => (xs.drop 8).getD j 0 := by
  funext j
  simp [List.getD_eq_getElem?_getD]
/-- Ten octets copied into a route's identifier. -/
theorem copy_id (w : World) (ty : TypeId) (b : Nat) (n : NL) (v : Value) (xs : List Int) (hb : Bx w b n) (hs : Seg w v xs) (hl : xs.length = 10) :
    ∃ r w', (Builtin.copy_ #[23, 23] ty #[.slice (some ⟨b, 2, none⟩) 10 10, v]).run Try.prog w = .ok r w' ∧ Wrote b w w' { n with e := fun j => xs.getD j 0 } := by
  have hi : (Try.prog.info? 5).map (·.size) = some 1 := by kernel_rfl
  obtain ⟨a, c, rfl, hc, hx⟩ := hs
  obtain ⟨g, o, rfl, -⟩ := hx 0 (by omega)
  have hr := run_copy_row Try.prog w 23 23 ty 5 b 2 10 10 ⟨g, o, none⟩ xs.length c n.cs.toArray 36 (xs.map (Value.int .u8)) Try.underlying23 hi hb (by rw [List.length_map, hl]; rfl)
    (fun j u hu => by
      have hj : j < xs.length := by
        rcases Nat.lt_or_ge j xs.length with q | q
        · exact q
        · rw [List.getElem?_eq_none (by simpa using q)] at hu; cases hu
      obtain ⟨g', o', e, hcell⟩ := hx j hj
      cases e
      rw [add_is, hcell, ← hu, List.getElem?_map]
      simp [List.getD_eq_getElem?_getD, hj]) (by rw [List.length_map, hl]; show 2 + 10 ≤ 21; decide) (fun u hu => by
      obtain ⟨z, -, rfl⟩ := List.mem_map.1 hu
      rfl)
  refine ⟨_, _, hr, ⟨?_, ⟨rfl, rfl, rfl, by simp [World.setRow], fun k hk hn => setRow_other w b k _ hn⟩, by simp [World.setRow]⟩⟩
  have hs := setRow_heap w b n.cs.toArray (n.cs.toArray.toList.take 2 ++ xs.map (Value.int .u8) ++ n.cs.toArray.toList.drop (2 + (xs.map (Value.int .u8)).length)).toArray _ _ hb
  unfold Bx Blk
  rw [hs, List.length_map, hl, esi_of xs hl]
  rfl

theorem ten_is {xs : List Int} {e : Nat → Int} {b : List Int} (h : At (RA xs 8) (esiL e ++ b)) : ∀ j, j < 10 → ((xs.drop 8).take 10).getD j 0 = e j := fun j hj => by
  have e1 : (xs.drop 8).take 10 = esiL e := by
    rw [show xs.drop 8 = esiL e ++ b from h.2.2]
    exact List.take_left' rfl
  rw [e1]
  rcases j with _ | _ | _ | _ | _ | _ | _ | _ | _ | _ | j
  all_goals first | rfl | omega
theorem ra_start {xs l : List Int} (e : xs = l) : At (RA xs 0) l := ⟨rfl, Nat.zero_le _, by show xs.drop 0 = _; rw [List.drop_zero]; exact e⟩
theorem zro {B : Int} (h : 0 < B) : (0 : Int) ≤ 0 ∧ (0 : Int) < B := ⟨Int.le_refl _, h⟩
theorem vals_1 {xs : List Int} {n : NL} (h1 : n.k = 1) (h2 : n.rd = (tk xs 0 8 : Nat)) (h3 : ∀ j, n.e j = ((xs.drop 8).take 10).getD j 0) (h4 : n.t = (tk xs 18 4 : Nat)) (h5 : n.m = 0) (h6 : n.ip = 0) (h7 : n.h = false) (h8 : n.pi = 0) (h9 : n.pn = 0) (h10 : n.g = 0) (h11 : n.l = (tk xs 22 3 : Nat)) (h12 : n.l2 = 0) (ok : n.Ok) : Vals 1 xs n :=
  ⟨ok, h1, fun m hm hk hv => by
    have hs := small_of hm.2
    obtain ⟨hl, hq, -⟩ := chk_zero hm.2
    have hn := hm.1
    unfold NL.norm at hq
    rw [if_pos hk] at hq
    obtain ⟨q1, q2, q3, q4, q5, q6, q7, q8, q9, q10, q11, q12⟩ := eqb_parts hq
    have e : xs = m.autoV := by rw [← hv]; unfold NL.val; rw [if_pos hk]
    have h := ra_start e
    unfold NL.autoV at h
    simp only [List.append_assoc] at h
    have a1 := h.mvN
    have a2 := a1.mv (k := 10) rfl
    have a3 := a2.mvN
    rw [← List.append_nil (enc 3 m.l.toNat)] at a3
    exact cs_of (h1.trans hk.symm) (h2.trans (h.num hn.rd.1 hn.rd.2 8 rfl)) (fun j hj => (h3 j).trans (ten_is a1 j hj)) (h4.trans (a2.num hn.t.1 hn.t.2 4 rfl)) (h5.trans q5.symm) (h6.trans q6.symm) (h7.trans q7.symm) (h8.trans q8.symm) (h9.trans q9.symm) (h10.trans q10.symm) (h11.trans (a3.num hn.l.1 (by have := hs.l; exact this) 3 rfl)) (h12.trans q12.symm)⟩
theorem vals_3 {xs : List Int} {n : NL} (h1 : n.k = 3) (h2 : n.rd = (tk xs 0 8 : Nat)) (h3 : ∀ j, n.e j = 0) (h4 : n.t = (tk xs 8 4 : Nat)) (h5 : n.m = 0) (h6 : n.ip = (tk xs 13 4 : Nat)) (h7 : n.h = true) (h8 : n.pi = 0) (h9 : n.pn = 0) (h10 : n.g = 0) (h11 : n.l = 0) (h12 : n.l2 = 0) (ok : n.Ok) : Vals 3 xs n :=
  ⟨ok, h1, fun m hm hk hv => by
    obtain ⟨hl, hq, -⟩ := chk_zero hm.2
    have hn := hm.1
    unfold NL.norm at hq
    rw [if_neg (by omega), if_neg (by omega), if_pos hk] at hq
    obtain ⟨q1, q2, q3, q4, q5, q6, q7, q8, q9, q10, q11, q12⟩ := eqb_parts hq
    have e : xs = m.floodV := by rw [← hv]; unfold NL.val; rw [if_neg (by omega), if_neg (by omega), if_pos hk]
    have h := ra_start e
    unfold NL.floodV at h
    simp only [List.append_assoc] at h
    have a1 := h.mvN
    have a2 := a1.mvN
    have a3 := a2.mvN
    rw [← List.append_nil (enc 4 m.ip.toNat)] at a3
    exact cs_of (h1.trans hk.symm) (h2.trans (h.num hn.rd.1 hn.rd.2 8 rfl)) (fun j hj => (h3 j).trans (q3 j hj).symm) (h4.trans (a1.num hn.t.1 hn.t.2 4 rfl)) (h5.trans q5.symm) (h6.trans (a3.num hn.ip.1 hn.ip.2 4 rfl)) (h7.trans q7.symm) (h8.trans q8.symm) (h9.trans q9.symm) (h10.trans q10.symm) (h11.trans q11.symm) (h12.trans q12.symm)⟩
theorem vals_4 {xs : List Int} {n : NL} (h1 : n.k = 4) (h2 : n.rd = (tk xs 0 8 : Nat)) (h3 : ∀ j, n.e j = ((xs.drop 8).take 10).getD j 0) (h4 : n.t = 0) (h5 : n.m = 0) (h6 : n.ip = (tk xs 19 4 : Nat)) (h7 : n.h = true) (h8 : n.pi = 0) (h9 : n.pn = 0) (h10 : n.g = 0) (h11 : n.l = 0) (h12 : n.l2 = 0) (ok : n.Ok) : Vals 4 xs n :=
  ⟨ok, h1, fun m hm hk hv => by
    obtain ⟨hl, hq, -⟩ := chk_zero hm.2
    have hn := hm.1
    unfold NL.norm at hq
    rw [if_neg (by omega), if_neg (by omega), if_neg (by omega), if_pos hk] at hq
    obtain ⟨q1, q2, q3, q4, q5, q6, q7, q8, q9, q10, q11, q12⟩ := eqb_parts hq
    have e : xs = m.segmentV := by rw [← hv]; unfold NL.val; rw [if_neg (by omega), if_neg (by omega), if_neg (by omega), if_pos hk]
    have h := ra_start e
    unfold NL.segmentV at h
    simp only [List.append_assoc] at h
    have a1 := h.mvN
    have a2 := a1.mv (k := 10) rfl
    have a3 := a2.mvN
    rw [← List.append_nil (enc 4 m.ip.toNat)] at a3
    exact cs_of (h1.trans hk.symm) (h2.trans (h.num hn.rd.1 hn.rd.2 8 rfl)) (fun j hj => (h3 j).trans (ten_is a1 j hj)) (h4.trans q4.symm) (h5.trans q5.symm) (h6.trans (a3.num hn.ip.1 hn.ip.2 4 rfl)) (h7.trans q7.symm) (h8.trans q8.symm) (h9.trans q9.symm) (h10.trans q10.symm) (h11.trans q11.symm) (h12.trans q12.symm)⟩
theorem vals_5 {xs : List Int} {n : NL} (h1 : n.k = 5) (h2 : n.rd = (tk xs 0 8 : Nat)) (h3 : ∀ j, n.e j = ((xs.drop 8).take 10).getD j 0) (h4 : n.t = (tk xs 18 4 : Nat)) (h5 : n.m = 0) (h6 : n.ip = 0) (h7 : n.h = false) (h8 : n.pi = (tk xs 23 4 : Nat)) (h9 : n.pn = (tk xs 22 1 : Nat)) (h10 : n.g = (tk xs 27 4 : Nat)) (h11 : n.l = (tk xs 31 3 : Nat)) (h12 : n.l2 = 0) (ok : n.Ok) : Vals 5 xs n :=
  ⟨ok, h1, fun m hm hk hv => by
    have hs := small_of hm.2
    obtain ⟨hl, hq, -⟩ := chk_zero hm.2
    have hn := hm.1
    unfold NL.norm at hq
    rw [if_neg (by omega), if_neg (by omega), if_neg (by omega), if_neg (by omega), if_pos hk] at hq
    obtain ⟨q1, q2, q3, q4, q5, q6, q7, q8, q9, q10, q11, q12⟩ := eqb_parts hq
    have e : xs = m.prefixV := by rw [← hv]; unfold NL.val; rw [if_neg (by omega), if_neg (by omega), if_neg (by omega), if_neg (by omega)]
    have h := ra_start e
    unfold NL.prefixV at h
    simp only [List.append_assoc] at h
    have a1 := h.mvN
    have a2 := a1.mv (k := 10) rfl
    have a3 := a2.mvN
    have a4 := a3.mvN
    have a5 := a4.mvN
    have a6 := a5.mvN
    rw [← List.append_nil (enc 3 m.l.toNat)] at a6
    exact cs_of (h1.trans hk.symm) (h2.trans (h.num hn.rd.1 hn.rd.2 8 rfl)) (fun j hj => (h3 j).trans (ten_is a1 j hj)) (h4.trans (a2.num hn.t.1 hn.t.2 4 rfl)) (h5.trans q5.symm) (h6.trans q6.symm) (h7.trans q7.symm) (h8.trans (a4.num hn.pi.1 hn.pi.2 4 rfl)) (h9.trans (a3.num hs.pn.1 hs.pn.2 1 rfl)) (h10.trans (a5.num hn.g.1 hn.g.2 4 rfl)) (h11.trans (a6.num hn.l.1 hs.l 3 rfl)) (h12.trans q12.symm)⟩
theorem vals_2 {xs : List Int} {n : NL} (h1 : n.k = 2) (h2 : n.rd = (tk xs 0 8 : Nat)) (h3 : ∀ j, n.e j = ((xs.drop 8).take 10).getD j 0) (h4 : n.t = (tk xs 18 4 : Nat)) (h5 : n.m = (tk xs 23 6 : Nat)) (h7 : n.h = (((tk xs 29 1 : Nat) : Int) == 32)) (hT : n.h = true → n.ip = (tk xs 30 4 : Nat) ∧ n.l = (tk xs 34 3 : Nat) ∧ n.l2 = (tk xs 37 3 : Nat)) (hF : n.h = false → n.ip = 0 ∧ n.l = (tk xs 30 3 : Nat) ∧ n.l2 = (tk xs 33 3 : Nat)) (h8 : n.pi = 0) (h9 : n.pn = 0) (h10 : n.g = 0) (ok : n.Ok) : Vals 2 xs n :=
  ⟨ok, h1, fun m hm hk hv => by
    have hs := small_of hm.2
    obtain ⟨hl, hq, -⟩ := chk_zero hm.2
    have hn := hm.1
    unfold NL.norm at hq
    rw [if_neg (by omega), if_pos hk] at hq
    obtain ⟨q1, q2, q3, q4, q5, q6, q7, q8, q9, q10, q11, q12⟩ := eqb_parts hq
    have e : xs = m.macV := by rw [← hv]; unfold NL.val; rw [if_neg (by omega), if_pos hk]
    have h := ra_start e
    unfold NL.macV at h
    simp only [List.append_assoc] at h
    have a1 := h.mvN
    have a2 := a1.mv (k := 10) rfl
    have a3 := a2.mvN
    have a4 := a3.mvN
    have a5 := a4.mvN
    cases A : m.h with
    | true =>
      rw [A] at a5
      simp only [if_true, ↓reduceIte, List.append_assoc] at a5
      have hh : n.h = true := by
        have : ((tk xs 29 1 : Nat) : Int) = 32 := a5.num (x := 32) (by decide) (by decide) 1 rfl
        rw [h7, this]
        rfl
      have a6 := a5.mvN
      have a7 := a6.mvN
      have a8 := a7.mvN
      obtain ⟨t1, t2, t3⟩ := hT hh
      exact cs_of (h1.trans hk.symm) (h2.trans (h.num hn.rd.1 hn.rd.2 8 rfl)) (fun j hj => (h3 j).trans (ten_is a1 j hj)) (h4.trans (a2.num hn.t.1 hn.t.2 4 rfl)) (h5.trans (a4.num hn.m.1 hs.m 6 rfl)) (t1.trans (a6.num hn.ip.1 hn.ip.2 4 rfl)) (hh.trans A.symm) (h8.trans q8.symm) (h9.trans q9.symm) (h10.trans q10.symm) (t2.trans (a7.num hn.l.1 hs.l 3 rfl)) (t3.trans (dec_l2 hn hs a8))
    | false =>
      rw [A] at a5
      simp only [if_false, ↓reduceIte, Bool.false_eq_true] at a5
      have hh : n.h = false := by
        have : ((tk xs 29 1 : Nat) : Int) = 0 := a5.num (x := 0) (by decide) (by decide) 1 rfl
        rw [h7, this]
        rfl
      have a6 := a5.mvN
      have a8 := a6.mvN
      obtain ⟨t1, t2, t3⟩ := hF hh
      have q6' : m.ip = 0 := by
        have := q6
        simp only [NL.mac, A] at this
        simpa using this
      exact cs_of (h1.trans hk.symm) (h2.trans (h.num hn.rd.1 hn.rd.2 8 rfl)) (fun j hj => (h3 j).trans (ten_is a1 j hj)) (h4.trans (a2.num hn.t.1 hn.t.2 4 rfl)) (h5.trans (a4.num hn.m.1 hs.m 6 rfl)) (t1.trans q6'.symm) (hh.trans A.symm) (h8.trans q8.symm) (h9.trans q9.symm) (h10.trans q10.symm) (t2.trans (a6.num hn.l.1 hs.l 3 rfl)) (t3.trans (dec_l2 hn hs a8))⟩
theorem q_slice {P : Program} {C : World → Prop} {o : Oper} {a : Act} {K : Act → Prop} (t : TypeId) (ht : P.underlying t = some (.slice (P.elem t))) (x l h : Operand) (ho : o.op = .slice t x (some l) (some h) none) (v lo hi r : Value) (hx : a.eval x = v) (hl : a.eval l = lo) (hh : a.eval h = hi) (hC : ∀ w, C w → (Instr.slice t v (some lo) (some hi) none).run P w = .ok r w) (k : K (a.put o.dst r)) : o.quiet P a C K :=
  ⟨r, fun w hw => by
    unfold Oper.quietAt execOp
    simp only [ho, hx, hl, hh, Option.map_some, Option.map_none, Sem.run_bind, run_sliceAt_slice _ _ _ _ _ _ ht, hC w hw, Sem.run_pure, Result.andThen_ok, Oper.quietUpon, and_self], k⟩
end Go.Proofs.Ytejcclcckgdbgaa
