/- The texts of addresses and what they are read as: mathematics. No condition. -/
import Derived.Test.YtipmfcbpkbkceaaDoorGrp
import Derived.Test.YtipmfcbpkbkceaaDoorPxt
import Derived.Test.YtipmfcbpkbkceaaDoorPes
import Derived.Test.YtipmfcbpkbkceaaDoorLow
namespace Go.Proofs.YtipmfcbpkbkceaaDoor
open Go.RowKit Go.Shelf
set_option linter.unusedVariables false
set_option linter.unusedSimpArgs false
set_option maxRecDepth 100000

/-- What a decimal numeral spells, it is the numeral of. -/
theorem dec_grow : ∀ (l : List UInt8) (acc v : Nat), 0 < acc → Lib.parseUintM 255 acc l = .ok v → Lib.decDigits v = Lib.decDigits acc ++ l
  | [], acc, v, _, h => by
    simp [Lib.parseUintM] at h
    rw [h, List.append_nil]
  | c :: r, acc, v, h0, h => by
    rw [Lib.parseUintM] at h
    split at h
    · rename_i hc
      split at h
      · cases h
      · split at h
        · cases h
        · have ih := dec_grow r (acc * 10 + (c.toNat - 48)) v (by omega) h
          rw [ih, Lib.decDigits, dif_neg (by omega), show (acc * 10 + (c.toNat - 48)) / 10 = acc by omega, show (acc * 10 + (c.toNat - 48)) % 10 = c.toNat - 48 by omega, show 48 + (c.toNat - 48) = c.toNat by omega]
          simp
    · cases h
theorem dec_back (g : List UInt8) (b : Nat) (h : decRd ⟨g.toArray⟩ = some b) : g = Lib.decDigits b := by
  unfold decRd at h
  split at h
  · cases h
  · rename_i hz
    simp only at h hz
    cases g with
    | nil => simp [Lib.parseUintB] at h
    | cons c r =>
      have hp : Lib.parseUintM 255 0 (c :: r) = .ok b := by
        have e : Lib.parseUintB 8 (c :: r) = Lib.parseUintM 255 0 (c :: r) := by simp [Lib.parseUintB]
        rw [e] at h
        split at h
        · rename_i u hu
          rw [hu]
          simpa using h
        · cases h
      rw [Lib.parseUintM] at hp
      split at hp
      · rename_i hc
        split at hp
        · cases hp
        · split at hp
          · cases hp
          · rw [Nat.zero_mul, Nat.zero_add] at hp
            by_cases hd : c.toNat - 48 = 0
            · have hc48 : c = 48 := UInt8.toNat_inj.1 (by show c.toNat = 48; omega)
              subst hc48
              have hr : r = [] := by
                cases r with
                | nil => rfl
                | cons x y =>
                  exfalso
                  apply hz
                  refine ⟨?_, rfl⟩
                  simp [ByteArray.size]
              subst hr
              simp [Lib.parseUintM] at hp
              subst hp
              rw [Lib.decDigits_one (by decide)]
              rfl
            · have ih := dec_grow r (c.toNat - 48) b (by omega) hp
              rw [ih, Lib.decDigits_one (by omega), show 48 + (c.toNat - 48) = c.toNat by omega]
              simp
      · cases hp
def txH (b : Nat) : List UInt8 := [UInt8.ofNat (hexd (b / 16)), UInt8.ofNat (hexd (b % 16))]
theorem hex_reads : ∀ b, b < 256 → hexRd ⟨(txH b).toArray⟩ = some b := by decide +kernel
theorem hex_plain : ∀ b, b < 256 → (58 : UInt8) ∉ txH b := by decide +kernel
def lowB (c : UInt8) : UInt8 := UInt8.ofNat (lowI (c.toNat : Int)).toNat
theorem hexv_low : ∀ c : Nat, c < 256 → ∀ d, d < 256 → hexv c = some d → d < 16 ∧ UInt8.ofNat (lowI (c : Int)).toNat = UInt8.ofNat (hexd d) := by decide +kernel
theorem hexv_le (c d : Nat) (hc : c < 256) (h : hexv c = some d) : d < 256 := by
  have := hexv_lt c hc d h
  omega
theorem hex_back (g : List UInt8) (b : Nat) (h : hexRd ⟨g.toArray⟩ = some b) : g.map lowB = txH b := by
  unfold hexRd at h
  split at h
  · rename_i hs
    have hl : g.length = 2 := by simpa [ByteArray.size] using hs
    match g, hl with
    | [x, y], _ =>
      have hx := x.toNat_lt
      have hy := y.toNat_lt
      skip
      cases h1 : hexv x.toNat with
      | none => simp [hexM, h1] at h
      | some d =>
        cases h2 : hexv y.toNat with
        | none => simp [hexM, h1, h2] at h
        | some e =>
          simp [hexM, h1, h2] at h
          obtain ⟨a1, a2⟩ := hexv_low x.toNat hx d (hexv_le _ _ hx h1) h1
          obtain ⟨b1, b2⟩ := hexv_low y.toNat hy e (hexv_le _ _ hy h2) h2
          subst h
          show [lowB x, lowB y] = _
          unfold txH lowB
          rw [a2, b2, show (d * 16 + e) / 16 = d by omega, show (d * 16 + e) % 16 = e by omega]
  · cases h
theorem strOf_nat (l : List Nat) : strOfNums (l.map (fun b : Nat => (b : Int))) = ⟨(l.map UInt8.ofNat).toArray⟩ := by
  simp [strOfNums]
theorem dec_txt (b : Nat) : (decTxt b).map UInt8.ofNat = Lib.decDigits b := by
  unfold decTxt
  rw [List.map_map]
  exact (List.map_congr_left (g := id) fun x _ => by simp).trans (List.map_id _)
theorem hex_txt (b : Nat) : (hexTxt b).map UInt8.ofNat = txH b := rfl
def ipL (m : Int) : List Nat := [(bytIP m 0).toNat, (bytIP m 1).toNat, (bytIP m 2).toNat, (bytIP m 3).toNat]
def macL (m : Int) : List Nat := [(bytMAC m 0).toNat, (bytMAC m 1).toNat, (bytMAC m 2).toNat, (bytMAC m 3).toNat, (bytMAC m 4).toNat, (bytMAC m 5).toNat]
def esiL (e : Nat → Int) : List Nat := [(e 0).toNat, (e 1).toNat, (e 2).toNat, (e 3).toNat, (e 4).toNat, (e 5).toNat, (e 6).toNat, (e 7).toNat, (e 8).toNat, (e 9).toNat]
theorem wrt_ip (txt : Nat → List Nat) (e : Nat → Nat) : wrt 46 txt e (upto finIP 4) = txt (e 0) ++ [46] ++ txt (e 1) ++ [46] ++ txt (e 2) ++ [46] ++ txt (e 3) := rfl
theorem ipStr_is (m : Int) : ipStr m = ⟨(jn 46 ((ipL m).map Lib.decDigits)).toArray⟩ := by
  unfold ipStr
  rw [strOf_nat]
  rw [wrt_ip]
  refine congrArg (fun l : List UInt8 => (⟨l.toArray⟩ : ByteArray)) ?_
  simp only [List.map_append, List.map_cons, List.map_nil, dec_txt, ipL, jn, List.append_assoc, List.cons_append, List.nil_append, show UInt8.ofNat 46 = 46 from rfl, show UInt8.ofNat 58 = 58 from rfl]
theorem wrt_mac (txt : Nat → List Nat) (e : Nat → Nat) : wrt 58 txt e (upto finMAC 6) = txt (e 0) ++ [58] ++ txt (e 1) ++ [58] ++ txt (e 2) ++ [58] ++ txt (e 3) ++ [58] ++ txt (e 4) ++ [58] ++ txt (e 5) := rfl
theorem macStr_is (m : Int) : macStr m = ⟨(jn 58 ((macL m).map txH)).toArray⟩ := by
  unfold macStr
  rw [strOf_nat]
  rw [wrt_mac]
  refine congrArg (fun l : List UInt8 => (⟨l.toArray⟩ : ByteArray)) ?_
  simp only [List.map_append, List.map_cons, List.map_nil, hex_txt, macL, jn, List.append_assoc, List.cons_append, List.nil_append, show UInt8.ofNat 46 = 46 from rfl, show UInt8.ofNat 58 = 58 from rfl]
theorem wrt_esi (txt : Nat → List Nat) (e : Nat → Nat) : wrt 58 txt e (upto fin 10) = txt (e 0) ++ [58] ++ txt (e 1) ++ [58] ++ txt (e 2) ++ [58] ++ txt (e 3) ++ [58] ++ txt (e 4) ++ [58] ++ txt (e 5) ++ [58] ++ txt (e 6) ++ [58] ++ txt (e 7) ++ [58] ++ txt (e 8) ++ [58] ++ txt (e 9) := rfl
theorem esiStr_is (e : Nat → Int) : esiStr e = ⟨(jn 58 ((esiL e).map txH)).toArray⟩ := by
  unfold esiStr
  rw [strOf_nat]
  rw [wrt_esi]
  refine congrArg (fun l : List UInt8 => (⟨l.toArray⟩ : ByteArray)) ?_
  simp only [List.map_append, List.map_cons, List.map_nil, hex_txt, esiL, jn, List.append_assoc, List.cons_append, List.nil_append, show UInt8.ofNat 46 = 46 from rfl, show UInt8.ofNat 58 = 58 from rfl]
theorem ipL_lt (m : Int) : ∀ b ∈ ipL m, b < 256 := by
  have key : ∀ i, (bytIP m i).toNat < 256 := fun i => by
    unfold bytIP
    have := Int.emod_nonneg (m / 2 ^ (8 * (3 - i))) (show (256 : Int) ≠ 0 by decide)
    have := Int.emod_lt_of_pos (m / 2 ^ (8 * (3 - i))) (show (0 : Int) < 256 by decide)
    omega
  intro b hb
  simp only [ipL, List.mem_cons, List.not_mem_nil, or_false] at hb
  rcases hb with rfl | rfl | rfl | rfl <;> exact key _
theorem macL_lt (m : Int) : ∀ b ∈ macL m, b < 256 := by
  have key : ∀ i, (bytMAC m i).toNat < 256 := fun i => by
    unfold bytMAC
    have := Int.emod_nonneg (m / 2 ^ (8 * (5 - i))) (show (256 : Int) ≠ 0 by decide)
    have := Int.emod_lt_of_pos (m / 2 ^ (8 * (5 - i))) (show (0 : Int) < 256 by decide)
    omega
  intro b hb
  simp only [macL, List.mem_cons, List.not_mem_nil, or_false] at hb
  rcases hb with rfl | rfl | rfl | rfl | rfl | rfl <;> exact key _
theorem esiL_lt (e : Nat → Int) (h : ∀ j, 0 ≤ e j ∧ e j < 256) : ∀ b ∈ esiL e, b < 256 := by
  have key : ∀ i, (e i).toNat < 256 := fun i => by have := h i; omega
  intro b hb
  simp only [esiL, List.mem_cons, List.not_mem_nil, or_false] at hb
  rcases hb with rfl | rfl | rfl | rfl | rfl | rfl | rfl | rfl | rfl | rfl <;> exact key _
theorem numB_ip (m : Int) (h0 : 0 ≤ m) (h1 : m < 4294967296) : ((numB (ipL m) : Nat) : Int) = m := by
  obtain ⟨q1, hq1⟩ : ∃ q, q = m / 256 := ⟨_, rfl⟩
  obtain ⟨q2, hq2⟩ : ∃ q, q = q1 / 256 := ⟨_, rfl⟩
  obtain ⟨q3, hq3⟩ : ∃ q, q = q2 / 256 := ⟨_, rfl⟩
  have a2 : m / 65536 = q2 := by omega
  have a3 : m / 16777216 = q3 := by omega
  have t0 : ((m % 256).toNat : Int) = m % 256 := Int.toNat_of_nonneg (by omega)
  have t1 : ((q1 % 256).toNat : Int) = q1 % 256 := Int.toNat_of_nonneg (by omega)
  have t2 : ((q2 % 256).toNat : Int) = q2 % 256 := Int.toNat_of_nonneg (by omega)
  have t3 : ((q3 % 256).toNat : Int) = q3 % 256 := Int.toNat_of_nonneg (by omega)
  simp only [numB, ipL, List.foldl, bytIP, show (2 : Int) ^ (8 * (3 - 0)) = 16777216 from rfl, show (2 : Int) ^ (8 * (3 - 1)) = 65536 from rfl, show (2 : Int) ^ (8 * (3 - 2)) = 256 from rfl, show (2 : Int) ^ (8 * (3 - 3)) = 1 from rfl, Int.ediv_one, a2, a3, ← hq1, Int.natCast_add, Int.natCast_mul, t0, t1, t2, t3]
  omega
theorem numB_mac (m : Int) (h0 : 0 ≤ m) (h1 : m < 281474976710656) : ((numB (macL m) : Nat) : Int) = m := by
  obtain ⟨q1, hq1⟩ : ∃ q, q = m / 256 := ⟨_, rfl⟩
  obtain ⟨q2, hq2⟩ : ∃ q, q = q1 / 256 := ⟨_, rfl⟩
  obtain ⟨q3, hq3⟩ : ∃ q, q = q2 / 256 := ⟨_, rfl⟩
  obtain ⟨q4, hq4⟩ : ∃ q, q = q3 / 256 := ⟨_, rfl⟩
  obtain ⟨q5, hq5⟩ : ∃ q, q = q4 / 256 := ⟨_, rfl⟩
  have a2 : m / 65536 = q2 := by omega
  have a3 : m / 16777216 = q3 := by omega
  have a4 : m / 4294967296 = q4 := by omega
  have a5 : m / 1099511627776 = q5 := by omega
  have t0 : ((m % 256).toNat : Int) = m % 256 := Int.toNat_of_nonneg (by omega)
  have t1 : ((q1 % 256).toNat : Int) = q1 % 256 := Int.toNat_of_nonneg (by omega)
  have t2 : ((q2 % 256).toNat : Int) = q2 % 256 := Int.toNat_of_nonneg (by omega)
  have t3 : ((q3 % 256).toNat : Int) = q3 % 256 := Int.toNat_of_nonneg (by omega)
  have t4 : ((q4 % 256).toNat : Int) = q4 % 256 := Int.toNat_of_nonneg (by omega)
  have t5 : ((q5 % 256).toNat : Int) = q5 % 256 := Int.toNat_of_nonneg (by omega)
  simp only [numB, macL, List.foldl, bytMAC, show (2 : Int) ^ (8 * (5 - 0)) = 1099511627776 from rfl, show (2 : Int) ^ (8 * (5 - 1)) = 4294967296 from rfl, show (2 : Int) ^ (8 * (5 - 2)) = 16777216 from rfl, show (2 : Int) ^ (8 * (5 - 3)) = 65536 from rfl, show (2 : Int) ^ (8 * (5 - 4)) = 256 from rfl, show (2 : Int) ^ (8 * (5 - 5)) = 1 from rfl, Int.ediv_one, a2, a3, a4, a5, ← hq1, Int.natCast_add, Int.natCast_mul, t0, t1, t2, t3, t4, t5]
  omega
theorem ipL_numB (l : List Nat) (hl : l.length = 4) (hb : ∀ b ∈ l, b < 256) : ipL ((numB l : Nat) : Int) = l := by
  match l, hl with
  | [a, b, c, d], _ =>
    have ha := hb a (by simp)
    have hbb := hb b (by simp)
    have hc := hb c (by simp)
    have hd := hb d (by simp)
    simp only [numB, ipL, List.foldl, bytIP]
    simp only [show (2 : Int) ^ (8 * (3 - 0)) = 16777216 from rfl, show (2 : Int) ^ (8 * (3 - 1)) = 65536 from rfl, show (2 : Int) ^ (8 * (3 - 2)) = 256 from rfl, show (2 : Int) ^ (8 * (3 - 3)) = 1 from rfl]
    refine congr (congrArg _ ?_) (congr (congrArg _ ?_) (congr (congrArg _ ?_) (congr (congrArg _ ?_) rfl))) <;> omega
theorem macL_numB (l : List Nat) (hl : l.length = 6) (hb : ∀ b ∈ l, b < 256) : macL ((numB l : Nat) : Int) = l := by
  match l, hl with
  | [a, b, c, d, e, f], _ =>
    have ha := hb a (by simp)
    have hbb := hb b (by simp)
    have hc := hb c (by simp)
    have hd := hb d (by simp)
    have he := hb e (by simp)
    have hf := hb f (by simp)
    simp only [numB, macL, List.foldl, bytMAC]
    simp only [show (2 : Int) ^ (8 * (5 - 0)) = 1099511627776 from rfl, show (2 : Int) ^ (8 * (5 - 1)) = 4294967296 from rfl, show (2 : Int) ^ (8 * (5 - 2)) = 16777216 from rfl, show (2 : Int) ^ (8 * (5 - 3)) = 65536 from rfl, show (2 : Int) ^ (8 * (5 - 4)) = 256 from rfl, show (2 : Int) ^ (8 * (5 - 5)) = 1 from rfl]
    refine congr (congrArg _ ?_) (congr (congrArg _ ?_) (congr (congrArg _ ?_) (congr (congrArg _ ?_) (congr (congrArg _ ?_) (congr (congrArg _ ?_) rfl))))) <;> omega
theorem esiL_of (l : List Nat) (hl : l.length = 10) : esiL (fun j => ((l.getD j 0 : Nat) : Int)) = l := by
  match l, hl with
  | [a, b, c, d, e, f, g, h, i, j], _ => simp [esiL]
/-- Reading back what was written. -/
theorem ip_back (m : Int) : groups 46 decRd 4 (jn 46 ((ipL m).map Lib.decDigits)) = some (ipL m) := groups_of 46 decRd Lib.decDigits dec_reads dec_plain (ipL m) (by simp [ipL]) (ipL_lt m)
theorem mac_back (m : Int) : groups 58 hexRd 6 (jn 58 ((macL m).map txH)) = some (macL m) := groups_of 58 hexRd txH hex_reads hex_plain (macL m) (by simp [macL]) (macL_lt m)
theorem esi_back (e : Nat → Int) (h : ∀ j, 0 ≤ e j ∧ e j < 256) : groups 58 hexRd 10 (jn 58 ((esiL e).map txH)) = some (esiL e) := groups_of 58 hexRd txH hex_reads hex_plain (esiL e) (by simp [esiL]) (esiL_lt e h)
theorem map_some_eq {α : Type} {l : List Nat} {gs : List α} {f : α → Option Nat} {k : α → List UInt8} {t : Nat → List UInt8} (hk : ∀ g b, f g = some b → k g = t b) : gs.map f = l.map some → gs.map k = l.map t := by
  induction gs generalizing l with
  | nil =>
    intro h
    cases l with
    | nil => rfl
    | cons x l => simp at h
  | cons g gs ih =>
    intro h
    cases l with
    | nil => simp at h
    | cons x l =>
      simp only [List.map_cons, List.cons.injEq] at h ⊢
      exact ⟨hk g x h.1, ih h.2⟩
theorem jn_map (c : UInt8) (f : UInt8 → UInt8) (hc : f c = c) : ∀ gs : List (List UInt8), (jn c gs).map f = jn c (gs.map (List.map f))
  | [] => rfl
  | [g] => rfl
  | g :: g' :: r => by
    have ih := jn_map c f hc (g' :: r)
    show (g ++ c :: jn c (g' :: r)).map f = g.map f ++ c :: jn c ((g' :: r).map (List.map f))
    rw [List.map_append, List.map_cons, hc, ih]
theorem ip_fwd (s : List UInt8) (l : List Nat) (h : groups 46 decRd 4 s = some l) : l.length = 4 ∧ s = jn 46 (l.map Lib.decDigits) := by
  obtain ⟨gs, rfl, hl, -, hm⟩ := groups_back 46 decRd 4 s l h
  refine ⟨by have := congrArg List.length hm; simpa [hl] using this.symm, ?_⟩
  have := map_some_eq (k := id) (t := Lib.decDigits) (fun g b hg => dec_back g b hg) hm
  rw [List.map_id] at this
  rw [this]
theorem hex_fwd (n : Nat) (s : List UInt8) (l : List Nat) (h : groups 58 hexRd n s = some l) : l.length = n ∧ s.map lowB = jn 58 (l.map txH) := by
  obtain ⟨gs, rfl, hl, -, hm⟩ := groups_back 58 hexRd n s l h
  refine ⟨by have := congrArg List.length hm; simpa [hl] using this.symm, ?_⟩
  rw [jn_map 58 lowB (by decide), map_some_eq (k := List.map lowB) (t := txH) (fun g b hg => hex_back g b hg) hm]
theorem lowStr_is (s : List UInt8) : lowStr s = ⟨(s.map lowB).toArray⟩ := by
  unfold lowStr strOfNums lowB
  simp
theorem jn_plain (c d : UInt8) (hcd : d ≠ c) : ∀ gs : List (List UInt8), (∀ g ∈ gs, d ∉ g) → d ∉ jn c gs
  | [], _ => by simp [jn]
  | [g], h => h g (by simp)
  | g :: g' :: r, h => by
    have ih := jn_plain c d hcd (g' :: r) fun x hx => h x (List.mem_cons_of_mem _ hx)
    show d ∉ g ++ c :: jn c (g' :: r)
    simp only [List.mem_append, List.mem_cons, not_or]
    exact ⟨h g (by simp), hcd, ih⟩
theorem dec_plain47 : ∀ b, b < 256 → (47 : UInt8) ∉ Lib.decDigits b := by decide +kernel
theorem bytes_join (a b : List UInt8) (c : UInt8) : (⟨a.toArray⟩ : ByteArray) ++ ⟨#[c]⟩ ++ ⟨b.toArray⟩ = ⟨(a ++ c :: b).toArray⟩ := by
  apply ByteArray.ext
  simp [ByteArray.data_append]
def pfxL (a : Int) (n : Nat) : List UInt8 := jn 46 ((ipL a).map Lib.decDigits) ++ 47 :: Lib.decDigits n
theorem pfxStr_is (a : Int) (n : Nat) : pfxStr a n = ⟨(pfxL a n).toArray⟩ := by
  unfold pfxStr
  rw [ipStr_is, bytes_join]
  rfl
theorem pfx_plain (a : Int) : (47 : UInt8) ∉ jn 46 ((ipL a).map Lib.decDigits) := jn_plain 46 47 (by decide) _ fun g hg => by
  obtain ⟨b, hb, rfl⟩ := List.mem_map.1 hg
  exact dec_plain47 b (ipL_lt a b hb)
theorem pfx_back (a : Int) (n : Nat) (h0 : 0 ≤ a) (h1 : a < 4294967296) (hn : n ≤ 32) (hc : cln a n = a) : pfxRes (pfxL a n) = .tuple #[.agg #[.int .u32 a, .int .i64 (n : Int)], .int .i64 0] := by
  unfold pfxRes pfxL
  rw [cut_hit1 47 _ _ (pfx_plain a)]
  simp only [ip_back, dec_reads n (by omega), numB_ip a h0 h1]
  rw [if_pos hn, if_pos hc]
theorem dec_nil : decRd ⟨#[]⟩ = none := by decide +kernel
/-- What ParsePrefix takes is the text of what it returns. -/
theorem pfx_fwd (s : List UInt8) : (∃ (a n : Nat), pfxRes s = .tuple #[.agg #[.int .u32 (a : Int), .int .i64 (n : Int)], .int .i64 0] ∧ a < 4294967296 ∧ n ≤ 32 ∧ pfxStr a n = ⟨s.toArray⟩) ∨ pfxRes s = pfxErr 3 ∨ pfxRes s = pfxErr 19 := by
  rcases cut_cases 47 s with hs | ⟨g, t, rfl, hg⟩
  · refine .inr (.inr ?_)
    unfold pfxRes
    rw [cut_miss1 47 s hs]
    simp only [show ([] : List UInt8).toArray = #[] from rfl, dec_nil]
    split
    · rename_i h
      cases h
    · rfl
  · unfold pfxRes
    rw [cut_hit1 47 g t hg]
    simp only
    cases h1 : groups 46 decRd 4 g with
    | none => exact .inr (.inr rfl)
    | some l =>
      cases h2 : decRd ⟨t.toArray⟩ with
      | none => exact .inr (.inr rfl)
      | some n =>
        simp only
        by_cases h3 : n ≤ 32
        · rw [if_pos h3]
          by_cases h4 : cln (numB l) n = numB l
          · rw [if_pos h4]
            obtain ⟨hl, hgj⟩ := ip_fwd g l h1
            have hlt := groups_lt (c := 46) (rd := decRd) (fun s v h => decRd_lt h) 4 g l h1
            refine .inl ⟨numB l, n, rfl, ?_, h3, ?_⟩
            · have := numB_lt l 4 hlt (by omega)
              rw [List.take_of_length_le (by omega)] at this
              simpa using this
            · rw [pfxStr_is]
              unfold pfxL
              rw [ipL_numB l hl hlt, ← hgj, ← dec_back t n h2]
          · rw [if_neg h4]
            exact .inr (.inl rfl)
        · rw [if_neg h3]
          exact .inr (.inr rfl)
theorem ip_res (s : List UInt8) : (∃ a : Nat, numResIP (groups 46 decRd 4 s) = .tuple #[.int .u32 (a : Int), .int .i64 0] ∧ a < 4294967296 ∧ ipStr a = ⟨s.toArray⟩) ∨ numResIP (groups 46 decRd 4 s) = .tuple #[.int .u32 0, .int .i64 19] := by
  cases h : groups 46 decRd 4 s with
  | none => exact .inr rfl
  | some l =>
    obtain ⟨hl, hs⟩ := ip_fwd s l h
    have hlt := groups_lt (c := 46) (rd := decRd) (fun s v h => decRd_lt h) 4 s l h
    refine .inl ⟨numB l, rfl, ?_, ?_⟩
    · have := numB_lt l 4 hlt (by omega)
      rw [List.take_of_length_le (by omega)] at this
      simpa using this
    · rw [ipStr_is, ipL_numB l hl hlt, ← hs]
theorem mac_res (s : List UInt8) : (∃ a : Nat, numResMAC (groups 58 hexRd 6 s) = .tuple #[.int .u64 (a : Int), .int .i64 0] ∧ a ≤ 281474976710655 ∧ macStr a = lowStr s) ∨ numResMAC (groups 58 hexRd 6 s) = .tuple #[.int .u64 0, .int .i64 19] := by
  cases h : groups 58 hexRd 6 s with
  | none => exact .inr rfl
  | some l =>
    obtain ⟨hl, hs⟩ := hex_fwd 6 s l h
    have hlt := groups_lt (c := 58) (rd := hexRd) (fun s v h => hexRd_lt h) 6 s l h
    refine .inl ⟨numB l, rfl, ?_, ?_⟩
    · have := numB_lt l 6 hlt (by omega)
      rw [List.take_of_length_le (by omega)] at this
      have e : (256 : Nat) ^ 6 = 281474976710656 := by decide
      omega
    · rw [macStr_is, macL_numB l hl hlt, lowStr_is, hs]
theorem esi_res (s : List UInt8) : (∃ e : Nat → Int, esiRes (groups 58 hexRd 10 s) = .tuple #[.agg #[.int .u8 (e 0), .int .u8 (e 1), .int .u8 (e 2), .int .u8 (e 3), .int .u8 (e 4), .int .u8 (e 5), .int .u8 (e 6), .int .u8 (e 7), .int .u8 (e 8), .int .u8 (e 9)], .int .i64 0] ∧ (∀ j, 0 ≤ e j ∧ e j < 256) ∧ esiStr e = lowStr s) ∨ esiRes (groups 58 hexRd 10 s) = .tuple #[.agg #[.int .u8 0, .int .u8 0, .int .u8 0, .int .u8 0, .int .u8 0, .int .u8 0, .int .u8 0, .int .u8 0, .int .u8 0, .int .u8 0], .int .i64 19] := by
  cases h : groups 58 hexRd 10 s with
  | none => exact .inr rfl
  | some l =>
    obtain ⟨hl, hs⟩ := hex_fwd 10 s l h
    have hlt := groups_lt (c := 58) (rd := hexRd) (fun s v h => hexRd_lt h) 10 s l h
    refine .inl ⟨fun j => ((l.getD j 0 : Nat) : Int), ?_, ?_, ?_⟩
    · match l, hl with
      | [a, b, c, d, e, f, g, h, i, j], _ => rfl
    · intro j
      have : l.getD j 0 < 256 := by
        rw [List.getD_eq_getElem?_getD]
        cases h : l[j]? with
        | none => decide
        | some x => exact hlt x (List.mem_of_getElem? h)
      show (0 : Int) ≤ ((l.getD j 0 : Nat) : Int) ∧ ((l.getD j 0 : Nat) : Int) < 256
      omega
    · rw [esiStr_is, esiL_of l hl, lowStr_is, hs]
end Go.Proofs.YtipmfcbpkbkceaaDoor
