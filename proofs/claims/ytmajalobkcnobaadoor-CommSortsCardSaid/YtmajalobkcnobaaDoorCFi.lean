/- The first community of a kind, and what the getters read from it. No condition. -/
import Derived.Test.YtmajalobkcnobaaDoorCTw
namespace Go.Proofs.YtmajalobkcnobaaDoor
open Go.RowKit Go.Sort
set_option linter.unusedVariables false
set_option linter.unusedSimpArgs false
set_option maxRecDepth 100000

theorem and_mask (x : Int) (k : Nat) (h0 : 0 ≤ x) (h1 : x < 18446744073709551616) (hk : k ≤ 63) : bits .and .u64 x (2 ^ k - 1) = x % 2 ^ k := by
  have hp : (0 : Int) < 2 ^ k := Int.pow_pos (by decide)
  have hq : (2 : Int) ^ k ≤ 2 ^ 63 := by
    have := Nat.pow_le_pow_right (n := 2) (by decide) hk
    exact_mod_cast this
  rw [u64_and _ _ h0 h1 (by omega) (by omega)]
  obtain ⟨X, rfl⟩ := Int.eq_ofNat_of_zero_le h0
  have e : ((2 : Int) ^ k - 1).toNat = 2 ^ k - 1 := by
    have : ((2 ^ k : Nat) : Int) = (2 : Int) ^ k := by push_cast; rfl
    omega
  rw [e, Int.toNat_natCast, Nat.and_two_pow_sub_one_eq_mod]
  push_cast
  rfl

/-- The flag of a content. -/
def fg (n : Int) : Bool := decide (n / 1099511627776 % 2 = 1)
theorem isflag_is (n : Int) (h0 : 0 ≤ n) (h1 : n < 18446744073709551616) (w : World) : Calls Tryd.prog 54 #[.int .u64 n] w fun r w' => r = .returned (.bool (fg n)) ∧ w = w' := by
  have ha : bits .and .u64 (n / 1099511627776) 1 = n / 1099511627776 % 2 := and_mask (n / 1099511627776) 1 (by omega) (by omega) (by decide)
  have hf : (n / 1099511627776 % 2 != 0) = fg n := by
    unfold fg
    have : n / 1099511627776 % 2 = 0 ∨ n / 1099511627776 % 2 = 1 := by omega
    rcases this with h | h <;> simp [h]
  generalize fg n = b at hf ⊢
  go_enter Tryd.func54, Tryd.ntmps54
  go_wp2
  go_ret
  exact ⟨rfl, rfl⟩
theorem dec_encap (n : Int) (h0 : 0 ≤ n) (h1 : n < 281474976710656) (w : World) : Calls Tryd.prog 64 #[.int .u64 n] w fun r w' => r = .returned (.int .i64 (n % 65536)) ∧ Below w.heap.size w w' := by
  have hw : IntKind.u16.wrap n = n % 65536 := by simp [IntKind.wrap, IntKind.bits, IntKind.signed]
  have q0 : 0 ≤ n % 65536 := by omega
  have q1 : n % 65536 < 65536 := by omega
  generalize n % 65536 = q at hw q0 q1 ⊢
  go_enter Tryd.func64, Tryd.ntmps64
  go_wp2
  go_ret
  exact ⟨rfl, Below.refl _ _⟩
theorem dec_addr (n : Int) (h0 : 0 ≤ n) (h1 : n < 281474976710656) (w : World) : Calls Tryd.prog 67 #[.int .u64 n] w fun r w' => r = .returned (.int .u64 n) ∧ Below w.heap.size w w' := by
  go_enter Tryd.func67, Tryd.ntmps67
  go_wp2
  go_ret
  exact ⟨rfl, Below.refl _ _⟩
theorem dec_mob (n : Int) (h0 : 0 ≤ n) (h1 : n < 281474976710656) (w : World) : Calls Tryd.prog 53 #[.int .u64 n] w fun r w' => r = .returned (.agg #[.bool (fg n), .int .u32 (n % 4294967296)]) ∧ Below w.heap.size w w' := by
  go_enter Tryd.func53, Tryd.ntmps53
  go_wp2_with (go_at_call 54; refine (isflag_is n h0 (by omega) _).mono ?_; rintro r w1 ⟨rfl, rfl⟩)
  refine bodyPost_ret (v := .agg #[.bool (fg n), .int .u32 (n % 4294967296)]) (by simp [results, Tryd.results53, go_sem]) rfl ⟨rfl, ?_⟩
  exact (Below.refl _ _).alloc (Nat.le_refl _) _
theorem dec_lab (n : Int) (h0 : 0 ≤ n) (h1 : n < 281474976710656) (w : World) : Calls Tryd.prog 55 #[.int .u64 n] w fun r w' => r = .returned (.agg #[.bool (fg n), .int .u32 (n % 16777216)]) ∧ Below w.heap.size w w' := by
  have ha : bits .and .u64 n 16777215 = n % 16777216 := and_mask n 24 (by omega) (by omega) (by decide)
  have m0 : 0 ≤ n % 16777216 := by omega
  have m1 : n % 16777216 < 16777216 := by omega
  generalize n % 16777216 = m at ha m0 m1 ⊢
  go_enter Tryd.func55, Tryd.ntmps55
  go_wp2_with (go_at_call 54; refine (isflag_is n h0 (by omega) _).mono ?_; rintro r w1 ⟨rfl, rfl⟩)
  refine bodyPost_ret (v := .agg #[.bool (fg n), .int .u32 m]) (by simp [results, Tryd.results55, go_sem]) rfl ⟨rfl, ?_⟩
  exact (Below.refl _ _).alloc (Nat.le_refl _) _
theorem dec_el (n : Int) (h0 : 0 ≤ n) (h1 : n < 281474976710656) (w : World) : Calls Tryd.prog 69 #[.int .u64 n] w fun r w' => r = .returned (.agg #[.int .i64 (n / 1099511627776 % 32), .int .i64 (n % 65536)]) ∧ Below w.heap.size w w' := by
  have ha : bits .and .u64 (n / 1099511627776) 31 = n / 1099511627776 % 32 := and_mask (n / 1099511627776) 5 (by omega) (by omega) (by decide)
  have m0 : 0 ≤ n / 1099511627776 % 32 := by omega
  have m1 : n / 1099511627776 % 32 < 32 := by omega
  generalize n / 1099511627776 % 32 = m at ha m0 m1 ⊢
  have hw : IntKind.u16.wrap n = n % 65536 := by simp [IntKind.wrap, IntKind.bits, IntKind.signed]
  have q0 : 0 ≤ n % 65536 := by omega
  have q1 : n % 65536 < 65536 := by omega
  generalize n % 65536 = q at hw q0 q1 ⊢
  go_enter Tryd.func69, Tryd.ntmps69
  go_wp2
  refine bodyPost_ret (v := .agg #[.int .i64 m, .int .i64 q]) (by simp [results, Tryd.results69, go_sem]) rfl ⟨rfl, ?_⟩
  exact (Below.refl _ _).alloc (Nat.le_refl _) _

/-- The first community of a kind. -/
def fk (k : Nat) (E : List (Nat → Int)) : Option (Nat → Int) := E.find? fun e => decide (kd (e 0) (e 1) = k)
/-- None of the first i is of the kind. -/
def Nk (k : Nat) (E : List (Nat → Int)) (i : Nat) : Prop := ∀ j e, j < i → E[j]? = some e → kd (e 0) (e 1) ≠ k
theorem Nk.step {k : Nat} {E : List (Nat → Int)} {i : Nat} {e : Nat → Int} (h : Nk k E i) (he : E[i]? = some e) (hn : kd (e 0) (e 1) ≠ k) : Nk k E (i + 1) := fun j x hj hx => by
  rcases Nat.lt_succ_iff_lt_or_eq.1 hj with h' | rfl
  · exact h j x h' hx
  · obtain rfl := Option.some.inj (he.symm.trans hx)
    exact hn
theorem Nk.none {k : Nat} {E : List (Nat → Int)} (h : Nk k E E.length) : fk k E = .none := by
  unfold fk
  rw [List.find?_eq_none]
  intro e he
  obtain ⟨j, hj, rfl⟩ := List.getElem_of_mem he
  simpa using h j _ hj (by simp [hj])
theorem Nk.some {k : Nat} {E : List (Nat → Int)} {i : Nat} {e : Nat → Int} (h : Nk k E i) (he : E[i]? = some e) (hk : kd (e 0) (e 1) = k) : fk k E = some e := by
  induction E generalizing i with
  | nil => simp at he
  | cons x E ih =>
    unfold fk
    cases i with
    | zero =>
      simp only [List.getElem?_cons_zero, Option.some.injEq] at he
      subst he
      simp [hk]
    | succ i =>
      have h0 := h 0 x (by omega) (by simp)
      rw [List.find?_cons_of_neg (by simpa using h0)]
      exact ih (i := i) (fun j y hj hy => h (j + 1) y (by omega) (by simpa using hy)) (by simpa using he)

/-- What it returns. -/
def encapV : Option (Nat → Int) → Value
  | none => .tuple #[.int .i64 0, .bool false]
  | some e => .tuple #[.int .i64 (ct e 6 % 65536), .bool true]
set_option maxHeartbeats 4000000 in
theorem first_encap (k : Nat) (E : List (Nat → Int)) (hE : E.length ≤ 1000000) (hO : ∀ e ∈ E, O8 e) (v : Value) (w : World) (hv : CSeg w v E) (hK : KI w) :
    Calls Tryd.prog 63 #[v, .int .i64 k, .func (.func 64) #[] #[]] w fun r w' => r = .returned (encapV (fk k E)) ∧ Below w.heap.size w w' := by
  obtain ⟨a, c, rfl, hc, hx⟩ := hv
  have HX := Lib.hid hx
  clear hx
  generalize hR : encapV (fk k E) = R
  have HR := Lib.hid hR
  clear hR
  go_enter Tryd.func63, Tryd.ntmps63
  go_wp2_with fail
  have hb1 := Below.refl w.heap.size w
  go_loopw [13] (fun vi wr => ∃ (i : Nat), i ≤ E.length ∧ vi = .int .i64 i ∧ Below w.heap.size w wr ∧ Hid (Nk k E i)) (fun vi _ => E.length - (intOf vi).toNat)
  case atStart => exact ⟨0, Nat.zero_le _, rfl, Below.refl _ _, Lib.hid (fun j e hj _ => absurd hj (Nat.not_lt_zero _))⟩
  case round =>
    obtain ⟨i, hi, rfl, hB, hN⟩ := hrel
    have hW := hb1.trans (hB.mono hb1.size)
    by_cases hlt : i < E.length
    · have hil : (i : Int) < E.length := by omega
      obtain ⟨e, he⟩ : ∃ e, E[i]? = some e := ⟨E[i], by simp [hlt]⟩
      obtain ⟨b, o, rfl, hbw, hr0⟩ := HX.out i e he
      have hr : wr.rangeAt b (o + i * 8) [.int .u8 (e 0), .int .u8 (e 1), .int .u8 (e 2), .int .u8 (e 3), .int .u8 (e 4), .int .u8 (e 5), .int .u8 (e 6), .int .u8 (e 7)] := fun j u hu => (hW.cell (p := ⟨b, o + i * 8 + j, none⟩) hbw).trans (hr0 j u hu)
      have hOe := hO e (List.mem_of_getElem? he)
      have hKr := hK.below hW hK.lt
      have BW : Below wr.heap.size wr (wr.alloc (.cells #[.int .u8 (e 0), .int .u8 (e 1), .int .u8 (e 2), .int .u8 (e 3), .int .u8 (e 4), .int .u8 (e 5), .int .u8 (e 6), .int .u8 (e 7)] 24)) := (Below.refl _ _).alloc (Nat.le_refl _) _
      have c0 := (ct_bd hOe 6 (Nat.le_refl _)).1
      have c1 := ct_lt hOe 6 (Nat.le_refl _)
      clear hr0
      by_cases h1 : kd (e 0) (e 1) = k
      · have HF := Lib.hid (show encapV (some e) = R by rw [← HR.out, hN.out.some he h1])
        have H1 := Lib.hid h1
        clear h1 he hlt hN HX
        go_upto_region 3 with fail
        refine wp_region_lit ?_
        iterate 3 go_step
        refine wpList_load_mid rfl 24 (.tmp 15) rfl b (o + i * 8) rfl [.int .u8 (e 0), .int .u8 (e 1), .int .u8 (e 2), .int .u8 (e 3), .int .u8 (e 4), .int .u8 (e 5), .int .u8 (e 6), .int .u8 (e 7)] _ hr Tryd.underlying24 rfl (by kernel_rfl) ?_
        go_wp2_with (go_at_call 18; refine (kind_eq k e H1.out _ (hKr.below BW hKr.lt)).mono ?_; rintro r w2 ⟨rfl, hb2⟩; have B2 := BW.trans (hb2.mono (by simp)); have x1 := (Bx.new wr e 24).below hb2 (by simp); obtain ⟨y0, y1, y2, y3, y4, y5, y6, y7⟩ := x1)
        go_at_call 70
        refine (content_is e hOe _).mono ?_
        rintro r w3 ⟨rfl, hb3⟩
        have B3 := B2.trans (hb3.mono B2.size)
        clear y0 y1 y2 y3 y4 y5 y6 y7 hb2 hb3 hr
        go_wp2_with fail
        go_at_call 64
        refine (dec_encap (ct e 6) c0 c1 _).mono ?_
        rintro r w4 ⟨rfl, hb4⟩
        have B4 := hW.trans ((B3.trans (hb4.mono B3.size)).mono hW.size)
        have B4' := hB.trans ((B3.trans (hb4.mono B3.size)).mono hB.size)
        clear hb4
        go_wp2
        go_ret2
        exact ⟨by rw [← HF.out]; rfl, B4⟩
      · have A : ((kd (e 0) (e 1) : Int) == k) = false := by rw [beq_eq_false_iff_ne]; omega
        have HN := Lib.hid (hN.out.step he h1)
        have HQ := Lib.hid (kind_is e)
        clear h1 he hN
        generalize kd (e 0) (e 1) = kq at A HQ
        go_upto_region 3 with fail
        refine wp_region_lit ?_
        iterate 3 go_step
        refine wpList_load_mid rfl 24 (.tmp 15) rfl b (o + i * 8) rfl [.int .u8 (e 0), .int .u8 (e 1), .int .u8 (e 2), .int .u8 (e 3), .int .u8 (e 4), .int .u8 (e 5), .int .u8 (e 6), .int .u8 (e 7)] _ hr Tryd.underlying24 rfl (by kernel_rfl) ?_
        go_wp2_with (go_at_call 18; refine (HQ.out _ (hKr.below BW hKr.lt)).mono ?_; rintro r w2 ⟨rfl, hb2⟩; have B2 := BW.trans (hb2.mono (by simp)))
        go_roundw
        case rel => exact ⟨i + 1, by omega, by go_num, hB.trans (B2.mono hB.size), HN⟩
        case measure => simp [intOf]; omega
    · obtain rfl : i = E.length := by omega
      have HF := Lib.hid (show encapV none = R by rw [← HR.out, hN.out.none])
      go_wp2
      go_ret2
      exact ⟨by rw [← HF.out]; rfl, hW⟩

/-- What it returns. -/
def addrV : Option (Nat → Int) → Value
  | none => .tuple #[.int .u64 0, .bool false]
  | some e => .tuple #[.int .u64 (ct e 6), .bool true]
set_option maxHeartbeats 4000000 in
theorem first_addr (k : Nat) (E : List (Nat → Int)) (hE : E.length ≤ 1000000) (hO : ∀ e ∈ E, O8 e) (v : Value) (w : World) (hv : CSeg w v E) (hK : KI w) :
    Calls Tryd.prog 66 #[v, .int .i64 k, .func (.func 67) #[] #[]] w fun r w' => r = .returned (addrV (fk k E)) ∧ Below w.heap.size w w' := by
  obtain ⟨a, c, rfl, hc, hx⟩ := hv
  have HX := Lib.hid hx
  clear hx
  generalize hR : addrV (fk k E) = R
  have HR := Lib.hid hR
  clear hR
  go_enter Tryd.func66, Tryd.ntmps66
  go_wp2_with fail
  have hb1 := Below.refl w.heap.size w
  go_loopw [13] (fun vi wr => ∃ (i : Nat), i ≤ E.length ∧ vi = .int .i64 i ∧ Below w.heap.size w wr ∧ Hid (Nk k E i)) (fun vi _ => E.length - (intOf vi).toNat)
  case atStart => exact ⟨0, Nat.zero_le _, rfl, Below.refl _ _, Lib.hid (fun j e hj _ => absurd hj (Nat.not_lt_zero _))⟩
  case round =>
    obtain ⟨i, hi, rfl, hB, hN⟩ := hrel
    have hW := hb1.trans (hB.mono hb1.size)
    by_cases hlt : i < E.length
    · have hil : (i : Int) < E.length := by omega
      obtain ⟨e, he⟩ : ∃ e, E[i]? = some e := ⟨E[i], by simp [hlt]⟩
      obtain ⟨b, o, rfl, hbw, hr0⟩ := HX.out i e he
      have hr : wr.rangeAt b (o + i * 8) [.int .u8 (e 0), .int .u8 (e 1), .int .u8 (e 2), .int .u8 (e 3), .int .u8 (e 4), .int .u8 (e 5), .int .u8 (e 6), .int .u8 (e 7)] := fun j u hu => (hW.cell (p := ⟨b, o + i * 8 + j, none⟩) hbw).trans (hr0 j u hu)
      have hOe := hO e (List.mem_of_getElem? he)
      have hKr := hK.below hW hK.lt
      have BW : Below wr.heap.size wr (wr.alloc (.cells #[.int .u8 (e 0), .int .u8 (e 1), .int .u8 (e 2), .int .u8 (e 3), .int .u8 (e 4), .int .u8 (e 5), .int .u8 (e 6), .int .u8 (e 7)] 24)) := (Below.refl _ _).alloc (Nat.le_refl _) _
      have c0 := (ct_bd hOe 6 (Nat.le_refl _)).1
      have c1 := ct_lt hOe 6 (Nat.le_refl _)
      clear hr0
      by_cases h1 : kd (e 0) (e 1) = k
      · have HF := Lib.hid (show addrV (some e) = R by rw [← HR.out, hN.out.some he h1])
        have H1 := Lib.hid h1
        clear h1 he hlt hN HX
        go_upto_region 3 with fail
        refine wp_region_lit ?_
        iterate 3 go_step
        refine wpList_load_mid rfl 24 (.tmp 15) rfl b (o + i * 8) rfl [.int .u8 (e 0), .int .u8 (e 1), .int .u8 (e 2), .int .u8 (e 3), .int .u8 (e 4), .int .u8 (e 5), .int .u8 (e 6), .int .u8 (e 7)] _ hr Tryd.underlying24 rfl (by kernel_rfl) ?_
        go_wp2_with (go_at_call 18; refine (kind_eq k e H1.out _ (hKr.below BW hKr.lt)).mono ?_; rintro r w2 ⟨rfl, hb2⟩; have B2 := BW.trans (hb2.mono (by simp)); have x1 := (Bx.new wr e 24).below hb2 (by simp); obtain ⟨y0, y1, y2, y3, y4, y5, y6, y7⟩ := x1)
        go_at_call 70
        refine (content_is e hOe _).mono ?_
        rintro r w3 ⟨rfl, hb3⟩
        have B3 := B2.trans (hb3.mono B2.size)
        clear y0 y1 y2 y3 y4 y5 y6 y7 hb2 hb3 hr
        go_wp2_with fail
        go_at_call 67
        refine (dec_addr (ct e 6) c0 c1 _).mono ?_
        rintro r w4 ⟨rfl, hb4⟩
        have B4 := hW.trans ((B3.trans (hb4.mono B3.size)).mono hW.size)
        have B4' := hB.trans ((B3.trans (hb4.mono B3.size)).mono hB.size)
        clear hb4
        go_wp2
        go_ret2
        exact ⟨by rw [← HF.out]; rfl, B4⟩
      · have A : ((kd (e 0) (e 1) : Int) == k) = false := by rw [beq_eq_false_iff_ne]; omega
        have HN := Lib.hid (hN.out.step he h1)
        have HQ := Lib.hid (kind_is e)
        clear h1 he hN
        generalize kd (e 0) (e 1) = kq at A HQ
        go_upto_region 3 with fail
        refine wp_region_lit ?_
        iterate 3 go_step
        refine wpList_load_mid rfl 24 (.tmp 15) rfl b (o + i * 8) rfl [.int .u8 (e 0), .int .u8 (e 1), .int .u8 (e 2), .int .u8 (e 3), .int .u8 (e 4), .int .u8 (e 5), .int .u8 (e 6), .int .u8 (e 7)] _ hr Tryd.underlying24 rfl (by kernel_rfl) ?_
        go_wp2_with (go_at_call 18; refine (HQ.out _ (hKr.below BW hKr.lt)).mono ?_; rintro r w2 ⟨rfl, hb2⟩; have B2 := BW.trans (hb2.mono (by simp)))
        go_roundw
        case rel => exact ⟨i + 1, by omega, by go_num, hB.trans (B2.mono hB.size), HN⟩
        case measure => simp [intOf]; omega
    · obtain rfl : i = E.length := by omega
      have HF := Lib.hid (show addrV none = R by rw [← HR.out, hN.out.none])
      go_wp2
      go_ret2
      exact ⟨by rw [← HF.out]; rfl, hW⟩

/-- What it returns. -/
def mobV : Option (Nat → Int) → Value
  | none => .tuple #[.agg #[.bool false, .int .u32 0], .bool false]
  | some e => .tuple #[.agg #[.bool (fg (ct e 6)), .int .u32 (ct e 6 % 4294967296)], .bool true]
set_option maxHeartbeats 4000000 in
theorem first_mob (k : Nat) (E : List (Nat → Int)) (hE : E.length ≤ 1000000) (hO : ∀ e ∈ E, O8 e) (v : Value) (w : World) (hv : CSeg w v E) (hK : KI w) :
    Calls Tryd.prog 52 #[v, .int .i64 k, .func (.func 53) #[] #[]] w fun r w' => r = .returned (mobV (fk k E)) ∧ Below w.heap.size w w' := by
  obtain ⟨a, c, rfl, hc, hx⟩ := hv
  have HX := Lib.hid hx
  clear hx
  generalize hR : mobV (fk k E) = R
  have HR := Lib.hid hR
  clear hR
  go_enter Tryd.func52, Tryd.ntmps52
  go_wp2_with fail
  have hb1 : Below w.heap.size w (w.alloc (.cells #[.bool false, .int .u32 0] 67)) := (Below.refl _ _).alloc (Nat.le_refl _) _
  have hz1 : w.heap.size < (w.alloc (.cells #[.bool false, .int .u32 0] 67)).heap.size := by simp
  have hg1 := Lib.hid (heap_alloc_last w (.cells #[.bool false, .int .u32 0] 67))
  generalize (w.alloc (.cells #[.bool false, .int .u32 0] 67)) = w1 at hb1 hz1 hg1 ⊢
  go_loopw [13] (fun vi wr => ∃ (i : Nat), i ≤ E.length ∧ vi = .int .i64 i ∧ Below w1.heap.size w1 wr ∧ Hid (Nk k E i)) (fun vi _ => E.length - (intOf vi).toNat)
  case atStart => exact ⟨0, Nat.zero_le _, rfl, Below.refl _ _, Lib.hid (fun j e hj _ => absurd hj (Nat.not_lt_zero _))⟩
  case round =>
    obtain ⟨i, hi, rfl, hB, hN⟩ := hrel
    have hW := hb1.trans (hB.mono hb1.size)
    by_cases hlt : i < E.length
    · have hil : (i : Int) < E.length := by omega
      obtain ⟨e, he⟩ : ∃ e, E[i]? = some e := ⟨E[i], by simp [hlt]⟩
      obtain ⟨b, o, rfl, hbw, hr0⟩ := HX.out i e he
      have hr : wr.rangeAt b (o + i * 8) [.int .u8 (e 0), .int .u8 (e 1), .int .u8 (e 2), .int .u8 (e 3), .int .u8 (e 4), .int .u8 (e 5), .int .u8 (e 6), .int .u8 (e 7)] := fun j u hu => (hW.cell (p := ⟨b, o + i * 8 + j, none⟩) hbw).trans (hr0 j u hu)
      have hOe := hO e (List.mem_of_getElem? he)
      have hKr := hK.below hW hK.lt
      have BW : Below wr.heap.size wr (wr.alloc (.cells #[.int .u8 (e 0), .int .u8 (e 1), .int .u8 (e 2), .int .u8 (e 3), .int .u8 (e 4), .int .u8 (e 5), .int .u8 (e 6), .int .u8 (e 7)] 24)) := (Below.refl _ _).alloc (Nat.le_refl _) _
      have c0 := (ct_bd hOe 6 (Nat.le_refl _)).1
      have c1 := ct_lt hOe 6 (Nat.le_refl _)
      clear hr0
      by_cases h1 : kd (e 0) (e 1) = k
      · have HF := Lib.hid (show mobV (some e) = R by rw [← HR.out, hN.out.some he h1])
        have H1 := Lib.hid h1
        clear h1 he hlt hN HX
        go_upto_region 3 with fail
        refine wp_region_lit ?_
        iterate 3 go_step
        refine wpList_load_mid rfl 24 (.tmp 15) rfl b (o + i * 8) rfl [.int .u8 (e 0), .int .u8 (e 1), .int .u8 (e 2), .int .u8 (e 3), .int .u8 (e 4), .int .u8 (e 5), .int .u8 (e 6), .int .u8 (e 7)] _ hr Tryd.underlying24 rfl (by kernel_rfl) ?_
        go_wp2_with (go_at_call 18; refine (kind_eq k e H1.out _ (hKr.below BW hKr.lt)).mono ?_; rintro r w2 ⟨rfl, hb2⟩; have B2 := BW.trans (hb2.mono (by simp)); have x1 := (Bx.new wr e 24).below hb2 (by simp); obtain ⟨y0, y1, y2, y3, y4, y5, y6, y7⟩ := x1)
        go_at_call 70
        refine (content_is e hOe _).mono ?_
        rintro r w3 ⟨rfl, hb3⟩
        have B3 := B2.trans (hb3.mono B2.size)
        clear y0 y1 y2 y3 y4 y5 y6 y7 hb2 hb3 hr
        go_wp2_with fail
        go_at_call 53
        refine (dec_mob (ct e 6) c0 c1 _).mono ?_
        rintro r w4 ⟨rfl, hb4⟩
        have B4 := hW.trans ((B3.trans (hb4.mono B3.size)).mono hW.size)
        have B4' := hB.trans ((B3.trans (hb4.mono B3.size)).mono hB.size)
        clear hb4
        have hg4 := Lib.hid ((B4'.block w.heap.size hz1).trans hg1.out)
        have HS := Lib.hid (setRow_heap _ w.heap.size _ #[.bool (fg (ct e 6)), .int .u32 (ct e 6 % 4294967296)] _ _ hg4.out)
        have HB := below_setRow (g := w.heap.size) B4 (Nat.le_refl _) #[.bool (fg (ct e 6)), .int .u32 (ct e 6 % 4294967296)]
        rename_i K0 q0
        dsimp only
        refine q0 _ _ ?_
        refine wpList_store_row rfl 67 (.tmp 6) (.tmp 24) rfl w.heap.size #[.bool (fg (ct e 6)), .int .u32 (ct e 6 % 4294967296)] rfl rfl 67 _ hg4.out (by kernel_rfl) rfl (by kernel_rfl) ?_
        generalize w4.setRow w.heap.size #[.bool (fg (ct e 6)), .int .u32 (ct e 6 % 4294967296)] = V at HS HB ⊢
        clear q0 K0
        go_wp2
        exact bodyPost_ret (results_row_tmp (by rfl) _ _ w.heap.size _ _ _ _ rfl HS.out Tryd.underlying67 rfl (by kernel_rfl)) rfl ⟨by rw [← HF.out]; rfl, HB⟩
      · have A : ((kd (e 0) (e 1) : Int) == k) = false := by rw [beq_eq_false_iff_ne]; omega
        have HN := Lib.hid (hN.out.step he h1)
        have HQ := Lib.hid (kind_is e)
        clear h1 he hN
        generalize kd (e 0) (e 1) = kq at A HQ
        go_upto_region 3 with fail
        refine wp_region_lit ?_
        iterate 3 go_step
        refine wpList_load_mid rfl 24 (.tmp 15) rfl b (o + i * 8) rfl [.int .u8 (e 0), .int .u8 (e 1), .int .u8 (e 2), .int .u8 (e 3), .int .u8 (e 4), .int .u8 (e 5), .int .u8 (e 6), .int .u8 (e 7)] _ hr Tryd.underlying24 rfl (by kernel_rfl) ?_
        go_wp2_with (go_at_call 18; refine (HQ.out _ (hKr.below BW hKr.lt)).mono ?_; rintro r w2 ⟨rfl, hb2⟩; have B2 := BW.trans (hb2.mono (by simp)))
        go_roundw
        case rel => exact ⟨i + 1, by omega, by go_num, hB.trans (B2.mono hB.size), HN⟩
        case measure => simp [intOf]; omega
    · obtain rfl : i = E.length := by omega
      have HF := Lib.hid (show mobV none = R by rw [← HR.out, hN.out.none])
      have hgr := Lib.hid (((((Below.refl wr.heap.size wr).alloc (Nat.le_refl _) (.cells #[.bool false, .int .u32 0] 67)).block w.heap.size (Nat.lt_of_lt_of_le hz1 hB.size)).trans (hB.block w.heap.size hz1)).trans hg1.out)
      have HS := Lib.hid (setRow_heap _ w.heap.size _ #[.bool false, .int .u32 0] _ _ hgr.out)
      have HB := below_setRow (g := w.heap.size) (hW.trans (((Below.refl wr.heap.size wr).alloc (Nat.le_refl _) (.cells #[.bool false, .int .u32 0] 67)).mono hW.size)) (Nat.le_refl _) #[.bool false, .int .u32 0]
      go_upto_region 8 with fail
      refine wp_region_lit ?_
      refine wpList_load_row rfl 67 (.tmp 10) rfl wr.heap.size rfl 67 #[.bool false, .int .u32 0] (0, 0) _ (heap_alloc_last wr _) Tryd.underlying67 rfl (by kernel_rfl) ?_
      refine wpList_store_row rfl 67 (.tmp 6) (.tmp 26) rfl w.heap.size #[.bool false, .int .u32 0] rfl rfl 67 _ hgr.out (by kernel_rfl) rfl (by kernel_rfl) ?_
      generalize (wr.alloc (.cells #[.bool false, .int .u32 0] 67)).setRow w.heap.size #[.bool false, .int .u32 0] = V at HS HB ⊢
      go_wp2
      exact bodyPost_ret (results_row_tmp (by rfl) _ _ w.heap.size _ _ _ _ rfl HS.out Tryd.underlying67 rfl (by kernel_rfl)) rfl ⟨by rw [← HF.out]; rfl, HB⟩

/-- What it returns. -/
def labV : Option (Nat → Int) → Value
  | none => .tuple #[.agg #[.bool false, .int .u32 0], .bool false]
  | some e => .tuple #[.agg #[.bool (fg (ct e 6)), .int .u32 (ct e 6 % 16777216)], .bool true]
set_option maxHeartbeats 4000000 in
theorem first_lab (k : Nat) (E : List (Nat → Int)) (hE : E.length ≤ 1000000) (hO : ∀ e ∈ E, O8 e) (v : Value) (w : World) (hv : CSeg w v E) (hK : KI w) :
    Calls Tryd.prog 52 #[v, .int .i64 k, .func (.func 55) #[] #[]] w fun r w' => r = .returned (labV (fk k E)) ∧ Below w.heap.size w w' := by
  obtain ⟨a, c, rfl, hc, hx⟩ := hv
  have HX := Lib.hid hx
  clear hx
  generalize hR : labV (fk k E) = R
  have HR := Lib.hid hR
  clear hR
  go_enter Tryd.func52, Tryd.ntmps52
  go_wp2_with fail
  have hb1 : Below w.heap.size w (w.alloc (.cells #[.bool false, .int .u32 0] 67)) := (Below.refl _ _).alloc (Nat.le_refl _) _
  have hz1 : w.heap.size < (w.alloc (.cells #[.bool false, .int .u32 0] 67)).heap.size := by simp
  have hg1 := Lib.hid (heap_alloc_last w (.cells #[.bool false, .int .u32 0] 67))
  generalize (w.alloc (.cells #[.bool false, .int .u32 0] 67)) = w1 at hb1 hz1 hg1 ⊢
  go_loopw [13] (fun vi wr => ∃ (i : Nat), i ≤ E.length ∧ vi = .int .i64 i ∧ Below w1.heap.size w1 wr ∧ Hid (Nk k E i)) (fun vi _ => E.length - (intOf vi).toNat)
  case atStart => exact ⟨0, Nat.zero_le _, rfl, Below.refl _ _, Lib.hid (fun j e hj _ => absurd hj (Nat.not_lt_zero _))⟩
  case round =>
    obtain ⟨i, hi, rfl, hB, hN⟩ := hrel
    have hW := hb1.trans (hB.mono hb1.size)
    by_cases hlt : i < E.length
    · have hil : (i : Int) < E.length := by omega
      obtain ⟨e, he⟩ : ∃ e, E[i]? = some e := ⟨E[i], by simp [hlt]⟩
      obtain ⟨b, o, rfl, hbw, hr0⟩ := HX.out i e he
      have hr : wr.rangeAt b (o + i * 8) [.int .u8 (e 0), .int .u8 (e 1), .int .u8 (e 2), .int .u8 (e 3), .int .u8 (e 4), .int .u8 (e 5), .int .u8 (e 6), .int .u8 (e 7)] := fun j u hu => (hW.cell (p := ⟨b, o + i * 8 + j, none⟩) hbw).trans (hr0 j u hu)
      have hOe := hO e (List.mem_of_getElem? he)
      have hKr := hK.below hW hK.lt
      have BW : Below wr.heap.size wr (wr.alloc (.cells #[.int .u8 (e 0), .int .u8 (e 1), .int .u8 (e 2), .int .u8 (e 3), .int .u8 (e 4), .int .u8 (e 5), .int .u8 (e 6), .int .u8 (e 7)] 24)) := (Below.refl _ _).alloc (Nat.le_refl _) _
      have c0 := (ct_bd hOe 6 (Nat.le_refl _)).1
      have c1 := ct_lt hOe 6 (Nat.le_refl _)
      clear hr0
      by_cases h1 : kd (e 0) (e 1) = k
      · have HF := Lib.hid (show labV (some e) = R by rw [← HR.out, hN.out.some he h1])
        have H1 := Lib.hid h1
        clear h1 he hlt hN HX
        go_upto_region 3 with fail
        refine wp_region_lit ?_
        iterate 3 go_step
        refine wpList_load_mid rfl 24 (.tmp 15) rfl b (o + i * 8) rfl [.int .u8 (e 0), .int .u8 (e 1), .int .u8 (e 2), .int .u8 (e 3), .int .u8 (e 4), .int .u8 (e 5), .int .u8 (e 6), .int .u8 (e 7)] _ hr Tryd.underlying24 rfl (by kernel_rfl) ?_
        go_wp2_with (go_at_call 18; refine (kind_eq k e H1.out _ (hKr.below BW hKr.lt)).mono ?_; rintro r w2 ⟨rfl, hb2⟩; have B2 := BW.trans (hb2.mono (by simp)); have x1 := (Bx.new wr e 24).below hb2 (by simp); obtain ⟨y0, y1, y2, y3, y4, y5, y6, y7⟩ := x1)
        go_at_call 70
        refine (content_is e hOe _).mono ?_
        rintro r w3 ⟨rfl, hb3⟩
        have B3 := B2.trans (hb3.mono B2.size)
        clear y0 y1 y2 y3 y4 y5 y6 y7 hb2 hb3 hr
        go_wp2_with fail
        go_at_call 55
        refine (dec_lab (ct e 6) c0 c1 _).mono ?_
        rintro r w4 ⟨rfl, hb4⟩
        have B4 := hW.trans ((B3.trans (hb4.mono B3.size)).mono hW.size)
        have B4' := hB.trans ((B3.trans (hb4.mono B3.size)).mono hB.size)
        clear hb4
        have hg4 := Lib.hid ((B4'.block w.heap.size hz1).trans hg1.out)
        have HS := Lib.hid (setRow_heap _ w.heap.size _ #[.bool (fg (ct e 6)), .int .u32 (ct e 6 % 16777216)] _ _ hg4.out)
        have HB := below_setRow (g := w.heap.size) B4 (Nat.le_refl _) #[.bool (fg (ct e 6)), .int .u32 (ct e 6 % 16777216)]
        rename_i K0 q0
        dsimp only
        refine q0 _ _ ?_
        refine wpList_store_row rfl 67 (.tmp 6) (.tmp 24) rfl w.heap.size #[.bool (fg (ct e 6)), .int .u32 (ct e 6 % 16777216)] rfl rfl 67 _ hg4.out (by kernel_rfl) rfl (by kernel_rfl) ?_
        generalize w4.setRow w.heap.size #[.bool (fg (ct e 6)), .int .u32 (ct e 6 % 16777216)] = V at HS HB ⊢
        clear q0 K0
        go_wp2
        exact bodyPost_ret (results_row_tmp (by rfl) _ _ w.heap.size _ _ _ _ rfl HS.out Tryd.underlying67 rfl (by kernel_rfl)) rfl ⟨by rw [← HF.out]; rfl, HB⟩
      · have A : ((kd (e 0) (e 1) : Int) == k) = false := by rw [beq_eq_false_iff_ne]; omega
        have HN := Lib.hid (hN.out.step he h1)
        have HQ := Lib.hid (kind_is e)
        clear h1 he hN
        generalize kd (e 0) (e 1) = kq at A HQ
        go_upto_region 3 with fail
        refine wp_region_lit ?_
        iterate 3 go_step
        refine wpList_load_mid rfl 24 (.tmp 15) rfl b (o + i * 8) rfl [.int .u8 (e 0), .int .u8 (e 1), .int .u8 (e 2), .int .u8 (e 3), .int .u8 (e 4), .int .u8 (e 5), .int .u8 (e 6), .int .u8 (e 7)] _ hr Tryd.underlying24 rfl (by kernel_rfl) ?_
        go_wp2_with (go_at_call 18; refine (HQ.out _ (hKr.below BW hKr.lt)).mono ?_; rintro r w2 ⟨rfl, hb2⟩; have B2 := BW.trans (hb2.mono (by simp)))
        go_roundw
        case rel => exact ⟨i + 1, by omega, by go_num, hB.trans (B2.mono hB.size), HN⟩
        case measure => simp [intOf]; omega
    · obtain rfl : i = E.length := by omega
      have HF := Lib.hid (show labV none = R by rw [← HR.out, hN.out.none])
      have hgr := Lib.hid (((((Below.refl wr.heap.size wr).alloc (Nat.le_refl _) (.cells #[.bool false, .int .u32 0] 67)).block w.heap.size (Nat.lt_of_lt_of_le hz1 hB.size)).trans (hB.block w.heap.size hz1)).trans hg1.out)
      have HS := Lib.hid (setRow_heap _ w.heap.size _ #[.bool false, .int .u32 0] _ _ hgr.out)
      have HB := below_setRow (g := w.heap.size) (hW.trans (((Below.refl wr.heap.size wr).alloc (Nat.le_refl _) (.cells #[.bool false, .int .u32 0] 67)).mono hW.size)) (Nat.le_refl _) #[.bool false, .int .u32 0]
      go_upto_region 8 with fail
      refine wp_region_lit ?_
      refine wpList_load_row rfl 67 (.tmp 10) rfl wr.heap.size rfl 67 #[.bool false, .int .u32 0] (0, 0) _ (heap_alloc_last wr _) Tryd.underlying67 rfl (by kernel_rfl) ?_
      refine wpList_store_row rfl 67 (.tmp 6) (.tmp 26) rfl w.heap.size #[.bool false, .int .u32 0] rfl rfl 67 _ hgr.out (by kernel_rfl) rfl (by kernel_rfl) ?_
      generalize (wr.alloc (.cells #[.bool false, .int .u32 0] 67)).setRow w.heap.size #[.bool false, .int .u32 0] = V at HS HB ⊢
      go_wp2
      exact bodyPost_ret (results_row_tmp (by rfl) _ _ w.heap.size _ _ _ _ rfl HS.out Tryd.underlying67 rfl (by kernel_rfl)) rfl ⟨by rw [← HF.out]; rfl, HB⟩

/-- What it returns. -/
def elV : Option (Nat → Int) → Value
  | none => .tuple #[.agg #[.int .i64 0, .int .i64 0], .bool false]
  | some e => .tuple #[.agg #[.int .i64 (ct e 6 / 1099511627776 % 32), .int .i64 (ct e 6 % 65536)], .bool true]
set_option maxHeartbeats 4000000 in
theorem first_el (k : Nat) (E : List (Nat → Int)) (hE : E.length ≤ 1000000) (hO : ∀ e ∈ E, O8 e) (v : Value) (w : World) (hv : CSeg w v E) (hK : KI w) :
    Calls Tryd.prog 68 #[v, .int .i64 k, .func (.func 69) #[] #[]] w fun r w' => r = .returned (elV (fk k E)) ∧ Below w.heap.size w w' := by
  obtain ⟨a, c, rfl, hc, hx⟩ := hv
  have HX := Lib.hid hx
  clear hx
  generalize hR : elV (fk k E) = R
  have HR := Lib.hid hR
  clear hR
  go_enter Tryd.func68, Tryd.ntmps68
  go_wp2_with fail
  have hb1 : Below w.heap.size w (w.alloc (.cells #[.int .i64 0, .int .i64 0] 87)) := (Below.refl _ _).alloc (Nat.le_refl _) _
  have hz1 : w.heap.size < (w.alloc (.cells #[.int .i64 0, .int .i64 0] 87)).heap.size := by simp
  have hg1 := Lib.hid (heap_alloc_last w (.cells #[.int .i64 0, .int .i64 0] 87))
  generalize (w.alloc (.cells #[.int .i64 0, .int .i64 0] 87)) = w1 at hb1 hz1 hg1 ⊢
  go_loopw [13] (fun vi wr => ∃ (i : Nat), i ≤ E.length ∧ vi = .int .i64 i ∧ Below w1.heap.size w1 wr ∧ Hid (Nk k E i)) (fun vi _ => E.length - (intOf vi).toNat)
  case atStart => exact ⟨0, Nat.zero_le _, rfl, Below.refl _ _, Lib.hid (fun j e hj _ => absurd hj (Nat.not_lt_zero _))⟩
  case round =>
    obtain ⟨i, hi, rfl, hB, hN⟩ := hrel
    have hW := hb1.trans (hB.mono hb1.size)
    by_cases hlt : i < E.length
    · have hil : (i : Int) < E.length := by omega
      obtain ⟨e, he⟩ : ∃ e, E[i]? = some e := ⟨E[i], by simp [hlt]⟩
      obtain ⟨b, o, rfl, hbw, hr0⟩ := HX.out i e he
      have hr : wr.rangeAt b (o + i * 8) [.int .u8 (e 0), .int .u8 (e 1), .int .u8 (e 2), .int .u8 (e 3), .int .u8 (e 4), .int .u8 (e 5), .int .u8 (e 6), .int .u8 (e 7)] := fun j u hu => (hW.cell (p := ⟨b, o + i * 8 + j, none⟩) hbw).trans (hr0 j u hu)
      have hOe := hO e (List.mem_of_getElem? he)
      have hKr := hK.below hW hK.lt
      have BW : Below wr.heap.size wr (wr.alloc (.cells #[.int .u8 (e 0), .int .u8 (e 1), .int .u8 (e 2), .int .u8 (e 3), .int .u8 (e 4), .int .u8 (e 5), .int .u8 (e 6), .int .u8 (e 7)] 24)) := (Below.refl _ _).alloc (Nat.le_refl _) _
      have c0 := (ct_bd hOe 6 (Nat.le_refl _)).1
      have c1 := ct_lt hOe 6 (Nat.le_refl _)
      clear hr0
      by_cases h1 : kd (e 0) (e 1) = k
      · have HF := Lib.hid (show elV (some e) = R by rw [← HR.out, hN.out.some he h1])
        have H1 := Lib.hid h1
        clear h1 he hlt hN HX
        go_upto_region 3 with fail
        refine wp_region_lit ?_
        iterate 3 go_step
        refine wpList_load_mid rfl 24 (.tmp 15) rfl b (o + i * 8) rfl [.int .u8 (e 0), .int .u8 (e 1), .int .u8 (e 2), .int .u8 (e 3), .int .u8 (e 4), .int .u8 (e 5), .int .u8 (e 6), .int .u8 (e 7)] _ hr Tryd.underlying24 rfl (by kernel_rfl) ?_
        go_wp2_with (go_at_call 18; refine (kind_eq k e H1.out _ (hKr.below BW hKr.lt)).mono ?_; rintro r w2 ⟨rfl, hb2⟩; have B2 := BW.trans (hb2.mono (by simp)); have x1 := (Bx.new wr e 24).below hb2 (by simp); obtain ⟨y0, y1, y2, y3, y4, y5, y6, y7⟩ := x1)
        go_at_call 70
        refine (content_is e hOe _).mono ?_
        rintro r w3 ⟨rfl, hb3⟩
        have B3 := B2.trans (hb3.mono B2.size)
        clear y0 y1 y2 y3 y4 y5 y6 y7 hb2 hb3 hr
        go_wp2_with fail
        go_at_call 69
        refine (dec_el (ct e 6) c0 c1 _).mono ?_
        rintro r w4 ⟨rfl, hb4⟩
        have B4 := hW.trans ((B3.trans (hb4.mono B3.size)).mono hW.size)
        have B4' := hB.trans ((B3.trans (hb4.mono B3.size)).mono hB.size)
        clear hb4
        have hg4 := Lib.hid ((B4'.block w.heap.size hz1).trans hg1.out)
        have HS := Lib.hid (setRow_heap _ w.heap.size _ #[.int .i64 (ct e 6 / 1099511627776 % 32), .int .i64 (ct e 6 % 65536)] _ _ hg4.out)
        have HB := below_setRow (g := w.heap.size) B4 (Nat.le_refl _) #[.int .i64 (ct e 6 / 1099511627776 % 32), .int .i64 (ct e 6 % 65536)]
        rename_i K0 q0
        dsimp only
        refine q0 _ _ ?_
        refine wpList_store_row rfl 87 (.tmp 6) (.tmp 24) rfl w.heap.size #[.int .i64 (ct e 6 / 1099511627776 % 32), .int .i64 (ct e 6 % 65536)] rfl rfl 87 _ hg4.out (by kernel_rfl) rfl (by kernel_rfl) ?_
        generalize w4.setRow w.heap.size #[.int .i64 (ct e 6 / 1099511627776 % 32), .int .i64 (ct e 6 % 65536)] = V at HS HB ⊢
        clear q0 K0
        go_wp2
        exact bodyPost_ret (results_row_tmp (by rfl) _ _ w.heap.size _ _ _ _ rfl HS.out Tryd.underlying87 rfl (by kernel_rfl)) rfl ⟨by rw [← HF.out]; rfl, HB⟩
      · have A : ((kd (e 0) (e 1) : Int) == k) = false := by rw [beq_eq_false_iff_ne]; omega
        have HN := Lib.hid (hN.out.step he h1)
        have HQ := Lib.hid (kind_is e)
        clear h1 he hN
        generalize kd (e 0) (e 1) = kq at A HQ
        go_upto_region 3 with fail
        refine wp_region_lit ?_
        iterate 3 go_step
        refine wpList_load_mid rfl 24 (.tmp 15) rfl b (o + i * 8) rfl [.int .u8 (e 0), .int .u8 (e 1), .int .u8 (e 2), .int .u8 (e 3), .int .u8 (e 4), .int .u8 (e 5), .int .u8 (e 6), .int .u8 (e 7)] _ hr Tryd.underlying24 rfl (by kernel_rfl) ?_
        go_wp2_with (go_at_call 18; refine (HQ.out _ (hKr.below BW hKr.lt)).mono ?_; rintro r w2 ⟨rfl, hb2⟩; have B2 := BW.trans (hb2.mono (by simp)))
        go_roundw
        case rel => exact ⟨i + 1, by omega, by go_num, hB.trans (B2.mono hB.size), HN⟩
        case measure => simp [intOf]; omega
    · obtain rfl : i = E.length := by omega
      have HF := Lib.hid (show elV none = R by rw [← HR.out, hN.out.none])
      have hgr := Lib.hid (((((Below.refl wr.heap.size wr).alloc (Nat.le_refl _) (.cells #[.int .i64 0, .int .i64 0] 87)).block w.heap.size (Nat.lt_of_lt_of_le hz1 hB.size)).trans (hB.block w.heap.size hz1)).trans hg1.out)
      have HS := Lib.hid (setRow_heap _ w.heap.size _ #[.int .i64 0, .int .i64 0] _ _ hgr.out)
      have HB := below_setRow (g := w.heap.size) (hW.trans (((Below.refl wr.heap.size wr).alloc (Nat.le_refl _) (.cells #[.int .i64 0, .int .i64 0] 87)).mono hW.size)) (Nat.le_refl _) #[.int .i64 0, .int .i64 0]
      go_upto_region 8 with fail
      refine wp_region_lit ?_
      refine wpList_load_row rfl 87 (.tmp 10) rfl wr.heap.size rfl 87 #[.int .i64 0, .int .i64 0] (0, 0) _ (heap_alloc_last wr _) Tryd.underlying87 rfl (by kernel_rfl) ?_
      refine wpList_store_row rfl 87 (.tmp 6) (.tmp 26) rfl w.heap.size #[.int .i64 0, .int .i64 0] rfl rfl 87 _ hgr.out (by kernel_rfl) rfl (by kernel_rfl) ?_
      generalize (wr.alloc (.cells #[.int .i64 0, .int .i64 0] 87)).setRow w.heap.size #[.int .i64 0, .int .i64 0] = V at HS HB ⊢
      go_wp2
      exact bodyPost_ret (results_row_tmp (by rfl) _ _ w.heap.size _ _ _ _ rfl HS.out Tryd.underlying87 rfl (by kernel_rfl)) rfl ⟨by rw [← HF.out]; rfl, HB⟩
end Go.Proofs.YtmajalobkcnobaaDoor
