/- CommBack: the walk of the law. No condition but what the table of kinds holds. -/
import Derived.Test.YtmajalobkcnobaaDoorCBm
import Derived.Test.YtmajalobkcnobaaDoorCCl
import Derived.Test.YtmajalobkcnobaaDoorCRs
import Derived.Test.YtmajalobkcnobaaDoorCNw
namespace Go.Proofs.YtmajalobkcnobaaDoor
open Go.RowKit Go.Sort
set_option linter.unusedVariables false
set_option linter.unusedSimpArgs false
set_option maxRecDepth 100000

def pk (x : Int) (n : Nat) : Nat := (if x.tmod n < 0 then x.tmod n + n else x.tmod n).toNat
theorem pk_lt (x : Int) (n : Nat) (h : 0 < n) : pk x n < n := by
  have b1 := Int.tmod_lt_of_pos x (show (0 : Int) < n by omega)
  have b2 : -(n : Int) < x.tmod n := Int.lt_tmod_of_pos x (show (0 : Int) < n by omega)
  unfold pk
  split <;> omega
theorem pick_eq (x : Int) (n : Nat) (h0 : 0 < n) (h1 : n ≤ 4611686018427387904) (hx : -9223372036854775808 ≤ x ∧ x ≤ 9223372036854775807) (w : World) :
    Calls Tryd.prog 45 #[.int .i64 x, .int .i64 n] w fun e w' => e = .returned (.int .i64 (pk x n)) ∧ w' = w := by
  have hn : ¬ (n : Int) = 0 := by omega
  have hn' : ((n : Int) == 0) = false := by simpa using hn
  have b1 := Int.tmod_lt_of_pos x (show (0 : Int) < n by omega)
  have b2 : -(n : Int) < x.tmod n := Int.lt_tmod_of_pos x (show (0 : Int) < n by omega)
  by_cases hneg : x.tmod n < 0
  · have e : ((pk x n : Nat) : Int) = x.tmod n + n := by
      unfold pk
      rw [if_pos hneg, Int.toNat_of_nonneg (by omega)]
    rw [e]
    clear e
    go_enter Tryd.func45, Tryd.ntmps45
    go_wp2
    go_ret
    exact ⟨rfl, rfl⟩
  · have e : ((pk x n : Nat) : Int) = x.tmod n := by
      unfold pk
      rw [if_neg hneg, Int.toNat_of_nonneg (by omega)]
    rw [e]
    clear e
    go_enter Tryd.func45, Tryd.ntmps45
    go_wp2
    go_ret
    exact ⟨rfl, rfl⟩
theorem and_mask32 (x : Int) (h0 : 0 ≤ x) (h1 : x < 4294967296) : bits .and .u32 x 16777215 = x % 16777216 := by
  rw [u32_and _ _ h0 h1 (by omega) (by omega)]
  obtain ⟨X, rfl⟩ := Int.eq_ofNat_of_zero_le h0
  have e : (16777215 : Int).toNat = 2 ^ 24 - 1 := by decide
  rw [e, Int.toNat_natCast, Nat.and_two_pow_sub_one_eq_mod, show (2 : Nat) ^ 24 = 16777216 by decide]
  omega

theorem elemC : Tryd.prog.elem 35 = 24 := by kernel_rfl
theorem slice_h {B : Nat} {w : World} {v : Value} {E : List (Nat → Int)} (h : NuC B w v E) (n : Nat) (hn : n ≤ E.length) : ∃ v1, (∀ W, (Instr.slice 35 v none (some (.int .i64 n)) none).run Tryd.prog W = .ok v1 W) ∧ CSeg w v1 (E.take n) := by
  have ht : Tryd.prog.underlying 35 = some (.slice (Tryd.prog.elem 35)) := by rw [elemC]; exact Tryd.underlying35
  have hl : (E.take n).length = n := by rw [List.length_take]; omega
  obtain ⟨a, c, rfl, hc, hx⟩ := h.seg
  refine ⟨.slice (if c = 0 then a else a.map (·.add (0 * 8))) n c, fun W => ?_, ?_⟩
  · have es : (sizeOf (Tryd.prog.elem 35)).run Tryd.prog W = .ok 8 W := by rw [elemC]; exact Tryd.sizeOf24 W
    rw [run_slice_h W _ _ _ _ ht .i64 _ (by omega) (by omega), es]
    simp [sliced, Result.andThen]
  · have ha : (if c = 0 then a else a.map (·.add (0 * 8))) = a := by
      split
      · rfl
      · cases a <;> simp [Addr.add]
    rw [ha]
    refine ⟨a, c, by rw [hl], by rw [hl]; omega, fun i e hi => ?_⟩
    rw [List.getElem?_take] at hi
    split at hi
    · exact hx i e hi
    · cases hi
theorem slice_l {B : Nat} {w : World} {v : Value} {E : List (Nat → Int)} (h : NuC B w v E) (n : Nat) (hn : n ≤ E.length) : ∃ v1, (∀ W, (Instr.slice 35 v (some (.int .i64 n)) none none).run Tryd.prog W = .ok v1 W) ∧ CSeg w v1 (E.drop n) := by
  have ht : Tryd.prog.underlying 35 = some (.slice (Tryd.prog.elem 35)) := by rw [elemC]; exact Tryd.underlying35
  have hl : (E.drop n).length = E.length - n := by rw [List.length_drop]
  obtain ⟨a, c, rfl, hc, hx⟩ := h.seg
  refine ⟨.slice (if c = n then a else a.map (·.add (n * 8))) (E.length - n) (c - n), fun W => ?_, ?_⟩
  · have es : (sizeOf (Tryd.prog.elem 35)).run Tryd.prog W = .ok 8 W := by rw [elemC]; exact Tryd.sizeOf24 W
    rw [run_slice_l W _ _ _ _ ht .i64 _ (by omega) (by omega), es]
    simp [sliced, Result.andThen]
  · refine ⟨_, c - n, by rw [hl], by rw [hl]; omega, fun i e hi => ?_⟩
    rw [List.getElem?_drop] at hi
    obtain ⟨b, o, rfl, hb, hr⟩ := hx (n + i) e hi
    have hne : ¬ c = n := by
      intro hcn
      rw [List.getElem?_eq_none (by omega)] at hi
      cases hi
    rw [if_neg hne]
    refine ⟨b, o + n * 8, by simp [Addr.add_mid], hb, ?_⟩
    rw [show o + n * 8 + i * 8 = o + (n + i) * 8 by omega]
    exact hr

def oth (E : List (Nat → Int)) : List (Nat → Int) := E.filter fun e => decide (kd (e 0) (e 1) = 0)
theorem oth_kls (E : List (Nat → Int)) : Kls (oth E) := fun e he => by simpa using (List.mem_filter.1 he).2
theorem oth_mem {E : List (Nat → Int)} {e : Nat → Int} (h : e ∈ oth E) : e ∈ E := (List.mem_filter.1 h).1
theorem oth_le (E : List (Nat → Int)) : (oth E).length ≤ E.length := List.length_filter_le _ _
theorem oth_snoc (E : List (Nat → Int)) (e : Nat → Int) : oth (E ++ [e]) = oth E ++ (if kd (e 0) (e 1) = 0 then [e] else []) := by
  unfold oth
  rw [List.filter_append]
  congr 1
  by_cases h : kd (e 0) (e 1) = 0 <;> simp [h]
theorem c8_new (w : World) (e : Nat → Int) (T : TypeId) : ∀ j u, (c8 e)[j]? = some u → (w.alloc (.cells #[.int .u8 (e 0), .int .u8 (e 1), .int .u8 (e 2), .int .u8 (e 3), .int .u8 (e 4), .int .u8 (e 5), .int .u8 (e 6), .int .u8 (e 7)] T)).cell? ((⟨w.heap.size, 0, none⟩ : Addr).add j) = some u := by
  intro j u hj
  rw [Addr.add_mid, cell_of_row _ w.heap.size (0 + j) _ _ _ (heap_alloc_last w _), Nat.zero_add]
  simpa [c8] using hj

theorem useg1 (x : Int) (w : World) : USeg (w.alloc (.cells #[.int .u32 x] 28)) (.slice (some ⟨w.heap.size, 0, none⟩) 1 1) [x] := by
  refine ⟨_, _, rfl, Nat.le_refl _, fun i hi => ⟨w.heap.size, 0, rfl, by simp, ?_⟩⟩
  rcases i with _ | i
  · exact World.cell?_alloc_at _ _ _ _ rfl
  · simp only [List.length_cons, List.length_nil] at hi; omega
theorem if_true_prop {c : Bool} {p q : Prop} (hc : c = true) (h : p) : if c = true then p else q := by
  rw [if_pos hc]
  exact h
theorem cseg_lit (w : World) (E : List (Nat → Int)) : CSeg (w.alloc (.cells (fl8 E).toArray 24)) (.slice (some ⟨w.heap.size, 0, none⟩) E.length E.length) E := by
  refine ⟨_, _, rfl, Nat.le_refl _, fun i e hi => ⟨w.heap.size, 0, rfl, by simp, fun j u hu => ?_⟩⟩
  have hj : j < 8 := by
    rcases Nat.lt_or_ge j 8 with q | q
    · exact q
    · rw [List.getElem?_eq_none (by simpa using q)] at hu
      cases hu
  rw [cell_of_row _ w.heap.size _ _ _ _ (heap_alloc_last w _), Nat.zero_add]
  rw [List.getElem?_toArray, fl8_get E i j e hi hj]
  exact hu
section
variable (a b m n : Int) (is : Bool) (A B : List (Nat → Int)) (hA : Kls A) (hB : Kls B) (hAo : ∀ e ∈ A, O8 e) (hBo : ∀ e ∈ B, O8 e) (hAl : A.length ≤ 60) (hBl : B.length ≤ 60)
include hAo hBo in
theorem all_o8 : ∀ e ∈ A ++ seven a b m n is ++ B, O8 e := by
  intro e he
  rcases List.mem_append.1 he with h | h
  · rcases List.mem_append.1 h with h | h
    · exact hAo e h
    · exact seven_o8 a b m n is e h
  · exact hBo e h
include hAl hBl in
theorem all_len : (A ++ seven a b m n is ++ B).length ≤ 127 := by
  rw [List.length_append, List.length_append]
  show A.length + 7 + B.length ≤ 127
  omega
include hA hAo hBo hAl hBl
theorem get_encap (h0 : 0 ≤ b) (h1 : b < 65536) (v : Value) (w : World) (hv : CSeg w v (A ++ seven a b m n is ++ B)) (hK : KI w) : Calls Tryd.prog 30 #[v] w fun r w' => r = .returned (.tuple #[.int .i64 b, .bool true]) ∧ Below w.heap.size w w' := by
  have h := EncapOf_is _ (Nat.le_trans (all_len a b m n is A B hAl hBl) (by decide)) (all_o8 a b m n is A B hAo hBo) v w hv hK
  rwa [back_encap a b m n is A B hA h0 h1] at h
theorem get_label (h0 : 0 ≤ n) (h1 : n < 16777216) (v : Value) (w : World) (hv : CSeg w v (A ++ seven a b m n is ++ B)) (hK : KI w) : Calls Tryd.prog 17 #[v] w fun r w' => r = .returned (.tuple #[.bool is, .int .u32 n, .bool true]) ∧ Below w.heap.size w w' := by
  have h := LabelOf_is _ (Nat.le_trans (all_len a b m n is A B hAl hBl) (by decide)) (all_o8 a b m n is A B hAo hBo) v w hv hK
  rwa [back_label a b m n is A B hA h0 h1] at h
theorem get_mob (h0 : 0 ≤ n) (h1 : n < 16777216) (v : Value) (w : World) (hv : CSeg w v (A ++ seven a b m n is ++ B)) (hK : KI w) : Calls Tryd.prog 16 #[v] w fun r w' => r = .returned (.tuple #[.bool is, .int .u32 n, .bool true]) ∧ Below w.heap.size w w' := by
  have h := MobilityOf_is _ (Nat.le_trans (all_len a b m n is A B hAl hBl) (by decide)) (all_o8 a b m n is A B hAo hBo) v w hv hK
  rwa [back_mob a b m n is A B hA h0 h1] at h
theorem get_import (h0 : 0 ≤ m) (h1 : m < 281474976710656) (v : Value) (w : World) (hv : CSeg w v (A ++ seven a b m n is ++ B)) (hK : KI w) : Calls Tryd.prog 34 #[v] w fun r w' => r = .returned (.tuple #[.int .u64 m, .bool true]) ∧ Below w.heap.size w w' := by
  have h := ImportOf_is _ (Nat.le_trans (all_len a b m n is A B hAl hBl) (by decide)) (all_o8 a b m n is A B hAo hBo) v w hv hK
  rwa [back_import a b m n is A B hA h0 h1] at h
theorem get_router (h0 : 0 ≤ m) (h1 : m < 281474976710656) (v : Value) (w : World) (hv : CSeg w v (A ++ seven a b m n is ++ B)) (hK : KI w) : Calls Tryd.prog 36 #[v] w fun r w' => r = .returned (.tuple #[.int .u64 m, .bool true]) ∧ Below w.heap.size w w' := by
  have h := RouterOf_is _ (Nat.le_trans (all_len a b m n is A B hAl hBl) (by decide)) (all_o8 a b m n is A B hAo hBo) v w hv hK
  rwa [back_router a b m n is A B hA h0 h1] at h
theorem get_el (a0 : 0 ≤ a) (a1 : a < 32) (h0 : 0 ≤ b) (h1 : b < 65536) (v : Value) (w : World) (hv : CSeg w v (A ++ seven a b m n is ++ B)) (hK : KI w) : Calls Tryd.prog 38 #[v] w fun r w' => r = .returned (.tuple #[.int .i64 a, .int .i64 b, .bool true]) ∧ Below w.heap.size w w' := by
  have h := ElectionOf_is _ (Nat.le_trans (all_len a b m n is A B hAl hBl) (by decide)) (all_o8 a b m n is A B hAo hBo) v w hv hK
  rwa [back_el a b m n is A B hA a0 a1 h0 h1] at h
end
def cs8 (g : Nat) (e : Nat → Int) : List (Nat × Nat × Value) := [(g, 0, .int .u8 (e 0)), (g, 1, .int .u8 (e 1)), (g, 2, .int .u8 (e 2)), (g, 3, .int .u8 (e 3)), (g, 4, .int .u8 (e 4)), (g, 5, .int .u8 (e 5)), (g, 6, .int .u8 (e 6)), (g, 7, .int .u8 (e 7))]
theorem Bs.st {w0 w : World} {L : List (Nat × (Nat → Int))} (h : Bs w0 L w) (ks : List (Nat × (Nat → Int))) (hk : ∀ x ∈ ks, x ∈ L) : St w0 (ks.flatMap fun x => cs8 x.1 x.2) w := by
  refine ⟨fun y hy => ?_, h.2⟩
  obtain ⟨x, hx, hy⟩ := List.mem_flatMap.1 hy
  obtain ⟨c0, c1, c2, c3, c4, c5, c6, c7⟩ := h.cells x.1 x.2 (hk x hx)
  simp only [cs8, List.mem_cons, List.not_mem_nil, or_false] at hy
  rcases hy with rfl | rfl | rfl | rfl | rfl | rfl | rfl | rfl <;> assumption

set_option maxHeartbeats 16000000 in
theorem back_walk (E : List (Nat → Int)) (hO : ∀ e ∈ E, O8 e) (v : Value) (x n a b m : Int) (is : Bool) (hx : -9223372036854775808 ≤ x ∧ x ≤ 9223372036854775807) (hn : 0 ≤ n ∧ n < 4294967296) (ha : -9223372036854775808 ≤ a ∧ a ≤ 9223372036854775807) (hb : -9223372036854775808 ≤ b ∧ b ≤ 9223372036854775807) (hm : 0 ≤ m ∧ m ≤ 18446744073709551615) (w : World) (hv : CSeg w v E) (hK : KI w) :
    Calls Tryd.prog 6 #[v, .int .i64 x, .int .u32 n, .int .i64 a, .int .i64 b, .int .u64 m, .bool is] w fun r w' => r = .returned (.bool true) ∧ Below w.heap.size w w' := by
  have S := Bs.start w
  obtain ⟨va, vc, rfl, hc, hxx⟩ := hv
  have HX := Lib.hid hxx
  clear hxx
  by_cases hlen : E.length ≤ 60
  · have hlen' : (E.length : Int) ≤ 60 := by omega
    go_enter Tryd.func6, Tryd.ntmps6
    go_wp2_with fail
    go_at_call 9
    refine (lives_is _ (S.ki hK)).mono ?_
    rintro r w0 ⟨rfl, hb0⟩
    replace S := S.below hb0
    clear hb0
    go_wp2_with fail
    go_loopw [15, 16] (fun vl vi wr => ∃ (i : Nat), i ≤ E.length ∧ vi = .int .i64 i ∧ NuC w.heap.size wr vl (oth (E.take i)) ∧ Below w.heap.size w wr) (fun _ vi _ => E.length - (intOf vi).toNat)
    case atStart => exact ⟨0, Nat.zero_le _, rfl, NuC.nil _ _, S.2⟩
    case round =>
      obtain ⟨i, hi, rfl, hl, hB⟩ := hrel
      by_cases hlt : i < E.length
      · have hil : (i : Int) < E.length := by omega
        obtain ⟨e, he⟩ : ∃ e, E[i]? = some e := ⟨E[i], by simp [hlt]⟩
        obtain ⟨g, o, rfl, hbw, hr0⟩ := HX.out i e he
        have hr : wr.rangeAt g (o + i * 8) [.int .u8 (e 0), .int .u8 (e 1), .int .u8 (e 2), .int .u8 (e 3), .int .u8 (e 4), .int .u8 (e 5), .int .u8 (e 6), .int .u8 (e 7)] := fun j u hu => (hB.cell (p := ⟨g, o + i * 8 + j, none⟩) hbw).trans (hr0 j u hu)
        have hOe := hO e (List.mem_of_getElem? he)
        have hKr := hK.below hB hK.lt
        have hts := ctake_step E i e he
        have HN := Lib.hid (show oth (E.take (i + 1)) = oth (E.take i) ++ (if kd (e 0) (e 1) = 0 then [e] else []) by rw [hts, oth_snoc])
        have hnl : (oth (E.take i)).length ≤ i := Nat.le_trans (oth_le _) (by rw [List.length_take]; omega)
        clear hts he
        by_cases h1 : kd (e 0) (e 1) = 0
        · rw [if_pos h1] at HN
          have H1 := Lib.hid h1
          clear h1
          go_upto_region 9 with fail
          refine wp_region_lit ?_
          iterate 9 go_step
          refine wpList_load_mid rfl 24 (.tmp 56) rfl g (o + i * 8) rfl [.int .u8 (e 0), .int .u8 (e 1), .int .u8 (e 2), .int .u8 (e 3), .int .u8 (e 4), .int .u8 (e 5), .int .u8 (e 6), .int .u8 (e 7)] _ hr Tryd.underlying24 rfl (by kernel_rfl) ?_
          go_wp2_with fail
          go_at_call 18
          refine (kind_eq 0 e H1.out _ hKr).mono ?_
          rintro r w1 ⟨rfl, hb1⟩
          have hr1 : w1.rangeAt g (o + i * 8) [.int .u8 (e 0), .int .u8 (e 1), .int .u8 (e 2), .int .u8 (e 3), .int .u8 (e 4), .int .u8 (e 5), .int .u8 (e 6), .int .u8 (e 7)] := fun j u hu => (hb1.cell (p := ⟨g, o + i * 8 + j, none⟩) (Nat.lt_of_lt_of_le hbw hB.size)).trans (hr j u hu)
          have hl1 := hl.below hb1
          have B1 := hB.trans (hb1.mono hB.size)
          clear hr hr0 hb1
          go_upto_region 10 with fail
          refine wp_region_lit ?_
          iterate 12 go_step
          refine wpList_load_mid rfl 24 (.tmp 63) rfl g (o + i * 8) rfl [.int .u8 (e 0), .int .u8 (e 1), .int .u8 (e 2), .int .u8 (e 3), .int .u8 (e 4), .int .u8 (e 5), .int .u8 (e 6), .int .u8 (e 7)] _ hr1 Tryd.underlying24 rfl (by kernel_rfl) ?_
          clear hr1
          obtain ⟨i0, hi0, hz0, hz1, hz2⟩ := info_comm
          go_wp2_with (at_builtin; refine wpList_append_own _ rfl _ _ 35 rfl w.heap.size 24 i0 _ 8 8 Tryd.underlying35 hi0 hz0 hz1 hz2 rfl (by decide) _ _ _ rfl (World.ownsRow.alloc hl1 _) ⟨w1.heap.size, 0, none⟩ 1 1 (c8 e) rfl rfl (c8_new _ _ _) (c8_one e) (by unfold maxLen; omega) (by omega) (by have := B1.size; simp; omega) ?_; intro v' w3 hown' hgrow3 hnil3)
          go_roundw
          case rel =>
            refine ⟨i + 1, by omega, by go_num, ?_, ?_⟩
            · rw [HN.out]
              unfold NuC
              rw [List.length_append, fl8_append]
              have e8 : fl8 [e] = c8 e := by simp [fl8]
              rw [e8]
              exact hown'
            · exact (B1.alloc B1.size _).grown hgrow3 (by have := B1.size; simp; omega) (fun q hq => (World.ownsRow.lt hl1 q hq).1)
          case measure => simp [intOf]; omega
        · rw [if_neg h1, List.append_nil] at HN
          have A : ((kd (e 0) (e 1) : Int) == 0) = false := by rw [beq_eq_false_iff_ne]; omega
          have HQ := Lib.hid (kind_is e)
          clear h1
          generalize kd (e 0) (e 1) = kq at A HQ
          go_upto_region 9 with fail
          refine wp_region_lit ?_
          iterate 9 go_step
          refine wpList_load_mid rfl 24 (.tmp 56) rfl g (o + i * 8) rfl [.int .u8 (e 0), .int .u8 (e 1), .int .u8 (e 2), .int .u8 (e 3), .int .u8 (e 4), .int .u8 (e 5), .int .u8 (e 6), .int .u8 (e 7)] _ hr Tryd.underlying24 rfl (by kernel_rfl) ?_
          go_wp2_with (go_at_call 18; refine (HQ.out _ hKr).mono ?_; rintro r w1 ⟨rfl, hb1⟩)
          go_roundw
          case rel => exact ⟨i + 1, by omega, by go_num, by rw [HN.out]; exact hl.below hb1, hB.trans (hb1.mono hB.size)⟩
          case measure => simp [intOf]; omega
      · obtain rfl : i = E.length := by omega
        rw [List.take_length] at hl
        have hol : (oth E).length ≤ 60 := Nat.le_trans (oth_le E) hlen
        have hoo : ∀ e ∈ oth E, O8 e := fun e he => hO e (oth_mem he)
        have hok := oth_kls E
        generalize oth E = O at hl hol hoo hok
        obtain ⟨oa, oc, rfl, hoc, -⟩ := hl.seg
        have hp1 := pk_lt x (O.length + 1) (by omega)
        have hp2 := pk_lt a 32 (by decide)
        have hp3 := pk_lt b 65536 (by decide)
        have k1 := pick_eq x (O.length + 1) (by omega) (by omega) hx
        have k2 := pick_eq a 32 (by decide) (by decide) ha
        have k3 := pick_eq b 65536 (by decide) (by decide) hb
        generalize pk x (O.length + 1) = at_ at hp1 k1
        generalize pk a 32 = a' at hp2 k2
        generalize pk b 65536 = b' at hp3 k3
        have hm1 : bits .and .u64 m 281474976710655 = m % 281474976710656 := and_mask m 48 (by omega) (by omega) (by decide)
        have hn1 := and_mask32 n hn.1 hn.2
        have m0 : 0 ≤ m % 281474976710656 := by omega
        have m1 : m % 281474976710656 < 281474976710656 := by omega
        have n0 : 0 ≤ n % 16777216 := by omega
        have n1 : n % 16777216 < 16777216 := by omega
        generalize m % 281474976710656 = m' at hm1 m0 m1
        generalize n % 16777216 = n' at hn1 n0 n1
        have K1 := Lib.hid k1
        have K2 := Lib.hid k2
        have K3 := Lib.hid k3
        clear k1 k2 k3
        have hB3 := hB
        replace S : Bs w [] wr := ⟨fun _ h => (by cases h), hB⟩
        push_cast at K1
        go_wp2_with fail
        go_at_call 45
        refine (K1.out _).mono ?_
        rintro r w0' ⟨rfl, rfl⟩
        go_wp2_with fail
        go_at_call 45
        refine (K2.out _).mono ?_
        rintro r w0' ⟨rfl, rfl⟩
        go_wp2_with fail
        go_at_call 45
        refine (K3.out _).mono ?_
        rintro r w0' ⟨rfl, rfl⟩
        clear K1 K2 K3
        go_wp2_with fail
        go_at_call 11
        refine (encap_is b' (by omega) (by omega) _ (S.ki hK)).mono ?_
        rintro r w1 ⟨rfl, hbk⟩
        replace S := (S.below hbk).box (mk 3 12 b')
        replace hl := (hl.below hbk).below ((Below.refl _ _).alloc (Nat.le_refl _) (.cells #[.int .u8 ((mk 3 12 b') 0), .int .u8 ((mk 3 12 b') 1), .int .u8 ((mk 3 12 b') 2), .int .u8 ((mk 3 12 b') 3), .int .u8 ((mk 3 12 b') 4), .int .u8 ((mk 3 12 b') 5), .int .u8 ((mk 3 12 b') 6), .int .u8 ((mk 3 12 b') 7)] 24))
        clear hbk
        go_wp2_with fail
        go_at_call 10
        refine (label_is is n' n0 (by omega) _ (S.ki hK)).mono ?_
        rintro r w2 ⟨rfl, hbk⟩
        replace S := (S.below hbk).box (mk 6 1 (fl is + n'))
        replace hl := (hl.below hbk).below ((Below.refl _ _).alloc (Nat.le_refl _) (.cells #[.int .u8 ((mk 6 1 (fl is + n')) 0), .int .u8 ((mk 6 1 (fl is + n')) 1), .int .u8 ((mk 6 1 (fl is + n')) 2), .int .u8 ((mk 6 1 (fl is + n')) 3), .int .u8 ((mk 6 1 (fl is + n')) 4), .int .u8 ((mk 6 1 (fl is + n')) 5), .int .u8 ((mk 6 1 (fl is + n')) 6), .int .u8 ((mk 6 1 (fl is + n')) 7)] 24))
        clear hbk
        go_wp2_with fail
        go_at_call 12
        refine (import_is m' m0 (by omega) _ (S.ki hK)).mono ?_
        rintro r w3 ⟨rfl, hbk⟩
        replace S := (S.below hbk).box (mk 6 2 m')
        replace hl := (hl.below hbk).below ((Below.refl _ _).alloc (Nat.le_refl _) (.cells #[.int .u8 ((mk 6 2 m') 0), .int .u8 ((mk 6 2 m') 1), .int .u8 ((mk 6 2 m') 2), .int .u8 ((mk 6 2 m') 3), .int .u8 ((mk 6 2 m') 4), .int .u8 ((mk 6 2 m') 5), .int .u8 ((mk 6 2 m') 6), .int .u8 ((mk 6 2 m') 7)] 24))
        clear hbk
        go_wp2_with fail
        go_at_call 13
        refine (router_is m' m0 (by omega) _ (S.ki hK)).mono ?_
        rintro r w4 ⟨rfl, hbk⟩
        replace S := (S.below hbk).box (mk 6 3 m')
        replace hl := (hl.below hbk).below ((Below.refl _ _).alloc (Nat.le_refl _) (.cells #[.int .u8 ((mk 6 3 m') 0), .int .u8 ((mk 6 3 m') 1), .int .u8 ((mk 6 3 m') 2), .int .u8 ((mk 6 3 m') 3), .int .u8 ((mk 6 3 m') 4), .int .u8 ((mk 6 3 m') 5), .int .u8 ((mk 6 3 m') 6), .int .u8 ((mk 6 3 m') 7)] 24))
        clear hbk
        go_wp2_with fail
        go_at_call 14
        refine (election_is a' b' (by omega) (by omega) (by omega) (by omega) _ (S.ki hK)).mono ?_
        rintro r w5 ⟨rfl, hbk⟩
        replace S := (S.below hbk).box (mk 6 6 (a' * 1099511627776 + b'))
        replace hl := (hl.below hbk).below ((Below.refl _ _).alloc (Nat.le_refl _) (.cells #[.int .u8 ((mk 6 6 (a' * 1099511627776 + b')) 0), .int .u8 ((mk 6 6 (a' * 1099511627776 + b')) 1), .int .u8 ((mk 6 6 (a' * 1099511627776 + b')) 2), .int .u8 ((mk 6 6 (a' * 1099511627776 + b')) 3), .int .u8 ((mk 6 6 (a' * 1099511627776 + b')) 4), .int .u8 ((mk 6 6 (a' * 1099511627776 + b')) 5), .int .u8 ((mk 6 6 (a' * 1099511627776 + b')) 6), .int .u8 ((mk 6 6 (a' * 1099511627776 + b')) 7)] 24))
        clear hbk
        go_wp2_with fail
        obtain ⟨v1, hv1, hs1⟩ := slice_h hl at_ (by omega)
        obtain ⟨v2, hv2, hs2⟩ := slice_l hl at_ (by omega)
        have SS := S.st [(w1.heap.size, mk 3 12 b'), (w2.heap.size, mk 6 1 (fl is + n')), (w3.heap.size, mk 6 2 m'), (w4.heap.size, mk 6 3 m'), (w5.heap.size, mk 6 6 (a' * 1099511627776 + b'))] (by simp)
        simp only [List.flatMap_cons, List.flatMap_nil, cs8, List.cons_append, List.nil_append, List.append_nil] at SS
        have HV2 := Lib.hid hv2
        clear hv2
        refine wp_region_sel SS [0, 1, 2, 4, 5, 6, 7, 8, 9, 10, 12] 6 rfl (by kernel_rfl) (by kernel_rfl) (by kernel_rfl) (by kernel_rfl) (fun _ d _ _ _ h => by cases d <;> exact h) ?_
        intro W SW kc hBW
        simp only [CellsAt, and_true] at kc
        simp only [pickOps, List.filterMap_cons, List.filterMap_nil, List.getElem?_cons_zero, List.getElem?_cons_succ, Option.map_some, List.map_cons, List.map_nil]
        repeat (go_big_quiet_step (fail))
        refine wpQuiet_nil ?_
        clear kc
        refine wpAnyH_one (k := 3) (by kernel_rfl) rfl (fun K hQ => ?_)
        go_simp
        have kW := hK.below SW.2 hK.lt
        refine (own_c W v1 (O.take at_) (hs1.below hBW) (by rw [List.length_take]; omega)).mono ?_
        rintro r u1 ⟨vo, ⟨rfl, hvo, hvn⟩, d1⟩
        refine hQ _ _ (CB.of_below d1) ?_
        clear hQ K
        refine wpAnyH_one (k := 11) (by kernel_rfl) rfl (fun K hQ => ?_)
        go_simp
        refine (mobility_is is n' n0 (by omega) _ (kW.below d1 kW.lt)).mono ?_
        rintro r u2 ⟨rfl, d2'⟩
        have d2 := d1.trans (d2'.mono d1.size)
        replace hvo := hvo.below d2'
        clear d2'
        refine hQ _ _ (CB.of_below d2) ?_
        clear hQ K
        refine wpAnyH_one (k := 13) (by kernel_rfl) rfl (fun K hQ => ?_)
        go_simp
        refine (target_t 65000 n' (by decide) (by decide) n0 (by omega) _ (kW.below d2 kW.lt)).mono ?_
        rintro r u3 ⟨rfl, d3'⟩
        have d3 := d2.trans (d3'.mono d2.size)
        replace hvo := hvo.below d3'
        clear d3'
        refine hQ _ _ (CB.of_below d3) ?_
        clear hQ K
        refine wpAnyH_one (k := 14) (by kernel_rfl) rfl (fun K hQ => ?_)
        go_simp
        have d4 := d3.alloc d3.size (.cells (fl8 (seven a' b' m' n' is)).toArray 24)
        have hs7 := cseg_lit u3 (seven a' b' m' n' is)
        replace hvo := hvo.below ((Below.refl _ _).alloc (Nat.le_refl _) (.cells (fl8 (seven a' b' m' n' is)).toArray 24))
        refine hQ _ _ (CB.of_below d4) ?_
        clear hQ K
        obtain ⟨va2, w6, hr6, h6, hg6, -⟩ := append_c (u3.alloc (.cells (fl8 (seven a' b' m' n' is)).toArray 24)) 35 W.heap.size vo _ (O.take at_) (seven a' b' m' n' is) hvo hs7 d4.size (by rw [List.length_take]; simp [seven]; omega)
        have d6 : Below W.heap.size W w6 := d4.grown hg6 d4.size (fun q hq => (World.ownsRow.lt hvo q hq).1)
        have HR6 := Lib.hid hr6
        clear hr6
        refine wpAnyH_one (k := 15) (by kernel_rfl) rfl (fun K hQ => ?_)
        refine if_true_prop (by kernel_rfl) ?_
        refine Lib.wp_append_run _ _ _ 35 35 rfl _ _ rfl rfl _ _ HR6.out ?_
        refine hQ _ _ (CB.of_below d6) ?_
        clear hQ K
        refine wpAnyH_one (k := 16) (by kernel_rfl) rfl (fun K hQ => ?_)
        go_simp
        refine hQ _ _ (CB.of_below d6) ?_
        clear hQ K
        refine wpAnyH_done (by kernel_rfl) ?_ 0
        have hA : Kls (O.take at_) := fun e he => hok e (List.mem_of_mem_take he)
        have hBk : Kls (O.drop at_) := fun e he => hok e (List.mem_of_mem_drop he)
        have hAo : ∀ e ∈ O.take at_, O8 e := fun e he => hoo e (List.mem_of_mem_take he)
        have hBo : ∀ e ∈ O.drop at_, O8 e := fun e he => hoo e (List.mem_of_mem_drop he)
        have hAl : (O.take at_).length ≤ 60 := by rw [List.length_take]; omega
        have hBl : (O.drop at_).length ≤ 60 := by rw [List.length_drop]; omega
        have hl6 := (hl.below hBW).below d6
        obtain ⟨va3, w7, hr7, h7, hg7, -⟩ := append_c w6 35 W.heap.size va2 v2 (O.take at_ ++ seven a' b' m' n' is) (O.drop at_) h6 ((hs2.below hBW).below d6) d6.size (by rw [List.length_append]; simp [seven]; omega)
        have d7 : Below W.heap.size W w7 := d6.grown hg7 d6.size (fun q hq => (World.ownsRow.lt h6 q hq).1)
        have hall := h7.seg
        have hl7 := hl6.keep (w' := w7) (fun q hq => hg7.block q (World.ownsRow.lt hl6 q hq).2 (fun e => by have h1 := (World.ownsRow.lt h6 q (by rw [e])).1; have h2 := (World.ownsRow.lt (hl.below hBW) q hq).2; omega))
        have hv2 := HV2.out
        clear h6 h7 hg6 hg7 hvo hs7 HR6 HV2 hs1 hs2
        go_wp2_with (at_builtin; refine Lib.wpList_append_run _ rfl _ _ 35 35 rfl _ _ rfl rfl _ _ hr7 ?_)
        clear hr7 hv2 hv1
        go_at_call 30
        refine (get_encap a' b' m' n' is (O.take at_) (O.drop at_) hA hAo hBo hAl hBl (by omega) (by omega) va3 _ hall (kW.below d7 kW.lt)).mono ?_
        rintro r w8 ⟨rfl, e8⟩
        have d8 := d7.trans (e8.mono d7.size)
        replace hall := hall.below e8
        have hl8 := hl7.below e8
        clear e8
        go_wp2_with fail
        go_at_call 17
        refine (get_label a' b' m' n' is (O.take at_) (O.drop at_) hA hAo hBo hAl hBl n0 n1 va3 _ hall (kW.below d8 kW.lt)).mono ?_
        rintro r w9 ⟨rfl, e9⟩
        have d9 := d8.trans (e9.mono d8.size)
        replace hall := hall.below e9
        have hl9 := hl8.below e9
        clear e9
        go_wp2_with fail
        go_at_call 34
        refine (get_import a' b' m' n' is (O.take at_) (O.drop at_) hA hAo hBo hAl hBl m0 m1 va3 _ hall (kW.below d9 kW.lt)).mono ?_
        rintro r w10 ⟨rfl, e10⟩
        have d10 := d9.trans (e10.mono d9.size)
        replace hall := hall.below e10
        have hl10 := hl9.below e10
        clear e10
        go_wp2_with fail
        go_at_call 36
        refine (get_router a' b' m' n' is (O.take at_) (O.drop at_) hA hAo hBo hAl hBl m0 m1 va3 _ hall (kW.below d10 kW.lt)).mono ?_
        rintro r w11 ⟨rfl, e11⟩
        have d11 := d10.trans (e11.mono d10.size)
        replace hall := hall.below e11
        have hl11 := hl10.below e11
        clear e11
        go_wp2_with fail
        go_at_call 38
        refine (get_el a' b' m' n' is (O.take at_) (O.drop at_) hA hAo hBo hAl hBl (by omega) (by omega) (by omega) (by omega) va3 _ hall (kW.below d11 kW.lt)).mono ?_
        rintro r w12 ⟨rfl, e12⟩
        have d12 := d11.trans (e12.mono d11.size)
        replace hall := hall.below e12
        have hl12 := hl11.below e12
        clear e12
        go_wp2_with fail
        go_at_call 16
        refine (get_mob a' b' m' n' is (O.take at_) (O.drop at_) hA hAo hBo hAl hBl n0 n1 va3 _ hall (kW.below d12 kW.lt)).mono ?_
        rintro r w13 ⟨rfl, e13⟩
        have d13 := d12.trans (e13.mono d12.size)
        replace hall := hall.below e13
        have hl13 := hl12.below e13
        clear e13
        go_wp2_with fail
        have hln := all_len a' b' m' n' is (O.take at_) (O.drop at_) hAl hBl
        have hnu := back_nums a' b' m' n' is (O.take at_) (O.drop at_) hA hBk n0 n1
        go_at_call 41
        refine (targets_list 12 sortOK12 _ (Nat.le_trans hln (by decide)) (by rw [hnu]; simp) (all_o8 a' b' m' n' is (O.take at_) (O.drop at_) hAo hBo) va3 _ hall (kW.below d13 kW.lt)).mono ?_
        rintro r w14 ⟨u1, dd, rfl, hd, hu, e14⟩
        rw [hnu] at hd
        rw [srt_one hd] at hu
        have d14 := d13.trans (e14.mono d13.size)
        have hl14 := hl13.below e14
        clear e14 hall hnu hln hd
        go_wp2_with fail
        go_at_call 40
        have d15 := d14.alloc d14.size (.cells #[.int .u32 n'] 28)
        refine (same_u [n'] [n'] (by simp) u1 _ _ (hu.below ((Below.refl _ _).alloc (Nat.le_refl _) _)) (useg1 n' w14)).mono ?_
        rintro r w16 ⟨rfl, e16⟩
        have d16 := d15.trans (e16.mono d15.size)
        have hl16 := (hl14.below ((Below.refl _ _).alloc (Nat.le_refl _) (.cells #[.int .u32 n'] 28))).below e16
        clear e16
        rw [show decide (([n'] : List Int) = [n']) = true by simp]
        replace S := (S.below hBW).below d16
        have kk := kW.below d16 kW.lt
        have ll := S.cells w1.heap.size (mk 3 12 b') (by simp)
        go_wp2_with fail
        clear ll
        go_at_call 18
        refine (kind_eq 2 (mk 3 12 b') (by rfl) _ kk).mono ?_
        rintro r w17 ⟨rfl, eK⟩
        replace S := S.below eK
        replace kk := kk.below eK kk.lt
        have d17 := d16.trans (eK.mono d16.size)
        have hl17 := hl16.below eK
        clear eK
        have ll := S.cells w2.heap.size (mk 6 1 (fl is + n')) (by simp)
        go_wp2_with fail
        clear ll
        go_at_call 18
        refine (kind_eq 4 (mk 6 1 (fl is + n')) (by rfl) _ kk).mono ?_
        rintro r w18 ⟨rfl, eK⟩
        replace S := S.below eK
        replace kk := kk.below eK kk.lt
        have d18 := d17.trans (eK.mono d17.size)
        have hl18 := hl17.below eK
        clear eK
        have ll := S.cells w3.heap.size (mk 6 2 m') (by simp)
        go_wp2_with fail
        clear ll
        go_at_call 18
        refine (kind_eq 5 (mk 6 2 m') (by rfl) _ kk).mono ?_
        rintro r w19 ⟨rfl, eK⟩
        replace S := S.below eK
        replace kk := kk.below eK kk.lt
        have d19 := d18.trans (eK.mono d18.size)
        have hl19 := hl18.below eK
        clear eK
        have ll := S.cells w4.heap.size (mk 6 3 m') (by simp)
        go_wp2_with fail
        clear ll
        go_at_call 18
        refine (kind_eq 6 (mk 6 3 m') (by rfl) _ kk).mono ?_
        rintro r w20 ⟨rfl, eK⟩
        replace S := S.below eK
        replace kk := kk.below eK kk.lt
        have d20 := d19.trans (eK.mono d19.size)
        have hl20 := hl19.below eK
        clear eK
        have ll := S.cells w5.heap.size (mk 6 6 (a' * 1099511627776 + b')) (by simp)
        go_wp2_with fail
        clear ll
        go_at_call 18
        refine (kind_eq 7 (mk 6 6 (a' * 1099511627776 + b')) (by rfl) _ kk).mono ?_
        rintro r w21 ⟨rfl, eK⟩
        replace S := S.below eK
        replace kk := kk.below eK kk.lt
        have d21 := d20.trans (eK.mono d20.size)
        have hl21 := hl20.below eK
        clear eK
        go_wp2_with fail
        have hno : nums O = [] := nums_kls hok
        go_at_call 41
        refine (targets_list 12 sortOK12 O (by omega) (by rw [hno]; decide) hoo _ _ hl21.seg kk).mono ?_
        rintro r w22 ⟨u2, dd2, rfl, hd2, hu2, e2⟩
        rw [hno] at hd2
        rw [srt_none hd2] at hu2
        obtain ⟨ua, uc, rfl, -, -⟩ := hu2
        have d22 := d21.trans (e2.mono d21.size)
        have dW : Below w.heap.size w W := SW.2
        clear e2 hd2 S kk
        go_wp2
        go_ret
        exact ⟨rfl, dW.trans (d22.mono dW.size)⟩
  · have hlen' : ¬ (E.length : Int) ≤ 60 := by omega
    have hgt : (60 : Int) < E.length := by omega
    go_enter Tryd.func6, Tryd.ntmps6
    go_wp2_with (go_at_call 9; refine (lives_is _ (S.ki hK)).mono ?_; rintro r w0 ⟨rfl, hb0⟩)
    go_ret
    exact ⟨rfl, hb0⟩
end Go.Proofs.YtmajalobkcnobaaDoor
