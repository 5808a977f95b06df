/- NlriOnly: the law's walk. No condition. -/
import Derived.Test.YthechpbihfmkoaaNOq
import Derived.Test.YthechpbihfmkoaaNLi
namespace Go.Proofs.Ythechpbihfmkoaa
open Go.RowKit Go.Sort
set_option linter.unusedVariables false
set_option linter.unusedSimpArgs false
set_option maxRecDepth 100000

theorem rangeM {w wr : World} {b k : Nat} {n : NL} (hb : b < w.heap.size) (h : w.rangeAt b k n.cs) (hB : Below w.heap.size w wr) : wr.rangeAt b k n.cs := fun j u hu => (hB.cell (p := ⟨b, k + j, none⟩) hb).trans (h j u hu)
/-- Whether a cut lies inside of the route i, of those up to m; where that route starts. -/
def cutAt (L : List NL) (c : Nat) : Nat → Nat × Bool
  | 0 => (0, false)
  | i + 1 => if (codes (L.take i)).length < c ∧ c < (codes (L.take i)).length + (L.getD i NL.zero).code.length then ((codes (L.take i)).length, true) else cutAt L c i
theorem take_code (L : List NL) (i : Nat) (hi : i < L.length) : codes (L.take (i + 1)) = codes (L.take i) ++ (L.getD i NL.zero).code := by
  have : L[i]? = some (L.getD i NL.zero) := by rw [List.getD_eq_getElem?_getD, List.getElem?_eq_getElem hi]; rfl
  rw [List.take_add_one, this, codes_append]
  show _ ++ codes [_] = _
  rw [codes_one]
theorem take_len (L : List NL) (i : Nat) (hi : i < L.length) : (codes (L.take (i + 1))).length = (codes (L.take i)).length + (L.getD i NL.zero).code.length := by rw [take_code L i hi, List.length_append]
theorem take_mono (L : List NL) (i j : Nat) (h : i ≤ j) : (codes (L.take i)).length ≤ (codes (L.take j)).length := by
  have : L.take j = L.take i ++ (L.take j).drop i := by
    have := (List.take_append_drop i (L.take j)).symm
    rwa [List.take_take, Nat.min_eq_left h] at this
  rw [this, codes_append, List.length_append]
  omega
theorem cutAt_out (L : List NL) (c : Nat) : ∀ m, (∀ i, i < m → ¬ ((codes (L.take i)).length < c ∧ c < (codes (L.take i)).length + (L.getD i NL.zero).code.length)) → cutAt L c m = (0, false)
  | 0, _ => rfl
  | m + 1, h => by
    show (if _ then _ else _) = _
    rw [if_neg (h m (by omega)), cutAt_out L c m fun i hi => h i (by omega)]
theorem cutAt_in (L : List NL) (c j : Nat) (hj : (codes (L.take j)).length < c ∧ c < (codes (L.take j)).length + (L.getD j NL.zero).code.length) : ∀ m, j < m → m ≤ L.length → cutAt L c m = ((codes (L.take j)).length, true)
  | 0, h, _ => absurd h (by omega)
  | m + 1, h, hm => by
    show (if _ then _ else _) = _
    rcases Nat.lt_or_ge j m with q | q
    · have h1 := take_len L j (by omega)
      have h2 := take_mono L (j + 1) m q
      rw [if_neg (by omega), cutAt_in L c j hj m q (by omega)]
    · obtain rfl : j = m := by omega
      rw [if_pos hj]
theorem getD_of {L : List NL} {j : Nat} {n : NL} (h : L[j]? = some n) : j < L.length ∧ L.getD j NL.zero = n := by
  refine ⟨(List.getElem?_eq_some_iff.1 h).1, ?_⟩
  rw [List.getD_eq_getElem?_getD, h]
  rfl
theorem getD_at {L : List NL} {i : Nat} (hi : i < L.length) : L[i]? = some (L.getD i NL.zero) := by rw [List.getD_eq_getElem?_getD, List.getElem?_eq_getElem hi]; rfl

def Held (p : Prop) : Prop := p
theorem held {p : Prop} (h : Held p) : p := h
set_option maxHeartbeats 4000000 in
theorem only_is (xs : List Int) (ho : Oct xs) (x : Int) (hx : -9223372036854775808 ≤ x ∧ x ≤ 9223372036854775807) (v : Value) (w : World) (h : Seg w v xs) :
    Calls Try.prog 7 #[v, .int .i64 x] w fun r w' => r = .returned (.bool true) ∧ Below w.heap.size w w' := by
  have hform : ∃ a c, v = .slice a xs.length c := by obtain ⟨a, c, e, -⟩ := h; exact ⟨a, c, e⟩
  obtain ⟨a, c, rfl⟩ := hform
  by_cases hN : xs.length ≤ 400
  · have hNi : ¬ (400 : Int) < xs.length := by omega
    have hlen : xs.length ≤ 1099511627776 := by omega
    have hP := Lib.hid (show (xs.length : Int) + 1 = ((xs.length + 1 : Nat) : Int) by omega)
    have hpk := pk_lt x (xs.length + 1) (by omega)
    have hpick := pick_eq x (xs.length + 1) (by omega) (by omega) hx
    go_enter Try.func7, Try.ntmps7
    go_wp2_with fail
    go_at_call 9
    refine (lives_is w).mono ?_
    rintro r w1 ⟨rfl, k1⟩
    have hs1 := h.below k1
    go_wp2_with fail
    go_at_call 12
    refine (read_is xs ho hlen _ w1 hs1).mono ?_
    rintro r w2 ⟨V, E, A, ⟨rfl, hR⟩, k2⟩
    have hB2 := k1.trans (k2.mono k1.size)
    have hO := reads_only ho hN hR
    clear hR
    rcases hO with ⟨L, hG, hL4, hcd, rfl, rfl, hV⟩ | ⟨hE, hA0, hA1, rfl⟩
    rotate_left
    · have hE' : (E != 0) = true := by simpa using hE
      go_wp2_with (first
          | (refine at_newF rfl rfl ?_; rintro yn fy ky sy; clear sy; go_simp)
          | (refine at_storeF rfl _ _ rfl rfl w2.heap.size rfl 0 0 _ _ rfl fy ?_; rintro y Fy bby zy; clear zy; have Qy := But.below ky bby (Nat.le_refl _) ky.size; obtain ⟨ey, ay⟩ := Fy.cells; clear fy bby ky))
      go_ret
      exact ⟨rfl, hB2.trans (Qy.mono hB2.size)⟩
    · have hE' : ((0 : Int) != 0) = false := rfl
      go_wp2_with (first
          | (refine at_newF rfl rfl ?_; rintro yn fy ky sy; clear sy; go_simp)
          | (refine at_storeF rfl _ _ rfl rfl w2.heap.size rfl 0 0 _ _ rfl fy ?_; rintro y Fy bby zy; clear zy; have Qy := But.below ky bby (Nat.le_refl _) ky.size; obtain ⟨ey, ay⟩ := Fy.cells; clear fy bby ky))
      rw [hP.out]
      go_at_call 27
      refine (hpick _).mono ?_
      rintro e wq ⟨rfl, hq⟩
      obtain rfl := hq.symm
      have hB3 := hB2.trans (Qy.mono hB2.size)
      have hs3 := h.below hB3
      have hV3 := (hV.below Qy).seg
      clear hs1 hV k1 k2 hpick Qy hB2 hE' hx Fy ey ay hP
      generalize pk x (xs.length + 1) = c0 at hpk ⊢
      have hc0 : c0 ≤ (codes L).length := by rw [hcd]; omega
      have hcut := codes_cut L c0 hc0
      rw [hcd] at hcut
      have hVf : ∃ aV cV, V = .slice aV L.length cV := by obtain ⟨aV, cV, e, -⟩ := hV3; exact ⟨aV, cV, e⟩
      obtain ⟨aV, cV, rfl⟩ := hVf
      have hx3 := hV3
      obtain ⟨a5, c5, hv5, hc5, hx5⟩ := hx3
      injection hv5 with hv51 hv52 hv53
      subst hv51 hv53
      have HX := Lib.hid hx5
      have HG := Lib.hid hG
      clear hx5 hG
      go_wp2_with fail
      go_loopw [7, 8, 9, 10] (fun v7 v8 v9 v10 wr => ∃ i : Nat, i ≤ L.length ∧ v10 = .int .i64 i ∧ v8 = .int .i64 (cutAt L c0 i).1 ∧ v9 = .bool (cutAt L c0 i).2 ∧ DatB y.heap.size wr v7 (codes (L.take i)) ∧ Below y.heap.size y wr) (fun _ _ _ v10 _ => L.length - (intOf v10).toNat)
      case atStart => exact ⟨0, Nat.zero_le _, rfl, rfl, rfl, World.ownsRow_nil y _ _ _, Below.refl _ _⟩
      case round =>
        obtain ⟨i, hi, rfl, rfl, rfl, hD, hB⟩ := hrel
        by_cases hlt : i < L.length
        · have hn := getD_at hlt
          obtain ⟨b, o, rfl, hb, hr⟩ := HX.out i _ hn
          have hgd := HG.out _ (List.mem_of_getElem? hn)
          have hrr := rangeM hb hr hB
          have hbytes := bytes_ok _ hgd.1 hgd.2
          have htk := take_code L i hlt
          have hP1 := codes_len (L.take i)
          have hcut1 : cutAt L c0 (i + 1) = if (codes (L.take i)).length < c0 ∧ c0 < (codes (L.take i)).length + (L.getD i NL.zero).code.length then ((codes (L.take i)).length, true) else cutAt L c0 i := rfl
          have hil : (i : Int) < L.length := by omega
          have hcl : (L.getD i NL.zero).code.length ≤ 42 := by
            have h2 := val_le (L.getD i NL.zero)
            have h3 := code_len (L.getD i NL.zero)
            omega
          have hP2 : (codes (L.take i)).length ≤ 400 * 42 := by
            rw [List.length_take] at hP1
            have : min i L.length * 42 ≤ 400 * 42 := Nat.mul_le_mul_right _ (by omega)
            omega
          generalize L.getD i NL.zero = N at hrr hbytes htk hcut1 hcl
          clear hr hn hgd hcut hc0 hP1
          go_wp2_with (refine at_loadN rfl (.tmp 57) rfl b (o + i * 21) rfl N hrr ?_)
          go_at_call 10
          refine (hbytes wr).mono ?_
          rintro r w6 ⟨v6, rfl, D6, k6⟩
          have hD6 : DatB y.heap.size w6 u7 (codes (L.take i)) := DatB.below hD k6
          have hB6 := hB.trans (k6.mono hB.size)
          obtain ⟨a6, c6, rfl⟩ := D6.shape
          obtain ⟨a7, c7, rfl⟩ := (DatB.dat hD6).shape
          clear hbytes hrr k6 hD hB
          obtain ⟨v', w7, hr7, hD7, hg7⟩ := append_dat w6 23 y.heap.size _ _ _ _ hD6 D6 hB6.size (by omega)
          rw [← htk] at hD7
          have hB7 : Below y.heap.size y w7 := hB6.grown hg7 hB6.size fun k hk => (World.ownsRow.lt hD6 k hk).1
          clear htk hD6 D6 hg7
          generalize N.code.length = n1 at hr7 hcut1 hcl ⊢
          generalize (codes (L.take i)).length = n0 at hr7 hcut1 hP2 ⊢
          by_cases h1 : n0 < c0
          · have h1' : (n0 : Int) < c0 := by omega
            by_cases h2 : c0 < n0 + n1
            · have h2' : (c0 : Int) < (n0 : Int) + n1 := by omega
              rw [if_pos ⟨h1, h2⟩] at hcut1
              go_wp2_with (at_builtin; refine Lib.wpList_append_run _ rfl _ _ 23 23 rfl _ _ rfl rfl _ _ hr7 ?_)
              clear hr7
              go_roundw
              case rel => exact ⟨i + 1, by omega, by go_num, by rw [hcut1], by rw [hcut1], hD7, hB7⟩
              case measure => simp [intOf]; omega
            · have h2' : ¬ (c0 : Int) < (n0 : Int) + n1 := by omega
              rw [if_neg (fun q => h2 q.2)] at hcut1
              go_wp2_with (at_builtin; refine Lib.wpList_append_run _ rfl _ _ 23 23 rfl _ _ rfl rfl _ _ hr7 ?_)
              clear hr7
              go_roundw
              case rel => exact ⟨i + 1, by omega, by go_num, by rw [hcut1], by rw [hcut1], hD7, hB7⟩
              case measure => simp [intOf]; omega
          · have h1' : ¬ (n0 : Int) < c0 := by omega
            rw [if_neg (fun q => h1 q.1)] at hcut1
            go_wp2_with (at_builtin; refine Lib.wpList_append_run _ rfl _ _ 23 23 rfl _ _ rfl rfl _ _ hr7 ?_)
            clear hr7
            go_roundw
            case rel => exact ⟨i + 1, by omega, by go_num, by rw [hcut1], by rw [hcut1], hD7, hB7⟩
            case measure => simp [intOf]; omega
        · obtain rfl : i = L.length := by omega
          rw [List.take_length, hcd] at hD
          have hs4 := hs3.below hB
          have hV4 := hV3.below hB
          obtain ⟨v20, hr20, hs20⟩ := slice_b hs4 c0 (by omega)
          have hoc : Oct (xs.take c0) := ho.take _
          have hB4 := hB3.trans (hB.mono hB3.size)
          obtain ⟨a7, c7, rfl⟩ := (DatB.dat hD).shape
          clear HX hB3 hs3 hV3 h
          rcases hcut with ⟨j, hj1, hj2, hj3⟩ | ⟨j, n, k, hj1, hk0, hk1, hj2, hj3⟩
          · have hst : cutAt L c0 L.length = (0, false) := cutAt_out L c0 _ fun i hi q => by
              rcases Nat.lt_or_ge i j with r | r
              · have h1 := take_len L i hi
                have h2 := take_mono L (i + 1) j r
                omega
              · have h2 := take_mono L j i r
                omega
            rw [hst]
            rw [hj3] at hs20 hoc
            have hGt : ∀ n ∈ L.take j, Good n := fun n hn => HG.out n (List.mem_of_mem_take hn)
            have hlj : (L.take j).length = j := by rw [List.length_take]; omega
            have hcl := codes_len (L.take j)
            have hclj : (codes (L.take j)).length ≤ 1099511627776 := by
              rw [hlj] at hcl
              omega
            clear HG hcl hj2 hj3 hlt hi hst
            go_wp2_with (refine at_sliceH rfl _ (by rw [elem_bytes]; exact Try.underlying23) (.tmp 83) (.tmp 84) rfl _ _ v20 rfl rfl hr20 ?_)
            go_at_call 12
            refine (read_is _ hoc hclj v20 wr hs20).mono ?_
            rintro r w8 ⟨V8, E8, A8, ⟨rfl, hR8⟩, k8⟩
            obtain ⟨rfl, rfl, hN8, -⟩ := reads_codes hGt (by omega) hR8
            have hf8 : ∃ aP cP, V8 = .slice aP j cP := by
              obtain ⟨aP, cP, e⟩ := hN8.form
              rw [hlj] at e
              exact ⟨aP, cP, e⟩
            obtain ⟨aP, cP, rfl⟩ := hf8
            obtain ⟨v30, hr30, hs30⟩ := slice_n (hV4.below k8) j hj1
            have hB8 := hB4.trans (k8.mono hB4.size)
            have hjl : ¬ (L.length : Int) < j := by omega
            clear hR8 hr20 hs20 hoc hclj hV4
            go_wp2_with (first
              | (refine at_newF rfl rfl ?_; rintro zn fz kz sz; clear sz; go_simp)
              | (refine at_storeF rfl _ _ rfl rfl w8.heap.size rfl 0 0 _ _ rfl fz ?_; rintro z Fz bz zz; clear zz; have Qz := But.below kz bz (Nat.le_refl _) kz.size; obtain ⟨ez, az⟩ := Fz.cells; clear fz bz kz)
              | (refine at_loadF rfl _ rfl w8.heap.size rfl _ _ Fz ?_)
              | (refine at_neqF rfl _ _ rfl _ _ rfl rfl ?_)
              | (refine at_sliceH rfl _ (by rw [elemN]; exact Try.underlying38) (.tmp 112) (.tmp 114) rfl _ _ v30 rfl rfl hr30 ?_))
            go_at_call 26
            have hB9 := hB8.trans (Qz.mono hB8.size)
            refine (same_n (L.take j) (by omega) _ v30 z (hN8.below Qz).seg (hs30.below Qz)).mono ?_
            rintro r w9 ⟨rfl, k9⟩
            have hs9 := ((hs4.below k8).below Qz).below k9
            have hD9 := (((DatB.dat hD).below k8).below Qz).below k9
            go_wp2_with fail
            go_at_call 28
            refine (same_b xs (by omega) _ _ w9 hD9.seg hs9).mono ?_
            rintro r w10 ⟨rfl, k10⟩
            go_wp2
            go_ret
            exact ⟨rfl, (hB9.trans (k9.mono hB9.size)).trans (k10.mono (hB9.trans (k9.mono hB9.size)).size)⟩
          · obtain ⟨hj, hjn⟩ := getD_of hj1
            have hst : cutAt L c0 L.length = ((codes (L.take j)).length, true) := cutAt_in L c0 j (by rw [hjn]; omega) _ hj (Nat.le_refl _)
            rw [hst]
            rw [hj3] at hs20 hoc
            have hGt : ∀ n ∈ L.take j, Good n := fun n hn => HG.out n (List.mem_of_mem_take hn)
            have hlj : (L.take j).length = j := by rw [List.length_take]; omega
            have hclj : (codes (L.take j) ++ n.code.take k).length ≤ 1099511627776 := by
              have := congrArg List.length hj3
              rw [List.length_take] at this
              omega
            clear HG hj2 hj3 hlt hi hst
            go_wp2_with (refine at_sliceH rfl _ (by rw [elem_bytes]; exact Try.underlying23) (.tmp 83) (.tmp 84) rfl _ _ v20 rfl rfl hr20 ?_)
            go_at_call 12
            refine (read_is _ hoc hclj v20 wr hs20).mono ?_
            rintro r w8 ⟨V8, E8, A8, ⟨rfl, hR8⟩, k8⟩
            obtain ⟨rfl, rfl, rfl⟩ := reads_cut hGt (by omega) hk0 (by rw [← hjn]; rw [hjn]; exact hk1) hR8
            have hB8 := hB4.trans (k8.mono hB4.size)
            clear hR8 hr20 hs20 hoc hclj hV4
            generalize (codes (L.take j)).length = P0
            have hq : ∀ W, (Op.equalIn 10000 40 (.agg #[.int .i64 4, .int .i64 P0]) (.agg #[.int .i64 4, .int .i64 P0])).run Try.prog W = .ok true W := fun W => by
              have := eqFlt 4 P0 4 P0 W
              simpa using this
            have hq2 : ∀ W, (binOp .neq 40 (.agg #[.int .i64 4, .int .i64 P0]) (.agg #[.int .i64 4, .int .i64 P0])).run Try.prog W = .ok (.bool false) W := fun W => neqFlt 4 P0 W
            go_wp2_with (first
              | (refine at_newF rfl rfl ?_; rintro zn fz kz sz; clear sz; go_simp)
              | (refine at_storeF rfl _ _ rfl rfl w8.heap.size rfl 0 0 _ _ rfl fz ?_; rintro z Fz bz zz; clear zz; have Qz := But.below kz bz (Nat.le_refl _) kz.size; obtain ⟨ez, az⟩ := Fz.cells; clear fz bz kz; refine held ?_))
            unfold Held
            go_wp2_with fail
            have hB9 := hB8.trans (Qz.mono hB8.size)
            have hs9 := (hs4.below k8).below Qz
            have hD9 := ((DatB.dat hD).below k8).below Qz
            go_at_call 28
            refine (same_b xs (by omega) _ _ z hD9.seg hs9).mono ?_
            rintro r w10 ⟨rfl, k10⟩
            go_wp2
            go_ret
            exact ⟨rfl, hB9.trans (k10.mono hB9.size)⟩
  · have hNi : (400 : Int) < xs.length := by omega
    clear h
    go_enter Try.func7, Try.ntmps7
    go_wp2_with fail
    go_at_call 9
    refine (lives_is w).mono ?_
    rintro r w1 ⟨rfl, k1⟩
    go_wp2
    go_ret
    exact ⟨rfl, k1⟩
end Go.Proofs.Ythechpbihfmkoaa
