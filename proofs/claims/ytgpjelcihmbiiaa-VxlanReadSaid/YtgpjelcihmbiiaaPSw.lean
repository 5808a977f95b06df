/- PacketSums: the walk. No condition. -/
import Derived.Test.YtgpjelcihmbiiaaPSu
namespace Go.Proofs.Ytgpjelcihmbiiaa
open Go.RowKit
set_option linter.unusedVariables false
set_option linter.unusedSimpArgs false
set_option maxRecDepth 100000

def pk (x : Int) (n : Nat) : Nat := (if x.tmod n < 0 then x.tmod n + n else x.tmod n).toNat
theorem pk_lt (x : Int) (n : Nat) (h : 0 < n) : pk x n < n := by
  have b1 := Int.tmod_lt_of_pos x (show (0 : Int) < n by omega)
  have b2 : -(n : Int) < x.tmod n := Int.lt_tmod_of_pos x (show (0 : Int) < n by omega)
  unfold pk
  split <;> omega
theorem pick_eq (x : Int) (n : Nat) (h0 : 0 < n) (h1 : n ≤ 4611686018427387904) (hx : -9223372036854775808 ≤ x ∧ x ≤ 9223372036854775807) (w : World) :
    Calls Try.prog 27 #[.int .i64 x, .int .i64 n] w fun e w' => e = .returned (.int .i64 (pk x n)) ∧ w' = w := by
  have hn : ¬ (n : Int) = 0 := by omega
  have hn' : ((n : Int) == 0) = false := by simpa using hn
  have b1 := Int.tmod_lt_of_pos x (show (0 : Int) < n by omega)
  have b2 : -(n : Int) < x.tmod n := Int.lt_tmod_of_pos x (show (0 : Int) < n by omega)
  by_cases hneg : x.tmod n < 0
  · have e : ((pk x n : Nat) : Int) = x.tmod n + n := by
      unfold pk
      rw [if_pos hneg, Int.toNat_of_nonneg (by omega)]
    rw [e]
    clear e
    go_enter Try.func27, Try.ntmps27
    go_wp2
    go_ret
    exact ⟨rfl, rfl⟩
  · have e : ((pk x n : Nat) : Int) = x.tmod n := by
      unfold pk
      rw [if_neg hneg, Int.toNat_of_nonneg (by omega)]
    rw [e]
    clear e
    go_enter Try.func27, Try.ntmps27
    go_wp2
    go_ret
    exact ⟨rfl, rfl⟩
section
variable {ops : Array Oper} {rest : List Oper} {o : Oper} {a : Act} {w : World} {Q : Exit → Act → World → Prop}
theorem at_sliceLH (hgd : o.guard = none) (ty : TypeId) (hu : Try.prog.underlying ty = some (.slice (Try.prog.elem ty))) (x l h : Operand) (ho : o.op = .slice ty x (some l) (some h) none) (v lo hi v1 : Value) (hx : a.eval x = v) (hl : a.eval l = lo) (hh : a.eval h = hi) (hr : (Instr.slice ty v (some lo) (some hi) none).run Try.prog w = .ok v1 w)
    (k : wpList Try.prog ops Q rest (a.put o.dst v1) w) : wpList Try.prog ops Q (o :: rest) a w :=
  wpList_plain hgd fun _ hK => by
    have hr' : (Instr.sliceAt ty v (some lo) (some hi) none).run Try.prog w = .ok v1 w := by rw [run_sliceAt_slice _ _ _ _ _ _ hu]; exact hr
    unfold Oper.wp execOp
    simp only [ho, Option.map_some, Option.map_none, hx, hl, hh, Sem.run_bind, hr', Result.andThen_ok, Sem.run_pure]
    exact hK _ _ k
end
theorem under_b : Try.prog.underlying 23 = some (.slice (Try.prog.elem 23)) := by rw [elem_bytes]; exact Try.underlying23
theorem u8_one : (Try.prog.info? 5).map (·.size) = some 1 := by kernel_rfl
/-- An octet written into a slice. -/
theorem dat_set {w : World} {g cap : Nat} {xs : List Int} {cs : List Value} (h1 : xs.length ≤ cap) (h2 : cap ≤ maxLen) (h3 : cs.length = cap) (h4 : cs.take xs.length = xs.map (Value.int .u8)) (q : Nat) (y : Int) (hb : Blk w g 5 (cs.set q (.int .u8 y))) : Dat w (.slice (some ⟨g, 0, none⟩) xs.length cap) (xs.set q y) := by
  refine Dat.of (by simp) h1 h2 hb (by simpa using h3) ?_
  rw [List.take_set, h4, List.map_set]
theorem enc_ip (f : FL) (hk : f.k = 2) : ∃ Q : List Int, f.enc = (enc 6 f.d.toNat ++ (enc 6 f.s.toNat ++ enc 2 2048)) ++ (f.hdB (sumI (f.hdB 0)) ++ Q) := by
  refine ⟨f.ptB ++ enc 8 f.x.toNat, ?_⟩
  unfold FL.enc
  have hm : f.mid = f.ipB := by unfold FL.mid; rw [if_neg (by omega), if_neg (by omega)]
  rw [hm]
  unfold FL.ipB
  simp only [List.append_assoc]
theorem head_ip (f : FL) (hk : f.k = 2) : (f.enc.drop 14).take 20 = f.hdB (sumI (f.hdB 0)) := by
  obtain ⟨Q, hQ⟩ := enc_ip f hk
  rw [hQ, List.drop_left' (by simp [enc_length]), List.take_left' (hdB_length f _)]
theorem getD_dt (xs : List Int) (n k i : Nat) (hi : i < k) : ((xs.drop n).take k).getD i 0 = xs.getD (n + i) 0 := getD_part xs n k i hi
theorem set_ty (xs : List Int) (p : Nat) (v : Int) (hp : p < 20) (hl : 34 ≤ xs.length) : tyAt (xs.set (14 + p) v) = tyAt xs := by
  unfold tyAt
  rw [getD_set _ _ _ _ (by omega), getD_set _ _ _ _ (by omega), if_neg (by omega), if_neg (by omega)]
theorem set_head (xs : List Int) (p : Nat) (v : Int) : ((xs.set (14 + p) v).drop 14).take 20 = (((xs.drop 14).take 20).set p v) := by
  rw [List.drop_set, if_neg (by omega), List.take_set]
  congr 1
  omega
theorem enc_len_ip (f : FL) (hf : f.Ok) (hc : f.chk = 0) (hk : f.k = 2) : 34 ≤ f.enc.length ∧ f.enc.length ≤ 50 := by
  obtain ⟨Q, hQ⟩ := enc_ip f hk
  have h3 := (dec_enc hf hc).2.2.1
  rw [hk] at h3
  refine ⟨by rw [hQ]; simp [enc_length, hdB_length]; omega, ?_⟩
  unfold szOf at h3
  rw [if_neg (by decide), if_neg (by decide)] at h3
  split at h3 <;> omega
/-- What Read answers to a header of which one octet was written. -/
theorem read_set (f : FL) (hf : f.Ok) (hc : f.chk = 0) (hk : f.k = 2) (p : Nat) (hp : p < 20) (y : Int) (hy : 0 ≤ y ∧ y < 256) (v : Value) (w : World) (hv : Seg w v (f.enc.set (14 + p) y)) :
    Calls Try.prog 17 #[v] w fun r w' => (∃ (F : FL) (e a : Int), r = .returned (.tuple #[F.v, .agg (flt e a).toArray]) ∧ (e == 0) = (y == f.enc.getD (14 + p) 0)) ∧ Below w.heap.size w w' := by
  obtain ⟨l1, l2⟩ := enc_len_ip f hf hc hk
  by_cases he : y = f.enc.getD (14 + p) 0
  · have hs : f.enc.set (14 + p) y = f.enc := by
      apply List.ext_getElem?
      intro i
      rw [List.getElem?_set]
      by_cases hi : 14 + p = i
      · subst hi
        rw [if_pos rfl, if_pos (by omega), he, List.getElem?_eq_getElem (by omega)]
        simp [List.getD_eq_getElem?_getD, show 14 + p < f.enc.length by omega]
      · rw [if_neg hi]
    rw [hs] at hv
    refine (read_enc hf hc v w hv).mono fun r w' h => ⟨⟨f, 0, 0, h.1, ?_⟩, h.2⟩
    rw [← he]
    simp
  · have ho : Oct (f.enc.set (14 + p) y) := fun x hx => by
      rcases List.mem_or_eq_of_mem_set hx with q | q
      · exact enc_octets f x q
      · rw [q]; exact hy
    refine (read_any _ ho (by rw [List.length_set]; omega) v w hv).mono fun r w' h => ⟨?_, h.2⟩
    obtain ⟨F, e, a, hr, q⟩ := h.1
    refine ⟨F, e, a, hr, ?_⟩
    rcases q with ⟨q, -⟩ | ⟨-, -, gf, gc, ge, gk⟩
    · have h1 : (e == 0) = false := by simpa using q
      have h2 : (y == f.enc.getD (14 + p) 0) = false := by simpa using he
      rw [h1, h2]
    · exfalso
      rw [set_ty _ _ _ hp (by omega), (dec_enc hf hc).2.1, hk] at gk
      have hh := head_ip F gk
      rw [ge, set_head, head_ip f hk] at hh
      have := one_octet f F p y hp hy hh.symm
      rw [← head_ip f hk, getD_dt _ _ _ _ hp] at this
      exact he this
set_option maxHeartbeats 2000000 in
theorem sums_bad (f : FL) (hc : f.chk ≠ 0) (at_ val : Int) (w : World) : Calls Try.prog 8 #[f.v, .int .i64 at_, .int .u8 val] w fun r w' => r = .returned (.bool true) ∧ Below w.heap.size w w' := by
  have hB := fun w => bytes_bad f hc w
  have A : (f.chk != 0) = true := by simpa using hc
  generalize f.chk = y at hB A
  clear hc
  unfold FL.v at hB ⊢
  go_enter Try.func8, Try.ntmps8
  go_wp2_with (first
    | (refine at_box rfl 36 _ rfl (FL.cs f) rfl ?_; rintro w1 H1 k1 s1)
    | (go_at_call 15; refine (lives_is w1).mono ?_; rintro e w2 ⟨rfl, k2⟩; have b2 := k1.trans (k2.mono k1.size); have H2 := H1.below k2 H1.lt; clear k1 k2 H1)
    | (refine at_mid rfl 36 _ rfl w.heap.size 0 rfl H2 (FL.cs f) rfl _ Try.underlying36 rfl szF ?_)
    | (go_at_call 16; refine (hB w2).mono ?_; rintro e w3 ⟨rfl, k3⟩; have b3 := b2.trans (k3.mono b2.size); clear k3 b2 H2 hB))
  go_ret
  exact ⟨rfl, b3⟩
set_option maxHeartbeats 2000000 in
theorem sums_kind (f : FL) (hf : f.Ok) (hc : f.chk = 0) (hk : f.k ≠ 2) (at_ val : Int) (w : World) : Calls Try.prog 8 #[f.v, .int .i64 at_, .int .u8 val] w fun r w' => r = .returned (.bool true) ∧ Below w.heap.size w w' := by
  have hB := fun w => bytes_ok f hf hc w
  have A : (f.k != 2) = true := by simpa using hk
  clear hc hk hf
  generalize f.enc = xs at hB
  unfold FL.v at hB ⊢
  go_enter Try.func8, Try.ntmps8
  go_wp2_with (first
    | (refine at_box rfl 36 _ rfl (FL.cs f) rfl ?_; rintro w1 H1 k1 s1)
    | (go_at_call 15; refine (lives_is w1).mono ?_; rintro e w2 ⟨rfl, k2⟩; have b2 := k1.trans (k2.mono k1.size); have H2 := H1.below k2 H1.lt; clear k1 k2 H1)
    | (refine at_mid rfl 36 _ rfl w.heap.size 0 rfl H2 (FL.cs f) rfl _ Try.underlying36 rfl szF ?_)
    | (go_at_call 16; refine (hB w2).mono ?_; rintro e w3 ⟨v, rfl, d3, k3⟩; have b3 := b2.trans (k3.mono b2.size); have H3 := H2.below k3 H2.lt; have c2 := Blk.cell H3 2 (v := .int .i64 f.k) rfl; obtain ⟨va, vc, rfl⟩ := d3.dat.shape; clear k3 b2 H2 hB d3))
  go_ret
  exact ⟨rfl, b3⟩
set_option maxHeartbeats 4000000 in
theorem sums_ok_t (f : FL) (hf : f.Ok) (hc : f.chk = 0) (hk : f.k = 2) (at_ y : Int) (ha : -9223372036854775808 ≤ at_ ∧ at_ ≤ 9223372036854775807) (hy : 0 ≤ y ∧ y < 256) (hq : (y == f.enc.getD (14 + pk at_ 20) 0) = true) (w : World) : Calls Try.prog 8 #[f.v, .int .i64 at_, .int .u8 y] w fun r w' => r = .returned (.bool true) ∧ Below w.heap.size w w' := by
  have hB := fun w => bytes_ok f hf hc w
  have hP := fun w => pick_eq at_ 20 (by decide) (by decide) ha w
  have hp := pk_lt at_ 20 (by decide)
  have hR := fun v w h => read_set f hf hc hk (pk at_ 20) hp y hy v w h
  rw [hq] at hR
  obtain ⟨l1, l2⟩ := enc_len_ip f hf hc hk
  have hS := head_ip f hk
  have hS0 := sum_full f
  have hSl := hdB_length f (sumI (f.hdB 0))
  have hSo := hdB_oct f (sumI (f.hdB 0))
  generalize f.hdB (sumI (f.hdB 0)) = hd at hS hS0 hSl hSo
  generalize pk at_ 20 = p at *
  have ho := (enc_octets f).getD (14 + p)
  have HK : (f.k != 2) = false := by simpa using hk
  clear hc hk hf
  generalize f.enc = xs at *
  have HR := Lib.hid hR; have HS := Lib.hid hS; have HS0 := Lib.hid hS0; have HSl := Lib.hid hSl; have HSo := Lib.hid hSo
  clear hR hS hS0 hSl hSo
  unfold FL.v at hB ⊢
  have hlen : ¬ (xs.length : Int) < 34 := by omega
  obtain ⟨q, hqe⟩ : ∃ q : Nat, 14 + p = q := ⟨_, rfl⟩
  have hqi : (14 : Int) + p = q := by omega
  have hql : (q : Int) < xs.length := by omega
  rw [hqe] at ho hq HR
  have HQ := Lib.hid hqe
  clear hqe
  obtain ⟨u, hu⟩ : ∃ u, xs.getD q 0 = u := ⟨_, rfl⟩
  rw [hu] at hq ho
  have HU := Lib.hid hu
  clear hu
  go_enter Try.func8, Try.ntmps8
  go_wp2_with (first
    | (refine at_box rfl 36 _ rfl (FL.cs f) rfl ?_; rintro w1 H1 k1 s1)
    | (go_at_call 15; refine (lives_is w1).mono ?_; rintro e w2 ⟨rfl, k2⟩; have b2 := k1.trans (k2.mono k1.size); have H2 := H1.below k2 H1.lt; clear k1 k2 H1)
    | (refine at_mid rfl 36 _ rfl w.heap.size 0 rfl H2 (FL.cs f) rfl _ Try.underlying36 rfl szF ?_))
  go_at_call 16
  refine (hB w2).mono ?_
  rintro e w3 ⟨v, rfl, d3, k3⟩
  have b3 := b2.trans (k3.mono b2.size)
  have H3 := H2.below k3 H2.lt
  have c2 := Blk.cell H3 2 (v := .int .i64 f.k) rfl
  obtain ⟨g, cap, cs, rfl, f1, f2, f3, f4, f5⟩ : ∃ g cap cs, v = .slice (some ⟨g, 0, none⟩) xs.length cap ∧ xs.length ≤ cap ∧ cap ≤ maxLen ∧ Blk w3 g 5 cs ∧ cs.length = cap ∧ cs.take xs.length = xs.map (Value.int .u8) := by
    rcases d3.dat.form with ⟨-, h⟩ | h
    · rw [h] at l1; simp at l1
    · exact h
  have hg : w.heap.size ≤ g := Nat.le_trans b2.size (d3.own g rfl)
  have hcq := f3.cell q (take_at f5 q (by omega))
  rw [HU.out] at hcq
  obtain ⟨sv, hsr, hss⟩ := dat_slice d3.dat 14 20 (by omega)
  rw [HS.out] at hss
  rw [show ((14 : Nat) : Int) = 14 from rfl, show ((20 : Nat) : Int) = 20 from rfl, show (14 : Int) + 20 = 34 from rfl] at hsr
  have HSS := Lib.hid (sum_is hd sv w3 hss HSo.out (by rw [HSl.out]; decide))
  have F1 := Lib.hid f1; have F2 := Lib.hid f2; have F3 := Lib.hid f3; have F4 := Lib.hid f4; have F5 := Lib.hid f5
  have FC := Lib.hid (show q < cs.length by omega)
  clear k3 b2 H2 hB d3 H3 f1 f2 f3 f4 f5 hss
  go_wp2_with (first
    | (go_at_call 27; refine (hP w3).mono ?_; rintro e w' ⟨rfl, hw⟩; obtain rfl := hw.symm; clear hP)
    | (refine at_sliceLH rfl 23 under_b _ _ _ rfl (.slice (some ⟨g, 0, none⟩) xs.length cap) (.int .i64 14) (.int .i64 34) sv rfl rfl rfl hsr ?_))
  go_at_call 20
  refine HSS.out.mono ?_
  rintro e w4 ⟨rfl, k4⟩
  rw [HS0.out]
  have b4 := b3.trans (k4.mono b3.size)
  have hcq4 := (k4.cell (p := ⟨g, q, none⟩) (block_lt_of_cell hcq)).trans hcq
  have F34 := F3.out.below k4 F3.out.lt
  clear k4 b3 hcq HSS hsr c2 F3
  go_wp2_with (refine at_set rfl 5 _ _ rfl rfl g q rfl 5 cs (cs.set q (.int .u8 y)) (.int .u8 y) rfl F34 rfl rfl rfl u8_one FC.out ?_; rintro w5 g5)
  have b5 := g5.below b4 hg
  have D5 := dat_set F1.out F2.out F4.out F5.out q y g5.blk
  clear b4 g5 F34 hcq4
  go_at_call 17
  refine (HR.out _ w5 D5.seg).mono ?_
  rintro e w6 ⟨⟨F, E, A, rfl, hE⟩, k6⟩
  have b6 := b5.trans (k6.mono b5.size)
  clear k6 b5 D5 HR
  unfold FL.v
  go_wp2_with (first
    | (refine at_new rfl 36 F0.cs rfl run_newFr ?_; rintro w7 X7 k7 s7; have FB := b6.size; have b7 := b6.trans (k7.mono b6.size); clear k7 b6)
    | (refine at_new rfl 38 FZ rfl run_newFt ?_; rintro w8 Y8 k8 s8; rw [s7] at Y8; have X8 := X7.below k8 X7.lt; have b8 := b7.trans (k8.mono b7.size); clear k8 b7 X7 s8; try go_simp)
    | (refine at_put rfl 36 _ _ rfl rfl w6.heap.size rfl (FL.cs F) rfl X8 rfl szF (cs_one _) ?_; rintro w9 g9; have Y9 := g9.but.blk Y8 Y8.lt (show w6.heap.size + 1 ≠ w6.heap.size by omega); have b9 := g9.below b8 (show w.heap.size ≤ w6.heap.size by omega); clear g9 X8 Y8 b8)
    | (refine at_put rfl 38 _ _ rfl rfl (w6.heap.size + 1) rfl (flt E A) rfl Y9 rfl szFt (flt_one _ _) ?_; rintro w10 g10; have c10 := Blk.cell g10.blk 0 (v := .int .i64 E) rfl; have b10 := g10.below b9 (show w.heap.size ≤ w6.heap.size + 1 by omega); clear g10 Y9 b9))
  go_ret
  exact ⟨rfl, b10⟩
set_option maxHeartbeats 4000000 in
theorem sums_ok_f (f : FL) (hf : f.Ok) (hc : f.chk = 0) (hk : f.k = 2) (at_ y : Int) (ha : -9223372036854775808 ≤ at_ ∧ at_ ≤ 9223372036854775807) (hy : 0 ≤ y ∧ y < 256) (hq : (y == f.enc.getD (14 + pk at_ 20) 0) = false) (w : World) : Calls Try.prog 8 #[f.v, .int .i64 at_, .int .u8 y] w fun r w' => r = .returned (.bool true) ∧ Below w.heap.size w w' := by
  have hB := fun w => bytes_ok f hf hc w
  have hP := fun w => pick_eq at_ 20 (by decide) (by decide) ha w
  have hp := pk_lt at_ 20 (by decide)
  have hR := fun v w h => read_set f hf hc hk (pk at_ 20) hp y hy v w h
  rw [hq] at hR
  obtain ⟨l1, l2⟩ := enc_len_ip f hf hc hk
  have hS := head_ip f hk
  have hS0 := sum_full f
  have hSl := hdB_length f (sumI (f.hdB 0))
  have hSo := hdB_oct f (sumI (f.hdB 0))
  generalize f.hdB (sumI (f.hdB 0)) = hd at hS hS0 hSl hSo
  generalize pk at_ 20 = p at *
  have ho := (enc_octets f).getD (14 + p)
  have HK : (f.k != 2) = false := by simpa using hk
  clear hc hk hf
  generalize f.enc = xs at *
  have HR := Lib.hid hR; have HS := Lib.hid hS; have HS0 := Lib.hid hS0; have HSl := Lib.hid hSl; have HSo := Lib.hid hSo
  clear hR hS hS0 hSl hSo
  unfold FL.v at hB ⊢
  have hlen : ¬ (xs.length : Int) < 34 := by omega
  obtain ⟨q, hqe⟩ : ∃ q : Nat, 14 + p = q := ⟨_, rfl⟩
  have hqi : (14 : Int) + p = q := by omega
  have hql : (q : Int) < xs.length := by omega
  rw [hqe] at ho hq HR
  have HQ := Lib.hid hqe
  clear hqe
  obtain ⟨u, hu⟩ : ∃ u, xs.getD q 0 = u := ⟨_, rfl⟩
  rw [hu] at hq ho
  have HU := Lib.hid hu
  clear hu
  go_enter Try.func8, Try.ntmps8
  go_wp2_with (first
    | (refine at_box rfl 36 _ rfl (FL.cs f) rfl ?_; rintro w1 H1 k1 s1)
    | (go_at_call 15; refine (lives_is w1).mono ?_; rintro e w2 ⟨rfl, k2⟩; have b2 := k1.trans (k2.mono k1.size); have H2 := H1.below k2 H1.lt; clear k1 k2 H1)
    | (refine at_mid rfl 36 _ rfl w.heap.size 0 rfl H2 (FL.cs f) rfl _ Try.underlying36 rfl szF ?_))
  go_at_call 16
  refine (hB w2).mono ?_
  rintro e w3 ⟨v, rfl, d3, k3⟩
  have b3 := b2.trans (k3.mono b2.size)
  have H3 := H2.below k3 H2.lt
  have c2 := Blk.cell H3 2 (v := .int .i64 f.k) rfl
  obtain ⟨g, cap, cs, rfl, f1, f2, f3, f4, f5⟩ : ∃ g cap cs, v = .slice (some ⟨g, 0, none⟩) xs.length cap ∧ xs.length ≤ cap ∧ cap ≤ maxLen ∧ Blk w3 g 5 cs ∧ cs.length = cap ∧ cs.take xs.length = xs.map (Value.int .u8) := by
    rcases d3.dat.form with ⟨-, h⟩ | h
    · rw [h] at l1; simp at l1
    · exact h
  have hg : w.heap.size ≤ g := Nat.le_trans b2.size (d3.own g rfl)
  have hcq := f3.cell q (take_at f5 q (by omega))
  rw [HU.out] at hcq
  obtain ⟨sv, hsr, hss⟩ := dat_slice d3.dat 14 20 (by omega)
  rw [HS.out] at hss
  rw [show ((14 : Nat) : Int) = 14 from rfl, show ((20 : Nat) : Int) = 20 from rfl, show (14 : Int) + 20 = 34 from rfl] at hsr
  have HSS := Lib.hid (sum_is hd sv w3 hss HSo.out (by rw [HSl.out]; decide))
  have F1 := Lib.hid f1; have F2 := Lib.hid f2; have F3 := Lib.hid f3; have F4 := Lib.hid f4; have F5 := Lib.hid f5
  have FC := Lib.hid (show q < cs.length by omega)
  clear k3 b2 H2 hB d3 H3 f1 f2 f3 f4 f5 hss
  go_wp2_with (first
    | (go_at_call 27; refine (hP w3).mono ?_; rintro e w' ⟨rfl, hw⟩; obtain rfl := hw.symm; clear hP)
    | (refine at_sliceLH rfl 23 under_b _ _ _ rfl (.slice (some ⟨g, 0, none⟩) xs.length cap) (.int .i64 14) (.int .i64 34) sv rfl rfl rfl hsr ?_))
  go_at_call 20
  refine HSS.out.mono ?_
  rintro e w4 ⟨rfl, k4⟩
  rw [HS0.out]
  have b4 := b3.trans (k4.mono b3.size)
  have hcq4 := (k4.cell (p := ⟨g, q, none⟩) (block_lt_of_cell hcq)).trans hcq
  have F34 := F3.out.below k4 F3.out.lt
  clear k4 b3 hcq HSS hsr c2 F3
  go_wp2_with (refine at_set rfl 5 _ _ rfl rfl g q rfl 5 cs (cs.set q (.int .u8 y)) (.int .u8 y) rfl F34 rfl rfl rfl u8_one FC.out ?_; rintro w5 g5)
  have b5 := g5.below b4 hg
  have D5 := dat_set F1.out F2.out F4.out F5.out q y g5.blk
  clear b4 g5 F34 hcq4
  go_at_call 17
  refine (HR.out _ w5 D5.seg).mono ?_
  rintro e w6 ⟨⟨F, E, A, rfl, hE⟩, k6⟩
  have b6 := b5.trans (k6.mono b5.size)
  clear k6 b5 D5 HR
  unfold FL.v
  go_wp2_with (first
    | (refine at_new rfl 36 F0.cs rfl run_newFr ?_; rintro w7 X7 k7 s7; have FB := b6.size; have b7 := b6.trans (k7.mono b6.size); clear k7 b6)
    | (refine at_new rfl 38 FZ rfl run_newFt ?_; rintro w8 Y8 k8 s8; rw [s7] at Y8; have X8 := X7.below k8 X7.lt; have b8 := b7.trans (k8.mono b7.size); clear k8 b7 X7 s8; try go_simp)
    | (refine at_put rfl 36 _ _ rfl rfl w6.heap.size rfl (FL.cs F) rfl X8 rfl szF (cs_one _) ?_; rintro w9 g9; have Y9 := g9.but.blk Y8 Y8.lt (show w6.heap.size + 1 ≠ w6.heap.size by omega); have b9 := g9.below b8 (show w.heap.size ≤ w6.heap.size by omega); clear g9 X8 Y8 b8)
    | (refine at_put rfl 38 _ _ rfl rfl (w6.heap.size + 1) rfl (flt E A) rfl Y9 rfl szFt (flt_one _ _) ?_; rintro w10 g10; have c10 := Blk.cell g10.blk 0 (v := .int .i64 E) rfl; have b10 := g10.below b9 (show w.heap.size ≤ w6.heap.size + 1 by omega); clear g10 Y9 b9))
  go_ret
  exact ⟨rfl, b10⟩
theorem sums_is (f : FL) (hf : f.Ok) (at_ y : Int) (ha : -9223372036854775808 ≤ at_ ∧ at_ ≤ 9223372036854775807) (hy : 0 ≤ y ∧ y < 256) (w : World) : Calls Try.prog 8 #[f.v, .int .i64 at_, .int .u8 y] w fun r w' => r = .returned (.bool true) ∧ Below w.heap.size w w' := by
  by_cases hc : f.chk = 0
  · by_cases hk : f.k = 2
    · cases hq : (y == f.enc.getD (14 + pk at_ 20) 0)
      · exact sums_ok_f f hf hc hk at_ y ha hy hq w
      · exact sums_ok_t f hf hc hk at_ y ha hy hq w
    · exact sums_kind f hf hc hk at_ y w
  · exact sums_bad f hc at_ y w
end Go.Proofs.Ytgpjelcihmbiiaa
