/- WireSubs: the law returns true. No condition. -/
import Derived.Test.YtlkobpmbecljkabWSm
import Derived.Test.YtlkobpmbecljkabWFl
import Derived.Lib.AppendZeros
namespace Go.Proofs.Ytlkobpmbecljkab
open Go.RowKit Go.Sort
set_option linter.unusedVariables false
set_option linter.unusedSimpArgs false
set_option maxRecDepth 100000

/-- A slice of ints. -/
def Nms (w : World) (v : Value) (m : Nat) (K : Nat → Int) : Prop := ∃ a c, v = .slice a m c ∧ ∀ i, i < m → (∃ b o, a = some ⟨b, o, none⟩ ∧ w.cell? ⟨b, o + i, none⟩ = some (.int .i64 (K i))) ∧ I64 (K i)
theorem DatB.keep {B : Nat} {w w' : World} {v : Value} {xs : List Int} (h : DatB B w v xs) (k : ∀ g, v.ownBlock = some g → w'.heap[g]? = w.heap[g]?) : DatB B w' v xs := by
  obtain ⟨h1, ⟨hv, hn⟩ | ⟨g, cap, cur, hv, hb, hg, r⟩⟩ := h
  · exact ⟨h1, .inl ⟨hv, hn⟩⟩
  · exact ⟨h1, .inr ⟨g, cap, cur, hv, hb, (k g (by rw [hv]; rfl)).trans hg, r⟩⟩
theorem DatB.below {B : Nat} {w w' : World} {v : Value} {xs : List Int} (h : DatB B w v xs) (k : Below w.heap.size w w') : DatB B w' v xs := h.keep fun g hg => k.block g (World.ownsRow.lt h g hg).2
theorem DatB.but {B : Nat} {w w' : World} {v : Value} {xs : List Int} {b : Nat} {t : TypeId} {cs : List Value} (h : DatB B w v xs) (k : But w.heap.size b w w') (hb : Blk w b t cs) (ht : t ≠ 5) : DatB B w' v xs :=
  h.keep fun g hg => k.block g (World.ownsRow.lt h g hg).2 fun e => h.dat.own_ne hb ht (by rw [hg, e])
theorem Rdr.blk {w : World} {b : Nat} {R : RS} (h : Rdr w b R) : ∃ cs, Blk w b 89 cs := by
  obtain ⟨⟨v, hb, -⟩, -⟩ := h
  exact ⟨_, hb⟩
theorem V.Rdr.other {w w' : World} {c d : Nat} {R S : RS} {u : Value} (h : V.Rdr w c R u) (hd : _root_.Go.Proofs.Ytlkobpmbecljkab.Rdr w d S) (k : But w.heap.size d w w') (hn : c ≠ d) : V.Rdr w' c R u := by
  obtain ⟨⟨hb, hv⟩, h2⟩ := h
  obtain ⟨⟨x, hu, -⟩, -⟩ := hd
  exact ⟨⟨k.blk hb hb.lt hn, hv.but k hu (by decide)⟩, h2⟩
/-- Behind an append to a slice that lies elsewhere. -/
theorem V.Rdr.appended {B : Nat} {w w' : World} {b : Nat} {R : RS} {u va : Value} {ys : List Int} (h : V.Rdr w b R u) (ha : DatB B w va ys) (hg : w.grownBy w' va.ownBlock) (hb : b < B) (hu : ∀ g, u.ownBlock = some g → g < B) : V.Rdr w' b R u := by
  obtain ⟨⟨hbk, hd⟩, h2⟩ := h
  have hlo := World.ownsRow.lt ha
  have keep : ∀ k, k < w.heap.size → k < B → w'.heap[k]? = w.heap[k]? := fun k hk hB => hg.block k hk fun e => by have := (hlo k e.symm).1; omega
  refine ⟨⟨(keep b hbk.lt hb).trans hbk, ?_⟩, h2⟩
  have hd' : DatB 0 w u R.xs := hd
  exact hd'.keep fun g hg => keep g (World.ownsRow.lt hd' g hg).2 (hu g hg)

theorem subs_long (w : World) (v0 v1 : Value) (xs : List Int) (m : Nat) (K : Nat → Int) (h0 : Seg w v0 xs) (h3 : Nms w v1 m K) (hl : 400 < xs.length ∨ 40 < m) :
    Calls Try.prog 7 #[v0, v1] w fun e w' => e = .returned (.bool true) ∧ Below w.heap.size w w' := by
  obtain ⟨a, c, rfl, -, -⟩ := h0
  obtain ⟨a3, c3, rfl, -⟩ := h3
  by_cases h : 400 < xs.length
  · have hq : (400 : Int) < xs.length := by omega
    go_enter Try.func7, Try.ntmps7
    go_wp2_with fail
    go_at_call 9
    refine (lives_is w).mono ?_
    rintro e' w1 ⟨rfl, B1⟩
    go_wp2
    go_ret
    exact ⟨rfl, B1⟩
  · have hq : ¬ (400 : Int) < xs.length := by omega
    have hr : (40 : Int) < m := by omega
    go_enter Try.func7, Try.ntmps7
    go_wp2_with fail
    go_at_call 9
    refine (lives_is w).mono ?_
    rintro e' w1 ⟨rfl, B1⟩
    go_wp2
    go_ret
    exact ⟨rfl, B1⟩

/-- The states that a round goes through. -/
theorem st_sub (q n : Nat) (xs : List Int) (h : q + n ≤ xs.length) : RS.sub ⟨0, q, xs, 0, 0⟩ n = ⟨q, 0, (xs.drop q).take n, 0, 0⟩ := by
  have ok : RS.ok ⟨0, q, xs, 0, 0⟩ n := ⟨rfl, by omega, by show (n : Int) ≤ (xs.length : Int) - (q : Int); omega⟩
  unfold RS.sub RS.part RS.next
  rw [if_pos ok, if_pos ok]
  simp [RS.adv]
theorem st_next (q n : Nat) (xs : List Int) (h : q + n ≤ xs.length) : RS.next ⟨0, q, xs, 0, 0⟩ n = ⟨0, q + n, xs, 0, 0⟩ := by
  have ok : RS.ok ⟨0, q, xs, 0, 0⟩ n := ⟨rfl, by omega, by show (n : Int) ≤ (xs.length : Int) - (q : Int); omega⟩
  unfold RS.next
  rw [if_pos ok]
  simp [RS.adv]
theorem st_part (q n : Nat) (xs : List Int) (h : q + n ≤ xs.length) : RS.part ⟨0, q, xs, 0, 0⟩ n = (xs.drop q).take n := by
  have ok : RS.ok ⟨0, q, xs, 0, 0⟩ n := ⟨rfl, by omega, by show (n : Int) ≤ (xs.length : Int) - (q : Int); omega⟩
  unfold RS.part
  rw [if_pos ok]
  simp
theorem st_all (q : Nat) (P : List Int) : RS.part ⟨q, 0, P, 0, 0⟩ P.length = P ∧ RS.next ⟨q, 0, P, 0, 0⟩ P.length = ⟨q, P.length, P, 0, 0⟩ := by
  have ok : RS.ok ⟨q, 0, P, 0, 0⟩ P.length := ⟨rfl, by omega, by show (P.length : Int) ≤ (P.length : Int) - ((0 : Nat) : Int); omega⟩
  unfold RS.part RS.next
  rw [if_pos ok, if_pos ok]
  simp [RS.adv]
theorem st_end (q : Nat) (P : List Int) : RS.next ⟨q, P.length, P, 0, 0⟩ 1 = ⟨q, P.length, P, 4, (q : Int) + P.length⟩ := by
  have ok : ¬ RS.ok ⟨q, P.length, P, 0, 0⟩ 1 := fun ⟨_, _, h⟩ => by
    have : (1 : Int) ≤ (P.length : Int) - (P.length : Int) := h
    omega
  unfold RS.next
  rw [if_neg ok]
  simp [RS.fail]

set_option maxHeartbeats 4000000 in
theorem subs_walk (w : World) (v0 v1 : Value) (xs : List Int) (m : Nat) (K : Nat → Int) (h0 : Seg w v0 xs) (ho : Oct xs) (h3 : Nms w v1 m K) (hl : xs.length ≤ 400) (hm : m ≤ 40) :
    Calls Try.prog 7 #[v0, v1] w fun e w' => e = .returned (.bool true) ∧ Below w.heap.size w w' := by
  have S0 := h0
  obtain ⟨a, c, rfl, -, -⟩ := h0
  obtain ⟨a3, c3, rfl, h3⟩ := h3
  have q1 : ¬ (400 : Int) < xs.length := by omega
  have q2 : ¬ (40 : Int) < m := by omega
  go_enter Try.func7, Try.ntmps7
  go_wp2_with fail
  go_at_call 9
  refine (lives_is w).mono ?_
  rintro e' w1 ⟨rfl, B1⟩
  go_wp2_with fail
  go_at_call 14
  refine (V.rd_New w1 _ xs (S0.below B1) ho (by omega)).mono ?_
  rintro e' w2 ⟨b, rfl, hb0, ⟨u, R2⟩, k2⟩
  have B2 := B1.trans (k2.mono B1.size)
  have hb : w.heap.size ≤ b := Nat.le_trans B1.size hb0
  obtain ⟨B, hB⟩ : ∃ B, B = w2.heap.size := ⟨_, rfl⟩
  have hbB : b < B := by rw [hB]; exact R2.up.lt
  have huB : ∀ g, u.ownBlock = some g → g < B := fun g hg => by
    rw [hB]
    exact (World.ownsRow.lt R2.1.2 g hg).2
  have hwB : w.heap.size ≤ B := by rw [hB]; exact B2.size
  clear B1 k2 hb0
  go_wp2_with fail
  go_loopw [6, 7] (fun va vi wr => ∃ i q : Nat, i ≤ m ∧ q ≤ xs.length ∧ vi = .int .i64 i ∧ V.Rdr wr b ⟨0, q, xs, 0, 0⟩ u ∧ DatB B wr va (xs.take q) ∧ Below w.heap.size w wr ∧ B ≤ wr.heap.size)
    (fun _ vi _ => m - (intOf vi).toNat)
  case atStart => exact ⟨0, 0, Nat.zero_le _, Nat.zero_le _, rfl, R2, World.ownsRow_nil _ _ _ _, B2, by omega⟩
  case round =>
    obtain ⟨i, q, hi, hq, rfl, hR, hA, hW, hS⟩ := hrel
    by_cases hlt : i < m
    · obtain ⟨⟨g, o, rfl, ck⟩, wk⟩ := h3 i hlt
      have ck' := (hW.cell (p := ⟨g, o + i, none⟩) (block_lt_of_cell ck)).trans ck
      have hil : (i : Int) < m := by omega
      have hpk : ∀ w, Calls Try.prog 30 #[.int .i64 (K i), .int .i64 ((xs.length : Int) - (q : Nat) + 1)] w fun e w' => e = .returned (.int .i64 (pk (K i) (xs.length - q + 1))) ∧ w' = w := fun w => by
        have := pick_eq (K i) (xs.length - q + 1) (by omega) (by omega) wk w
        rwa [show ((xs.length - q + 1 : Nat) : Int) = (xs.length : Int) - (q : Nat) + 1 by omega] at this
      have hn := pk_lt (K i) (xs.length - q + 1) (by omega)
      generalize pk (K i) (xs.length - q + 1) = n at hpk hn
      have hqn : q + n ≤ xs.length := by omega
      clear ck h3 R2 B2
      go_wp2_with fail
      refine wp_region_qb (by kernel_rfl) (by kernel_rfl) ?_
      have kd := cell_regrown ck'
      repeat (go_big_quiet_step (first | exact Calls.regrown_of (rd_Left _ b _ (hR.up.grown _ _)) | exact regrown_same ((hpk _).mono fun _ _ h => ⟨h.1, h.2.symm⟩)))
      refine wpQuiet_nil ?_
      intro w3 k3
      have R3 : V.Rdr w3 b ⟨0, q, xs, 0, 0⟩ u := ⟨⟨hR.1.1.below k3 hR.1.1.lt, hR.1.2.below k3⟩, hR.2⟩
      have A3 := hA.below k3
      have W3 := hW.trans (k3.mono hW.size)
      have Z3 := Nat.le_trans hS k3.size
      clear kd k3 ck' hpk hR hA hW hS
      go_wp2_with fail
      go_at_call 17
      refine (rd_At w3 b _ R3.up).mono ?_
      rintro e' wx ⟨rfl, hw⟩
      obtain rfl := hw.symm
      rw [show ((0 : Nat) : Int) + ((q : Nat) : Int) = (q : Int) by omega]
      go_wp2_with fail
      go_at_call 16
      refine (V.rd_Sub w3 b _ u n R3).mono ?_
      rintro e' w4 ⟨c, rfl, hc, S4, R4, k4⟩
      rw [st_sub q n xs hqn] at S4
      rw [st_next q n xs hqn] at R4
      have A4 := A3.but k4 R3.1.1 (by decide)
      have W4 := But.below W3 k4 hb W3.size
      have Z4 := Nat.le_trans Z3 k4.size
      have hcB : B ≤ c := Nat.le_trans Z3 hc
      have hcw : w.heap.size ≤ c := Nat.le_trans hwB hcB
      have hbc : b ≠ c := by omega
      have hP : ((xs.drop q).take n).length = n := len_part xs q n hqn
      generalize hPe : (xs.drop q).take n = P at S4 hP
      clear hc k4 A3 W3 Z3 R3
      subst hP
      go_wp2_with fail
      go_at_call 17
      refine (rd_At w4 c _ S4).mono ?_
      rintro e' wx ⟨rfl, hw⟩
      obtain rfl := hw.symm
      rw [show ((q : Nat) : Int) + ((0 : Nat) : Int) = (q : Int) by omega]
      try dsimp only
      repeat (first | go_skip | go_guarded | go_step | go_upon)
      go_at_call 27
      refine (rd_Left w4 c _ S4).mono ?_
      rintro e' w5 ⟨rfl, k5⟩
      have S5 := S4.below k5
      have R5 : V.Rdr w5 b ⟨0, q + P.length, xs, 0, 0⟩ u := ⟨⟨R4.1.1.below k5 R4.1.1.lt, R4.1.2.below k5⟩, R4.2⟩
      have A5 := A4.below k5
      have W5 := W4.trans (k5.mono W4.size)
      have Z5 := Nat.le_trans Z4 k5.size
      rw [show (P.length : Int) - ((0 : Nat) : Int) = (P.length : Int) by omega]
      clear k5 S4 R4 A4 W4 Z4
      try dsimp only
      repeat (first | go_skip | go_guarded | go_step | go_upon)
      go_at_call 17
      refine (rd_At w5 b _ R5.up).mono ?_
      rintro e' wx ⟨rfl, hw⟩
      obtain rfl := hw.symm
      rw [show ((0 : Nat) : Int) + ((q + P.length : Nat) : Int) = (q : Int) + P.length by omega]
      try dsimp only
      repeat (first | go_skip | go_guarded | go_step | go_upon)
      go_at_call 26
      refine (rd_Bytes w5 c _ P.length S5).mono ?_
      rintro e' w6 ⟨vp, rfl, D6, S6, k6⟩
      rw [(st_all q P).1] at D6
      rw [(st_all q P).2] at S6
      have R6 := V.Rdr.other R5 S5 k6 hbc
      obtain ⟨cs5, hc5⟩ := S5.blk
      have A6 := A5.but k6 hc5 (by decide)
      have W6 := But.below W5 k6 hcw W5.size
      have Z6 := Nat.le_trans Z5 k6.size
      obtain ⟨a6, c6, rfl⟩ := D6.shape
      clear k6 S5 R5 A5 W5 Z5 hc5
      try dsimp only
      repeat (first | go_skip | go_guarded | go_step | go_upon)
      go_at_call 15
      refine (rd_U8 w6 c _ S6).mono ?_
      rintro e' w7 ⟨rfl, S7, k7⟩
      rw [st_end q P] at S7
      have R7 := V.Rdr.other R6 S6 k7 hbc
      obtain ⟨cs6, hc6⟩ := S6.blk
      have A7 := A6.but k7 hc6 (by decide)
      have D7 := D6.but k7 hc6 (by decide)
      have W7 := But.below W6 k7 hcw W6.size
      have Z7 := Nat.le_trans Z6 k7.size
      clear k7 S6 R6 A6 W6 Z6 hc6 D6
      try dsimp only
      repeat (first | go_skip | go_guarded | go_step | go_upon)
      go_at_call 20
      refine (rd_Fail w7 c _ 3 S7).mono ?_
      rintro e' w8 ⟨rfl, S8, k8⟩
      rw [RS.bad_fail (R := ⟨q, P.length, P, 4, (q : Int) + P.length⟩) (show (4 : Int) ≠ 0 by decide)] at S8
      have R8 := V.Rdr.other R7 S7 k8 hbc
      obtain ⟨cs7, hc7⟩ := S7.blk
      have A8 := A7.but k8 hc7 (by decide)
      have D8 := D7.but k8 hc7 (by decide)
      have W8 := But.below W7 k8 hcw W7.size
      have Z8 := Nat.le_trans Z7 k8.size
      clear k8 S7 R7 A7 W7 Z7 hc7 D7
      try dsimp only
      repeat (first | go_skip | go_guarded | go_step | go_upon)
      go_at_call 19
      refine (rd_Fault w8 c _ S8).mono ?_
      rintro e' w9 ⟨rfl, k9⟩
      have R9 : V.Rdr w9 b ⟨0, q + P.length, xs, 0, 0⟩ u := ⟨⟨R8.1.1.below k9 R8.1.1.lt, R8.1.2.below k9⟩, R8.2⟩
      have A9 := A8.below k9
      have D9 := D8.below k9
      have W9 := W8.trans (k9.mono W8.size)
      have Z9 := Nat.le_trans Z8 k9.size
      clear k9 S8 R8 A8 W8 Z8 D8
      try dsimp only
      repeat (first | go_skip | go_guarded | go_step | go_upon)
      go_at_call 19
      refine (rd_Fault w9 b _ R9.up).mono ?_
      rintro e' w10 ⟨rfl, k10⟩
      have R10 : V.Rdr w10 b ⟨0, q + P.length, xs, 0, 0⟩ u := ⟨⟨R9.1.1.below k10 R9.1.1.lt, R9.1.2.below k10⟩, R9.2⟩
      have A10 := A9.below k10
      have D10 := D9.below k10
      have W10 := W9.trans (k10.mono W9.size)
      have Z10 := Nat.le_trans Z9 k10.size
      clear k10 R9 A9 W9 Z9 D9
      have hqP : (xs.take q).length + P.length ≤ 1099511627776 := by simp; omega
      obtain ⟨v', w11, hr, A11, hg⟩ := append_dat w10 34 B _ _ (xs.take q) P A10 D10 Z10 hqP
      have R11 := V.Rdr.appended R10 A10 hg hbB huB
      have W11 : Below w.heap.size w w11 := W10.grown hg W10.size fun k hk => Nat.le_trans hwB (World.ownsRow.lt A10 k hk).1
      have Z11 := Nat.le_trans Z10 hg.size
      have eP : xs.take q ++ P = xs.take (q + P.length) := by
        rw [List.take_add]
        congr 1
        rw [← hPe]
        simp
      rw [eP] at A11
      clear R10 A10 D10 W10 Z10 hg eP hqP
      try dsimp only
      go_wp2_with (at_builtin; refine Lib.wpList_append_run _ rfl (.tmp 92) (.tmp 93) 34 34 rfl _ _ rfl rfl _ _ hr ?_)
      exact ⟨⟨i + 1, q + P.length, hlt, hqn, rfl, R11, A11, W11, Z11⟩, by simp [intOf]; omega⟩
    · obtain rfl : i = m := by omega
      clear h3 R2 B2
      go_wp2_with fail
      go_at_call 27
      refine (rd_Left wr b _ hR.up).mono ?_
      rintro e' w3 ⟨rfl, k3⟩
      have R3 : V.Rdr w3 b ⟨0, q, xs, 0, 0⟩ u := ⟨⟨hR.1.1.below k3 hR.1.1.lt, hR.1.2.below k3⟩, hR.2⟩
      have A3 := hA.below k3
      have W3 := hW.trans (k3.mono hW.size)
      have Z3 := Nat.le_trans hS k3.size
      rw [show (xs.length : Int) - ((q : Nat) : Int) = ((xs.length - q : Nat) : Int) by omega]
      clear k3 hR hA hW hS
      try dsimp only
      repeat (first | go_skip | go_guarded | go_step | go_upon)
      go_at_call 26
      refine (V.rd_Bytes w3 b _ u ((xs.length - q : Nat) : Int) R3).mono ?_
      rintro e' w4 ⟨vr, rfl, D4, R4, k4⟩
      rw [st_part q (xs.length - q) xs (by omega), List.take_of_length_le (by simp)] at D4
      rw [st_next q (xs.length - q) xs (by omega), show q + (xs.length - q) = xs.length by omega] at R4
      have A4 := A3.but k4 R3.1.1 (by decide)
      have W4 := But.below W3 k4 hb W3.size
      have Z4 := Nat.le_trans Z3 k4.size
      clear k4 R3 A3 W3 Z3
      obtain ⟨v', w5, hr, A5, hg⟩ := append_dat w4 34 B _ _ (xs.take q) (xs.drop q) A4 D4 Z4 (by simp; omega)
      have R5 := V.Rdr.appended R4 A4 hg hbB huB
      have W5 : Below w.heap.size w w5 := W4.grown hg W4.size fun k hk => Nat.le_trans hwB (World.ownsRow.lt A4 k hk).1
      rw [List.take_append_drop] at A5
      have G5 := S0.below W5
      have Y5 := A5.dat.seg
      clear R4 A4 D4 W4 Z4 hg A5
      try dsimp only
      go_wp2_with (at_builtin; refine Lib.wpList_append_run _ rfl (.tmp 99) (.tmp 100) 34 34 rfl _ _ rfl rfl _ _ hr ?_)
      go_at_call 38
      refine (same_yes w5 v' _ xs Y5 G5 (by omega)).mono ?_
      rintro e' w6 ⟨rfl, k6⟩
      have R6 := R5.up.below k6
      have W6 := W5.trans (k6.mono W5.size)
      clear k6 R5 W5 hr G5 Y5
      try dsimp only
      repeat (first | go_skip | go_guarded | go_step | go_upon)
      go_at_call 27
      refine (rd_Left w6 b _ R6).mono ?_
      rintro e' w7 ⟨rfl, k7⟩
      have R7 := R6.below k7
      have W7 := W6.trans (k7.mono W6.size)
      rw [show (xs.length : Int) - ((xs.length : Nat) : Int) = 0 by omega]
      clear k7 R6 W6
      try dsimp only
      repeat (first | go_skip | go_guarded | go_step | go_upon)
      go_at_call 26
      refine (rd_Bytes w7 b _ 0 R7).mono ?_
      rintro e' w8 ⟨vz, rfl, D8, R8, k8⟩
      rw [show RS.part ⟨0, xs.length, xs, 0, 0⟩ 0 = [] from (st_part xs.length 0 xs (by omega)).trans List.take_zero] at D8
      rw [show RS.next ⟨0, xs.length, xs, 0, 0⟩ 0 = ⟨0, xs.length, xs, 0, 0⟩ from st_next xs.length 0 xs (by omega)] at R8
      obtain ⟨az, cz, rfl⟩ := D8.shape
      have W8 := But.below W7 k8 hb W7.size
      clear k8 R7 W7 D8
      try dsimp only
      repeat (first | go_skip | go_guarded | go_step | go_upon)
      go_at_call 19
      refine (rd_Fault w8 b _ R8).mono ?_
      rintro e' w9 ⟨rfl, k9⟩
      have W9 := W8.trans (k9.mono W8.size)
      clear k9 R8 W8
      try dsimp only
      repeat (first | go_skip | go_guarded | go_step | go_upon)
      go_ret
      exact ⟨rfl, W9⟩
theorem subs_any (w : World) (v0 v1 : Value) (xs : List Int) (m : Nat) (K : Nat → Int) (h0 : Seg w v0 xs) (ho : Oct xs) (h3 : Nms w v1 m K) :
    Calls Try.prog 7 #[v0, v1] w fun e w' => e = .returned (.bool true) ∧ Below w.heap.size w w' := by
  by_cases hl : 400 < xs.length
  · exact subs_long w v0 v1 xs m K h0 h3 (.inl hl)
  · by_cases hm : 40 < m
    · exact subs_long w v0 v1 xs m K h0 h3 (.inr hm)
    · exact subs_walk w v0 v1 xs m K h0 ho h3 (by omega) (by omega)
end Go.Proofs.Ytlkobpmbecljkab
