/- WireWrites: the law returns true. No condition. -/
import Derived.Test.YtailaenkmknpiaaRBt
import Derived.Deep.MidRow
namespace Go.Proofs.Ytailaenkmknpiaa
open Go.RowKit Go.Sort
set_option linter.unusedVariables false
set_option linter.unusedSimpArgs false
set_option maxRecDepth 100000

theorem sz_le (k : Nat) : 1 ≤ sz k ∧ sz k ≤ 8 := by
  unfold sz
  split <;> decide
theorem sizes_is (w : World) : Calls Try.prog 12 #[] w fun e w' => e = .returned (.slice (some ⟨w.heap.size, 0, none⟩) 6 6) ∧ w' = w.alloc (.cells #[.int .i64 1, .int .i64 2, .int .i64 3, .int .i64 4, .int .i64 6, .int .i64 8] 3) := by
  go_enter Try.func12, Try.ntmps12
  go_wp2
  go_ret
  exact ⟨rfl, rfl⟩
theorem sizes_cell (w : World) (k : Nat) (h : k < 6) : (w.alloc (.cells #[.int .i64 1, .int .i64 2, .int .i64 3, .int .i64 4, .int .i64 6, .int .i64 8] 3)).cell? ⟨w.heap.size, k, none⟩ = some (.int .i64 (sz k : Nat)) := by
  rw [World.cell?_alloc_at _ _ _ _ rfl]
  match k, h with
  | 0, _ => rfl
  | 1, _ => rfl
  | 2, _ => rfl
  | 3, _ => rfl
  | 4, _ => rfl
  | 5, _ => rfl
theorem run_newA (w : World) : (Instr.alloc 35 true (.tuple #[])).run Try.prog w = .ok (.pointer (some ⟨w.heap.size, 0, none⟩)) (w.alloc (.cells #[.int .i64 0, .int .i64 0, .int .u64 0, .slice none 0 0] 35)) := by kernel_rfl
theorem szA : (Try.prog.info? 35).map (·.size) = some 4 := by kernel_rfl
section
variable {ops : Array Oper} {rest : List Oper} {o : Oper} {a : Act} {w : World} {Q : Exit → Act → World → Prop}
theorem at_newA (hgd : o.guard = none) (ho : o.op = .alloc 35)
    (h : ∀ w', Blk w' w.heap.size 35 [.int .i64 0, .int .i64 0, .int .u64 0, .slice none 0 0] → Below w.heap.size w w' → wpList Try.prog ops Q rest (a.put o.dst (.pointer (some ⟨w.heap.size, 0, none⟩))) w') : wpList Try.prog ops Q (o :: rest) a w :=
  wpList_plain hgd fun _ hK => by
    unfold Oper.wp execOp
    simp only [ho, Sem.run_bind, run_newA, Result.andThen_ok, Sem.run_pure]
    exact hK _ _ (h _ (Blk.new w _ _) ((Below.refl _ w).alloc (Nat.le_refl _) _))
theorem at_storeA (hgd : o.guard = none) (x y : Operand) (ho : o.op = .store 35 x y) (hd : o.dst = none) (b : Nat) (hx : a.eval x = .pointer (some ⟨b, 0, none⟩)) (c0 c1 c2 c3 : Value) (h1 : #[c0, c1, c2, c3].all (·.oneCell') = true) (hy : a.eval y = .agg #[c0, c1, c2, c3]) {d0 d1 d2 d3 : Value} (hb : Blk w b 35 [d0, d1, d2, d3])
    (h : ∀ w', Blk w' b 35 [c0, c1, c2, c3] → (∀ B, B ≤ b → Below B w w') → wpList Try.prog ops Q rest a w') : wpList Try.prog ops Q (o :: rest) a w :=
  wpList_store_row hgd _ x y ho b _ hx hy _ _ hb szA rfl h1 (by
    rw [hd]
    refine h _ ?_ fun B hB => ⟨rfl, rfl, rfl, by simp [World.setRow], fun i hi => by simp [World.setRow, Array.getElem?_modify]; omega⟩
    have h' : w.heap[b]? = some (.cells #[d0, d1, d2, d3] 35 (0, 0)) := hb
    unfold Blk
    simp [World.setRow, Array.getElem?_modify, h'])
end
theorem Seg.one {w : World} {v : Value} {xs : List Int} (h : Seg w v xs) : ∃ a c, v = .slice a xs.length c := by
  obtain ⟨a, c, e, -⟩ := h
  exact ⟨a, c, e⟩
/-- Too much: nothing is asked. Or a limit that is none. -/
theorem writes_bad (w : World) (v3 : Value) (l : Int) (m : Nat) (K A : Nat → Int) (N : Nat → Nat) (U : Nat → Value) (X : Nat → List Int) (h3 : Acq w v3 m K A N U X) (hl : l < 0 ∨ 65536 < l) :
    Calls Try.prog 3 #[.int .i64 l, v3] w fun e w' => e = .returned (.bool true) ∧ Below w.heap.size w w' := by
  have h30 := h3
  obtain ⟨-, a3, c3, rfl, -⟩ := h30
  go_enter Try.func3, Try.ntmps3
  go_wp2_with fail
  go_at_call 5
  refine (lives_is w).mono ?_
  rintro e' w1 ⟨rfl, B1⟩
  go_wp2_with fail
  go_at_call 6
  refine (light_is w1 _ m K A N U X (h3.below B1)).mono ?_
  rintro e' w2 (⟨rfl, hw2⟩ | ⟨rfl, hw2, hm, hX⟩)
  · obtain rfl := hw2.symm
    go_wp2
    go_ret
    exact ⟨rfl, B1⟩
  · obtain rfl := hw2.symm
    have nb := neq_bool true true
    clear h3 hX
    go_wp2_with fail
    go_at_call 7
    refine (wr_New_bad _ l hl).mono ?_
    rintro e' w3 ⟨rfl, hw3⟩
    obtain rfl := hw3.symm
    go_wp2_with fail
    go_at_call 8
    refine (rw_New_bad _ l hl).mono ?_
    rintro e' w3 ⟨rfl, hw3⟩
    obtain rfl := hw3.symm
    go_wp2_with fail
    go_loop [9] (fun vi => vi = .int .i64 0) (fun _ => 0)
    case atStart => rfl
    case round =>
      obtain rfl := hrel
      by_cases h0 : 0 < m
      · have q0 : (0 : Int) < m := by omega
        go_wp2
        go_ret
        exact ⟨rfl, B1⟩
      · obtain rfl : m = 0 := by omega
        go_wp2
        go_ret
        exact ⟨rfl, B1⟩

set_option maxHeartbeats 8000000 in
theorem writes_walk (w : World) (v3 : Value) (l : Nat) (m : Nat) (K A : Nat → Int) (N : Nat → Nat) (U : Nat → Value) (X : Nat → List Int) (h3 : Acq w v3 m K A N U X) (hl : l ≤ 65536) :
    Calls Try.prog 3 #[.int .i64 l, v3] w fun e w' => e = .returned (.bool true) ∧ Below w.heap.size w w' := by
  have h30 := h3
  obtain ⟨-, a3, c3, rfl, h4⟩ := h30
  go_enter Try.func3, Try.ntmps3
  go_wp2_with fail
  go_at_call 5
  refine (lives_is w).mono ?_
  rintro e' w1 ⟨rfl, B1⟩
  go_wp2_with fail
  go_at_call 6
  refine (light_is w1 _ m K A N U X (h3.below B1)).mono ?_
  rintro e' w2 (⟨rfl, hw2⟩ | ⟨rfl, hw2, hm, hX⟩)
  · obtain rfl := hw2.symm
    clear h4 h3
    go_wp2
    go_ret
    exact ⟨rfl, B1⟩
  · obtain rfl := hw2.symm
    have nb := neq_bool false false
    clear h3
    go_wp2_with fail
    go_at_call 7
    refine (wr_New _ l hl).mono ?_
    rintro e' w3 ⟨b, rfl, mb, P3, hb, hmb, hmap, k3⟩
    have Q3 := mks_new' hmap
    have B3 := B1.trans (k3.mono B1.size)
    have s1 := B1.size
    clear hmap
    go_wp2_with fail
    go_at_call 8
    refine (rw_New _ l hl).mono ?_
    rintro e' w4 ⟨c, rfl, R4, hc, k4⟩
    have s3 := B3.size
    have S4 : Sep w w4 b c ⟨l, [], .slice none 0 0, mb⟩ 0 (.map []) ⟨l, [], .slice none 0 0, [], .slice none 0 0⟩ none :=
      ⟨P3.below k4, mks_kept Q3 (k4.block _ Q3.lt), R4, fun g e => (by cases e), by omega, by omega, by show w.heap.size ≤ mb; omega, fun g e => (by cases e), fun a cs e => (by cases e), B3.trans (k4.mono B3.size)⟩
    have L4 : Rel ⟨l, [], .slice none 0 0, mb⟩ (.map []) ⟨l, [], .slice none 0 0, [], .slice none 0 0⟩ := ⟨rfl, rfl, .nil, fun x hx => (by cases hx), Maps.isMap_empty, fun x => by simp [Maps.has]⟩
    clear P3 hb hmb k3 Q3 B3 s1 R4 hc k4 s3 B1
    go_wp2_with fail
    go_loopw [9] (fun vi wr => ∃ (i n : Nat) (D : DataW Unit) (W : WS) (R : WR), i ≤ m ∧ vi = .int .i64 i ∧ Sep w wr b c W n D R none ∧ Rel W D R ∧ n ≤ i ∧ R.ms.length ≤ i) (fun vi _ => m - (intOf vi).toNat)
    case atStart => exact ⟨0, 0, _, _, _, Nat.zero_le _, rfl, S4, L4, Nat.le_refl _, Nat.le_refl _⟩
    case round =>
      obtain ⟨i, n, D, W, R, hi, rfl, S, L, hn, hms⟩ := hrel
      clear S4 L4 nb
      by_cases hlt : i < m
      · obtain ⟨⟨g, oo, rfl, ck, ca, cn, cu⟩, wk, wa, wn, hseg, hoct⟩ := h4 i hlt
        have hxl := hX i hlt
        obtain ⟨ua, uc, eu⟩ := hseg.one
        have hil : (i : Int) < m := by omega
        have rng : wr.rangeAt g (oo + i * 4) [.int .i64 (K i), .int .i64 (A i), .int .u64 (N i : Nat), U i] := fun j v hv => by
          match j, hv with
          | 0, hv => cases hv; exact (S.bel.cell (p := ⟨g, oo + i * 4, none⟩) (block_lt_of_cell ck)).trans ck
          | 1, hv => cases hv; exact (S.bel.cell (p := ⟨g, oo + i * 4 + 1, none⟩) (block_lt_of_cell ca)).trans ca
          | 2, hv => cases hv; exact (S.bel.cell (p := ⟨g, oo + i * 4 + 2, none⟩) (block_lt_of_cell cn)).trans cn
          | 3, hv => cases hv; exact (S.bel.cell (p := ⟨g, oo + i * 4 + 3, none⟩) (block_lt_of_cell cu)).trans cu
        have one : #[.int .i64 (K i), .int .i64 (A i), .int .u64 (N i : Nat), U i].all (·.oneCell') = true := by
          rw [eu]
          simp [Value.oneCell']
        clear ck ca cn cu h4 hX eu
        go_wp2_with (first
          | (refine wpList_load_mid rfl _ (.tmp 55) rfl g (oo + i * 4) rfl [.int .i64 (K i), .int .i64 (A i), .int .u64 (N i : Nat), U i] _ rng Try.underlying35 rfl szA ?_)
          | (refine at_newA rfl rfl ?_; rintro wa1 H1 k1)
          | (refine at_storeA rfl (.tmp 10) (.tmp 56) rfl rfl wr.heap.size rfl _ _ _ _ one rfl H1 ?_; rintro wa2 H2 k2; replace k2 := k1.trans (k2 wr.heap.size (Nat.le_refl _)); have cK := H2.cell 0 (v := .int .i64 (K i)) rfl))
        replace S := (S.below k2).box H2
        clear k1 H1 rng k2 H2 one
        generalize wr.heap.size = a at S cK ⊢
        go_at_call 9
        refine (pick_is (K i) 10 (by omega) (by omega) wk _).mono ?_
        rintro e' wx ⟨k, rfl, hk, hw⟩
        obtain rfl := hw.symm
        by_cases h6 : k < 6
        · have z6 : (k : Int) < 6 := by omega
          go_wp2_with fail
          refine wp_region_selG a [0, 1, 2, 3, 5, 6, 7, 9] 7 rfl (by kernel_rfl) (by kernel_rfl) (by kernel_rfl) (by kernel_rfl) (fun _ d _ _ _ h => by cases d <;> exact h) ?_
          intro W6 hW6
          have T6 := S.below (w' := W6) (by subst hW6; exact (Below.refl _ _).drew)
          have cN : ∀ q : Same1 a W6, q.w.cell? ⟨a, 2, none⟩ = some (.int .u64 (N i : Nat)) := fun q => by
            rw [World.cell?_of_block (w := W6) (w' := q.w) (a := ⟨a, 2, none⟩) q.h]
            exact (T6.bx _ _ rfl).cell 2 rfl
          clear hW6 S cK
          simp only [pickOps, List.filterMap_cons, List.filterMap_nil, List.getElem?_cons_zero, List.getElem?_cons_succ, Option.map_some, List.map_cons, List.map_nil]
          repeat (go_big_quiet_step (fail))
          refine wpQuiet_nil ?_
          clear cN
          obtain ⟨r, hr⟩ : ∃ r, r = W.res (sz k) (N i) := ⟨_, rfl⟩
          have HP := bt_put T6 k (N i) h6 wn
          rw [← hr] at HP
          have HR := Lib.hid hr
          clear hr
          refine wpAnyH_one (k := 4) (by kernel_rfl) rfl (fun Kq hQ => ?_)
          go_simp
          refine HP.mono ?_
          rintro e' w7 ⟨rfl, W7, S7, l7, x7⟩
          clear HP
          refine hQ _ _ ⟨⟨_, (S7.bx _ _ rfl).trans (T6.bx _ _ rfl).symm⟩, rfl⟩ ?_
          clear hQ Kq
          refine wpAnyH_one (k := 8) (by kernel_rfl) rfl (fun Kq hQ => ?_)
          go_simp
          refine (sizes_is w7).mono ?_
          rintro e' w8 ⟨rfl, hw8⟩
          have cs8 := sizes_cell w7 k h6
          rw [← hw8] at cs8
          have S8 := S7.below (w' := w8) (by rw [hw8]; exact (Below.refl _ _).alloc (Nat.le_refl _) _)
          clear hw8 S7
          refine hQ _ _ ⟨⟨_, (S8.bx _ _ rfl).trans (T6.bx _ _ rfl).symm⟩, rfl⟩ ?_
          clear hQ Kq
          refine wpAnyH_one (k := 10) (by kernel_rfl) rfl (fun Kq hQ => ?_)
          go_simp
          refine hQ _ _ ⟨⟨_, (S8.bx _ _ rfl).trans (T6.bx _ _ rfl).symm⟩, rfl⟩ ?_
          clear hQ Kq
          refine wpAnyH_one (k := 11) (by kernel_rfl) rfl (fun Kq hQ => ?_)
          go_simp
          refine hQ _ _ ⟨⟨_, (S8.bx _ _ rfl).trans (T6.bx _ _ rfl).symm⟩, rfl⟩ ?_
          clear hQ Kq
          refine wpAnyH_one (k := 12) (by kernel_rfl) rfl (fun Kq hQ => ?_)
          go_simp
          refine (rt_put S8 (sz k) (N i) (sz_le k).2 wn (r := r) (by rw [HR.out]; unfold WS.res; rw [L.lim, L.xs])).mono ?_
          rintro e' w9 ⟨rfl, R9, S9, l9, x9, m9⟩
          refine hQ _ _ ⟨⟨_, (S9.bx _ _ rfl).trans (T6.bx _ _ rfl).symm⟩, rfl⟩ ?_
          clear hQ Kq
          refine wpAnyH_one (k := 13) (by kernel_rfl) rfl (fun Kq hQ => ?_)
          go_simp
          refine hQ _ _ ⟨⟨_, (S9.bx _ _ rfl).trans (T6.bx _ _ rfl).symm⟩, rfl⟩ ?_
          clear hQ Kq
          refine wpAnyH_one (k := 14) (by kernel_rfl) rfl (fun Kq hQ => ?_)
          go_simp
          refine hQ _ _ ⟨⟨_, (S9.bx _ _ rfl).trans (T6.bx _ _ rfl).symm⟩, rfl⟩ ?_
          clear hQ Kq
          refine wpAnyH_done (by kernel_rfl) ?_ 0
          have L9 := L.grow _ l7 x7 l9 x9 m9
          have M9 : R9.ms.length ≤ i + 1 := by rw [m9]; omega
          clear L T6 S8 cs8 HR x7 x9 l7 l9 m9
          obtain ⟨wl, wx, wv, wmb⟩ := W7
          obtain ⟨rl, rx, rv, rms, rvm⟩ := R9
          obtain ⟨L1, L2, L3, L4, L5, L6⟩ := L9
          dsimp only at *
          subst L1 L2
          have S0 := S9.unbox
          clear S9
          go_wp2_with fail
          go_at_call 20
          refine (wr_OutB _ b _ S0.p1).mono ?_
          rintro e' wo ⟨vo, rfl, Do, ko⟩
          dsimp only at Do
          have hob : ∀ g, vo.ownBlock = some g → w.heap.size ≤ g ∧ g ≠ b ∧ g ≠ c ∧ g ≠ wmb ∧ some g ≠ wv.ownBlock ∧ some g ≠ rv.ownBlock ∧ some g ≠ rvm.ownBlock := fun g hg => by
            have q := (World.ownsRow.lt Do g hg).1
            have b1 := S0.p1.1.lt
            have b2 := S0.q1.1.1.lt
            have b3 : wmb < _ := S0.p2.lt
            have b4 := S0.bel.size
            have Sd : DatB 0 _ wv wx := S0.p1.2.1
            refine ⟨by omega, by omega, by omega, by omega, fun e => ?_, fun e => ?_, fun e => ?_⟩
            · have := (World.ownsRow.lt Sd g e.symm).2
              omega
            · have := (World.ownsRow.lt S0.q1.1.2.1 g e.symm).2
              omega
            · have := (World.ownsRow.lt S0.q1.1.2.2 g e.symm).2
              omega
          have S1 := S0.below ko
          clear S0 ko
          have lx : wx.length ≤ 65536 := Nat.le_trans S1.p1.2.2.2.1 S1.p1.2.2.2.2
          have Do' := Do.dat
          obtain ⟨ao, co, rfl⟩ := Do'.shape
          obtain ⟨ra, rc, rfl⟩ : ∃ a c, rv = .slice a wx.length c := S1.q1.1.2.1.dat.shape
          go_wp2_with fail
          refine wp_region_qb (by kernel_rfl) (by kernel_rfl) ?_
          have kd0 := cell_regrown (S1.q1.1.1.cell 0 (v := .slice ra wx.length rc) rfl)
          repeat (go_big_quiet_step (first | exact regrown_same ((wr_Len _ b _ (S1.p1.below (below_regrown _ _ _))).mono fun _ _ h => ⟨h.1, h.2.symm⟩) | exact Calls.regrown_of (same_yes _ _ _ wx (Do'.seg.below (below_regrown _ _ _)) (S1.q1.1.2.1.dat.seg.below (below_regrown _ _ _)) (by omega))))
          refine wpQuiet_nil ?_
          intro w5 k5
          have S5 := S1.below k5
          have D5 := Do'.below k5
          clear S1 k5 kd0 Do Do'
          go_wp2_with fail
          go_loopw [17] (fun vj wr => ∃ j : Nat, j ≤ wx.length ∧ vj = .int .i64 j ∧ w5.grownBy wr (Value.slice ao wx.length co).ownBlock ∧ ((Value.slice ao wx.length co = .slice none 0 0 ∧ wx.length = 0) ∨ ∃ g cap cs, Value.slice ao wx.length co = .slice (some ⟨g, 0, none⟩) wx.length cap ∧ wx.length ≤ cs.length ∧ Blk wr g 5 cs))
            (fun vj _ => wx.length - (intOf vj).toNat)
          case atStart =>
            refine ⟨0, Nat.zero_le _, rfl, ⟨rfl, rfl, rfl, Nat.le_refl _, fun _ _ _ => rfl⟩, ?_⟩
            rcases D5.form with ⟨e, e0⟩ | ⟨g, cap, cs, e, h1, h2, hb, h4, h5⟩
            · exact .inl ⟨e, by rw [e0]; rfl⟩
            · exact .inr ⟨g, cap, cs, e, by omega, hb⟩
          case round =>
            obtain ⟨j, hj, rfl, hg, hv⟩ := hrel
            by_cases hjlt : j < wx.length
            · rcases hv with ⟨-, e0⟩ | ⟨gg, cap, cs, e, hcl, hb⟩
              · omega
              · cases e
                have hjl : (j : Int) < wx.length := by omega
                obtain ⟨uu, hu⟩ : ∃ uu, cs[j]? = some uu := ⟨_, List.getElem?_eq_getElem (by omega)⟩
                have hc := hb.cell j hu
                have hf := hb.frozen j
                have hn := hb.set j (.int .u8 77)
                have hg2 : w5.grownBy (wr.setCell ⟨gg, j, none⟩ (.int .u8 77)) (some gg) := ⟨hg.os, hg.tape, hg.output, by simpa [World.setCell] using hg.size, fun k hk hne => (Below.heap_setCell _ _ _ _ (fun e => hne (by rw [e]))).trans (hg.block k hk hne)⟩
                clear hg hb S5 D5 hob hu
                go_wp2
                exact ⟨⟨j + 1, hjlt, rfl, hg2, .inr ⟨gg, co, _, rfl, by rw [List.length_set]; exact hcl, hn⟩⟩, by simp [intOf]; omega⟩
            · obtain rfl : j = wx.length := by omega
              have S6 := S5.grown hg hob rfl
              clear hv D5 S5 hg hob
              go_wp2
              exact ⟨⟨i + 1, _, _, _, _, hlt, rfl, S6, ⟨rfl, rfl, L3, L4, L5, L6⟩, by omega, M9⟩, by simp [intOf]; omega⟩
        · have z6 : ¬ (k : Int) < 6 := by omega
          by_cases h7 : k = 6
          · subst h7
            go_wp2_with fail
            refine wp_region_selG a [0, 1, 2, 5, 6, 7] 5 rfl (by kernel_rfl) (by kernel_rfl) (by kernel_rfl) (by kernel_rfl) (fun _ d _ _ _ h => by cases d <;> exact h) ?_
            intro W6 hW6
            have T6 := S.below (w' := W6) (by subst hW6; exact (Below.refl _ _).drew)
            have cN : ∀ q : Same1 a W6, q.w.cell? ⟨a, 3, none⟩ = some (U i) := fun q => by
              rw [World.cell?_of_block (w := W6) (w' := q.w) (a := ⟨a, 3, none⟩) q.h]
              exact (T6.bx _ _ rfl).cell 3 rfl
            clear hW6 S cK
            simp only [pickOps, List.filterMap_cons, List.filterMap_nil, List.getElem?_cons_zero, List.getElem?_cons_succ, Option.map_some, List.map_cons, List.map_nil]
            repeat (go_big_quiet_step (fail))
            refine wpQuiet_nil ?_
            clear cN
            obtain ⟨r, hr⟩ : ∃ r : Int, r = if W.lim < W.xs.length + (X i).length then 7 else 0 := ⟨_, rfl⟩
            have HR := Lib.hid hr
            clear hr
            have us := hseg.below (T6.bel)
            refine wpAnyH_one (k := 3) (by kernel_rfl) rfl (fun Kq hQ => ?_)
            go_simp
            refine (own_is W6 _ (X i) us (by omega)).mono ?_
            rintro e' w7 ⟨v7, rfl, D7, k7⟩
            have S7 := T6.below k7
            have hne : ∀ g, v7.ownBlock = some g → some g ≠ W.v.ownBlock := fun g hg e => by
              have q1 := (World.ownsRow.lt D7 g hg).1
              have hd : DatB 0 W6 W.v W.xs := T6.p1.2.1
              have q2 := (World.ownsRow.lt hd g e.symm).2
              omega
            clear k7
            refine hQ _ _ ⟨⟨_, (S7.bx _ _ rfl).trans (T6.bx _ _ rfl).symm⟩, rfl⟩ ?_
            clear hQ Kq
            refine wpAnyH_one (k := 4) (by kernel_rfl) rfl (fun Kq hQ => ?_)
            go_simp
            refine (bt_bytes S7 v7 (X i) D7.dat hoct hne (by omega) HR.out).mono ?_
            rintro e' w8 ⟨rfl, W7, S8, l7, x7⟩
            clear S7 D7 hne
            refine hQ _ _ ⟨⟨_, (S8.bx _ _ rfl).trans (T6.bx _ _ rfl).symm⟩, rfl⟩ ?_
            clear hQ Kq
            refine wpAnyH_one (k := 8) (by kernel_rfl) rfl (fun Kq hQ => ?_)
            go_simp
            refine (rt_bytes S8 _ (X i) (hseg.below S8.bel) hoct (by omega) (r := r) (by rw [HR.out, L.lim, L.xs])).mono ?_
            rintro e' w9 ⟨rfl, R9, S9, l9, x9, m9⟩
            refine hQ _ _ ⟨⟨_, (S9.bx _ _ rfl).trans (T6.bx _ _ rfl).symm⟩, rfl⟩ ?_
            clear hQ Kq
            refine wpAnyH_one (k := 9) (by kernel_rfl) rfl (fun Kq hQ => ?_)
            go_simp
            refine hQ _ _ ⟨⟨_, (S9.bx _ _ rfl).trans (T6.bx _ _ rfl).symm⟩, rfl⟩ ?_
            clear hQ Kq
            refine wpAnyH_one (k := 10) (by kernel_rfl) rfl (fun Kq hQ => ?_)
            go_simp
            refine hQ _ _ ⟨⟨_, (S9.bx _ _ rfl).trans (T6.bx _ _ rfl).symm⟩, rfl⟩ ?_
            clear hQ Kq
            refine wpAnyH_done (by kernel_rfl) ?_ 0
            have L9 := L.grow _ l7 x7 l9 x9 m9
            have M9 : R9.ms.length ≤ i + 1 := by rw [m9]; omega
            clear L T6 S8 HR x7 x9 l7 l9 m9 us
            obtain ⟨wl, wx, wv, wmb⟩ := W7
            obtain ⟨rl, rx, rv, rms, rvm⟩ := R9
            obtain ⟨L1, L2, L3, L4, L5, L6⟩ := L9
            dsimp only at *
            subst L1 L2
            have S0 := S9.unbox
            clear S9
            go_wp2_with fail
            go_at_call 20
            refine (wr_OutB _ b _ S0.p1).mono ?_
            rintro e' wo ⟨vo, rfl, Do, ko⟩
            dsimp only at Do
            have hob : ∀ g, vo.ownBlock = some g → w.heap.size ≤ g ∧ g ≠ b ∧ g ≠ c ∧ g ≠ wmb ∧ some g ≠ wv.ownBlock ∧ some g ≠ rv.ownBlock ∧ some g ≠ rvm.ownBlock := fun g hg => by
              have q := (World.ownsRow.lt Do g hg).1
              have b1 := S0.p1.1.lt
              have b2 := S0.q1.1.1.lt
              have b3 : wmb < _ := S0.p2.lt
              have b4 := S0.bel.size
              have Sd : DatB 0 _ wv wx := S0.p1.2.1
              refine ⟨by omega, by omega, by omega, by omega, fun e => ?_, fun e => ?_, fun e => ?_⟩
              · have := (World.ownsRow.lt Sd g e.symm).2
                omega
              · have := (World.ownsRow.lt S0.q1.1.2.1 g e.symm).2
                omega
              · have := (World.ownsRow.lt S0.q1.1.2.2 g e.symm).2
                omega
            have S1 := S0.below ko
            clear S0 ko
            have lx : wx.length ≤ 65536 := Nat.le_trans S1.p1.2.2.2.1 S1.p1.2.2.2.2
            have Do' := Do.dat
            obtain ⟨ao, co, rfl⟩ := Do'.shape
            obtain ⟨ra, rc, rfl⟩ : ∃ a c, rv = .slice a wx.length c := S1.q1.1.2.1.dat.shape
            go_wp2_with fail
            refine wp_region_qb (by kernel_rfl) (by kernel_rfl) ?_
            have kd0 := cell_regrown (S1.q1.1.1.cell 0 (v := .slice ra wx.length rc) rfl)
            repeat (go_big_quiet_step (first | exact regrown_same ((wr_Len _ b _ (S1.p1.below (below_regrown _ _ _))).mono fun _ _ h => ⟨h.1, h.2.symm⟩) | exact Calls.regrown_of (same_yes _ _ _ wx (Do'.seg.below (below_regrown _ _ _)) (S1.q1.1.2.1.dat.seg.below (below_regrown _ _ _)) (by omega))))
            refine wpQuiet_nil ?_
            intro w5 k5
            have S5 := S1.below k5
            have D5 := Do'.below k5
            clear S1 k5 kd0 Do Do'
            go_wp2_with fail
            go_loopw [17] (fun vj wr => ∃ j : Nat, j ≤ wx.length ∧ vj = .int .i64 j ∧ w5.grownBy wr (Value.slice ao wx.length co).ownBlock ∧ ((Value.slice ao wx.length co = .slice none 0 0 ∧ wx.length = 0) ∨ ∃ g cap cs, Value.slice ao wx.length co = .slice (some ⟨g, 0, none⟩) wx.length cap ∧ wx.length ≤ cs.length ∧ Blk wr g 5 cs))
              (fun vj _ => wx.length - (intOf vj).toNat)
            case atStart =>
              refine ⟨0, Nat.zero_le _, rfl, ⟨rfl, rfl, rfl, Nat.le_refl _, fun _ _ _ => rfl⟩, ?_⟩
              rcases D5.form with ⟨e, e0⟩ | ⟨g, cap, cs, e, h1, h2, hb, h4, h5⟩
              · exact .inl ⟨e, by rw [e0]; rfl⟩
              · exact .inr ⟨g, cap, cs, e, by omega, hb⟩
            case round =>
              obtain ⟨j, hj, rfl, hg, hv⟩ := hrel
              by_cases hjlt : j < wx.length
              · rcases hv with ⟨-, e0⟩ | ⟨gg, cap, cs, e, hcl, hb⟩
                · omega
                · cases e
                  have hjl : (j : Int) < wx.length := by omega
                  obtain ⟨uu, hu⟩ : ∃ uu, cs[j]? = some uu := ⟨_, List.getElem?_eq_getElem (by omega)⟩
                  have hc := hb.cell j hu
                  have hf := hb.frozen j
                  have hn := hb.set j (.int .u8 77)
                  have hg2 : w5.grownBy (wr.setCell ⟨gg, j, none⟩ (.int .u8 77)) (some gg) := ⟨hg.os, hg.tape, hg.output, by simpa [World.setCell] using hg.size, fun k hk hne => (Below.heap_setCell _ _ _ _ (fun e => hne (by rw [e]))).trans (hg.block k hk hne)⟩
                  clear hg hb S5 D5 hob hu
                  go_wp2
                  exact ⟨⟨j + 1, hjlt, rfl, hg2, .inr ⟨gg, co, _, rfl, by rw [List.length_set]; exact hcl, hn⟩⟩, by simp [intOf]; omega⟩
              · obtain rfl : j = wx.length := by omega
                have S6 := S5.grown hg hob rfl
                clear hv D5 S5 hg hob
                go_wp2
                exact ⟨⟨i + 1, _, _, _, _, hlt, rfl, S6, ⟨rfl, rfl, L3, L4, L5, L6⟩, by omega, M9⟩, by simp [intOf]; omega⟩
          · have z7 : ((k : Int) == 6) = false := by simp; omega
            by_cases h8 : k = 7
            · subst h8
              obtain ⟨r, hr⟩ : ∃ r : Int, r = if W.lim < W.xs.length + 2 then 7 else 0 := ⟨_, rfl⟩
              obtain ⟨x, hx⟩ : ∃ x : Int, x = if W.lim < W.xs.length + 2 then 0 else (W.xs.length : Int) := ⟨_, rfl⟩
              have HP := bt_mark S (by omega) hr hx
              have HR := Lib.hid (show r = if R.lim < R.xs.length + 2 then 7 else 0 by rw [hr, L.lim, L.xs])
              have HX := Lib.hid (show x = if R.lim < R.xs.length + 2 then 0 else (R.xs.length : Int) by rw [hx, L.lim, L.xs])
              clear hr hx
              go_wp2_with fail
              go_at_call 16
              refine HP.mono ?_
              clear HP
              rintro e' w8 ⟨rfl, W7, n7, D7, S8, hn7, l7, x7⟩
              clear S cK
              go_wp2_with fail
              go_at_call 17
              refine (rt_mark S8 (by omega) HR.out HX.out).mono ?_
              rintro e' w9 ⟨rfl, R9, S9, l9, x9⟩
              have L9 : Rel W7 D7 R9 := by
                rcases x7 with ⟨r1, a1, a2⟩ | ⟨r1, a1, a2⟩
                · rcases x9 with ⟨r2, c1, c2⟩ | ⟨r2, -⟩
                  · rw [a2]
                    exact L.same l7 a1 l9 c1 c2
                  · exact absurd r2 r1
                · rcases x9 with ⟨r2, -⟩ | ⟨r2, c1, c2⟩
                  · exact absurd r1 r2
                  · exact L.mark l7 a1 a2 l9 c1 c2
              have M9 : R9.ms.length ≤ i + 1 := by
                rcases x9 with ⟨-, -, c2⟩ | ⟨-, -, c2⟩
                · rw [c2]; omega
                · rw [c2, List.length_append]; simp; omega
              have N9 : n7 ≤ i + 1 := by omega
              clear L S8 HR HX x7 x9 l7 l9 hn7
              obtain ⟨wl, wx, wv, wmb⟩ := W7
              obtain ⟨rl, rx, rv, rms, rvm⟩ := R9
              obtain ⟨L1, L2, L3, L4, L5, L6⟩ := L9
              dsimp only at *
              subst L1 L2
              have S0 := S9.unbox
              clear S9
              go_wp2_with fail
              go_at_call 20
              refine (wr_OutB _ b _ S0.p1).mono ?_
              rintro e' wo ⟨vo, rfl, Do, ko⟩
              dsimp only at Do
              have hob : ∀ g, vo.ownBlock = some g → w.heap.size ≤ g ∧ g ≠ b ∧ g ≠ c ∧ g ≠ wmb ∧ some g ≠ wv.ownBlock ∧ some g ≠ rv.ownBlock ∧ some g ≠ rvm.ownBlock := fun g hg => by
                have q := (World.ownsRow.lt Do g hg).1
                have b1 := S0.p1.1.lt
                have b2 := S0.q1.1.1.lt
                have b3 : wmb < _ := S0.p2.lt
                have b4 := S0.bel.size
                have Sd : DatB 0 _ wv wx := S0.p1.2.1
                refine ⟨by omega, by omega, by omega, by omega, fun e => ?_, fun e => ?_, fun e => ?_⟩
                · have := (World.ownsRow.lt Sd g e.symm).2
                  omega
                · have := (World.ownsRow.lt S0.q1.1.2.1 g e.symm).2
                  omega
                · have := (World.ownsRow.lt S0.q1.1.2.2 g e.symm).2
                  omega
              have S1 := S0.below ko
              clear S0 ko
              have lx : wx.length ≤ 65536 := Nat.le_trans S1.p1.2.2.2.1 S1.p1.2.2.2.2
              have Do' := Do.dat
              obtain ⟨ao, co, rfl⟩ := Do'.shape
              obtain ⟨ra, rc, rfl⟩ : ∃ a c, rv = .slice a wx.length c := S1.q1.1.2.1.dat.shape
              go_wp2_with fail
              refine wp_region_qb (by kernel_rfl) (by kernel_rfl) ?_
              have kd0 := cell_regrown (S1.q1.1.1.cell 0 (v := .slice ra wx.length rc) rfl)
              repeat (go_big_quiet_step (first | exact regrown_same ((wr_Len _ b _ (S1.p1.below (below_regrown _ _ _))).mono fun _ _ h => ⟨h.1, h.2.symm⟩) | exact Calls.regrown_of (same_yes _ _ _ wx (Do'.seg.below (below_regrown _ _ _)) (S1.q1.1.2.1.dat.seg.below (below_regrown _ _ _)) (by omega))))
              refine wpQuiet_nil ?_
              intro w5 k5
              have S5 := S1.below k5
              have D5 := Do'.below k5
              clear S1 k5 kd0 Do Do'
              go_wp2_with fail
              go_loopw [17] (fun vj wr => ∃ j : Nat, j ≤ wx.length ∧ vj = .int .i64 j ∧ w5.grownBy wr (Value.slice ao wx.length co).ownBlock ∧ ((Value.slice ao wx.length co = .slice none 0 0 ∧ wx.length = 0) ∨ ∃ g cap cs, Value.slice ao wx.length co = .slice (some ⟨g, 0, none⟩) wx.length cap ∧ wx.length ≤ cs.length ∧ Blk wr g 5 cs))
                (fun vj _ => wx.length - (intOf vj).toNat)
              case atStart =>
                refine ⟨0, Nat.zero_le _, rfl, ⟨rfl, rfl, rfl, Nat.le_refl _, fun _ _ _ => rfl⟩, ?_⟩
                rcases D5.form with ⟨e, e0⟩ | ⟨g, cap, cs, e, h1, h2, hb, h4, h5⟩
                · exact .inl ⟨e, by rw [e0]; rfl⟩
                · exact .inr ⟨g, cap, cs, e, by omega, hb⟩
              case round =>
                obtain ⟨j, hj, rfl, hg, hv⟩ := hrel
                by_cases hjlt : j < wx.length
                · rcases hv with ⟨-, e0⟩ | ⟨gg, cap, cs, e, hcl, hb⟩
                  · omega
                  · cases e
                    have hjl : (j : Int) < wx.length := by omega
                    obtain ⟨uu, hu⟩ : ∃ uu, cs[j]? = some uu := ⟨_, List.getElem?_eq_getElem (by omega)⟩
                    have hc := hb.cell j hu
                    have hf := hb.frozen j
                    have hn := hb.set j (.int .u8 77)
                    have hg2 : w5.grownBy (wr.setCell ⟨gg, j, none⟩ (.int .u8 77)) (some gg) := ⟨hg.os, hg.tape, hg.output, by simpa [World.setCell] using hg.size, fun k hk hne => (Below.heap_setCell _ _ _ _ (fun e => hne (by rw [e]))).trans (hg.block k hk hne)⟩
                    clear hg hb S5 D5 hob hu
                    go_wp2
                    exact ⟨⟨j + 1, hjlt, rfl, hg2, .inr ⟨gg, co, _, rfl, by rw [List.length_set]; exact hcl, hn⟩⟩, by simp [intOf]; omega⟩
                · obtain rfl : j = wx.length := by omega
                  have S6 := S5.grown hg hob rfl
                  clear hv D5 S5 hg hob
                  go_wp2
                  exact ⟨⟨i + 1, _, _, _, _, hlt, rfl, S6, ⟨rfl, rfl, L3, L4, L5, L6⟩, N9, M9⟩, by simp [intOf]; omega⟩
            · have z8 : ((k : Int) == 7) = false := by simp; omega
              go_wp2_with fail
              refine wp_region_selG a [0, 1, 2, 4, 5, 6] 4 rfl (by kernel_rfl) (by kernel_rfl) (by kernel_rfl) (by kernel_rfl) (fun _ d _ _ _ h => by cases d <;> exact h) ?_
              intro W6 hW6
              have T6 := S.below (w' := W6) (by subst hW6; exact (Below.refl _ _).drew)
              have cN : ∀ q : Same1 a W6, q.w.cell? ⟨a, 1, none⟩ = some (.int .i64 (A i)) := fun q => by
                rw [World.cell?_of_block (w := W6) (w' := q.w) (a := ⟨a, 1, none⟩) q.h]
                exact (T6.bx _ _ rfl).cell 1 rfl
              clear hW6 S cK
              simp only [pickOps, List.filterMap_cons, List.filterMap_nil, List.getElem?_cons_zero, List.getElem?_cons_succ, Option.map_some, List.map_cons, List.map_nil]
              repeat (go_big_quiet_step (fail))
              refine wpQuiet_nil ?_
              clear cN
              obtain ⟨r, hr⟩ : ∃ r : Int, r = if A i ∈ R.ms then 0 else 16 := ⟨_, rfl⟩
              have HR := Lib.hid hr
              clear hr
              refine wpAnyH_one (k := 3) (by kernel_rfl) rfl (fun Kq hQ => ?_)
              go_simp
              refine (bt_patch T6 L (A i) wa HR.out).mono ?_
              rintro e' w8 ⟨rfl, W7, D7, S8, l7, x7⟩
              refine hQ _ _ ⟨⟨_, (S8.bx _ _ rfl).trans (T6.bx _ _ rfl).symm⟩, rfl⟩ ?_
              clear hQ Kq
              refine wpAnyH_one (k := 7) (by kernel_rfl) rfl (fun Kq hQ => ?_)
              go_simp
              refine (rt_patch S8 L.nd L.ats (by omega) (A i) HR.out).mono ?_
              rintro e' w9 ⟨rfl, R9, S9, l9, x9⟩
              refine hQ _ _ ⟨⟨_, (S9.bx _ _ rfl).trans (T6.bx _ _ rfl).symm⟩, rfl⟩ ?_
              clear hQ Kq
              refine wpAnyH_one (k := 8) (by kernel_rfl) rfl (fun Kq hQ => ?_)
              go_simp
              refine hQ _ _ ⟨⟨_, (S9.bx _ _ rfl).trans (T6.bx _ _ rfl).symm⟩, rfl⟩ ?_
              clear hQ Kq
              refine wpAnyH_one (k := 9) (by kernel_rfl) rfl (fun Kq hQ => ?_)
              go_simp
              refine hQ _ _ ⟨⟨_, (S9.bx _ _ rfl).trans (T6.bx _ _ rfl).symm⟩, rfl⟩ ?_
              clear hQ Kq
              refine wpAnyH_done (by kernel_rfl) ?_ 0
              have L9 : Rel W7 D7 R9 := by
                rcases x7 with ⟨r1, a1, a2⟩ | ⟨r1, a1, a2⟩
                · rcases x9 with ⟨r2, c1, c2⟩ | ⟨r2, -⟩
                  · rw [a2]
                    exact L.same l7 a1 l9 c1 c2
                  · exact absurd r2 r1
                · rcases x9 with ⟨r2, -⟩ | ⟨r2, c1, j, c2, c3⟩
                  · exact absurd r1 r2
                  · exact L.patch l7 a1 a2 l9 c1 c2 c3
              have M9 : R9.ms.length ≤ i + 1 := by
                rcases x9 with ⟨-, -, c2⟩ | ⟨-, -, j, c2, c3⟩
                · rw [c2]; omega
                · rw [c3, List.length_append, List.length_take, List.length_drop]; omega
              clear L T6 S8 HR x7 x9 l7 l9
              obtain ⟨wl, wx, wv, wmb⟩ := W7
              obtain ⟨rl, rx, rv, rms, rvm⟩ := R9
              obtain ⟨L1, L2, L3, L4, L5, L6⟩ := L9
              dsimp only at *
              subst L1 L2
              have S0 := S9.unbox
              clear S9
              go_wp2_with fail
              go_at_call 20
              refine (wr_OutB _ b _ S0.p1).mono ?_
              rintro e' wo ⟨vo, rfl, Do, ko⟩
              dsimp only at Do
              have hob : ∀ g, vo.ownBlock = some g → w.heap.size ≤ g ∧ g ≠ b ∧ g ≠ c ∧ g ≠ wmb ∧ some g ≠ wv.ownBlock ∧ some g ≠ rv.ownBlock ∧ some g ≠ rvm.ownBlock := fun g hg => by
                have q := (World.ownsRow.lt Do g hg).1
                have b1 := S0.p1.1.lt
                have b2 := S0.q1.1.1.lt
                have b3 : wmb < _ := S0.p2.lt
                have b4 := S0.bel.size
                have Sd : DatB 0 _ wv wx := S0.p1.2.1
                refine ⟨by omega, by omega, by omega, by omega, fun e => ?_, fun e => ?_, fun e => ?_⟩
                · have := (World.ownsRow.lt Sd g e.symm).2
                  omega
                · have := (World.ownsRow.lt S0.q1.1.2.1 g e.symm).2
                  omega
                · have := (World.ownsRow.lt S0.q1.1.2.2 g e.symm).2
                  omega
              have S1 := S0.below ko
              clear S0 ko
              have lx : wx.length ≤ 65536 := Nat.le_trans S1.p1.2.2.2.1 S1.p1.2.2.2.2
              have Do' := Do.dat
              obtain ⟨ao, co, rfl⟩ := Do'.shape
              obtain ⟨ra, rc, rfl⟩ : ∃ a c, rv = .slice a wx.length c := S1.q1.1.2.1.dat.shape
              go_wp2_with fail
              refine wp_region_qb (by kernel_rfl) (by kernel_rfl) ?_
              have kd0 := cell_regrown (S1.q1.1.1.cell 0 (v := .slice ra wx.length rc) rfl)
              repeat (go_big_quiet_step (first | exact regrown_same ((wr_Len _ b _ (S1.p1.below (below_regrown _ _ _))).mono fun _ _ h => ⟨h.1, h.2.symm⟩) | exact Calls.regrown_of (same_yes _ _ _ wx (Do'.seg.below (below_regrown _ _ _)) (S1.q1.1.2.1.dat.seg.below (below_regrown _ _ _)) (by omega))))
              refine wpQuiet_nil ?_
              intro w5 k5
              have S5 := S1.below k5
              have D5 := Do'.below k5
              clear S1 k5 kd0 Do Do'
              go_wp2_with fail
              go_loopw [17] (fun vj wr => ∃ j : Nat, j ≤ wx.length ∧ vj = .int .i64 j ∧ w5.grownBy wr (Value.slice ao wx.length co).ownBlock ∧ ((Value.slice ao wx.length co = .slice none 0 0 ∧ wx.length = 0) ∨ ∃ g cap cs, Value.slice ao wx.length co = .slice (some ⟨g, 0, none⟩) wx.length cap ∧ wx.length ≤ cs.length ∧ Blk wr g 5 cs))
                (fun vj _ => wx.length - (intOf vj).toNat)
              case atStart =>
                refine ⟨0, Nat.zero_le _, rfl, ⟨rfl, rfl, rfl, Nat.le_refl _, fun _ _ _ => rfl⟩, ?_⟩
                rcases D5.form with ⟨e, e0⟩ | ⟨g, cap, cs, e, h1, h2, hb, h4, h5⟩
                · exact .inl ⟨e, by rw [e0]; rfl⟩
                · exact .inr ⟨g, cap, cs, e, by omega, hb⟩
              case round =>
                obtain ⟨j, hj, rfl, hg, hv⟩ := hrel
                by_cases hjlt : j < wx.length
                · rcases hv with ⟨-, e0⟩ | ⟨gg, cap, cs, e, hcl, hb⟩
                  · omega
                  · cases e
                    have hjl : (j : Int) < wx.length := by omega
                    obtain ⟨uu, hu⟩ : ∃ uu, cs[j]? = some uu := ⟨_, List.getElem?_eq_getElem (by omega)⟩
                    have hc := hb.cell j hu
                    have hf := hb.frozen j
                    have hn := hb.set j (.int .u8 77)
                    have hg2 : w5.grownBy (wr.setCell ⟨gg, j, none⟩ (.int .u8 77)) (some gg) := ⟨hg.os, hg.tape, hg.output, by simpa [World.setCell] using hg.size, fun k hk hne => (Below.heap_setCell _ _ _ _ (fun e => hne (by rw [e]))).trans (hg.block k hk hne)⟩
                    clear hg hb S5 D5 hob hu
                    go_wp2
                    exact ⟨⟨j + 1, hjlt, rfl, hg2, .inr ⟨gg, co, _, rfl, by rw [List.length_set]; exact hcl, hn⟩⟩, by simp [intOf]; omega⟩
                · obtain rfl : j = wx.length := by omega
                  have S6 := S5.grown hg hob rfl
                  clear hv D5 S5 hg hob
                  go_wp2
                  exact ⟨⟨i + 1, _, _, _, _, hlt, rfl, S6, ⟨rfl, rfl, L3, L4, L5, L6⟩, by omega, M9⟩, by simp [intOf]; omega⟩
      · obtain rfl : i = m := by omega
        have B9 := S.bel
        clear h4 hX
        go_wp2
        go_ret
        exact ⟨rfl, B9⟩
theorem writes_any (w : World) (v3 : Value) (l : Int) (m : Nat) (K A : Nat → Int) (N : Nat → Nat) (U : Nat → Value) (X : Nat → List Int) (h3 : Acq w v3 m K A N U X) : Calls Try.prog 3 #[.int .i64 l, v3] w fun e w' => e = .returned (.bool true) ∧ Below w.heap.size w w' := by
  by_cases h : l < 0 ∨ 65536 < l
  · exact writes_bad w v3 l m K A N U X h3 h
  · obtain ⟨n, rfl⟩ : ∃ n : Nat, l = n := ⟨l.toNat, by omega⟩
    exact writes_walk w v3 n m K A N U X h3 (by omega)
end Go.Proofs.Ytailaenkmknpiaa
