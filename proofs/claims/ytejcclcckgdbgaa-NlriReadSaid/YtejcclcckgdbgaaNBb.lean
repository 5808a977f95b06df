/- Bytes, at other kinds. No condition. -/
import Derived.Test.YtejcclcckgdbgaaNBy
import Derived.Test.YtejcclcckgdbgaaNW2
import Derived.Test.YtejcclcckgdbgaaNChA
import Derived.Test.YtejcclcckgdbgaaNChB
namespace Go.Proofs.Ytejcclcckgdbgaa
open Go.RowKit Go.Sort
set_option linter.unusedVariables false
set_option linter.unusedSimpArgs false
set_option maxRecDepth 100000
set_option maxHeartbeats 4000000 in
theorem bytes_mactt (n : NL) (hn : n.Ok) (hs : n.Small) (hk : n.k = 2) (A : n.h = true) (B : n.l2 ≠ 0) (hc : n.chk = 0) (w : World) : Calls Try.prog 10 #[n.v] w fun r w' => ∃ v, r = .returned (.tuple #[v, .int .i64 0]) ∧ Dat w' v (2 :: 40 :: n.macV) ∧ Below w.heap.size w w' := by
  have hC := fun w => chk_mac n hk w
  rw [hc] at hC
  have hl := fun w => layout_is 2 w
  rw [show lay 2 = some 94 from rfl] at hl
  unfold layV at hl
  have hme : ∀ j w, Sem.run Try.prog (method (j + 1) 94 (.agg #[]) "leafmesh/nlri.write") w = .ok (121, .agg #[]) w := fun j w => by kernel_rfl
  have hcf : ∀ p x w, Sem.run Try.prog (callFunc 121 #[.agg #[], p, x]) w = .ok (.enter 121 #[.agg #[], p, x]) w := fun p x w => by kernel_rfl
  have HF := Lib.hid (fun (b : Nat) (W : WS) (w : World) (h : Wtr w b W) (q : W.xs.length + 40 ≤ W.lim) => macW n hn hs h (show W.xs.length + n.macV.length ≤ W.lim by rw [show n.macV.length = 40 by rw [macV_length]; simp [A, B]]; exact q))
  have hlen := (show n.macV.length = 40 by rw [macV_length]; simp [A, B])
  generalize hx : n.macV = V at hlen HF ⊢
  clear hc hx
  unfold NL.v at hC ⊢
  go_enter Try.func10, Try.ntmps10
  go_wp2_with (first
    | (refine at_box rfl _ rfl n rfl ?_; rintro w1 ⟨x1, k1, s1⟩)
    | (refine at_load rfl _ rfl w.heap.size rfl n x1 ?_)
    | (go_at_call 15; refine (hC w1).mono ?_; rintro e w2 ⟨rfl, k2⟩; have b2 := k1.trans (k2.mono k1.size); have x2 := x1.below k2 x1.lt; have c0 := Blk.cell x2 0 (v := .int .i64 n.k) rfl; clear k1 k2 x1 hC)
    | (go_at_call 29; refine (hl w2).mono ?_; rintro e w3 ⟨rfl, k3⟩; have b3 := b2.trans (k3.mono b2.size); have x3 := x2.below k3 x2.lt; clear c0 b2 k3 x2 hl))
  go_at_call 30
  refine (wr_New w3 40 (by decide)).mono ?_
  rintro e w4 ⟨b, rfl, m, W4, hbb, -, -, k4⟩
  have b4 := b3.trans (k4.mono b3.size)
  have x4 := x3.below k4 x3.lt
  have hB : w.heap.size ≤ b := Nat.le_trans b3.size hbb
  clear b3 x3 k4 hbb
  have hF := HF.out b _ w4 W4 (show [].length + 40 ≤ 40 by decide)
  clear HF
  go_wp2_with (first
    | (refine at_load rfl _ rfl w.heap.size rfl n x4 ?_)
    | (go_at_call 121; refine hF.mono ?_; rintro e w5 ⟨rfl, v5, S5⟩; clear hF))
  have x5 := S5.bx x4 W4.1 W4.2.1
  have b5 : Below w.heap.size w w5 := S5.base b4 hB (fun g hg => by simp [Value.ownBlock] at hg) b4.size
  have hwt5 : Wtr w5 b ⟨40, V, v5, m⟩ := S5.wtr
  have c0 := Blk.cell x5 0 (v := .int .i64 n.k) rfl
  rw [hk] at c0
  have SS := (St.start w5).cons w.heap.size 0 _ c0
  clear S5 b4 x4 W4 hme hcf c0 x5
  refine wp_region_sel SS [0, 1, 2, 3, 7] 7 rfl (by kernel_rfl) (by kernel_rfl) (by kernel_rfl) (by kernel_rfl) (fun _ d _ _ _ h => by cases d <;> exact h) ?_
  intro W SW kc hBW
  simp only [CellsAt, and_true] at kc
  simp only [pickOps, List.filterMap_cons, List.filterMap_nil, List.getElem?_cons_zero, List.getElem?_cons_succ, Option.map_some, List.map_cons, List.map_nil]
  repeat (go_big_quiet_step (fail))
  refine wpQuiet_nil ?_
  clear kc SW SS
  have hwt := hwt5.below hBW
  clear hwt5
  have hL := wr_Len W b _ hwt
  simp only [hlen] at hL
  refine wpAnyH_one (k := 4) (by kernel_rfl) rfl (fun K hQ => ?_)
  go_simp
  refine hL.mono ?_
  rintro r u0 ⟨rfl, hu⟩
  obtain rfl := hu.symm
  refine hQ _ _ (CB.refl _) ?_
  clear hQ K hL
  have d0 : Below W.heap.size W W := Below.refl _ _
  refine wpAnyH_two (j := 5) (k := 8) (by kernel_rfl) rfl rfl (fun K hQ => ?_) (fun K hQ => ?_)
  · go_simp
    refine hQ _ _ (CB.of_below d0) ?_
    clear hQ K
    refine wpAnyH_two (j := 6) (k := 8) (by kernel_rfl) rfl rfl (fun K hQ => ?_) (fun K hQ => ?_)
    · go_simp
      have hli := DatB.lit (B := W.heap.size) d0.size 2 40
      have dl := d0.alloc d0.size (.cells #[.int .u8 2, .int .u8 40] 5)
      refine hQ _ _ (CB.of_below dl) ?_
      clear hQ K
      refine wpAnyH_one (k := 8) (by kernel_rfl) rfl (fun K hQ => ?_)
      go_simp
      refine (wr_Out _ b _ (hwt.below dl)).mono ?_
      rintro r u2 ⟨vo, rfl, hvo, e2⟩
      have d2 := dl.trans (e2.mono dl.size)
      refine hQ _ _ (CB.of_below d2) ?_
      clear hQ K
      replace hli := hli.below e2
      obtain ⟨va, wa, hr, ha, hg⟩ := append_dat u2 23 W.heap.size _ _ _ _ hli hvo d2.size (by show 2 + V.length ≤ _; omega)
      have da : Below W.heap.size W wa := d2.grown hg d2.size (fun q hq => (World.ownsRow.lt hli q hq).1)
      have HR := Lib.hid hr
      clear hr
      refine wpAnyH_one (k := 9) (by kernel_rfl) rfl (fun K hQ => ?_)
      refine if_true_prop (by kernel_rfl) ?_
      refine Lib.wp_append_run _ _ _ 23 23 rfl _ _ rfl rfl _ _ HR.out ?_
      refine hQ _ _ (CB.of_below da) ?_
      clear hQ K
      refine wpAnyH_one (k := 10) (by kernel_rfl) rfl (fun K hQ => ?_)
      go_simp
      refine hQ _ _ (CB.of_below da) ?_
      clear hQ K
      refine wpAnyH_one (k := 11) (by kernel_rfl) rfl (fun K hQ => ?_)
      go_simp
      refine hQ _ _ (CB.of_below da) ?_
      clear hQ K
      refine wpAnyH_done (by kernel_rfl) ?_ 0
      clear HR hg
      go_wp2
      go_ret2
      exact ⟨va, rfl, ha.dat, b5.trans ((hBW.trans (da.mono hBW.size)).mono b5.size)⟩
    · go_simp
      refine (wr_Out _ b _ (hwt.below d0)).mono ?_
      rintro r u2 ⟨vo, rfl, hvo, e2⟩
      have d2 := d0.trans (e2.mono d0.size)
      refine hQ _ _ (CB.of_below d2) ?_
      clear hQ K
      refine wpAnyH_one (k := 6) (by kernel_rfl) rfl (fun K hQ => ?_)
      go_simp
      have hli := DatB.lit (B := W.heap.size) d2.size 2 40
      have dl := d2.alloc d2.size (.cells #[.int .u8 2, .int .u8 40] 5)
      refine hQ _ _ (CB.of_below dl) ?_
      clear hQ K
      replace hvo := hvo.below ((Below.refl _ _).alloc (Nat.le_refl _) (.cells #[.int .u8 2, .int .u8 40] 5))
      obtain ⟨va, wa, hr, ha, hg⟩ := append_dat _ 23 W.heap.size _ _ _ _ hli hvo dl.size (by show 2 + V.length ≤ _; omega)
      have da : Below W.heap.size W wa := dl.grown hg dl.size (fun q hq => (World.ownsRow.lt hli q hq).1)
      have HR := Lib.hid hr
      clear hr
      refine wpAnyH_one (k := 9) (by kernel_rfl) rfl (fun K hQ => ?_)
      refine if_true_prop (by kernel_rfl) ?_
      refine Lib.wp_append_run _ _ _ 23 23 rfl _ _ rfl rfl _ _ HR.out ?_
      refine hQ _ _ (CB.of_below da) ?_
      clear hQ K
      refine wpAnyH_one (k := 10) (by kernel_rfl) rfl (fun K hQ => ?_)
      go_simp
      refine hQ _ _ (CB.of_below da) ?_
      clear hQ K
      refine wpAnyH_one (k := 11) (by kernel_rfl) rfl (fun K hQ => ?_)
      go_simp
      refine hQ _ _ (CB.of_below da) ?_
      clear hQ K
      refine wpAnyH_done (by kernel_rfl) ?_ 0
      clear HR hg
      go_wp2
      go_ret2
      exact ⟨va, rfl, ha.dat, b5.trans ((hBW.trans (da.mono hBW.size)).mono b5.size)⟩
  · go_simp
    refine (wr_Out _ b _ (hwt.below d0)).mono ?_
    rintro r u2 ⟨vo, rfl, hvo, e2⟩
    have d2 := d0.trans (e2.mono d0.size)
    refine hQ _ _ (CB.of_below d2) ?_
    clear hQ K
    refine wpAnyH_one (k := 5) (by kernel_rfl) rfl (fun K hQ => ?_)
    go_simp
    refine hQ _ _ (CB.of_below d2) ?_
    clear hQ K
    refine wpAnyH_one (k := 6) (by kernel_rfl) rfl (fun K hQ => ?_)
    go_simp
    have hli := DatB.lit (B := W.heap.size) d2.size 2 40
    have dl := d2.alloc d2.size (.cells #[.int .u8 2, .int .u8 40] 5)
    refine hQ _ _ (CB.of_below dl) ?_
    clear hQ K
    replace hvo := hvo.below ((Below.refl _ _).alloc (Nat.le_refl _) (.cells #[.int .u8 2, .int .u8 40] 5))
    obtain ⟨va, wa, hr, ha, hg⟩ := append_dat _ 23 W.heap.size _ _ _ _ hli hvo dl.size (by show 2 + V.length ≤ _; omega)
    have da : Below W.heap.size W wa := dl.grown hg dl.size (fun q hq => (World.ownsRow.lt hli q hq).1)
    have HR := Lib.hid hr
    clear hr
    refine wpAnyH_one (k := 9) (by kernel_rfl) rfl (fun K hQ => ?_)
    refine if_true_prop (by kernel_rfl) ?_
    refine Lib.wp_append_run _ _ _ 23 23 rfl _ _ rfl rfl _ _ HR.out ?_
    refine hQ _ _ (CB.of_below da) ?_
    clear hQ K
    refine wpAnyH_one (k := 10) (by kernel_rfl) rfl (fun K hQ => ?_)
    go_simp
    refine hQ _ _ (CB.of_below da) ?_
    clear hQ K
    refine wpAnyH_one (k := 11) (by kernel_rfl) rfl (fun K hQ => ?_)
    go_simp
    refine hQ _ _ (CB.of_below da) ?_
    clear hQ K
    refine wpAnyH_done (by kernel_rfl) ?_ 0
    clear HR hg
    go_wp2
    go_ret2
    exact ⟨va, rfl, ha.dat, b5.trans ((hBW.trans (da.mono hBW.size)).mono b5.size)⟩
set_option maxHeartbeats 4000000 in
theorem bytes_mactf (n : NL) (hn : n.Ok) (hs : n.Small) (hk : n.k = 2) (A : n.h = true) (B : n.l2 = 0) (hc : n.chk = 0) (w : World) : Calls Try.prog 10 #[n.v] w fun r w' => ∃ v, r = .returned (.tuple #[v, .int .i64 0]) ∧ Dat w' v (2 :: 37 :: n.macV) ∧ Below w.heap.size w w' := by
  have hC := fun w => chk_mac n hk w
  rw [hc] at hC
  have hl := fun w => layout_is 2 w
  rw [show lay 2 = some 94 from rfl] at hl
  unfold layV at hl
  have hme : ∀ j w, Sem.run Try.prog (method (j + 1) 94 (.agg #[]) "leafmesh/nlri.write") w = .ok (121, .agg #[]) w := fun j w => by kernel_rfl
  have hcf : ∀ p x w, Sem.run Try.prog (callFunc 121 #[.agg #[], p, x]) w = .ok (.enter 121 #[.agg #[], p, x]) w := fun p x w => by kernel_rfl
  have HF := Lib.hid (fun (b : Nat) (W : WS) (w : World) (h : Wtr w b W) (q : W.xs.length + 37 ≤ W.lim) => macW n hn hs h (show W.xs.length + n.macV.length ≤ W.lim by rw [show n.macV.length = 37 by rw [macV_length]; simp [A, B]]; exact q))
  have hlen := (show n.macV.length = 37 by rw [macV_length]; simp [A, B])
  generalize hx : n.macV = V at hlen HF ⊢
  clear hc hx
  unfold NL.v at hC ⊢
  go_enter Try.func10, Try.ntmps10
  go_wp2_with (first
    | (refine at_box rfl _ rfl n rfl ?_; rintro w1 ⟨x1, k1, s1⟩)
    | (refine at_load rfl _ rfl w.heap.size rfl n x1 ?_)
    | (go_at_call 15; refine (hC w1).mono ?_; rintro e w2 ⟨rfl, k2⟩; have b2 := k1.trans (k2.mono k1.size); have x2 := x1.below k2 x1.lt; have c0 := Blk.cell x2 0 (v := .int .i64 n.k) rfl; clear k1 k2 x1 hC)
    | (go_at_call 29; refine (hl w2).mono ?_; rintro e w3 ⟨rfl, k3⟩; have b3 := b2.trans (k3.mono b2.size); have x3 := x2.below k3 x2.lt; clear c0 b2 k3 x2 hl))
  go_at_call 30
  refine (wr_New w3 40 (by decide)).mono ?_
  rintro e w4 ⟨b, rfl, m, W4, hbb, -, -, k4⟩
  have b4 := b3.trans (k4.mono b3.size)
  have x4 := x3.below k4 x3.lt
  have hB : w.heap.size ≤ b := Nat.le_trans b3.size hbb
  clear b3 x3 k4 hbb
  have hF := HF.out b _ w4 W4 (show [].length + 37 ≤ 40 by decide)
  clear HF
  go_wp2_with (first
    | (refine at_load rfl _ rfl w.heap.size rfl n x4 ?_)
    | (go_at_call 121; refine hF.mono ?_; rintro e w5 ⟨rfl, v5, S5⟩; clear hF))
  have x5 := S5.bx x4 W4.1 W4.2.1
  have b5 : Below w.heap.size w w5 := S5.base b4 hB (fun g hg => by simp [Value.ownBlock] at hg) b4.size
  have hwt5 : Wtr w5 b ⟨40, V, v5, m⟩ := S5.wtr
  have c0 := Blk.cell x5 0 (v := .int .i64 n.k) rfl
  rw [hk] at c0
  have SS := (St.start w5).cons w.heap.size 0 _ c0
  clear S5 b4 x4 W4 hme hcf c0 x5
  refine wp_region_sel SS [0, 1, 2, 3, 7] 7 rfl (by kernel_rfl) (by kernel_rfl) (by kernel_rfl) (by kernel_rfl) (fun _ d _ _ _ h => by cases d <;> exact h) ?_
  intro W SW kc hBW
  simp only [CellsAt, and_true] at kc
  simp only [pickOps, List.filterMap_cons, List.filterMap_nil, List.getElem?_cons_zero, List.getElem?_cons_succ, Option.map_some, List.map_cons, List.map_nil]
  repeat (go_big_quiet_step (fail))
  refine wpQuiet_nil ?_
  clear kc SW SS
  have hwt := hwt5.below hBW
  clear hwt5
  have hL := wr_Len W b _ hwt
  simp only [hlen] at hL
  refine wpAnyH_one (k := 4) (by kernel_rfl) rfl (fun K hQ => ?_)
  go_simp
  refine hL.mono ?_
  rintro r u0 ⟨rfl, hu⟩
  obtain rfl := hu.symm
  refine hQ _ _ (CB.refl _) ?_
  clear hQ K hL
  have d0 : Below W.heap.size W W := Below.refl _ _
  refine wpAnyH_two (j := 5) (k := 8) (by kernel_rfl) rfl rfl (fun K hQ => ?_) (fun K hQ => ?_)
  · go_simp
    refine hQ _ _ (CB.of_below d0) ?_
    clear hQ K
    refine wpAnyH_two (j := 6) (k := 8) (by kernel_rfl) rfl rfl (fun K hQ => ?_) (fun K hQ => ?_)
    · go_simp
      have hli := DatB.lit (B := W.heap.size) d0.size 2 37
      have dl := d0.alloc d0.size (.cells #[.int .u8 2, .int .u8 37] 5)
      refine hQ _ _ (CB.of_below dl) ?_
      clear hQ K
      refine wpAnyH_one (k := 8) (by kernel_rfl) rfl (fun K hQ => ?_)
      go_simp
      refine (wr_Out _ b _ (hwt.below dl)).mono ?_
      rintro r u2 ⟨vo, rfl, hvo, e2⟩
      have d2 := dl.trans (e2.mono dl.size)
      refine hQ _ _ (CB.of_below d2) ?_
      clear hQ K
      replace hli := hli.below e2
      obtain ⟨va, wa, hr, ha, hg⟩ := append_dat u2 23 W.heap.size _ _ _ _ hli hvo d2.size (by show 2 + V.length ≤ _; omega)
      have da : Below W.heap.size W wa := d2.grown hg d2.size (fun q hq => (World.ownsRow.lt hli q hq).1)
      have HR := Lib.hid hr
      clear hr
      refine wpAnyH_one (k := 9) (by kernel_rfl) rfl (fun K hQ => ?_)
      refine if_true_prop (by kernel_rfl) ?_
      refine Lib.wp_append_run _ _ _ 23 23 rfl _ _ rfl rfl _ _ HR.out ?_
      refine hQ _ _ (CB.of_below da) ?_
      clear hQ K
      refine wpAnyH_one (k := 10) (by kernel_rfl) rfl (fun K hQ => ?_)
      go_simp
      refine hQ _ _ (CB.of_below da) ?_
      clear hQ K
      refine wpAnyH_one (k := 11) (by kernel_rfl) rfl (fun K hQ => ?_)
      go_simp
      refine hQ _ _ (CB.of_below da) ?_
      clear hQ K
      refine wpAnyH_done (by kernel_rfl) ?_ 0
      clear HR hg
      go_wp2
      go_ret2
      exact ⟨va, rfl, ha.dat, b5.trans ((hBW.trans (da.mono hBW.size)).mono b5.size)⟩
    · go_simp
      refine (wr_Out _ b _ (hwt.below d0)).mono ?_
      rintro r u2 ⟨vo, rfl, hvo, e2⟩
      have d2 := d0.trans (e2.mono d0.size)
      refine hQ _ _ (CB.of_below d2) ?_
      clear hQ K
      refine wpAnyH_one (k := 6) (by kernel_rfl) rfl (fun K hQ => ?_)
      go_simp
      have hli := DatB.lit (B := W.heap.size) d2.size 2 37
      have dl := d2.alloc d2.size (.cells #[.int .u8 2, .int .u8 37] 5)
      refine hQ _ _ (CB.of_below dl) ?_
      clear hQ K
      replace hvo := hvo.below ((Below.refl _ _).alloc (Nat.le_refl _) (.cells #[.int .u8 2, .int .u8 37] 5))
      obtain ⟨va, wa, hr, ha, hg⟩ := append_dat _ 23 W.heap.size _ _ _ _ hli hvo dl.size (by show 2 + V.length ≤ _; omega)
      have da : Below W.heap.size W wa := dl.grown hg dl.size (fun q hq => (World.ownsRow.lt hli q hq).1)
      have HR := Lib.hid hr
      clear hr
      refine wpAnyH_one (k := 9) (by kernel_rfl) rfl (fun K hQ => ?_)
      refine if_true_prop (by kernel_rfl) ?_
      refine Lib.wp_append_run _ _ _ 23 23 rfl _ _ rfl rfl _ _ HR.out ?_
      refine hQ _ _ (CB.of_below da) ?_
      clear hQ K
      refine wpAnyH_one (k := 10) (by kernel_rfl) rfl (fun K hQ => ?_)
      go_simp
      refine hQ _ _ (CB.of_below da) ?_
      clear hQ K
      refine wpAnyH_one (k := 11) (by kernel_rfl) rfl (fun K hQ => ?_)
      go_simp
      refine hQ _ _ (CB.of_below da) ?_
      clear hQ K
      refine wpAnyH_done (by kernel_rfl) ?_ 0
      clear HR hg
      go_wp2
      go_ret2
      exact ⟨va, rfl, ha.dat, b5.trans ((hBW.trans (da.mono hBW.size)).mono b5.size)⟩
  · go_simp
    refine (wr_Out _ b _ (hwt.below d0)).mono ?_
    rintro r u2 ⟨vo, rfl, hvo, e2⟩
    have d2 := d0.trans (e2.mono d0.size)
    refine hQ _ _ (CB.of_below d2) ?_
    clear hQ K
    refine wpAnyH_one (k := 5) (by kernel_rfl) rfl (fun K hQ => ?_)
    go_simp
    refine hQ _ _ (CB.of_below d2) ?_
    clear hQ K
    refine wpAnyH_one (k := 6) (by kernel_rfl) rfl (fun K hQ => ?_)
    go_simp
    have hli := DatB.lit (B := W.heap.size) d2.size 2 37
    have dl := d2.alloc d2.size (.cells #[.int .u8 2, .int .u8 37] 5)
    refine hQ _ _ (CB.of_below dl) ?_
    clear hQ K
    replace hvo := hvo.below ((Below.refl _ _).alloc (Nat.le_refl _) (.cells #[.int .u8 2, .int .u8 37] 5))
    obtain ⟨va, wa, hr, ha, hg⟩ := append_dat _ 23 W.heap.size _ _ _ _ hli hvo dl.size (by show 2 + V.length ≤ _; omega)
    have da : Below W.heap.size W wa := dl.grown hg dl.size (fun q hq => (World.ownsRow.lt hli q hq).1)
    have HR := Lib.hid hr
    clear hr
    refine wpAnyH_one (k := 9) (by kernel_rfl) rfl (fun K hQ => ?_)
    refine if_true_prop (by kernel_rfl) ?_
    refine Lib.wp_append_run _ _ _ 23 23 rfl _ _ rfl rfl _ _ HR.out ?_
    refine hQ _ _ (CB.of_below da) ?_
    clear hQ K
    refine wpAnyH_one (k := 10) (by kernel_rfl) rfl (fun K hQ => ?_)
    go_simp
    refine hQ _ _ (CB.of_below da) ?_
    clear hQ K
    refine wpAnyH_one (k := 11) (by kernel_rfl) rfl (fun K hQ => ?_)
    go_simp
    refine hQ _ _ (CB.of_below da) ?_
    clear hQ K
    refine wpAnyH_done (by kernel_rfl) ?_ 0
    clear HR hg
    go_wp2
    go_ret2
    exact ⟨va, rfl, ha.dat, b5.trans ((hBW.trans (da.mono hBW.size)).mono b5.size)⟩
set_option maxHeartbeats 4000000 in
theorem bytes_macft (n : NL) (hn : n.Ok) (hs : n.Small) (hk : n.k = 2) (A : n.h = false) (B : n.l2 ≠ 0) (hc : n.chk = 0) (w : World) : Calls Try.prog 10 #[n.v] w fun r w' => ∃ v, r = .returned (.tuple #[v, .int .i64 0]) ∧ Dat w' v (2 :: 36 :: n.macV) ∧ Below w.heap.size w w' := by
  have hC := fun w => chk_mac n hk w
  rw [hc] at hC
  have hl := fun w => layout_is 2 w
  rw [show lay 2 = some 94 from rfl] at hl
  unfold layV at hl
  have hme : ∀ j w, Sem.run Try.prog (method (j + 1) 94 (.agg #[]) "leafmesh/nlri.write") w = .ok (121, .agg #[]) w := fun j w => by kernel_rfl
  have hcf : ∀ p x w, Sem.run Try.prog (callFunc 121 #[.agg #[], p, x]) w = .ok (.enter 121 #[.agg #[], p, x]) w := fun p x w => by kernel_rfl
  have HF := Lib.hid (fun (b : Nat) (W : WS) (w : World) (h : Wtr w b W) (q : W.xs.length + 36 ≤ W.lim) => macW n hn hs h (show W.xs.length + n.macV.length ≤ W.lim by rw [show n.macV.length = 36 by rw [macV_length]; simp [A, B]]; exact q))
  have hlen := (show n.macV.length = 36 by rw [macV_length]; simp [A, B])
  generalize hx : n.macV = V at hlen HF ⊢
  clear hc hx
  unfold NL.v at hC ⊢
  go_enter Try.func10, Try.ntmps10
  go_wp2_with (first
    | (refine at_box rfl _ rfl n rfl ?_; rintro w1 ⟨x1, k1, s1⟩)
    | (refine at_load rfl _ rfl w.heap.size rfl n x1 ?_)
    | (go_at_call 15; refine (hC w1).mono ?_; rintro e w2 ⟨rfl, k2⟩; have b2 := k1.trans (k2.mono k1.size); have x2 := x1.below k2 x1.lt; have c0 := Blk.cell x2 0 (v := .int .i64 n.k) rfl; clear k1 k2 x1 hC)
    | (go_at_call 29; refine (hl w2).mono ?_; rintro e w3 ⟨rfl, k3⟩; have b3 := b2.trans (k3.mono b2.size); have x3 := x2.below k3 x2.lt; clear c0 b2 k3 x2 hl))
  go_at_call 30
  refine (wr_New w3 40 (by decide)).mono ?_
  rintro e w4 ⟨b, rfl, m, W4, hbb, -, -, k4⟩
  have b4 := b3.trans (k4.mono b3.size)
  have x4 := x3.below k4 x3.lt
  have hB : w.heap.size ≤ b := Nat.le_trans b3.size hbb
  clear b3 x3 k4 hbb
  have hF := HF.out b _ w4 W4 (show [].length + 36 ≤ 40 by decide)
  clear HF
  go_wp2_with (first
    | (refine at_load rfl _ rfl w.heap.size rfl n x4 ?_)
    | (go_at_call 121; refine hF.mono ?_; rintro e w5 ⟨rfl, v5, S5⟩; clear hF))
  have x5 := S5.bx x4 W4.1 W4.2.1
  have b5 : Below w.heap.size w w5 := S5.base b4 hB (fun g hg => by simp [Value.ownBlock] at hg) b4.size
  have hwt5 : Wtr w5 b ⟨40, V, v5, m⟩ := S5.wtr
  have c0 := Blk.cell x5 0 (v := .int .i64 n.k) rfl
  rw [hk] at c0
  have SS := (St.start w5).cons w.heap.size 0 _ c0
  clear S5 b4 x4 W4 hme hcf c0 x5
  refine wp_region_sel SS [0, 1, 2, 3, 7] 7 rfl (by kernel_rfl) (by kernel_rfl) (by kernel_rfl) (by kernel_rfl) (fun _ d _ _ _ h => by cases d <;> exact h) ?_
  intro W SW kc hBW
  simp only [CellsAt, and_true] at kc
  simp only [pickOps, List.filterMap_cons, List.filterMap_nil, List.getElem?_cons_zero, List.getElem?_cons_succ, Option.map_some, List.map_cons, List.map_nil]
  repeat (go_big_quiet_step (fail))
  refine wpQuiet_nil ?_
  clear kc SW SS
  have hwt := hwt5.below hBW
  clear hwt5
  have hL := wr_Len W b _ hwt
  simp only [hlen] at hL
  refine wpAnyH_one (k := 4) (by kernel_rfl) rfl (fun K hQ => ?_)
  go_simp
  refine hL.mono ?_
  rintro r u0 ⟨rfl, hu⟩
  obtain rfl := hu.symm
  refine hQ _ _ (CB.refl _) ?_
  clear hQ K hL
  have d0 : Below W.heap.size W W := Below.refl _ _
  refine wpAnyH_two (j := 5) (k := 8) (by kernel_rfl) rfl rfl (fun K hQ => ?_) (fun K hQ => ?_)
  · go_simp
    refine hQ _ _ (CB.of_below d0) ?_
    clear hQ K
    refine wpAnyH_two (j := 6) (k := 8) (by kernel_rfl) rfl rfl (fun K hQ => ?_) (fun K hQ => ?_)
    · go_simp
      have hli := DatB.lit (B := W.heap.size) d0.size 2 36
      have dl := d0.alloc d0.size (.cells #[.int .u8 2, .int .u8 36] 5)
      refine hQ _ _ (CB.of_below dl) ?_
      clear hQ K
      refine wpAnyH_one (k := 8) (by kernel_rfl) rfl (fun K hQ => ?_)
      go_simp
      refine (wr_Out _ b _ (hwt.below dl)).mono ?_
      rintro r u2 ⟨vo, rfl, hvo, e2⟩
      have d2 := dl.trans (e2.mono dl.size)
      refine hQ _ _ (CB.of_below d2) ?_
      clear hQ K
      replace hli := hli.below e2
      obtain ⟨va, wa, hr, ha, hg⟩ := append_dat u2 23 W.heap.size _ _ _ _ hli hvo d2.size (by show 2 + V.length ≤ _; omega)
      have da : Below W.heap.size W wa := d2.grown hg d2.size (fun q hq => (World.ownsRow.lt hli q hq).1)
      have HR := Lib.hid hr
      clear hr
      refine wpAnyH_one (k := 9) (by kernel_rfl) rfl (fun K hQ => ?_)
      refine if_true_prop (by kernel_rfl) ?_
      refine Lib.wp_append_run _ _ _ 23 23 rfl _ _ rfl rfl _ _ HR.out ?_
      refine hQ _ _ (CB.of_below da) ?_
      clear hQ K
      refine wpAnyH_one (k := 10) (by kernel_rfl) rfl (fun K hQ => ?_)
      go_simp
      refine hQ _ _ (CB.of_below da) ?_
      clear hQ K
      refine wpAnyH_one (k := 11) (by kernel_rfl) rfl (fun K hQ => ?_)
      go_simp
      refine hQ _ _ (CB.of_below da) ?_
      clear hQ K
      refine wpAnyH_done (by kernel_rfl) ?_ 0
      clear HR hg
      go_wp2
      go_ret2
      exact ⟨va, rfl, ha.dat, b5.trans ((hBW.trans (da.mono hBW.size)).mono b5.size)⟩
    · go_simp
      refine (wr_Out _ b _ (hwt.below d0)).mono ?_
      rintro r u2 ⟨vo, rfl, hvo, e2⟩
      have d2 := d0.trans (e2.mono d0.size)
      refine hQ _ _ (CB.of_below d2) ?_
      clear hQ K
      refine wpAnyH_one (k := 6) (by kernel_rfl) rfl (fun K hQ => ?_)
      go_simp
      have hli := DatB.lit (B := W.heap.size) d2.size 2 36
      have dl := d2.alloc d2.size (.cells #[.int .u8 2, .int .u8 36] 5)
      refine hQ _ _ (CB.of_below dl) ?_
      clear hQ K
      replace hvo := hvo.below ((Below.refl _ _).alloc (Nat.le_refl _) (.cells #[.int .u8 2, .int .u8 36] 5))
      obtain ⟨va, wa, hr, ha, hg⟩ := append_dat _ 23 W.heap.size _ _ _ _ hli hvo dl.size (by show 2 + V.length ≤ _; omega)
      have da : Below W.heap.size W wa := dl.grown hg dl.size (fun q hq => (World.ownsRow.lt hli q hq).1)
      have HR := Lib.hid hr
      clear hr
      refine wpAnyH_one (k := 9) (by kernel_rfl) rfl (fun K hQ => ?_)
      refine if_true_prop (by kernel_rfl) ?_
      refine Lib.wp_append_run _ _ _ 23 23 rfl _ _ rfl rfl _ _ HR.out ?_
      refine hQ _ _ (CB.of_below da) ?_
      clear hQ K
      refine wpAnyH_one (k := 10) (by kernel_rfl) rfl (fun K hQ => ?_)
      go_simp
      refine hQ _ _ (CB.of_below da) ?_
      clear hQ K
      refine wpAnyH_one (k := 11) (by kernel_rfl) rfl (fun K hQ => ?_)
      go_simp
      refine hQ _ _ (CB.of_below da) ?_
      clear hQ K
      refine wpAnyH_done (by kernel_rfl) ?_ 0
      clear HR hg
      go_wp2
      go_ret2
      exact ⟨va, rfl, ha.dat, b5.trans ((hBW.trans (da.mono hBW.size)).mono b5.size)⟩
  · go_simp
    refine (wr_Out _ b _ (hwt.below d0)).mono ?_
    rintro r u2 ⟨vo, rfl, hvo, e2⟩
    have d2 := d0.trans (e2.mono d0.size)
    refine hQ _ _ (CB.of_below d2) ?_
    clear hQ K
    refine wpAnyH_one (k := 5) (by kernel_rfl) rfl (fun K hQ => ?_)
    go_simp
    refine hQ _ _ (CB.of_below d2) ?_
    clear hQ K
    refine wpAnyH_one (k := 6) (by kernel_rfl) rfl (fun K hQ => ?_)
    go_simp
    have hli := DatB.lit (B := W.heap.size) d2.size 2 36
    have dl := d2.alloc d2.size (.cells #[.int .u8 2, .int .u8 36] 5)
    refine hQ _ _ (CB.of_below dl) ?_
    clear hQ K
    replace hvo := hvo.below ((Below.refl _ _).alloc (Nat.le_refl _) (.cells #[.int .u8 2, .int .u8 36] 5))
    obtain ⟨va, wa, hr, ha, hg⟩ := append_dat _ 23 W.heap.size _ _ _ _ hli hvo dl.size (by show 2 + V.length ≤ _; omega)
    have da : Below W.heap.size W wa := dl.grown hg dl.size (fun q hq => (World.ownsRow.lt hli q hq).1)
    have HR := Lib.hid hr
    clear hr
    refine wpAnyH_one (k := 9) (by kernel_rfl) rfl (fun K hQ => ?_)
    refine if_true_prop (by kernel_rfl) ?_
    refine Lib.wp_append_run _ _ _ 23 23 rfl _ _ rfl rfl _ _ HR.out ?_
    refine hQ _ _ (CB.of_below da) ?_
    clear hQ K
    refine wpAnyH_one (k := 10) (by kernel_rfl) rfl (fun K hQ => ?_)
    go_simp
    refine hQ _ _ (CB.of_below da) ?_
    clear hQ K
    refine wpAnyH_one (k := 11) (by kernel_rfl) rfl (fun K hQ => ?_)
    go_simp
    refine hQ _ _ (CB.of_below da) ?_
    clear hQ K
    refine wpAnyH_done (by kernel_rfl) ?_ 0
    clear HR hg
    go_wp2
    go_ret2
    exact ⟨va, rfl, ha.dat, b5.trans ((hBW.trans (da.mono hBW.size)).mono b5.size)⟩
set_option maxHeartbeats 4000000 in
theorem bytes_macff (n : NL) (hn : n.Ok) (hs : n.Small) (hk : n.k = 2) (A : n.h = false) (B : n.l2 = 0) (hc : n.chk = 0) (w : World) : Calls Try.prog 10 #[n.v] w fun r w' => ∃ v, r = .returned (.tuple #[v, .int .i64 0]) ∧ Dat w' v (2 :: 33 :: n.macV) ∧ Below w.heap.size w w' := by
  have hC := fun w => chk_mac n hk w
  rw [hc] at hC
  have hl := fun w => layout_is 2 w
  rw [show lay 2 = some 94 from rfl] at hl
  unfold layV at hl
  have hme : ∀ j w, Sem.run Try.prog (method (j + 1) 94 (.agg #[]) "leafmesh/nlri.write") w = .ok (121, .agg #[]) w := fun j w => by kernel_rfl
  have hcf : ∀ p x w, Sem.run Try.prog (callFunc 121 #[.agg #[], p, x]) w = .ok (.enter 121 #[.agg #[], p, x]) w := fun p x w => by kernel_rfl
  have HF := Lib.hid (fun (b : Nat) (W : WS) (w : World) (h : Wtr w b W) (q : W.xs.length + 33 ≤ W.lim) => macW n hn hs h (show W.xs.length + n.macV.length ≤ W.lim by rw [show n.macV.length = 33 by rw [macV_length]; simp [A, B]]; exact q))
  have hlen := (show n.macV.length = 33 by rw [macV_length]; simp [A, B])
  generalize hx : n.macV = V at hlen HF ⊢
  clear hc hx
  unfold NL.v at hC ⊢
  go_enter Try.func10, Try.ntmps10
  go_wp2_with (first
    | (refine at_box rfl _ rfl n rfl ?_; rintro w1 ⟨x1, k1, s1⟩)
    | (refine at_load rfl _ rfl w.heap.size rfl n x1 ?_)
    | (go_at_call 15; refine (hC w1).mono ?_; rintro e w2 ⟨rfl, k2⟩; have b2 := k1.trans (k2.mono k1.size); have x2 := x1.below k2 x1.lt; have c0 := Blk.cell x2 0 (v := .int .i64 n.k) rfl; clear k1 k2 x1 hC)
    | (go_at_call 29; refine (hl w2).mono ?_; rintro e w3 ⟨rfl, k3⟩; have b3 := b2.trans (k3.mono b2.size); have x3 := x2.below k3 x2.lt; clear c0 b2 k3 x2 hl))
  go_at_call 30
  refine (wr_New w3 40 (by decide)).mono ?_
  rintro e w4 ⟨b, rfl, m, W4, hbb, -, -, k4⟩
  have b4 := b3.trans (k4.mono b3.size)
  have x4 := x3.below k4 x3.lt
  have hB : w.heap.size ≤ b := Nat.le_trans b3.size hbb
  clear b3 x3 k4 hbb
  have hF := HF.out b _ w4 W4 (show [].length + 33 ≤ 40 by decide)
  clear HF
  go_wp2_with (first
    | (refine at_load rfl _ rfl w.heap.size rfl n x4 ?_)
    | (go_at_call 121; refine hF.mono ?_; rintro e w5 ⟨rfl, v5, S5⟩; clear hF))
  have x5 := S5.bx x4 W4.1 W4.2.1
  have b5 : Below w.heap.size w w5 := S5.base b4 hB (fun g hg => by simp [Value.ownBlock] at hg) b4.size
  have hwt5 : Wtr w5 b ⟨40, V, v5, m⟩ := S5.wtr
  have c0 := Blk.cell x5 0 (v := .int .i64 n.k) rfl
  rw [hk] at c0
  have SS := (St.start w5).cons w.heap.size 0 _ c0
  clear S5 b4 x4 W4 hme hcf c0 x5
  refine wp_region_sel SS [0, 1, 2, 3, 7] 7 rfl (by kernel_rfl) (by kernel_rfl) (by kernel_rfl) (by kernel_rfl) (fun _ d _ _ _ h => by cases d <;> exact h) ?_
  intro W SW kc hBW
  simp only [CellsAt, and_true] at kc
  simp only [pickOps, List.filterMap_cons, List.filterMap_nil, List.getElem?_cons_zero, List.getElem?_cons_succ, Option.map_some, List.map_cons, List.map_nil]
  repeat (go_big_quiet_step (fail))
  refine wpQuiet_nil ?_
  clear kc SW SS
  have hwt := hwt5.below hBW
  clear hwt5
  have hL := wr_Len W b _ hwt
  simp only [hlen] at hL
  refine wpAnyH_one (k := 4) (by kernel_rfl) rfl (fun K hQ => ?_)
  go_simp
  refine hL.mono ?_
  rintro r u0 ⟨rfl, hu⟩
  obtain rfl := hu.symm
  refine hQ _ _ (CB.refl _) ?_
  clear hQ K hL
  have d0 : Below W.heap.size W W := Below.refl _ _
  refine wpAnyH_two (j := 5) (k := 8) (by kernel_rfl) rfl rfl (fun K hQ => ?_) (fun K hQ => ?_)
  · go_simp
    refine hQ _ _ (CB.of_below d0) ?_
    clear hQ K
    refine wpAnyH_two (j := 6) (k := 8) (by kernel_rfl) rfl rfl (fun K hQ => ?_) (fun K hQ => ?_)
    · go_simp
      have hli := DatB.lit (B := W.heap.size) d0.size 2 33
      have dl := d0.alloc d0.size (.cells #[.int .u8 2, .int .u8 33] 5)
      refine hQ _ _ (CB.of_below dl) ?_
      clear hQ K
      refine wpAnyH_one (k := 8) (by kernel_rfl) rfl (fun K hQ => ?_)
      go_simp
      refine (wr_Out _ b _ (hwt.below dl)).mono ?_
      rintro r u2 ⟨vo, rfl, hvo, e2⟩
      have d2 := dl.trans (e2.mono dl.size)
      refine hQ _ _ (CB.of_below d2) ?_
      clear hQ K
      replace hli := hli.below e2
      obtain ⟨va, wa, hr, ha, hg⟩ := append_dat u2 23 W.heap.size _ _ _ _ hli hvo d2.size (by show 2 + V.length ≤ _; omega)
      have da : Below W.heap.size W wa := d2.grown hg d2.size (fun q hq => (World.ownsRow.lt hli q hq).1)
      have HR := Lib.hid hr
      clear hr
      refine wpAnyH_one (k := 9) (by kernel_rfl) rfl (fun K hQ => ?_)
      refine if_true_prop (by kernel_rfl) ?_
      refine Lib.wp_append_run _ _ _ 23 23 rfl _ _ rfl rfl _ _ HR.out ?_
      refine hQ _ _ (CB.of_below da) ?_
      clear hQ K
      refine wpAnyH_one (k := 10) (by kernel_rfl) rfl (fun K hQ => ?_)
      go_simp
      refine hQ _ _ (CB.of_below da) ?_
      clear hQ K
      refine wpAnyH_one (k := 11) (by kernel_rfl) rfl (fun K hQ => ?_)
      go_simp
      refine hQ _ _ (CB.of_below da) ?_
      clear hQ K
      refine wpAnyH_done (by kernel_rfl) ?_ 0
      clear HR hg
      go_wp2
      go_ret2
      exact ⟨va, rfl, ha.dat, b5.trans ((hBW.trans (da.mono hBW.size)).mono b5.size)⟩
    · go_simp
      refine (wr_Out _ b _ (hwt.below d0)).mono ?_
      rintro r u2 ⟨vo, rfl, hvo, e2⟩
      have d2 := d0.trans (e2.mono d0.size)
      refine hQ _ _ (CB.of_below d2) ?_
      clear hQ K
      refine wpAnyH_one (k := 6) (by kernel_rfl) rfl (fun K hQ => ?_)
      go_simp
      have hli := DatB.lit (B := W.heap.size) d2.size 2 33
      have dl := d2.alloc d2.size (.cells #[.int .u8 2, .int .u8 33] 5)
      refine hQ _ _ (CB.of_below dl) ?_
      clear hQ K
      replace hvo := hvo.below ((Below.refl _ _).alloc (Nat.le_refl _) (.cells #[.int .u8 2, .int .u8 33] 5))
      obtain ⟨va, wa, hr, ha, hg⟩ := append_dat _ 23 W.heap.size _ _ _ _ hli hvo dl.size (by show 2 + V.length ≤ _; omega)
      have da : Below W.heap.size W wa := dl.grown hg dl.size (fun q hq => (World.ownsRow.lt hli q hq).1)
      have HR := Lib.hid hr
      clear hr
      refine wpAnyH_one (k := 9) (by kernel_rfl) rfl (fun K hQ => ?_)
      refine if_true_prop (by kernel_rfl) ?_
      refine Lib.wp_append_run _ _ _ 23 23 rfl _ _ rfl rfl _ _ HR.out ?_
      refine hQ _ _ (CB.of_below da) ?_
      clear hQ K
      refine wpAnyH_one (k := 10) (by kernel_rfl) rfl (fun K hQ => ?_)
      go_simp
      refine hQ _ _ (CB.of_below da) ?_
      clear hQ K
      refine wpAnyH_one (k := 11) (by kernel_rfl) rfl (fun K hQ => ?_)
      go_simp
      refine hQ _ _ (CB.of_below da) ?_
      clear hQ K
      refine wpAnyH_done (by kernel_rfl) ?_ 0
      clear HR hg
      go_wp2
      go_ret2
      exact ⟨va, rfl, ha.dat, b5.trans ((hBW.trans (da.mono hBW.size)).mono b5.size)⟩
  · go_simp
    refine (wr_Out _ b _ (hwt.below d0)).mono ?_
    rintro r u2 ⟨vo, rfl, hvo, e2⟩
    have d2 := d0.trans (e2.mono d0.size)
    refine hQ _ _ (CB.of_below d2) ?_
    clear hQ K
    refine wpAnyH_one (k := 5) (by kernel_rfl) rfl (fun K hQ => ?_)
    go_simp
    refine hQ _ _ (CB.of_below d2) ?_
    clear hQ K
    refine wpAnyH_one (k := 6) (by kernel_rfl) rfl (fun K hQ => ?_)
    go_simp
    have hli := DatB.lit (B := W.heap.size) d2.size 2 33
    have dl := d2.alloc d2.size (.cells #[.int .u8 2, .int .u8 33] 5)
    refine hQ _ _ (CB.of_below dl) ?_
    clear hQ K
    replace hvo := hvo.below ((Below.refl _ _).alloc (Nat.le_refl _) (.cells #[.int .u8 2, .int .u8 33] 5))
    obtain ⟨va, wa, hr, ha, hg⟩ := append_dat _ 23 W.heap.size _ _ _ _ hli hvo dl.size (by show 2 + V.length ≤ _; omega)
    have da : Below W.heap.size W wa := dl.grown hg dl.size (fun q hq => (World.ownsRow.lt hli q hq).1)
    have HR := Lib.hid hr
    clear hr
    refine wpAnyH_one (k := 9) (by kernel_rfl) rfl (fun K hQ => ?_)
    refine if_true_prop (by kernel_rfl) ?_
    refine Lib.wp_append_run _ _ _ 23 23 rfl _ _ rfl rfl _ _ HR.out ?_
    refine hQ _ _ (CB.of_below da) ?_
    clear hQ K
    refine wpAnyH_one (k := 10) (by kernel_rfl) rfl (fun K hQ => ?_)
    go_simp
    refine hQ _ _ (CB.of_below da) ?_
    clear hQ K
    refine wpAnyH_one (k := 11) (by kernel_rfl) rfl (fun K hQ => ?_)
    go_simp
    refine hQ _ _ (CB.of_below da) ?_
    clear hQ K
    refine wpAnyH_done (by kernel_rfl) ?_ 0
    clear HR hg
    go_wp2
    go_ret2
    exact ⟨va, rfl, ha.dat, b5.trans ((hBW.trans (da.mono hBW.size)).mono b5.size)⟩
end Go.Proofs.Ytejcclcckgdbgaa
