/- The reference's writer: a new one, marks; the program's writer: bytes, and where there is no room. No condition. -/
import Derived.Test.YtailaenkmknpiaaRPu
import Derived.Test.YtailaenkmknpiaaWPt
import Derived.Laws.CopyRow
import Derived.Laws.IdiomCopy
namespace Go.Proofs.Ytailaenkmknpiaa
open Go.RowKit Go.Sort
set_option linter.unusedVariables false
set_option linter.unusedSimpArgs false
set_option maxRecDepth 100000

theorem wpList_copy_run {P : Program} {ops : Array Oper} {rest : List Oper} {o : Oper} {a : Act} {w w' : World} {Q : Exit → Act → World → Prop} (hgd : o.guard = none) (d s : Operand) (t u : TypeId) (ho : o.op = .call { callee := .builtin .copy, args := #[d, s], argTypes := #[t, u] })
    (x y v : Value) (hd : a.eval d = x) (hs : a.eval s = y) (hr : (Builtin.copy_ #[t, u] o.type #[x, y]).run P w = .ok v w') (h : wpList P ops Q rest (a.put o.dst v) w') : wpList P ops Q (o :: rest) a w :=
  wpList_plain hgd fun _ hK => by
    unfold Oper.wp
    simp [execOp, ho, resolve, invoke, builtin, hd, hs, hr, Result.andThen]
    exact hK _ _ h
theorem rw_New_bad (w : World) (l : Int) (h : l < 0 ∨ 65536 < l) : Calls Try.prog 8 #[.int .i64 l] w fun e w' => e = .returned (.tuple #[.pointer none, .int .i64 2]) ∧ w' = w := by
  by_cases h0 : l < 0
  · have b0 : decide (l < 0) = true := by simpa using h0
    go_enter Try.func8, Try.ntmps8
    go_wp2
    go_ret2
    exact ⟨rfl, rfl⟩
  · have b0 : decide (l < 0) = false := by simpa using h0
    have b1 : decide (65536 < l) = true := by simp; omega
    go_enter Try.func8, Try.ntmps8
    go_wp2
    go_ret2
    exact ⟨rfl, rfl⟩
theorem wr_New_bad (w : World) (l : Int) (h : l < 0 ∨ 65536 < l) : Calls Try.prog 7 #[.int .i64 l] w fun e w' => e = .returned (.tuple #[.pointer none, .int .i64 2]) ∧ w' = w := by
  by_cases h0 : l < 0
  · have b0 : decide (l < 0) = true := by simpa using h0
    go_enter Try.func7, Try.ntmps7
    go_wp2
    go_ret2
    exact ⟨rfl, rfl⟩
  · have b0 : decide (l < 0) = false := by simpa using h0
    have b1 : decide (65536 < l) = true := by simp; omega
    go_enter Try.func7, Try.ntmps7
    go_wp2
    go_ret2
    exact ⟨rfl, rfl⟩
theorem rw_New (w : World) (l : Nat) (hl : l ≤ 65536) : Calls Try.prog 8 #[.int .i64 l] w fun e w' => ∃ b, e = .returned (.tuple #[.pointer (some ⟨b, 0, none⟩), .int .i64 0]) ∧ Rwt w' b ⟨l, [], .slice none 0 0, [], .slice none 0 0⟩ ∧ w.heap.size ≤ b ∧ Below w.heap.size w w' := by
  have h1 : ¬ (l : Int) < 0 := by omega
  have h2 : ¬ (65536 : Int) < l := by omega
  go_enter Try.func8, Try.ntmps8
  go_wp2
  go_ret2
  have hb := Blk.new w 49 [.slice none 0 0, .int .i64 l, .slice none 0 0]
  exact ⟨w.heap.size, rfl, ⟨⟨hb, World.ownsRow_nil _ _ _ _, World.ownsRow_nil _ _ _ _⟩, fun x hx => absurd hx (by simp), Nat.zero_le _, hl⟩, Nat.le_refl _, (Below.refl _ _).alloc (Nat.le_refl _) _⟩
/-- Behind a mark that was noted. -/
theorem Rwt.note {w w1 : World} {b : Nat} {W : WR} {l : List Int} {v' : Value} (h : Rwt w b W) (hg : w.grownBy w1 W.vm.ownBlock) (hd : IRow (b + 1) w1 v' l) :
    Blk w1 b 49 W.cells ∧ Rwt (w1.setCell ⟨b, 2, none⟩ v') b { W with ms := l, vm := v' } ∧ ButR b W.v W.vm w (w1.setCell ⟨b, 2, none⟩ v') := by
  obtain ⟨⟨hb, hv, hvm⟩, o1, l1, l2⟩ := h
  have hb1 : Blk w1 b 49 W.cells := (hg.block b hb.lt (fun e => by
    have := (World.ownsRow.lt hvm b e.symm).1
    omega)).trans hb
  have hv1 : DatB (b + 1) w1 W.v W.xs := hv.other hg fun g e => (rows_ne hv hvm).1 g e
  have gs := grown_cell (w := w1) (b := b) (t := 0) (cs := []) 2 v'
  refine ⟨hb1, ⟨⟨hb1.set 2 v', hv1.other gs fun g e q => ?_, hd.other gs fun g e q => ?_⟩, o1, l1, l2⟩, ⟨hg.os, hg.tape, hg.output, by simpa [World.setCell] using hg.size, fun k hk h1 h2 h3 => (gs.block k (Nat.lt_of_lt_of_le hk hg.size) (fun e => h1 (Option.some.inj e))).trans (hg.block k hk h3)⟩⟩
  · have := (World.ownsRow.lt hv1 g e).1
    have : g = b := Option.some.inj q
    omega
  · have := (World.ownsRow.lt hd g e).1
    have : g = b := Option.some.inj q
    omega
set_option maxHeartbeats 1000000 in
theorem rw_Mark_full (w : World) (b : Nat) (W : WR) (h : Rwt w b W) (hf : W.lim < W.xs.length + 2) : Calls Try.prog 17 #[.pointer (some ⟨b, 0, none⟩)] w fun e w' => e = .returned (.tuple #[.int .i64 0, .int .i64 7]) ∧ Below w.heap.size w w' := by
  have hp := rw_Put w b W 2 0 h (by decide) (by decide)
  rw [if_neg (by decide), if_pos hf] at hp
  obtain ⟨⟨hb, hv, hvm⟩, o1, l1, l2⟩ := h
  obtain ⟨av, cv, hve⟩ := hv.dat.shape
  have c0 := hb.cell 0 (v := W.v) rfl
  rw [hve] at c0
  clear hb hv hvm hve
  go_enter Try.func17, Try.ntmps17
  go_wp2_with fail
  go_at_call 11
  refine hp.mono ?_
  rintro e w1 ⟨rfl, q⟩
  rcases q with ⟨-, k1⟩ | ⟨q, -⟩
  · go_wp2
    go_ret2
    exact ⟨rfl, k1⟩
  · exact absurd q (by decide)
set_option maxHeartbeats 1000000 in
theorem rw_Mark (w : World) (b : Nat) (W : WR) (h : Rwt w b W) (hf : W.xs.length + 2 ≤ W.lim) (hm : W.ms.length ≤ 1000) : Calls Try.prog 17 #[.pointer (some ⟨b, 0, none⟩)] w fun e w' => e = .returned (.tuple #[.int .i64 W.xs.length, .int .i64 0]) ∧ ∃ v' vm', Rwt w' b { W with xs := W.xs ++ [0, 0], v := v', ms := W.ms ++ [(W.xs.length : Int)], vm := vm' } ∧ ButR b W.v W.vm w w' ∧ Moved w W.v v' ∧ Moved w W.vm vm' := by
  have hp := rw_Put w b W 2 0 h (by decide) (by decide)
  rw [if_neg (by decide), if_neg (by omega), show enc 2 0 = [0, 0] by decide] at hp
  have h0 := h
  obtain ⟨⟨hb, hv, hvm⟩, o1, l1, l2⟩ := h
  obtain ⟨av, cv, hve⟩ := hv.dat.shape
  obtain ⟨am, cm, hme⟩ := hvm.shape
  have c0 := hb.cell 0 (v := W.v) rfl
  rw [hve] at c0
  clear hb hv hvm
  obtain ⟨lim, xs, v, ms, vm⟩ := W
  dsimp only at *
  subst hve hme
  go_enter Try.func17, Try.ntmps17
  go_wp2_with fail
  go_at_call 11
  refine hp.mono ?_
  rintro e w1 ⟨rfl, q⟩
  rcases q with ⟨q, -⟩ | ⟨-, v1, h1, k1, m1⟩
  · exact absurd rfl q
  · clear hp c0
    have al : Below w1.heap.size w1 (w1.alloc (.cells #[.int .i64 xs.length] 3)) := (Below.refl _ _).alloc (Nat.le_refl _) _
    have h2 := h1.below al
    obtain ⟨vm', w3, hr, hd, hg, hmv⟩ := append_ints (w1.alloc (.cells #[.int .i64 xs.length] 3)) 39 (b + 1) _ ms [(xs.length : Int)] ⟨w1.heap.size, 0, none⟩ 1 h2.1.2.2 (fun j u hu => by
      match j, hu with
      | 0, hu =>
        rw [add_is, ← hu]
        exact (Blk.new w1 3 [.int .i64 xs.length]).cell 0 rfl) h2.1.1.lt (by simp; omega)
    obtain ⟨g1, g2, g3⟩ := h2.note hg hd
    have c2 := h1.1.1.cell 2 (v := .slice am ms.length cm) rfl
    have d2 := g1.cell 2 (v := .slice am ms.length cm) rfl
    have f2 := g1.frozen 2
    obtain ⟨a', n', c', rfl⟩ : ∃ a n c, vm' = .slice a n c := by obtain ⟨a, c, e⟩ := hd.shape; exact ⟨a, _, c, e⟩
    have al2 : ButR b v1 (.slice am ms.length cm) w1 (w1.alloc (.cells #[.int .i64 xs.length] 3)) := .of_below al
    have kk := k1.trans (al2.trans ⟨g3.os, g3.tape, g3.output, g3.size, g3.block⟩ (Moved.refl _ _) (Moved.refl _ _)) m1 (Moved.refl _ _)
    have mm : Moved w (.slice am ms.length cm) (.slice a' n' c') := hmv.imp id fun q g hg => Nat.le_trans (Nat.le_trans k1.size al.size) (q g hg)
    clear hg hd g1 h2 al al2 g3 hmv
    go_wp2_with (at_builtin; refine Lib.wpList_append_run _ rfl _ _ 39 39 rfl _ _ rfl rfl _ _ hr ?_)
    go_ret2
    exact ⟨rfl, v1, _, g2, kk, m1, mm⟩

/-- The program's writer: no room. -/
theorem wr_Mark_full (w : World) (b : Nat) (W : WS) (h : Wtr w b W) (hf : W.lim < W.xs.length + 2) : Calls Try.prog 16 #[.pointer (some ⟨b, 0, none⟩)] w fun e w' => e = .returned (.tuple #[.int .i64 0, .int .i64 7]) ∧ w' = w := by
  have hlen := wr_Len w b W h
  have hx := wr_extend_full w b W 2 h hf (by decide)
  go_enter Try.func16, Try.ntmps16
  go_wp2_with (go_at_call 21; refine hlen.mono ?_; rintro e w' ⟨rfl, hw⟩; obtain rfl := hw.symm)
  go_at_call 45
  refine hx.mono ?_
  rintro e w' ⟨rfl, hw⟩
  obtain rfl := hw.symm
  go_wp2
  go_ret2
  exact ⟨rfl, rfl⟩
theorem copy_nil (w : World) (ty : TypeId) (d a : Option Addr) (dc n c : Nat) : (Builtin.copy_ #[33, 33] ty #[.slice d 0 dc, .slice a n c]).run Try.prog w = .ok (.int .i64 0) w := by
  have hi : (Try.prog.info? 5).map (·.size) = some 1 := by kernel_rfl
  exact run_copy_none w _ _ ty 5 d a 0 dc n c Try.underlying33 hi (by simp)
/-- Its bytes. -/
theorem wr_Bytes_full (w : World) (b : Nat) (W : WS) (u : Value) (ys : List Int) (h : Wtr w b W) (hu : Seg w u ys) (hf : W.lim < W.xs.length + ys.length) (hl : ys.length ≤ 1000000) :
    Calls Try.prog 13 #[.pointer (some ⟨b, 0, none⟩), u] w fun e w' => e = .returned (.int .i64 7) ∧ w' = w := by
  have hx := wr_extend_full w b W ys.length h hf (by omega)
  obtain ⟨a, c, rfl, -, -⟩ := hu
  have hc := copy_nil w 3 none a 0 ys.length c
  go_enter Try.func13, Try.ntmps13
  go_wp2_with fail
  go_at_call 45
  refine hx.mono ?_
  rintro e w' ⟨rfl, hw⟩
  obtain rfl := hw.symm
  go_wp2_with (at_builtin; refine wpList_copy_run rfl _ _ 33 33 rfl _ _ _ rfl rfl hc ?_)
  go_ret
  exact ⟨rfl, rfl⟩
theorem wr_Bytes (w : World) (b : Nat) (W : WS) (u : Value) (ys : List Int) (h : Wtr w b W) (hu : Dat w u ys) (ho : Oct ys) (hne : ∀ g, u.ownBlock = some g → some g ≠ W.v.ownBlock) (hf : W.xs.length + ys.length ≤ W.lim) :
    Calls Try.prog 13 #[.pointer (some ⟨b, 0, none⟩), u] w fun e w' => e = .returned (.int .i64 0) ∧ ∃ v', Wtr w' b { W with xs := W.xs ++ ys, v := v' } ∧ ButW b W.v w w' ∧ Moved w W.v v' := by
  have h0 := h
  have hx := wr_extend w b W ys.length h hf
  obtain ⟨a, c, hue⟩ := hu.shape
  obtain ⟨hb, hd, ow, l1, l2⟩ := h
  obtain ⟨lim, xs, v, mb⟩ := W
  dsimp only at *
  go_enter Try.func13, Try.ntmps13
  subst hue
  go_wp2_with fail
  go_at_call 45
  refine hx.mono ?_
  rintro e w1 ⟨v', rfl, hb1, hd1, hbut, hnew⟩
  have hu1 : Dat w1 (.slice a ys.length c) ys := by
    rcases hu.form with ⟨e, e'⟩ | ⟨g, cap, cs, e, x1, x2, x3, x4, x5⟩
    · rw [e, e']
      exact Dat.nil _
    · rw [e]
      refine Dat.mk x1 x2 ((hbut.block g x3.lt (fun q => x3.ne hb (by decide) q) (hne g (by rw [e]; rfl))).trans x3) x4 x5
  have hoo : Oct (xs ++ ys) := fun x hx => by
    rcases List.mem_append.1 hx with q | q
    · exact ow x q
    · exact ho x q
  clear hx hu
  by_cases hy : 0 < ys.length
  · obtain ⟨g, cap, cs, hv', ht, hcap, hmx, hg, hcl, hct⟩ := tail_form hd1 hy
    rw [ht]
    have hi : (Try.prog.info? 5).map (·.size) = some 1 := by kernel_rfl
    obtain ⟨gu, cu, csu, eu, y1, y2, y3, y4, y5⟩ : ∃ g cap cs, Value.slice a ys.length c = .slice (some ⟨g, 0, none⟩) ys.length cap ∧ ys.length ≤ cap ∧ cap ≤ maxLen ∧ Blk w1 g 5 cs ∧ cs.length = cap ∧ cs.take ys.length = ys.map (Value.int .u8) := by
      rcases hu1.form with ⟨-, e'⟩ | q
      · rw [e'] at hy
        simp at hy
      · exact q
    cases eu
    have hr := run_copy_row Try.prog w1 33 33 3 5 g xs.length ys.length (cap - xs.length) ⟨gu, 0, none⟩ ys.length c cs.toArray 5 (ys.map (Value.int .u8)) Try.underlying33 hi hg (by rw [List.length_map]; exact (Nat.min_self _).symm)
      (fun j u hu => by
        have hj : j < ys.length := by
          rcases Nat.lt_or_ge j ys.length with q | q
          · exact q
          · rw [List.getElem?_eq_none (by simpa using q)] at hu; cases hu
        rw [add_is, Nat.zero_add, y3.cell j (take_at y5 j hj), ← hu, List.getElem?_map]
        simp [List.getD_eq_getElem?_getD, hj]) (by rw [List.length_map]; simpa [hcl] using hcap) (fun u hu => by
        obtain ⟨z, -, rfl⟩ := List.mem_map.1 hu
        rfl)
    generalize hw2 : w1.setRow g _ = w2 at hr
    have hg2 := setRow_heap w1 g cs.toArray (cs.toArray.toList.take xs.length ++ ys.map (Value.int .u8) ++ cs.toArray.toList.drop (xs.length + (ys.map (Value.int .u8)).length)).toArray _ _ hg
    rw [hw2] at hg2
    have hoth : ∀ k, k ≠ g → w2.heap[k]? = w1.heap[k]? := fun k hk => by rw [← hw2]; exact setRow_other w1 g k _ hk
    have hsz : w2.heap.size = w1.heap.size := by rw [← hw2]; simp [World.setRow]
    have hos : w2.os = w1.os ∧ w2.tape = w1.tape ∧ w2.output = w1.output := by rw [← hw2]; exact ⟨rfl, rfl, rfl⟩
    clear hw2
    have hbg : b ≠ g := hb1.ne hg (by decide)
    have hd2 : Dat w2 v' (xs ++ ys) := by
      rw [hv']
      refine Dat.of (cs := cs.take xs.length ++ ys.map (Value.int .u8) ++ cs.drop (xs.length + ys.length)) (by rw [List.length_append]) hcap hmx (by unfold Blk; simpa using hg2) (by simp; omega) ?_
      rw [hct, List.take_append_of_le_length (by simp), List.take_of_length_le (by simp)]
      simp
    have hW2 : Wtr w2 b ⟨lim, xs ++ ys, v', mb⟩ := ⟨(hoth b hbg).trans hb1, hd2, hoo, by show (xs ++ ys).length ≤ lim; rw [List.length_append]; exact hf, l2⟩
    have hB2 : ButW b v w w2 := ⟨hos.1.trans hbut.os, hos.2.1.trans hbut.tape, hos.2.2.trans hbut.output, by rw [hsz]; exact hbut.size, fun k hk h1 h2 => (hoth k (fun e => by
      subst e
      rcases hnew with q | q
      · rw [hv'] at q
        exact h2 q
      · have := q k (by rw [hv']; rfl)
        omega)).trans (hbut.block k hk h1 h2)⟩
    go_wp2_with (at_builtin; refine wpList_copy_run rfl _ _ 33 33 rfl _ _ _ rfl rfl hr ?_)
    go_ret
    exact ⟨rfl, v', hW2, hB2, hnew⟩
  · have hy0 : ys = [] := List.length_eq_zero_iff.1 (by omega)
    subst hy0
    obtain ⟨ta, tl, tc, ht, htl⟩ : ∃ a n c, tail v' xs.length = .slice a n c ∧ n = 0 := by
      obtain ⟨a', c', e, -⟩ := hd1.seg
      rw [e]
      exact ⟨_, _, _, rfl, by simp⟩
    rw [ht]
    subst htl
    have hc := copy_nil w1 3 ta a tc 0 c
    have hW2 : Wtr w1 b ⟨lim, xs ++ [], v', mb⟩ := ⟨hb1, by simpa using hd1, hoo, by simpa using l1, l2⟩
    go_wp2_with (at_builtin; refine wpList_copy_run rfl _ _ 33 33 rfl _ _ _ rfl rfl hc ?_)
    go_ret
    exact ⟨rfl, v', hW2, hbut, hnew⟩
end Go.Proofs.Ytailaenkmknpiaa
