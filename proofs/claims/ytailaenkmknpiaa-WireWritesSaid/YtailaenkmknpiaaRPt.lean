/- The reference's writer: patching. No condition. -/
import Derived.Test.YtailaenkmknpiaaRMk
namespace Go.Proofs.Ytailaenkmknpiaa
open Go.RowKit Go.Sort
set_option linter.unusedVariables false
set_option linter.unusedSimpArgs false
set_option maxRecDepth 100000

structure Same1 (b : Nat) (W : World) where
  w : World
  h : w.heap[b]? = W.heap[b]?
instance (b : Nat) (W : World) : Inhabited (Same1 b W) := ⟨⟨W, rfl⟩⟩
/-- A region that draws its order: chosen operations that look at no memory, or at block b, are taken first. -/
theorem wp_region_selG {P : Program} {id : Nat} {Q : Exit → Act → World → Prop} {a : Act} {w : World} {l : List Oper} (b : Nat) (ks : List Nat) (g : Nat) (hn : g + (pickOps l ks).length = l.toArray.size) (hm : P.follows .mixedOrders = true) (hs : Region.noSelect l.toArray = true)
    (hp : ((pickOps l ks).all fun x => plainOp x.2.op) = true) (hB : lexSel l.toArray (pickOps l ks) (Array.replicate l.toArray.size false) = true) (hQ : ∀ c d v a w, Q (.panic c) (a.put d v) w → Q (.panic c) a w)
    (h : ∀ W, W = w.drew → wpQuiet P l.toArray (fun w' => ∃ q : Same1 b W, w' = q.w) (fun a' => wpAnyH P .any l.toArray Q (fun w' => ∃ q : Same1 b W, w' = q.w) g (listedSel (pickOps l ks) (Array.replicate l.toArray.size false)) a' W) ((pickOps l ks).map (·.2)) a) : (Code.region id l.toArray true).wp P Q a w := by
  refine wp_region_held (S := fun w' => ∃ q : Same1 b w.drew, w' = q.w) hm ?_
  have H := wpAnyH_sel (S := fun w' => ∃ q : Same1 b w.drew, w' = q.w) (g := g) (w := w.drew) hs hQ ⟨⟨_, rfl⟩, rfl⟩ (pickOps l ks) (Array.replicate l.toArray.size false) a (pickOps_ok l ks) hp hB (h w.drew rfl)
  rw [hn] at H
  exact H
theorem IRow.form {B : Nat} {w : World} {v : Value} {l : List Int} (h : IRow B w v l) (h0 : 0 < l.length) : ∃ g cap, v = .slice (some ⟨g, 0, none⟩) l.length cap ∧ l.length ≤ cap ∧ B ≤ g ∧ (∃ cs, Blk w g 3 cs) ∧ ∀ j, j < l.length → w.cell? ⟨g, j, none⟩ = some (.int .i64 (l.getD j 0)) := by
  have h' := h
  obtain ⟨h1, ⟨hv, hn⟩ | ⟨g, cap, cur, hv, hb, hg, hc, hm, hcs, ht⟩⟩ := h
  · omega
  · refine ⟨g, cap, hv, hc, hb, ⟨cur.toList, by unfold Blk; simpa using hg⟩, fun j hj => ?_⟩
    subst hv
    have := World.ownsRow.cellAt h' j (by omega)
    rw [this, List.getElem?_map, List.getD_eq_getElem?_getD, List.getElem?_eq_getElem hj]
    rfl
set_option maxHeartbeats 1000000 in
theorem rw_Patch_no (w : World) (b : Nat) (W : WR) (x : Int) (h : Rwt w b W) (hno : x ∉ W.ms) (hm : W.ms.length ≤ 1000) : Calls Try.prog 19 #[.pointer (some ⟨b, 0, none⟩), .int .i64 x] w fun e w' => e = .returned (.int .i64 16) ∧ w' = w := by
  obtain ⟨⟨hb, hv, hvm⟩, o1, l1, l2⟩ := h
  obtain ⟨am, cm, hme⟩ := hvm.shape
  have c2 := hb.cell 2 (v := W.vm) rfl
  have hcell : ∀ j, j < W.ms.length → ∃ g, am = some ⟨g, 0, none⟩ ∧ w.cell? ⟨g, j, none⟩ = some (.int .i64 (W.ms.getD j 0)) := fun j hj => by
    obtain ⟨g, cap, e, -, -, -, hc⟩ := hvm.form (by omega)
    rw [hme] at e
    cases e
    exact ⟨g, rfl, hc j hj⟩
  have hne : ∀ j, j < W.ms.length → (W.ms.getD j 0 != x) = true := fun j hj => by
    have : W.ms.getD j 0 ∈ W.ms := by
      rw [List.getD_eq_getElem?_getD, List.getElem?_eq_getElem hj]
      exact List.getElem_mem hj
    simpa using fun e : W.ms.getD j 0 = x => hno (e ▸ this)
  rw [hme] at c2
  generalize W.ms = ms at c2 hcell hne hm
  clear hb hv hvm hme
  go_enter Try.func19, Try.ntmps19
  go_wp2_with fail
  go_loop [5] (fun vi => ∃ j : Nat, j ≤ ms.length ∧ vi = .int .i64 j) (fun vi => ms.length - (intOf vi).toNat)
  case atStart => exact ⟨0, Nat.zero_le _, rfl⟩
  case round =>
    obtain ⟨j, hj, rfl⟩ := hrel
    by_cases hlt : j < ms.length
    · obtain ⟨g, rfl, hc⟩ := hcell j hlt
      have hn := hne j hlt
      have hl : (j : Int) < ms.length := by omega
      generalize ms.getD j 0 = y at hc hn
      clear hcell hne
      go_wp2
      exact ⟨⟨j + 1, hlt, rfl⟩, by simp [intOf]; omega⟩
    · obtain rfl : j = ms.length := by omega
      clear hcell hne
      go_wp2
      go_ret
      exact ⟨rfl, rfl⟩
theorem patched_is (cs : List Value) (n m : Nat) (h : n + 2 ≤ cs.length) : ((cs.set n (.int .u8 ((m / 256 % 256 : Nat) : Int))).set (n + 1) (.int .u8 ((m % 256 : Nat) : Int))) = mid cs n 2 2 m := by
  have s1 := mid_step cs n 2 0 m h (by decide)
  have s2 := mid_step cs n 2 1 m h (by decide)
  rw [mid_zero] at s1
  rw [← s1] at s2
  rw [← s2, List.set_comm _ _ (show n ≠ n + 1 by omega)]
  simp
theorem slice_op {P : Program} (w : World) {o : Oper} {a : Act} (t : TypeId) (x : Operand) (lo hi : Option Operand) (ho : o.op = .slice t x lo hi none) (ht : P.underlying t = some (.slice (P.elem t))) (v r : Value) (l h : Option Value) (hx : a.eval x = v) (hl : lo.map a.eval = l) (hh : hi.map a.eval = h)
    (hr : ∀ w, (Instr.slice t v l h none).run P w = .ok r w) : (execOp a.eval o).run P w = .ok (.value r) w := by
  unfold execOp
  simp only [ho, hx, hl, hh, Option.map_none, Sem.run_bind, run_sliceAt_slice _ _ _ _ _ _ ht, hr, Sem.run_pure, Result.andThen_ok]
theorem elem_ints : Try.prog.elem 39 = 3 := by kernel_rfl
theorem ints_under : Try.prog.underlying 39 = some (.slice (Try.prog.elem 39)) := by rw [elem_ints]; exact Try.underlying39
theorem IRow.lower {B C : Nat} {w : World} {v : Value} {l : List Int} (h : IRow B w v l) (k : C ≤ B) : IRow C w v l := by
  obtain ⟨h1, ⟨hv, hn⟩ | ⟨g, cap, cur, hv, hb, r⟩⟩ := h
  · exact ⟨h1, .inl ⟨hv, hn⟩⟩
  · exact ⟨h1, .inr ⟨g, cap, cur, hv, Nat.le_trans k hb, r⟩⟩
/-- A mark taken out: the two slices, the two appends, the store. -/
theorem cut_mark (w : World) (b : Nat) (W : WR) (j : Nat) (h : Rwt w b W) (hj : j < W.ms.length) (hm : W.ms.length ≤ 1000) :
    ∃ s7 s15 vA vB w2 w3, (∀ w', (Instr.slice 39 W.vm none (some (.int .i64 j)) none).run Try.prog w' = .ok s7 w') ∧ (∀ w', (Instr.slice 39 W.vm (some (.int .i64 (j + 1 : Int))) none none).run Try.prog w' = .ok s15 w') ∧
      (Builtin.append_ #[39, 39] 39 #[.slice (some ⟨w.heap.size, 0, none⟩) 0 0, s7]).run Try.prog (w.alloc (.cells #[] 3)) = .ok vA w2 ∧ (Builtin.append_ #[39, 39] 39 #[vA, s15]).run Try.prog w2 = .ok vB w3 ∧
      Rwt (w.alloc (.cells #[] 3)) b W ∧ Rwt w2 b W ∧ Rwt w3 b W ∧ Rwt (w3.setCell ⟨b, 2, none⟩ vB) b { W with ms := W.ms.take j ++ W.ms.drop (j + 1), vm := vB } ∧ ButR b W.v W.vm w (w3.setCell ⟨b, 2, none⟩ vB) ∧ Moved w W.vm vB := by
  obtain ⟨gm, cm, hme, hcm, hgm, ⟨cms, hbm⟩, hcell⟩ := h.1.2.2.form (by omega)
  have hlt := hbm.lt
  have es : ∀ W, (sizeOf (Try.prog.elem 39)).run Try.prog W = .ok 1 W := fun W => by rw [elem_ints]; exact Try.sizeOf3 W
  have k1 : Below w.heap.size w (w.alloc (.cells #[] 3)) := (Below.refl _ _).alloc (Nat.le_refl _) _
  have r0 : IRow w.heap.size (w.alloc (.cells #[] 3)) (.slice (some ⟨w.heap.size, 0, none⟩) 0 0) [] := World.ownsRow_lit w #[] 0 (Nat.le_refl _) (by decide) rfl
  have ltk : (W.ms.take j).length = j := by rw [List.length_take]; omega
  obtain ⟨vA, w2, hr1, rA, gA, -⟩ := append_ints (w.alloc (.cells #[] 3)) 39 w.heap.size _ [] (W.ms.take j) ⟨gm, 0, none⟩ cm r0 (fun i u hu => by
    have hi : i < j := by
      rcases Nat.lt_or_ge i j with q | q
      · exact q
      · rw [List.getElem?_eq_none (by simp; omega)] at hu
        cases hu
    rw [add_is, Nat.zero_add, World.cell?_of_block (w := w) (a := ⟨gm, i, none⟩) (k1.block gm hlt), hcell i (by omega), ← hu, List.getElem?_map, List.getElem?_take_of_lt hi, List.getD_eq_getElem?_getD, List.getElem?_eq_getElem (by omega)]
    rfl) k1.size (by simp; omega)
  have k2 : Below w.heap.size w w2 := k1.grown gA k1.size fun k hk => by
    have := Option.some.inj hk
    simp at this
    omega
  obtain ⟨ad, had⟩ : ∃ ad : Addr, ad = if cm = j + 1 then ⟨gm, 0, none⟩ else ⟨gm, j + 1, none⟩ := ⟨_, rfl⟩
  have hdl : (W.ms.drop (j + 1)).length = W.ms.length - (j + 1) := List.length_drop
  obtain ⟨vB, w3, hr2, rB, gB, -⟩ := append_ints w2 39 w.heap.size vA ([] ++ W.ms.take j) (W.ms.drop (j + 1)) ad (cm - (j + 1)) rA (fun i u hu => by
    have hi : i < W.ms.length - (j + 1) := by
      rcases Nat.lt_or_ge i (W.ms.length - (j + 1)) with q | q
      · exact q
      · rw [List.getElem?_eq_none (by simp; omega)] at hu
        cases hu
    rw [had, if_neg (by omega), add_is, World.cell?_of_block (w := w) (a := ⟨gm, j + 1 + i, none⟩) (k2.block gm hlt), hcell (j + 1 + i) (by omega), ← hu, List.getElem?_map, List.getElem?_drop, List.getD_eq_getElem?_getD, List.getElem?_eq_getElem (by omega)]
    rfl) k2.size (by simp; omega)
  have k3 : Below w.heap.size w w3 := k2.grown gB k2.size fun k hk => (World.ownsRow.lt rA k hk).1
  have R3 := h.below k3
  obtain ⟨g1, g2, g3⟩ := R3.note (w1 := w3) ⟨rfl, rfl, rfl, Nat.le_refl _, fun _ _ _ => rfl⟩ (rB.lower h.1.1.lt)
  refine ⟨.slice (some ⟨gm, 0, none⟩) j cm, .slice (some ad) (W.ms.length - (j + 1)) (cm - (j + 1)), vA, vB, w2, w3, fun w' => ?_, fun w' => ?_, ?_, ?_, h.below k1, h.below k2, R3, by simpa using g2, (ButR.of_below k3).trans ⟨g3.os, g3.tape, g3.output, g3.size, g3.block⟩ (Moved.refl _ _) (Moved.refl _ _), .inr fun g hg => (World.ownsRow.lt rB g hg).1⟩
  · rw [hme, run_slice_h w' _ _ _ _ ints_under .i64 _ (by omega) (by omega), es]
    simp [sliced, Result.andThen, Addr.add]
  · rw [hme, run_slice_l w' _ _ _ _ ints_under .i64 _ (by omega) (by omega), es]
    have e : ((j : Int) + 1).toNat = j + 1 := by omega
    simp only [Result.andThen, sliced, e, had]
    split <;> simp [Addr.add]
  · rw [ltk] at hr1
    exact hr1
  · rw [hdl] at hr2
    exact hr2
/-- The two octets of a mark, stored. -/
theorem patch_row (w : World) (b : Nat) (W : WR) (gv cv at_ L : Nat) (csv : List Value) (h : Rwt w b W) (hv : W.v = .slice (some ⟨gv, 0, none⟩) W.xs.length cv) (v1 : W.xs.length ≤ cv) (v2 : cv ≤ maxLen) (hb : Blk w gv 5 csv) (v3 : csv.length = cv) (v4 : csv.take W.xs.length = W.xs.map (Value.int .u8)) (hn : at_ + 2 ≤ W.xs.length) (hL : L = W.xs.length - at_ - 2) (hL2 : L ≤ 65535) :
    Rwt ((w.setCell ⟨gv, at_, none⟩ (.int .u8 ((L : Int) / 256))).setCell ⟨gv, at_ + 1, none⟩ (.int .u8 ((L : Int) % 256))) b { W with xs := patched W.xs at_ } ∧ ButR b W.v W.vm w ((w.setCell ⟨gv, at_, none⟩ (.int .u8 ((L : Int) / 256))).setCell ⟨gv, at_ + 1, none⟩ (.int .u8 ((L : Int) % 256))) := by
  obtain ⟨⟨hB, hd, hm⟩, o1, l1, l2⟩ := h
  have BV2 := (hb.set at_ (.int .u8 ((L : Int) / 256))).set (at_ + 1) (.int .u8 ((L : Int) % 256))
  have hp := patched_is csv at_ L (by omega)
  rw [show ((L / 256 % 256 : Nat) : Int) = (L : Int) / 256 by omega, show ((L % 256 : Nat) : Int) = (L : Int) % 256 by omega] at hp
  rw [hp] at BV2
  have hk : ∀ k, k ≠ gv → ((w.setCell ⟨gv, at_, none⟩ (.int .u8 ((L : Int) / 256))).setCell ⟨gv, at_ + 1, none⟩ (.int .u8 ((L : Int) % 256))).heap[k]? = w.heap[k]? := fun k hk => by
    simp [World.setCell, Array.getElem?_modify, show ¬ gv = k from fun e => hk e.symm]
  have hbg : b ≠ gv := hB.ne hb (by decide)
  have hsz : ((w.setCell ⟨gv, at_, none⟩ (.int .u8 ((L : Int) / 256))).setCell ⟨gv, at_ + 1, none⟩ (.int .u8 ((L : Int) % 256))).heap.size = w.heap.size := by simp [World.setCell]
  have hos : ((w.setCell ⟨gv, at_, none⟩ (.int .u8 ((L : Int) / 256))).setCell ⟨gv, at_ + 1, none⟩ (.int .u8 ((L : Int) % 256))).os = w.os := rfl
  have hta : ((w.setCell ⟨gv, at_, none⟩ (.int .u8 ((L : Int) / 256))).setCell ⟨gv, at_ + 1, none⟩ (.int .u8 ((L : Int) % 256))).tape = w.tape := rfl
  have hou : ((w.setCell ⟨gv, at_, none⟩ (.int .u8 ((L : Int) / 256))).setCell ⟨gv, at_ + 1, none⟩ (.int .u8 ((L : Int) % 256))).output = w.output := rfl
  generalize (w.setCell ⟨gv, at_, none⟩ (.int .u8 ((L : Int) / 256))).setCell ⟨gv, at_ + 1, none⟩ (.int .u8 ((L : Int) % 256)) = w2 at *
  have hpl := patched_length W.xs at_ hn
  have hgb : b + 1 ≤ gv := (World.ownsRow.lt hd gv (by rw [hv]; rfl)).1
  have hm4 := mid_patched v4 at_ hn
  rw [← hL] at hm4
  have hml := mid_length csv at_ 2 2 L (by omega) (Nat.le_refl _)
  refine ⟨⟨⟨(hk b hbg).trans hB, ?_, hm.keep fun g hg => hk g fun e => ?_⟩, ?_, by show (patched W.xs at_).length ≤ W.lim; rw [hpl]; exact l1, l2⟩, hos, hta, hou, Nat.le_of_eq hsz.symm, fun k _ _ h2 _ => hk k fun e => h2 (by rw [hv, e]; rfl)⟩
  · show DatB (b + 1) w2 W.v (patched W.xs at_)
    rw [hv]
    refine ⟨by simp, .inr ⟨gv, cv, (mid csv at_ 2 2 L).toArray, by rw [hpl], hgb, BV2, by rw [hpl]; exact v1, v2, by simp [hml, v3], ?_⟩⟩
    rw [hpl, Nat.mul_one]
    exact hm4
  · subst e
    obtain ⟨cs, hc⟩ := hm.ty hg
    exact hc.ne hb (by decide) rfl
  · intro x hx
    rcases List.mem_append.1 hx with hx | hx
    · rcases List.mem_append.1 hx with hx | hx
      · exact o1 x (List.mem_of_mem_take hx)
      · exact enc_oct _ _ x hx
    · exact o1 x (List.mem_of_mem_drop hx)
set_option maxHeartbeats 2000000 in
theorem rw_Patch (w : World) (b : Nat) (W : WR) (at_ i : Nat) (h : Rwt w b W) (hi : W.ms[i]? = some (at_ : Int)) (hj : ∀ j, j < i → W.ms.getD j 0 ≠ at_) (hn : at_ + 2 ≤ W.xs.length) (hm : W.ms.length ≤ 1000) :
    Calls Try.prog 19 #[.pointer (some ⟨b, 0, none⟩), .int .i64 at_] w fun e w' => e = .returned (.int .i64 0) ∧ ∃ vm', Rwt w' b { W with xs := patched W.xs at_, ms := W.ms.take i ++ W.ms.drop (i + 1), vm := vm' } ∧ ButR b W.v W.vm w w' ∧ Moved w W.vm vm' := by
  have h0 := h
  have hil : i < W.ms.length := by
    rcases Nat.lt_or_ge i W.ms.length with q | q
    · exact q
    · rw [List.getElem?_eq_none q] at hi
      cases hi
  have hgi : W.ms.getD i 0 = at_ := by rw [List.getD_eq_getElem?_getD, hi]; rfl
  obtain ⟨⟨hb, hv, hvm⟩, o1, l1, l2⟩ := h
  obtain ⟨gm, cm, hme, hcm, hgm, ⟨cms, hbm⟩, hcell⟩ := hvm.form (by omega)
  obtain ⟨gv, cv, csv, hve, v1, v2, hbv, v3, v4⟩ : ∃ g cap cs, W.v = .slice (some ⟨g, 0, none⟩) W.xs.length cap ∧ W.xs.length ≤ cap ∧ cap ≤ maxLen ∧ Blk w g 5 cs ∧ cs.length = cap ∧ cs.take W.xs.length = W.xs.map (Value.int .u8) := by
    rcases hv.dat.form with ⟨-, e⟩ | q
    · rw [e] at hn
      simp at hn
    · exact q
  have hgvb : b + 1 ≤ gv := (World.ownsRow.lt hv gv (by rw [hve]; rfl)).1
  obtain ⟨lim, xs, v, ms, vm⟩ := W
  dsimp only at *
  subst hve hme
  have c0 := hb.cell 0 (v := .slice (some ⟨gv, 0, none⟩) xs.length cv) rfl
  have c2 := hb.cell 2 (v := .slice (some ⟨gm, 0, none⟩) ms.length cm) rfl
  have hxl : (xs.length : Int) ≤ 65536 := by omega
  go_enter Try.func19, Try.ntmps19
  go_wp2_with fail
  go_loop [5] (fun vi => ∃ j : Nat, j ≤ i ∧ vi = .int .i64 j) (fun vi => i + 1 - (intOf vi).toNat)
  case atStart => exact ⟨0, Nat.zero_le _, rfl⟩
  case round =>
    obtain ⟨j, hji, rfl⟩ := hrel
    have hc := hcell j (by omega)
    have hl : (j : Int) < ms.length := by omega
    by_cases hlt : j < i
    · have hq : (ms.getD j 0 != (at_ : Int)) = true := by simpa using hj j hlt
      generalize ms.getD j 0 = y at hc hq
      clear hcell hj hgi hi
      go_wp2
      exact ⟨⟨j + 1, hlt, rfl⟩, by simp [intOf]; omega⟩
    · obtain rfl : j = i := by omega
      rw [hgi] at hc
      obtain ⟨L, hL⟩ : ∃ L : Nat, L = xs.length - at_ - 2 := ⟨_, rfl⟩
      have eL : (xs.length : Int) - at_ - 2 = L := by omega
      have hL2 : (L : Int) ≤ 65535 := by omega
      have b3 : decide ((65535 : Int) < L) = false := by simp; omega
      have HL := Lib.hid hL
      clear hcell hj hgi hi hL
      go_wp2_with fail
      try rw [eL]
      refine wp_region_selG b [0, 1, 2, 3, 4, 5, 6, 7, 8, 9, 10, 11, 12, 13, 14, 15, 16] 3 rfl (by kernel_rfl) (by kernel_rfl) (by kernel_rfl) (by kernel_rfl) (fun _ d _ _ _ h => by cases d <;> exact h) ?_
      intro W hW
      have dr : Below w.heap.size w W := by subst hW; exact (Below.refl _ _).drew
      have H8 := h0.below dr
      have cB : ∀ q : Same1 b W, q.w.cell? ⟨b, 0, none⟩ = some (.slice (some ⟨gv, 0, none⟩) xs.length cv) := fun q => by
        rw [World.cell?_of_block (w := W) (w' := q.w) (a := ⟨b, 0, none⟩) q.h]
        exact H8.1.1.cell 0 rfl
      have BV := hbv.below dr hbv.lt
      clear hW hbv
      simp only [pickOps, List.filterMap_cons, List.filterMap_nil, List.getElem?_cons_zero, List.getElem?_cons_succ, Option.map_some, List.map_cons, List.map_nil]
      have i1 : (at_ : Int) < xs.length := by omega
      have i2 : (at_ : Int) + 1 < xs.length := by omega
      repeat (go_big_quiet_step (fail))
      refine wpQuiet_nil ?_
      clear cB
      obtain ⟨u1, hu1⟩ : ∃ u, csv[at_]? = some u := ⟨_, List.getElem?_eq_getElem (by omega)⟩
      obtain ⟨u2, hu2⟩ : ∃ u, csv[at_ + 1]? = some u := ⟨_, List.getElem?_eq_getElem (by omega)⟩
      have d1 := BV.cell at_ hu1
      have e1 := BV.frozen at_
      refine wpAnyH_one (k := 17) (by kernel_rfl) rfl (fun K hQ => ?_)
      go_simp
      have BV1 := BV.set at_ (.int .u8 ((L : Int) / 256))
      have s1 : (W.setCell ⟨gv, at_, none⟩ (.int .u8 ((L : Int) / 256))).heap[b]? = W.heap[b]? := by
        simp [World.setCell, Array.getElem?_modify, show ¬ gv = b by omega]
      refine hQ _ _ ⟨⟨_, s1⟩, rfl⟩ ?_
      clear hQ K d1 e1
      refine wpAnyH_one (k := 18) (by kernel_rfl) rfl (fun K hQ => ?_)
      go_simp
      refine hQ _ _ ⟨⟨_, s1⟩, rfl⟩ ?_
      clear hQ K
      have d2 := BV1.cell (at_ + 1) (v := u2) (by rw [List.getElem?_set_ne (by omega)]; exact hu2)
      have e2 := BV1.frozen (at_ + 1)
      refine wpAnyH_one (k := 19) (by kernel_rfl) rfl (fun K hQ => ?_)
      go_simp
      have s2 : ((W.setCell ⟨gv, at_, none⟩ (.int .u8 ((L : Int) / 256))).setCell ⟨gv, at_ + 1, none⟩ (.int .u8 ((L : Int) % 256))).heap[b]? = W.heap[b]? := by
        simp [World.setCell, Array.getElem?_modify, show ¬ gv = b by omega]
      refine hQ _ _ ⟨⟨_, s2⟩, rfl⟩ ?_
      clear hQ K d2 e2 BV1
      refine wpAnyH_done (by kernel_rfl) ?_ 0
      obtain ⟨P1, P2⟩ := patch_row W b ⟨lim, xs, .slice (some ⟨gv, 0, none⟩) xs.length cv, ms, .slice (some ⟨gm, 0, none⟩) ms.length cm⟩ gv cv at_ L csv H8 rfl v1 v2 BV v3 v4 hn HL.out (by omega)
      dsimp only at P1 P2
      generalize hw2 : (W.setCell ⟨gv, at_, none⟩ (.int .u8 ((L : Int) / 256))).setCell ⟨gv, at_ + 1, none⟩ (.int .u8 ((L : Int) % 256)) = W2 at *
      have P0 : ButR b (.slice (some ⟨gv, 0, none⟩) xs.length cv) (.slice (some ⟨gm, 0, none⟩) ms.length cm) w W2 := (ButR.of_below dr).trans P2 (Moved.refl _ _) (Moved.refl _ _)
      clear hw2 P2 dr H8 BV s1 s2
      have PD := P1.below ((Below.refl W2.heap.size W2).drew)
      obtain ⟨s7, s15, vA, vB, w2, w3, hs7, hs15, hr1, hr2, R1, R2, R3, R4, BB, MM⟩ := cut_mark W2.drew b _ j PD hil hm
      dsimp only at hs7 hs15 R1 R2 R3 R4 BB MM
      have q0 : W2.drew.cell? ⟨b, 2, none⟩ = some (.slice (some ⟨gm, 0, none⟩) ms.length cm) := PD.1.1.cell 2 rfl
      have q1 : (W2.drew.alloc (.cells #[] 3)).cell? ⟨b, 2, none⟩ = some (.slice (some ⟨gm, 0, none⟩) ms.length cm) := R1.1.1.cell 2 rfl
      have q2 : w2.cell? ⟨b, 2, none⟩ = some (.slice (some ⟨gm, 0, none⟩) ms.length cm) := R2.1.1.cell 2 rfl
      have q3 : w3.cell? ⟨b, 2, none⟩ = some (.slice (some ⟨gm, 0, none⟩) ms.length cm) := R3.1.1.cell 2 rfl
      have f3 := R3.1.1.frozen 2
      have PP : ButR b (.slice (some ⟨gv, 0, none⟩) xs.length cv) (.slice (some ⟨gm, 0, none⟩) ms.length cm) w (w3.setCell ⟨b, 2, none⟩ vB) := P0.trans (((ButR.of_below (b := b) (v := .slice (some ⟨gv, 0, none⟩) xs.length cv) (vm := .slice (some ⟨gm, 0, none⟩) ms.length cm) ((Below.refl W2.heap.size W2).drew))).trans BB (Moved.refl _ _) (Moved.refl _ _)) (Moved.refl _ _) (Moved.refl _ _)
      have MN : Moved w (.slice (some ⟨gm, 0, none⟩) ms.length cm) vB := MM.imp id fun q g hg => Nat.le_trans P0.size (q g hg)
      obtain ⟨xa, xn, xc, rfl⟩ : ∃ a n c, vB = .slice a n c := by obtain ⟨a, c, e⟩ := R4.1.2.2.shape; exact ⟨a, _, c, e⟩
      clear R1 R2 R3 BB MM P0 P1 PD b3 hL2 i1 i2 hu1 hu2
      go_wp2_with fail
      refine wp_region_stage 19 (w3.setCell ⟨b, 2, none⟩ (.slice xa xn xc)) [(16, w3), (8, w2), (1, (W2.drew.alloc (.cells #[] 3)))] (by decide) (by kernel_rfl) (by kernel_rfl) (by kernel_rfl) ?_
      refine stage_pure (by simp) (fun K hK => ?_)
      go_simp
      refine hK _ ?_
      clear hK K
      refine stage_to (pre := [(19, (w3.setCell ⟨b, 2, none⟩ (.slice xa xn xc))), (16, w3), (8, w2)]) (post := []) (W := W2.drew) (.slice (some ⟨W2.drew.heap.size, 0, none⟩) 0 0) (by first | rfl | go_simp) (fun L h1 h2 p hp => ?_) (by simp) (fun L h1 h2 => ?_) (by go_simp; first | done | rfl) ?_
      · simp only [List.mem_cons, List.not_mem_nil, or_false] at hp
        rcases hp with rfl | rfl | rfl
        · exact not_yet h1 fun hL => h2.dep (h2.dep (h2.dep (hL) rfl (e := ⟨16, .data⟩) (by simp) rfl) rfl (e := ⟨8, .data⟩) (by simp) rfl) rfl (e := ⟨1, .data⟩) (by simp) rfl
        · exact not_yet h1 fun hL => h2.dep (h2.dep (hL) rfl (e := ⟨8, .data⟩) (by simp) rfl) rfl (e := ⟨1, .data⟩) (by simp) rfl
        · exact not_yet h1 fun hL => h2.dep (hL) rfl (e := ⟨1, .data⟩) (by simp) rfl
      · refine stg_first _ fun p hp => ?_
        simp only [List.mem_append, List.mem_cons, List.not_mem_nil, or_false] at hp
        rcases hp with (rfl | rfl | rfl) | rfl
        · exact not_yet h1 fun hL => h2.dep (h2.dep (h2.dep (hL) rfl (e := ⟨16, .data⟩) (by simp) rfl) rfl (e := ⟨8, .data⟩) (by simp) rfl) rfl (e := ⟨1, .data⟩) (by simp) rfl
        · exact not_yet h1 fun hL => h2.dep (h2.dep (hL) rfl (e := ⟨8, .data⟩) (by simp) rfl) rfl (e := ⟨1, .data⟩) (by simp) rfl
        · exact not_yet h1 fun hL => h2.dep (hL) rfl (e := ⟨1, .data⟩) (by simp) rfl
        · exact (ready_not h1).1
      refine stage_pure (by simp) (fun K hK => ?_)
      go_simp
      refine hK _ ?_
      clear hK K
      refine stage_pure (by simp) (fun K hK => ?_)
      go_simp
      refine hK _ ?_
      clear hK K
      refine stage_pure (by simp) (fun K hK => ?_)
      go_simp
      refine hK _ ?_
      clear hK K
      refine stage_load ⟨b, 2, none⟩ (.slice (some ⟨gm, 0, none⟩) ms.length cm) (by first | rfl | go_simp) (by simp) (fun L h1 h2 => ?_) (fun W hW => by go_simp) ?_
      · refine stg_in (F := fun W => W.cell? ⟨b, 2, none⟩ = some (.slice (some ⟨gm, 0, none⟩) ms.length cm)) _ q0 (fun p hp hL => ?_)
        replace hp : p ∈ ([(19, (w3.setCell ⟨b, 2, none⟩ (.slice xa xn xc))), (16, w3), (8, w2), (1, (W2.drew.alloc (.cells #[] 3)))] : List (Nat × World)) := hp
        simp only [List.mem_cons, List.not_mem_nil, or_false] at hp
        rcases hp with rfl | rfl | rfl | rfl
        · have e := h2.dep (h2.dep (h2.dep (h2.dep (hL) rfl (e := ⟨16, .data⟩) (by simp) rfl) rfl (e := ⟨8, .data⟩) (by simp) rfl) rfl (e := ⟨7, .data⟩) (by simp) rfl) rfl (e := ⟨5, .data⟩) (by simp) rfl
          rw [(ready_not h1).1] at e
          cases e
        · exact q3
        · exact q2
        · exact q1
      refine stage_pure (by simp) (fun K hK => ?_)
      go_simp
      refine hK _ ?_
      clear hK K
      refine stage_write s7 (by first | rfl | go_simp) (fun L h1 h2 => by rw [stg_ne _ _ L (by simp)]; exact slice_op _ 39 (.tmp 58) none (some (.tmp 59)) rfl ints_under _ _ none (some (.int .i64 j)) rfl rfl rfl hs7) ?_
      refine stage_to (pre := [(19, (w3.setCell ⟨b, 2, none⟩ (.slice xa xn xc))), (16, w3)]) (post := [(1, (W2.drew.alloc (.cells #[] 3)))]) (W := (W2.drew.alloc (.cells #[] 3))) vA (by first | rfl | go_simp) (fun L h1 h2 p hp => ?_) (by simp) (fun L h1 h2 => ?_) (append_op _ (.tmp 54) (.tmp 60) 39 39 rfl rfl _ _ rfl rfl _ _ hr1) ?_
      · simp only [List.mem_cons, List.not_mem_nil, or_false] at hp
        rcases hp with rfl | rfl
        · exact not_yet h1 fun hL => h2.dep (h2.dep (hL) rfl (e := ⟨16, .data⟩) (by simp) rfl) rfl (e := ⟨8, .data⟩) (by simp) rfl
        · exact not_yet h1 fun hL => h2.dep (hL) rfl (e := ⟨8, .data⟩) (by simp) rfl
      · refine stg_here (post := []) [(19, (w3.setCell ⟨b, 2, none⟩ (.slice xa xn xc))), (16, w3), (8, w2)] (fun p hp => ?_) (ready_dep h1 rfl (e := ⟨1, .data⟩) (by simp) rfl)
        simp only [List.mem_cons, List.not_mem_nil, or_false] at hp
        rcases hp with rfl | rfl | rfl
        · exact not_yet h1 fun hL => h2.dep (h2.dep (hL) rfl (e := ⟨16, .data⟩) (by simp) rfl) rfl (e := ⟨8, .data⟩) (by simp) rfl
        · exact not_yet h1 fun hL => h2.dep (hL) rfl (e := ⟨8, .data⟩) (by simp) rfl
        · exact (ready_not h1).1
      refine stage_pure (by simp) (fun K hK => ?_)
      go_simp
      refine hK _ ?_
      clear hK K
      refine stage_pure (by simp) (fun K hK => ?_)
      go_simp
      refine hK _ ?_
      clear hK K
      refine stage_pure (by simp) (fun K hK => ?_)
      go_simp
      refine hK _ ?_
      clear hK K
      refine stage_load ⟨b, 2, none⟩ (.slice (some ⟨gm, 0, none⟩) ms.length cm) (by first | rfl | go_simp) (by simp) (fun L h1 h2 => ?_) (fun W hW => by go_simp) ?_
      · refine stg_in (F := fun W => W.cell? ⟨b, 2, none⟩ = some (.slice (some ⟨gm, 0, none⟩) ms.length cm)) _ q0 (fun p hp hL => ?_)
        replace hp : p ∈ ([(19, (w3.setCell ⟨b, 2, none⟩ (.slice xa xn xc))), (16, w3), (8, w2), (1, (W2.drew.alloc (.cells #[] 3)))] : List (Nat × World)) := hp
        simp only [List.mem_cons, List.not_mem_nil, or_false] at hp
        rcases hp with rfl | rfl | rfl | rfl
        · have e := h2.dep (h2.dep (h2.dep (hL) rfl (e := ⟨16, .data⟩) (by simp) rfl) rfl (e := ⟨15, .data⟩) (by simp) rfl) rfl (e := ⟨12, .data⟩) (by simp) rfl
          rw [(ready_not h1).1] at e
          cases e
        · exact q3
        · exact q2
        · exact q1
      refine stage_pure (by simp) (fun K hK => ?_)
      go_simp
      refine hK _ ?_
      clear hK K
      refine stage_pure (by simp) (fun K hK => ?_)
      go_simp
      refine hK _ ?_
      clear hK K
      refine stage_write s15 (by first | rfl | go_simp) (fun L h1 h2 => by rw [stg_ne _ _ L (by simp)]; exact slice_op _ 39 (.tmp 65) (some (.tmp 67)) none rfl ints_under _ _ (some (.int .i64 (j + 1 : Int))) none rfl (by simp [Act.eval, IntKind.wrap, IntKind.bits, IntKind.signed]; omega) rfl hs15) ?_
      refine stage_to (pre := [(19, (w3.setCell ⟨b, 2, none⟩ (.slice xa xn xc)))]) (post := [(8, w2), (1, (W2.drew.alloc (.cells #[] 3)))]) (W := w2) (.slice xa xn xc) (by first | rfl | go_simp) (fun L h1 h2 p hp => ?_) (by simp) (fun L h1 h2 => ?_) (append_op _ (.tmp 61) (.tmp 68) 39 39 rfl rfl _ _ rfl rfl _ _ hr2) ?_
      · simp only [List.mem_cons, List.not_mem_nil, or_false] at hp
        rcases hp with rfl
        · exact not_yet h1 fun hL => h2.dep (hL) rfl (e := ⟨16, .data⟩) (by simp) rfl
      · refine stg_here (post := [(1, (W2.drew.alloc (.cells #[] 3)))]) [(19, (w3.setCell ⟨b, 2, none⟩ (.slice xa xn xc))), (16, w3)] (fun p hp => ?_) (ready_dep h1 rfl (e := ⟨8, .data⟩) (by simp) rfl)
        simp only [List.mem_cons, List.not_mem_nil, or_false] at hp
        rcases hp with rfl | rfl
        · exact not_yet h1 fun hL => h2.dep (hL) rfl (e := ⟨16, .data⟩) (by simp) rfl
        · exact (ready_not h1).1
      refine stage_pure (by simp) (fun K hK => ?_)
      go_simp
      refine hK _ ?_
      clear hK K
      refine stage_pure (by simp) (fun K hK => ?_)
      go_simp
      refine hK _ ?_
      clear hK K
      refine stage_toS (pre := []) (post := [(16, w3), (8, w2), (1, (W2.drew.alloc (.cells #[] 3)))]) (W := w3) (by first | rfl | go_simp) (fun L h1 h2 p hp => ?_) (by simp) (fun L h1 h2 => ?_) (by go_simp) ?_
      · cases hp
      · refine stg_here (post := [(8, w2), (1, (W2.drew.alloc (.cells #[] 3)))]) [(19, (w3.setCell ⟨b, 2, none⟩ (.slice xa xn xc)))] (fun p hp => ?_) (ready_dep h1 rfl (e := ⟨16, .data⟩) (by simp) rfl)
        simp only [List.mem_cons, List.not_mem_nil, or_false] at hp
        rcases hp with rfl
        · exact (ready_not h1).1
      refine stage_nil ?_
      go_wp2_with fail
      go_ret
      exact ⟨rfl, _, R4, PP, MN⟩
end Go.Proofs.Ytailaenkmknpiaa
