/- Readers beside routes; an identifier that is read. No condition. -/
import Derived.Test.YtejcclcckgdbgaaNW2
import Derived.Test.YtejcclcckgdbgaaNAp
import Derived.Laws.IdiomCopy
namespace Go.Proofs.Ytejcclcckgdbgaa
open Go.RowKit Go.Sort
set_option linter.unusedVariables false
set_option linter.unusedSimpArgs false
set_option maxRecDepth 100000

/-- A reader stays what it is while a block of another type is written. -/
theorem Rdr.other {w w' : World} {b c : Nat} {R : RS} {t : TypeId} {cs : List Value} (h : Rdr w b R) (k : But w.heap.size c w w') (x : Blk w c t cs) (h1 : t ≠ 128) (h2 : t ≠ 5) : Rdr w' b R := by
  obtain ⟨⟨v, hb, hd⟩, h3⟩ := h
  exact ⟨⟨v, k.blk hb hb.lt (hb.ne x (Ne.symm h1)), hd.but k x h2⟩, h3⟩
theorem Rdr.ne {w : World} {b c : Nat} {R : RS} {t : TypeId} {cs : List Value} (h : Rdr w b R) (x : Blk w c t cs) (h1 : t ≠ 128) : c ≠ b := by
  obtain ⟨⟨v, hb, hd⟩, h3⟩ := h
  exact x.ne hb h1
theorem Bx.but {w w' : World} {b c : Nat} {R : RS} {n : NL} (x : Bx w c n) (h : Rdr w b R) (k : But w.heap.size b w w') : Bx w' c n := k.blk x x.lt (h.ne x (by decide))

/-- A region that draws its order: chosen operations, which look at no memory, are taken first. -/
theorem wp_region_selT {P : Program} {id : Nat} {Q : Exit → Act → World → Prop} {a : Act} {w : World} {l : List Oper} (ks : List Nat) (g : Nat) (hn : g + (pickOps l ks).length = l.toArray.size) (hm : P.follows .mixedOrders = true) (hs : Region.noSelect l.toArray = true)
    (hp : ((pickOps l ks).all fun x => plainOp x.2.op) = true) (hB : lexSel l.toArray (pickOps l ks) (Array.replicate l.toArray.size false) = true) (hQ : ∀ c d v a w, Q (.panic c) (a.put d v) w → Q (.panic c) a w)
    (h : ∀ W, W = w.drew → wpQuiet P l.toArray (fun w' => ∃ x : World, w' = x) (fun a' => wpAnyH P .any l.toArray Q (fun w' => ∃ x : World, w' = x) g (listedSel (pickOps l ks) (Array.replicate l.toArray.size false)) a' W) ((pickOps l ks).map (·.2)) a) : (Code.region id l.toArray true).wp P Q a w := by
  refine wp_region_held (S := fun w' => ∃ x : World, w' = x) hm ?_
  have H := wpAnyH_sel (S := fun w' => ∃ x : World, w' = x) (g := g) (w := w.drew) hs hQ ⟨_, rfl⟩ (pickOps l ks) (Array.replicate l.toArray.size false) a (pickOps_ok l ks) hp hB (h w.drew rfl)
  rw [hn] at H
  exact H
theorem step_copy {P : Program} {o : Oper} {a : Act} {w w' : World} {K : Act → World → Prop} {Q : Exit → Act → World → Prop} (d s : Operand) (t u : TypeId) (ho : o.op = .call { callee := .builtin .copy, args := #[d, s], argTypes := #[t, u] })
    (x y v : Value) (hd : a.eval d = x) (hs : a.eval s = y) (hr : (Builtin.copy_ #[t, u] o.type #[x, y]).run P w = .ok v w') (h : K (a.put o.dst v) w') : o.wp P a w K Q := by
  unfold Oper.wp
  simp [execOp, ho, resolve, invoke, builtin, hd, hs, hr, Result.andThen]
  exact h

/-- Blocks that hold an identifier. -/
def Ex (w : World) (b : Nat) (e : Nat → Int) : Prop := Blk w b 31 (esi e)
theorem run_newE (w : World) : (Instr.alloc 31 true (.tuple #[])).run Try.prog w = .ok (.pointer (some ⟨w.heap.size, 0, none⟩)) (w.alloc (.cells (esi fun _ => 0).toArray 31)) := by kernel_rfl
theorem at_newE {ops : Array Oper} {rest : List Oper} {o : Oper} {a : Act} {w : World} {Q : Exit → Act → World → Prop} (hgd : o.guard = none) (ho : o.op = .alloc 31)
    (h : ∀ w', Ex w' w.heap.size (fun _ => 0) → Below w.heap.size w w' → w'.heap.size = w.heap.size + 1 → wpList Try.prog ops Q rest (a.put o.dst (.pointer (some ⟨w.heap.size, 0, none⟩))) w') : wpList Try.prog ops Q (o :: rest) a w :=
  wpList_plain hgd fun _ hK => by
    unfold Oper.wp execOp
    simp only [ho, Sem.run_bind, run_newE, Result.andThen_ok, Sem.run_pure]
    exact hK _ _ (h _ (Blk.new w _ _) ((Below.refl _ _).alloc (Nat.le_refl _) _) (by simp))
theorem at_loadE {ops : Array Oper} {rest : List Oper} {o : Oper} {a : Act} {w : World} {Q : Exit → Act → World → Prop} (hgd : o.guard = none) (x : Operand) (ho : o.op = .load 31 x) (b : Nat) (hx : a.eval x = .pointer (some ⟨b, 0, none⟩)) (e : Nat → Int) (hb : Ex w b e)
    (h : wpList Try.prog ops Q rest (a.put o.dst (.agg (esi e).toArray)) w) : wpList Try.prog ops Q (o :: rest) a w :=
  wpList_load_row hgd _ x ho b hx _ _ _ _ hb Try.underlying31 rfl (esi_size e) h
theorem at_storeE {ops : Array Oper} {rest : List Oper} {o : Oper} {a : Act} {w : World} {Q : Exit → Act → World → Prop} (hgd : o.guard = none) (x y : Operand) (ho : o.op = .store 31 x y) (hd : o.dst = none) (b : Nat) (hx : a.eval x = .pointer (some ⟨b, 0, none⟩)) (e f : Nat → Int) (hy : a.eval y = .agg (esi f).toArray) (hb : Ex w b e)
    (h : ∀ w', Ex w' b f → But w.heap.size b w w' → wpList Try.prog ops Q rest a w') : wpList Try.prog ops Q (o :: rest) a w :=
  wpList_store_row hgd _ x y ho b (esi f).toArray hx hy _ (esi e).toArray hb (esi_size f) rfl (esi_one f) (by rw [hd]; exact h _ (setRow_heap w b _ _ _ _ hb) ⟨rfl, rfl, rfl, by simp [World.setRow], fun k hk hn => by simp [World.setRow, Array.getElem?_modify, Ne.symm hn]⟩)
theorem esi_of (xs : List Int) (h : xs.length = 10) : xs.map (Value.int .u8) = esi fun j => xs.getD j 0 := by
  match xs, h with
  | [a, b, c, d, e, f, g, h, i, j], _ => rfl
theorem copy_esi (w : World) (ty : TypeId) (B : Nat) (v : Value) (xs : List Int) (hB : Ex w B fun _ => 0) (hd : Dat w v xs) (hl : xs.length = 10 ∨ xs = []) :
    ∃ r w', (Builtin.copy_ #[23, 23] ty #[.slice (some ⟨B, 0, none⟩) 10 10, v]).run Try.prog w = .ok r w' ∧ Ex w' B (fun j => xs.getD j 0) ∧ But w.heap.size B w w' := by
  have hi : (Try.prog.info? 5).map (·.size) = some 1 := by kernel_rfl
  rcases hl with hl | rfl
  · rcases hd.form with ⟨-, rfl⟩ | ⟨g, cap, cs, rfl, h1, h2, hg, h3, h4⟩
    · simp at hl
    · have hr := run_copy_row Try.prog w 23 23 ty 5 B 0 10 10 ⟨g, 0, none⟩ xs.length cap (esi fun _ => 0).toArray 31 (xs.map (Value.int .u8)) Try.underlying23 hi hB (by rw [List.length_map, hl]; rfl)
        (fun j u hu => by
          have hj : j < xs.length := by
            rcases Nat.lt_or_ge j xs.length with q | q
            · exact q
            · rw [List.getElem?_eq_none (by simpa using q)] at hu; cases hu
          rw [show (⟨g, 0, none⟩ : Addr).add j = ⟨g, j, none⟩ by unfold Addr.add; split <;> simp_all]
          refine hg.cell j ?_
          rw [take_at h4 j hj, ← hu, List.getElem?_map]
          simp [List.getD_eq_getElem?_getD, hj]) (by rw [List.length_map, hl]; decide) (fun u hu => by
          obtain ⟨z, -, rfl⟩ := List.mem_map.1 hu
          rfl)
      refine ⟨_, _, hr, ?_, ⟨rfl, rfl, rfl, by simp [World.setRow], fun k hk hn => setRow_other w B k _ hn⟩⟩
      have hs := setRow_heap w B (esi fun _ => 0).toArray ((esi fun _ => 0).toArray.toList.take 0 ++ xs.map (Value.int .u8) ++ (esi fun _ => 0).toArray.toList.drop (0 + (xs.map (Value.int .u8)).length)).toArray _ _ hB
      unfold Ex Blk
      rw [hs, List.length_map, hl, esi_of xs hl]
      rfl
  · obtain ⟨a, c, rfl, -⟩ := hd.seg
    exact ⟨_, _, run_copy_none w _ _ ty 5 _ a 10 10 _ c Try.underlying23 hi (by simp), hB, But.refl _ _ _⟩
theorem part_ten (R : RS) (h : R.n ≤ R.xs.length) : (R.part 10).length = 10 ∨ R.part 10 = [] := by
  unfold RS.part
  split
  · rename_i ho
    left
    obtain ⟨h0, h1, h2⟩ := ho
    simp
    omega
  · exact .inr rfl
set_option maxHeartbeats 2000000 in
theorem readESI_is (w : World) (b : Nat) (R : RS) (h : Rdr w b R) : Calls Try.prog 110 #[.pointer (some ⟨b, 0, none⟩)] w fun e w' => e = .returned (.agg (esi fun j => (R.part 10).getD j 0).toArray) ∧ Rdr w' b (R.next 10) ∧ But w.heap.size b w w' := by
  have hp := part_ten R h.2.2.1
  have hlt := h.lt
  obtain ⟨e, he⟩ : ∃ e : Nat → Int, e = fun j => (R.part 10).getD j 0 := ⟨_, rfl⟩
  rw [← he]
  go_enter Try.func110, Try.ntmps110
  go_wp2_with (first
    | (refine at_newE rfl rfl ?_; intro w1 x1 k1 s1; have h1 := h.below k1)
    | (refine at_newE rfl rfl ?_; intro w2 y2 k2 s2; rw [s1] at y2; have h2 := h1.below k2; have x2 : Ex w2 w.heap.size _ := Blk.below x1 k2 x1.lt; have b2 := k1.trans (k2.mono k1.size); go_simp))
  refine wp_region_selT [0, 1] 2 rfl (by kernel_rfl) (by kernel_rfl) (by kernel_rfl) (by kernel_rfl) (fun _ d _ _ _ h => by cases d <;> exact h) ?_
  intro W hW
  simp only [pickOps, List.filterMap_cons, List.filterMap_nil, List.getElem?_cons_zero, List.getElem?_cons_succ, Option.map_some, List.map_cons, List.map_nil]
  repeat (go_big_quiet_step (fail))
  refine wpQuiet_nil ?_
  subst hW
  have h3 := h2.below (Below.refl _ _).drew
  have x3 : Ex w2.drew w.heap.size _ := Blk.drew x2
  have y3 : Ex w2.drew (w.heap.size + 1) _ := Blk.drew y2
  have b3 : Below w.heap.size w w2.drew := b2.drew
  generalize w2.drew = w3 at h3 x3 y3 b3 ⊢
  refine wpAnyH_one (k := 2) (by kernel_rfl) rfl (fun K hQ => ?_)
  go_simp
  refine (rd_Bytes w3 b R 10 h3).mono ?_
  rintro r w4 ⟨v4, rfl, hd, r4, k4⟩
  have x4 : Ex w4 w.heap.size _ := k4.blk x3 x3.lt (h3.ne x3 (by decide))
  have y4 : Ex w4 (w.heap.size + 1) _ := k4.blk y3 y3.lt (h3.ne y3 (by decide))
  have b4 : But w.heap.size b w w4 := (But.of_below b3).trans (k4.mono b3.size)
  obtain ⟨rv, w5, hr, y5, k5⟩ := copy_esi w4 3 (w.heap.size + 1) v4 _ y4 hd hp
  have x5 : Ex w5 w.heap.size _ := k5.blk x4 x4.lt (by omega)
  have r5 := r4.other k5 y4 (by decide) (by decide)
  have b5 : But w.heap.size b w w5 := b4.trans ⟨k5.os, k5.tape, k5.output, k5.size, fun i hi hn => k5.block i (Nat.lt_of_lt_of_le hi b4.size) (by omega)⟩
  rw [← he] at y5
  refine hQ _ _ ⟨_, rfl⟩ ?_
  clear hQ K
  have HR := Lib.hid hr
  clear hr
  refine wpAnyH_one (k := 3) (by kernel_rfl) rfl (fun K hQ => ?_)
  refine if_true_prop (by kernel_rfl) ?_
  refine step_copy _ _ 23 23 rfl _ _ _ rfl rfl HR.out ?_
  refine hQ _ _ ⟨_, rfl⟩ ?_
  clear hQ K
  refine wpAnyH_done (by kernel_rfl) ?_ 0
  clear HR
  go_wp2_with (first
    | (refine at_loadE rfl _ rfl (w.heap.size + 1) rfl e y5 ?_)
    | (refine at_storeE rfl _ _ rfl rfl w.heap.size rfl _ e rfl x5 ?_; intro w6 x6 k6; have r6 := r5.other k6 x5 (by decide) (by decide); have b6 : But w.heap.size b w w6 := b5.trans ⟨k6.os, k6.tape, k6.output, k6.size, fun i hi hn => k6.block i (Nat.lt_of_lt_of_le hi b5.size) (by omega)⟩))
  exact bodyPost_ret (results_cell_row (by rfl) _ _ w.heap.size _ _ _ _ rfl x6 Try.underlying31 rfl (esi_size e)) rfl ⟨rfl, r6, b6⟩
end Go.Proofs.Ytejcclcckgdbgaa
