/- The program's writer and the reference's, side by side. No condition. -/
import Derived.Test.YtailaenkmknpiaaRAc
import Derived.Maps.Views
namespace Go.Proofs.Ytailaenkmknpiaa
open Go.RowKit Go.Sort Go.Maps
set_option linter.unusedVariables false
set_option linter.unusedSimpArgs false
set_option maxRecDepth 100000

structure Sep (w0 w : World) (b c : Nat) (W : WS) (n : Nat) (D : DataW Unit) (R : WR) (o : Option (Nat × List Value)) : Prop where
  p1 : Wtr w b W
  p2 : Mks w W.mb n D
  q1 : Rwt w c R
  ne : ∀ g, W.v.ownBlock = some g → R.v.ownBlock ≠ some g
  lb : w0.heap.size ≤ b
  lc : w0.heap.size ≤ c
  lm : w0.heap.size ≤ W.mb
  lv : ∀ g, W.v.ownBlock = some g → w0.heap.size ≤ g
  bx : ∀ a cs, o = some (a, cs) → Blk w a 35 cs
  bel : Below w0.heap.size w0 w
section
variable {w0 w w' : World} {b c : Nat} {W W' : WS} {n n' : Nat} {D D' : DataW Unit} {R R' : WR} {o : Option (Nat × List Value)}
theorem Sep.left (S : Sep w0 w b c W n D R o) (h1 : Wtr w' b W') (h2 : Mks w' W'.mb n' D') (hmb : W'.mb = W.mb) (k : ButP (W.mine b) w w') (m : Moved w W.v W'.v) : Sep w0 w' b c W' n' D' R o := by
  have hc := S.q1.1.1
  have hv := S.q1.1.2.1
  have hm := S.q1.1.2.2
  have mine : ∀ {g : Nat} {t : TypeId} {cs : List Value}, Blk w g t cs → t ≠ 75 → (t ≠ 5 ∨ some g ≠ W.v.ownBlock) → ¬ W.mine b g := fun hg t1 t2 => by
    rintro (e | e | e)
    · subst e
      exact hg.ne S.p1.1 t1 rfl
    · subst e
      exact mks_ne S.p2 hg rfl
    · rcases t2 with t2 | t2
      · exact S.p1.2.1.own_ne hg t2 e
      · exact t2 e
  have kb : ∀ {g : Nat} {t : TypeId} {cs : List Value}, Blk w g t cs → t ≠ 75 → (t ≠ 5 ∨ some g ≠ W.v.ownBlock) → w'.heap[g]? = w.heap[g]? := fun hg t1 t2 => k.block _ hg.lt (mine hg t1 t2)
  refine ⟨h1, h2, ⟨⟨(kb hc (by decide) (.inl (by decide))).trans hc, hv.keepB fun g hg => ?_, hm.keep fun g hg => ?_⟩, S.q1.2⟩, fun g hg e => ?_, S.lb, S.lc, hmb ▸ S.lm, fun g hg => ?_, fun a cs e => ?_, ?_⟩
  · obtain ⟨cs, hb⟩ := hv.ty hg
    exact kb hb (by decide) (.inr fun e => S.ne g e.symm hg)
  · obtain ⟨cs, hb⟩ := hm.ty hg
    exact kb hb (by decide) (.inl (by decide))
  · rcases m with q | q
    · exact S.ne g (q ▸ hg) e
    · have := q g hg
      have := (World.ownsRow.lt hv g e).2
      omega
  · rcases m with q | q
    · exact S.lv g (q ▸ hg)
    · exact Nat.le_trans S.bel.size (q g hg)
  · have hb := S.bx a cs e
    exact (kb hb (by decide) (.inl (by decide))).trans hb
  · refine ButP.below S.bel k (fun i hi => ?_) S.bel.size
    rintro (e | e | e)
    · have := S.lb; omega
    · have := S.lm; omega
    · have := S.lv i e.symm; omega
theorem Sep.right (S : Sep w0 w b c W n D R o) (h : Rwt w' c R') (k : ButR c R.v R.vm w w') (m : Moved w R.v R'.v) : Sep w0 w' b c W n D R' o := by
  have hc := S.q1.1.1
  have hv := S.q1.1.2.1
  have hm := S.q1.1.2.2
  have hd : DatB 0 w W.v W.xs := S.p1.2.1
  have kb : ∀ {g : Nat} {t : TypeId} {cs : List Value}, Blk w g t cs → t ≠ 49 → t ≠ 3 → (t ≠ 5 ∨ some g ≠ R.v.ownBlock) → w'.heap[g]? = w.heap[g]? := fun {g t cs} hg t1 t2 t3 => by
    refine k.block _ hg.lt (hg.ne hc t1) (fun e => ?_) fun e => ?_
    · rcases t3 with t3 | t3
      · obtain ⟨cs, hb⟩ := hv.ty e.symm
        exact hg.ne hb t3 rfl
      · exact t3 e
    · obtain ⟨cs, hb⟩ := hm.ty e.symm
      exact hg.ne hb t2 rfl
  have hmm : w'.heap[W.mb]? = w.heap[W.mb]? := by
    refine k.block _ S.p2.lt (mks_ne S.p2 hc) (fun e => ?_) fun e => ?_
    · obtain ⟨cs, hb⟩ := hv.ty e.symm
      exact mks_ne S.p2 hb rfl
    · obtain ⟨cs, hb⟩ := hm.ty e.symm
      exact mks_ne S.p2 hb rfl
  refine ⟨⟨(kb S.p1.1 (by decide) (by decide) (.inl (by decide))).trans S.p1.1, hd.keepB fun g hg => ?_, S.p1.2.2⟩, mks_kept S.p2 hmm, h, fun g hg e => ?_, S.lb, S.lc, S.lm, S.lv, fun a cs e => ?_, ?_⟩
  · obtain ⟨cs, hb⟩ := hd.ty hg
    exact kb hb (by decide) (by decide) (.inr fun e => S.ne g hg e.symm)
  · rcases m with q | q
    · exact S.ne g hg (q ▸ e)
    · have := q g e
      have := (World.ownsRow.lt hd g hg).2
      omega
  · have hb := S.bx a cs e
    exact (kb hb (by decide) (by decide) (.inl (by decide))).trans hb
  · refine ⟨k.os.trans S.bel.os, k.tape.trans S.bel.tape, k.output.trans S.bel.output, Nat.le_trans S.bel.size k.size, fun i hi => (k.block i (Nat.lt_of_lt_of_le hi S.bel.size) (by have := S.lc; omega) (fun e => ?_) fun e => ?_).trans (S.bel.block i hi)⟩
    · have := (World.ownsRow.lt hv i e.symm).1
      have := S.lc
      omega
    · have := (World.ownsRow.lt hm i e.symm).1
      have := S.lc
      omega
theorem Sep.below (S : Sep w0 w b c W n D R o) (k : Below w.heap.size w w') : Sep w0 w' b c W n D R o :=
  ⟨S.p1.below k, mks_kept S.p2 (k.block _ S.p2.lt), S.q1.below k, S.ne, S.lb, S.lc, S.lm, S.lv, fun a cs e => (S.bx a cs e).below k (S.bx a cs e).lt, S.bel.trans (k.mono S.bel.size)⟩
/-- Bytes of one's own are written. -/
theorem Sep.grown (S : Sep w0 w b c W n D R o) {x : Option Nat} (k : w.grownBy w' x) (hx : ∀ g, x = some g → w0.heap.size ≤ g ∧ g ≠ b ∧ g ≠ c ∧ g ≠ W.mb ∧ some g ≠ W.v.ownBlock ∧ some g ≠ R.v.ownBlock ∧ some g ≠ R.vm.ownBlock) (ho : o = none) : Sep w0 w' b c W n D R none := by
  have hc := S.q1.1.1
  have hv := S.q1.1.2.1
  have hm := S.q1.1.2.2
  have hd : DatB 0 w W.v W.xs := S.p1.2.1
  have kk : ∀ i, i < w.heap.size → (∀ g, x = some g → i ≠ g) → w'.heap[i]? = w.heap[i]? := fun i hi h => k.block i hi fun e => h i e.symm rfl
  refine ⟨⟨(kk b S.p1.1.lt fun g e q => (hx g e).2.1 q.symm).trans S.p1.1, hd.keepB fun g hg => kk g (World.ownsRow.lt hd g hg).2 fun g' e q => (hx g' e).2.2.2.2.1 (q ▸ hg.symm), S.p1.2.2⟩, mks_kept S.p2 (kk _ S.p2.lt fun g e q => (hx g e).2.2.2.1 q.symm), ⟨⟨(kk c hc.lt fun g e q => (hx g e).2.2.1 q.symm).trans hc, hv.keepB fun g hg => kk g (World.ownsRow.lt hv g hg).2 fun g' e q => (hx g' e).2.2.2.2.2.1 (q ▸ hg.symm), hm.keep fun g hg => kk g (World.ownsRow.lt hm g hg).2 fun g' e q => (hx g' e).2.2.2.2.2.2 (q ▸ hg.symm)⟩, S.q1.2⟩, S.ne, S.lb, S.lc, S.lm, S.lv, fun a cs e => (by cases e), S.bel.grown k S.bel.size fun i hi => (hx i hi).1⟩
/-- A box. -/
theorem Sep.box (S : Sep w0 w b c W n D R none) {a : Nat} {cs : List Value} (h : Blk w a 35 cs) : Sep w0 w b c W n D R (some (a, cs)) :=
  ⟨S.p1, S.p2, S.q1, S.ne, S.lb, S.lc, S.lm, S.lv, fun a' cs' e => (by cases e; exact h), S.bel⟩
theorem Sep.unbox (S : Sep w0 w b c W n D R o) : Sep w0 w b c W n D R none := ⟨S.p1, S.p2, S.q1, S.ne, S.lb, S.lc, S.lm, S.lv, fun a' cs' e => (by cases e), S.bel⟩
theorem ButW.toP (k : ButW b W.v w w') : ButP (W.mine b) w w' := ⟨k.os, k.tape, k.output, k.size, fun i hi hp => k.block i hi (fun e => hp (.inl e)) fun e => hp (.inr (.inr e))⟩
end

/-- The two writers hold the same. -/
structure Rel (W : WS) (D : DataW Unit) (R : WR) : Prop where
  lim : W.lim = R.lim
  xs : W.xs = R.xs
  nd : R.ms.Nodup
  ats : ∀ x ∈ R.ms, ∃ a : Nat, x = a ∧ a + 2 ≤ R.xs.length
  im : IsMap D
  op : ∀ x : Int, Maps.has D (.int .i64 x) = true ↔ x ∈ R.ms
section
variable {W W' : WS} {D D' : DataW Unit} {R R' : WR}
theorem Rel.grow (L : Rel W D R) (ys : List Int) (h1 : W'.lim = W.lim) (h2 : W'.xs = W.xs ++ ys) (h3 : R'.lim = R.lim) (h4 : R'.xs = R.xs ++ ys) (h5 : R'.ms = R.ms) : Rel W' D R' :=
  ⟨by rw [h1, h3]; exact L.lim, by rw [h2, h4, L.xs], by rw [h5]; exact L.nd, fun x hx => by
    rw [h5] at hx
    obtain ⟨a, e, h⟩ := L.ats x hx
    exact ⟨a, e, by rw [h4, List.length_append]; omega⟩, L.im, fun x => by rw [h5]; exact L.op x⟩
theorem Rel.same (L : Rel W D R) (h1 : W'.lim = W.lim) (h2 : W'.xs = W.xs) (h3 : R'.lim = R.lim) (h4 : R'.xs = R.xs) (h5 : R'.ms = R.ms) : Rel W' D R' :=
  L.grow [] h1 (by rw [h2, List.append_nil]) h3 (by rw [h4, List.append_nil]) h5
theorem Rel.mark (L : Rel W D R) (h1 : W'.lim = W.lim) (h2 : W'.xs = W.xs ++ [0, 0]) (hD : D' = D.put (.int .i64 W.xs.length) (.agg [])) (h3 : R'.lim = R.lim) (h4 : R'.xs = R.xs ++ [0, 0]) (h5 : R'.ms = R.ms ++ [(R.xs.length : Int)]) : Rel W' D' R' := by
  have hn : (R.xs.length : Int) ∉ R.ms := fun h => by
    obtain ⟨a, e, h⟩ := L.ats _ h
    omega
  refine ⟨by rw [h1, h3]; exact L.lim, by rw [h2, h4, L.xs], ?_, fun x hx => ?_, by rw [hD]; exact L.im.put _ _, fun x => ?_⟩
  · rw [h5, List.nodup_append]
    exact ⟨L.nd, by simp, fun a ha b hb e => by
      obtain rfl : b = R.xs.length := by simpa using hb
      exact hn (e ▸ ha)⟩
  · rw [h4, List.length_append]
    rw [h5] at hx
    rcases List.mem_append.1 hx with hx | hx
    · obtain ⟨a, e, h⟩ := L.ats x hx
      exact ⟨a, e, by omega⟩
    · exact ⟨R.xs.length, by simpa using hx, by simp⟩
  · rw [hD, h5, L.xs, List.mem_append, List.mem_singleton]
    by_cases h : x = R.xs.length
    · rw [h]
      exact ⟨fun _ => .inr rfl, fun _ => has_put_same L.im (show WideAt.IsKeyLit (.int .i64 _) from trivial) _⟩
    · rw [has_put_other (by simpa using h), L.op x]
      exact ⟨.inl, fun q => q.resolve_right h⟩
theorem cut_mem {l : List Int} {i : Nat} {x : Int} (h : l.Nodup) (hi : l[i]? = some x) : (l.take i ++ l.drop (i + 1)).Nodup ∧ ∀ y, y ∈ l.take i ++ l.drop (i + 1) ↔ y ∈ l ∧ y ≠ x := by
  obtain ⟨hl, hx⟩ := List.getElem?_eq_some_iff.1 hi
  have e : l = l.take i ++ x :: l.drop (i + 1) := by
    rw [← hx, ← List.drop_eq_getElem_cons hl, List.take_append_drop]
  generalize l.take i = A at *
  generalize l.drop (i + 1) = B at *
  clear hi hx
  subst e
  rw [List.nodup_append, List.nodup_cons] at h
  obtain ⟨h1, ⟨h2, h3⟩, h4⟩ := h
  have hA : x ∉ A := fun q => h4 x q x (by simp) rfl
  refine ⟨List.nodup_append.2 ⟨h1, h3, fun a ha b hb => h4 a ha b (List.mem_cons_of_mem _ hb)⟩, fun y => ?_⟩
  rw [List.mem_append, List.mem_append, List.mem_cons]
  constructor
  · rintro (q | q)
    · exact ⟨.inl q, fun e => hA (e ▸ q)⟩
    · exact ⟨.inr (.inr q), fun e => h2 (e ▸ q)⟩
  · rintro ⟨q | q | q, hne⟩
    · exact .inl q
    · exact absurd q hne
    · exact .inr q
theorem Rel.patch (L : Rel W D R) {x : Int} (h1 : W'.lim = W.lim) (h2 : W'.xs = patched W.xs x.toNat) (hD : D' = D.del (.int .i64 x)) (h3 : R'.lim = R.lim) (h4 : R'.xs = patched R.xs x.toNat) {i : Nat} (hi : R.ms[i]? = some x) (h5 : R'.ms = R.ms.take i ++ R.ms.drop (i + 1)) : Rel W' D' R' := by
  obtain ⟨c1, c2⟩ := cut_mem L.nd hi
  obtain ⟨a, ea, ha⟩ := L.ats x (List.mem_of_getElem? hi)
  have hl : (patched R.xs x.toNat).length = R.xs.length := patched_length _ _ (by omega)
  refine ⟨by rw [h1, h3]; exact L.lim, by rw [h2, h4, L.xs], by rw [h5]; exact c1, fun y hy => ?_, by rw [hD]; exact L.im.del _, fun y => ?_⟩
  · rw [h5] at hy
    rw [h4, hl]
    exact L.ats y ((c2 y).1 hy).1
  · rw [hD, h5, c2 y]
    by_cases h : y = x
    · rw [h, has_del_same]
      simp
    · rw [has_del_other (by simpa using h), L.op y]
      exact ⟨fun q => ⟨q, h⟩, fun q => q.1⟩
end
section
variable {w0 w : World} {b c : Nat} {W : WS} {n : Nat} {D : DataW Unit} {R : WR} {o : Option (Nat × List Value)}
theorem bt_put (S : Sep w0 w b c W n D R o) (k N : Nat) (hk : k < 6) (hN : N < 18446744073709551616) : Calls Try.prog 10 #[.pointer (some ⟨b, 0, none⟩), .int .i64 k, .int .u64 N] w fun e w' =>
    e = .returned (.int .i64 (W.res (sz k) N)) ∧ ∃ W', Sep w0 w' b c W' n D R o ∧ W'.lim = W.lim ∧ W'.xs = W.xs ++ (if W.res (sz k) N = 0 then enc (sz k) N else []) :=
  (put_is w b W k N hk S.p1 hN).mono fun e w' ⟨he, hr⟩ => by
    refine ⟨he, ?_⟩
    rcases hr with ⟨h0, hw⟩ | ⟨h0, v', h1, k1, m1⟩
    · obtain rfl := hw.symm
      exact ⟨W, S, rfl, by rw [if_neg h0, List.append_nil]⟩
    · refine ⟨_, S.left h1 (mks_kept S.p2 (k1.block _ S.p2.lt (mks_ne S.p2 S.p1.1) (mks_own S.p2 S.p1.2.1))) rfl k1.toP m1, rfl, by rw [if_pos h0]⟩
theorem rt_put (S : Sep w0 w b c W n D R o) (k N : Nat) (hk8 : k ≤ 8) (hN : N < 18446744073709551616) {r : Int} (hr : r = if 256 ^ k ≤ N then 2 else if R.lim < R.xs.length + k then 7 else 0) : Calls Try.prog 11 #[.pointer (some ⟨c, 0, none⟩), .int .u64 N, .int .i64 k] w fun e w' =>
    e = .returned (.int .i64 r) ∧ ∃ R', Sep w0 w' b c W n D R' o ∧ R'.lim = R.lim ∧ R'.xs = R.xs ++ (if r = 0 then enc k N else []) ∧ R'.ms = R.ms :=
  (rw_Put w c R k N S.q1 hk8 hN).mono fun e w' ⟨he, hq⟩ => by
    rw [← hr] at he hq
    refine ⟨he, ?_⟩
    rcases hq with ⟨h0, k1⟩ | ⟨h0, v', h1, k1, m1⟩
    · exact ⟨R, S.below k1, rfl, by rw [if_neg h0, List.append_nil], rfl⟩
    · exact ⟨_, S.right h1 k1 m1, rfl, by rw [if_pos h0], rfl⟩
theorem bt_bytes (S : Sep w0 w b c W n D R o) (u : Value) (ys : List Int) (hu : Dat w u ys) (ho : Oct ys) (hne : ∀ g, u.ownBlock = some g → some g ≠ W.v.ownBlock) (hl : ys.length ≤ 1000) {r : Int} (hr : r = if W.lim < W.xs.length + ys.length then 7 else 0) : Calls Try.prog 13 #[.pointer (some ⟨b, 0, none⟩), u] w fun e w' =>
    e = .returned (.int .i64 r) ∧ ∃ W', Sep w0 w' b c W' n D R o ∧ W'.lim = W.lim ∧ W'.xs = W.xs ++ (if r = 0 then ys else []) := by
  by_cases hf : W.lim < W.xs.length + ys.length
  · rw [if_pos hf] at hr
    subst hr
    refine (wr_Bytes_full w b W u ys S.p1 hu.seg hf (by omega)).mono ?_
    rintro e w' ⟨rfl, hw⟩
    obtain rfl := hw.symm
    exact ⟨rfl, W, S, rfl, by simp⟩
  · rw [if_neg hf] at hr
    subst hr
    refine (wr_Bytes w b W u ys S.p1 hu ho hne (by omega)).mono ?_
    rintro e w' ⟨rfl, v', h1, k1, m1⟩
    refine ⟨rfl, _, S.left h1 (mks_kept S.p2 (k1.block _ S.p2.lt (mks_ne S.p2 S.p1.1) (mks_own S.p2 S.p1.2.1))) rfl k1.toP m1, rfl, by simp⟩
theorem rt_bytes (S : Sep w0 w b c W n D R o) (u : Value) (ys : List Int) (hu : Seg w u ys) (ho : Oct ys) (hl : ys.length ≤ 1000) {r : Int} (hr : r = if R.lim < R.xs.length + ys.length then 7 else 0) : Calls Try.prog 15 #[.pointer (some ⟨c, 0, none⟩), u] w fun e w' =>
    e = .returned (.int .i64 r) ∧ ∃ R', Sep w0 w' b c W n D R' o ∧ R'.lim = R.lim ∧ R'.xs = R.xs ++ (if r = 0 then ys else []) ∧ R'.ms = R.ms :=
  (rw_Bytes w c R u ys S.q1 hu ho (by omega)).mono fun e w' ⟨he, hq⟩ => by
    rw [← hr] at he hq
    refine ⟨he, ?_⟩
    rcases hq with ⟨h0, k1⟩ | ⟨h0, v', h1, k1, m1⟩
    · exact ⟨R, S.below k1, rfl, by rw [if_neg h0, List.append_nil], rfl⟩
    · exact ⟨_, S.right h1 k1 m1, rfl, by rw [if_pos h0], rfl⟩
theorem bt_mark (S : Sep w0 w b c W n D R o) (hn : n ≤ 1000) {x r : Int} (hr : r = if W.lim < W.xs.length + 2 then 7 else 0) (hx : x = if W.lim < W.xs.length + 2 then 0 else (W.xs.length : Int)) : Calls Try.prog 16 #[.pointer (some ⟨b, 0, none⟩)] w fun e w' =>
    e = .returned (.tuple #[.int .i64 x, .int .i64 r]) ∧ ∃ W' n' D', Sep w0 w' b c W' n' D' R o ∧ n' ≤ n + 1 ∧ W'.lim = W.lim ∧ ((r ≠ 0 ∧ W'.xs = W.xs ∧ D' = D) ∨ (r = 0 ∧ W'.xs = W.xs ++ [0, 0] ∧ D' = D.put (.int .i64 W.xs.length) (.agg []))) := by
  by_cases hf : W.lim < W.xs.length + 2
  · rw [if_pos hf] at hr hx
    subst hr hx
    refine (wr_Mark_full w b W S.p1 hf).mono ?_
    rintro e w' ⟨rfl, hw⟩
    obtain rfl := hw.symm
    exact ⟨rfl, W, n, D, S, by omega, rfl, .inl ⟨by decide, rfl, rfl⟩⟩
  · rw [if_neg hf] at hr hx
    subst hr hx
    refine (wr_Mark w b W n D S.p1 S.p2 (by omega) (by omega)).mono ?_
    rintro e w' ⟨rfl, v', h1, h2, k1, m1⟩
    exact ⟨rfl, _, _, _, S.left h1 h2 rfl k1 m1, Nat.le_refl _, rfl, .inr ⟨rfl, rfl, rfl⟩⟩
theorem rt_mark (S : Sep w0 w b c W n D R o) (hm : R.ms.length ≤ 1000) {x r : Int} (hr : r = if R.lim < R.xs.length + 2 then 7 else 0) (hx : x = if R.lim < R.xs.length + 2 then 0 else (R.xs.length : Int)) : Calls Try.prog 17 #[.pointer (some ⟨c, 0, none⟩)] w fun e w' =>
    e = .returned (.tuple #[.int .i64 x, .int .i64 r]) ∧ ∃ R', Sep w0 w' b c W n D R' o ∧ R'.lim = R.lim ∧ ((r ≠ 0 ∧ R'.xs = R.xs ∧ R'.ms = R.ms) ∨ (r = 0 ∧ R'.xs = R.xs ++ [0, 0] ∧ R'.ms = R.ms ++ [(R.xs.length : Int)])) := by
  by_cases hf : R.lim < R.xs.length + 2
  · rw [if_pos hf] at hr hx
    subst hr hx
    refine (rw_Mark_full w c R S.q1 hf).mono ?_
    rintro e w' ⟨rfl, k1⟩
    exact ⟨rfl, R, S.below k1, rfl, .inl ⟨by decide, rfl, rfl⟩⟩
  · rw [if_neg hf] at hr hx
    subst hr hx
    refine (rw_Mark w c R S.q1 (by omega) hm).mono ?_
    rintro e w' ⟨rfl, v', vm', h1, k1, m1, m2⟩
    exact ⟨rfl, _, S.right h1 k1 m1, rfl, .inr ⟨rfl, rfl, rfl⟩⟩
theorem bt_patch (S : Sep w0 w b c W n D R o) (L : Rel W D R) (x : Int) (hx : (Lit.int .i64 x).wf = true) {r : Int} (hr : r = if x ∈ R.ms then 0 else 16) : Calls Try.prog 18 #[.pointer (some ⟨b, 0, none⟩), .int .i64 x] w fun e w' =>
    e = .returned (.int .i64 r) ∧ ∃ W' D', Sep w0 w' b c W' n D' R o ∧ W'.lim = W.lim ∧ ((x ∉ R.ms ∧ W'.xs = W.xs ∧ D' = D) ∨ (x ∈ R.ms ∧ W'.xs = patched W.xs x.toNat ∧ D' = D.del (.int .i64 x))) := by
  by_cases hf : x ∈ R.ms
  · rw [if_pos hf] at hr
    subst hr
    obtain ⟨a, rfl, ha⟩ := L.ats x hf
    have h1 := S.p1.2.2.2
    have hat := (L.op a).2 hf
    have e := L.xs
    refine (wr_Patch w b W n D a S.p1 S.p2 hat (by rw [e]; exact ha) (by omega)).mono ?_
    rintro e w' ⟨rfl, h1, h2, k1⟩
    exact ⟨rfl, _, _, S.left h1 h2 rfl k1 (Moved.refl _ _), rfl, .inr ⟨hf, by simp, rfl⟩⟩
  · rw [if_neg hf] at hr
    subst hr
    have hat : Maps.has D (.int .i64 x) = false := by
      have := (not_congr (L.op x)).2 hf
      simpa using this
    refine (wr_Patch_no w b W n D x S.p1 S.p2 hx hat).mono ?_
    rintro e w' ⟨rfl, k1⟩
    exact ⟨rfl, W, D, S.below k1, rfl, .inl ⟨hf, rfl, rfl⟩⟩
theorem rt_patch (S : Sep w0 w b c W n D R o) (nd : R.ms.Nodup) (ats : ∀ x ∈ R.ms, ∃ a : Nat, x = a ∧ a + 2 ≤ R.xs.length) (hm : R.ms.length ≤ 1000) (x : Int) {r : Int} (hr : r = if x ∈ R.ms then 0 else 16) : Calls Try.prog 19 #[.pointer (some ⟨c, 0, none⟩), .int .i64 x] w fun e w' =>
    e = .returned (.int .i64 r) ∧ ∃ R', Sep w0 w' b c W n D R' o ∧ R'.lim = R.lim ∧ ((x ∉ R.ms ∧ R'.xs = R.xs ∧ R'.ms = R.ms) ∨ (x ∈ R.ms ∧ R'.xs = patched R.xs x.toNat ∧ ∃ i, R.ms[i]? = some x ∧ R'.ms = R.ms.take i ++ R.ms.drop (i + 1))) := by
  by_cases hf : x ∈ R.ms
  · rw [if_pos hf] at hr
    subst hr
    obtain ⟨a, rfl, ha⟩ := ats x hf
    obtain ⟨i, hi⟩ := List.mem_iff_getElem?.1 hf
    have hj : ∀ j, j < i → R.ms.getD j 0 ≠ a := fun j hj e => by
      obtain ⟨hl, hx⟩ := List.getElem?_eq_some_iff.1 hi
      rw [List.getD_eq_getElem?_getD, List.getElem?_eq_getElem (by omega)] at e
      have := List.pairwise_iff_getElem.1 nd j i (by omega) hl hj
      rw [hx] at this
      exact this e
    refine (rw_Patch w c R a i S.q1 hi hj ha hm).mono ?_
    rintro e w' ⟨rfl, vm', h1, k1, m1⟩
    exact ⟨rfl, _, S.right h1 k1 (Moved.refl _ _), rfl, .inr ⟨hf, by simp, i, hi, rfl⟩⟩
  · rw [if_neg hf] at hr
    subst hr
    refine (rw_Patch_no w c R x S.q1 hf hm).mono ?_
    rintro e w' ⟨rfl, hw⟩
    obtain rfl := hw.symm
    exact ⟨rfl, R, S, rfl, .inl ⟨hf, rfl, rfl⟩⟩
end
theorem wr_OutB (w : World) (b : Nat) (W : WS) (h : Wtr w b W) : Calls Try.prog 20 #[.pointer (some ⟨b, 0, none⟩)] w fun e w' => ∃ v, e = .returned v ∧ DatB w.heap.size w' v W.xs ∧ Below w.heap.size w w' := by
  have hv := wr_valid w b W h
  have hcl := clone_new w W.v W.xs h.2.1.seg (by have := h.2.2.2; omega)
  have c1 := h.1.cell 1 (v := W.v) rfl
  go_enter Try.func20, Try.ntmps20
  go_wp2_with (first | (go_at_call 46; refine hv.mono ?_; rintro e w' ⟨rfl, hw⟩; obtain rfl := hw.symm) | (go_at_call 48; refine hcl.mono ?_; rintro e w1 ⟨v, rfl, hd, k⟩; clear hcl))
  go_ret
  exact ⟨v, rfl, hd, k⟩
theorem mks_new' {w : World} {m : Nat} (h : w.heap[m]? = some (.map #[] 0)) : Mks w m 0 (.map []) := ⟨#[], 0, h, ⟨by simp, Go.MapKept.stamped_empty 0, by simp⟩, Nat.le_refl _, rfl⟩
end Go.Proofs.Ytailaenkmknpiaa
