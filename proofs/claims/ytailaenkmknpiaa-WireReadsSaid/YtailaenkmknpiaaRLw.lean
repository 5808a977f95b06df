/- WireReads: the law returns true. No condition. -/
import Derived.Test.YtailaenkmknpiaaRSb
import Derived.Test.YtailaenkmknpiaaWOp
namespace Go.Proofs.Ytailaenkmknpiaa
open Go.RowKit Go.Sort
set_option linter.unusedVariables false
set_option linter.unusedSimpArgs false
set_option maxRecDepth 100000

theorem DatB.keep {B : Nat} {w w' : World} {v : Value} {xs : List Int} (h : DatB B w v xs) (k : ∀ g, v.ownBlock = some g → w'.heap[g]? = w.heap[g]?) : DatB B w' v xs := by
  obtain ⟨h1, ⟨hv, hn⟩ | ⟨g, cap, cur, hv, hb, hg, r⟩⟩ := h
  · exact ⟨h1, .inl ⟨hv, hn⟩⟩
  · exact ⟨h1, .inr ⟨g, cap, cur, hv, hb, (k g (by rw [hv]; rfl)).trans hg, r⟩⟩
theorem DatB.below {B : Nat} {w w' : World} {v : Value} {xs : List Int} (h : DatB B w v xs) (k : Below w.heap.size w w') : DatB B w' v xs := h.keep fun g hg => k.block g (World.ownsRow.lt h g hg).2
theorem Rdr.blk {w : World} {b : Nat} {R : RS} (h : Rdr w b R) : ∃ cs, Blk w b 88 cs := by
  obtain ⟨⟨v, hb, -⟩, -⟩ := h
  exact ⟨_, hb⟩
theorem V.Rdr.grownO {w w' : World} {b : Nat} {R : RS} {u : Value} {o : Option Nat} (h : V.Rdr w b R u) (hg : w.grownBy w' o) (hb : some b ≠ o) (hu : ∀ g, u.ownBlock = some g → some g ≠ o) : V.Rdr w' b R u := by
  obtain ⟨⟨hbk, hd⟩, h2⟩ := h
  have hd' : DatB 0 w u R.xs := hd
  exact ⟨⟨(hg.block b hbk.lt hb).trans hbk, hd'.keep fun g e => hg.block g (World.ownsRow.lt hd' g e).2 (hu g e)⟩, h2⟩
theorem Rf.grownO {w w' : World} {b : Nat} {R : RS} {u : Value} {all : List Int} {o : Option Nat} (h : Rf w b R u all) (hg : w.grownBy w' o) (hb : some b ≠ o) (hu : ∀ g, u.ownBlock = some g → some g ≠ o) : Rf w' b R u all := by
  obtain ⟨⟨hbk, hd⟩, h2⟩ := h
  have hd' : DatB 0 w u all := hd
  exact ⟨⟨(hg.block b hbk.lt hb).trans hbk, hd'.keep fun g e => hg.block g (World.ownsRow.lt hd' g e).2 (hu g e)⟩, h2⟩
theorem Rdr.butT {w w' : World} {b c : Nat} {R : RS} {t : TypeId} {cs : List Value} (h : Rdr w b R) (k : But w.heap.size c w w') (hc : Blk w c t cs) (ht : t ≠ 5) (hn : b ≠ c) : Rdr w' b R := by
  obtain ⟨⟨u, hb, hd⟩, h2⟩ := h
  exact ⟨⟨u, k.blk hb hb.lt hn, hd.but k hc ht⟩, h2⟩

/-- The first reader and its fellow; the present reader and its fellow. -/
structure St2 (w0 w : World) (bf bt : Nat) (A : RS) (br bo : Nat) (R : RS) (u : Value) (all : List Int) : Prop where
  f1 : Rdr w bf A
  f2 : Rf w bt A u all
  f3 : A.pure
  r1 : Rdr w br R
  r2 : Rf w bo R u all
  r3 : R.pure
  eq : (br = bf ∧ bo = bt ∧ R = A) ∨ (br ≠ bf ∧ bo ≠ bt)
  le : w0.heap.size ≤ bf ∧ w0.heap.size ≤ bt ∧ w0.heap.size ≤ br ∧ w0.heap.size ≤ bo
  bel : Below w0.heap.size w0 w
/-- The present reader has moved on, its fellow has not. -/
structure Md2 (w0 w : World) (bf bt : Nat) (A : RS) (br bo : Nat) (R R' : RS) (u : Value) (all : List Int) : Prop where
  f1 : Rdr w bf (if br = bf then R' else A)
  f2 : Rf w bt A u all
  f3 : A.pure
  r1 : Rdr w br R'
  r2 : Rf w bo R u all
  r3 : R.pure
  eq : (br = bf ∧ bo = bt ∧ R = A) ∨ (br ≠ bf ∧ bo ≠ bt)
  le : w0.heap.size ≤ bf ∧ w0.heap.size ≤ bt ∧ w0.heap.size ≤ br ∧ w0.heap.size ≤ bo
  bel : Below w0.heap.size w0 w
section
variable {w0 w w' : World} {bf bt br bo : Nat} {A R R' : RS} {u : Value} {all : List Int}
theorem St2.below (h : St2 w0 w bf bt A br bo R u all) (k : Below w.heap.size w w') : St2 w0 w' bf bt A br bo R u all :=
  ⟨h.f1.below k, h.f2.below k, h.f3, h.r1.below k, h.r2.below k, h.r3, h.eq, h.le, h.bel.trans (k.mono h.bel.size)⟩
theorem Md2.below (h : Md2 w0 w bf bt A br bo R R' u all) (k : Below w.heap.size w w') : Md2 w0 w' bf bt A br bo R R' u all :=
  ⟨h.f1.below k, h.f2.below k, h.f3, h.r1.below k, h.r2.below k, h.r3, h.eq, h.le, h.bel.trans (k.mono h.bel.size)⟩
theorem St2.left (h : St2 w0 w bf bt A br bo R u all) (r : Rdr w' br R') (k : But w.heap.size br w w') : Md2 w0 w' bf bt A br bo R R' u all := by
  obtain ⟨cs, hc⟩ := h.r1.blk
  have n1 : bt ≠ br := h.f2.1.1.ne hc (by decide)
  have n2 : bo ≠ br := h.r2.1.1.ne hc (by decide)
  refine ⟨?_, h.f2.but k hc (by decide) n1, h.f3, r, h.r2.but k hc (by decide) n2, h.r3, h.eq, h.le, But.below h.bel k h.le.2.2.1 h.bel.size⟩
  rcases h.eq with ⟨e, -, -⟩ | ⟨e, -⟩
  · subst e
    rw [if_pos rfl]
    exact r
  · rw [if_neg e]
    exact h.f1.butT k hc (by decide) (Ne.symm e)
theorem Md2.right (h : Md2 w0 w bf bt A br bo R R' u all) (r : Rf w' bo R' u all) (k : But w.heap.size bo w w') (hp : R'.pure) : ∃ A', St2 w0 w' bf bt A' br bo R' u all := by
  have hc := h.r2.1.1
  obtain ⟨cs, hr⟩ := h.r1.blk
  have n1 : br ≠ bo := hr.ne hc (by decide)
  have b2 := But.below h.bel k h.le.2.2.2 h.bel.size
  have hr1 := h.r1.butT k hc (by decide) n1
  rcases h.eq with ⟨e1, e2, e3⟩ | ⟨e1, e2⟩
  · subst e1 e2
    exact ⟨R', hr1, r, hp, hr1, r, hp, .inl ⟨rfl, rfl, rfl⟩, h.le, b2⟩
  · have hf := h.f1
    rw [if_neg e1] at hf
    obtain ⟨cf, hfc⟩ := hf.blk
    exact ⟨A, hf.butT k hc (by decide) (hfc.ne hc (by decide)), h.f2.but k hc (by decide) (Ne.symm e2), h.f3, hr1, r, hp, .inr ⟨e1, e2⟩, h.le, b2⟩
/-- Back to the first reader. -/
theorem St2.first (h : St2 w0 w bf bt A br bo R u all) : St2 w0 w bf bt A bf bt A u all := ⟨h.f1, h.f2, h.f3, h.f1, h.f2, h.f3, .inl ⟨rfl, rfl, rfl⟩, ⟨h.le.1, h.le.2.1, h.le.1, h.le.2.1⟩, h.bel⟩
/-- On to another reader. -/
theorem St2.other (h : St2 w0 w bf bt A br bo R u all) {c d : Nat} {S : RS} (r1 : Rdr w c S) (r2 : Rf w d S u all) (hp : S.pure) (hc : c ≠ bf) (hd : d ≠ bt) (l1 : w0.heap.size ≤ c) (l2 : w0.heap.size ≤ d) : St2 w0 w bf bt A c d S u all :=
  ⟨h.f1, h.f2, h.f3, r1, r2, hp, .inr ⟨hc, hd⟩, ⟨h.le.1, h.le.2.1, l1, l2⟩, h.bel⟩
end

theorem sz_le (k : Nat) : 1 ≤ sz k ∧ sz k ≤ 8 := by
  unfold sz
  split <;> decide
theorem sizes_is (w : World) : Calls Try.prog 12 #[] w fun e w' => e = .returned (.slice (some ⟨w.heap.size, 0, none⟩) 6 6) ∧ w' = w.alloc (.cells #[.int .i64 1, .int .i64 2, .int .i64 3, .int .i64 4, .int .i64 6, .int .i64 8] 3) := by
  go_enter Try.func12, Try.ntmps12
  go_wp2
  go_ret
  exact ⟨rfl, rfl⟩
theorem sizes_cell (w : World) (k : Nat) (h : k < 6) : (w.alloc (.cells #[.int .i64 1, .int .i64 2, .int .i64 3, .int .i64 4, .int .i64 6, .int .i64 8] 3)).cell? ⟨w.heap.size, k, none⟩ = some (.int .i64 (sz k : Nat)) := by
  rw [World.cell?_alloc_at _ _ _ _ rfl]
  match k, h with
  | 0, _ => rfl
  | 1, _ => rfl
  | 2, _ => rfl
  | 3, _ => rfl
  | 4, _ => rfl
  | 5, _ => rfl
theorem reads_long (w : World) (v0 v3 : Value) (xs : List Int) (m : Nat) (K N : Nat → Int) (h0 : Seg w v0 xs) (h3 : Prs w v3 m K N) (hl : 400 < xs.length ∨ 60 < m)  :
    Calls Try.prog 4 #[v0, v3] w fun e w' => e = .returned (.bool true) ∧ Below w.heap.size w w' := by
  obtain ⟨a, c, rfl, -, -⟩ := h0
  obtain ⟨a3, c3, rfl, -⟩ := h3
  by_cases h : 400 < xs.length
  · have hq : (400 : Int) < xs.length := by omega
    go_enter Try.func4, Try.ntmps4
    go_wp2_with fail
    go_at_call 5
    refine (lives_is w).mono ?_
    rintro e' w1 ⟨rfl, B1⟩
    go_wp2
    go_ret
    exact ⟨rfl, B1⟩
  · have hq : ¬ (400 : Int) < xs.length := by omega
    have hr : (60 : Int) < m := by omega
    go_enter Try.func4, Try.ntmps4
    go_wp2_with fail
    go_at_call 5
    refine (lives_is w).mono ?_
    rintro e' w1 ⟨rfl, B1⟩
    go_wp2
    go_ret
    exact ⟨rfl, B1⟩

set_option maxHeartbeats 4000000 in
theorem reads_walk (w : World) (v0 v3 : Value) (xs : List Int) (m : Nat) (K N : Nat → Int) (h0 : Seg w v0 xs) (ho : Oct xs) (h3 : Prs w v3 m K N) (hl : xs.length ≤ 400) (hm : m ≤ 60) :
    Calls Try.prog 4 #[v0, v3] w fun e w' => e = .returned (.bool true) ∧ Below w.heap.size w w' := by
  have S0 := h0
  obtain ⟨a, c, rfl, -, -⟩ := h0
  obtain ⟨a3, c3, rfl, h3⟩ := h3
  have q1 : ¬ (400 : Int) < xs.length := by omega
  have q2 : ¬ (60 : Int) < m := by omega
  go_enter Try.func4, Try.ntmps4
  go_wp2_with fail
  go_at_call 5
  refine (lives_is w).mono ?_
  rintro e' w1 ⟨rfl, B1⟩
  go_wp2_with fail
  go_at_call 14
  refine (own_is w1 _ xs (S0.below B1) (by omega)).mono ?_
  rintro e' w2 ⟨vi, rfl, D2, k2⟩
  have B2 := B1.trans (k2.mono B1.size)
  have o2 : ∀ g, vi.ownBlock = some g → w.heap.size ≤ g ∧ g < w2.heap.size := fun g hg => by
    have := World.ownsRow.lt D2 g hg
    have := B1.size
    omega
  clear k2
  go_wp2_with fail
  go_at_call 23
  refine (rd_NewB w2 _ xs D2.dat.seg ho (by omega)).mono ?_
  rintro e' w3 ⟨bf, uf, rfl, hbf, R3, hu3, k3⟩
  have B3 := B2.trans (k3.mono B2.size)
  have D3 := D2.below k3
  have l3 := k3.size
  clear k3 B1 D2
  go_wp2_with fail
  go_at_call 24
  refine (rf_New w3 _ xs (S0.below B3) ho (by omega)).mono ?_
  rintro e' w4 ⟨bt, ut, rfl, hbt, F4, hu4, k4⟩
  have B4 := B3.trans (k4.mono B3.size)
  have D4 := D3.below k4
  have R4 := R3.below k4
  have hF := B2.size
  clear k4 B3 D3 R3
  have D4' := D4.dat
  obtain ⟨ai, ci, hvi⟩ := D4'.shape
  subst hvi
  go_wp2_with fail
  go_loopw [8] (fun vj wr => ∃ j : Nat, j ≤ xs.length ∧ vj = .int .i64 j ∧ w4.grownBy wr (Value.slice ai xs.length ci).ownBlock ∧ ((Value.slice ai xs.length ci = .slice none 0 0 ∧ xs.length = 0) ∨ ∃ g cap cs, Value.slice ai xs.length ci = .slice (some ⟨g, 0, none⟩) xs.length cap ∧ xs.length ≤ cs.length ∧ Blk wr g 5 cs))
    (fun vj _ => xs.length - (intOf vj).toNat)
  case atStart =>
    refine ⟨0, Nat.zero_le _, rfl, ⟨rfl, rfl, rfl, Nat.le_refl _, fun _ _ _ => rfl⟩, ?_⟩
    rcases D4'.form with ⟨e, e0⟩ | ⟨g, cap, cs, e, h1, h2, hb, h4, h5⟩
    · exact .inl ⟨e, by rw [e0]; rfl⟩
    · exact .inr ⟨g, cap, cs, e, by omega, hb⟩
  case round =>
    obtain ⟨j, hj, rfl, hg, hv⟩ := hrel
    by_cases hlt : j < xs.length
    · rcases hv with ⟨-, e0⟩ | ⟨g, cap, cs, e, hcl, hb⟩
      · omega
      · cases e
        have hjl : (j : Int) < xs.length := by omega
        obtain ⟨uu, hu⟩ : ∃ uu, cs[j]? = some uu := ⟨_, List.getElem?_eq_getElem (by omega)⟩
        have hc := hb.cell j hu
        have hf := hb.frozen j
        have hn := hb.set j (.int .u8 77)
        have hg2 : w4.grownBy (wr.setCell ⟨g, j, none⟩ (.int .u8 77)) (some g) := ⟨hg.os, hg.tape, hg.output, by simpa [World.setCell] using hg.size, fun k hk hne => (Below.heap_setCell _ _ _ _ (fun e => hne (by rw [e]))).trans (hg.block k hk hne)⟩
        clear hg hb S0 D4 D4' R4 F4 h3 hu
        go_wp2
        exact ⟨⟨j + 1, hlt, rfl, hg2, .inr ⟨g, ci, _, rfl, by rw [List.length_set]; exact hcl, hn⟩⟩, by simp [intOf]; omega⟩
    · obtain rfl : j = xs.length := by omega
      clear hv D4 D4'
      have ob : ∀ k, w2.heap.size ≤ k → some k ≠ (Value.slice ai xs.length ci).ownBlock := fun k hk e => by
        have := (o2 k e.symm).2
        omega
      have R5 := R4.grownO hg (ob bf hbf) fun g e => ob g (hu3 g e)
      have F5 := F4.grownO hg (ob bt (by omega)) fun g e => ob g (by have := hu4 g e; omega)
      have B5 := B4.grown hg B4.size fun k hk => (o2 k hk).1
      have T5 : St2 w wr bf bt ⟨0, 0, xs, 0, 0⟩ bf bt ⟨0, 0, xs, 0, 0⟩ ut xs := ⟨R5.up, F5, fun _ => rfl, R5.up, F5, fun _ => rfl, .inl ⟨rfl, rfl, rfl⟩, ⟨by omega, by omega, by omega, by omega⟩, B5⟩
      clear R4 F4 hg ob o2 B4 B2 R5 F5 B5 S0 hu3 hu4
      generalize wr = w5 at T5 ⊢
      go_wp2_with fail
      go_loopw [9, 10, 11] (fun vr vo vi wr => ∃ (i br bo : Nat) (A R : RS), i ≤ m ∧ vr = .pointer (some ⟨br, 0, none⟩) ∧ vo = .pointer (some ⟨bo, 0, none⟩) ∧ vi = .int .i64 i ∧ St2 w wr bf bt A br bo R ut xs)
        (fun _ _ vi _ => m - (intOf vi).toNat)
      case atStart => exact ⟨0, bf, bt, _, _, Nat.zero_le _, rfl, rfl, rfl, T5⟩
      case round =>
        obtain ⟨i, br, bo, A, R, hi, rfl, rfl, rfl, T⟩ := hrel
        clear T5
        by_cases hlt : i < m
        · obtain ⟨⟨g, o, rfl, ck, cn⟩, wk, wn⟩ := h3 i hlt
          have ck' := (T.bel.cell (p := ⟨g, o + i * 2, none⟩) (block_lt_of_cell ck)).trans ck
          have hil : (i : Int) < m := by omega
          clear ck h3
          go_wp2_with fail
          go_at_call 9
          refine (pick_is (K i) 11 (by omega) (by omega) wk _).mono ?_
          rintro e' wx ⟨k, rfl, hk, hw⟩
          obtain rfl := hw.symm
          clear ck'
          by_cases h6 : k < 6
          · have z6 : (k : Int) < 6 := by omega
            go_wp2_with fail
            go_at_call 25
            refine (get_is _ br R k h6 T.r1).mono ?_
            rintro e' w7 ⟨rfl, r7, k7⟩
            have M7 := T.left r7 k7
            clear r7 k7 T
            go_wp2_with fail
            go_at_call 12
            refine (sizes_is w7).mono ?_
            rintro e' w8 ⟨rfl, hw8⟩
            have cs8 := sizes_cell w7 k h6
            rw [← hw8] at cs8
            have M8 := M7.below (w' := w8) (by rw [hw8]; exact (Below.refl _ _).alloc (Nat.le_refl _) _)
            clear hw8 M7
            go_wp2_with fail
            go_at_call 26
            refine (rf_Get w8 bo R ut xs (sz k) (sz_le k).2 M8.r2).mono ?_
            rintro e' w9 ⟨rfl, r9, k9⟩
            obtain ⟨A9, T9⟩ := M8.right r9 k9 (M8.r3.next _)
            clear r9 k9 M8 cs8
            obtain ⟨S, hS⟩ : ∃ S, S = RS.next R (sz k) := ⟨_, rfl⟩
            rw [← hS] at T9
            clear hS
            go_wp2_with fail
            refine wp_region_qb (by kernel_rfl) (by kernel_rfl) ?_
            have kd1 := cell_regrown (T9.r2.1.1.cell 1 (v := .int .i64 ((S.f : Int) + S.n)) rfl)
            have kd3 := cell_regrown (T9.r2.1.1.cell 3 (v := .int .i64 S.er) rfl)
            have kd4 := cell_regrown (T9.r2.1.1.cell 4 (v := .int .i64 S.ea) rfl)
            repeat (go_big_quiet_step (first | exact Calls.regrown_of (rd_Fault _ br _ (T9.r1.grown _ _)) | exact regrown_same ((rd_At _ br _ (T9.r1.grown _ _)).mono fun _ _ h => ⟨h.1, h.2.symm⟩) | exact Calls.regrown_of (rd_Left _ br _ (T9.r1.grown _ _)) | exact Calls.regrown_of (rf_Left _ bo _ _ _ (T9.r2.below (below_regrown _ _ _)))))
            refine wpQuiet_nil ?_
            intro wz kz
            have Tz := T9.below kz
            clear T9 kz kd1 kd3 kd4
            go_wp2
            exact ⟨⟨i + 1, _, _, _, _, hlt, rfl, rfl, rfl, Tz⟩, by simp [intOf]; omega⟩
          · have z6 : ¬ (k : Int) < 6 := by omega
            by_cases h7 : k = 6
            · subst h7
              go_wp2_with fail
              refine wp_region_selB w.heap.size [0, 1, 2, 3, 4, 5, 7, 8, 9, 10, 11, 12] 4 rfl (by kernel_rfl) (by kernel_rfl) (by kernel_rfl) (by kernel_rfl) (fun _ d _ _ _ h => by cases d <;> exact h) ?_
              intro W6 hW6
              have T6 : St2 w W6 bf bt A br bo R ut xs := T.below (by subst hW6; exact (Below.refl _ _).drew)
              have cN : ∀ q : Beh w.heap.size W6, q.w.cell? ⟨g, o + i * 2 + 1, none⟩ = some (.int .i64 (N i)) := fun q => ((T6.bel.trans q.h).cell (p := ⟨g, o + i * 2 + 1, none⟩) (block_lt_of_cell cn)).trans cn
              clear hW6 T
              simp only [pickOps, List.filterMap_cons, List.filterMap_nil, List.getElem?_cons_zero, List.getElem?_cons_succ, Option.map_some, List.map_cons, List.map_nil]
              repeat (go_big_quiet_step (fail))
              refine wpQuiet_nil ?_
              clear cN
              refine wpAnyH_one (k := 6) (by kernel_rfl) rfl (fun Kq hQ => ?_)
              go_simp
              refine (rd_Bytes W6 br R (N i) T6.r1).mono ?_
              rintro e' w7 ⟨v7, rfl, D7, r7, k7⟩
              have M7 := T6.left r7 k7
              have b7 := But.below (Below.refl w.heap.size W6) k7 T6.le.2.2.1 T6.bel.size
              refine hQ _ _ ⟨⟨_, b7⟩, rfl⟩ ?_
              clear hQ Kq r7 k7
              refine wpAnyH_one (k := 13) (by kernel_rfl) rfl (fun Kq hQ => ?_)
              go_simp
              refine (rf_Bytes w7 bo R ut xs (N i) M7.r2).mono ?_
              rintro e' w8 ⟨v8, rfl, D8, r8, k8⟩
              obtain ⟨A8, T8⟩ := M7.right r8 k8 (M7.r3.next _)
              have b8 := But.below b7 k8 M7.le.2.2.2 M7.bel.size
              have E7 : Dat w8 v7 (R.part (N i)) := D7.but k8 M7.r2.1.1 (by decide)
              refine hQ _ _ ⟨⟨_, b8⟩, rfl⟩ ?_
              clear hQ Kq r8 k8 D7
              refine wpAnyH_one (k := 14) (by kernel_rfl) rfl (fun Kq hQ => ?_)
              go_simp
              refine (same_yes w8 v7 v8 _ E7.seg D8.seg (by have := (part_oct T6.r1 (N i)).2; have := T6.r1.2.2.2; omega)).mono ?_
              rintro e' w9 ⟨rfl, k9⟩
              have T9 := T8.below k9
              have b9 := b8.trans (k9.mono T8.bel.size)
              refine hQ _ _ ⟨⟨_, b9⟩, rfl⟩ ?_
              clear hQ Kq
              refine wpAnyH_one (k := 15) (by kernel_rfl) rfl (fun Kq hQ => ?_)
              go_simp
              refine hQ _ _ ⟨⟨_, b9⟩, rfl⟩ ?_
              clear hQ Kq
              refine wpAnyH_done (by kernel_rfl) ?_ 0
              clear T6 M7 T8 b7 b8 b9 k9 E7 D8
              obtain ⟨S, hS⟩ : ∃ S, S = RS.next R (N i) := ⟨_, rfl⟩
              rw [← hS] at T9
              clear hS
              go_wp2_with fail
              refine wp_region_qb (by kernel_rfl) (by kernel_rfl) ?_
              have kd1 := cell_regrown (T9.r2.1.1.cell 1 (v := .int .i64 ((S.f : Int) + S.n)) rfl)
              have kd3 := cell_regrown (T9.r2.1.1.cell 3 (v := .int .i64 S.er) rfl)
              have kd4 := cell_regrown (T9.r2.1.1.cell 4 (v := .int .i64 S.ea) rfl)
              repeat (go_big_quiet_step (first | exact Calls.regrown_of (rd_Fault _ br _ (T9.r1.grown _ _)) | exact regrown_same ((rd_At _ br _ (T9.r1.grown _ _)).mono fun _ _ h => ⟨h.1, h.2.symm⟩) | exact Calls.regrown_of (rd_Left _ br _ (T9.r1.grown _ _)) | exact Calls.regrown_of (rf_Left _ bo _ _ _ (T9.r2.below (below_regrown _ _ _)))))
              refine wpQuiet_nil ?_
              intro wz kz
              have Tz := T9.below kz
              clear T9 kz kd1 kd3 kd4
              go_wp2
              exact ⟨⟨i + 1, _, _, _, _, hlt, rfl, rfl, rfl, Tz⟩, by simp [intOf]; omega⟩
            · have z7 : ((k : Int) == 6) = false := by simp; omega
              by_cases h8 : k = 7
              · subst h8
                go_wp2_with fail
                refine wp_region_selB w.heap.size [0, 1, 2, 3, 4, 5, 7, 8, 9, 10, 11, 12] 4 rfl (by kernel_rfl) (by kernel_rfl) (by kernel_rfl) (by kernel_rfl) (fun _ d _ _ _ h => by cases d <;> exact h) ?_
                intro W6 hW6
                have T6 : St2 w W6 bf bt A br bo R ut xs := T.below (by subst hW6; exact (Below.refl _ _).drew)
                have cN : ∀ q : Beh w.heap.size W6, q.w.cell? ⟨g, o + i * 2 + 1, none⟩ = some (.int .i64 (N i)) := fun q => ((T6.bel.trans q.h).cell (p := ⟨g, o + i * 2 + 1, none⟩) (block_lt_of_cell cn)).trans cn
                clear hW6 T
                simp only [pickOps, List.filterMap_cons, List.filterMap_nil, List.getElem?_cons_zero, List.getElem?_cons_succ, Option.map_some, List.map_cons, List.map_nil]
                repeat (go_big_quiet_step (fail))
                refine wpQuiet_nil ?_
                clear cN
                refine wpAnyH_one (k := 6) (by kernel_rfl) rfl (fun Kq hQ => ?_)
                go_simp
                refine (rd_Sub W6 br R (N i) T6.r1).mono ?_
                rintro e' w7 ⟨c', rfl, hc', s7, r7, k7⟩
                have M7 := T6.left r7 k7
                have b7 := But.below (Below.refl w.heap.size W6) k7 T6.le.2.2.1 T6.bel.size
                refine hQ _ _ ⟨⟨_, b7⟩, rfl⟩ ?_
                clear hQ Kq r7
                refine wpAnyH_one (k := 13) (by kernel_rfl) rfl (fun Kq hQ => ?_)
                go_simp
                refine (rf_Sub w7 bo R ut xs (N i) M7.r2 M7.r3).mono ?_
                rintro e' w8 ⟨d', rfl, hd', f8, r8, k8⟩
                obtain ⟨A8, T8⟩ := M7.right r8 k8 (M7.r3.next _)
                have b8 := But.below b7 k8 M7.le.2.2.2 M7.bel.size
                have s8 : Rdr w8 c' (R.sub (N i)) := by
                  obtain ⟨cs, hcs⟩ := s7.blk
                  exact s7.butT k8 M7.r2.1.1 (by decide) (hcs.ne M7.r2.1.1 (by decide))
                have T9 := T8.other s8 f8 (M7.r3.sub _) (by have := T6.f1.lt; omega) (by have := M7.f2.lt; omega) (by have := T6.bel.size; omega) (by have := M7.bel.size; omega)
                refine hQ _ _ ⟨⟨_, b8⟩, rfl⟩ ?_
                clear hQ Kq r8
                refine wpAnyH_one (k := 14) (by kernel_rfl) rfl (fun Kq hQ => ?_)
                go_simp
                refine hQ _ _ ⟨⟨_, b8⟩, rfl⟩ ?_
                clear hQ Kq
                refine wpAnyH_one (k := 15) (by kernel_rfl) rfl (fun Kq hQ => ?_)
                go_simp
                refine hQ _ _ ⟨⟨_, b8⟩, rfl⟩ ?_
                clear hQ Kq
                refine wpAnyH_done (by kernel_rfl) ?_ 0
                clear T6 M7 T8 b7 b8 k7 k8 s7 s8 f8
                obtain ⟨S, hS⟩ : ∃ S, S = RS.sub R (N i) := ⟨_, rfl⟩
                rw [← hS] at T9
                clear hS
                go_wp2_with fail
                refine wp_region_qb (by kernel_rfl) (by kernel_rfl) ?_
                have kd1 := cell_regrown (T9.r2.1.1.cell 1 (v := .int .i64 ((S.f : Int) + S.n)) rfl)
                have kd3 := cell_regrown (T9.r2.1.1.cell 3 (v := .int .i64 S.er) rfl)
                have kd4 := cell_regrown (T9.r2.1.1.cell 4 (v := .int .i64 S.ea) rfl)
                repeat (go_big_quiet_step (first | exact Calls.regrown_of (rd_Fault _ c' _ (T9.r1.grown _ _)) | exact regrown_same ((rd_At _ c' _ (T9.r1.grown _ _)).mono fun _ _ h => ⟨h.1, h.2.symm⟩) | exact Calls.regrown_of (rd_Left _ c' _ (T9.r1.grown _ _)) | exact Calls.regrown_of (rf_Left _ d' _ _ _ (T9.r2.below (below_regrown _ _ _)))))
                refine wpQuiet_nil ?_
                intro wz kz
                have Tz := T9.below kz
                clear T9 kz kd1 kd3 kd4
                go_wp2
                exact ⟨⟨i + 1, _, _, _, _, hlt, rfl, rfl, rfl, Tz⟩, by simp [intOf]; omega⟩
              · have z8 : ((k : Int) == 7) = false := by simp; omega
                by_cases h9 : k = 8
                · subst h9
                  have T9 := T.first
                  clear T
                  obtain ⟨S, hS⟩ : ∃ S, S = A := ⟨_, rfl⟩
                  rw [← hS] at T9
                  clear hS
                  go_wp2_with fail
                  refine wp_region_qb (by kernel_rfl) (by kernel_rfl) ?_
                  have kd1 := cell_regrown (T9.r2.1.1.cell 1 (v := .int .i64 ((S.f : Int) + S.n)) rfl)
                  have kd3 := cell_regrown (T9.r2.1.1.cell 3 (v := .int .i64 S.er) rfl)
                  have kd4 := cell_regrown (T9.r2.1.1.cell 4 (v := .int .i64 S.ea) rfl)
                  repeat (go_big_quiet_step (first | exact Calls.regrown_of (rd_Fault _ bf _ (T9.r1.grown _ _)) | exact regrown_same ((rd_At _ bf _ (T9.r1.grown _ _)).mono fun _ _ h => ⟨h.1, h.2.symm⟩) | exact Calls.regrown_of (rd_Left _ bf _ (T9.r1.grown _ _)) | exact Calls.regrown_of (rf_Left _ bt _ _ _ (T9.r2.below (below_regrown _ _ _)))))
                  refine wpQuiet_nil ?_
                  intro wz kz
                  have Tz := T9.below kz
                  clear T9 kz kd1 kd3 kd4
                  go_wp2
                  exact ⟨⟨i + 1, _, _, _, _, hlt, rfl, rfl, rfl, Tz⟩, by simp [intOf]; omega⟩
                · have z9 : ((k : Int) == 8) = false := by simp; omega
                  by_cases h10 : k = 9
                  · subst h10
                    have cn' := (T.bel.cell (p := ⟨g, o + i * 2 + 1, none⟩) (block_lt_of_cell cn)).trans cn
                    go_wp2_with fail
                    go_at_call 31
                    refine (rd_Fail _ br R (N i) T.r1).mono ?_
                    rintro e' w7 ⟨rfl, r7, k7⟩
                    have M7 := T.left r7 k7
                    have cn' := (M7.bel.cell (p := ⟨g, o + i * 2 + 1, none⟩) (block_lt_of_cell cn)).trans cn
                    clear r7 k7 T
                    go_wp2_with fail
                    go_at_call 32
                    refine (rf_Fail w7 bo R ut xs (N i) M7.r2).mono ?_
                    rintro e' w8 ⟨rfl, r8, k8⟩
                    obtain ⟨A9, T9⟩ := M7.right r8 k8 (M7.r3.fail _)
                    clear r8 k8 M7 cn'
                    obtain ⟨S, hS⟩ : ∃ S, S = RS.fail R (N i) := ⟨_, rfl⟩
                    rw [← hS] at T9
                    clear hS
                    go_wp2_with fail
                    refine wp_region_qb (by kernel_rfl) (by kernel_rfl) ?_
                    have kd1 := cell_regrown (T9.r2.1.1.cell 1 (v := .int .i64 ((S.f : Int) + S.n)) rfl)
                    have kd3 := cell_regrown (T9.r2.1.1.cell 3 (v := .int .i64 S.er) rfl)
                    have kd4 := cell_regrown (T9.r2.1.1.cell 4 (v := .int .i64 S.ea) rfl)
                    repeat (go_big_quiet_step (first | exact Calls.regrown_of (rd_Fault _ br _ (T9.r1.grown _ _)) | exact regrown_same ((rd_At _ br _ (T9.r1.grown _ _)).mono fun _ _ h => ⟨h.1, h.2.symm⟩) | exact Calls.regrown_of (rd_Left _ br _ (T9.r1.grown _ _)) | exact Calls.regrown_of (rf_Left _ bo _ _ _ (T9.r2.below (below_regrown _ _ _)))))
                    refine wpQuiet_nil ?_
                    intro wz kz
                    have Tz := T9.below kz
                    clear T9 kz kd1 kd3 kd4
                    go_wp2
                    exact ⟨⟨i + 1, _, _, _, _, hlt, rfl, rfl, rfl, Tz⟩, by simp [intOf]; omega⟩
                  · have z10 : ((k : Int) == 9) = false := by simp; omega
                    have T9 := T
                    clear T
                    obtain ⟨S, hS⟩ : ∃ S, S = R := ⟨_, rfl⟩
                    rw [← hS] at T9
                    clear hS
                    go_wp2_with fail
                    refine wp_region_qb (by kernel_rfl) (by kernel_rfl) ?_
                    have kd1 := cell_regrown (T9.r2.1.1.cell 1 (v := .int .i64 ((S.f : Int) + S.n)) rfl)
                    have kd3 := cell_regrown (T9.r2.1.1.cell 3 (v := .int .i64 S.er) rfl)
                    have kd4 := cell_regrown (T9.r2.1.1.cell 4 (v := .int .i64 S.ea) rfl)
                    repeat (go_big_quiet_step (first | exact Calls.regrown_of (rd_Fault _ br _ (T9.r1.grown _ _)) | exact regrown_same ((rd_At _ br _ (T9.r1.grown _ _)).mono fun _ _ h => ⟨h.1, h.2.symm⟩) | exact Calls.regrown_of (rd_Left _ br _ (T9.r1.grown _ _)) | exact Calls.regrown_of (rf_Left _ bo _ _ _ (T9.r2.below (below_regrown _ _ _)))))
                    refine wpQuiet_nil ?_
                    intro wz kz
                    have Tz := T9.below kz
                    clear T9 kz kd1 kd3 kd4
                    go_wp2
                    exact ⟨⟨i + 1, _, _, _, _, hlt, rfl, rfl, rfl, Tz⟩, by simp [intOf]; omega⟩
        · obtain rfl : i = m := by omega
          clear h3
          go_wp2
          go_ret
          exact ⟨rfl, T.bel⟩
theorem reads_any (w : World) (v0 v3 : Value) (xs : List Int) (m : Nat) (K N : Nat → Int) (h0 : Seg w v0 xs) (ho : Oct xs) (h3 : Prs w v3 m K N) :
    Calls Try.prog 4 #[v0, v3] w fun e w' => e = .returned (.bool true) ∧ Below w.heap.size w w' := by
  by_cases hl : 400 < xs.length
  · exact reads_long w v0 v3 xs m K N h0 h3 (.inl hl)
  · by_cases hm : 60 < m
    · exact reads_long w v0 v3 xs m K N h0 h3 (.inr hm)
    · exact reads_walk w v0 v3 xs m K N h0 ho h3 (by omega) (by omega)
end Go.Proofs.Ytailaenkmknpiaa
