/- The reader: its methods. No condition. -/
import Derived.Test.YtailaenkmknpiaaWNum
namespace Go.Proofs.Ytailaenkmknpiaa
open Go.RowKit
set_option linter.unusedVariables false
set_option linter.unusedSimpArgs false
set_option maxRecDepth 100000

theorem rd_U8 (w : World) (b : Nat) (R : RS) (h : Rdr w b R) : Calls Try.prog 41 #[.pointer (some ⟨b, 0, none⟩)] w fun e w' => e = .returned (.int .u64 (be (R.part 1))) ∧ Rdr w' b (R.next 1) ∧ But w.heap.size b w w' := by
  have hn := rd_num w b R 1 (by decide) h
  go_enter Try.func41, Try.ntmps41
  go_wp2_with (go_at_call 60; refine hn.mono ?_; rintro e w' ⟨rfl, r, k⟩)
  go_ret
  exact ⟨rfl, r, k⟩
theorem rd_U16 (w : World) (b : Nat) (R : RS) (h : Rdr w b R) : Calls Try.prog 40 #[.pointer (some ⟨b, 0, none⟩)] w fun e w' => e = .returned (.int .u64 (be (R.part 2))) ∧ Rdr w' b (R.next 2) ∧ But w.heap.size b w w' := by
  have hn := rd_num w b R 2 (by decide) h
  go_enter Try.func40, Try.ntmps40
  go_wp2_with (go_at_call 60; refine hn.mono ?_; rintro e w' ⟨rfl, r, k⟩)
  go_ret
  exact ⟨rfl, r, k⟩
theorem rd_U24 (w : World) (b : Nat) (R : RS) (h : Rdr w b R) : Calls Try.prog 50 #[.pointer (some ⟨b, 0, none⟩)] w fun e w' => e = .returned (.int .u64 (be (R.part 3))) ∧ Rdr w' b (R.next 3) ∧ But w.heap.size b w w' := by
  have hn := rd_num w b R 3 (by decide) h
  go_enter Try.func50, Try.ntmps50
  go_wp2_with (go_at_call 60; refine hn.mono ?_; rintro e w' ⟨rfl, r, k⟩)
  go_ret
  exact ⟨rfl, r, k⟩
theorem rd_U32 (w : World) (b : Nat) (R : RS) (h : Rdr w b R) : Calls Try.prog 51 #[.pointer (some ⟨b, 0, none⟩)] w fun e w' => e = .returned (.int .u64 (be (R.part 4))) ∧ Rdr w' b (R.next 4) ∧ But w.heap.size b w w' := by
  have hn := rd_num w b R 4 (by decide) h
  go_enter Try.func51, Try.ntmps51
  go_wp2_with (go_at_call 60; refine hn.mono ?_; rintro e w' ⟨rfl, r, k⟩)
  go_ret
  exact ⟨rfl, r, k⟩
theorem rd_U48 (w : World) (b : Nat) (R : RS) (h : Rdr w b R) : Calls Try.prog 52 #[.pointer (some ⟨b, 0, none⟩)] w fun e w' => e = .returned (.int .u64 (be (R.part 6))) ∧ Rdr w' b (R.next 6) ∧ But w.heap.size b w w' := by
  have hn := rd_num w b R 6 (by decide) h
  go_enter Try.func52, Try.ntmps52
  go_wp2_with (go_at_call 60; refine hn.mono ?_; rintro e w' ⟨rfl, r, k⟩)
  go_ret
  exact ⟨rfl, r, k⟩
theorem rd_U64 (w : World) (b : Nat) (R : RS) (h : Rdr w b R) : Calls Try.prog 53 #[.pointer (some ⟨b, 0, none⟩)] w fun e w' => e = .returned (.int .u64 (be (R.part 8))) ∧ Rdr w' b (R.next 8) ∧ But w.heap.size b w w' := by
  have hn := rd_num w b R 8 (by decide) h
  go_enter Try.func53, Try.ntmps53
  go_wp2_with (go_at_call 60; refine hn.mono ?_; rintro e w' ⟨rfl, r, k⟩)
  go_ret
  exact ⟨rfl, r, k⟩

theorem add_is (b o i : Nat) : (⟨b, o, none⟩ : Addr).add i = ⟨b, o + i, none⟩ := by
  rcases Nat.eq_zero_or_pos i with rfl | h
  · simp [Addr.add]
  · simp [Addr.add] <;> omega
theorem Dat.shape {w : World} {v : Value} {xs : List Int} (h : Dat w v xs) : ∃ a c, v = .slice a xs.length c := by
  obtain ⟨a, c, e, _⟩ := h.seg
  exact ⟨a, c, e⟩
/-- A copy of a slice's octets. -/
theorem clone_is (w : World) (v : Value) (xs : List Int) (h : Seg w v xs) (hl : xs.length ≤ 140737488355328) : Calls Try.prog 48 #[v] w fun e w' => ∃ v', e = .returned v' ∧ Dat w' v' xs ∧ Below w.heap.size w w' := by
  obtain ⟨a, c, rfl, hc, hx⟩ := h
  cases a with
  | none =>
    have h0 : xs = [] := by
      rcases xs with _ | ⟨x, r⟩
      · rfl
      · obtain ⟨b, o, e, _⟩ := hx 0 (by simp)
        cases e
    subst h0
    refine (Try.bytes_Clone_nil _ c w).mono ?_
    rintro e w' ⟨rfl, rfl⟩
    exact ⟨_, rfl, Dat.nil _, Below.refl _ _⟩
  | some p =>
    refine (Try.bytes_Clone_at p _ c xs w rfl hl ?_).mono ?_
    · intro i hi
      obtain ⟨b, o, e, hcell⟩ := hx i hi
      obtain rfl := Option.some.inj e
      rw [add_is]
      exact hcell
    · rintro e w' ⟨v', rfl, ho, -, hb⟩
      exact ⟨v', rfl, ho.mono (Nat.zero_le _), hb⟩

theorem rd_new (w : World) (f : Nat) (v : Value) (xs : List Int) (h : Seg w v xs) (ho : Oct xs) (hl : f + xs.length ≤ 1099511627776) : Calls Try.prog 49 #[.int .i64 f, v] w fun e w' => ∃ b, e = .returned (.pointer (some ⟨b, 0, none⟩)) ∧ w.heap.size ≤ b ∧ Rdr w' b ⟨f, 0, xs, 0, 0⟩ ∧ Below w.heap.size w w' := by
  have hcl := clone_is w v xs h (by omega)
  obtain ⟨a, c, rfl, hc, hx⟩ := h
  clear hx
  go_enter Try.func49, Try.ntmps49
  go_wp2_with (go_at_call 48; refine hcl.mono ?_; rintro e w1 ⟨v', rfl, hd, k⟩; obtain ⟨a', c', rfl⟩ := hd.shape)
  go_ret
  clear hcl
  refine ⟨w1.heap.size, rfl, k.size, ⟨⟨.slice a' xs.length c', ?_, hd.below ((Below.refl _ _).alloc (Nat.le_refl _) _)⟩, ho, Nat.zero_le _, hl⟩, k.alloc k.size _⟩
  have := Blk.new w1 88 (RS.cells ⟨f, 0, xs, 0, 0⟩ (.slice a' xs.length c'))
  simpa [RS.cells] using this
theorem rd_New (w : World) (v : Value) (xs : List Int) (h : Seg w v xs) (ho : Oct xs) (hl : xs.length ≤ 1099511627776) : Calls Try.prog 23 #[v] w fun e w' => ∃ b, e = .returned (.pointer (some ⟨b, 0, none⟩)) ∧ w.heap.size ≤ b ∧ Rdr w' b ⟨0, 0, xs, 0, 0⟩ ∧ Below w.heap.size w w' := by
  have hn := rd_new w 0 v xs h ho (by omega)
  go_enter Try.func23, Try.ntmps23
  go_wp2_with (go_at_call 49; refine hn.mono ?_; rintro e w' ⟨b, rfl, r⟩)
  go_ret
  exact ⟨b, rfl, r⟩

theorem part_oct {w : World} {b : Nat} {R : RS} (h : Rdr w b R) (k : Int) : Oct (R.part k) ∧ (R.part k).length ≤ R.xs.length - R.n := by
  unfold RS.part
  split
  · exact ⟨(h.2.1.drop _).take _, by simp; omega⟩
  · exact ⟨fun x hx => absurd hx (by simp), by simp⟩
theorem rd_Bytes (w : World) (b : Nat) (R : RS) (k : Int) (h : Rdr w b R) : Calls Try.prog 27 #[.pointer (some ⟨b, 0, none⟩), .int .i64 k] w fun e w' => ∃ v, e = .returned v ∧ Dat w' v (R.part k) ∧ Rdr w' b (R.next k) ∧ But w.heap.size b w w' := by
  have ht := rd_take w b R k h
  have hp := part_oct h k
  have h4 := h.2.2.2
  go_enter Try.func27, Try.ntmps27
  go_wp2_with (go_at_call 55; refine ht.mono ?_; rintro e w1 ⟨v, rfl, hs, r, k1⟩; clear ht)
  go_at_call 48
  refine (clone_is w1 v _ hs (by omega)).mono ?_
  rintro e w2 ⟨v', rfl, hd, k2⟩
  go_wp2
  go_ret
  exact ⟨v', rfl, hd, r.below k2, k1.then (.of_below k2)⟩

theorem rd_Left (w : World) (b : Nat) (R : RS) (h : Rdr w b R) : Calls Try.prog 33 #[.pointer (some ⟨b, 0, none⟩)] w fun e w' => e = .returned (.int .i64 ((R.xs.length : Int) - R.n)) ∧ Below w.heap.size w w' := by
  have hl := rd_left w b R h
  go_enter Try.func33, Try.ntmps33
  go_wp2_with (go_at_call 56; refine (rd_valid _ _ _ (by assumption)).mono ?_; rintro e w' ⟨rfl, hw⟩; obtain rfl := hw.symm)
  go_at_call 58
  refine hl.mono ?_
  rintro e w1 ⟨rfl, k1⟩
  go_wp2
  go_ret
  exact ⟨rfl, k1⟩
theorem rd_At (w : World) (b : Nat) (R : RS) (h : Rdr w b R) : Calls Try.prog 35 #[.pointer (some ⟨b, 0, none⟩)] w fun e w' => e = .returned (.int .i64 ((R.f : Int) + R.n)) ∧ w' = w := by
  have h0 := h
  obtain ⟨⟨v, hb, hd⟩, h1, h2, h3⟩ := h
  have c1 := hb.cell 1 (v := .int .i64 ((R.f : Int) + R.n)) rfl
  go_enter Try.func35, Try.ntmps35
  go_wp2_with (go_at_call 56; refine (rd_valid _ _ _ (by assumption)).mono ?_; rintro e w' ⟨rfl, hw⟩; obtain rfl := hw.symm)
  go_ret
  exact ⟨rfl, rfl⟩
theorem rd_Fault (w : World) (b : Nat) (R : RS) (h : Rdr w b R) : Calls Try.prog 36 #[.pointer (some ⟨b, 0, none⟩)] w fun e w' => e = .returned (.agg #[.int .i64 R.er, .int .i64 R.ea]) ∧ Below w.heap.size w w' := by
  have h1 := h.below ((Below.refl _ _).alloc (Nat.le_refl _) (.cells #[.int .i64 0, .int .i64 0] 66))
  have z := h.lt
  obtain ⟨⟨v, hb, hd⟩, -⟩ := h
  have c5 := hb.cell 5 (v := .int .i64 R.er) rfl
  have c6 := hb.cell 6 (v := .int .i64 R.ea) rfl
  go_enter Try.func36, Try.ntmps36
  go_wp2_with (go_at_call 56; refine (rd_valid _ _ _ (by assumption)).mono ?_; rintro e w' ⟨rfl, hw⟩; obtain rfl := hw.symm)
  go_returns
  exact ⟨rfl, (Below.refl _ _).alloc (Nat.le_refl _) _⟩

/-- The reader of the next k bytes. -/
def RS.sub (R : RS) (k : Int) : RS := ⟨R.f + R.n, 0, R.part k, (R.next k).er, (R.next k).ea⟩
theorem rd_Sub (w : World) (b : Nat) (R : RS) (k : Int) (h : Rdr w b R) : Calls Try.prog 29 #[.pointer (some ⟨b, 0, none⟩), .int .i64 k] w fun e w' => ∃ c, e = .returned (.pointer (some ⟨c, 0, none⟩)) ∧ w.heap.size ≤ c ∧ Rdr w' c (R.sub k) ∧ Rdr w' b (R.next k) ∧ But w.heap.size b w w' := by
  have ht := rd_take w b R k h
  have hp := part_oct h k
  have h0 := h
  obtain ⟨⟨v, hb, hd⟩, h1, h2, h3⟩ := h
  have c1 := hb.cell 1 (v := .int .i64 ((R.f : Int) + R.n)) rfl
  go_enter Try.func29, Try.ntmps29
  go_wp2_with (go_at_call 56; refine (rd_valid _ _ _ (by assumption)).mono ?_; rintro e w' ⟨rfl, hw⟩; obtain rfl := hw.symm)
  go_at_call 55
  refine ht.mono ?_
  rintro e w1 ⟨v1, rfl, hs, r1, k1⟩
  clear ht hd hb c1
  have hn := rd_new w1 (R.f + R.n) v1 _ hs hp.1 (by omega)
  go_wp2_with fail
  go_at_call 49
  refine hn.mono ?_
  rintro e w2 ⟨c, rfl, hc, r2, k2⟩
  have r1' := r1.below k2
  have hcb : c ≠ b := fun e => by have := r1.lt; omega
  obtain ⟨⟨u, hu, hud⟩, hu2⟩ := r2
  obtain ⟨⟨x, hx, hxd⟩, hx2⟩ := r1'
  have c5 := hx.cell 5 (v := .int .i64 (R.next k).er) rfl
  have c6 := hx.cell 6 (v := .int .i64 (R.next k).ea) rfl
  have d5 := hu.cell 5 (v := .int .i64 0) rfl
  have d6 := hu.cell 6 (v := .int .i64 0) rfl
  have f5 := hu.frozen 5
  have f6 := hu.frozen 6
  go_wp2
  go_ret
  refine ⟨c, rfl, Nat.le_trans k1.size hc, ⟨⟨u, ?_, Dat.set (Dat.set hud hu (by decide) 5 _) (hu.set 5 _) (by decide) 6 _⟩, hu2⟩, ⟨⟨x, (hx.set_other 5 _ hcb).set_other 6 _ hcb, Dat.set (Dat.set hxd hu (by decide) 5 _) (hu.set 5 _) (by decide) 6 _⟩, hx2⟩, ?_⟩
  · exact (hu.set 5 _).set 6 _
  · have k3 : But w1.heap.size b w1 w2 := .of_below k2
    refine (k1.then k3).trans (.of_below ?_)
    exact ((Below.refl _ _).setCell (by show w.heap.size ≤ c; have := k1.size; omega) _).setCell (by show w.heap.size ≤ c; have := k1.size; omega) _
end Go.Proofs.Ytailaenkmknpiaa
