/- The reader: its methods. No condition. -/
import Derived.Test.YtgpjelcihmbiiaaWNum
namespace Go.Proofs.Ytgpjelcihmbiiaa
open Go.RowKit
set_option linter.unusedVariables false
set_option linter.unusedSimpArgs false
set_option maxRecDepth 100000

theorem rd_U8 (w : World) (b : Nat) (R : RS) (h : Rdr w b R) : Calls Try.prog 75 #[.pointer (some ⟨b, 0, none⟩)] w fun e w' => e = .returned (.int .u64 (be (R.part 1))) ∧ Rdr w' b (R.next 1) ∧ But w.heap.size b w w' := by
  have hn := rd_num w b R 1 (by decide) h
  go_enter Try.func75, Try.ntmps75
  go_wp2_with (go_at_call 89; refine hn.mono ?_; rintro e w' ⟨rfl, r, k⟩)
  go_ret
  exact ⟨rfl, r, k⟩
theorem rd_U16 (w : World) (b : Nat) (R : RS) (h : Rdr w b R) : Calls Try.prog 78 #[.pointer (some ⟨b, 0, none⟩)] w fun e w' => e = .returned (.int .u64 (be (R.part 2))) ∧ Rdr w' b (R.next 2) ∧ But w.heap.size b w w' := by
  have hn := rd_num w b R 2 (by decide) h
  go_enter Try.func78, Try.ntmps78
  go_wp2_with (go_at_call 89; refine hn.mono ?_; rintro e w' ⟨rfl, r, k⟩)
  go_ret
  exact ⟨rfl, r, k⟩
theorem rd_U24 (w : World) (b : Nat) (R : RS) (h : Rdr w b R) : Calls Try.prog 76 #[.pointer (some ⟨b, 0, none⟩)] w fun e w' => e = .returned (.int .u64 (be (R.part 3))) ∧ Rdr w' b (R.next 3) ∧ But w.heap.size b w w' := by
  have hn := rd_num w b R 3 (by decide) h
  go_enter Try.func76, Try.ntmps76
  go_wp2_with (go_at_call 89; refine hn.mono ?_; rintro e w' ⟨rfl, r, k⟩)
  go_ret
  exact ⟨rfl, r, k⟩
theorem rd_U32 (w : World) (b : Nat) (R : RS) (h : Rdr w b R) : Calls Try.prog 77 #[.pointer (some ⟨b, 0, none⟩)] w fun e w' => e = .returned (.int .u64 (be (R.part 4))) ∧ Rdr w' b (R.next 4) ∧ But w.heap.size b w w' := by
  have hn := rd_num w b R 4 (by decide) h
  go_enter Try.func77, Try.ntmps77
  go_wp2_with (go_at_call 89; refine hn.mono ?_; rintro e w' ⟨rfl, r, k⟩)
  go_ret
  exact ⟨rfl, r, k⟩
theorem rd_U48 (w : World) (b : Nat) (R : RS) (h : Rdr w b R) : Calls Try.prog 79 #[.pointer (some ⟨b, 0, none⟩)] w fun e w' => e = .returned (.int .u64 (be (R.part 6))) ∧ Rdr w' b (R.next 6) ∧ But w.heap.size b w w' := by
  have hn := rd_num w b R 6 (by decide) h
  go_enter Try.func79, Try.ntmps79
  go_wp2_with (go_at_call 89; refine hn.mono ?_; rintro e w' ⟨rfl, r, k⟩)
  go_ret
  exact ⟨rfl, r, k⟩
theorem rd_U64 (w : World) (b : Nat) (R : RS) (h : Rdr w b R) : Calls Try.prog 74 #[.pointer (some ⟨b, 0, none⟩)] w fun e w' => e = .returned (.int .u64 (be (R.part 8))) ∧ Rdr w' b (R.next 8) ∧ But w.heap.size b w w' := by
  have hn := rd_num w b R 8 (by decide) h
  go_enter Try.func74, Try.ntmps74
  go_wp2_with (go_at_call 89; refine hn.mono ?_; rintro e w' ⟨rfl, r, k⟩)
  go_ret
  exact ⟨rfl, r, k⟩

theorem add_is (b o i : Nat) : (⟨b, o, none⟩ : Addr).add i = ⟨b, o + i, none⟩ := by
  rcases Nat.eq_zero_or_pos i with rfl | h
  · simp [Addr.add]
  · simp [Addr.add] <;> omega
theorem Dat.shape {w : World} {v : Value} {xs : List Int} (h : Dat w v xs) : ∃ a c, v = .slice a xs.length c := by
  obtain ⟨a, c, e, _⟩ := h.seg
  exact ⟨a, c, e⟩
/-- A copy of a slice's octets. -/
theorem clone_is (w : World) (v : Value) (xs : List Int) (h : Seg w v xs) (hl : xs.length ≤ 140737488355328) : Calls Try.prog 66 #[v] w fun e w' => ∃ v', e = .returned v' ∧ Dat w' v' xs ∧ Below w.heap.size w w' := by
  obtain ⟨a, c, rfl, hc, hx⟩ := h
  cases a with
  | none =>
    have h0 : xs = [] := by
      rcases xs with _ | ⟨x, r⟩
      · rfl
      · obtain ⟨b, o, e, _⟩ := hx 0 (by simp)
        cases e
    subst h0
    refine (Try.bytes_Clone_nil _ c w).mono ?_
    rintro e w' ⟨rfl, rfl⟩
    exact ⟨_, rfl, Dat.nil _, Below.refl _ _⟩
  | some p =>
    refine (Try.bytes_Clone_at p _ c xs w rfl hl ?_).mono ?_
    · intro i hi
      obtain ⟨b, o, e, hcell⟩ := hx i hi
      obtain rfl := Option.some.inj e
      rw [add_is]
      exact hcell
    · rintro e w' ⟨v', rfl, ho, -, hb⟩
      exact ⟨v', rfl, ho.mono (Nat.zero_le _), hb⟩

theorem rd_new (w : World) (f : Nat) (v : Value) (xs : List Int) (h : Seg w v xs) (ho : Oct xs) (hl : f + xs.length ≤ 1099511627776) : Calls Try.prog 88 #[.int .i64 f, v] w fun e w' => ∃ b, e = .returned (.pointer (some ⟨b, 0, none⟩)) ∧ w.heap.size ≤ b ∧ Rdr w' b ⟨f, 0, xs, 0, 0⟩ ∧ Below w.heap.size w w' := by
  have hcl := clone_is w v xs h (by omega)
  obtain ⟨a, c, rfl, hc, hx⟩ := h
  clear hx
  go_enter Try.func88, Try.ntmps88
  go_wp2_with (go_at_call 66; refine hcl.mono ?_; rintro e w1 ⟨v', rfl, hd, k⟩; obtain ⟨a', c', rfl⟩ := hd.shape)
  go_ret
  clear hcl
  refine ⟨w1.heap.size, rfl, k.size, ⟨⟨.slice a' xs.length c', ?_, hd.below ((Below.refl _ _).alloc (Nat.le_refl _) _)⟩, ho, Nat.zero_le _, hl⟩, k.alloc k.size _⟩
  have := Blk.new w1 132 (RS.cells ⟨f, 0, xs, 0, 0⟩ (.slice a' xs.length c'))
  simpa [RS.cells] using this
theorem rd_New (w : World) (v : Value) (xs : List Int) (h : Seg w v xs) (ho : Oct xs) (hl : xs.length ≤ 1099511627776) : Calls Try.prog 73 #[v] w fun e w' => ∃ b, e = .returned (.pointer (some ⟨b, 0, none⟩)) ∧ w.heap.size ≤ b ∧ Rdr w' b ⟨0, 0, xs, 0, 0⟩ ∧ Below w.heap.size w w' := by
  have hn := rd_new w 0 v xs h ho (by omega)
  go_enter Try.func73, Try.ntmps73
  go_wp2_with (go_at_call 88; refine hn.mono ?_; rintro e w' ⟨b, rfl, r⟩)
  go_ret
  exact ⟨b, rfl, r⟩

theorem part_oct {w : World} {b : Nat} {R : RS} (h : Rdr w b R) (k : Int) : Oct (R.part k) ∧ (R.part k).length ≤ R.xs.length - R.n := by
  unfold RS.part
  split
  · exact ⟨(h.2.1.drop _).take _, by simp; omega⟩
  · exact ⟨fun x hx => absurd hx (by simp), by simp⟩
/-- The reader of the next k bytes. -/
def RS.sub (R : RS) (k : Int) : RS := ⟨R.f + R.n, 0, R.part k, (R.next k).er, (R.next k).ea⟩
end Go.Proofs.Ytgpjelcihmbiiaa
