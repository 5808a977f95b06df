/- The reference's reader: numbers, bytes, parts, a new one. No condition. -/
import Derived.Test.YtailaenkmknpiaaRRf
namespace Go.Proofs.Ytailaenkmknpiaa
open Go.RowKit Go.Sort
set_option linter.unusedVariables false
set_option linter.unusedSimpArgs false
set_option maxRecDepth 100000

theorem RS.part_len (R : RS) (k : Nat) (hk : R.ok k) : (R.part k).length = k := by
  obtain ⟨k0, k1, k2⟩ := hk
  have e1 : R.part k = (R.xs.drop R.n).take (k : Int).toNat := if_pos ⟨k0, k1, k2⟩
  rw [e1]
  simp
  omega
set_option maxHeartbeats 4000000 in
theorem rf_Get_ok (w : World) (b : Nat) (R : RS) (u : Value) (all : List Int) (k : Nat) (hk8 : k ≤ 8) (h : Rf w b R u all) (hk : R.ok k) : Calls Try.prog 26 #[.pointer (some ⟨b, 0, none⟩), .int .i64 k] w fun e w' => e = .returned (.int .u64 (be (R.part k))) ∧ Rf w' b (R.next k) u all ∧ But w.heap.size b w w' := by
  have ho : Oct (R.part k) := by
    have : Oct R.xs := by rw [← h.2.2.1]; exact (h.2.1.drop _).take _
    have e1 : R.part k = (R.xs.drop R.n).take (k : Int).toNat := if_pos hk
    rw [e1]
    exact (this.drop _).take _
  have hl := R.part_len k hk
  have en : R.next k = R.adv k := by
    have : R.next k = R.adv (k : Int).toNat := if_pos hk
    simpa using this
  have hyes := rf_Has_yes w b R u all k h hk
  obtain ⟨k0, k1, k2⟩ := hk
  have ep : R.part k = (all.drop (R.f + R.n)).take k := by
    have e1 : R.part k = (R.xs.drop R.n).take (k : Int).toNat := if_pos ⟨k0, k1, k2⟩
    rw [e1, Int.toNat_natCast]
    exact part_all h.2.2.1 (by omega)
  rw [en]
  obtain ⟨a, c, hu⟩ := h.1.2.shape
  subst hu
  go_enter Try.func26, Try.ntmps26
  go_wp2_with fail
  go_at_call 54
  refine hyes.mono ?_
  rintro e w1 ⟨rfl, k1'⟩
  have h1 := h.below k1'
  have K1 := But.of_below (b := b) k1'
  clear h k1' hyes
  generalize hxs : R.part k = xs at ho hl ep ⊢
  go_wp2_with fail
  go_loopw [5, 6] (fun va vi wr => ∃ (j : Nat) (m : Int), j ≤ k ∧ va = .int .u64 m ∧ vi = .int .i64 j ∧ Hid (m = (be (xs.take j) : Nat)) ∧ Rf wr b (R.adv j) (.slice a all.length c) all ∧ But w.heap.size b w wr)
    (fun _ vi _ => k - (intOf vi).toNat)
  case atStart => exact ⟨0, 0, Nat.zero_le _, rfl, rfl, rfl, h1, K1⟩
  case round =>
    obtain ⟨j, m, hj, rfl, rfl, hh, hR, hB⟩ := hrel
    by_cases hlt : j < k
    · have hm := hh.out
      have hb := be_take_lt _ ho j (by omega)
      have hd := ho.getD j
      have m1 : m < 72057594037927936 := by
        have := Nat.pow_le_pow_right (n := 256) (by decide) (show j ≤ 7 by omega)
        have e : (256 : Nat) ^ 7 = 72057594037927936 := by decide
        omega
      have m0 : 0 ≤ m := by omega
      have hjl : (j : Int) < k := by omega
      have hst := take_step xs j (by omega)
      have hp : R.f + R.n + j < all.length := by have := hR.2.2.2.1; have : R.f + R.xs.length ≤ all.length := this; omega
      have hpi : ((R.f + R.n + j : Nat) : Int) < all.length := by omega
      have hy : xs.getD j 0 = all.getD (R.f + R.n + j) 0 := by
        rw [ep]
        exact getD_part all (R.f + R.n) k j hlt
      obtain ⟨p, hpe⟩ : ∃ p, p = R.f + R.n + j := ⟨_, rfl⟩
      have hpw : (p : Int) ≤ 1048576 := by have : all.length ≤ 1048576 := hR.2.2.2.2.2; omega
      rw [← hpe] at hp hpi hy
      have hR0 := hR
      obtain ⟨⟨hbk, hdt⟩, hr2⟩ := hR
      have c0 := hbk.cell 0 (v := .slice a all.length c) rfl
      have c1 : wr.cell? ⟨b, 1, none⟩ = some (.int .i64 (p : Nat)) := by
        have := hbk.cell 1 (v := .int .i64 ((R.f : Int) + ((R.n + j : Nat) : Int))) rfl
        rw [this]
        congr 2
        omega
      have f1 := hbk.frozen 1
      obtain ⟨g, cap, hsl⟩ : ∃ g cap, (Value.slice a all.length c) = .slice (some ⟨g, 0, none⟩) all.length cap := by
        rcases hdt.form with ⟨-, e⟩ | ⟨g, cap, cs, e, -⟩
        · rw [e] at hp
          simp at hp
        · exact ⟨g, cap, e⟩
      have hcell := hdt.at hsl p hp
      rw [← hy] at hcell
      generalize hyy : xs.getD j 0 = y at hcell hd hst
      cases hsl
      have hnx : Rf ((wr.drewN 1).setCell ⟨b, 1, none⟩ (.int .i64 ((p : Int) + 1))) b (R.adv (j + 1)) (.slice (some ⟨g, 0, none⟩) all.length c) all := by
        obtain ⟨r2, r3, r4, r5, r6⟩ := hr2
        have e1 : (p : Int) + 1 = (R.f : Int) + ((R.n + (j + 1) : Nat) : Int) := by omega
        refine ⟨⟨?_, Dat.set (w := wr.drewN 1) hdt hbk (by decide) 1 _⟩, r2, r3, r4, by show R.n + (j + 1) ≤ R.xs.length; omega, r6⟩
        have := Blk.set (w := wr.drewN 1) hbk 1 (.int .i64 ((p : Int) + 1))
        rw [e1] at this ⊢
        exact this
      have hbt : ∀ n, But w.heap.size b w ((wr.drewN n).setCell ⟨b, 1, none⟩ (.int .i64 ((p : Int) + 1))) := fun n => (hB.trans (.of_below (below_drewN _ _ _))).setCell _ _
      have hnx2 : ∀ n, Rf ((wr.drewN n).setCell ⟨b, 1, none⟩ (.int .i64 ((p : Int) + 1))) b (R.adv (j + 1)) (.slice (some ⟨g, 0, none⟩) all.length c) all := fun n => hnx
      clear hnx hR0 hdt hbk hr2 hB hh hy hpe h1 K1 ep
      go_wp2_with fail
      go_quiet (fail)
      go_wp2
      refine ⟨⟨j + 1, m * 256 + y, hlt, by rw [← hm], rfl, ?_, hnx2 _, hbt _⟩, by simp [intOf]; omega⟩
      show m * 256 + y = _
      rw [hst, be_snoc]
      omega
    · have hm : m = (be (xs.take j) : Nat) := hh.out
      obtain rfl : j = k := by omega
      rw [List.take_of_length_le (by omega)] at hm
      clear hh h1 K1 ep
      go_wp2
      go_ret
      subst hm
      exact ⟨by rw [hxs]; rfl, hR, hB⟩
theorem rf_Get (w : World) (b : Nat) (R : RS) (u : Value) (all : List Int) (k : Nat) (hk8 : k ≤ 8) (h : Rf w b R u all) : Calls Try.prog 26 #[.pointer (some ⟨b, 0, none⟩), .int .i64 k] w fun e w' => e = .returned (.int .u64 (be (R.part k))) ∧ Rf w' b (R.next k) u all ∧ But w.heap.size b w w' := by
  by_cases hk : R.ok k
  · exact rf_Get_ok w b R u all k hk8 h hk
  · have hno := rf_Has_no w b R u all k h hk
    have e1 : R.part k = [] := if_neg hk
    rw [e1, show be [] = 0 from rfl]
    go_enter Try.func26, Try.ntmps26
    go_wp2_with (go_at_call 54; refine hno.mono ?_; rintro e w1 ⟨rfl, h1, k1⟩; clear hno)
    go_ret
    exact ⟨rfl, h1, k1⟩
end Go.Proofs.Ytailaenkmknpiaa
