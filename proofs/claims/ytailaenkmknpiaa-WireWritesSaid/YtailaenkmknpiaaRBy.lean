/- The reference's reader: bytes, parts, a new one. No condition. -/
import Derived.Test.YtailaenkmknpiaaRGt
namespace Go.Proofs.Ytailaenkmknpiaa
open Go.RowKit Go.Sort
set_option linter.unusedVariables false
set_option linter.unusedSimpArgs false
set_option maxRecDepth 100000

set_option maxHeartbeats 4000000 in
theorem rf_Bytes (w : World) (b : Nat) (R : RS) (u : Value) (all : List Int) (k : Int) (h : Rf w b R u all) : Calls Try.prog 28 #[.pointer (some ⟨b, 0, none⟩), .int .i64 k] w fun e w' => ∃ v, e = .returned v ∧ Dat w' v (R.part k) ∧ Rf w' b (R.next k) u all ∧ But w.heap.size b w w' := by
  by_cases hk : R.ok k
  · have hyes := rf_Has_yes w b R u all k h hk
    have en : R.next k = R.adv k.toNat := if_pos hk
    have ep0 : R.part k = (R.xs.drop R.n).take k.toNat := if_pos hk
    obtain ⟨k0, k1, k2⟩ := hk
    have hn0 := h.2.2.2.2.1
    have ep : R.part k = (all.drop (R.f + R.n)).take k.toNat := by
      rw [ep0]
      exact part_all h.2.2.1 (by omega)
    rw [en, ep]
    clear en ep ep0
    obtain ⟨n, rfl⟩ : ∃ n : Nat, k = n := ⟨k.toNat, by omega⟩
    rw [Int.toNat_natCast]
    obtain ⟨p, hpe⟩ : ∃ p, p = R.f + R.n := ⟨_, rfl⟩
    rw [← hpe]
    obtain ⟨a, c, hu⟩ := h.1.2.shape
    subst hu
    go_enter Try.func28, Try.ntmps28
    go_wp2_with fail
    go_at_call 54
    refine hyes.mono ?_
    rintro e w1 ⟨rfl, k1'⟩
    have h1 := h.below k1'
    have K1 := But.of_below (b := b) k1'
    clear h k1' hyes
    obtain ⟨⟨hbk, hdt⟩, r2, r3, r4, r5, r6⟩ := h1
    have hall : p + n ≤ all.length := by omega
    have c1 : w1.cell? ⟨b, 1, none⟩ = some (.int .i64 (p : Nat)) := by
      have := hbk.cell 1 (v := .int .i64 ((R.f : Int) + R.n)) rfl
      rw [this]
      congr 2
      omega
    have f1 := hbk.frozen 1
    have e1 : (p : Int) + n = (R.f : Int) + ((R.n + n : Nat) : Int) := by omega
    have hb2 : Blk (w1.setCell ⟨b, 1, none⟩ (.int .i64 ((p : Int) + n))) b 68 ((R.adv n).rcells (.slice a all.length c)) := by
      have := hbk.set 1 (.int .i64 ((p : Int) + n))
      rw [e1] at this ⊢
      exact this
    have hd2 : Dat (w1.setCell ⟨b, 1, none⟩ (.int .i64 ((p : Int) + n))) (.slice a all.length c) all := Dat.set hdt hbk (by decide) 1 _
    have K2 : But w.heap.size b w (w1.setCell ⟨b, 1, none⟩ (.int .i64 ((p : Int) + n))) := K1.setCell _ _
    clear hdt hbk K1
    have HP := Lib.hid hpe
    have E1 := Lib.hid e1
    clear hpe e1
    go_wp2_with fail
    generalize hW2 : w1.setCell ⟨b, 1, none⟩ (.int .i64 ((p : Int) + n)) = w2 at hb2 hd2 K2 ⊢
    clear hW2 c1 f1
    refine wp_region_selB w2.heap.size [1, 2, 3, 4, 5, 6, 7, 8, 9, 10, 11, 12, 13, 14, 15] 3 rfl (by kernel_rfl) (by kernel_rfl) (by kernel_rfl) (by kernel_rfl) (fun _ d _ _ _ h => by cases d <;> exact h) ?_
    intro W2 hW2
    have d2 : Below w2.heap.size w2 W2 := by subst hW2; exact (Below.refl _ _).drew
    have c0 : ∀ q : Beh w2.heap.size W2, q.w.cell? ⟨b, 0, none⟩ = some (.slice a all.length c) := fun q => Blk.cell (Blk.below (hb2.below d2 hb2.lt) q.h hb2.lt) 0 rfl
    have c1 : ∀ q : Beh w2.heap.size W2, q.w.cell? ⟨b, 1, none⟩ = some (.int .i64 ((p : Int) + n)) := fun q => Blk.cell (Blk.below (hb2.below d2 hb2.lt) q.h hb2.lt) 1 (by rw [E1.out]; rfl)
    obtain ⟨v', hs, hseg⟩ := dat_slice hd2 p n hall
    have hs' : ∀ q : Beh w2.heap.size W2, (Instr.slice 33 (.slice a all.length c) (some (.int .i64 (p : Nat))) (some (.int .i64 ((p : Int) + n))) none).run Try.prog q.w = .ok v' q.w := fun q => by
      have hq : Dat q.w (.slice a all.length c) all := hd2.below (d2.trans q.h)
      obtain ⟨v2, hs2, -⟩ := dat_slice hq p n hall
      have : v2 = v' := by
        have ht : Try.prog.underlying 33 = some (.slice (Try.prog.elem 33)) := by rw [elem_bytes]; exact Try.underlying33
        have es : ∀ w, (sizeOf (Try.prog.elem 33)).run Try.prog w = .ok 1 w := fun w => by rw [elem_bytes]; exact Try.sizeOf5 w
        have hcl : all.length ≤ c := by obtain ⟨a', c', e, hc', -⟩ := hd2.seg; cases e; exact hc'
        rw [run_slice_lh q.w _ a all.length c ht .i64 .i64 _ _ (by omega) (by omega) (by omega), es] at hs2
        rw [run_slice_lh w2 _ a all.length c ht .i64 .i64 _ _ (by omega) (by omega) (by omega), es] at hs
        simp only [Result.andThen, Result.ok.injEq, and_true] at hs hs2
        rw [← hs, ← hs2]
      rw [← this]
      exact hs2
    have epn : (p : Int) + n - n = p := by omega
    have D2 := hd2.below d2
    clear hW2
    simp only [pickOps, List.filterMap_cons, List.filterMap_nil, List.getElem?_cons_zero, List.getElem?_cons_succ, Option.map_some, List.map_cons, List.map_nil]
    repeat (first
      | (go_big_quiet_want; refine q_slice 33 (by rw [elem_bytes]; exact Try.underlying33) (.tmp 22) (.tmp 28) (.tmp 32) rfl _ _ _ v' rfl rfl rfl (by rintro W ⟨q, rfl⟩; exact hs' q) ?_; go_simp; go_big_quiet_on)
      | go_big_quiet_step (fail))
    refine wpQuiet_nil ?_
    clear c0 c1 hs'
    refine wpAnyH_one (k := 0) (by kernel_rfl) rfl (fun K hQ => ?_)
    go_simp
    have dl : Below w2.heap.size W2 (W2.alloc (.cells #[] 5)) := (Below.refl _ _).alloc d2.size _
    refine hQ _ _ ⟨⟨_, dl⟩, rfl⟩ ?_
    clear hQ K
    have hsg := (hseg.below (d2.trans dl))
    obtain ⟨va, w3, hr, hA, hg⟩ := append_any (W2.alloc (.cells #[] 5)) 33 w2.heap.size _ _ _ _ (datB_none W2 w2.heap.size d2.size) hsg (d2.trans dl).size (by simp; omega)
    have d3 : Below w2.heap.size W2 w3 := dl.grown hg (d2.trans dl).size fun q hq => (World.ownsRow.lt (datB_none W2 w2.heap.size d2.size) q hq).1
    have HR := Lib.hid hr
    clear hr hg hs hseg
    refine wpAnyH_one (k := 16) (by kernel_rfl) rfl (fun K hQ => ?_)
    refine if_true_prop (by kernel_rfl) ?_
    refine Lib.wp_append_run _ _ _ 33 33 rfl _ _ rfl rfl _ _ HR.out ?_
    refine hQ _ _ ⟨⟨_, d3⟩, rfl⟩ ?_
    clear hQ K HR
    refine wpAnyH_one (k := 17) (by kernel_rfl) rfl (fun K hQ => ?_)
    go_simp
    refine hQ _ _ ⟨⟨_, d3⟩, rfl⟩ ?_
    clear hQ K
    refine wpAnyH_done (by kernel_rfl) ?_ 0
    have D3 := d2.trans d3
    obtain ⟨va', ca', hva⟩ := hA.dat.shape
    subst hva
    go_wp2
    go_ret
    refine ⟨_, rfl, by simpa using hA.dat, ⟨⟨hb2.below D3 hb2.lt, hd2.below D3⟩, r2, r3, r4, by show R.n + n ≤ R.xs.length; omega, r6⟩, K2.trans ((But.of_below D3).mono K2.size)⟩
  · have hno := rf_Has_no w b R u all k h hk
    have e1 : R.part k = [] := if_neg hk
    rw [e1]
    go_enter Try.func28, Try.ntmps28
    go_wp2_with (go_at_call 54; refine hno.mono ?_; rintro e w1 ⟨rfl, h1, k1⟩; clear hno)
    go_ret
    exact ⟨_, rfl, Dat.nil _, h1, k1⟩
end Go.Proofs.Ytailaenkmknpiaa
