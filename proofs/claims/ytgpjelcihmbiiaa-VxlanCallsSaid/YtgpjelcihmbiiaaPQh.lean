/- The reference of layer 7: Header. No condition. -/
import Derived.Test.YtgpjelcihmbiiaaPQu
import Derived.Test.YtgpjelcihmbiiaaPRh
namespace Go.Proofs.Ytgpjelcihmbiiaa
open Go.RowKit Go.Sort
set_option linter.unusedVariables false
set_option linter.unusedSimpArgs false
set_option maxRecDepth 100000

theorem run_l45 (w : World) : (Instr.buildSlice 23 2 #[(0, .int .u8 69), (1, .int .u8 0)]).run Try.prog w = .ok (.slice (some ⟨w.heap.size, 0, none⟩) 2 2) (w.alloc (.cells (([69, 0] : List Int).map (Value.int .u8)).toArray 5)) := by kernel_rfl
theorem at_l45 {ops : Array Oper} {rest : List Oper} {o : Oper} {a : Act} {w : World} {Q : Exit → Act → World → Prop} (hgd : o.guard = none) (ho : o.op = .buildSlice 23 2 #[(0, .const (.int .u8 69)), (1, .const (.int .u8 0))])
    (h : ∀ w', DatB w.heap.size w' (.slice (some ⟨w.heap.size, 0, none⟩) 2 2) [69, 0] → Below w.heap.size w w' → wpList Try.prog ops Q rest (a.put o.dst (.slice (some ⟨w.heap.size, 0, none⟩) 2 2)) w') : wpList Try.prog ops Q (o :: rest) a w :=
  wpList_plain hgd fun _ hK => by
    have ec : ∀ k, a.eval (.const (.int .u8 k)) = .int .u8 k := fun _ => rfl
    unfold Oper.wp execOp
    simp only [ho, List.map_toArray, List.map_cons, List.map_nil, ec, Sem.run_bind, run_l45, Result.andThen_ok, Sem.run_pure]
    exact hK _ _ (h _ (datB_lit _ w [69, 0] (Nat.le_refl _) (by simp)) ((Below.refl _ w).alloc (Nat.le_refl _) _))
theorem run_lhd (p q : Int) (w : World) : (Instr.buildSlice 23 8 #[(0, .int .u8 0), (1, .int .u8 0), (2, .int .u8 0), (3, .int .u8 0), (4, .int .u8 p), (5, .int .u8 q), (6, .int .u8 0), (7, .int .u8 0)]).run Try.prog w = .ok (.slice (some ⟨w.heap.size, 0, none⟩) 8 8) (w.alloc (.cells (([0, 0, 0, 0, p, q, 0, 0] : List Int).map (Value.int .u8)).toArray 5)) := by kernel_rfl
theorem at_lhd {ops : Array Oper} {rest : List Oper} {o : Oper} {a : Act} {w : World} {Q : Exit → Act → World → Prop} (hgd : o.guard = none) (yp : Operand) (yq : Operand) (ho : o.op = .buildSlice 23 8 #[(0, .const (.int .u8 0)), (1, .const (.int .u8 0)), (2, .const (.int .u8 0)), (3, .const (.int .u8 0)), (4, yp), (5, yq), (6, .const (.int .u8 0)), (7, .const (.int .u8 0))]) (p q : Int) (hp : a.eval yp = .int .u8 p) (hq : a.eval yq = .int .u8 q)
    (h : ∀ w', DatB w.heap.size w' (.slice (some ⟨w.heap.size, 0, none⟩) 8 8) [0, 0, 0, 0, p, q, 0, 0] → Below w.heap.size w w' → wpList Try.prog ops Q rest (a.put o.dst (.slice (some ⟨w.heap.size, 0, none⟩) 8 8)) w') : wpList Try.prog ops Q (o :: rest) a w :=
  wpList_plain hgd fun _ hK => by
    have ec : ∀ k, a.eval (.const (.int .u8 k)) = .int .u8 k := fun _ => rfl
    unfold Oper.wp execOp
    simp only [ho, List.map_toArray, List.map_cons, List.map_nil, ec, hp, hq, Sem.run_bind, run_lhd, Result.andThen_ok, Sem.run_pure]
    exact hK _ _ (h _ (datB_lit _ w [0, 0, 0, 0, p, q, 0, 0] (Nat.le_refl _) (by simp)) ((Below.refl _ w).alloc (Nat.le_refl _) _))
set_option maxHeartbeats 4000000 in
theorem rheader_is (n tt pr hs hd : Int) (n0 : 0 ≤ n) (n1 : n < 65536) (t0 : 0 ≤ tt) (t1 : tt < 256) (p0 : 0 ≤ pr) (p1 : pr < 256) (s0 : 0 ≤ hs) (s1 : hs < 4294967296) (d0 : 0 ≤ hd) (d1 : hd < 4294967296) (ho : Oct (rh n tt pr hs hd 0)) (w : World) :
    Calls Try.prog 52 #[.int .i64 n, .int .i64 tt, .int .i64 pr, .int .u32 hs, .int .u32 hd] w fun r w' => ∃ v, r = .returned v ∧ DatB w.heap.size w' v (rh n tt pr hs hd (sumI (rh n tt pr hs hd 0))) ∧ Below w.heap.size w w' := by
  have hb := rh_built n tt pr hs hd t0 t1 p0 p1
  have hse := fun s a b => rh_set n tt pr hs hd s a b
  have hle := rh_length n tt pr hs hd 0
  have hsb := sumI_lt ho
  generalize rh n tt pr hs hd 0 = Z at *
  have HB := Lib.hid hb; have HSE := Lib.hid hse; have HL := Lib.hid hle; have HO := Lib.hid ho
  clear hb hse hle ho
  go_enter Try.func52, Try.ntmps52
  go_wp2_with (refine at_l45 rfl rfl ?_; rintro w1 D1 k1)
  go_at_call 51
  refine (rput_is w.heap.size [69, 0] (by decide) _ n 2 n0 (by omega) (by decide) w1 k1.size D1).mono ?_
  rintro r w2 ⟨v2, rfl, D2, k2, z2⟩
  have b2 := k1.trans k2
  clear D1 k1 k2 z2
  go_wp2_with (first
    | (refine at_lhd rfl (.tmp 19) (.tmp 21) rfl tt pr rfl rfl ?_; rintro w3 D3 k3)
    | (refine at_app rfl (.tmp 17) (.tmp 22) rfl _ _ rfl rfl w.heap.size _ _ (D2.below k3) D3.dat (Nat.le_trans b2.size k3.size) (by simp [enc_length]) ?_; rintro w4 v4 D4 k4 z4))
  have b4 := (b2.trans (k3.mono b2.size)).trans k4
  clear D2 D3 k3 k4 b2
  go_at_call 51
  refine (rput_is w.heap.size _ (by simp [enc_length]) _ hs 4 s0 (by omega) (by decide) w4 b4.size D4).mono ?_
  rintro r w5 ⟨v5, rfl, D5, k5, z5⟩
  have b5 := b4.trans k5
  clear D4 k5 b4 z4
  go_wp2_with fail
  go_at_call 51
  refine (rput_is w.heap.size _ (by simp [enc_length]) _ hd 4 d0 (by omega) (by decide) w5 b5.size D5).mono ?_
  rintro r w6 ⟨v6, rfl, D6, k6, z6⟩
  have b6 := b5.trans k6
  clear D5 k6 b5 z5
  rw [HB.out] at D6
  obtain ⟨g, cap, cs, rfl, hg, f1, f2, f3, f4, f5⟩ := D6.form (by rw [HL.out]; decide)
  have DS := D6.dat.seg
  rw [HL.out] at f1 f5 DS ⊢
  go_wp2_with fail
  go_at_call 24
  refine (rsum_is Z _ w6 DS HO.out (by rw [HL.out]; decide)).mono ?_
  rintro r w7 ⟨rfl, hw⟩
  obtain rfl := hw.symm
  obtain ⟨s, hs'⟩ : ∃ s, sumI Z = s := ⟨_, rfl⟩
  rw [hs'] at hsb ⊢
  have HSS := Lib.hid hs'
  clear hs'
  have hj10 : 10 < cs.length := by omega
  have hj11 : 11 < cs.length := by omega
  have e1 : s / 256 % 256 = s / 256 := by omega
  have F1 := Lib.hid f1; have F2 := Lib.hid f2; have F4 := Lib.hid f4; have F5 := Lib.hid f5
  clear f1 f2 f4 f5 D6 DS
  go_wp2_with (first
    | (refine at_set rfl 5 _ _ rfl rfl g 10 rfl 5 cs (cs.set 10 (.int .u8 (s / 256))) (.int .u8 (s / 256)) rfl f3 rfl rfl rfl u8_one hj10 ?_; rintro w8 g8)
    | (refine at_set rfl 5 _ _ rfl rfl g 11 rfl 5 (cs.set 10 (.int .u8 (s / 256))) ((cs.set 10 (.int .u8 (s / 256))).set 11 (.int .u8 (s % 256))) (.int .u8 (s % 256)) rfl g8.blk rfl rfl rfl u8_one (by rw [List.length_set]; exact hj11) ?_; rintro w9 g9))
  go_ret
  have b8 := g8.below b6 hg
  have b9 := g9.below b8 hg
  refine ⟨.slice (some ⟨g, 0, none⟩) 20 cap, rfl, ?_, b9⟩
  rw [HSS.out, ← HSE.out s hsb.1 hsb.2]
  have hz : ((Z.set 10 (s / 256)).set 11 (s % 256)).length = 20 := by rw [List.length_set, List.length_set]; exact HL.out
  have := DatB.mk (xs := (Z.set 10 (s / 256)).set 11 (s % 256)) (cap := cap) hg (by rw [hz]; exact F1.out) F2.out g9.blk (by rw [List.length_set, List.length_set]; exact F4.out) (by rw [hz, List.take_set, List.take_set, F5.out, List.map_set, List.map_set])
  rw [hz] at this
  exact this
end Go.Proofs.Ytgpjelcihmbiiaa
