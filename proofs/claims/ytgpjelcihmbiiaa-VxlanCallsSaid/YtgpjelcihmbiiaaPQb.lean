/- The reference of layer 7: Bytes at kind 0. No condition. -/
import Derived.Test.YtgpjelcihmbiiaaPQh
import Derived.Test.YtgpjelcihmbiiaaPQc
namespace Go.Proofs.Ytgpjelcihmbiiaa
open Go.RowKit Go.Sort
set_option linter.unusedVariables false
set_option linter.unusedSimpArgs false
set_option maxRecDepth 100000

theorem datB_nil (B : Nat) (w : World) : DatB B w (.slice none 0 0) [] := World.ownsRow_nil w _ _ _
theorem run_lmt (w : World) : (Instr.buildSlice 23 2 #[(0, .int .u8 136), (1, .int .u8 181)]).run Try.prog w = .ok (.slice (some ⟨w.heap.size, 0, none⟩) 2 2) (w.alloc (.cells (([136, 181] : List Int).map (Value.int .u8)).toArray 5)) := by kernel_rfl
theorem at_lmt {ops : Array Oper} {rest : List Oper} {o : Oper} {a : Act} {w : World} {Q : Exit → Act → World → Prop} (hgd : o.guard = none) (ho : o.op = .buildSlice 23 2 #[(0, .const (.int .u8 136)), (1, .const (.int .u8 181))])
    (h : ∀ w', DatB w.heap.size w' (.slice (some ⟨w.heap.size, 0, none⟩) 2 2) [136, 181] → Below w.heap.size w w' → wpList Try.prog ops Q rest (a.put o.dst (.slice (some ⟨w.heap.size, 0, none⟩) 2 2)) w') : wpList Try.prog ops Q (o :: rest) a w :=
  wpList_plain hgd fun _ hK => by
    have ec : ∀ k, a.eval (.const (.int .u8 k)) = .int .u8 k := fun _ => rfl
    unfold Oper.wp execOp
    simp only [ho, List.map_toArray, List.map_cons, List.map_nil, ec, Sem.run_bind, run_lmt, Result.andThen_ok, Sem.run_pure]
    exact hK _ _ (h _ (datB_lit _ w [136, 181] (Nat.le_refl _) (by simp)) ((Below.refl _ w).alloc (Nat.le_refl _) _))
set_option maxHeartbeats 2000000 in
theorem rbytes_0 (s d op sm si tm ti hs hd tt pr sp dp x : Int) (hf : FL.Ok ⟨s, d, 0, op, sm, si, tm, ti, hs, hd, tt, pr, sp, dp, x⟩) (hc : FL.chk ⟨s, d, 0, op, sm, si, tm, ti, hs, hd, tt, pr, sp, dp, x⟩ = 0) (w : World) : Calls Try.prog 22 #[.agg #[.int .u64 s, .int .u64 d, .int .i64 0, .int .i64 op, .int .u64 sm, .int .u32 si, .int .u64 tm, .int .u32 ti, .int .u32 hs, .int .u32 hd, .int .i64 tt, .int .i64 pr, .int .i64 sp, .int .i64 dp, .int .u64 x]] w fun e w' => ∃ v, e = .returned (.tuple #[v, .int .i64 0]) ∧ DatB w.heap.size w' v (FL.enc ⟨s, d, 0, op, sm, si, tm, ti, hs, hd, tt, pr, sp, dp, x⟩) ∧ Below w.heap.size w w' := by
  have hC := fun w => rcheck_is ⟨s, d, 0, op, sm, si, tm, ti, hs, hd, tt, pr, sp, dp, x⟩ hf.s w
  rw [hc] at hC
  have q1 := hf.s
  have q2 := hf.d
  have q3 := hf.x
  unfold FL.v FL.cs at hC
  dsimp only at hC q1 q2 q3
  go_enter Try.func22, Try.ntmps22
  go_wp2_with (first | (refine at_box rfl _ _ rfl [.int .u64 s, .int .u64 d, .int .i64 0, .int .i64 op, .int .u64 sm, .int .u32 si, .int .u64 tm, .int .u32 ti, .int .u32 hs, .int .u32 hd, .int .i64 tt, .int .i64 pr, .int .i64 sp, .int .i64 dp, .int .u64 x] rfl ?_; rintro w1 H1 k1 s1) | (refine at_mid rfl 36 _ rfl w.heap.size 0 rfl H1 [.int .u64 s, .int .u64 d, .int .i64 0, .int .i64 op, .int .u64 sm, .int .u32 si, .int .u64 tm, .int .u32 ti, .int .u32 hs, .int .u32 hd, .int .i64 tt, .int .i64 pr, .int .i64 sp, .int .i64 dp, .int .u64 x] rfl _ Try.underlying36 rfl szF ?_) | (go_at_call 23; refine (hC _).mono ?_; rintro r w2 ⟨rfl, k2⟩; have x2 := H1.below k2 H1.lt; have K2 := k1.trans (k2.mono k1.size); clear hC H1 k1 k2))
  refine wp_region_selB w2.heap.size [0, 1, 3, 4] 3 rfl (by kernel_rfl) (by kernel_rfl) (by kernel_rfl) (by kernel_rfl) (fun _ d _ _ _ h => by cases d <;> exact h) ?_
  intro W hW
  have drW : Below w2.heap.size w2 W := by subst hW; exact (Below.refl _ _).drew
  have X := x2.below drW x2.lt
  have c1 : ∀ q : Beh w2.heap.size W, q.w.cell? ⟨w.heap.size, 1, none⟩ = some (.int .u64 d) := fun q => Blk.cell (Blk.below X q.h x2.lt) 1 rfl
  have c0 : ∀ q : Beh w2.heap.size W, q.w.cell? ⟨w.heap.size, 0, none⟩ = some (.int .u64 s) := fun q => Blk.cell (Blk.below X q.h x2.lt) 0 rfl
  clear hW
  simp only [pickOps, List.filterMap_cons, List.filterMap_nil, List.getElem?_cons_zero, List.getElem?_cons_succ, Option.map_some, List.map_cons, List.map_nil]
  repeat (go_big_quiet_step (fail))
  refine wpQuiet_nil ?_
  clear c1 c0
  refine wpAnyH_one (k := 2) (by kernel_rfl) rfl (fun K hQ => ?_)
  go_simp
  refine (rput_is w2.heap.size [] (by decide) (.slice none 0 0) d 6 q2.1 q2.2 (by decide) W drW.size (datB_nil _ _)).mono ?_
  rintro r w3 ⟨v3, rfl, D3, e3, -⟩
  rw [List.nil_append] at D3
  refine hQ _ _ ⟨⟨_, e3⟩, rfl⟩ ?_
  clear hQ K
  refine wpAnyH_one (k := 5) (by kernel_rfl) rfl (fun K hQ => ?_)
  go_simp
  refine (rput_is w2.heap.size (enc 6 d.toNat) (by simp [enc_length]) v3 s 6 q1.1 q1.2 (by decide) w3 (drW.trans e3).size D3).mono ?_
  rintro r w4 ⟨v4, rfl, D4, e4, -⟩
  have b4 := e3.trans e4
  refine hQ _ _ ⟨⟨_, b4⟩, rfl⟩ ?_
  clear hQ K
  refine wpAnyH_one (k := 6) (by kernel_rfl) rfl (fun K hQ => ?_)
  go_simp
  refine hQ _ _ ⟨⟨_, b4⟩, rfl⟩ ?_
  clear hQ K
  refine wpAnyH_done (by kernel_rfl) ?_ 0
  have E4 := drW.trans b4
  have x4 := x2.below E4 x2.lt
  have c2 := Blk.cell x4 2 (v := .int .i64 0) rfl
  clear drW X D3 e3 e4 b4
  go_wp2_with (first
    | (refine at_lmt rfl rfl ?_; rintro w5 D5 k5)
    | (refine at_app rfl (.tmp 60) (.tmp 61) rfl _ _ rfl rfl w2.heap.size _ _ (D4.below k5) D5.dat (Nat.le_trans E4.size k5.size) (by simp [enc_length]) ?_; rintro w6 v6 D6 k6 z6; have E6 := (E4.trans (k5.mono E4.size)).trans k6; have x6 := x2.below E6 x2.lt; have c14 := Blk.cell x6 14 (v := .int .u64 x) rfl; clear D4 D5 k5 k6 c2 E4 x4))
  go_at_call 51
  refine (rput_is w2.heap.size _ (by simp [enc_length]) _ x 8 q3.1 q3.2 (by decide) w6 E6.size D6).mono ?_
  rintro r wz ⟨vz, rfl, Dz, ez, -⟩
  go_wp2
  go_ret2
  have EZ := E6.trans ez
  refine ⟨vz, rfl, ?_, K2.trans (EZ.mono K2.size)⟩
  have := World.ownsRow.mono Dz K2.size
  rw [show ([136, 181] : List Int) = enc 2 34997 by decide] at this
  rw [show FL.enc ⟨s, d, 0, op, sm, si, tm, ti, hs, hd, tt, pr, sp, dp, x⟩ = enc 6 d.toNat ++ enc 6 s.toNat ++ enc 2 34997 ++ enc 8 x.toNat by simp [FL.enc, FL.mid, List.append_assoc]]
  exact this
end Go.Proofs.Ytgpjelcihmbiiaa
