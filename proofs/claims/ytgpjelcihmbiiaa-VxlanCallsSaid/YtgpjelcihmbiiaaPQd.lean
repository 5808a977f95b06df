/- The reference of layer 7: Bytes at kind 1. No condition. -/
import Derived.Test.YtgpjelcihmbiiaaPQb
namespace Go.Proofs.Ytgpjelcihmbiiaa
open Go.RowKit Go.Sort
set_option linter.unusedVariables false
set_option linter.unusedSimpArgs false
set_option maxRecDepth 100000

set_option maxHeartbeats 4000000 in
theorem rbytes_1 (s d op sm si tm ti hs hd tt pr sp dp x : Int) (hf : FL.Ok ⟨s, d, 1, op, sm, si, tm, ti, hs, hd, tt, pr, sp, dp, x⟩) (hc : FL.chk ⟨s, d, 1, op, sm, si, tm, ti, hs, hd, tt, pr, sp, dp, x⟩ = 0) (o0 : 0 ≤ op) (o1 : op < 65536) (w : World) : Calls Try.prog 22 #[.agg #[.int .u64 s, .int .u64 d, .int .i64 1, .int .i64 op, .int .u64 sm, .int .u32 si, .int .u64 tm, .int .u32 ti, .int .u32 hs, .int .u32 hd, .int .i64 tt, .int .i64 pr, .int .i64 sp, .int .i64 dp, .int .u64 x]] w fun e w' => ∃ v, e = .returned (.tuple #[v, .int .i64 0]) ∧ DatB w.heap.size w' v (FL.enc ⟨s, d, 1, op, sm, si, tm, ti, hs, hd, tt, pr, sp, dp, x⟩) ∧ Below w.heap.size w w' := by
  have hC := fun w => rcheck_is ⟨s, d, 1, op, sm, si, tm, ti, hs, hd, tt, pr, sp, dp, x⟩ hf.s w
  rw [hc] at hC
  have q1 := hf.s
  have q2 := hf.d
  have q3 := hf.x
  unfold FL.v FL.cs at hC
  dsimp only at hC q1 q2 q3
  go_enter Try.func22, Try.ntmps22
  go_wp2_with (first | (refine at_box rfl _ _ rfl [.int .u64 s, .int .u64 d, .int .i64 1, .int .i64 op, .int .u64 sm, .int .u32 si, .int .u64 tm, .int .u32 ti, .int .u32 hs, .int .u32 hd, .int .i64 tt, .int .i64 pr, .int .i64 sp, .int .i64 dp, .int .u64 x] rfl ?_; rintro w1 H1 k1 s1) | (refine at_mid rfl 36 _ rfl w.heap.size 0 rfl H1 [.int .u64 s, .int .u64 d, .int .i64 1, .int .i64 op, .int .u64 sm, .int .u32 si, .int .u64 tm, .int .u32 ti, .int .u32 hs, .int .u32 hd, .int .i64 tt, .int .i64 pr, .int .i64 sp, .int .i64 dp, .int .u64 x] rfl _ Try.underlying36 rfl szF ?_) | (go_at_call 23; refine (hC _).mono ?_; rintro r w2 ⟨rfl, k2⟩; have x2 := H1.below k2 H1.lt; have K2 := k1.trans (k2.mono k1.size); clear hC H1 k1 k2))
  refine wp_region_selB w2.heap.size [0, 1, 3, 4] 3 rfl (by kernel_rfl) (by kernel_rfl) (by kernel_rfl) (by kernel_rfl) (fun _ d _ _ _ h => by cases d <;> exact h) ?_
  intro W hW
  have drW : Below w2.heap.size w2 W := by subst hW; exact (Below.refl _ _).drew
  have X := x2.below drW x2.lt
  have c1 : ∀ q : Beh w2.heap.size W, q.w.cell? ⟨w.heap.size, 1, none⟩ = some (.int .u64 d) := fun q => Blk.cell (Blk.below X q.h x2.lt) 1 rfl
  have c0 : ∀ q : Beh w2.heap.size W, q.w.cell? ⟨w.heap.size, 0, none⟩ = some (.int .u64 s) := fun q => Blk.cell (Blk.below X q.h x2.lt) 0 rfl
  clear hW
  simp only [pickOps, List.filterMap_cons, List.filterMap_nil, List.getElem?_cons_zero, List.getElem?_cons_succ, Option.map_some, List.map_cons, List.map_nil]
  repeat (go_big_quiet_step (fail))
  refine wpQuiet_nil ?_
  clear c1 c0
  refine wpAnyH_one (k := 2) (by kernel_rfl) rfl (fun K hQ => ?_)
  go_simp
  refine (rput_is w2.heap.size [] (by decide) (.slice none 0 0) d 6 q2.1 q2.2 (by decide) W drW.size (datB_nil _ _)).mono ?_
  rintro r w3 ⟨v3, rfl, D3, e3, -⟩
  rw [List.nil_append] at D3
  refine hQ _ _ ⟨⟨_, e3⟩, rfl⟩ ?_
  clear hQ K
  refine wpAnyH_one (k := 5) (by kernel_rfl) rfl (fun K hQ => ?_)
  go_simp
  refine (rput_is w2.heap.size (enc 6 d.toNat) (by simp [enc_length]) v3 s 6 q1.1 q1.2 (by decide) w3 (drW.trans e3).size D3).mono ?_
  rintro r w4 ⟨v4, rfl, D4, e4, -⟩
  have b4 := e3.trans e4
  refine hQ _ _ ⟨⟨_, b4⟩, rfl⟩ ?_
  clear hQ K
  refine wpAnyH_one (k := 6) (by kernel_rfl) rfl (fun K hQ => ?_)
  go_simp
  refine hQ _ _ ⟨⟨_, b4⟩, rfl⟩ ?_
  clear hQ K
  refine wpAnyH_done (by kernel_rfl) ?_ 0
  have E4 := drW.trans b4
  have x4 := x2.below E4 x2.lt
  have c2 := Blk.cell x4 2 (v := .int .i64 1) rfl
  clear drW X D3 e3 e4 b4
  have q4 := hf.sm
  have q5 := hf.si
  have q6 := hf.tm
  have q7 := hf.ti
  dsimp only at q4 q5 q6 q7
  go_wp2_with fail
  clear c2
  refine wp_region_selB w2.heap.size [0, 3, 4, 5, 6] 4 rfl (by kernel_rfl) (by kernel_rfl) (by kernel_rfl) (by kernel_rfl) (fun _ d _ _ _ h => by cases d <;> exact h) ?_
  intro P hP
  have drP : Below w2.heap.size w4 P := by subst hP; exact (Below.refl _ _).drew
  have XP := x4.below drP x2.lt
  have EP := E4.trans drP
  have DP := D4.below (show Below w4.heap.size w4 P by subst hP; exact (Below.refl _ _).drew)
  have r3 : ∀ q : Beh w2.heap.size P, q.w.cell? ⟨w.heap.size, 3, none⟩ = some (.int .i64 op) := fun q => Blk.cell (Blk.below XP q.h x2.lt) 3 rfl
  clear hP x4 D4
  simp only [pickOps, List.filterMap_cons, List.filterMap_nil, List.getElem?_cons_zero, List.getElem?_cons_succ, Option.map_some, List.map_cons, List.map_nil]
  repeat (go_big_quiet_step (fail))
  refine wpQuiet_nil ?_
  clear r3
  have gP0 : Below w2.heap.size P P := Below.refl _ _
  have DlP : Dat (P.alloc (.cells #[.int .u8 8, .int .u8 6, .int .u8 0, .int .u8 1, .int .u8 8, .int .u8 0, .int .u8 6, .int .u8 4] 5)) (.slice (some ⟨P.heap.size, 0, none⟩) 8 8) [8, 6, 0, 1, 8, 0, 6, 4] := (datB_lit 0 P [8, 6, 0, 1, 8, 0, 6, 4] (Nat.zero_le _) (by simp)).dat
  have gP1 : Below w2.heap.size P (P.alloc (.cells #[.int .u8 8, .int .u8 6, .int .u8 0, .int .u8 1, .int .u8 8, .int .u8 0, .int .u8 6, .int .u8 4] 5)) := gP0.alloc (EP.trans gP0).size _
  have mP1 : Below P.heap.size P (P.alloc (.cells #[.int .u8 8, .int .u8 6, .int .u8 0, .int .u8 1, .int .u8 8, .int .u8 0, .int .u8 6, .int .u8 4] 5)) := (Below.refl _ _).alloc (Nat.le_refl _) _
  refine wpAnyH_one (k := 1) (by kernel_rfl) rfl (fun K hQ => ?_)
  go_simp
  refine hQ _ _ ⟨⟨_, gP1⟩, rfl⟩ ?_
  clear hQ K
  have DP1 := DP.below mP1
  obtain ⟨vaP, waP, hrP, DAP, hgP⟩ := append_any _ 23 w2.heap.size _ _ _ _ DP1 DlP.seg (EP.trans gP1).size (by simp [enc_length])
  have gP2 : Below w2.heap.size P waP := gP1.grown hgP (EP.trans gP1).size fun k hk => (World.ownsRow.lt DP1 k hk).1
  have HRP := Lib.hid hrP
  clear hrP hgP
  refine wpAnyH_one (k := 2) (by kernel_rfl) rfl (fun K hQ => ?_)
  refine if_true_prop (by kernel_rfl) ?_
  refine Lib.wp_append_run _ _ _ 23 23 rfl _ _ rfl rfl _ _ HRP.out ?_
  refine hQ _ _ ⟨⟨_, gP2⟩, rfl⟩ ?_
  clear hQ K HRP
  refine wpAnyH_one (k := 7) (by kernel_rfl) rfl (fun K hQ => ?_)
  go_simp
  refine (rput_is w2.heap.size _ (by simp [enc_length]) vaP op 2 o0 (by omega) (by decide) waP (EP.trans gP2).size DAP).mono ?_
  rintro r wP3 ⟨vP3, rfl, DP3, fP3, -⟩
  have gP3 : Below w2.heap.size P wP3 := gP2.trans fP3
  refine hQ _ _ ⟨⟨_, gP3⟩, rfl⟩ ?_
  clear hQ K fP3
  refine wpAnyH_one (k := 8) (by kernel_rfl) rfl (fun K hQ => ?_)
  go_simp
  refine hQ _ _ ⟨⟨_, gP3⟩, rfl⟩ ?_
  clear hQ K
  refine wpAnyH_done (by kernel_rfl) ?_ 0
  have FP := EP.trans gP3
  have xP := x2.below FP x2.lt
  clear drP XP EP
  go_wp2_with fail
  refine wp_region_selB w2.heap.size [0, 1, 2, 3, 5, 6, 7, 8] 3 rfl (by kernel_rfl) (by kernel_rfl) (by kernel_rfl) (by kernel_rfl) (fun _ d _ _ _ h => by cases d <;> exact h) ?_
  intro R hR
  have drR : Below w2.heap.size wP3 R := by subst hR; exact (Below.refl _ _).drew
  have XR := xP.below drR x2.lt
  have ER := FP.trans drR
  have DR := DP3.below (show Below wP3.heap.size wP3 R by subst hR; exact (Below.refl _ _).drew)
  have r4 : ∀ q : Beh w2.heap.size R, q.w.cell? ⟨w.heap.size, 4, none⟩ = some (.int .u64 sm) := fun q => Blk.cell (Blk.below XR q.h x2.lt) 4 rfl
  have r5 : ∀ q : Beh w2.heap.size R, q.w.cell? ⟨w.heap.size, 5, none⟩ = some (.int .u32 si) := fun q => Blk.cell (Blk.below XR q.h x2.lt) 5 rfl
  clear hR xP DP3
  simp only [pickOps, List.filterMap_cons, List.filterMap_nil, List.getElem?_cons_zero, List.getElem?_cons_succ, Option.map_some, List.map_cons, List.map_nil]
  repeat (go_big_quiet_step (fail))
  refine wpQuiet_nil ?_
  clear r4 r5
  have gR0 : Below w2.heap.size R R := Below.refl _ _
  refine wpAnyH_one (k := 4) (by kernel_rfl) rfl (fun K hQ => ?_)
  go_simp
  refine (rput_is w2.heap.size _ (by simp [enc_length]) vP3 sm 6 q4.1 q4.2 (by decide) R (ER.trans gR0).size DR).mono ?_
  rintro r wR1 ⟨vR1, rfl, DR1, fR1, -⟩
  have gR1 : Below w2.heap.size R wR1 := gR0.trans fR1
  refine hQ _ _ ⟨⟨_, gR1⟩, rfl⟩ ?_
  clear hQ K fR1
  refine wpAnyH_one (k := 9) (by kernel_rfl) rfl (fun K hQ => ?_)
  go_simp
  refine (rput_is w2.heap.size _ (by simp [enc_length]) vR1 si 4 q5.1 (by omega) (by decide) wR1 (ER.trans gR1).size DR1).mono ?_
  rintro r wR2 ⟨vR2, rfl, DR2, fR2, -⟩
  have gR2 : Below w2.heap.size R wR2 := gR1.trans fR2
  refine hQ _ _ ⟨⟨_, gR2⟩, rfl⟩ ?_
  clear hQ K fR2
  refine wpAnyH_one (k := 10) (by kernel_rfl) rfl (fun K hQ => ?_)
  go_simp
  refine hQ _ _ ⟨⟨_, gR2⟩, rfl⟩ ?_
  clear hQ K
  refine wpAnyH_done (by kernel_rfl) ?_ 0
  have FR := ER.trans gR2
  have xR := x2.below FR x2.lt
  clear drR XR ER
  go_wp2_with fail
  refine wp_region_selB w2.heap.size [0, 1, 2, 3, 5, 6, 7, 8] 3 rfl (by kernel_rfl) (by kernel_rfl) (by kernel_rfl) (by kernel_rfl) (fun _ d _ _ _ h => by cases d <;> exact h) ?_
  intro T hT
  have drT : Below w2.heap.size wR2 T := by subst hT; exact (Below.refl _ _).drew
  have XT := xR.below drT x2.lt
  have ET := FR.trans drT
  have DT := DR2.below (show Below wR2.heap.size wR2 T by subst hT; exact (Below.refl _ _).drew)
  have r6 : ∀ q : Beh w2.heap.size T, q.w.cell? ⟨w.heap.size, 6, none⟩ = some (.int .u64 tm) := fun q => Blk.cell (Blk.below XT q.h x2.lt) 6 rfl
  have r7 : ∀ q : Beh w2.heap.size T, q.w.cell? ⟨w.heap.size, 7, none⟩ = some (.int .u32 ti) := fun q => Blk.cell (Blk.below XT q.h x2.lt) 7 rfl
  clear hT xR DR2
  simp only [pickOps, List.filterMap_cons, List.filterMap_nil, List.getElem?_cons_zero, List.getElem?_cons_succ, Option.map_some, List.map_cons, List.map_nil]
  repeat (go_big_quiet_step (fail))
  refine wpQuiet_nil ?_
  clear r6 r7
  have gT0 : Below w2.heap.size T T := Below.refl _ _
  refine wpAnyH_one (k := 4) (by kernel_rfl) rfl (fun K hQ => ?_)
  go_simp
  refine (rput_is w2.heap.size _ (by simp [enc_length]) vR2 tm 6 q6.1 q6.2 (by decide) T (ET.trans gT0).size DT).mono ?_
  rintro r wT1 ⟨vT1, rfl, DT1, fT1, -⟩
  have gT1 : Below w2.heap.size T wT1 := gT0.trans fT1
  refine hQ _ _ ⟨⟨_, gT1⟩, rfl⟩ ?_
  clear hQ K fT1
  refine wpAnyH_one (k := 9) (by kernel_rfl) rfl (fun K hQ => ?_)
  go_simp
  refine (rput_is w2.heap.size _ (by simp [enc_length]) vT1 ti 4 q7.1 (by omega) (by decide) wT1 (ET.trans gT1).size DT1).mono ?_
  rintro r wT2 ⟨vT2, rfl, DT2, fT2, -⟩
  have gT2 : Below w2.heap.size T wT2 := gT1.trans fT2
  refine hQ _ _ ⟨⟨_, gT2⟩, rfl⟩ ?_
  clear hQ K fT2
  refine wpAnyH_one (k := 10) (by kernel_rfl) rfl (fun K hQ => ?_)
  go_simp
  refine hQ _ _ ⟨⟨_, gT2⟩, rfl⟩ ?_
  clear hQ K
  refine wpAnyH_done (by kernel_rfl) ?_ 0
  have FT := ET.trans gT2
  have xT := x2.below FT x2.lt
  clear drT XT ET
  have c14 := Blk.cell xT 14 (v := .int .u64 x) rfl
  go_wp2_with fail
  go_at_call 51
  refine (rput_is w2.heap.size _ (by simp [enc_length]) _ x 8 q3.1 q3.2 (by decide) wT2 FT.size DT2).mono ?_
  rintro r wz ⟨vz, rfl, Dz, ez, -⟩
  go_wp2
  go_ret2
  have EZ := FT.trans ez
  refine ⟨vz, rfl, ?_, K2.trans (EZ.mono K2.size)⟩
  have := World.ownsRow.mono Dz K2.size
  rw [show ([8, 6, 0, 1, 8, 0, 6, 4] : List Int) = enc 2 2054 ++ enc 6 4429186564 by decide] at this
  rw [show FL.enc ⟨s, d, 1, op, sm, si, tm, ti, hs, hd, tt, pr, sp, dp, x⟩ = enc 6 d.toNat ++ enc 6 s.toNat ++ (enc 2 2054 ++ enc 6 4429186564) ++ enc 2 op.toNat ++ enc 6 sm.toNat ++ enc 4 si.toNat ++ enc 6 tm.toNat ++ enc 4 ti.toNat ++ enc 8 x.toNat by simp [FL.enc, FL.mid, FL.arB, List.append_assoc]]
  exact this
end Go.Proofs.Ytgpjelcihmbiiaa
