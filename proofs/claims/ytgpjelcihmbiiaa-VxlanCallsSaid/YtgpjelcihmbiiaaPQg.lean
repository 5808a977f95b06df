/- The reference of layer 7: Bytes at kind 2. No condition. -/
import Derived.Test.YtgpjelcihmbiiaaPQb
namespace Go.Proofs.Ytgpjelcihmbiiaa
open Go.RowKit Go.Sort
set_option linter.unusedVariables false
set_option linter.unusedSimpArgs false
set_option maxRecDepth 100000

set_option maxHeartbeats 4000000 in
theorem rbytes_2n (s d op sm si tm ti hs hd tt pr sp dp x : Int) (hf : FL.Ok ⟨s, d, 2, op, sm, si, tm, ti, hs, hd, tt, pr, sp, dp, x⟩) (hc : FL.chk ⟨s, d, 2, op, sm, si, tm, ti, hs, hd, tt, pr, sp, dp, x⟩ = 0) (hp : pt pr = false) (t0 : 0 ≤ tt) (t1 : tt < 256) (p0 : 0 ≤ pr) (p1 : pr < 256) (a0 : 0 ≤ sp) (a1 : sp < 65536) (b0 : 0 ≤ dp) (b1 : dp < 65536) (w : World) : Calls Try.prog 22 #[.agg #[.int .u64 s, .int .u64 d, .int .i64 2, .int .i64 op, .int .u64 sm, .int .u32 si, .int .u64 tm, .int .u32 ti, .int .u32 hs, .int .u32 hd, .int .i64 tt, .int .i64 pr, .int .i64 sp, .int .i64 dp, .int .u64 x]] w fun e w' => ∃ v, e = .returned (.tuple #[v, .int .i64 0]) ∧ DatB w.heap.size w' v (FL.enc ⟨s, d, 2, op, sm, si, tm, ti, hs, hd, tt, pr, sp, dp, x⟩) ∧ Below w.heap.size w w' := by
  have ho : Oct (rh 28 tt pr hs hd 0) := by
    have := hdB_oct ⟨s, d, 2, op, sm, si, tm, ti, hs, hd, tt, pr, sp, dp, x⟩ 0
    rw [← rh_hdB] at this
    simpa [FL.size, hp] using this
  have hrh : ∀ c, rh 28 tt pr hs hd c = FL.hdB ⟨s, d, 2, op, sm, si, tm, ti, hs, hd, tt, pr, sp, dp, x⟩ c := fun c => by
    have := rh_hdB ⟨s, d, 2, op, sm, si, tm, ti, hs, hd, tt, pr, sp, dp, x⟩ c
    simpa [FL.size, hp] using this
  have HO := Lib.hid ho; have HRH := Lib.hid hrh; have HPT := Lib.hid hp
  clear ho hrh
  have HP := fun w => rported_is pr w
  rw [hp] at HP
  clear hp
  have hC := fun w => rcheck_is ⟨s, d, 2, op, sm, si, tm, ti, hs, hd, tt, pr, sp, dp, x⟩ hf.s w
  rw [hc] at hC
  have q1 := hf.s
  have q2 := hf.d
  have q3 := hf.x
  unfold FL.v FL.cs at hC
  dsimp only at hC q1 q2 q3
  go_enter Try.func22, Try.ntmps22
  go_wp2_with (first | (refine at_box rfl _ _ rfl [.int .u64 s, .int .u64 d, .int .i64 2, .int .i64 op, .int .u64 sm, .int .u32 si, .int .u64 tm, .int .u32 ti, .int .u32 hs, .int .u32 hd, .int .i64 tt, .int .i64 pr, .int .i64 sp, .int .i64 dp, .int .u64 x] rfl ?_; rintro w1 H1 k1 s1) | (refine at_mid rfl 36 _ rfl w.heap.size 0 rfl H1 [.int .u64 s, .int .u64 d, .int .i64 2, .int .i64 op, .int .u64 sm, .int .u32 si, .int .u64 tm, .int .u32 ti, .int .u32 hs, .int .u32 hd, .int .i64 tt, .int .i64 pr, .int .i64 sp, .int .i64 dp, .int .u64 x] rfl _ Try.underlying36 rfl szF ?_) | (go_at_call 23; refine (hC _).mono ?_; rintro r w2 ⟨rfl, k2⟩; have x2 := H1.below k2 H1.lt; have K2 := k1.trans (k2.mono k1.size); clear hC H1 k1 k2))
  refine wp_region_selB w2.heap.size [0, 1, 3, 4] 3 rfl (by kernel_rfl) (by kernel_rfl) (by kernel_rfl) (by kernel_rfl) (fun _ d _ _ _ h => by cases d <;> exact h) ?_
  intro W hW
  have drW : Below w2.heap.size w2 W := by subst hW; exact (Below.refl _ _).drew
  have X := x2.below drW x2.lt
  have c1 : ∀ q : Beh w2.heap.size W, q.w.cell? ⟨w.heap.size, 1, none⟩ = some (.int .u64 d) := fun q => Blk.cell (Blk.below X q.h x2.lt) 1 rfl
  have c0 : ∀ q : Beh w2.heap.size W, q.w.cell? ⟨w.heap.size, 0, none⟩ = some (.int .u64 s) := fun q => Blk.cell (Blk.below X q.h x2.lt) 0 rfl
  clear hW
  simp only [pickOps, List.filterMap_cons, List.filterMap_nil, List.getElem?_cons_zero, List.getElem?_cons_succ, Option.map_some, List.map_cons, List.map_nil]
  repeat (go_big_quiet_step (fail))
  refine wpQuiet_nil ?_
  clear c1 c0
  refine wpAnyH_one (k := 2) (by kernel_rfl) rfl (fun K hQ => ?_)
  go_simp
  refine (rput_is w2.heap.size [] (by decide) (.slice none 0 0) d 6 q2.1 q2.2 (by decide) W drW.size (datB_nil _ _)).mono ?_
  rintro r w3 ⟨v3, rfl, D3, e3, -⟩
  rw [List.nil_append] at D3
  refine hQ _ _ ⟨⟨_, e3⟩, rfl⟩ ?_
  clear hQ K
  refine wpAnyH_one (k := 5) (by kernel_rfl) rfl (fun K hQ => ?_)
  go_simp
  refine (rput_is w2.heap.size (enc 6 d.toNat) (by simp [enc_length]) v3 s 6 q1.1 q1.2 (by decide) w3 (drW.trans e3).size D3).mono ?_
  rintro r w4 ⟨v4, rfl, D4, e4, -⟩
  have b4 := e3.trans e4
  refine hQ _ _ ⟨⟨_, b4⟩, rfl⟩ ?_
  clear hQ K
  refine wpAnyH_one (k := 6) (by kernel_rfl) rfl (fun K hQ => ?_)
  go_simp
  refine hQ _ _ ⟨⟨_, b4⟩, rfl⟩ ?_
  clear hQ K
  refine wpAnyH_done (by kernel_rfl) ?_ 0
  have E4 := drW.trans b4
  have x4 := x2.below E4 x2.lt
  have c2 := Blk.cell x4 2 (v := .int .i64 2) rfl
  clear drW X D3 e3 e4 b4
  have q4 := hf.hs
  have q5 := hf.hd
  dsimp only at q4 q5
  have c11 := Blk.cell x4 11 (v := .int .i64 pr) rfl
  go_wp2_with (go_at_call 25; refine (HP _).mono ?_; rintro e w9 ⟨rfl, hw⟩; obtain rfl := hw.symm)
  clear c2 c11 HP
  refine wp_region_selB w2.heap.size [0, 3, 4, 5, 6, 7, 8, 9, 10, 11, 12, 13, 14, 15] 5 rfl (by kernel_rfl) (by kernel_rfl) (by kernel_rfl) (by kernel_rfl) (fun _ d _ _ _ h => by cases d <;> exact h) ?_
  intro P hP
  have drP : Below w2.heap.size w4 P := by subst hP; exact (Below.refl _ _).drew
  have XP := x4.below drP x2.lt
  have EP := E4.trans drP
  have DP := D4.below (show Below w4.heap.size w4 P by subst hP; exact (Below.refl _ _).drew)
  have r10 : ∀ q : Beh w2.heap.size P, q.w.cell? ⟨w.heap.size, 10, none⟩ = some (.int .i64 tt) := fun q => Blk.cell (Blk.below XP q.h x2.lt) 10 rfl
  have r11 : ∀ q : Beh w2.heap.size P, q.w.cell? ⟨w.heap.size, 11, none⟩ = some (.int .i64 pr) := fun q => Blk.cell (Blk.below XP q.h x2.lt) 11 rfl
  have r8 : ∀ q : Beh w2.heap.size P, q.w.cell? ⟨w.heap.size, 8, none⟩ = some (.int .u32 hs) := fun q => Blk.cell (Blk.below XP q.h x2.lt) 8 rfl
  have r9 : ∀ q : Beh w2.heap.size P, q.w.cell? ⟨w.heap.size, 9, none⟩ = some (.int .u32 hd) := fun q => Blk.cell (Blk.below XP q.h x2.lt) 9 rfl
  clear hP x4 D4
  simp only [pickOps, List.filterMap_cons, List.filterMap_nil, List.getElem?_cons_zero, List.getElem?_cons_succ, Option.map_some, List.map_cons, List.map_nil]
  repeat (go_big_quiet_step (fail))
  refine wpQuiet_nil ?_
  clear r10 r11 r8 r9
  have gP0 : Below w2.heap.size P P := Below.refl _ _
  have DlP : Dat (P.alloc (.cells #[.int .u8 8, .int .u8 0] 5)) (.slice (some ⟨P.heap.size, 0, none⟩) 2 2) [8, 0] := (datB_lit 0 P [8, 0] (Nat.zero_le _) (by simp)).dat
  have gP1 : Below w2.heap.size P (P.alloc (.cells #[.int .u8 8, .int .u8 0] 5)) := gP0.alloc (EP.trans gP0).size _
  have mP1 : Below P.heap.size P (P.alloc (.cells #[.int .u8 8, .int .u8 0] 5)) := (Below.refl _ _).alloc (Nat.le_refl _) _
  refine wpAnyH_one (k := 1) (by kernel_rfl) rfl (fun K hQ => ?_)
  go_simp
  refine hQ _ _ ⟨⟨_, gP1⟩, rfl⟩ ?_
  clear hQ K
  have DP1 := DP.below mP1
  obtain ⟨vaP2, waP2, hrP2, DAP2, hgP2⟩ := append_any _ 23 w2.heap.size _ _ _ _ DP1 DlP.seg (EP.trans gP1).size (by simp [enc_length, rh_length])
  have gP2 : Below w2.heap.size P waP2 := gP1.grown hgP2 (EP.trans gP1).size fun k hk => (World.ownsRow.lt DP1 k hk).1
  have HRP2 := Lib.hid hrP2
  clear hrP2 hgP2
  refine wpAnyH_one (k := 2) (by kernel_rfl) rfl (fun K hQ => ?_)
  refine if_true_prop (by kernel_rfl) ?_
  refine Lib.wp_append_run _ _ _ 23 23 rfl _ _ rfl rfl _ _ HRP2.out ?_
  refine hQ _ _ ⟨⟨_, gP2⟩, rfl⟩ ?_
  clear hQ K HRP2
  refine wpAnyH_one (k := 16) (by kernel_rfl) rfl (fun K hQ => ?_)
  go_simp
  refine (rheader_is 28 tt pr hs hd (by decide) (by decide) t0 t1 p0 p1 q4.1 q4.2 q5.1 q5.2 HO.out waP2).mono ?_
  rintro r wh ⟨vh, rfl, Dh, kh⟩
  have gP3 : Below w2.heap.size P wh := gP2.trans (kh.mono (EP.trans gP2).size)
  refine hQ _ _ ⟨⟨_, gP3⟩, rfl⟩ ?_
  clear hQ K
  have DP3 := DAP2.below kh
  obtain ⟨vaP4, waP4, hrP4, DAP4, hgP4⟩ := append_any _ 23 w2.heap.size _ _ _ _ DP3 Dh.dat.seg (EP.trans gP3).size (by simp [enc_length, rh_length])
  have gP4 : Below w2.heap.size P waP4 := gP3.grown hgP4 (EP.trans gP3).size fun k hk => (World.ownsRow.lt DP3 k hk).1
  have HRP4 := Lib.hid hrP4
  clear hrP4 hgP4
  refine wpAnyH_one (k := 17) (by kernel_rfl) rfl (fun K hQ => ?_)
  refine if_true_prop (by kernel_rfl) ?_
  refine Lib.wp_append_run _ _ _ 23 23 rfl _ _ rfl rfl _ _ HRP4.out ?_
  refine hQ _ _ ⟨⟨_, gP4⟩, rfl⟩ ?_
  clear hQ K HRP4
  refine wpAnyH_one (k := 18) (by kernel_rfl) rfl (fun K hQ => ?_)
  go_simp
  refine hQ _ _ ⟨⟨_, gP4⟩, rfl⟩ ?_
  clear hQ K
  refine wpAnyH_done (by kernel_rfl) ?_ 0
  have FP := EP.trans gP4
  have xP := x2.below FP x2.lt
  clear drP XP EP
  have c14 := Blk.cell xP 14 (v := .int .u64 x) rfl
  go_wp2_with fail
  go_at_call 51
  refine (rput_is w2.heap.size _ (by simp [enc_length, rh_length]) _ x 8 q3.1 q3.2 (by decide) waP4 FP.size DAP4).mono ?_
  rintro r wz ⟨vz, rfl, Dz, ez, -⟩
  go_wp2
  go_ret2
  have EZ := FP.trans ez
  refine ⟨vz, rfl, ?_, K2.trans (EZ.mono K2.size)⟩
  have := World.ownsRow.mono Dz K2.size
  rw [show ([8, 0] : List Int) = enc 2 2048 by decide] at this
  rw [HRH.out, HRH.out] at this
  rw [show FL.enc ⟨s, d, 2, op, sm, si, tm, ti, hs, hd, tt, pr, sp, dp, x⟩ = enc 6 d.toNat ++ enc 6 s.toNat ++ enc 2 2048 ++ FL.hdB ⟨s, d, 2, op, sm, si, tm, ti, hs, hd, tt, pr, sp, dp, x⟩ (sumI (FL.hdB ⟨s, d, 2, op, sm, si, tm, ti, hs, hd, tt, pr, sp, dp, x⟩ 0)) ++ enc 8 x.toNat by simp [FL.enc, FL.mid, FL.ipB, FL.ptB, HPT.out, List.append_assoc]]
  exact this
end Go.Proofs.Ytgpjelcihmbiiaa
