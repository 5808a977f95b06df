/- The layers of a packet: the whole packet; Bytes. No condition. -/
import Derived.Test.YtgpjelcihmbiiaaVLb
import Derived.Test.YtgpjelcihmbiiaaVCk
namespace Go.Proofs.Ytgpjelcihmbiiaa
open Go.RowKit Go.Sort
set_option linter.unusedVariables false
set_option linter.unusedSimpArgs false
set_option maxRecDepth 100000

theorem vdat_nil (B : Nat) (w : World) : DatB B w (.slice none 0 0) [] := World.ownsRow_nil w _ _ _
set_option maxHeartbeats 4000000 in
theorem aip_is (xs : List Int) (hl : xs.length ≤ 1000) (fa : Option Addr) (fc : Nat) (mark vni ent src dst ttl : Int) (m0 : 0 ≤ mark) (m1 : mark ≤ 16777215) (v0 : 0 ≤ vni) (v1 : vni ≤ 16777215) (e0 : 0 ≤ ent) (e1 : ent ≤ 65535) (a0 : 0 ≤ src) (a1 : src < 4294967296) (t0 : 0 ≤ dst) (t1 : dst < 4294967296) (u0 : 0 ≤ ttl) (u1 : ttl ≤ 255) (w : World) (hf : Seg w (.slice fa xs.length fc) xs) :
    Calls Try.prog 59 #[.agg #[.slice fa xs.length fc, .int .u32 mark, .int .u32 vni, .int .i64 ent, .int .u32 src, .int .u32 dst, .int .i64 ttl], .slice none 0 0] w fun e w' => ∃ v, e = .returned v ∧ DatB w.heap.size w' v (rh ((xs.length + 36 : Nat) : Int) ttl 17 src dst (sumI (rh ((xs.length + 36 : Nat) : Int) ttl 17 src dst 0)) ++ (udB ent xs.length ++ (vxB mark vni ++ xs))) ∧ Below w.heap.size w w' := by
  have NS := fun w => nosum_is xs hl fa fc mark vni ent src dst ttl a0 a1 t0 t1 u0 u1 w
  have HSE := Lib.hid (fun s a b => rh_set ((xs.length + 36 : Nat) : Int) ttl 17 src dst s a b)
  have hle := rh_length ((xs.length + 36 : Nat) : Int) ttl 17 src dst 0
  have ho := rh_oct ((xs.length + 36 : Nat) : Int) ttl 17 src dst 0
  have hsb := sumI_lt ho
  have AU := fun (ys : List Int) (hy : ys.length ≤ 100) va wa h1 h2 h3 => audp_is w.heap.size ys xs hy hl fa fc mark vni ent m0 m1 v0 v1 e0 e1 va wa h1 h2 h3
  have HF : Fr w.heap.size w (.slice fa xs.length fc) xs := fun w' k => hf.below k
  have HFF := Lib.hid HF
  have HLC := Lib.hid (fun c => rh_length ((xs.length + 36 : Nat) : Int) ttl 17 src dst c)
  generalize rh ((xs.length + 36 : Nat) : Int) ttl 17 src dst = R at *
  generalize R 0 = Z at *
  obtain ⟨TT, hTT⟩ : ∃ TT, udB ent xs.length ++ (vxB mark vni ++ xs) = TT := ⟨_, rfl⟩
  rw [hTT] at AU ⊢
  have HL := Lib.hid hle; have HO := Lib.hid ho; have HX := Lib.hid hl
  clear hle ho hf HF hTT hl
  go_enter Try.func59, Try.ntmps59
  go_wp2_with (first
    | (refine at_box rfl 100 _ rfl [.slice fa xs.length fc, .int .u32 mark, .int .u32 vni, .int .i64 ent, .int .u32 src, .int .u32 dst, .int .i64 ttl] rfl ?_; rintro w1 H1 k1 s1)
    | (refine at_mid rfl 100 _ rfl w.heap.size 0 rfl H1 [.slice fa xs.length fc, .int .u32 mark, .int .u32 vni, .int .i64 ent, .int .u32 src, .int .u32 dst, .int .i64 ttl] rfl _ Try.underlying100 rfl szL7 ?_))
  go_at_call 80
  refine (NS w1).mono ?_
  rintro e w2 ⟨hv, rfl, D2, k2⟩
  have b2 := k1.trans (k2.mono k1.size)
  have H2 := H1.below k2 H1.lt
  have hw1 := k1.size
  obtain ⟨g, cap, cs, rfl, hg, f1, f2, f3, f4, f5⟩ := D2.form (by rw [HL.out]; decide)
  have DS := D2.dat.seg
  rw [HL.out] at f1 f5 DS ⊢
  clear k1 k2 H1 NS s1
  go_wp2_with fail
  go_at_call 20
  refine (sum_is Z _ w2 DS HO.out (by rw [HL.out]; decide)).mono ?_
  rintro r w3 ⟨rfl, k3⟩
  have b3 := b2.trans (k3.mono b2.size)
  have H3 := H2.below k3 H2.lt
  have f3 := f3.below k3 f3.lt
  obtain ⟨s, hs'⟩ : ∃ s, sumI Z = s := ⟨_, rfl⟩
  rw [hs'] at hsb ⊢
  have HSS := Lib.hid hs'
  clear b2 H2 k3 hs'
  have hj10 : 10 < cs.length := by omega
  have hj11 : 11 < cs.length := by omega
  have hgn : w.heap.size ≠ g := H3.ne f3 (by decide)
  have eb : s / 256 % 256 = s / 256 := by omega
  have F1 := Lib.hid f1; have F2 := Lib.hid f2; have F4 := Lib.hid f4; have F5 := Lib.hid f5
  clear f1 f2 f4 f5 D2 DS
  have hgw : w.heap.size ≤ g := Nat.le_trans hw1 hg
  go_wp2_with (first
    | (refine at_set rfl 5 _ _ rfl rfl g 10 rfl 5 cs (cs.set 10 (.int .u8 (s / 256))) (.int .u8 (s / 256)) rfl f3 rfl rfl rfl u8_one hj10 ?_; rintro w4 g4; have H4 := g4.but.blk H3 H3.lt hgn; have b4 := g4.below b3 hgw; clear H3 b3)
    | (refine at_set rfl 5 _ _ rfl rfl g 11 rfl 5 (cs.set 10 (.int .u8 (s / 256))) ((cs.set 10 (.int .u8 (s / 256))).set 11 (.int .u8 (s % 256))) (.int .u8 (s % 256)) rfl g4.blk rfl rfl rfl u8_one (by rw [List.length_set]; exact hj11) ?_; rintro w5 g5; have H5 := g5.but.blk H4 H4.lt hgn; have b5 := g5.below b4 hgw; clear H4 b4))
  have hz : ((Z.set 10 (s / 256)).set 11 (s % 256)).length = 20 := by rw [List.length_set, List.length_set]; exact HL.out
  have D5 := Dat.mk (w := w5) (xs := (Z.set 10 (s / 256)).set 11 (s % 256)) (cap := cap) (by rw [hz]; exact F1.out) F2.out g5.blk (by rw [List.length_set, List.length_set]; exact F4.out) (by rw [hz, List.take_set, List.take_set, F5.out, List.map_set, List.map_set])
  rw [HSE.out s hsb.1 hsb.2] at D5 hz
  have D5 := D5.seg
  rw [hz] at D5
  obtain ⟨Y, hY⟩ : ∃ Y, R s = Y := ⟨_, rfl⟩
  rw [hY] at D5 hz
  have HY := Lib.hid hY
  clear hY
  refine wp_region_selG w.heap.size [0, 1, 2, 3] 3 rfl (by kernel_rfl) (by kernel_rfl) (by kernel_rfl) (by kernel_rfl) (fun _ d _ _ _ h => by cases d <;> exact h) ?_
  intro V hV
  have d0 : Below w5.heap.size w5 V := by subst hV; exact (Below.refl _ _).drew
  have HV : Blk V w.heap.size 100 [.slice fa xs.length fc, .int .u32 mark, .int .u32 vni, .int .i64 ent, .int .u32 src, .int .u32 dst, .int .i64 ttl] := H5.below d0 H5.lt
  have DV := D5.below d0
  have bV := b5.trans (d0.mono b5.size)
  have hC : ∀ w', (∃ q : Same1 w.heap.size V, w' = q.w) → Blk w' w.heap.size 100 [.slice fa xs.length fc, .int .u32 mark, .int .u32 vni, .int .i64 ent, .int .u32 src, .int .u32 dst, .int .i64 ttl] := by
    rintro _ ⟨q, rfl⟩
    exact q.h.trans HV
  clear hV
  simp only [pickOps, List.filterMap_cons, List.filterMap_nil, List.getElem?_cons_zero, List.getElem?_cons_succ, Option.map_some, List.map_cons, List.map_nil]
  repeat (first | (go_big_quiet_want; refine q_mid 98 (.tmp 20) rfl w.heap.size 0 rfl _ [.slice fa xs.length fc, .int .u32 mark, .int .u32 vni, .int .i64 ent, .int .u32 src, .int .u32 dst, .int .i64 ttl] hC [.slice fa xs.length fc, .int .u32 mark, .int .u32 vni, .int .i64 ent] rfl _ Try.underlying98 rfl szL4 ?_; go_simp; go_big_quiet_on) | go_big_quiet_step (fail))
  refine wpQuiet_nil ?_
  clear hC
  obtain ⟨va, wa, hr, DA, hga⟩ := append_any V 23 w.heap.size (.slice none 0 0) _ [] Y (vdat_nil _ _) DV bV.size (by simp; omega)
  have ka := grown_below (vdat_nil _ _) hga bV.size
  have pa := Keep.grown (vdat_nil w.heap.size V).dat hga
  have za := hga.size
  rw [List.nil_append] at DA
  have HA := pa _ _ _ (by decide) HV
  have HR := Lib.hid hr
  clear hr hga
  refine wpAnyH_one (k := 4) (by kernel_rfl) rfl (fun K hQ => ?_)
  refine if_true_prop (by kernel_rfl) ?_
  refine Lib.wp_append_run _ _ _ 23 23 rfl _ _ rfl rfl _ _ HR.out ?_
  refine hQ _ _ ⟨⟨wa, HA.trans HV.symm⟩, rfl⟩ ?_
  clear hQ K HR
  refine wpAnyH_one (k := 5) (by kernel_rfl) rfl (fun K hQ => ?_)
  go_simp
  refine (AU Y (by omega) va wa (Nat.le_trans bV.size za) DA (HFF.out.on (bV.trans ka))).mono ?_
  rintro e wz ⟨vz, rfl, dz, kz, pz, zz⟩
  refine hQ _ _ ⟨⟨wz, (pz _ _ _ (by decide) HA).trans HV.symm⟩, rfl⟩ ?_
  clear hQ K
  refine wpAnyH_one (k := 6) (by kernel_rfl) rfl (fun K hQ => ?_)
  go_simp
  refine hQ _ _ ⟨⟨wz, (pz _ _ _ (by decide) HA).trans HV.symm⟩, rfl⟩ ?_
  clear hQ K
  refine wpAnyH_done (by kernel_rfl) ?_ 0
  have BZ := (bV.trans ka).trans kz
  clear HV HA DV DA ka kz pa pz AU
  go_wp2
  go_ret
  refine ⟨_, rfl, ?_, BZ⟩
  rw [HSS.out, HY.out]
  exact dz
end Go.Proofs.Ytgpjelcihmbiiaa
