/- The layers of a packet: the headers of UDP and IPv4. No condition. -/
import Derived.Test.YtgpjelcihmbiiaaVLa
namespace Go.Proofs.Ytgpjelcihmbiiaa
open Go.RowKit Go.Sort
set_option linter.unusedVariables false
set_option linter.unusedSimpArgs false
set_option maxRecDepth 100000

set_option maxHeartbeats 4000000 in
theorem audp_is (B : Nat) (ys xs : List Int) (hy : ys.length ≤ 100) (hl : xs.length ≤ 1000) (fa : Option Addr) (fc : Nat) (mark vni ent : Int) (m0 : 0 ≤ mark) (m1 : mark ≤ 16777215) (v0 : 0 ≤ vni) (v1 : vni ≤ 16777215) (e0 : 0 ≤ ent) (e1 : ent ≤ 65535) (v : Value) (w : World) (hB : B ≤ w.heap.size) (hd : DatB B w v ys) (hf : Fr B w (.slice fa xs.length fc) xs) :
    Calls Try.prog 81 #[.agg #[.slice fa xs.length fc, .int .u32 mark, .int .u32 vni, .int .i64 ent], v] w fun e w' => Adds B w (ys ++ (udB ent xs.length ++ (vxB mark vni ++ xs))) e w' := by
  have r1 : ent % 18446744073709551616 = ent := by omega
  have HF := fun w => from_20 xs hl fa fc w
  have AV := fun va wa h1 h2 h3 => avxlan_is B (ys ++ ([] ++ enc 2 ent.toNat ++ enc 2 (4789 : Int).toNat ++ enc 2 ((xs.length + 16 : Nat) : Int).toNat ++ enc 2 (0 : Int).toNat)) xs (by simp [enc_length] <;> omega) hl fa fc mark vni m0 m1 v0 v1 va wa h1 h2 h3
  go_enter Try.func81, Try.ntmps81
  go_wp2_with (refine at_box rfl 98 _ rfl [.slice fa xs.length fc, .int .u32 mark, .int .u32 vni, .int .i64 ent] rfl ?_; rintro w1 H1 k1 s1)
  go_at_call 41
  refine (wr_New w1 8 (by decide)).mono ?_
  rintro e w2 ⟨b, rfl, m, W2, hbb, -, -, k2⟩
  have b2 := k1.trans (k2.mono k1.size)
  have H2 := H1.below k2 H1.lt
  have hBb : w.heap.size ≤ b := Nat.le_trans k1.size hbb
  clear k1 k2 hbb s1 H1
  have S2 := Wr.start W2
  have B0 := W2.1
  have D0 := W2.2.1
  have d2 := Blk.cell H2 3 (v := .int .i64 ent) rfl
  go_wp2_with fail
  go_at_call 84
  refine (put_U16 S2 ent e0 (by omega) (by simp [enc_length] <;> omega)).mono ?_
  rintro e w3 ⟨rfl, v3, S3⟩
  have x3 := S3.keep H2 B0 D0 (by decide) (by decide)
  clear S2 d2
  go_wp2_with fail
  go_at_call 84
  refine (put_U16 S3 4789 (by decide) (by decide) (by simp [enc_length] <;> omega)).mono ?_
  rintro e w4 ⟨rfl, v4, S4⟩
  have x4 := S4.keep H2 B0 D0 (by decide) (by decide)
  clear S3
  go_wp2_with (refine at_mid rfl 94 _ rfl w.heap.size 0 rfl x4 [.slice fa xs.length fc] rfl _ Try.underlying94 rfl szL1 ?_)
  go_at_call 90
  refine (HF w4).mono ?_
  rintro e w5 ⟨rfl, k5⟩
  have S5 := S4.below k5
  have x5 := x4.below k5 x4.lt
  clear k5 S4
  go_wp2_with fail
  go_at_call 84
  refine (put_U16 S5 ((xs.length + 16 : Nat) : Int) (by omega) (by omega) (by simp [enc_length] <;> omega)).mono ?_
  rintro e w6 ⟨rfl, v6, S6⟩
  have x6 := S6.keep H2 B0 D0 (by decide) (by decide)
  clear S5
  go_wp2_with fail
  go_at_call 84
  refine (put_U16 S6 0 (by decide) (by decide) (by simp [enc_length] <;> omega)).mono ?_
  rintro e w7 ⟨rfl, v7, S7⟩
  have x7 := S7.keep H2 B0 D0 (by decide) (by decide)
  clear S6
  have bb := S7.base b2 hBb (fun g hg => by simp [Value.ownBlock] at hg) b2.size
  go_wp2_with fail
  refine wp_region_selG w.heap.size [0, 1, 2, 3] 4 rfl (by kernel_rfl) (by kernel_rfl) (by kernel_rfl) (by kernel_rfl) (fun _ d _ _ _ h => by cases d <;> exact h) ?_
  intro V hV
  have d0 : Below w7.heap.size w7 V := by subst hV; exact (Below.refl _ _).drew
  have HV : Blk V w.heap.size 98 [.slice fa xs.length fc, .int .u32 mark, .int .u32 vni, .int .i64 ent] := x7.below d0 x7.lt
  have SV := S7.below d0
  have bV := bb.trans (d0.mono bb.size)
  have DV := hd.below bV
  have FV := hf.on (bV.mono hB)
  have hC : ∀ w', (∃ q : Same1 w.heap.size V, w' = q.w) → Blk w' w.heap.size 98 [.slice fa xs.length fc, .int .u32 mark, .int .u32 vni, .int .i64 ent] := by
    rintro _ ⟨q, rfl⟩
    exact q.h.trans HV
  clear hV
  simp only [pickOps, List.filterMap_cons, List.filterMap_nil, List.getElem?_cons_zero, List.getElem?_cons_succ, Option.map_some, List.map_cons, List.map_nil]
  repeat (first | (go_big_quiet_want; refine q_mid 96 (.tmp 26) rfl w.heap.size 0 rfl _ [.slice fa xs.length fc, .int .u32 mark, .int .u32 vni, .int .i64 ent] hC [.slice fa xs.length fc, .int .u32 mark, .int .u32 vni] rfl _ Try.underlying96 rfl szL3 ?_; go_simp; go_big_quiet_on) | go_big_quiet_step (fail))
  refine wpQuiet_nil ?_
  clear hC
  refine wpAnyH_one (k := 4) (by kernel_rfl) rfl (fun K hQ => ?_)
  go_simp
  refine (out_new V b _ SV.wtr).mono ?_
  rintro e wo ⟨vo, rfl, do', ko⟩
  refine hQ _ _ ⟨⟨wo, ko.block _ HV.lt⟩, rfl⟩ ?_
  clear hQ K
  have HO := HV.below ko HV.lt
  have DO := DV.below ko
  have hBo : B ≤ wo.heap.size := Nat.le_trans hB (Nat.le_trans bV.size ko.size)
  obtain ⟨va, wa, hr, DA, hg⟩ := append_any wo 23 B v vo ys _ DO do'.dat.seg hBo (by simp [enc_length] <;> omega)
  have ka := grown_below DO hg hBo
  have pa := Keep.grown DO.dat hg
  have za := hg.size
  have HA := pa _ _ _ (by decide) HO
  have HR := Lib.hid hr
  clear hr hg
  refine wpAnyH_one (k := 5) (by kernel_rfl) rfl (fun K hQ => ?_)
  refine if_true_prop (by kernel_rfl) ?_
  refine Lib.wp_append_run _ _ _ 23 23 rfl _ _ rfl rfl _ _ HR.out ?_
  refine hQ _ _ ⟨⟨wa, HA.trans HV.symm⟩, rfl⟩ ?_
  clear hQ K HR
  refine wpAnyH_one (k := 6) (by kernel_rfl) rfl (fun K hQ => ?_)
  go_simp
  have boa := ((bV.trans (ko.mono bV.size)).mono hB).trans ka
  refine (AV va wa (Nat.le_trans hBo za) DA (hf.on boa)).mono ?_
  rintro e wz ⟨vz, rfl, dz, kz, pz, zz⟩
  refine hQ _ _ ⟨⟨wz, (pz _ _ _ (by decide) HA).trans HV.symm⟩, rfl⟩ ?_
  clear hQ K
  refine wpAnyH_one (k := 7) (by kernel_rfl) rfl (fun K hQ => ?_)
  go_simp
  refine hQ _ _ ⟨⟨wz, (pz _ _ _ (by decide) HA).trans HV.symm⟩, rfl⟩ ?_
  clear hQ K
  refine wpAnyH_done (by kernel_rfl) ?_ 0
  have PZ := (Keep.of_below (bV.trans (ko.mono bV.size))).trans (pa.trans pz)
  have ZZ : w.heap.size ≤ wz.heap.size := Nat.le_trans bV.size (Nat.le_trans ko.size (Nat.le_trans za zz))
  have BZ := boa.trans kz
  clear HV HO HA SV DV FV DO ko ka kz pa pz
  go_wp2
  go_ret
  refine ⟨_, rfl, ?_, BZ, PZ, ZZ⟩
  have : ys ++ ([] ++ enc 2 ent.toNat ++ enc 2 (4789 : Int).toNat ++ enc 2 ((xs.length + 16 : Nat) : Int).toNat ++ enc 2 (0 : Int).toNat) ++ (vxB mark vni ++ xs) = ys ++ (udB ent xs.length ++ (vxB mark vni ++ xs)) := by rw [Int.toNat_natCast]; simp [udB, List.append_assoc]
  rw [← this]
  exact dz
set_option maxHeartbeats 4000000 in
theorem nosum_is (xs : List Int) (hl : xs.length ≤ 1000) (fa : Option Addr) (fc : Nat) (mark vni ent src dst ttl : Int) (a0 : 0 ≤ src) (a1 : src < 4294967296) (t0 : 0 ≤ dst) (t1 : dst < 4294967296) (u0 : 0 ≤ ttl) (u1 : ttl ≤ 255) (w : World) :
    Calls Try.prog 80 #[.agg #[.slice fa xs.length fc, .int .u32 mark, .int .u32 vni, .int .i64 ent, .int .u32 src, .int .u32 dst, .int .i64 ttl]] w fun e w' => ∃ v, e = .returned v ∧ DatB w.heap.size w' v (rh ((xs.length + 36 : Nat) : Int) ttl 17 src dst 0) ∧ Below w.heap.size w w' := by
  have r1 : ttl % 18446744073709551616 = ttl := by omega
  have HF := fun w => from_0 xs hl fa fc w
  go_enter Try.func80, Try.ntmps80
  go_wp2_with (refine at_box rfl 100 _ rfl [.slice fa xs.length fc, .int .u32 mark, .int .u32 vni, .int .i64 ent, .int .u32 src, .int .u32 dst, .int .i64 ttl] rfl ?_; rintro w1 H1 k1 s1)
  go_at_call 41
  refine (wr_New w1 20 (by decide)).mono ?_
  rintro e w2 ⟨b, rfl, m, W2, hbb, -, -, k2⟩
  have b2 := k1.trans (k2.mono k1.size)
  have H2 := H1.below k2 H1.lt
  have hBb : w.heap.size ≤ b := Nat.le_trans k1.size hbb
  clear k1 k2 hbb s1 H1
  have S2 := Wr.start W2
  have B0 := W2.1
  have D0 := W2.2.1
  go_wp2_with fail
  go_at_call 84
  refine (put_U16 S2 17664 (by decide) (by decide) (by simp [enc_length] <;> omega)).mono ?_
  rintro e w3 ⟨rfl, v3, S3⟩
  have x3 := S3.keep H2 B0 D0 (by decide) (by decide)
  clear S2
  go_wp2_with (refine at_mid rfl 94 _ rfl w.heap.size 0 rfl x3 [.slice fa xs.length fc] rfl _ Try.underlying94 rfl szL1 ?_)
  go_at_call 90
  refine (HF w3).mono ?_
  rintro e w4 ⟨rfl, k4⟩
  have S4 := S3.below k4
  have x4 := x3.below k4 x3.lt
  clear k4 S3
  go_wp2_with fail
  go_at_call 84
  refine (put_U16 S4 ((xs.length + 36 : Nat) : Int) (by omega) (by omega) (by simp [enc_length] <;> omega)).mono ?_
  rintro e w5 ⟨rfl, v5, S5⟩
  have x5 := S5.keep H2 B0 D0 (by decide) (by decide)
  clear S4
  go_wp2_with fail
  go_at_call 82
  refine (put_U32 S5 0 (by decide) (by decide) (by simp [enc_length] <;> omega)).mono ?_
  rintro e w6 ⟨rfl, v6, S6⟩
  have x6 := S6.keep H2 B0 D0 (by decide) (by decide)
  clear S5
  have d6 := Blk.cell x6 6 (v := .int .i64 ttl) rfl
  go_wp2_with fail
  go_at_call 83
  refine (put_U8 S6 ttl u0 (by omega) (by simp [enc_length] <;> omega)).mono ?_
  rintro e w7 ⟨rfl, v7, S7⟩
  have x7 := S7.keep H2 B0 D0 (by decide) (by decide)
  clear S6 d6
  go_wp2_with fail
  go_at_call 83
  refine (put_U8 S7 17 (by decide) (by decide) (by simp [enc_length] <;> omega)).mono ?_
  rintro e w8 ⟨rfl, v8, S8⟩
  have x8 := S8.keep H2 B0 D0 (by decide) (by decide)
  clear S7
  go_wp2_with fail
  go_at_call 84
  refine (put_U16 S8 0 (by decide) (by decide) (by simp [enc_length] <;> omega)).mono ?_
  rintro e w9 ⟨rfl, v9, S9⟩
  have x9 := S9.keep H2 B0 D0 (by decide) (by decide)
  clear S8
  have d9 := Blk.cell x9 4 (v := .int .u32 src) rfl
  go_wp2_with fail
  go_at_call 82
  refine (put_U32 S9 src a0 a1 (by simp [enc_length] <;> omega)).mono ?_
  rintro e w10 ⟨rfl, v10, S10⟩
  have x10 := S10.keep H2 B0 D0 (by decide) (by decide)
  clear S9 d9
  have d10 := Blk.cell x10 5 (v := .int .u32 dst) rfl
  go_wp2_with fail
  go_at_call 82
  refine (put_U32 S10 dst t0 t1 (by simp [enc_length] <;> omega)).mono ?_
  rintro e w11 ⟨rfl, v11, S11⟩
  have x11 := S11.keep H2 B0 D0 (by decide) (by decide)
  clear S10 d10
  go_wp2_with fail
  go_at_call 44
  refine (out_new w11 b _ S11.wtr).mono ?_
  rintro e wz ⟨v, rfl, dz, kz⟩
  have bb := S11.base b2 hBb (fun g hg => by simp [Value.ownBlock] at hg) b2.size
  go_wp2
  go_ret
  refine ⟨v, rfl, ?_, bb.trans (kz.mono bb.size)⟩
  have := World.ownsRow.mono dz bb.size
  simpa [DatB, rh, List.append_assoc] using this
end Go.Proofs.Ytgpjelcihmbiiaa
