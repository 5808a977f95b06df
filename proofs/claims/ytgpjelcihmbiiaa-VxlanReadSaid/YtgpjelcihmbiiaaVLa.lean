/- The layers of a packet: the frame and the header of VXLAN. No condition. -/
import Derived.Test.YtgpjelcihmbiiaaVKt
import Derived.Test.YtgpjelcihmbiiaaQt
import Derived.Test.YtgpjelcihmbiiaaPZk
namespace Go.Proofs.Ytgpjelcihmbiiaa
open Go.RowKit Go.Sort
set_option linter.unusedVariables false
set_option linter.unusedSimpArgs false
set_option maxRecDepth 100000

theorem szL1 : (Try.prog.info? 94).map (·.size) = some 1 := by kernel_rfl
theorem szL3 : (Try.prog.info? 96).map (·.size) = some 3 := by kernel_rfl
theorem szL4 : (Try.prog.info? 98).map (·.size) = some 4 := by kernel_rfl
theorem szL7 : (Try.prog.info? 100).map (·.size) = some 7 := by kernel_rfl
/-- All structs in memory are as they were. -/
def Keep (w w' : World) : Prop := ∀ (n : Nat) (t : TypeId) (cs : List Value), t ≠ 5 → Blk w n t cs → Blk w' n t cs
theorem Keep.of_below {w w' : World} (h : Below w.heap.size w w') : Keep w w' := fun n t cs _ hb => hb.below h hb.lt
theorem Keep.trans {x y z : World} (h : Keep x y) (k : Keep y z) : Keep x z := fun n t cs ht hb => k n t cs ht (h n t cs ht hb)
theorem Keep.grown {w w' : World} {v : Value} {ys : List Int} (hv : Dat w v ys) (hg : w.grownBy w' v.ownBlock) : Keep w w' := fun n t cs ht hb => (hg.block n hb.lt (hv.own_ne hb ht)).trans hb
theorem grown_below {B : Nat} {w w' : World} {v : Value} {ys : List Int} (hv : DatB B w v ys) (hg : w.grownBy w' v.ownBlock) (hB : B ≤ w.heap.size) : Below B w w' := (Below.refl _ _).grown hg hB fun k hk => (World.ownsRow.lt hv k hk).1
/-- What is asked of the frame in memory: it lies below B. -/
def Fr (B : Nat) (w : World) (v : Value) (xs : List Int) : Prop := ∀ w', Below B w w' → Seg w' v xs
theorem Fr.on {B : Nat} {w w' : World} {v : Value} {xs : List Int} (h : Fr B w v xs) (k : Below B w w') : Fr B w' v xs := fun w'' q => h w'' (k.trans q)
theorem Fr.seg {B : Nat} {w : World} {v : Value} {xs : List Int} (h : Fr B w v xs) : Seg w v xs := h w (Below.refl _ _)
/-- What appending these octets does. -/
def Adds (B : Nat) (w : World) (ys : List Int) (e : Ending) (w' : World) : Prop := ∃ v, e = .returned v ∧ DatB B w' v ys ∧ Below B w w' ∧ Keep w w' ∧ w.heap.size ≤ w'.heap.size
theorem at_app2 {ops : Array Oper} {rest : List Oper} {o : Oper} {a : Act} {w : World} {Q : Exit → Act → World → Prop} (hgd : o.guard = none) (s x : Operand) (ho : o.op = .call { callee := .builtin .append, args := #[s, x], argTypes := #[23, 23] }) (vs vx : Value) (hs : a.eval s = vs) (hx : a.eval x = vx)
    (B : Nat) (ys zs : List Int) (hv : DatB B w vs ys) (hu : Seg w vx zs) (hB : B ≤ w.heap.size) (hl : ys.length + zs.length ≤ 1000000)
    (h : ∀ w' v, DatB B w' v (ys ++ zs) → Below B w w' → Keep w w' → w.heap.size ≤ w'.heap.size → wpList Try.prog ops Q rest (a.put o.dst v) w') : wpList Try.prog ops Q (o :: rest) a w := by
  obtain ⟨v', w', hr, hd, hg⟩ := append_any w o.type B vs vx ys zs hv hu hB (by omega)
  exact Lib.wpList_append_run _ hgd s x 23 23 ho _ _ hs hx _ _ hr (h w' v' hd (grown_below hv hg hB) (Keep.grown hv.dat hg) hg.size)
theorem from_0 (xs : List Int) (hl : xs.length ≤ 1000) (fa : Option Addr) (fc : Nat) (w : World) : Calls Try.prog 90 #[.agg #[.slice fa xs.length fc], .int .i64 0] w fun e w' => e = .returned (.int .u64 ((xs.length + 36 : Nat))) ∧ Below w.heap.size w w' := by
  generalize xs.length = n at *
  go_enter Try.func90, Try.ntmps90
  go_wp2_with (refine at_box rfl 94 _ rfl [.slice fa n fc] rfl ?_; rintro w1 H1 k1 s1; have c0 := H1.cell 0 (v := .slice fa n fc) rfl)
  go_ret
  refine ⟨?_, k1⟩
  have e1 : (36 + (n : Int) - 0) % 18446744073709551616 = ((n + 36 : Nat) : Int) := by omega
  simp [← e1] <;> omega
theorem from_20 (xs : List Int) (hl : xs.length ≤ 1000) (fa : Option Addr) (fc : Nat) (w : World) : Calls Try.prog 90 #[.agg #[.slice fa xs.length fc], .int .i64 20] w fun e w' => e = .returned (.int .u64 ((xs.length + 16 : Nat))) ∧ Below w.heap.size w w' := by
  generalize xs.length = n at *
  go_enter Try.func90, Try.ntmps90
  go_wp2_with (refine at_box rfl 94 _ rfl [.slice fa n fc] rfl ?_; rintro w1 H1 k1 s1; have c0 := H1.cell 0 (v := .slice fa n fc) rfl)
  go_ret
  refine ⟨?_, k1⟩
  have e1 : (36 + (n : Int) - 20) % 18446744073709551616 = ((n + 16 : Nat) : Int) := by omega
  simp [← e1] <;> omega
theorem aframe_is (B : Nat) (ys xs : List Int) (hy : ys.length ≤ 1000) (hl : xs.length ≤ 1000) (fa : Option Addr) (fc : Nat) (v : Value) (w : World) (hB : B ≤ w.heap.size) (hd : DatB B w v ys) (hf : Fr B w (.slice fa xs.length fc) xs) :
    Calls Try.prog 94 #[.agg #[.slice fa xs.length fc], v] w fun e w' => Adds B w (ys ++ xs) e w' := by
  go_enter Try.func94, Try.ntmps94
  go_wp2_with (first
    | (refine at_box rfl 94 _ rfl [.slice fa xs.length fc] rfl ?_; rintro w1 H1 k1 s1; have c0 := H1.cell 0 (v := .slice fa xs.length fc) rfl; have d1 := hd.below k1; have f1 := hf.on (k1.mono hB))
    | (refine at_app2 rfl (.tmp 5) (.tmp 7) rfl _ _ rfl rfl B ys xs d1 f1.seg (Nat.le_trans hB k1.size) (by omega) ?_; rintro w2 v2 d2 b2 p2 z2))
  go_ret
  exact ⟨_, rfl, d2, (k1.mono hB).trans b2, (Keep.of_below k1).trans p2, Nat.le_trans k1.size z2⟩
set_option maxHeartbeats 4000000 in
theorem avxlan_is (B : Nat) (ys xs : List Int) (hy : ys.length ≤ 500) (hl : xs.length ≤ 1000) (fa : Option Addr) (fc : Nat) (mark vni : Int) (m0 : 0 ≤ mark) (m1 : mark ≤ 16777215) (v0 : 0 ≤ vni) (v1 : vni ≤ 16777215) (v : Value) (w : World) (hB : B ≤ w.heap.size) (hd : DatB B w v ys) (hf : Fr B w (.slice fa xs.length fc) xs) :
    Calls Try.prog 91 #[.agg #[.slice fa xs.length fc, .int .u32 mark, .int .u32 vni], v] w fun e w' => Adds B w (ys ++ (vxB mark vni ++ xs)) e w' := by
  go_enter Try.func91, Try.ntmps91
  go_wp2_with (refine at_box rfl 96 _ rfl [.slice fa xs.length fc, .int .u32 mark, .int .u32 vni] rfl ?_; rintro w1 H1 k1 s1)
  go_at_call 41
  refine (wr_New w1 8 (by decide)).mono ?_
  rintro e w2 ⟨b, rfl, m, W2, hbb, -, -, k2⟩
  have b2 := k1.trans (k2.mono k1.size)
  have H2 := H1.below k2 H1.lt
  have hBb : w.heap.size ≤ b := Nat.le_trans k1.size hbb
  clear k1 k2 hbb s1 H1
  have S2 := Wr.start W2
  have B0 := W2.1
  have D0 := W2.2.1
  go_wp2_with fail
  go_at_call 83
  refine (put_U8 S2 8 (by decide) (by decide) (by simp [enc_length] <;> omega)).mono ?_
  rintro e w3 ⟨rfl, v3, S3⟩
  have x3 := S3.keep H2 B0 D0 (by decide) (by decide)
  clear S2
  have d3 := Blk.cell x3 1 (v := .int .u32 mark) rfl
  go_wp2_with fail
  go_at_call 93
  refine (put_U24 S3 mark m0 (by omega) (by simp [enc_length] <;> omega)).mono ?_
  rintro e w4 ⟨rfl, v4, S4⟩
  have x4 := S4.keep H2 B0 D0 (by decide) (by decide)
  clear S3 d3
  have d4 := Blk.cell x4 2 (v := .int .u32 vni) rfl
  go_wp2_with fail
  go_at_call 93
  refine (put_U24 S4 vni v0 (by omega) (by simp [enc_length] <;> omega)).mono ?_
  rintro e w5 ⟨rfl, v5, S5⟩
  have x5 := S5.keep H2 B0 D0 (by decide) (by decide)
  clear S4 d4
  go_wp2_with fail
  go_at_call 83
  refine (put_U8 S5 0 (by decide) (by decide) (by simp [enc_length] <;> omega)).mono ?_
  rintro e w6 ⟨rfl, v6, S6⟩
  have x6 := S6.keep H2 B0 D0 (by decide) (by decide)
  clear S5
  have bb := S6.base b2 hBb (fun g hg => by simp [Value.ownBlock] at hg) b2.size
  go_wp2_with fail
  refine wp_region_selG w.heap.size [0, 1, 2, 3] 4 rfl (by kernel_rfl) (by kernel_rfl) (by kernel_rfl) (by kernel_rfl) (fun _ d _ _ _ h => by cases d <;> exact h) ?_
  intro V hV
  have d0 : Below w6.heap.size w6 V := by subst hV; exact (Below.refl _ _).drew
  have HV : Blk V w.heap.size 96 [.slice fa xs.length fc, .int .u32 mark, .int .u32 vni] := x6.below d0 x6.lt
  have SV := S6.below d0
  have bV := bb.trans (d0.mono bb.size)
  have DV := hd.below bV
  have FV := hf.on (bV.mono hB)
  have hC : ∀ w', (∃ q : Same1 w.heap.size V, w' = q.w) → Blk w' w.heap.size 96 [.slice fa xs.length fc, .int .u32 mark, .int .u32 vni] := by
    rintro _ ⟨q, rfl⟩
    exact q.h.trans HV
  clear hV
  simp only [pickOps, List.filterMap_cons, List.filterMap_nil, List.getElem?_cons_zero, List.getElem?_cons_succ, Option.map_some, List.map_cons, List.map_nil]
  repeat (first | (go_big_quiet_want; refine q_mid 94 (.tmp 25) rfl w.heap.size 0 rfl _ [.slice fa xs.length fc, .int .u32 mark, .int .u32 vni] hC [.slice fa xs.length fc] rfl _ Try.underlying94 rfl szL1 ?_; go_simp; go_big_quiet_on) | go_big_quiet_step (fail))
  refine wpQuiet_nil ?_
  clear hC
  refine wpAnyH_one (k := 4) (by kernel_rfl) rfl (fun K hQ => ?_)
  go_simp
  refine (out_new V b _ SV.wtr).mono ?_
  rintro e wo ⟨vo, rfl, do', ko⟩
  refine hQ _ _ ⟨⟨wo, ko.block _ HV.lt⟩, rfl⟩ ?_
  clear hQ K
  have HO := HV.below ko HV.lt
  have DO := DV.below ko
  have hBo : B ≤ wo.heap.size := Nat.le_trans hB (Nat.le_trans bV.size ko.size)
  obtain ⟨va, wa, hr, DA, hg⟩ := append_any wo 23 B v vo ys _ DO do'.dat.seg hBo (by simp [enc_length] <;> omega)
  have ka := grown_below DO hg hBo
  have pa := Keep.grown DO.dat hg
  have za := hg.size
  have HA := pa _ _ _ (by decide) HO
  have HR := Lib.hid hr
  clear hr hg
  refine wpAnyH_one (k := 5) (by kernel_rfl) rfl (fun K hQ => ?_)
  refine if_true_prop (by kernel_rfl) ?_
  refine Lib.wp_append_run _ _ _ 23 23 rfl _ _ rfl rfl _ _ HR.out ?_
  refine hQ _ _ ⟨⟨wa, HA.trans HV.symm⟩, rfl⟩ ?_
  clear hQ K HR
  refine wpAnyH_one (k := 6) (by kernel_rfl) rfl (fun K hQ => ?_)
  go_simp
  have boa := ((bV.trans (ko.mono bV.size)).mono hB).trans ka
  refine (aframe_is B _ xs (by simp [enc_length] <;> omega) hl fa fc va wa (Nat.le_trans hBo za) DA (hf.on boa)).mono ?_
  rintro e wz ⟨vz, rfl, dz, kz, pz, zz⟩
  refine hQ _ _ ⟨⟨wz, (pz _ _ _ (by decide) HA).trans HV.symm⟩, rfl⟩ ?_
  clear hQ K
  refine wpAnyH_one (k := 7) (by kernel_rfl) rfl (fun K hQ => ?_)
  go_simp
  refine hQ _ _ ⟨⟨wz, (pz _ _ _ (by decide) HA).trans HV.symm⟩, rfl⟩ ?_
  clear hQ K
  refine wpAnyH_done (by kernel_rfl) ?_ 0
  have PZ := (Keep.of_below (bV.trans (ko.mono bV.size))).trans (pa.trans pz)
  have ZZ : w.heap.size ≤ wz.heap.size := Nat.le_trans bV.size (Nat.le_trans ko.size (Nat.le_trans za zz))
  have BZ := boa.trans kz
  clear HV HO HA SV DV FV DO ko ka kz pa pz
  go_wp2
  go_ret
  refine ⟨_, rfl, ?_, BZ, PZ, ZZ⟩
  have : ys ++ ([] ++ enc 1 (8 : Int).toNat ++ enc 3 mark.toNat ++ enc 3 vni.toNat ++ enc 1 (0 : Int).toNat) ++ xs = ys ++ (vxB mark vni ++ xs) := by simp [vxB, List.append_assoc]
  rw [← this]
  exact dz
end Go.Proofs.Ytgpjelcihmbiiaa
