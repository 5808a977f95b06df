/- Faults in memory: made and set. No condition. The reference of layer 4: Read. No condition. -/
import Derived.Test.YtejcclcckgdbgaaNRd
import Derived.Test.YtejcclcckgdbgaaGd
import Derived.Test.YtejcclcckgdbgaaNQm
import Derived.Deep.RegionWith
namespace Go.Proofs.Ytejcclcckgdbgaa
open Go.RowKit Go.Sort
set_option linter.unusedVariables false
set_option linter.unusedSimpArgs false
set_option maxRecDepth 100000

theorem Flt.below {w w' : World} {b : Nat} {e k : Int} (h : Flt w b e k) (hk : Below w.heap.size w w') : Flt w' b e k := (hk.block b (Array.getElem?_eq_some_iff.1 h).1).trans h
theorem Flt.cells {w : World} {b : Nat} {e k : Int} (h : Flt w b e k) : w.cell? ⟨b, 0, none⟩ = some (.int .i64 e) ∧ w.cell? ⟨b, 1, none⟩ = some (.int .i64 k) := by
  simp only [World.cell?, show w.heap[b]? = _ from h]
  simp
theorem run_newF (w : World) : (Instr.alloc 40 true (.tuple #[])).run Try.prog w = .ok (.pointer (some ⟨w.heap.size, 0, none⟩)) (w.alloc (.cells #[.int .i64 0, .int .i64 0] 40)) := by kernel_rfl
section
variable {ops : Array Oper} {rest : List Oper} {o : Oper} {a : Act} {w : World} {Q : Exit → Act → World → Prop}
theorem at_newF (hgd : o.guard = none) (ho : o.op = .alloc 40)
    (h : ∀ w', Flt w' w.heap.size 0 0 → Below w.heap.size w w' → w'.heap.size = w.heap.size + 1 → wpList Try.prog ops Q rest (a.put o.dst (.pointer (some ⟨w.heap.size, 0, none⟩))) w') : wpList Try.prog ops Q (o :: rest) a w :=
  wpList_plain hgd fun _ hK => by
    unfold Oper.wp execOp
    simp only [ho, Sem.run_bind, run_newF, Result.andThen_ok, Sem.run_pure]
    exact hK _ _ (h _ (World.alloc_heap_new w _) ((Below.refl _ w).alloc (Nat.le_refl _) _) (by simp))
theorem at_storeF (hgd : o.guard = none) (x y : Operand) (ho : o.op = .store 40 x y) (hd : o.dst = none) (b : Nat) (hx : a.eval x = .pointer (some ⟨b, 0, none⟩)) (e k e' k' : Int) (hy : a.eval y = .agg #[.int .i64 e', .int .i64 k']) (hb : Flt w b e k)
    (h : ∀ w', Flt w' b e' k' → But w.heap.size b w w' → w'.heap.size = w.heap.size → wpList Try.prog ops Q rest a w') : wpList Try.prog ops Q (o :: rest) a w :=
  wpList_store_row hgd _ x y ho b _ hx hy _ _ hb (flt_size e' k') rfl (by simp [Value.oneCell']) (by rw [hd]; exact h _ (setRow_heap w b _ _ _ _ hb) ⟨rfl, rfl, rfl, by simp [World.setRow], fun i hi hn => by simp [World.setRow, Array.getElem?_modify, Ne.symm hn]⟩ (by simp [World.setRow]))
theorem at_loadF (hgd : o.guard = none) (x : Operand) (ho : o.op = .load 40 x) (b : Nat) (hx : a.eval x = .pointer (some ⟨b, 0, none⟩)) (e k : Int) (hb : Flt w b e k)
    (h : wpList Try.prog ops Q rest (a.put o.dst (.agg #[.int .i64 e, .int .i64 k])) w) : wpList Try.prog ops Q (o :: rest) a w :=
  wpList_load_mid hgd _ x ho b 0 hx [.int .i64 e, .int .i64 k] _ (fun j u hu => by
    obtain ⟨c0, c1⟩ := hb.cells
    match j, hu with
    | 0, hu => simp at hu; subst hu; exact c0
    | 1, hu => simp at hu; subst hu; exact c1) Try.underlying40 rfl (flt_size e k) h
end
end Go.Proofs.Ytejcclcckgdbgaa
namespace Go.Proofs.Ytejcclcckgdbgaa
open Go.RowKit Go.Sort
set_option linter.unusedVariables false
set_option linter.unusedSimpArgs false
set_option maxRecDepth 100000

theorem results_tmp_row {P : Program} {fn : Func} {p u : Tmp} {ty : TypeId} (h : fn.results = #[.tmp u, .cell p ty]) (tmps : Array Value) (w : World) (g : Nat) (t : TypeId) (cs : Array Value) (fr : Nat × Nat) (d : TypeDesc)
    (hp : tmps.getD p undef = .pointer (some ⟨g, 0, none⟩)) (hg : w.heap[g]? = some (.cells cs t fr))
    (hu : P.underlying ty = some d) (hd : (match d with | .struct _ | .array _ _ => true | _ => false) = true) (hi : (P.info? ty).map (·.size) = some cs.size) :
    (results fn tmps).run P w = .ok (.tuple #[tmps.getD u undef, .agg cs]) w := by
  have e : (results fn tmps).run P w = ((asAddr (tmps.getD p undef)).run P w).andThen fun a w₁ => ((loadVar ty a).run P w₁).andThen fun v w₂ => .ok (.tuple #[tmps.getD u undef, v]) w₂ := by
    simp only [results, h]
    simp [Sem.run_bind, Result.andThen]
  rw [e, hp]
  simp [asAddr, run_loadVar_row w g t ty cs fr d hg hu hd hi, Result.andThen]
theorem append_nl (w : World) (ty : TypeId) (B : Nat) (v : Value) (l : List NL) (g : Nat) (n : NL) (hv : NuN B w v l) (hg : Bx w g n) (hB : B ≤ w.heap.size) (hl : l.length ≤ 4096) :
    ∃ v' w', (Builtin.append_ #[38, 38] ty #[v, .slice (some ⟨g, 0, none⟩) 1 1]).run Try.prog w = .ok v' w' ∧ NuN B w' v' (l ++ [n]) ∧ w.grownBy w' v.ownBlock := by
  obtain ⟨i, hi, hz, hs, hb⟩ := info_nl
  have hb0 : (l.length + 1) * i.bytes ≤ 140737488355328 := Nat.le_trans (Nat.mul_le_mul (show l.length + 1 ≤ 4097 by omega) hb) (by decide)
  obtain ⟨v', w', hr, ho, hgr, -⟩ := run_append_own (P := Try.prog) w B 38 ty 36 i NL.zero.v 21 i.bytes Try.underlying38 hi hz hs rfl rfl (by decide) v l.length _ hv ⟨g, 0, none⟩ 1 1 n.cs rfl (fun j y hj => by rw [show Addr.add ⟨g, 0, none⟩ j = ⟨g, 0 + j, none⟩ from add_is _ _ _, Nat.zero_add]; exact Blk.cell hg j hj) n.cs_one (by unfold maxLen; omega) hb0 hB
  exact ⟨v', w', hr, own_push ho, hgr⟩
theorem at_litN {ops : Array Oper} {rest : List Oper} {o : Oper} {a : Act} {w : World} {Q : Exit → Act → World → Prop} (hgd : o.guard = none) (y : Operand) (ho : o.op = .buildSlice 38 1 #[(0, y)]) (n : NL) (hy : a.eval y = n.v)
    (h : ∀ w', Laid w w' n → wpList Try.prog ops Q rest (a.put o.dst (.slice (some ⟨w.heap.size, 0, none⟩) 1 1)) w') : wpList Try.prog ops Q (o :: rest) a w :=
  wpList_plain hgd fun _ hK => by
    unfold Oper.wp execOp
    simp only [ho, List.map_toArray, List.map_cons, List.map_nil, hy, Sem.run_bind, run_lit, Result.andThen_ok, Sem.run_pure]
    exact hK _ _ (h _ (Laid.new w n))
theorem q_conv {C : World → Prop} {o : Oper} {a : Act} {K : Act → Prop} (x : Operand) (ho : o.op = .convert 23 9 x) (v : Value) (hx : a.eval x = v) (s : ByteArray) (hC : ∀ w, C w → (convert 23 9 v).run Try.prog w = .ok (.string s) w) (h : K (a.put o.dst (.string s))) : o.quiet Try.prog a C K :=
  ⟨.string s, fun w hw => by
    unfold Oper.quietAt execOp
    simp only [ho, hx, Sem.run_bind, hC w hw, Sem.run_pure, Result.andThen_ok, Oper.quietUpon, and_self], h⟩
theorem seg_string {w : World} {v : Value} {xs : List Int} (h : Seg w v xs) (h0 : xs ≠ []) : (convert 23 9 v).run Try.prog w = .ok (.string (strOfNums xs)) w := by
  obtain ⟨a, c, rfl, hc, hx⟩ := h
  obtain ⟨g, o, rfl, -⟩ := hx 0 (by cases xs with | nil => exact absurd rfl h0 | cons x r => simp)
  exact run_convert_bytes_arg w _ _ Try.underlying23 Try.underlying5 g o _ _ xs rfl (fun i hi => by
    obtain ⟨g', o', e, hcell⟩ := hx i hi
    cases e
    exact hcell) _ Try.underlying9
theorem str_eq {xs ys : List Int} (hx : Oct xs) (hy : Oct ys) : ((strOfNums xs).toList == (strOfNums ys).toList) = decide (xs = ys) := by
  rw [Lib.strOfNums_toList, Lib.strOfNums_toList]
  exact bytesOf_eq hx hy
theorem reg_all {P : World → Prop} {wr : World} (h : ∀ w', Below wr.heap.size wr w' → P w') : ∀ w', (∃ p : Regrown, w' = grow (redrawn wr p.d) p.os) → P w' := by
  rintro w' ⟨p, rfl⟩
  exact h _ (below_regrown wr p.d p.os)
theorem Flt.of_grown {w w' : World} {b B : Nat} {e k : Int} {v : Value} {l : List NL} (h : Flt w b e k) (hn : NuN B w v l) (hg : w.grownBy w' v.ownBlock) : Flt w' b e k :=
  (hg.block b (Array.getElem?_eq_some_iff.1 h).1 fun q => by
    obtain ⟨h1, ⟨hv, hn0⟩ | ⟨g, cap, cur, hv, hb, hgg, r⟩⟩ := hn
    · rw [hv] at q
      simp [Value.ownBlock] at q
    · rw [hv] at q
      simp only [Value.ownBlock, Option.some.injEq] at q
      subst q
      rw [show w.heap[b]? = _ from h] at hgg
      simp only [Option.some.injEq, Obj.cells.injEq] at hgg
      exact absurd hgg.2.1 (by decide)).trans h
theorem NuN.other {w w' : World} {b B : Nat} {e k : Int} {v : Value} {l : List NL} (hn : NuN B w v l) (h : Flt w b e k) (hk : But w.heap.size b w w') : NuN B w' v l :=
  hn.keep fun g hg => hk.block g (World.ownsRow.lt hn g hg).2 fun q => by
    obtain ⟨h1, ⟨hv, hn0⟩ | ⟨g', cap, cur, hv, hb, hgg, r⟩⟩ := hn
    · rw [hv] at hg
      simp [Value.ownBlock] at hg
    · rw [hv] at hg
      simp only [Value.ownBlock, Option.some.injEq] at hg
      subst hg q
      rw [show w.heap[g']? = _ from h] at hgg
      simp only [Option.some.injEq, Obj.cells.injEq] at hgg
      exact absurd hgg.2.1 (by decide)

set_option maxHeartbeats 2000000 in
theorem rread_is (xs : List Int) (ho : Oct xs) (hl : xs.length ≤ 400) (v : Value) (w : World) (hs : Seg w v xs) :
    Calls Try.prog 25 #[v] w fun r w' => ∃ V E A, (r = .returned (.tuple #[V, .agg #[.int .i64 E, .int .i64 A]]) ∧ RefTo w.heap.size xs w' V E A) ∧ Below w.heap.size w w' := by
  have HS := Lib.hid hs
  obtain ⟨a, c, hv⟩ : ∃ a c, v = .slice a xs.length c := by obtain ⟨a, c, e, -⟩ := hs; exact ⟨a, c, e⟩
  subst hv
  clear hs
  go_enter Try.func25, Try.ntmps25
  go_wp2_with (refine at_newF rfl rfl ?_; intro w1 f1 k1 s1)
  go_loopw [4, 5] (fun vo va wr => ∃ (m mo : Nat) (co : Nat) (ao : Option Addr), mo = m ∧ vo = .slice ao mo co ∧ va = .int .i64 (ofs xs m : Nat) ∧ Hid (∀ j, j < m → ofs xs j < xs.length) ∧ Hid (∀ j, j < m → ge xs j = 0) ∧ NuN w.heap.size wr (.slice ao mo co) ((List.range m).map (gr xs)) ∧ Flt wr w.heap.size 0 0 ∧ Below w.heap.size w wr ∧ w.heap.size + 1 ≤ wr.heap.size)
    (fun _ va _ => xs.length - (intOf va).toNat)
  case atStart => exact ⟨0, 0, 0, none, rfl, rfl, rfl, Lib.hid (fun j hj => absurd hj (Nat.not_lt_zero _)), Lib.hid (fun j hj => absurd hj (Nat.not_lt_zero _)), NuN.nil _ _, f1, k1, by omega⟩
  case round =>
    obtain ⟨m, mo, co, ao, hmo, rfl, rfl, h1, h2, hN, hF, hB, hz⟩ := hrel
    clear f1 k1 s1
    have hseg := HS.out.below hB
    have hm1 := ofs_ge xs m h1.out
    have hm2 := ofs_le xs m
    have h4 : ((mo : Int) == 4096) = false := by simp; omega
    obtain ⟨p, hp⟩ : ∃ p, p = ofs xs m := ⟨_, rfl⟩
    by_cases hlt : p < xs.length
    · have hlt0 : ofs xs m < xs.length := by omega
      have hltI : (p : Int) < xs.length := by omega
      have hall : ∀ j, j < m + 1 → ofs xs j < xs.length := fun j hj => by
        rcases Nat.lt_or_ge j m with q | q
        · exact h1.out j q
        · obtain rfl : j = m := by omega
          exact hlt0
      have HALL := Lib.hid hall
      clear hall
      rw [← hp]
      by_cases hA : xs.length < p + 2
      · have b1 : (xs.length : Int) < (p : Int) + 2 := by omega
        have hge := ge_none hlt0 (by omega)
        have HG := Lib.hid hge
        have HP := Lib.hid hp
        have HM := Lib.hid hmo
        clear hge hp hlt0 hm1 hm2 hlt hA hseg hmo
        go_wp2_with (refine at_storeF rfl _ _ rfl rfl w.heap.size rfl 0 0 4 (p : Nat) rfl hF ?_; intro wz fz kz sz)
        refine bodyPost_ret (results_tmp_row (by rfl) _ _ w.heap.size _ _ _ _ rfl fz Try.underlying40 rfl (flt_size _ _)) rfl ?_
        have hend : RefTo w.heap.size xs wz (.slice none 0 0) 4 (p : Nat) := .inr ⟨m, HALL.out, h2.out, HG.out.symm, by decide, by rw [HP.out], rfl⟩
        have hbel : Below w.heap.size w wz := But.below hB kz (Nat.le_refl _) hB.size
        first
          | exact ⟨_, _, _, ⟨rfl, hend⟩, hbel⟩
          | exact ⟨⟨_, _, _, rfl, hend⟩, hbel⟩
      · have b1 : ¬ (xs.length : Int) < (p : Int) + 2 := by omega
        obtain ⟨bs, os, hsv, hcs⟩ : ∃ b o, a = some ⟨b, o, none⟩ ∧ ∀ i, i < xs.length → wr.cell? ⟨b, o + i, none⟩ = some (.int .u8 (xs.getD i 0)) := by
          obtain ⟨a', c', e, hc', hx⟩ := hseg
          cases e
          obtain ⟨b, o, e0, -⟩ := hx 0 (by omega)
          refine ⟨b, o, e0, fun i hi => ?_⟩
          obtain ⟨b', o', e1, hcell⟩ := hx i hi
          rw [e0] at e1
          cases e1
          exact hcell
        subst hsv
        have hc1 := hcs (p + 1) (by omega)
        have hc0 := hcs p (by omega)
        have oc1 := ho.getD (p + 1)
        have oc0 := ho.getD p
        obtain ⟨s, hsn⟩ : ∃ s : Nat, xs.getD (p + 1) 0 = s := ⟨(xs.getD (p + 1) 0).toNat, by omega⟩
        obtain ⟨k, hkn⟩ : ∃ k : Nat, xs.getD p 0 = k := ⟨(xs.getD p 0).toNat, by omega⟩
        rw [hsn] at hc1 oc1
        rw [hkn] at hc0 oc0
        have hs256 : s < 256 := by omega
        have hk256 : k < 256 := by omega
        have i1 : ((p : Int) + 1) < xs.length := by omega
        clear oc1 oc0 hcs
        have HK := Lib.hid hkn
        have HSN := Lib.hid hsn
        by_cases hB2 : xs.length < p + 2 + s
        · have b2 : (xs.length : Int) < (p : Int) + 2 + s := by omega
          have hge : ge xs m = 4 := ge_cut (by omega) (by rw [← hp, hsn]; simpa using hB2)
          have HG := Lib.hid hge
          have HP := Lib.hid hp
          have HM := Lib.hid hmo
          clear hge hp hlt0 hm1 hm2 hlt hA hB2 hseg hsn hkn hc0 hmo
          go_wp2_with (refine at_storeF rfl _ _ rfl rfl w.heap.size rfl 0 0 4 (p : Nat) rfl hF ?_; intro wz fz kz sz)
          refine bodyPost_ret (results_tmp_row (by rfl) _ _ w.heap.size _ _ _ _ rfl fz Try.underlying40 rfl (flt_size _ _)) rfl ?_
          have hend : RefTo w.heap.size xs wz (.slice none 0 0) 4 (p : Nat) := .inr ⟨m, HALL.out, h2.out, HG.out.symm, by decide, by rw [HP.out], rfl⟩
          have hbel : Below w.heap.size w wz := But.below hB kz (Nat.le_refl _) hB.size
          first
            | exact ⟨_, _, _, ⟨rfl, hend⟩, hbel⟩
            | exact ⟨⟨_, _, _, rfl, hend⟩, hbel⟩
        · have b2 : ¬ (xs.length : Int) < (p : Int) + 2 + s := by omega
          obtain ⟨hpx, hof⟩ := px_full (xs := xs) (m := m) (by rw [← hp, hsn]; simp; omega)
          rw [← hp, hsn, hkn, Int.toNat_natCast] at hpx
          rw [← hp, hsn, Int.toNat_natCast] at hof
          have hvl : ((xs.drop (p + 2)).take s).length = s := len_part xs (p + 2) s (by omega)
          have hoz : Oct ((xs.drop (p + 2)).take s) := (ho.drop _).take _
          obtain ⟨zs, hzs⟩ : ∃ zs, zs = (xs.drop (p + 2)).take s := ⟨_, rfl⟩
          rw [← hzs] at hpx hvl hoz
          have hpo : Oct (((k : Nat) : Int) :: ((s : Nat) : Int) :: zs) := by rw [← hpx]; exact px_oct ho m
          have hge0 : ge xs m = rrE (((k : Nat) : Int) :: ((s : Nat) : Int) :: zs) := by unfold ge; rw [hpx]
          have hgr0 : gr xs m = rrO (((k : Nat) : Int) :: ((s : Nat) : Int) :: zs) := by unfold gr; rw [hpx]
          by_cases hkk : 1 ≤ k ∧ k ≤ 5
          · have k1 : decide ((k : Int) < 1) = false := by simp; omega
            have k5 : decide ((5 : Int) < k) = false := by simp; omega
            obtain ⟨pf, ps⟩ := pv_is hseg (p + 2) (p + 2 + s) (by omega) (by omega)
            rw [show p + 2 + s - (p + 2) = s by omega, ← hzs] at ps
            obtain ⟨pg, pt⟩ := pv_is hseg p (p + 2 + s) (by omega) (by omega)
            have hpt : (xs.drop p).take (p + 2 + s - p) = ((k : Nat) : Int) :: ((s : Nat) : Int) :: zs := by
              rw [at_two (by omega), hsn, hkn, show p + 2 + s - p = s + 2 by omega, hzs]
              rfl
            rw [hpt] at pt
            have hpf : ∀ W, (Instr.slice 23 (.slice (some ⟨bs, os, none⟩) xs.length c) (some (.int .i64 ((p : Int) + 2))) (some (.int .i64 ((p : Int) + 2 + s))) none).run Try.prog W = .ok (pv (.slice (some ⟨bs, os, none⟩) xs.length c) (p + 2) (p + 2 + s)) W := fun W => pf W
            have hpg : ∀ W, (Instr.slice 23 (.slice (some ⟨bs, os, none⟩) xs.length c) (some (.int .i64 (p : Nat))) (some (.int .i64 ((p : Int) + 2 + s))) none).run Try.prog W = .ok (pv (.slice (some ⟨bs, os, none⟩) xs.length c) p (p + 2 + s)) W := fun W => pg W
            generalize pv (.slice (some ⟨bs, os, none⟩) xs.length c) (p + 2) (p + 2 + s) = vz at hpf ps
            generalize pv (.slice (some ⟨bs, os, none⟩) xs.length c) p (p + 2 + s) = vp at hpg pt
            have HP := Lib.hid hp
            have HM := Lib.hid hmo
            have HOF := Lib.hid hof
            have HG0 := Lib.hid hge0
            have HR0 := Lib.hid hgr0
            have HVL := Lib.hid hvl
            have HPG := Lib.hid hpg
            clear hp hmo hof hge0 hgr0 hzs hpx hpt pf pg hseg hsn hkn hm1 hm2 hlt0 hvl hpg
            go_wp2_with fail
            go_quiet (fail)
            have psn := ps.below (below_drewN wr.heap.size wr nq)
            have ptn := pt.below (below_drewN wr.heap.size wr nq)
            have Nn := hN.below (below_drewN wr.heap.size wr nq)
            have Fn := hF.below (below_drewN wr.heap.size wr nq)
            have Bn := hB.trans (below_drewN w.heap.size wr nq)
            have zn : w.heap.size + 1 ≤ (wr.drewN nq).heap.size := hz
            generalize wr.drewN nq = w2 at psn ptn Nn Fn Bn zn ⊢
            clear ps pt hN hF hB hz hc0 hc1
            go_wp2_with fail
            go_at_call 53
            refine (value_is k hkk.1 hkk.2 zs hoz (by have := HVL.out; omega) vz w2 psn).mono ?_
            rintro r w3 ⟨n, rfl, hV, k3⟩
            have hcase := hV.piece (s := (s : Nat)) (by rw [HVL.out]) hpo hkk.1 hkk.2
            have pt3 := ptn.below k3
            have N3 := Nn.below k3
            have F3 := Fn.below k3
            have B3 := Bn.trans (k3.mono Bn.size)
            have z3 : w.heap.size + 1 ≤ w3.heap.size := Nat.le_trans zn k3.size
            clear psn ptn Nn Fn Bn zn k3 hpf k1 k5
            unfold NL.v
            go_wp2_with (first
              | (refine at_new rfl rfl ?_; rintro w4 ⟨x4, k4, s4⟩)
              | (refine at_store rfl _ _ rfl rfl w3.heap.size rfl NL.zero n rfl x4 ?_; rintro w5 g5; have x5 := g5.bx; have k5 : Below w3.heap.size w3 w5 := But.below k4 g5.but (Nat.le_refl _) k4.size; have pt5 := pt3.below k5; have N5 := N3.below k5; have F5 := F3.below k5; have B5 := B3.trans (k5.mono B3.size); have z5 : w.heap.size + 1 ≤ w5.heap.size := Nat.le_trans z3 k5.size; clear x4 k4 s4 g5 k5 pt3 N3 F3 B3)
              | (refine at_load rfl _ rfl w3.heap.size rfl n x5 ?_)
              | fail)
            go_at_call 16
            by_cases hck : n.chk = 0
            · refine (rbytes_ok n hV.1 hck w5).mono ?_
              rintro r w6 ⟨vx, rfl, D6, k6⟩
              have hGd : Good n := ⟨hV.1, hck⟩
              have hsx := dat_string (w := w6) D6 (by unfold NL.code; simp)
              have hsx' : ∀ w', Below w6.heap.size w6 w' → (convert 23 9 vx).run Try.prog w' = .ok (.string (strOfNums n.code)) w' := fun w' k => dat_string (D6.below k) (by unfold NL.code; simp)
              have x6 := x5.below k6 x5.lt
              have pt6 := pt5.below k6
              have hsp' : ∀ w', Below w6.heap.size w6 w' → (convert 23 9 vp).run Try.prog w' = .ok (.string (strOfNums (((k : Nat) : Int) :: ((s : Nat) : Int) :: zs))) w' := fun w' k => seg_string (pt6.below k) (by simp)
              have N6 := N5.below k6
              have F6 := F5.below k6
              have B6 := B5.trans (k6.mono B5.size)
              have z6 : w.heap.size + 1 ≤ w6.heap.size := Nat.le_trans z5 k6.size
              have hstr := str_eq (code_oct hGd.1 hGd.2) hpo
              have x6s : w3.heap.size < w6.heap.size := x6.lt
              have H1 := Lib.hid (reg_all hsx')
              have H2 := Lib.hid (reg_all hsp')
              clear hsx hsx' hsp' pt6 pt5 N5 F5 B5 x5 k6 D6 hV z5
              generalize strOfNums n.code = s1 at hstr H1
              generalize strOfNums (((k : Nat) : Int) :: ((s : Nat) : Int) :: zs) = s2 at hstr H2
              by_cases hco : n.code = ((k : Nat) : Int) :: ((s : Nat) : Int) :: zs
              · have hstr' : (s1.toList == s2.toList) = true := by rw [hstr]; simpa using hco
                rcases hcase with ⟨-, -, cE, cO⟩ | ⟨cn, -⟩
                · have HCE := Lib.hid cE
                  have HCO := Lib.hid cO
                  clear cE cO hstr hco hGd hpo hoz
                  go_wp2_with fail
                  refine wp_region_qb (by kernel_rfl) (by kernel_rfl) ?_
                  repeat (first
                    | go_big_quiet_skip
                    | (go_big_quiet_want; refine q_conv (.tmp 78) rfl vx rfl s1 H1.out ?_; go_simp; go_big_quiet_on)
                    | (go_big_quiet_want; refine q_slice 23 (by rw [elem_bytes]; exact Try.underlying23) (.tmp 80) (.tmp 81) (.tmp 82) rfl _ _ _ vp rfl rfl rfl (fun W _ => HPG.out W) ?_; go_simp; go_big_quiet_on)
                    | (go_big_quiet_want; refine q_conv (.tmp 83) rfl vp rfl s2 H2.out ?_; go_simp; go_big_quiet_on)
                    | (go_big_quiet_want; go_big_quiet_op; go_big_quiet_on))
                  refine wpQuiet_nil ?_
                  intro w7 k7
                  have x7 := x6.below k7 x6.lt
                  have N7 := N6.below k7
                  have F7 := F6.below k7
                  have B7 := B6.trans (k7.mono B6.size)
                  have z7 : w.heap.size + 1 ≤ w7.heap.size := Nat.le_trans z6 k7.size
                  clear x6 N6 F6 B6 k7
                  go_wp2_with (first
                    | (refine at_load rfl _ rfl w3.heap.size rfl n x7 ?_)
                    | (refine at_litN rfl _ rfl n rfl ?_; rintro w8 ⟨x8, k8, s8⟩; obtain ⟨v9, w9, hr9, N9, g9⟩ := append_nl w8 38 w.heap.size _ _ _ n (N7.below k8) x8 (B7.trans (k8.mono B7.size)).size (by rw [List.length_map, List.length_range]; have := HM.out; have := ofs_ge xs m h1.out; have := ofs_le xs m; omega))
                    | (at_builtin; refine Lib.wpList_append_run _ rfl _ _ 38 38 rfl _ _ rfl rfl _ _ hr9 ?_)
                    | fail)
                  obtain ⟨a9, c9, e9⟩ := N9.form
                  have F9 : Flt w9 w.heap.size 0 0 := (F7.below k8).of_grown (N7.below k8) g9
                  have B9 := (B7.trans (k8.mono B7.size)).grown g9 (B7.trans (k8.mono B7.size)).size fun q hq => (World.ownsRow.lt (N7.below k8) q hq).1
                  have z9 : w.heap.size + 1 ≤ w9.heap.size := Nat.le_trans (Nat.le_trans z7 k8.size) g9.size
                  have hcs : flN ((List.range m).map (gr xs) ++ [n]) = flN ((List.range (m + 1)).map (gr xs)) := by
                    rw [List.range_succ, List.map_append, flN_append, flN_append]
                    show _ ++ flN [n] = _ ++ flN [gr xs m]
                    rw [flN_one, flN_one, HR0.out, HCO.out]
                  have hlen : ((List.range m).map (gr xs) ++ [n]).length = m + 1 := by simp
                  have N9' : NuN w.heap.size w9 v9 ((List.range (m + 1)).map (gr xs)) := by
                    unfold NuN at N9 ⊢
                    rw [← hcs, List.length_map, List.length_range, ← hlen]
                    exact N9
                  rw [hlen] at e9
                  subst e9
                  refine ⟨⟨m + 1, m + 1, c9, a9, rfl, rfl, ?_, HALL, Lib.hid ?_, N9', F9, B9, z9⟩, ?_⟩
                  · rw [HOF.out]
                    simp
                  · intro j hj
                    rcases Nat.lt_or_ge j m with q | q
                    · exact h2.out j q
                    · obtain rfl : j = m := by omega
                      rw [HG0.out]
                      exact HCE.out
                  · simp only [intOf]
                    omega
                · exact absurd ⟨hck, hco⟩ cn
              · have hstr' : (s1.toList == s2.toList) = false := by rw [hstr]; simpa using hco
                rcases hcase with ⟨-, cn, -, -⟩ | ⟨-, cE⟩
                · exact absurd cn hco
                · have HG : Hid (ge xs m = 3) := Lib.hid (by rw [HG0.out]; exact cE)
                  clear cE hstr hco hGd hpo hoz
                  go_wp2_with fail
                  refine wp_region_qb (by kernel_rfl) (by kernel_rfl) ?_
                  repeat (first
                    | go_big_quiet_skip
                    | (go_big_quiet_want; refine q_conv (.tmp 78) rfl vx rfl s1 H1.out ?_; go_simp; go_big_quiet_on)
                    | (go_big_quiet_want; refine q_slice 23 (by rw [elem_bytes]; exact Try.underlying23) (.tmp 80) (.tmp 81) (.tmp 82) rfl _ _ _ vp rfl rfl rfl (fun W _ => HPG.out W) ?_; go_simp; go_big_quiet_on)
                    | (go_big_quiet_want; refine q_conv (.tmp 83) rfl vp rfl s2 H2.out ?_; go_simp; go_big_quiet_on)
                    | (go_big_quiet_want; go_big_quiet_op; go_big_quiet_on))
                  refine wpQuiet_nil ?_
                  intro w7 k7
                  have hF := F6.below k7
                  have hB := B6.trans (k7.mono B6.size)
                  clear x6 N6 F6 B6 k7
                  go_wp2_with (refine at_storeF rfl _ _ rfl rfl w.heap.size rfl 0 0 3 (p : Nat) rfl hF ?_; intro wz fz kz sz)
                  refine bodyPost_ret (results_tmp_row (by rfl) _ _ w.heap.size _ _ _ _ rfl fz Try.underlying40 rfl (flt_size _ _)) rfl ?_
                  have hend : RefTo w.heap.size xs wz (.slice none 0 0) 3 (p : Nat) := .inr ⟨m, HALL.out, h2.out, HG.out.symm, by decide, by rw [HP.out], rfl⟩
                  have hbel : Below w.heap.size w wz := But.below hB kz (Nat.le_refl _) hB.size
                  first
                    | exact ⟨_, _, _, ⟨rfl, hend⟩, hbel⟩
                    | exact ⟨⟨_, _, _, rfl, hend⟩, hbel⟩
            · have hcb : (n.chk != 0) = true := by simpa using hck
              refine (rbytes_bad n hck w5).mono ?_
              rintro r w6 ⟨rfl, k6⟩
              have hF := F5.below k6
              have hB := B5.trans (k6.mono B5.size)
              have HG : Hid (ge xs m = 3) := Lib.hid (by
                rw [HG0.out]
                rcases hcase with ⟨cn, -⟩ | ⟨-, cE⟩
                · exact absurd cn hck
                · exact cE)
              clear hcase hV N5 F5 B5 pt5 x5 k6 hpo hoz
              generalize n.chk = ch at hcb hck ⊢
              go_wp2_with fail
              go_quiet (fail)
              have hF := hF.below (below_drewN w6.heap.size w6 nq)
              have hB := hB.trans (below_drewN w.heap.size w6 nq)
              generalize w6.drewN nq = w7 at hF hB ⊢
              go_wp2_with (refine at_storeF rfl _ _ rfl rfl w.heap.size rfl 0 0 3 (p : Nat) rfl hF ?_; intro wz fz kz sz)
              refine bodyPost_ret (results_tmp_row (by rfl) _ _ w.heap.size _ _ _ _ rfl fz Try.underlying40 rfl (flt_size _ _)) rfl ?_
              have hend : RefTo w.heap.size xs wz (.slice none 0 0) 3 (p : Nat) := .inr ⟨m, HALL.out, h2.out, HG.out.symm, by decide, by rw [HP.out], rfl⟩
              have hbel : Below w.heap.size w wz := But.below hB kz (Nat.le_refl _) hB.size
              first
                | exact ⟨_, _, _, ⟨rfl, hend⟩, hbel⟩
                | exact ⟨⟨_, _, _, rfl, hend⟩, hbel⟩
          · have HG : Hid (ge xs m = 6) := Lib.hid (by rw [hge0]; exact other_kind (by rw [hvl]) hkk)
            have HP := Lib.hid hp
            have HM := Lib.hid hmo
            clear hge0 hgr0 hp hlt0 hm1 hm2 hlt hA hB2 hseg hsn hkn hmo hof hpx hpo hoz hvl hzs
            by_cases hk1 : k < 1
            · have k1 : decide ((k : Int) < 1) = true := by simp; omega
              go_wp2_with fail
              go_quiet (fail)
              have hF := hF.below (below_drewN wr.heap.size wr nq)
              have hB := hB.trans (below_drewN w.heap.size wr nq)
              generalize wr.drewN nq = w7 at hF hB ⊢
              go_wp2_with (refine at_storeF rfl _ _ rfl rfl w.heap.size rfl 0 0 6 (p : Nat) rfl hF ?_; intro wz fz kz sz)
              refine bodyPost_ret (results_tmp_row (by rfl) _ _ w.heap.size _ _ _ _ rfl fz Try.underlying40 rfl (flt_size _ _)) rfl ?_
              have hend : RefTo w.heap.size xs wz (.slice none 0 0) 6 (p : Nat) := .inr ⟨m, HALL.out, h2.out, HG.out.symm, by decide, by rw [HP.out], rfl⟩
              have hbel : Below w.heap.size w wz := But.below hB kz (Nat.le_refl _) hB.size
              first
                | exact ⟨_, _, _, ⟨rfl, hend⟩, hbel⟩
                | exact ⟨⟨_, _, _, rfl, hend⟩, hbel⟩
            · have k1 : decide ((k : Int) < 1) = false := by simp; omega
              have k5 : decide ((5 : Int) < k) = true := by simp; omega
              go_wp2_with fail
              go_quiet (fail)
              have hF := hF.below (below_drewN wr.heap.size wr nq)
              have hB := hB.trans (below_drewN w.heap.size wr nq)
              generalize wr.drewN nq = w7 at hF hB ⊢
              go_wp2_with (refine at_storeF rfl _ _ rfl rfl w.heap.size rfl 0 0 6 (p : Nat) rfl hF ?_; intro wz fz kz sz)
              refine bodyPost_ret (results_tmp_row (by rfl) _ _ w.heap.size _ _ _ _ rfl fz Try.underlying40 rfl (flt_size _ _)) rfl ?_
              have hend : RefTo w.heap.size xs wz (.slice none 0 0) 6 (p : Nat) := .inr ⟨m, HALL.out, h2.out, HG.out.symm, by decide, by rw [HP.out], rfl⟩
              have hbel : Below w.heap.size w wz := But.below hB kz (Nat.le_refl _) hB.size
              first
                | exact ⟨_, _, _, ⟨rfl, hend⟩, hbel⟩
                | exact ⟨⟨_, _, _, rfl, hend⟩, hbel⟩
    · have hge : ¬ (p : Int) < xs.length := by omega
      have hle : xs.length ≤ ofs xs m := by omega
      rw [← hp]
      have HP := Lib.hid hp
      clear hp hm1 hm2 hlt hseg hmo
      go_wp2_with (refine at_storeF rfl _ _ rfl rfl w.heap.size rfl 0 0 0 0 rfl hF ?_; intro wz fz kz sz)
      refine bodyPost_ret (results_tmp_row (by rfl) _ _ w.heap.size _ _ _ _ rfl fz Try.underlying40 rfl (flt_size _ _)) rfl ?_
      have hend : RefTo w.heap.size xs wz (.slice ao mo co) 0 0 := .inl ⟨m, hle, h1.out, h2.out, rfl, rfl, hN.other hF kz⟩
      have hbel : Below w.heap.size w wz := But.below hB kz (Nat.le_refl _) hB.size
      first
        | exact ⟨_, _, _, ⟨rfl, hend⟩, hbel⟩
        | exact ⟨⟨_, _, _, rfl, hend⟩, hbel⟩
end Go.Proofs.Ytejcclcckgdbgaa
