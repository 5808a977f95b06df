/- CommSorts: the walk of the law. No condition but what the table of kinds holds. -/
import Derived.Test.YtmajalobkcnobaaDoorCSh
namespace Go.Proofs.YtmajalobkcnobaaDoor
open Go.RowKit Go.Sort Go.Shelf Go.Lib
set_option linter.unusedVariables false
set_option linter.unusedSimpArgs false
set_option maxRecDepth 100000

theorem SetOf.same {F F' S S' : List (Nat → Int)} (h : SetOf F S) (h' : SetOf F' S') (k : ∀ l, l ∈ F.map cb ↔ l ∈ F'.map cb) (hO : ∀ e ∈ F, O8 e) (hO' : ∀ e ∈ F', O8 e) : S.length = S'.length ∧ ∀ j, j < S.length → eqC (at0 S j) (at0 S' j) = true := by
  have e := h.one h' k
  have hl : S.length = S'.length := by simpa using congrArg List.length e
  refine ⟨hl, fun j hj => ?_⟩
  have h1 := at0_some S j hj
  have h2 := at0_some S' j (by omega)
  have h3 : (S.map cb)[j]? = (S'.map cb)[j]? := by rw [e]
  rw [List.getElem?_map, List.getElem?_map, h1, h2] at h3
  simp only [Option.map_some, Option.some.injEq] at h3
  exact (cb_eq (hO _ (h.sub _ (List.mem_of_getElem? h1))) (hO' _ (h'.sub _ (List.mem_of_getElem? h2)))).1 h3

theorem NuC.range {X g cap : Nat} {w : World} {E : List (Nat → Int)} (h : NuC X w (.slice (some ⟨g, 0, none⟩) E.length cap) E) (i : Nat) (hi : i < E.length) : g < w.heap.size ∧ w.rangeAt g (i * 8) [.int .u8 (at0 E i 0), .int .u8 (at0 E i 1), .int .u8 (at0 E i 2), .int .u8 (at0 E i 3), .int .u8 (at0 E i 4), .int .u8 (at0 E i 5), .int .u8 (at0 E i 6), .int .u8 (at0 E i 7)] := by
  obtain ⟨a, c, hv, -, hx⟩ := h.seg
  injection hv with h1 h2 h3
  subst h1
  obtain ⟨b, o, h, hb, hr⟩ := hx i _ (at0_some E i hi)
  injection h with h
  injection h with h1 h2
  subst h1 h2
  rw [Nat.zero_add] at hr
  exact ⟨hb, hr⟩
theorem conv_q {w wr : World} {b o : Nat} {e : Nat → Int} (he : O8 e) (hb : b < w.heap.size) (h : w.rangeAt b o [.int .u8 (e 0), .int .u8 (e 1), .int .u8 (e 2), .int .u8 (e 3), .int .u8 (e 4), .int .u8 (e 5), .int .u8 (e 6), .int .u8 (e 7)]) (hB : Below w.heap.size w wr) : ∃ s : ByteArray, (∀ d os, (convert 56 9 (.slice (some ⟨b, o, none⟩) 8 8)).run Tryd.prog (grow (redrawn wr d) os) = .ok (.string s) (grow (redrawn wr d) os)) ∧ s.toList = cb e := by
  refine ⟨⟨(cb e).toArray⟩, fun d os => ?_, by rw [Lib.toList_data]⟩
  have hl : (cb e).length = 8 := rfl
  have := run_convert_bytes_back (P := Tryd.prog) (grow (redrawn wr d) os) 56 9 5 ⟨b, o, none⟩ 8 (cb e) Tryd.underlying56 Tryd.underlying5 Tryd.underlying9 (fun j hj => by
    rw [Addr.add_mid]
    have hj8 : j < 8 := hj
    refine ((hB.trans ((below_regrown wr d os).mono hB.size)).cell (p := ⟨b, o + j, none⟩) hb).trans (h j _ ?_)
    have := he j hj8
    rcases j with _ | _ | _ | _ | _ | _ | _ | _ | j
    all_goals first
      | omega
      | (simp only [cb, Lib.bytesOf, List.map_cons, List.map_nil, List.getElem_cons_zero, List.getElem_cons_succ, List.getElem?_cons_zero, List.getElem?_cons_succ, UInt8.toNat_ofNat', Option.some.injEq, Value.int.injEq, true_and, Nat.zero_add, Nat.reduceAdd] at this ⊢; omega))
  rw [hl] at this
  exact this
theorem has_q (E : List (Nat → Int)) (x : Nat → Int) (R : Bool) (hR : hasC E x = R) (hm : E.length ≤ 1000000) (v : Value) (wr : World) (hv : CSeg wr v E) (d : Nat) (os : Array Obj) :
    Calls Tryd.prog 46 #[v, .agg #[.int .u8 (x 0), .int .u8 (x 1), .int .u8 (x 2), .int .u8 (x 3), .int .u8 (x 4), .int .u8 (x 5), .int .u8 (x 6), .int .u8 (x 7)]] (grow (redrawn wr d) os) fun r w'' => r = .returned (.bool R) ∧ ∃ p : Regrown, w'' = grow (redrawn wr p.d) p.os := by
  subst hR
  have hb := below_regrown wr d os
  exact (has_c E x hm v _ (hv.below hb)).mono fun r w' ⟨h1, h2⟩ => ⟨h1, regrown_of_below (hb.trans (h2.mono hb.size))⟩
theorem hasC_mem {E : List (Nat → Int)} {x : Nat → Int} (h : x ∈ E) : hasC E x = true := List.any_eq_true.2 ⟨x, h, eqC_refl x⟩

theorem rangeC {w wr : World} {b k : Nat} {e : Nat → Int} (hb : b < w.heap.size) (h : w.rangeAt b k [.int .u8 (e 0), .int .u8 (e 1), .int .u8 (e 2), .int .u8 (e 3), .int .u8 (e 4), .int .u8 (e 5), .int .u8 (e 6), .int .u8 (e 7)]) (hB : Below w.heap.size w wr) : ∀ w', (∃ p : Regrown, w' = grow (redrawn wr p.d) p.os) → w'.rangeAt b k [.int .u8 (e 0), .int .u8 (e 1), .int .u8 (e 2), .int .u8 (e 3), .int .u8 (e 4), .int .u8 (e 5), .int .u8 (e 6), .int .u8 (e 7)] := by
  rintro w' ⟨p, rfl⟩ j u hu
  exact ((hB.trans ((below_regrown wr p.d p.os).mono hB.size)).cell (p := ⟨b, k + j, none⟩) hb).trans (h j u hu)
theorem szC : (Tryd.prog.info? 24).map (·.size) = some 8 := by kernel_rfl
theorem q_loadC {C : World → Prop} {o : Oper} {a : Act} {K : Act → Prop} (x : Operand) (ho : o.op = .load 24 x) (b k : Nat) (hx : a.eval x = .pointer (some ⟨b, k, none⟩)) (e : Nat → Int) (hC : ∀ w, C w → w.rangeAt b k [.int .u8 (e 0), .int .u8 (e 1), .int .u8 (e 2), .int .u8 (e 3), .int .u8 (e 4), .int .u8 (e 5), .int .u8 (e 6), .int .u8 (e 7)]) (h : K (a.put o.dst (.agg #[.int .u8 (e 0), .int .u8 (e 1), .int .u8 (e 2), .int .u8 (e 3), .int .u8 (e 4), .int .u8 (e 5), .int .u8 (e 6), .int .u8 (e 7)]))) : o.quiet Tryd.prog a C K :=
  ⟨.agg #[.int .u8 (e 0), .int .u8 (e 1), .int .u8 (e 2), .int .u8 (e 3), .int .u8 (e 4), .int .u8 (e 5), .int .u8 (e 6), .int .u8 (e 7)], fun w hw => by
    unfold Oper.quietAt execOp
    simp only [ho, hx, Sem.run_bind, run_loadAt_mid w b k _ _ _ (hC w hw) Tryd.underlying24 rfl szC, Sem.run_pure, Result.andThen_ok, Oper.quietUpon, and_self], h⟩
theorem at_loadC {ops : Array Oper} {rest : List Oper} {o : Oper} {a : Act} {w : World} {Q : Exit → Act → World → Prop} (hgd : o.guard = none) (x : Operand) (ho : o.op = .load 24 x) (b k : Nat) (hx : a.eval x = .pointer (some ⟨b, k, none⟩)) (e : Nat → Int) (hb : w.rangeAt b k [.int .u8 (e 0), .int .u8 (e 1), .int .u8 (e 2), .int .u8 (e 3), .int .u8 (e 4), .int .u8 (e 5), .int .u8 (e 6), .int .u8 (e 7)])
    (h : wpList Tryd.prog ops Q rest (a.put o.dst (.agg #[.int .u8 (e 0), .int .u8 (e 1), .int .u8 (e 2), .int .u8 (e 3), .int .u8 (e 4), .int .u8 (e 5), .int .u8 (e 6), .int .u8 (e 7)])) w) : wpList Tryd.prog ops Q (o :: rest) a w :=
  wpList_load_mid hgd _ x ho b k hx _ _ hb Tryd.underlying24 rfl szC h
theorem q_conv {C : World → Prop} {o : Oper} {a : Act} {K : Act → Prop} (x : Operand) (ho : o.op = .convert 56 9 x) (v : Value) (hx : a.eval x = v) (s : ByteArray) (hC : ∀ w, C w → (convert 56 9 v).run Tryd.prog w = .ok (.string s) w) (h : K (a.put o.dst (.string s))) : o.quiet Tryd.prog a C K :=
  ⟨.string s, fun w hw => by
    unfold Oper.quietAt execOp
    simp only [ho, hx, Sem.run_bind, hC w hw, Sem.run_pure, Result.andThen_ok, Oper.quietUpon, and_self], h⟩
theorem q_geq {C : World → Prop} {o : Oper} {a : Act} {K : Act → Prop} (x y : Operand) (ho : o.op = .binOp .geq 9 x y 9) (s1 s2 : ByteArray) (hx : a.eval x = .string s1) (hy : a.eval y = .string s2) (hr : ∀ w, (binOp .geq 9 (.string s1) (.string s2)).run Tryd.prog w = .ok (.bool false) w) (h : K (a.put o.dst (.bool false))) : o.quiet Tryd.prog a C K :=
  ⟨.bool false, fun w hw => by
    have hg : Sem.run Tryd.prog (eqGuard .geq 9 x y (.string s1) (.string s2)) w = .ok () w := by kernel_rfl
    unfold Oper.quietAt execOp
    simp only [ho, hx, hy, Sem.run_bind, hg, hr, Sem.run_pure, Result.andThen_ok, Oper.quietUpon, and_self], h⟩
theorem regr {P : World → Prop} {wr : World} (h : ∀ d os, P (grow (redrawn wr d) os)) : ∀ w', (∃ p : Regrown, w' = grow (redrawn wr p.d) p.os) → P w' := by
  rintro w' ⟨p, rfl⟩
  exact h p.d p.os

set_option maxHeartbeats 16000000 in
theorem sorts_walk (A B : List (Nat → Int)) (hA : ∀ e ∈ A, O8 e) (hB : ∀ e ∈ B, O8 e) (v u : Value) (w : World) (hv : CSeg w v A) (hu : CSeg w u B) (hK : KI w) :
    Calls Tryd.prog 7 #[v, u] w fun r w' => r = .returned (.bool true) ∧ Below w.heap.size w w' := by
  have hv0 := hv
  have hu0 := hu
  obtain ⟨va, vc, rfl, -, -⟩ := hv0
  obtain ⟨ua, uc, rfl, -, -⟩ := hu0
  have HV := Lib.hid hv
  have HU := Lib.hid hu
  have HA := Lib.hid hA
  have HB := Lib.hid hB
  clear hv hu hA hB
  by_cases hla : A.length ≤ 60
  · have hla' : (A.length : Int) ≤ 60 := by omega
    by_cases hlb : B.length ≤ 60
    · have hlb' : (B.length : Int) ≤ 60 := by omega
      go_enter Tryd.func7, Tryd.ntmps7
      go_wp2_with fail
      go_at_call 9
      refine (lives_is _ hK).mono ?_
      rintro r w0 ⟨rfl, b0⟩
      go_wp2_with fail
      go_at_call 29
      refine (own_c w0 _ A (HV.out.below b0) (by omega)).mono ?_
      rintro r w1 ⟨v1, ⟨rfl, h1, n1⟩, b1⟩
      have d1 : Below w.heap.size w w1 := b0.trans (b1.mono b0.size)
      obtain ⟨v2, w2, hr2, h2, hg2, hn2⟩ := append_c w1 35 w0.heap.size v1 _ A B h1 (HU.out.below d1) b1.size (by omega)
      have d2 : Below w0.heap.size w0 w2 := b1.grown hg2 b1.size (fun q hq => (World.ownsRow.lt h1 q hq).1)
      have e2 : Below w.heap.size w w2 := b0.trans (d2.mono b0.size)
      obtain ⟨F1, hF1⟩ : ∃ F1, A ++ B = F1 := ⟨_, rfl⟩
      have hF1l : F1.length ≤ 1000000 := by rw [← hF1, List.length_append]; omega
      have HF1 := Lib.hid hF1
      have hO1 : ∀ e ∈ F1, O8 e := fun e he => by
        rw [← hF1] at he
        rcases List.mem_append.1 he with q | q
        · exact HA.out e q
        · exact HB.out e q
      rw [hF1] at h2
      obtain ⟨g2, cap2, rfl⟩ := h2.form8 (hn2 n1)
      have hso := sort_c w2 g2 0 cap2 F1 hO1 h2.seg hF1l
      have E2 := Lib.hid e2
      have HO1 := Lib.hid hO1
      obtain ⟨q1, c1, hq1, -, -⟩ := h1.seg
      subst hq1
      clear h1 n1 h2 hg2 hn2 d1 d2 e2 hF1 hO1
      go_wp2_with (at_builtin; refine Lib.wpList_append_run _ rfl _ _ 35 35 rfl _ _ rfl rfl _ _ hr2 ?_)
      clear hr2
      go_at_call 19
      refine hso.mono ?_
      rintro r w3 ⟨g3, cap3, S1, rfl, h3, hS1, b3⟩
      have e3 := Lib.hid (E2.out.trans (b3.mono E2.out.size))
      have H3 := Lib.hid h3
      have HS1 := Lib.hid hS1
      clear b0 b1 b3 hso h3 hS1
      go_wp2_with fail
      go_at_call 29
      refine (own_c w3 _ B (HU.out.below e3.out) (by omega)).mono ?_
      rintro r w4 ⟨v4, ⟨rfl, h4, n4⟩, d4⟩
      obtain ⟨v5, w5, hr5, h5, hg5, hn5⟩ := append_c w4 35 w3.heap.size v4 _ B A h4 (HV.out.below (e3.out.trans (d4.mono e3.out.size))) d4.size (by omega)
      have d5 : Below w3.heap.size w3 w5 := d4.grown hg5 d4.size (fun q hq => (World.ownsRow.lt h4 q hq).1)
      obtain ⟨F3, hF3⟩ : ∃ F3, B ++ A = F3 := ⟨_, rfl⟩
      rw [hF3] at h5
      obtain ⟨v6, w6, hr6, h6, hg6, hn6⟩ := append_c w5 35 w3.heap.size v5 _ F3 B h5 (HU.out.below (e3.out.trans (d5.mono e3.out.size))) d5.size (by rw [← hF3, List.length_append]; omega)
      have d6 : Below w3.heap.size w3 w6 := d5.grown hg6 d5.size (fun q hq => (World.ownsRow.lt h5 q hq).1)
      obtain ⟨F2, hF2⟩ : ∃ F2, F3 ++ B = F2 := ⟨_, rfl⟩
      have hF2l : F2.length ≤ 1000000 := by rw [← hF2, ← hF3, List.length_append, List.length_append]; omega
      have hO2 : ∀ e ∈ F2, O8 e := fun e he => by
        rw [← hF2, ← hF3] at he
        rcases List.mem_append.1 he with q | q
        · rcases List.mem_append.1 q with q | q
          · exact HB.out e q
          · exact HA.out e q
        · exact HB.out e q
      have hFF : ∀ l, l ∈ F1.map cb ↔ l ∈ F2.map cb := fun l => by
        rw [← HF1.out, ← hF2, ← hF3]
        simp only [List.map_append, List.mem_append]
        constructor
        · rintro (q | q)
          · exact .inl (.inr q)
          · exact .inr q
        · rintro ((q | q) | q)
          · exact .inr q
          · exact .inl q
          · exact .inr q
      rw [hF2] at h6
      obtain ⟨g6, cap6, rfl⟩ := h6.form8 (hn6 (hn5 n4))
      have hso := sort_c w6 g6 0 cap6 F2 hO2 h6.seg hF2l
      have HO2 := Lib.hid hO2
      have HFF := Lib.hid hFF
      have D6 := Lib.hid d6
      obtain ⟨q4, c4, hq4, -, -⟩ := h4.seg
      subst hq4
      obtain ⟨q5, c5, hq5, -, -⟩ := h5.seg
      subst hq5
      clear h4 n4 h5 hg5 hn5 h6 hg6 hn6 d4 d5 d6 hF2 hF3 hO2 hFF
      go_wp2_with (at_builtin; first | (refine Lib.wpList_append_run _ rfl _ _ 35 35 rfl _ _ rfl rfl _ _ hr5 ?_) | (refine Lib.wpList_append_run _ rfl _ _ 35 35 rfl _ _ rfl rfl _ _ hr6 ?_))
      clear hr5 hr6
      go_at_call 19
      refine hso.mono ?_
      rintro r w7 ⟨g7, cap7, S2, rfl, h7, hS2, b7⟩
      have d7 := D6.out.trans (b7.mono D6.out.size)
      obtain ⟨hl12, hs12⟩ := HS1.out.same hS2 HFF.out HO1.out HO2.out
      have hO3 : ∀ e ∈ S1, O8 e := fun e he => HO1.out e (HS1.out.sub e he)
      have hS1l : S1.length ≤ 1000000 := Nat.le_trans HS1.out.len hF1l
      have hx7 := H3.out.below d7
      have hsa := same_c S1 S2 hS1l _ _ w7 hx7.seg h7.seg hl12 hs12
      have D7 := Lib.hid d7
      have H7 := Lib.hid hx7
      have HO3 := Lib.hid hO3
      clear hso b7 h7 hS2 hl12 hs12 hx7 d7 hO3
      go_wp2_with fail
      go_at_call 43
      refine hsa.mono ?_
      rintro r w8 ⟨rfl, b8⟩
      have d8 := D7.out.trans (b8.mono D7.out.size)
      have hx8 := H7.out.below b8
      have hso := sort_c w8 g3 0 cap3 S1 HO3.out hx8.seg hS1l
      have D8 := Lib.hid d8
      have H8 := Lib.hid hx8
      clear hsa b8 d8 hx8
      go_wp2_with fail
      go_at_call 19
      refine hso.mono ?_
      rintro r w9 ⟨g9, cap9, S3, rfl, h9, hS3, b9⟩
      have d9 := D8.out.trans (b9.mono D8.out.size)
      have hx9 := H8.out.below b9
      have hself : S3.length = S1.length ∧ ∀ j, j < S3.length → eqC (at0 S3 j) (at0 S1 j) = true := hS3.same HS1.out (fun l => HS1.out.mem l) HO3.out HO1.out
      have hS3l : S3.length ≤ 1000000 := Nat.le_trans hS3.len hS1l
      have hsa := same_c S3 S1 hS3l _ _ w9 h9.seg hx9.seg hself.1 hself.2
      have D9 := Lib.hid (e3.out.trans (d9.mono e3.out.size))
      have H9 := Lib.hid hx9
      clear hso b9 h9 hS3 hself hx9 d9 hS3l
      go_wp2_with fail
      go_at_call 43
      refine hsa.mono ?_
      rintro r w10 ⟨rfl, b10⟩
      have D10 := D9.out.trans (b10.mono D9.out.size)
      have H10 := Lib.hid (H9.out.below b10)
      obtain ⟨s1, s2, s3, hsx⟩ : ∃ a b c : Nat, True := ⟨0, 0, 0, trivial⟩
      clear hsa b10 D7 D8 D9 H7 H8 H9 E2 D6
      go_wp2_with fail
      go_loopw [7] (fun vi wr => ∃ i : Nat, i ≤ S1.length ∧ vi = .int .i64 i ∧ Below w10.heap.size w10 wr) (fun vi _ => S1.length - (intOf vi).toNat)
      case atStart => exact ⟨0, Nat.zero_le _, rfl, Below.refl _ _⟩
      case round =>
        obtain ⟨i, hi, rfl, hBr⟩ := hrel
        by_cases hlt : i < S1.length
        · have hil : (i : Int) < S1.length := by omega
          have hmem : at0 S1 i ∈ S1 := List.mem_of_getElem? (at0_some S1 i hlt)
          have hasF : hasC A (at0 S1 i) = true ∨ hasC B (at0 S1 i) = true := by
            have := HS1.out.sub _ hmem
            rw [← HF1.out] at this
            rcases List.mem_append.1 this with q | q
            · exact .inl (hasC_mem q)
            · exact .inr (hasC_mem q)
          have hO := HO3.out _ hmem
          obtain ⟨hgb, hrg⟩ := H10.out.range i hlt
          obtain ⟨p0, p1, p2, p3, p4, p5, p6, p7⟩ := range_at hgb hrg hBr
          have hB0 := D10.trans (hBr.mono D10.size)
          obtain ⟨RA, hRA⟩ : ∃ R, hasC A (at0 S1 i) = R := ⟨_, rfl⟩
          obtain ⟨RB, hRB⟩ : ∃ R, hasC B (at0 S1 i) = R := ⟨_, rfl⟩
          have hqa := has_q A (at0 S1 i) RA hRA (by omega) _ wr (HV.out.below hB0)
          have hqb := has_q B (at0 S1 i) RB hRB (by omega) _ wr (HU.out.below hB0)
          rw [hRA, hRB] at hasF
          obtain ⟨s2, k2, l2⟩ := conv_q hO hgb hrg hBr
          cases i with
          | zero =>
            have hrq := rangeC hgb hrg hBr
            simp only [Nat.zero_mul] at hrq
            clear k2 l2 hrg
            clear p0 p1 p2 p3 p4 p5 p6 p7
            generalize at0 S1 0 = e at hrq hqa hqb
            cases RA <;> cases RB
            · rcases hasF with q | q <;> cases q
            all_goals
              go_wp2_with fail
              refine wp_region_qb (by kernel_rfl) (by kernel_rfl) ?_
              repeat (first
                | go_big_quiet_skip
                | (go_big_quiet_want; refine q_loadC (.tmp 68) rfl g3 (0) rfl e (hrq) ?_; go_simp; go_big_quiet_on)
                | (go_big_quiet_want; refine q_loadC (.tmp 76) rfl g3 (0) rfl e (hrq) ?_; go_simp; go_big_quiet_on)
                | (go_big_quiet_want; go_big_quiet_op; first | go_big_quiet_on | go_big_quiet_call (first | (with_reducible exact hqa _ _) | (with_reducible exact hqb _ _)))
                | (go_big_quiet_step (fail)))
              refine wpQuiet_nil ?_
              intro w' hw'
              have hb2 := hBr.trans (hw'.mono hBr.size)
              clear hrq hqa hqb hw' hBr
              go_wp2
              go_roundw
              case rel => exact ⟨0 + 1, by omega, by go_num, hb2⟩
              case measure => simp [intOf]; omega
          | succ j =>
            have hrq := rangeC hgb hrg hBr
            have hmem1 : at0 S1 j ∈ S1 := List.mem_of_getElem? (at0_some S1 j (by omega))
            obtain ⟨hgb1, hrg1⟩ := H10.out.range j (by omega)
            obtain ⟨s1, k1, l1⟩ := conv_q (HO3.out _ hmem1) hgb1 hrg1 hBr
            have hless : Op.bytesLess s1.toList s2.toList = true := by
              rw [l1, l2, bytesLess_eq, decide_eq_true_eq]
              have := List.pairwise_iff_getElem.1 HS1.out.asc j (j + 1) (by simp; omega) (by simpa using hlt) (by omega)
              simpa [at0, hlt, show j < S1.length by omega] using this
            have hge : ∀ w, (binOp .geq 9 (.string s1) (.string s2)).run Tryd.prog w = .ok (.bool false) w := fun w => by
              simp [binOp, Op.stringOp, hless]
            clear l1 l2 hrg hrg1 hmem1 hless
            clear p0 p1 p2 p3 p4 p5 p6 p7
            have HGE := Lib.hid hge
            have HK1 := Lib.hid k1
            have HK2 := Lib.hid k2
            clear hge k1 k2
            generalize at0 S1 (j + 1) = e at hrq hqa hqb
            cases RA <;> cases RB
            · rcases hasF with q | q <;> cases q
            all_goals
              go_wp2_with fail
              refine wp_region_qb (by kernel_rfl) (by kernel_rfl) ?_
              repeat (first
                | go_big_quiet_skip
                | (go_big_quiet_want; refine q_loadC (.tmp 68) rfl g3 ((j + 1) * 8) rfl e (hrq) ?_; go_simp; go_big_quiet_on)
                | (go_big_quiet_want; refine q_loadC (.tmp 68) rfl g3 (0 + (j + 1) * 8) rfl e (by rw [Nat.zero_add]; exact hrq) ?_; go_simp; go_big_quiet_on)
                | (go_big_quiet_want; refine q_loadC (.tmp 76) rfl g3 ((j + 1) * 8) rfl e (hrq) ?_; go_simp; go_big_quiet_on)
                | (go_big_quiet_want; refine q_loadC (.tmp 76) rfl g3 (0 + (j + 1) * 8) rfl e (by rw [Nat.zero_add]; exact hrq) ?_; go_simp; go_big_quiet_on)
                | (go_big_quiet_want; refine q_conv (.tmp 55) rfl (.slice (some ⟨g3, j * 8, none⟩) 8 8) rfl s1 (regr (P := fun W => (convert 56 9 (.slice (some ⟨g3, j * 8, none⟩) 8 8)).run Tryd.prog W = .ok (.string s1) W) HK1.out) ?_; go_simp; go_big_quiet_on)
                | (go_big_quiet_want; refine q_conv (.tmp 55) rfl (.slice (some ⟨g3, 0 + j * 8, none⟩) 8 8) rfl s1 (by rw [Nat.zero_add]; exact regr (P := fun W => (convert 56 9 (.slice (some ⟨g3, j * 8, none⟩) 8 8)).run Tryd.prog W = .ok (.string s1) W) HK1.out) ?_; go_simp; go_big_quiet_on)
                | (go_big_quiet_want; refine q_conv (.tmp 60) rfl (.slice (some ⟨g3, (j + 1) * 8, none⟩) 8 8) rfl s2 (regr (P := fun W => (convert 56 9 (.slice (some ⟨g3, (j + 1) * 8, none⟩) 8 8)).run Tryd.prog W = .ok (.string s2) W) HK2.out) ?_; go_simp; go_big_quiet_on)
                | (go_big_quiet_want; refine q_conv (.tmp 60) rfl (.slice (some ⟨g3, 0 + (j + 1) * 8, none⟩) 8 8) rfl s2 (by rw [Nat.zero_add]; exact regr (P := fun W => (convert 56 9 (.slice (some ⟨g3, (j + 1) * 8, none⟩) 8 8)).run Tryd.prog W = .ok (.string s2) W) HK2.out) ?_; go_simp; go_big_quiet_on)
                | (go_big_quiet_want; refine q_geq (.tmp 56) (.tmp 61) rfl s1 s2 rfl rfl HGE.out ?_; go_simp; go_big_quiet_on)
                | (go_big_quiet_want; go_big_quiet_op; first | go_big_quiet_on | go_big_quiet_call (first | (with_reducible exact hqa _ _) | (with_reducible exact hqb _ _)))
                | (go_big_quiet_step (fail)))
              refine wpQuiet_nil ?_
              intro w' hw'
              have hb2 := hBr.trans (hw'.mono hBr.size)
              clear hrq hqa hqb hw' hBr
              go_wp2
              go_roundw
              case rel => exact ⟨j + 1 + 1, by omega, by go_num, hb2⟩
              case measure => simp [intOf]; omega
        · obtain rfl : i = S1.length := by omega
          have D11 := D10.trans (hBr.mono D10.size)
          have H11 := Lib.hid (H10.out.below hBr)
          clear D10 H10 hBr
          go_wp2_with fail
          go_loopw [8] (fun vi w2 => ∃ i : Nat, i ≤ A.length ∧ vi = .int .i64 i ∧ Below wr.heap.size wr w2) (fun vi _ => A.length - (intOf vi).toNat)
          case atStart => exact ⟨0, Nat.zero_le _, rfl, Below.refl _ _⟩
          case round =>
            obtain ⟨i, hi, rfl, hBs⟩ := hrel
            by_cases hlt : i < A.length
            · have hil : (i : Int) < A.length := by omega
              have hmemA : at0 A i ∈ A := List.mem_of_getElem? (at0_some A i hlt)
              have hh : hasC S1 (at0 A i) = true := by
                have h1 : cb (at0 A i) ∈ F1.map cb := List.mem_map.2 ⟨_, by rw [← HF1.out]; exact List.mem_append.2 (.inl hmemA), rfl⟩
                obtain ⟨e, he, hce⟩ := List.mem_map.1 ((HS1.out.mem _).2 h1)
                exact List.any_eq_true.2 ⟨e, he, (cb_eq (HO3.out e he) (HA.out _ hmemA)).1 hce⟩
              have dd := D11.trans (hBs.mono D11.size)
              obtain ⟨a', c', hv', -, hx'⟩ := HV.out
              injection hv' with hv1 hv2 hv3
              subst hv1
              clear hv2
              subst hv3
              obtain ⟨b, o, rfl, hb, hr⟩ := hx' i _ (at0_some A i hlt)
              have hr2 : wr.rangeAt b (o + i * 8) [.int .u8 (at0 A i 0), .int .u8 (at0 A i 1), .int .u8 (at0 A i 2), .int .u8 (at0 A i 3), .int .u8 (at0 A i 4), .int .u8 (at0 A i 5), .int .u8 (at0 A i 6), .int .u8 (at0 A i 7)] := fun j u hu => (dd.cell (p := ⟨b, o + i * 8 + j, none⟩) hb).trans (hr j u hu)
              have hcall := has_c S1 (at0 A i) hS1l _ wr (H11.out.below hBs).seg
              rw [hh] at hcall
              clear hx' hr hh hmemA
              generalize at0 A i = e at hr2 hcall
              go_wp2_with (refine at_loadC rfl (.tmp 91) rfl b (o + i * 8) rfl e hr2 ?_)
              go_at_call 46
              refine hcall.mono ?_
              rintro r w3' ⟨rfl, k3⟩
              have hb3 := hBs.trans (k3.mono hBs.size)
              clear hr2 hcall dd hb k3 hBs
              go_wp2
              go_roundw
              case rel => exact ⟨i + 1, by omega, by go_num, hb3⟩
              case measure => simp [intOf]; omega
            · go_wp2
              go_ret
              exact ⟨rfl, D11.trans (hBs.mono D11.size)⟩
    · have hlb' : (60 : Int) < B.length := by omega
      go_enter Tryd.func7, Tryd.ntmps7
      go_wp2_with fail
      go_at_call 9
      refine (lives_is _ hK).mono ?_
      rintro r w0 ⟨rfl, b0⟩
      go_wp2
      go_ret
      exact ⟨rfl, b0⟩
  · have hla' : (60 : Int) < A.length := by omega
    go_enter Tryd.func7, Tryd.ntmps7
    go_wp2_with fail
    go_at_call 9
    refine (lives_is _ hK).mono ?_
    rintro r w0 ⟨rfl, b0⟩
    go_wp2
    go_ret
    exact ⟨rfl, b0⟩
end Go.Proofs.YtmajalobkcnobaaDoor
