/- NlriRead: the law's walk. No condition. -/
import Derived.Test.YtejcclcckgdbgaaGe
import Derived.Test.YtejcclcckgdbgaaNLi
namespace Go.Proofs.Ytejcclcckgdbgaa
open Go.RowKit Go.Sort
set_option linter.unusedVariables false
set_option linter.unusedSimpArgs false
set_option maxRecDepth 100000

theorem fieldsF_are : (Try.prog.fieldsOf 40).toList.map (fun f => (f.name, f.type, f.offset)) = [("Err", 24, 0), ("At", 3, 1)] := by kernel_rfl
theorem eqFlt (p q p' q' : Int) (w : World) : (Op.equalIn 10000 40 (.agg #[.int .i64 p, .int .i64 q]) (.agg #[.int .i64 p', .int .i64 q'])).run Try.prog w = .ok ((p == p') && (q == q')) w := by
  show (Op.equalIn (9999 + 1) 40 (.agg #[.int .i64 p, .int .i64 q]) (.agg #[.int .i64 p', .int .i64 q'])).run Try.prog w = _
  rw [run_equalIn_struct w 9999 _ _ _ (by kernel_rfl) (by kernel_rfl)]
  obtain ⟨f0, r0, e0, a0, b0, c0, h0⟩ := unmap fieldsF_are
  obtain ⟨f1, r1, e1, a1, b1, c1, h1⟩ := unmap h0
  obtain rfl := unmap0 h1
  rw [e0, e1]
  have := eqF (d := 9999) (xs := #[.int .i64 p, .int .i64 q]) (ys := #[.int .i64 p', .int .i64 q']) (w := w) (f := f0) (fs := [f1]) (a := .int .i64 p) (b := .int .i64 p') (r := p == p') (s := (q == q') && true) (by rw [a0]; decide) (by rw [b0, c0]; kernel_rfl) (by rw [b0, c0]; kernel_rfl) (by rw [b0]; exact run_equalIn_int w 9998 _ .i64 .i64 _ _ Try.underlying24)
    (eqF (a := .int .i64 q) (b := .int .i64 q') (by rw [a1]; decide) (by rw [b1, c1]; kernel_rfl) (by rw [b1, c1]; kernel_rfl) (by rw [b1]; exact run_equalIn_int w 9998 _ .i64 .i64 _ _ Try.underlying3) (s := true) (by simp [Op.eqFields]))
  rw [Bool.and_true] at this
  exact this
theorem append_none (w : World) (ty : TypeId) (B c : Nat) (v : Value) (ys : List Int) (hv : DatB B w v ys) : (Builtin.append_ #[23, 23] ty #[v, .slice none 0 c]).run Try.prog w = .ok v w := by
  obtain ⟨i, hi, hz, hs, hb⟩ := info_u8
  rcases hv.2 with ⟨rfl, -⟩ | ⟨g, cap, cur, rfl, _, _, hnc, _⟩
  · simp [Builtin.append_, run_underlying Try.underlying23, sizeOf, typeInfo, hi, Builtin.lenOf, Builtin.firstCells]
  · simp [Builtin.append_, run_underlying Try.underlying23, sizeOf, typeInfo, hi, Builtin.lenOf, Builtin.firstCells, hnc, storeCells]
/-- Octets that lie anywhere, appended. -/
theorem append_any (w : World) (ty : TypeId) (B : Nat) (v u : Value) (ys zs : List Int) (hv : DatB B w v ys) (hu : Seg w u zs) (hB : B ≤ w.heap.size) (hl : ys.length + zs.length ≤ 1099511627776) :
    ∃ v' w', (Builtin.append_ #[23, 23] ty #[v, u]).run Try.prog w = .ok v' w' ∧ DatB B w' v' (ys ++ zs) ∧ w.grownBy w' v.ownBlock := by
  obtain ⟨i, hi, hz, hs, hb⟩ := info_u8
  obtain ⟨a, c, rfl, hc, hx⟩ := hu
  cases a with
  | none =>
    have h0 : zs = [] := by
      rcases zs with _ | ⟨x, r⟩
      · rfl
      · obtain ⟨b, o, e, _⟩ := hx 0 (by simp)
        cases e
    subst h0
    exact ⟨v, w, append_none w ty B c v ys hv, by rw [List.append_nil]; exact hv, ⟨rfl, rfl, rfl, Nat.le_refl _, fun _ _ _ => rfl⟩⟩
  | some p =>
    obtain ⟨v', w', hr, ho, hgr, -⟩ := run_append_own (P := Try.prog) w B 23 ty 5 i (.int .u8 0) 1 1 Try.underlying23 hi hz hs hb rfl (by decide) v ys.length _ hv p zs.length c (zs.map (Value.int .u8)) (by simp) (fun j u hu => by
      have hj : j < zs.length := by
        rcases Nat.lt_or_ge j zs.length with q | q
        · exact q
        · rw [List.getElem?_eq_none (by simpa using q)] at hu
          cases hu
      obtain ⟨b, o, e, hcell⟩ := hx j hj
      obtain rfl := Option.some.inj e
      rw [add_is, hcell, ← hu]
      simp [List.getD_eq_getElem?_getD, hj]) (by simp [Value.oneCell']) (by unfold maxLen; omega) (by omega) hB
    refine ⟨v', w', hr, ?_, hgr⟩
    unfold DatB
    rw [List.length_append, List.map_append]
    exact ho
/-- A literal of no octets. -/
theorem datB_none (w : World) (B : Nat) (hB : B ≤ w.heap.size) : DatB B (w.alloc (.cells #[] 5)) (.slice (some ⟨w.heap.size, 0, none⟩) 0 0) [] := World.ownsRow_lit (base := B) (size := 1) w #[] 0 hB (by unfold maxLen; omega) rfl
/-- A copy of octets, in memory of its own. -/
theorem own_is (w : World) (v : Value) (xs : List Int) (h : Seg w v xs) (hl : xs.length ≤ 1048576) : Calls Try.prog 24 #[v] w fun e w' => ∃ v', e = .returned v' ∧ DatB w.heap.size w' v' xs ∧ Below w.heap.size w w' := by
  have k1 : Below w.heap.size w (w.alloc (.cells #[] 5)) := (Below.refl _ _).alloc (Nat.le_refl _) _
  obtain ⟨v', w', hr, hd, hg⟩ := append_any (w.alloc (.cells #[] 5)) 23 w.heap.size _ v [] xs (datB_none w w.heap.size (Nat.le_refl _)) (h.below k1) k1.size (by simp; omega)
  have k2 : Below w.heap.size w w' := k1.grown hg k1.size fun q hq => (World.ownsRow.lt (datB_none w w.heap.size (Nat.le_refl _)) q hq).1
  obtain ⟨a, c, rfl, -, -⟩ := h
  rw [List.nil_append] at hd
  obtain ⟨a', c', e'⟩ := hd.dat.shape
  subst e'
  clear hg
  go_enter Try.func24, Try.ntmps24
  go_wp2_with (at_builtin; refine Lib.wpList_append_run _ rfl (.tmp 3) (.tmp 4) 23 23 rfl _ _ rfl rfl _ _ hr ?_)
  go_ret
  exact ⟨_, rfl, hd, k2⟩


set_option maxHeartbeats 2000000 in
theorem nread_is (xs : List Int) (ho : Oct xs) (v : Value) (w : World) (h : Seg w v xs) : Calls Try.prog 5 #[v] w fun r w' => r = .returned (.bool true) ∧ Below w.heap.size w w' := by
  have S0 := Lib.hid h
  obtain ⟨a, c, rfl, -, -⟩ := h
  by_cases hl : 400 < xs.length
  · have hq : (400 : Int) < xs.length := by omega
    go_enter Try.func5, Try.ntmps5
    go_wp2_with fail
    go_at_call 9
    refine (lives_is w).mono ?_
    rintro r w1 ⟨rfl, B1⟩
    go_wp2_with fail
    go_ret
    exact ⟨rfl, B1⟩
  · have hq : ¬ (400 : Int) < xs.length := by omega
    go_enter Try.func5, Try.ntmps5
    go_wp2_with fail
    go_at_call 9
    refine (lives_is w).mono ?_
    rintro r w1 ⟨rfl, B1⟩
    go_wp2_with fail
    go_at_call 24
    refine (own_is w1 _ xs (S0.out.below B1) (by omega)).mono ?_
    rintro r w2 ⟨vi, rfl, D2, k2⟩
    have B2 := B1.trans (k2.mono B1.size)
    go_wp2_with fail
    go_at_call 12
    refine (read_is xs ho (by omega) vi w2 D2.dat.seg).mono ?_
    rintro r w3 ⟨V, E, A, ⟨rfl, hR⟩, k3⟩
    have B3 := B2.trans (k3.mono B2.size)
    clear B1 B2 k2 D2 k3
    go_wp2_with (first
      | (refine at_newF rfl rfl ?_; intro w4 f4 k4 s4)
      | (refine at_storeF rfl _ _ rfl rfl w3.heap.size rfl 0 0 E A rfl f4 ?_; intro w5 f5 b5 s5; have k5 : Below w3.heap.size w3 w5 := But.below k4 b5 (Nat.le_refl _) k4.size; have B5 := B3.trans (k5.mono B3.size); clear f4 k4 b5 s5)
      | fail)
    go_at_call 25
    refine (rread_is xs ho (by omega) _ w5 (S0.out.below B5)).mono ?_
    rintro r w6 ⟨V', E', A', ⟨rfl, hR'⟩, k6⟩
    obtain ⟨rfl, rfl, L, hL, n3, n6⟩ := reads_same (by omega) hR hR'
    have f6 := f5.below k6
    have n6' := (n3.below k5).below k6
    have B6 := B5.trans (k6.mono B5.size)
    have l6 : w3.heap.size < w6.heap.size := (Array.getElem?_eq_some_iff.1 f6).1
    clear hR hR' n3 f5 k5 B3 B5 k6
    go_wp2_with (first
      | (refine at_newF rfl rfl ?_; intro w7 f7 k7 s7)
      | (refine at_storeF rfl _ _ rfl rfl w6.heap.size rfl 0 0 E A rfl f7 ?_; intro w8 f8 b8 s8; have k8 : Below w6.heap.size w6 w8 := But.below k7 b8 (Nat.le_refl _) k7.size; have g8 := f6.below k8; have B8 := B6.trans (k8.mono B6.size); clear f7 k7 b8 s8)
      | fail)
    go_at_call 26
    refine (same_n L (by omega) _ _ w8 (n6'.below k8) (n6.below k8)).mono ?_
    rintro r w9 ⟨rfl, k9⟩
    obtain ⟨c0, c1⟩ := (f8.below k9).cells
    obtain ⟨d0, d1⟩ := (g8.below k9).cells
    have B9 := B8.trans (k9.mono B8.size)
    have heq : ∀ W, (Op.equalIn 10000 40 (.agg #[.int .i64 E, .int .i64 A]) (.agg #[.int .i64 E, .int .i64 A])).run Try.prog W = .ok true W := fun W => by rw [eqFlt]; simp
    clear f8 g8 f6 n6 n6' k8 k9 B6 B8 l6
    go_wp2_with fail
    go_ret
    exact ⟨rfl, B9⟩
end Go.Proofs.Ytejcclcckgdbgaa
