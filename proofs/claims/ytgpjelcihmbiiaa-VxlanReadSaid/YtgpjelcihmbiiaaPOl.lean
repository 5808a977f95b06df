/- Octets that are cut, or go on, read; copies, appended octets. No condition. -/
import Derived.Test.YtgpjelcihmbiiaaPSw
import Derived.Laws.CopyOwn
namespace Go.Proofs.Ytgpjelcihmbiiaa
open Go.RowKit
set_option linter.unusedVariables false
set_option linter.unusedSimpArgs false
set_option maxRecDepth 100000

theorem append_none (w : World) (ty : TypeId) (B c : Nat) (v : Value) (ys : List Int) (hv : DatB B w v ys) : (Builtin.append_ #[23, 23] ty #[v, .slice none 0 c]).run Try.prog w = .ok v w := by
  obtain ⟨i, hi, hz, hs, hb⟩ := info_u8
  rcases hv.2 with ⟨rfl, -⟩ | ⟨g, cap, cur, rfl, _, _, hnc, _⟩
  · simp [Builtin.append_, run_underlying Try.underlying23, sizeOf, typeInfo, hi, Builtin.lenOf, Builtin.firstCells]
  · simp [Builtin.append_, run_underlying Try.underlying23, sizeOf, typeInfo, hi, Builtin.lenOf, Builtin.firstCells, hnc, storeCells]
/-- Octets that lie anywhere, appended. -/
theorem append_any (w : World) (ty : TypeId) (B : Nat) (v u : Value) (ys zs : List Int) (hv : DatB B w v ys) (hu : Seg w u zs) (hB : B ≤ w.heap.size) (hl : ys.length + zs.length ≤ 1099511627776) :
    ∃ v' w', (Builtin.append_ #[23, 23] ty #[v, u]).run Try.prog w = .ok v' w' ∧ DatB B w' v' (ys ++ zs) ∧ w.grownBy w' v.ownBlock := by
  obtain ⟨i, hi, hz, hs, hb⟩ := info_u8
  obtain ⟨a, c, rfl, hc, hx⟩ := hu
  cases a with
  | none =>
    have h0 : zs = [] := by
      rcases zs with _ | ⟨x, r⟩
      · rfl
      · obtain ⟨b, o, e, _⟩ := hx 0 (by simp)
        cases e
    subst h0
    exact ⟨v, w, append_none w ty B c v ys hv, by rw [List.append_nil]; exact hv, ⟨rfl, rfl, rfl, Nat.le_refl _, fun _ _ _ => rfl⟩⟩
  | some p =>
    obtain ⟨v', w', hr, ho, hgr, -⟩ := run_append_own (P := Try.prog) w B 23 ty 5 i (.int .u8 0) 1 1 Try.underlying23 hi hz hs hb rfl (by decide) v ys.length _ hv p zs.length c (zs.map (Value.int .u8)) (by simp) (fun j u hu => by
      have hj : j < zs.length := by
        rcases Nat.lt_or_ge j zs.length with q | q
        · exact q
        · rw [List.getElem?_eq_none (by simpa using q)] at hu
          cases hu
      obtain ⟨b, o, e, hcell⟩ := hx j hj
      obtain rfl := Option.some.inj e
      rw [add_is, hcell, ← hu]
      simp [List.getD_eq_getElem?_getD, hj]) (by simp [Value.oneCell']) (by unfold maxLen; omega) (by omega) hB
    refine ⟨v', w', hr, ?_, hgr⟩
    unfold DatB
    rw [List.length_append, List.map_append]
    exact ho
theorem datB_none (w : World) (B : Nat) (hB : B ≤ w.heap.size) : DatB B (w.alloc (.cells #[] 5)) (.slice (some ⟨w.heap.size, 0, none⟩) 0 0) [] := World.ownsRow_lit (base := B) (size := 1) w #[] 0 hB (by unfold maxLen; omega) rfl
/-- A copy of octets, in memory of its own. -/
theorem own_is (w : World) (v : Value) (xs : List Int) (h : Seg w v xs) (hl : xs.length ≤ 1048576) : Calls Try.prog 18 #[v] w fun e w' => ∃ v', e = .returned v' ∧ DatB w.heap.size w' v' xs ∧ Below w.heap.size w w' := by
  have k1 : Below w.heap.size w (w.alloc (.cells #[] 5)) := (Below.refl _ _).alloc (Nat.le_refl _) _
  obtain ⟨v', w', hr, hd, hg⟩ := append_any (w.alloc (.cells #[] 5)) 23 w.heap.size _ v [] xs (datB_none w w.heap.size (Nat.le_refl _)) (h.below k1) k1.size (by simp; omega)
  have k2 : Below w.heap.size w w' := k1.grown hg k1.size fun q hq => (World.ownsRow.lt (datB_none w w.heap.size (Nat.le_refl _)) q hq).1
  obtain ⟨a, c, rfl, -, -⟩ := h
  rw [List.nil_append] at hd
  obtain ⟨a', c', e'⟩ := hd.dat.shape
  subst e'
  clear hg
  go_enter Try.func18, Try.ntmps18
  go_wp2_with (at_builtin; refine Lib.wpList_append_run _ rfl (.tmp 3) (.tmp 4) 23 23 rfl _ _ rfl rfl _ _ hr ?_)
  go_ret
  exact ⟨_, rfl, hd, k2⟩


set_option maxHeartbeats 2000000 in
theorem seg_string {w : World} {v : Value} {xs : List Int} (h : Seg w v xs) (h0 : xs ≠ []) : (convert 23 9 v).run Try.prog w = .ok (.string (strOfNums xs)) w := by
  obtain ⟨a, c, rfl, hc, hx⟩ := h
  obtain ⟨g, o, rfl, -⟩ := hx 0 (by cases xs with | nil => exact absurd rfl h0 | cons x r => simp)
  exact run_convert_bytes_arg w _ _ Try.underlying23 Try.underlying5 g o _ _ xs rfl (fun i hi => by
    obtain ⟨g', o', e, hcell⟩ := hx i hi
    cases e
    exact hcell) _ Try.underlying9
theorem str_eq {xs ys : List Int} (hx : Oct xs) (hy : Oct ys) : ((strOfNums xs).toList == (strOfNums ys).toList) = decide (xs = ys) := by
  rw [Lib.strOfNums_toList, Lib.strOfNums_toList]
  exact bytesOf_eq hx hy
theorem slice_b {w : World} {v : Value} {xs : List Int} (h : Seg w v xs) (n : Nat) (hn : n ≤ xs.length) : ∃ v1, (∀ W, (Instr.slice 23 v none (some (.int .i64 n)) none).run Try.prog W = .ok v1 W) ∧ Seg w v1 (xs.take n) := by
  have ht : Try.prog.underlying 23 = some (.slice (Try.prog.elem 23)) := by rw [elem_bytes]; exact Try.underlying23
  have hl : (xs.take n).length = n := by rw [List.length_take]; omega
  obtain ⟨a, c, rfl, hc, hx⟩ := h
  refine ⟨.slice (if c = 0 then a else a.map (·.add (0 * 1))) n c, fun W => ?_, ?_⟩
  · have es : (sizeOf (Try.prog.elem 23)).run Try.prog W = .ok 1 W := by rw [elem_bytes]; exact Try.sizeOf5 W
    rw [run_slice_h W _ _ _ _ ht .i64 _ (by omega) (by omega), es]
    simp [sliced, Result.andThen]
  · have ha : (if c = 0 then a else a.map (·.add (0 * 1))) = a := by
      split
      · rfl
      · cases a <;> simp [Addr.add]
    rw [ha]
    refine ⟨a, c, by rw [hl], by rw [hl]; omega, fun i hi => ?_⟩
    rw [hl] at hi
    obtain ⟨b, o, e, hcell⟩ := hx i (by omega)
    refine ⟨b, o, e, ?_⟩
    rw [hcell, List.getD_eq_getElem?_getD, List.getD_eq_getElem?_getD, List.getElem?_take_of_lt hi]
section
variable {ops : Array Oper} {rest : List Oper} {o : Oper} {a : Act} {w : World} {Q : Exit → Act → World → Prop}
theorem at_sliceH (hgd : o.guard = none) (ty : TypeId) (hu : Try.prog.underlying ty = some (.slice (Try.prog.elem ty))) (x y : Operand) (ho : o.op = .slice ty x none (some y) none) (v u v1 : Value) (hx : a.eval x = v) (hy : a.eval y = u) (hr : ∀ W, (Instr.slice ty v none (some u) none).run Try.prog W = .ok v1 W)
    (h : wpList Try.prog ops Q rest (a.put o.dst v1) w) : wpList Try.prog ops Q (o :: rest) a w :=
  wpList_plain hgd fun _ hK => by
    have hr' : (Instr.sliceAt ty v none (some u) none).run Try.prog w = .ok v1 w   := by rw [run_sliceAt_slice _ _ _ _ _ _ hu]; exact hr w
    unfold Oper.wp execOp
    simp only [ho, Option.map_some, Option.map_none, hx, hy, Sem.run_bind, hr', Result.andThen_ok, Sem.run_pure]
    exact hK _ _ h
end
theorem getD_take' (xs : List Int) (c i : Nat) (h : i < c) : (xs.take c).getD i 0 = xs.getD i 0 := by
  simp [List.getD_eq_getElem?_getD, List.getElem?_take_of_lt h]
theorem oct_app {xs ys : List Int} (h : Oct xs) (k : Oct ys) : Oct (xs ++ ys) := fun x hx => by
  rcases List.mem_append.1 hx with q | q
  · exact h x q
  · exact k x q
theorem k_of {f : FL} (hc : f.chk = 0) : f.k = 0 ∨ f.k = 1 ∨ f.k = 2 := by
  rcases (chk_zero hc).2.2.2 with ⟨h, -⟩ | ⟨h, -⟩ | ⟨h, -⟩ <;> omega
/-- What is cut is too short. -/
theorem read_cut (f : FL) (hf : f.Ok) (hc : f.chk = 0) (c : Nat) (hl : c < f.enc.length) (v : Value) (w : World) (hv : Seg w v (f.enc.take c)) :
    Calls Try.prog 17 #[v] w fun r w' => r = .returned (.tuple #[F0.v, .agg (flt 4 c).toArray]) ∧ Below w.heap.size w w' := by
  obtain ⟨d1, d2, d3, d4, d5⟩ := dec_enc hf hc
  have hlen : (f.enc.take c).length = c := by rw [List.length_take]; omega
  have ho : Oct (f.enc.take c) := (enc_octets f).take c
  have hsz : szOf f.k f.enc ≤ 50 := by
    unfold szOf
    repeat' split
    all_goals decide
  by_cases h14 : c < 14
  · have := read_short (f.enc.take c) ho (by omega) (by omega) v w hv
    rwa [hlen] at this
  · have ht : tyAt (f.enc.take c) = tyAt f.enc := by
      unfold tyAt
      rw [getD_take' _ _ _ (by omega), getD_take' _ _ _ (by omega)]
    have hz : (c : Int) < szOf f.k (f.enc.take c) := by
      rcases k_of hc with hk | hk | hk
      · rw [hk] at d3 ⊢
        unfold szOf at d3 ⊢
        rw [if_pos rfl] at d3 ⊢
        omega
      · rw [hk] at d3 ⊢
        unfold szOf at d3 ⊢
        rw [if_neg (by decide), if_pos rfl] at d3 ⊢
        omega
      · rw [hk] at d3 ⊢
        unfold szOf at d3 ⊢
        rw [if_neg (by decide), if_neg (by decide)] at d3 ⊢
        rw [hlen]
        by_cases h23 : 23 < c
        · rw [getD_take' _ _ _ h23]
          by_cases hp : pt (f.enc.getD 23 0) = true
          · rw [if_pos ⟨by omega, hp⟩] at d3
            rw [if_pos ⟨h23, hp⟩]
            omega
          · rw [if_neg (fun q => hp q.2)] at d3
            rw [if_neg (fun q => hp q.2)]
            omega
        · rw [if_neg (fun q => h23 q.1)]
          omega
    have := read_less (f.enc.take c) ho (by omega) (by omega) (by rw [ht]; exact d1) (by rw [ht, d2, hlen]; exact hz) v w hv
    rwa [hlen] at this
/-- What goes on is too long. -/
theorem read_long (f : FL) (hf : f.Ok) (hc : f.chk = 0) (zs : List Int) (hz : 0 < zs.length) (ho : Oct zs) (hl : zs.length ≤ 1000) (v : Value) (w : World) (hv : Seg w v (f.enc ++ zs)) :
    Calls Try.prog 17 #[v] w fun r w' => r = .returned (.tuple #[F0.v, .agg (flt 5 f.enc.length).toArray]) ∧ Below w.heap.size w w' := by
  obtain ⟨d1, d2, d3, d4, d5⟩ := dec_enc hf hc
  have hlen : (f.enc ++ zs).length = f.enc.length + zs.length := List.length_append
  have hsz : szOf f.k f.enc ≤ 50 := by
    unfold szOf
    repeat' split
    all_goals decide
  have ht : tyAt (f.enc ++ zs) = tyAt f.enc := by
    unfold tyAt
    rw [getD_left _ (by omega), getD_left _ (by omega)]
  have hs : szOf f.k (f.enc ++ zs) = szOf f.k f.enc := by
    rcases k_of hc with hk | hk | hk
    · rw [hk]; rfl
    · rw [hk]; rfl
    · rw [hk] at d3 ⊢
      have h42 : 42 ≤ f.enc.length := by
        unfold szOf at d3
        rw [if_neg (by decide), if_neg (by decide)] at d3
        split at d3 <;> omega
      have s2 : ∀ l : List Int, szOf 2 l = if 23 < l.length ∧ pt (l.getD 23 0) = true then 50 else 42 := fun _ => rfl
      rw [s2, s2, getD_left _ (by omega)]
      by_cases hp : pt (f.enc.getD 23 0) = true
      · rw [if_pos ⟨by omega, hp⟩, if_pos ⟨by omega, hp⟩]
      · rw [if_neg (fun q => hp q.2), if_neg (fun q => hp q.2)]
  have := read_more (f.enc ++ zs) (oct_app (enc_octets f) ho) (by omega) (by omega) (by rw [ht]; exact d1) (by rw [ht, d2, hs, hlen, ← d3]; omega) v w hv
  rw [ht, d2, hs, ← d3] at this
  exact this
end Go.Proofs.Ytgpjelcihmbiiaa
