/- readRoute: one route. No condition. -/
import Derived.Test.YtejcclcckgdbgaaNBg
import Derived.Test.YtejcclcckgdbgaaGc
import Derived.Test.YtejcclcckgdbgaaShelfB
namespace Go.Proofs.Ytejcclcckgdbgaa
open Go.RowKit Go.Sort
set_option linter.unusedVariables false
set_option linter.unusedSimpArgs false
set_option maxRecDepth 100000

theorem Seg.bytesIn {w : World} {a : Option Addr} {n c : Nat} {xs : List Int} (h : Seg w (.slice a n c) xs) : n = xs.length ∧ Lib.BytesIn w a n xs := by
  obtain ⟨a', c', e, hc, hx⟩ := h
  injection e with e1 e2 e3
  subst e1 e2
  refine ⟨rfl, fun h0 => ?_⟩
  obtain ⟨b, o, rfl, -⟩ := hx 0 h0
  refine ⟨b, o, rfl, fun i hi => ?_⟩
  obtain ⟨b', o', e, hcell⟩ := hx i hi
  injection e with e
  injection e with e1 e2
  subst e1 e2
  exact hcell
theorem bytesOf_eq {xs ys : List Int} (hx : Oct xs) (hy : Oct ys) : (Lib.bytesOf xs == Lib.bytesOf ys) = decide (xs = ys) := by
  rw [Bool.eq_iff_iff, beq_iff_eq, decide_eq_true_eq]
  constructor
  · intro h
    have hl : xs.length = ys.length := by simpa [Lib.bytesOf] using congrArg List.length h
    apply List.ext_getElem hl
    intro i h1 h2
    have h3 := congrArg (fun l : List UInt8 => l[i]?) h
    simp only [Lib.bytesOf, List.getElem?_map, List.getElem?_eq_getElem h1, List.getElem?_eq_getElem h2, Option.map_some, Option.some.injEq] at h3
    have a1 := hx _ (List.getElem_mem h1)
    have a2 := hy _ (List.getElem_mem h2)
    have h4 := congrArg UInt8.toNat h3
    simp only [UInt8.toNat_ofNat'] at h4
    omega
  · rintro rfl
    rfl
theorem equal_is {w : World} {u v : Value} {xs ys : List Int} (hu : Seg w u xs) (hv : Seg w v ys) (hx : Oct xs) (hy : Oct ys) : Calls Try.prog 62 #[u, v] w fun e w' => e = .returned (.bool (decide (xs = ys))) ∧ w' = w := by
  obtain ⟨a, c, rfl, h2⟩ := hu
  obtain ⟨a', c', rfl, h2'⟩ := hv
  have := Try.bytes_Equal_all a a' xs.length c ys.length c' xs ys w rfl rfl (Seg.bytesIn ⟨a, c, rfl, h2⟩).2 (Seg.bytesIn ⟨a', c', rfl, h2'⟩).2
  rw [bytesOf_eq hx hy] at this
  exact this

/-- The reader of the bytes of a route, behind its head; the reader of its value. -/
def rrA (xs : List Int) : RS := (RS.next ⟨0, 0, xs, 0, 0⟩ 1).next 1
def rrK (xs : List Int) : Nat := be (RS.part ⟨0, 0, xs, 0, 0⟩ 1)
def rrS (xs : List Int) : Nat := be ((RS.next ⟨0, 0, xs, 0, 0⟩ 1).part 1)
def rrV (xs : List Int) : RS := (rrA xs).sub (rrS xs : Nat)
/-- The fault of reading them. -/
def rrF (xs : List Int) : Int := ((rrA xs).next (rrS xs : Nat)).er
def rrN (xs : List Int) : NL := if rrK xs = 1 then decAuto (rrV xs) else if rrK xs = 2 then (if macC (rrV xs) then decMacT (rrV xs) else decMacF (rrV xs)) else if rrK xs = 3 then decFlood (rrV xs) else if rrK xs = 4 then decSegment (rrV xs) else decPrefix (rrV xs)
def rrE (xs : List Int) : Int := if rrF xs ≠ 0 then 4 else if lay (rrK xs : Nat) = none then 6 else if (rrN xs).chk = 0 ∧ (rrN xs).code = xs then 0 else 3
def rrO (xs : List Int) : NL := if rrE xs = 0 then rrN xs else NL.zero
theorem nat_lt {x : Nat} {y : Int} {z : Nat} (h : ((x : Nat) : Int) < y) (hz : y = (z : Int)) : x < z := by omega
theorem getD_oct {l : List Int} (h : Oct l) (j : Nat) : 0 ≤ l.getD j 0 ∧ l.getD j 0 < 256 := h.getD j
theorem part_oct' {R : RS} (h : Oct R.xs) (k : Int) : Oct (R.part k) := by
  unfold RS.part
  split
  · exact (h.drop _).take _
  · exact fun x hx => (by cases hx)
theorem next_xs (R : RS) (k : Int) : (R.next k).xs = R.xs := by
  unfold RS.next
  split
  · rfl
  · unfold RS.fail
    split <;> rfl
theorem oct_next {R : RS} (h : Oct R.xs) (k : Int) : Oct (R.next k).xs := by rw [next_xs]; exact h
theorem bnd {R : RS} (h : Oct R.xs) (k : Nat) {z : Int} (hz : (256 : Int) ^ k ≤ z) : 0 ≤ ((be (R.part k) : Nat) : Int) ∧ ((be (R.part k) : Nat) : Int) < z := ⟨Int.natCast_nonneg _, Int.lt_of_lt_of_le (part_lt h k) hz⟩
theorem dec_ok {R : RS} (h : Oct R.xs) : (decAuto R).Ok ∧ (decFlood R).Ok ∧ (decSegment R).Ok ∧ (decPrefix R).Ok ∧ (decMacT R).Ok ∧ (decMacF R).Ok := by
  have o1 : ∀ {R : RS}, Oct R.xs → Oct (stR R).xs := fun h => oct_next (oct_next (oct_next h 8) 10) 4
  have o2 : ∀ {R : RS}, Oct R.xs → Oct (macR R).xs := fun h => oct_next (oct_next (oct_next (o1 h) 1) 6) 1
  have z : ∀ {y : Int}, 0 < y → (0 : Int) ≤ 0 ∧ (0 : Int) < y := fun h => ⟨Int.le_refl _, h⟩
  have e0 : ∀ {R : RS} {k : Int}, Oct R.xs → ∀ j, 0 ≤ (R.part k).getD j 0 ∧ (R.part k).getD j 0 < 256 := fun h j => (part_oct' h _).getD j
  refine ⟨⟨bnd h 8 (by decide), e0 (oct_next h 8), bnd (oct_next (oct_next h 8) 10) 4 (by decide), z (by decide), z (by decide), z (by decide), z (by decide), bnd (o1 h) 3 (by decide), z (by decide)⟩,
    ⟨bnd h 8 (by decide), fun _ => z (by decide), bnd (oct_next h 8) 4 (by decide), z (by decide), bnd (oct_next (oct_next (oct_next h 8) 4) 1) 4 (by decide), z (by decide), z (by decide), z (by decide), z (by decide)⟩,
    ⟨bnd h 8 (by decide), e0 (oct_next h 8), z (by decide), z (by decide), bnd (oct_next (oct_next (oct_next h 8) 10) 1) 4 (by decide), z (by decide), z (by decide), z (by decide), z (by decide)⟩,
    ⟨bnd h 8 (by decide), e0 (oct_next h 8), bnd (oct_next (oct_next h 8) 10) 4 (by decide), z (by decide), z (by decide), bnd (oct_next (o1 h) 1) 4 (by decide), bnd (oct_next (oct_next (o1 h) 1) 4) 4 (by decide), bnd (oct_next (oct_next (oct_next (o1 h) 1) 4) 4) 3 (by decide), z (by decide)⟩,
    ⟨bnd h 8 (by decide), e0 (oct_next h 8), bnd (oct_next (oct_next h 8) 10) 4 (by decide), bnd (oct_next (o1 h) 1) 6 (by decide), bnd (o2 h) 4 (by decide), z (by decide), z (by decide), bnd (oct_next (o2 h) 4) 3 (by decide), bnd (oct_next (oct_next (o2 h) 4) 3) 3 (by decide)⟩,
    ⟨bnd h 8 (by decide), e0 (oct_next h 8), bnd (oct_next (oct_next h 8) 10) 4 (by decide), bnd (oct_next (o1 h) 1) 6 (by decide), z (by decide), z (by decide), z (by decide), bnd (o2 h) 3 (by decide), bnd (oct_next (o2 h) 3) 3 (by decide)⟩⟩
theorem rrN_ok {xs : List Int} (h : Oct xs) : (rrN xs).Ok := by
  have hv : Oct (rrV xs).xs := part_oct' (oct_next (oct_next (R := ⟨0, 0, xs, 0, 0⟩) h 1) 1) _
  obtain ⟨h1, h2, h3, h4, h5, h6⟩ := dec_ok hv
  unfold rrN
  split
  · assumption
  split
  · split <;> assumption
  split
  · assumption
  split <;> assumption
theorem results_row_tmp {P : Program} {fn : Func} {p u : Tmp} {ty : TypeId} (h : fn.results = #[.cell p ty, .tmp u]) (tmps : Array Value) (w : World) (g : Nat) (t : TypeId) (cs : Array Value) (fr : Nat × Nat) (d : TypeDesc)
    (hp : tmps.getD p undef = .pointer (some ⟨g, 0, none⟩)) (hg : w.heap[g]? = some (.cells cs t fr))
    (hu : P.underlying ty = some d) (hd : (match d with | .struct _ | .array _ _ => true | _ => false) = true) (hi : (P.info? ty).map (·.size) = some cs.size) :
    (results fn tmps).run P w = .ok (.tuple #[.agg cs, tmps.getD u undef]) w := by
  rw [results_cell_tmp h, hp]
  simp [asAddr, run_loadVar_row w g t ty cs fr d hg hu hd hi, Result.andThen]
set_option maxHeartbeats 2000000 in
theorem route_short (xs : List Int) (ho : Oct xs) (hl : xs.length ≤ 1099511627776) (hf : rrF xs ≠ 0) (v : Value) (w : World) (h : Seg w v xs) : Calls Try.prog 34 #[v] w fun r w' => r = .returned (.tuple #[NL.zero.v, .int .i64 4]) ∧ Below w.heap.size w w' := by
  have hf' : (rrF xs != 0) = true := by simpa using hf
  clear hf
  have hbk := part_lt (R := ⟨0, 0, xs, 0, 0⟩) ho 1
  have hbs := part_lt (R := RS.next ⟨0, 0, xs, 0, 0⟩ 1) (oct_next (R := ⟨0, 0, xs, 0, 0⟩) ho 1) 1
  have hF : rrF xs = (((RS.next ⟨0, 0, xs, 0, 0⟩ 1).next 1).next ((be ((RS.next ⟨0, 0, xs, 0, 0⟩ 1).part 1) : Nat) : Int)).er := rfl
  have hV : rrV xs = ((RS.next ⟨0, 0, xs, 0, 0⟩ 1).next 1).sub ((be ((RS.next ⟨0, 0, xs, 0, 0⟩ 1).part 1) : Nat) : Int) := rfl
  have hK : rrK xs = be (RS.part ⟨0, 0, xs, 0, 0⟩ 1) := rfl
  have HF := Lib.hid hF
  have HV := Lib.hid hV
  have HK := Lib.hid hK
  clear hF hV hK
  generalize rrF xs = F at HF hf'
  generalize rrV xs = V at HV
  generalize rrK xs = K at HK
  unfold NL.v
  go_enter Try.func34, Try.ntmps34
  go_wp2_with (refine at_new rfl rfl ?_; rintro w1 ⟨x1, k1, s1⟩)
  go_at_call 58
  refine (rd_New w1 v xs (h.below k1) ho hl).mono ?_
  rintro e w2 ⟨b, rfl, hb2, r2, k2⟩
  have hb : w.heap.size ≤ b := by omega
  have x2 := x1.below k2 x1.lt
  have B2 := k1.trans (k2.mono k1.size)
  obtain ⟨R0, hR0⟩ : ∃ R0 : RS, R0 = ⟨0, 0, xs, 0, 0⟩ := ⟨_, rfl⟩
  rw [← hR0] at r2 hbk hbs
  have HF := Lib.hid (HF.out.trans (by rw [← hR0]))
  have HV := Lib.hid (HV.out.trans (by rw [← hR0]))
  have HK := Lib.hid (HK.out.trans (by rw [← hR0]))
  have HR0 := Lib.hid hR0
  clear k1 k2 hR0 x1 hb2
  go_wp2_with fail
  go_at_call 59
  refine (rd_U8 w2 b R0 r2).mono ?_
  rintro e w3 ⟨rfl, r3, k3⟩
  have x3 := x2.but r2 k3
  have B3 := But.below B2 k3 hb B2.size
  rw [← HK.out]
  have hbk : ((K : Nat) : Int) < 256 := by rw [HK.out]; exact hbk
  obtain ⟨R1, hR1⟩ : ∃ R1, R1 = R0.next 1 := ⟨_, rfl⟩
  rw [← hR1] at r3 hbs
  have HF := Lib.hid (HF.out.trans (by rw [← hR1]))
  have HV := Lib.hid (HV.out.trans (by rw [← hR1]))
  clear k3 x2 r2 B2 hR1 HK
  go_wp2_with fail
  go_at_call 59
  refine (rd_U8 w3 b R1 r3).mono ?_
  rintro e w4 ⟨rfl, r4, k4⟩
  have x4 := x3.but r3 k4
  have B4 := But.below B3 k4 hb B3.size
  obtain ⟨S, hS⟩ : ∃ S, S = be (R1.part 1) := ⟨_, rfl⟩
  rw [← hS]
  have hbs : ((S : Nat) : Int) < 256 := by rw [hS]; exact hbs
  obtain ⟨R2, hR2⟩ : ∃ R2, R2 = R1.next 1 := ⟨_, rfl⟩
  rw [← hR2] at r4
  have HF := Lib.hid (HF.out.trans (by rw [← hR2, ← hS]))
  have HV := Lib.hid (HV.out.trans (by rw [← hR2, ← hS]))
  clear k4 x3 r3 B3 hR2 hS
  go_wp2_with fail
  go_at_call 60
  refine (rd_Sub w4 b R2 S r4).mono ?_
  rintro e w5 ⟨c, rfl, hc5, rc5, r5, k5⟩
  have x5 := x4.but r4 k5
  have B5 := But.below B4 k5 hb B4.size
  have hc : w.heap.size ≤ c := Nat.le_trans B4.size hc5
  rw [← HV.out] at rc5
  clear k5 x4 r4 B4 HV hc5
  go_wp2_with fail
  go_at_call 61
  refine (rd_Fault w5 b _ r5).mono ?_
  rintro e w6 ⟨rfl, k6⟩
  have x6 := x5.below k6 x5.lt
  have B6 := B5.trans (k6.mono B5.size)
  have rc6 := rc5.below k6
  rw [← HF.out]
  generalize (R2.next S).ea = ea
  have hfl : ∀ w, Sem.run Try.prog (Instr.field 40 (.agg #[.int .i64 F, .int .i64 ea]) 0) w = .ok (.int .i64 F) w := fun w => by kernel_rfl
  clear k6 x5 r5 rc5 B5 HF HR0
  go_wp2_with (first
    | (refine at_build rfl _ rfl NL.zero (by kernel_rfl) ?_)
    | (refine at_store rfl _ _ rfl rfl w.heap.size rfl NL.zero NL.zero rfl x6 ?_; rintro w9 g9; have x9 := g9.bx; have B9 := g9.next B6 (Nat.le_refl _); clear g9))
  exact bodyPost_ret (results_row_tmp (by rfl) _ _ w.heap.size _ _ _ _ rfl x9 Try.underlying36 rfl (NL.size _)) rfl ⟨rfl, B9⟩
set_option maxHeartbeats 2000000 in
theorem route_type (xs : List Int) (ho : Oct xs) (hl : xs.length ≤ 1099511627776) (hf : rrF xs = 0) (hy : lay (rrK xs : Nat) = none) (v : Value) (w : World) (h : Seg w v xs) : Calls Try.prog 34 #[v] w fun r w' => r = .returned (.tuple #[NL.zero.v, .int .i64 6]) ∧ Below w.heap.size w w' := by
  have hf' : (rrF xs != 0) = false := by simpa using hf
  have hl' := fun w => layout_is (rrK xs : Nat) w
  rw [hy] at hl'
  unfold layV at hl'
  clear hf hy
  have hbk := part_lt (R := ⟨0, 0, xs, 0, 0⟩) ho 1
  have hbs := part_lt (R := RS.next ⟨0, 0, xs, 0, 0⟩ 1) (oct_next (R := ⟨0, 0, xs, 0, 0⟩) ho 1) 1
  have hF : rrF xs = (((RS.next ⟨0, 0, xs, 0, 0⟩ 1).next 1).next ((be ((RS.next ⟨0, 0, xs, 0, 0⟩ 1).part 1) : Nat) : Int)).er := rfl
  have hV : rrV xs = ((RS.next ⟨0, 0, xs, 0, 0⟩ 1).next 1).sub ((be ((RS.next ⟨0, 0, xs, 0, 0⟩ 1).part 1) : Nat) : Int) := rfl
  have hK : rrK xs = be (RS.part ⟨0, 0, xs, 0, 0⟩ 1) := rfl
  have HF := Lib.hid hF
  have HV := Lib.hid hV
  have HK := Lib.hid hK
  clear hF hV hK
  generalize rrF xs = F at HF hf'
  generalize rrV xs = V at HV
  generalize rrK xs = K at HK hl'
  unfold NL.v
  go_enter Try.func34, Try.ntmps34
  go_wp2_with (refine at_new rfl rfl ?_; rintro w1 ⟨x1, k1, s1⟩)
  go_at_call 58
  refine (rd_New w1 v xs (h.below k1) ho hl).mono ?_
  rintro e w2 ⟨b, rfl, hb2, r2, k2⟩
  have hb : w.heap.size ≤ b := by omega
  have x2 := x1.below k2 x1.lt
  have B2 := k1.trans (k2.mono k1.size)
  obtain ⟨R0, hR0⟩ : ∃ R0 : RS, R0 = ⟨0, 0, xs, 0, 0⟩ := ⟨_, rfl⟩
  rw [← hR0] at r2 hbk hbs
  have HF := Lib.hid (HF.out.trans (by rw [← hR0]))
  have HV := Lib.hid (HV.out.trans (by rw [← hR0]))
  have HK := Lib.hid (HK.out.trans (by rw [← hR0]))
  have HR0 := Lib.hid hR0
  clear k1 k2 hR0 x1 hb2
  go_wp2_with fail
  go_at_call 59
  refine (rd_U8 w2 b R0 r2).mono ?_
  rintro e w3 ⟨rfl, r3, k3⟩
  have x3 := x2.but r2 k3
  have B3 := But.below B2 k3 hb B2.size
  rw [← HK.out]
  have hbk : ((K : Nat) : Int) < 256 := by rw [HK.out]; exact hbk
  obtain ⟨R1, hR1⟩ : ∃ R1, R1 = R0.next 1 := ⟨_, rfl⟩
  rw [← hR1] at r3 hbs
  have HF := Lib.hid (HF.out.trans (by rw [← hR1]))
  have HV := Lib.hid (HV.out.trans (by rw [← hR1]))
  clear k3 x2 r2 B2 hR1 HK
  go_wp2_with fail
  go_at_call 59
  refine (rd_U8 w3 b R1 r3).mono ?_
  rintro e w4 ⟨rfl, r4, k4⟩
  have x4 := x3.but r3 k4
  have B4 := But.below B3 k4 hb B3.size
  obtain ⟨S, hS⟩ : ∃ S, S = be (R1.part 1) := ⟨_, rfl⟩
  rw [← hS]
  have hbs : ((S : Nat) : Int) < 256 := by rw [hS]; exact hbs
  obtain ⟨R2, hR2⟩ : ∃ R2, R2 = R1.next 1 := ⟨_, rfl⟩
  rw [← hR2] at r4
  have HF := Lib.hid (HF.out.trans (by rw [← hR2, ← hS]))
  have HV := Lib.hid (HV.out.trans (by rw [← hR2, ← hS]))
  clear k4 x3 r3 B3 hR2 hS
  go_wp2_with fail
  go_at_call 60
  refine (rd_Sub w4 b R2 S r4).mono ?_
  rintro e w5 ⟨c, rfl, hc5, rc5, r5, k5⟩
  have x5 := x4.but r4 k5
  have B5 := But.below B4 k5 hb B4.size
  have hc : w.heap.size ≤ c := Nat.le_trans B4.size hc5
  rw [← HV.out] at rc5
  clear k5 x4 r4 B4 HV hc5
  go_wp2_with fail
  go_at_call 61
  refine (rd_Fault w5 b _ r5).mono ?_
  rintro e w6 ⟨rfl, k6⟩
  have x6 := x5.below k6 x5.lt
  have B6 := B5.trans (k6.mono B5.size)
  have rc6 := rc5.below k6
  rw [← HF.out]
  generalize (R2.next S).ea = ea
  have hfl : ∀ w, Sem.run Try.prog (Instr.field 40 (.agg #[.int .i64 F, .int .i64 ea]) 0) w = .ok (.int .i64 F) w := fun w => by kernel_rfl
  clear k6 x5 r5 rc5 B5 HF HR0
  go_wp2_with fail
  go_at_call 29
  refine (hl' w6).mono ?_
  rintro e w7 ⟨rfl, k7⟩
  have x7 := x6.below k7 x6.lt
  have B7 := B6.trans (k7.mono B6.size)
  clear k7 x6 B6 hl'
  go_wp2_with (first
    | (refine at_build rfl _ rfl NL.zero (by kernel_rfl) ?_)
    | (refine at_store rfl _ _ rfl rfl w.heap.size rfl NL.zero NL.zero rfl x7 ?_; rintro w9 g9; have x9 := g9.bx; have B9 := g9.next B7 (Nat.le_refl _); clear g9))
  exact bodyPost_ret (results_row_tmp (by rfl) _ _ w.heap.size _ _ _ _ rfl x9 Try.underlying36 rfl (NL.size _)) rfl ⟨rfl, B9⟩
end Go.Proofs.Ytejcclcckgdbgaa
