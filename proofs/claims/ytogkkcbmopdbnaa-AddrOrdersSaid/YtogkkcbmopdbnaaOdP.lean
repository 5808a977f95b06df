/- AddrOrders: for any three prefixes and three identifiers the law returns true, and the arguments read as before. No condition. -/
import Derived.Test.YtogkkcbmopdbnaaOdL
import Derived.Test.YtogkkcbmopdbnaaOpE
namespace Go.Proofs.Ytogkkcbmopdbnaa.addrOrders
open Go.RowKit Go.ChangeShapes Go.WideShapes Go.ChangeAt
set_option linter.unusedVariables false

theorem walk (a n b m c l : Int) (e f g : Nat → Int) (w : World) :
    Calls Try.prog 4 #[.agg #[.int .u32 a, .int .i64 n], .agg #[.int .u32 b, .int .i64 m], .agg #[.int .u32 c, .int .i64 l], .agg #[.int .u8 (e 0), .int .u8 (e 1), .int .u8 (e 2), .int .u8 (e 3), .int .u8 (e 4), .int .u8 (e 5), .int .u8 (e 6), .int .u8 (e 7), .int .u8 (e 8), .int .u8 (e 9)], .agg #[.int .u8 (f 0), .int .u8 (f 1), .int .u8 (f 2), .int .u8 (f 3), .int .u8 (f 4), .int .u8 (f 5), .int .u8 (f 6), .int .u8 (f 7), .int .u8 (f 8), .int .u8 (f 9)], .agg #[.int .u8 (g 0), .int .u8 (g 1), .int .u8 (g 2), .int .u8 (g 3), .int .u8 (g 4), .int .u8 (g 5), .int .u8 (g 6), .int .u8 (g 7), .int .u8 (g 8), .int .u8 (g 9)]] w fun r w' => r = .returned (.bool true) ∧ Below w.heap.size w w' := by
  have px := cmpP_range a n b m
  have px' := cmpP_range b m a n
  have qx := cmpFrom_range e f 10 0
  have qx' := cmpFrom_range f e 10 0
  refine ordersLaw a n b m c l e f g _ _ _ _ _ _ _ _ rfl rfl rfl rfl rfl rfl rfl rfl ?_ px.1 px.2 px'.1 px'.2 ?_ cmpP_trans ?_ qx.1 qx.2 qx'.1 qx'.2 ?_ (cmpFrom_trans e f g 10 0) w
  · rw [cmpP_anti a n b m]; simp
  · by_cases h : cmpP a n b m = 0
    · obtain ⟨h1, h2⟩ := cmpP_zero.1 h
      exact .inl ⟨by simp [h], by simp [h1], by simp [h2]⟩
    · by_cases h1 : a = b
      · by_cases h2 : n = m
        · exact absurd (cmpP_zero.2 ⟨h1, h2⟩) h
        · exact .inr (.inr ⟨by simpa using h, by simp [h1], by simpa using h2⟩)
      · exact .inr (.inl ⟨by simpa using h, by simpa using h1⟩)
  · show (cmpE e f == -cmpE f e) = true
    have : cmpE f e = -cmpE e f := cmpFrom_anti e f 10 0
    rw [this]; simp
  · rw [cmpE_eqE]
    cases h : (cmpE e f == 0) with
    | true => exact .inl ⟨rfl, rfl⟩
    | false => exact .inr ⟨rfl, rfl⟩

set_option maxRecDepth 100000 in
theorem lifted (os : Os) (started : os.Started) (H : Type) (enc : TypeId × Value → H) :
    ReturnsInHanded {} Try.checked os 4 .any (Rows.addrOrdersSpec.pre6 enc Try.prog Try.f4 Rows.addrOrdersRow.domain false) (Rows.addrOrdersSpec.post enc Try.prog Try.f4 false true false false) := by
  refine returnsInHanded_of_change (C := Try.checked) own started (by kernel_rfl) Try.func4
    (ChangeSpec.witness6 (enc := enc) (C := Try.checked) false ⟨#[], #[.agg #[.int .u32 0, .int .i64 0], .agg #[.int .u32 0, .int .i64 0], .agg #[.int .u32 0, .int .i64 0], .agg #[.int .u8 0, .int .u8 0, .int .u8 0, .int .u8 0, .int .u8 0, .int .u8 0, .int .u8 0, .int .u8 0, .int .u8 0, .int .u8 0], .agg #[.int .u8 0, .int .u8 0, .int .u8 0, .int .u8 0, .int .u8 0, .int .u8 0, .int .u8 0, .int .u8 0, .int .u8 0, .int .u8 0], .agg #[.int .u8 0, .int .u8 0, .int .u8 0, .int .u8 0, .int .u8 0, .int .u8 0, .int .u8 0, .int .u8 0, .int .u8 0, .int .u8 0]], []⟩ 8 (by kernel_rfl) (by kernel_rfl) (by kernel_rfl) (by kernel_rfl)) ?_
  intro W base args ds gs before hval0 hW hcnd _
  have hval : ∀ (j : Nat) t v, Try.f4.params[j]? = some t → args[j]? = some v → Value.okWide Try.prog W .any base t v := hval0
  have hW' := hW
  obtain ⟨p, q, hA0, hV, rfl, hfz, hnd⟩ := hW
  have hA : DataW.TrodAll enc Try.prog W 0 (fun _ => true) true Try.f4.params.toList args.toList ds p := hA0
  rw [Try.params4] at hA hval
  obtain ⟨v0, vs0, d0, ds0, p0, q0, hargs, rfl, rfl, h0, r0⟩ := trodAll_cons hA
  obtain ⟨v1, vs1, d1, ds1, p1, q1, rfl, rfl, rfl, h1, r1⟩ := trodAll_cons r0
  obtain ⟨v2, vs2, d2, ds2, p2, q2, rfl, rfl, rfl, h2, r2⟩ := trodAll_cons r1
  obtain ⟨v3, vs3, d3, ds3, p3, q3, rfl, rfl, rfl, h3, r3⟩ := trodAll_cons r2
  obtain ⟨v4, vs4, d4, ds4, p4, q4, rfl, rfl, rfl, h4, r4⟩ := trodAll_cons r3
  obtain ⟨v5, vs5, d5, ds5, p5, q5, rfl, rfl, rfl, h5, r5⟩ := trodAll_cons r4
  obtain ⟨rfl, rfl, rfl⟩ := trodAll_nil r5
  obtain rfl : args = #[v0, v1, v2, v3, v4, v5] := by cases args; simp_all
  obtain ⟨rfl, rfl⟩ := trodVars_none hV
  have lt0 : ∀ x ∈ p0, x.block < W.heap.size := by obtain ⟨m, hm⟩ := h0; exact DataW.trod_lt m _ _ _ hm
  have lt1 : ∀ x ∈ p1, x.block < W.heap.size := by obtain ⟨m, hm⟩ := h1; exact DataW.trod_lt m _ _ _ hm
  have lt2 : ∀ x ∈ p2, x.block < W.heap.size := by obtain ⟨m, hm⟩ := h2; exact DataW.trod_lt m _ _ _ hm
  have lt3 : ∀ x ∈ p3, x.block < W.heap.size := by obtain ⟨m, hm⟩ := h3; exact DataW.trod_lt m _ _ _ hm
  have lt4 : ∀ x ∈ p4, x.block < W.heap.size := by obtain ⟨m, hm⟩ := h4; exact DataW.trod_lt m _ _ _ hm
  have lt5 : ∀ x ∈ p5, x.block < W.heap.size := by obtain ⟨m, hm⟩ := h5; exact DataW.trod_lt m _ _ _ hm
  obtain ⟨a, n, rfl, _, _⟩ := open_prefix (hval 0 25 v0 rfl rfl) h0
  obtain ⟨b, m, rfl, _, _⟩ := open_prefix (hval 1 25 v1 rfl rfl) h1
  obtain ⟨c, l, rfl, _, _⟩ := open_prefix (hval 2 25 v2 rfl rfl) h2
  obtain ⟨e, rfl, _⟩ := open_esi (hval 3 34 v3 rfl rfl) h3
  obtain ⟨f, rfl, _⟩ := open_esi (hval 4 34 v4 rfl rfl) h4
  obtain ⟨g, rfl, _⟩ := open_esi (hval 5 34 v5 rfl rfl) h5
  clear hA0 hval0
  refine (walk a n b m c l e f g W).mono fun r W' ⟨he, bel⟩ => ?_
  subst he
  exact ⟨_, rfl, _, _, _, [], _, [], hW', trodAll_mk1 (shut_bool Try.underlying4 _), (trodAll_cons_mk (Below.trod laidOut (by kernel_rfl) (of_decide_eq_true (by kernel_rfl)) h0 bel lt0) (trodAll_cons_mk (Below.trod laidOut (by kernel_rfl) (of_decide_eq_true (by kernel_rfl)) h1 bel lt1) (trodAll_cons_mk (Below.trod laidOut (by kernel_rfl) (of_decide_eq_true (by kernel_rfl)) h2 bel lt2) (trodAll_cons_mk (Below.trod laidOut (by kernel_rfl) (of_decide_eq_true (by kernel_rfl)) h3 bel lt3) (trodAll_cons_mk (Below.trod laidOut (by kernel_rfl) (of_decide_eq_true (by kernel_rfl)) h4 bel lt4) (trodAll_cons_mk (Below.trod laidOut (by kernel_rfl) (of_decide_eq_true (by kernel_rfl)) h5 bel lt5) trodAll_mk0)))))), rfl, bel.frame _, fun h => by cases h⟩

theorem over : Rows.addrOrdersRow.holds Try.pinned (OpenSpec.ofChange Rows.addrOrdersSpec) :=
  OpenClaim.holds_of_wide 4 Try.f4 rfl rfl rfl rfl rfl rfl rfl ⟨rfl, rfl, rfl, rfl, rfl⟩ rfl rfl rfl rfl rfl (by kernel_rfl) Try.func4 (by kernel_rfl)
    (of_decide_eq_true (by kernel_rfl)) (by unfold Func.isWrapper; first | (rw [if_pos (by decide +kernel)]; kernel_rfl) | (rw [if_neg (by decide +kernel)]; exact ⟨rfl, rfl⟩))
    (fun os started H enc _ => lifted os started H enc)

/-- The statement. -/
theorem proved : Rows.AddrOrdersSaid := over
#print axioms proved
end Go.Proofs.Ytogkkcbmopdbnaa.addrOrders
