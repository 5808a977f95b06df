/- AddrCovers: for any three prefixes and an address the law returns true, and the arguments read as before. No condition. -/
import Derived.Test.YtogkkcbmopdbnaaCvL
import Derived.Test.YtogkkcbmopdbnaaCvB
import Derived.Test.YtogkkcbmopdbnaaCvT
import Derived.Test.YtogkkcbmopdbnaaCvF
import Derived.Test.YtogkkcbmopdbnaaOpn
namespace Go.Proofs.Ytogkkcbmopdbnaa.addrCovers
open Go.RowKit Go.ChangeShapes Go.WideShapes Go.ChangeAt

theorem walk (a n b m c l ip : Int) (ha : Adr a) (hb : Adr b) (hc : Adr c) (hip : Adr ip) (w : World) :
    Calls Try.prog 3 #[.agg #[.int .u32 a, .int .i64 n], .agg #[.int .u32 b, .int .i64 m], .agg #[.int .u32 c, .int .i64 l], .int .u32 ip] w fun e w' => e = .returned (.bool true) ∧ Below w.heap.size w w' := by
  by_cases h0 : n < 0
  · exact coversLaw_A1 a n b m c l ip ha hb hip h0 w
  by_cases h1 : 32 < n
  · exact coversLaw_A2 a n b m c l ip ha hb hip (by omega) h1 w
  have hv : vld n = true := by simp [vld]; omega
  cases hm : vld m with
  | false => exact coversLaw_A3 a n b m c l ip ha hb hip hv hm _ rfl w
  | true =>
    obtain ⟨g0, g1⟩ := vld_yes hm
    have hbi := both_iff (n := n) (m := m) ha hb (by omega) (by omega) g0 g1
    cases x1 : cvr a n b m with
    | false =>
      by_cases q : n = m
      · have q2 : ¬ cln a n = cln b m := fun q2 => by have := (hbi.2 ⟨q2, q⟩).1; rw [x1] at this; cases this
        exact coversLaw_B2 a n b m c l ip ha hb hip hv hm _ rfl x1 (by simpa using q2) w
      · exact coversLaw_B1 a n b m c l ip ha hb hip hv hm _ rfl x1 (by simpa using q) w
    | true =>
      cases x2 : cvr b m c l with
      | true =>
        have x3 := cvr_trans ha hb hc x1 x2
        cases y2 : ctn b m ip with
        | true =>
          have y0 := cvr_ctn ha hb hip x1 y2
          cases x4 : cvr b m a n with
          | true =>
            obtain ⟨q2, q1⟩ := hbi.1 ⟨x1, x4⟩
            exact coversLaw_TTT a n b m c l ip ha hb hip hv hm _ rfl y0 y2 x1 x2 x3 x4 (by simpa using q1) (by simpa using q2) w
          | false =>
            by_cases q : n = m
            · have q2 : ¬ cln a n = cln b m := fun q2 => by have := (hbi.2 ⟨q2, q⟩).2; rw [x4] at this; cases this
              exact coversLaw_TTC a n b m c l ip ha hb hip hv hm _ rfl y0 y2 x1 x2 x3 x4 (by simpa using q2) w
            · exact coversLaw_TTN a n b m c l ip ha hb hip hv hm _ rfl y0 y2 x1 x2 x3 x4 (by simpa using q) w
        | false =>
          cases x4 : cvr b m a n with
          | true =>
            obtain ⟨q2, q1⟩ := hbi.1 ⟨x1, x4⟩
            exact coversLaw_TFT a n b m c l ip ha hb hip hv hm _ rfl y2 x1 x2 x3 x4 (by simpa using q1) (by simpa using q2) w
          | false =>
            by_cases q : n = m
            · have q2 : ¬ cln a n = cln b m := fun q2 => by have := (hbi.2 ⟨q2, q⟩).2; rw [x4] at this; cases this
              exact coversLaw_TFC a n b m c l ip ha hb hip hv hm _ rfl y2 x1 x2 x3 x4 (by simpa using q2) w
            · exact coversLaw_TFN a n b m c l ip ha hb hip hv hm _ rfl y2 x1 x2 x3 x4 (by simpa using q) w
      | false =>
        cases y2 : ctn b m ip with
        | true =>
          have y0 := cvr_ctn ha hb hip x1 y2
          cases x4 : cvr b m a n with
          | true =>
            obtain ⟨q2, q1⟩ := hbi.1 ⟨x1, x4⟩
            exact coversLaw_FTT a n b m c l ip ha hb hip hv hm _ rfl y0 y2 x1 x2 x4 (by simpa using q1) (by simpa using q2) w
          | false =>
            by_cases q : n = m
            · have q2 : ¬ cln a n = cln b m := fun q2 => by have := (hbi.2 ⟨q2, q⟩).2; rw [x4] at this; cases this
              exact coversLaw_FTC a n b m c l ip ha hb hip hv hm _ rfl y0 y2 x1 x2 x4 (by simpa using q2) w
            · exact coversLaw_FTN a n b m c l ip ha hb hip hv hm _ rfl y0 y2 x1 x2 x4 (by simpa using q) w
        | false =>
          cases x4 : cvr b m a n with
          | true =>
            obtain ⟨q2, q1⟩ := hbi.1 ⟨x1, x4⟩
            exact coversLaw_FFT a n b m c l ip ha hb hip hv hm _ rfl y2 x1 x2 x4 (by simpa using q1) (by simpa using q2) w
          | false =>
            by_cases q : n = m
            · have q2 : ¬ cln a n = cln b m := fun q2 => by have := (hbi.2 ⟨q2, q⟩).2; rw [x4] at this; cases this
              exact coversLaw_FFC a n b m c l ip ha hb hip hv hm _ rfl y2 x1 x2 x4 (by simpa using q2) w
            · exact coversLaw_FFN a n b m c l ip ha hb hip hv hm _ rfl y2 x1 x2 x4 (by simpa using q) w

set_option maxRecDepth 100000 in
theorem lifted (os : Os) (started : os.Started) (H : Type) (enc : TypeId × Value → H) :
    ReturnsInHanded {} Try.checked os 3 .any (Rows.addrCoversSpec.pre6 enc Try.prog Try.f3 Rows.addrCoversRow.domain false) (Rows.addrCoversSpec.post enc Try.prog Try.f3 false true false false) := by
  refine returnsInHanded_of_change (C := Try.checked) own started (by kernel_rfl) Try.func3
    (ChangeSpec.witness6 (enc := enc) (C := Try.checked) false ⟨#[], #[.agg #[.int .u32 0, .int .i64 0], .agg #[.int .u32 0, .int .i64 0], .agg #[.int .u32 0, .int .i64 0], .int .u32 0], []⟩ 8 (by kernel_rfl) (by kernel_rfl) (by kernel_rfl) (by kernel_rfl)) ?_
  intro W base args ds gs before hval0 hW hcnd _
  have hval : ∀ (j : Nat) t v, Try.f3.params[j]? = some t → args[j]? = some v → Value.okWide Try.prog W .any base t v := hval0
  have hW' := hW
  obtain ⟨p, q, hA0, hV, rfl, hfz, hnd⟩ := hW
  have hA : DataW.TrodAll enc Try.prog W 0 (fun _ => true) true Try.f3.params.toList args.toList ds p := hA0
  rw [Try.params3] at hA hval
  obtain ⟨v0, vs0, d0, ds0, p0, q0, hargs, rfl, rfl, h0, r0⟩ := trodAll_cons hA
  obtain ⟨v1, vs1, d1, ds1, p1, q1, rfl, rfl, rfl, h1, r1⟩ := trodAll_cons r0
  obtain ⟨v2, vs2, d2, ds2, p2, q2, rfl, rfl, rfl, h2, r2⟩ := trodAll_cons r1
  obtain ⟨v3, vs3, d3, ds3, p3, q3, rfl, rfl, rfl, h3, r3⟩ := trodAll_cons r2
  obtain ⟨rfl, rfl, rfl⟩ := trodAll_nil r3
  obtain rfl : args = #[v0, v1, v2, v3] := by cases args; simp_all
  obtain ⟨rfl, rfl⟩ := trodVars_none hV
  have lt0 : ∀ x ∈ p0, x.block < W.heap.size := by obtain ⟨m, hm⟩ := h0; exact DataW.trod_lt m _ _ _ hm
  have lt1 : ∀ x ∈ p1, x.block < W.heap.size := by obtain ⟨m, hm⟩ := h1; exact DataW.trod_lt m _ _ _ hm
  have lt2 : ∀ x ∈ p2, x.block < W.heap.size := by obtain ⟨m, hm⟩ := h2; exact DataW.trod_lt m _ _ _ hm
  obtain ⟨a, n, rfl, wa, _⟩ := open_prefix (hval 0 25 v0 rfl rfl) h0
  obtain ⟨b, m, rfl, wb, _⟩ := open_prefix (hval 1 25 v1 rfl rfl) h1
  obtain ⟨c, l, rfl, wc, _⟩ := open_prefix (hval 2 25 v2 rfl rfl) h2
  obtain ⟨ip, rfl, rfl, rfl, wip⟩ := open_int Try.underlying23 (hval 3 23 v3 rfl rfl) h3
  clear hA0 hval0
  refine (walk a n b m c l ip (adr_wf wa) (adr_wf wb) (adr_wf wc) (adr_wf wip) W).mono fun e W' ⟨he, bel⟩ => ?_
  subst he
  exact ⟨_, rfl, _, _, _, [], _, [], hW', trodAll_mk1 (shut_bool Try.underlying4 _), (trodAll_cons_mk (Below.trod laidOut (by kernel_rfl) (of_decide_eq_true (by kernel_rfl)) h0 bel lt0) (trodAll_cons_mk (Below.trod laidOut (by kernel_rfl) (of_decide_eq_true (by kernel_rfl)) h1 bel lt1) (trodAll_cons_mk (Below.trod laidOut (by kernel_rfl) (of_decide_eq_true (by kernel_rfl)) h2 bel lt2) (trodAll_cons_mk (shut_int Try.underlying23 wip) trodAll_mk0)))), rfl, bel.frame _, fun h => by cases h⟩

theorem over : Rows.addrCoversRow.holds Try.pinned (OpenSpec.ofChange Rows.addrCoversSpec) :=
  OpenClaim.holds_of_wide 3 Try.f3 rfl rfl rfl rfl rfl rfl rfl ⟨rfl, rfl, rfl, rfl, rfl⟩ rfl rfl rfl rfl rfl (by kernel_rfl) Try.func3 (by kernel_rfl)
    (of_decide_eq_true (by kernel_rfl)) (by unfold Func.isWrapper; first | (rw [if_pos (by decide +kernel)]; kernel_rfl) | (rw [if_neg (by decide +kernel)]; exact ⟨rfl, rfl⟩))
    (fun os started H enc _ => lifted os started H enc)

/-- The statement. -/
theorem proved : Rows.AddrCoversSaid := over
#print axioms proved
end Go.Proofs.Ytogkkcbmopdbnaa.addrCovers
