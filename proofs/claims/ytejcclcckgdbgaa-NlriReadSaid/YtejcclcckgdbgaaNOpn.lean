/- Arguments that are routes, opened. No condition. -/
import Derived.Test.YtejcclcckgdbgaaNEq
import Derived.Test.YtejcclcckgdbgaaNWr
import Derived.Lib.SmallJoins
import Derived.ChangeOld
import Derived.ChangeSame
import Derived.Carry
namespace Go.Proofs.Ytejcclcckgdbgaa
open Go.RowKit Go.ChangeShapes Go.WideShapes Go.ChangeAt Go.Joins
set_option linter.unusedVariables false
set_option maxRecDepth 100000

theorem own : ownKnob Try.prog.godebug = none := by kernel_rfl
theorem laidOut : laidOutB Try.prog = true := by kernel_rfl
theorem cellsN : Try.prog.cellsOf 36 = 21 := by kernel_rfl
theorem under_s (t : TypeId) (h : Try.prog.underlying t = some (.struct (Try.prog.fieldsOf t))) : Try.prog.underlying t = some (.struct (Try.prog.fieldsOf t)) := h
theorem one_at {cs : List Value} {o : Nat} {v : Value} (h : (cs.drop o).take 1 = [v]) : cs[o]? = some v := by
  have := congrArg (fun l : List Value => l[0]?) h
  simpa [List.getElem?_take, List.getElem?_drop] using this
theorem part_at {cs : List Value} {o k i : Nat} {v : Value} (hi : i < k) (h : ((cs.drop o).take k)[i]? = some v) : cs[o + i]? = some v := by
  rw [List.getElem?_take_of_lt hi, List.getElem?_drop] at h
  exact h
theorem field_at {t : TypeId} {i : Nat} {T : TypeId} {o : Nat} (h : ((Try.prog.fieldsOf t)[i]?).map (fun f => (f.type, f.offset)) = some (T, o)) : ∃ f, (Try.prog.fieldsOf t)[i]? = some f ∧ f.type = T ∧ f.offset = o := by
  obtain ⟨f, h1, h2⟩ := Option.map_eq_some_iff.1 h
  simp only [Prod.mk.injEq] at h2
  exact ⟨f, h1, h2.1, h2.2⟩
section
variable {H : Type} {enc : TypeId × Value → H} {w : World} {base : Nat} {spare : Nat → Bool} {held : Bool}
theorem esi_open {fuel : Nat} {cs : List Value} {x : DataW H × List MemPlace} (h : DataW.trod enc Try.prog w base spare held fuel 31 cs = some x) : ∃ e : Nat → Int, (∀ i, i < 10 → cs[i]? = some (.int .u8 (e i))) ∧ ∀ i, 0 ≤ e i ∧ e i < 256 := by
  obtain ⟨xs, m, _, _, _, hx, hi⟩ := DataW.trod_array Try.underlying31 h
  rw [show Try.prog.cellsOf 5 = 1 by kernel_rfl] at hi
  have key : ∀ i, i < 10 → ∃ n : Int, cs[i]? = some (.int .u8 n) ∧ (Lit.int .u8 n).wf = true := by
    intro i h8
    have h1 := hi i h8
    rw [List.getElem?_eq_getElem (by omega)] at h1
    obtain ⟨n, e1, _, wn⟩ := DataW.trod_int Try.underlying5 h1
    refine ⟨n, ?_, wn⟩
    rw [Nat.mul_one] at e1
    exact one_at e1
  refine ⟨fun i => if h8 : i < 10 then (key i h8).choose else 0, fun i h8 => ?_, fun i => ?_⟩
  · simp only [dif_pos h8]
    exact (key i h8).choose_spec.1
  · by_cases h8 : i < 10
    · simp only [dif_pos h8]
      have := bounds_u8 (key i h8).choose_spec.2
      omega
    · simp only [dif_neg h8]
      decide
theorem open_nlri {r : Reach} {b0 : Nat} {v : Value} {d : DataW H} {p : List MemPlace}
    (hv : Value.okWide Try.prog w r b0 36 v) (h : DataW.Trod enc Try.prog w base spare held 36 v d p) :
    ∃ n : NL, v = n.v ∧ n.Ok ∧ (-9223372036854775808 ≤ n.k ∧ n.k < 9223372036854775808) ∧ (-9223372036854775808 ≤ n.pn ∧ n.pn < 9223372036854775808) := by
  have hs : Try.prog.underlying 36 = some (.struct (Try.prog.fieldsOf 36)) := by kernel_rfl
  have hs2 : Try.prog.underlying 34 = some (.struct (Try.prog.fieldsOf 34)) := by kernel_rfl
  obtain ⟨cs, rfl, hsz⟩ := okWide_struct hs hv
  rw [cellsN] at hsz
  obtain ⟨fuel, hf⟩ := h
  obtain ⟨xs, m, _, _, _, hx, hi⟩ := DataW.trod_struct hs (show DataW.trod enc Try.prog w base spare held fuel 36 cs.toList = some (d, p) from hf)
  rw [show (Try.prog.fieldsOf 36).size = 11 by kernel_rfl] at hx
  have F : ∀ i T o k, i < 11 → ((Try.prog.fieldsOf 36)[i]?).map (fun f => (f.type, f.offset)) = some (T, o) → Try.prog.cellsOf T = k → ∃ y, DataW.trod enc Try.prog w base spare held m T ((cs.toList.drop o).take k) = some y := by
    intro i T o k hi11 hff hk
    obtain ⟨f, h1, rfl, rfl⟩ := field_at hff
    have := hi i f h1
    rw [hk, List.getElem?_eq_getElem (show i < xs.length by omega)] at this
    exact ⟨_, this⟩
  obtain ⟨y0, g0⟩ := F 0 3 0 1 (by decide) (by kernel_rfl) (by kernel_rfl)
  obtain ⟨nk, u0, -, b0⟩ := DataW.trod_int Try.underlying3 g0
  have c0 := one_at u0
  have B0 := bounds_i64 b0
  obtain ⟨y1, g1⟩ := F 1 27 1 1 (by decide) (by kernel_rfl) (by kernel_rfl)
  obtain ⟨nrd, u1, -, b1⟩ := DataW.trod_int Try.underlying27 g1
  have c1 := one_at u1
  have B1 := bounds_u64 b1
  obtain ⟨y2, g2⟩ := F 2 31 2 10 (by decide) (by kernel_rfl) (by kernel_rfl)
  obtain ⟨e, u2, B2⟩ := esi_open g2
  have c2 : ∀ j, j < 10 → cs.toList[2 + j]? = some (.int .u8 (e j)) := fun j hj => part_at hj (u2 j hj)
  obtain ⟨y3, g3⟩ := F 3 29 12 1 (by decide) (by kernel_rfl) (by kernel_rfl)
  obtain ⟨nt, u3, -, b3⟩ := DataW.trod_int Try.underlying29 g3
  have c3 := one_at u3
  have B3 := bounds_u32 b3
  obtain ⟨y4, g4⟩ := F 4 28 13 1 (by decide) (by kernel_rfl) (by kernel_rfl)
  obtain ⟨nm, u4, -, b4⟩ := DataW.trod_int Try.underlying28 g4
  have c4 := one_at u4
  have B4 := bounds_u64 b4
  obtain ⟨y5, g5⟩ := F 5 32 14 1 (by decide) (by kernel_rfl) (by kernel_rfl)
  obtain ⟨nip, u5, -, b5⟩ := DataW.trod_int Try.underlying32 g5
  have c5 := one_at u5
  have B5 := bounds_u32 b5
  obtain ⟨y6, g6⟩ := F 6 4 15 1 (by decide) (by kernel_rfl) (by kernel_rfl)
  obtain ⟨nh, u6, -⟩ := DataW.trod_bool Try.underlying4 g6
  have c6 := one_at u6
  obtain ⟨y7, g7⟩ := F 7 34 16 2 (by decide) (by kernel_rfl) (by kernel_rfl)
  obtain ⟨zs, m2, _, _, _, hz, hj⟩ := DataW.trod_struct hs2 g7
  rw [show (Try.prog.fieldsOf 34).size = 2 by kernel_rfl] at hz
  obtain ⟨q0, h0, t0, o0⟩ := field_at (t := 34) (i := 0) (T := 32) (o := 0) (by kernel_rfl)
  have j0 := hj 0 q0 h0
  rw [t0, o0, show Try.prog.cellsOf 32 = 1 by kernel_rfl, List.getElem?_eq_getElem (show 0 < zs.length by omega)] at j0
  obtain ⟨npi, v0, -, w0⟩ := DataW.trod_int Try.underlying32 j0
  have cp0 := part_at (show 0 < 2 by decide) (one_at v0)
  have Bp0 := bounds_u32 w0
  obtain ⟨q1, h1, t1, o1⟩ := field_at (t := 34) (i := 1) (T := 3) (o := 1) (by kernel_rfl)
  have j1 := hj 1 q1 h1
  rw [t1, o1, show Try.prog.cellsOf 3 = 1 by kernel_rfl, List.getElem?_eq_getElem (show 1 < zs.length by omega)] at j1
  obtain ⟨npn, v1, -, w1⟩ := DataW.trod_int Try.underlying3 j1
  have cp1 := part_at (show 1 < 2 by decide) (one_at v1)
  have Bp1 := bounds_i64 w1
  obtain ⟨y8, g8⟩ := F 8 32 18 1 (by decide) (by kernel_rfl) (by kernel_rfl)
  obtain ⟨ng, u8, -, b8⟩ := DataW.trod_int Try.underlying32 g8
  have c8 := one_at u8
  have B8 := bounds_u32 b8
  obtain ⟨y9, g9⟩ := F 9 29 19 1 (by decide) (by kernel_rfl) (by kernel_rfl)
  obtain ⟨nl, u9, -, b9⟩ := DataW.trod_int Try.underlying29 g9
  have c9 := one_at u9
  have B9 := bounds_u32 b9
  obtain ⟨y10, g10⟩ := F 10 29 20 1 (by decide) (by kernel_rfl) (by kernel_rfl)
  obtain ⟨nl2, u10, -, b10⟩ := DataW.trod_int Try.underlying29 g10
  have c10 := one_at u10
  have B10 := bounds_u32 b10
  refine ⟨⟨nk, nrd, e, nt, nm, nip, nh, npi, npn, ng, nl, nl2⟩, ?_, ?_, by simp only; omega, by simp only; omega⟩
  · have hcs : cs.toList = NL.cs ⟨nk, nrd, e, nt, nm, nip, nh, npi, npn, ng, nl, nl2⟩ := by
      apply List.ext_getElem?
      intro j
      by_cases hj : j < 21
      · rcases j with _ | _ | _ | _ | _ | _ | _ | _ | _ | _ | _ | _ | _ | _ | _ | _ | _ | _ | _ | _ | _ | j
        · exact c0
        · exact c1
        · exact c2 0 (by decide)
        · exact c2 1 (by decide)
        · exact c2 2 (by decide)
        · exact c2 3 (by decide)
        · exact c2 4 (by decide)
        · exact c2 5 (by decide)
        · exact c2 6 (by decide)
        · exact c2 7 (by decide)
        · exact c2 8 (by decide)
        · exact c2 9 (by decide)
        · exact c3
        · exact c4
        · exact c5
        · exact c6
        · exact cp0
        · exact cp1
        · exact c8
        · exact c9
        · exact c10
        · omega
      · rw [List.getElem?_eq_none (show cs.toList.length ≤ j by simp; omega), List.getElem?_eq_none (show (NL.cs _).length ≤ j by rw [NL.cs_length]; omega)]
    show Value.agg cs = Value.agg _
    rw [← hcs, Array.toArray_toList]
  · constructor
    all_goals first | exact B2 | (constructor <;> simp only <;> omega)
end
end Go.Proofs.Ytejcclcckgdbgaa
