/- What the program's text lays: the table of the kinds. No condition. -/
import Derived.Test.YtmajalobkcnobaaDoorCVal
import Derived.LaidLaws
import Derived.LaidHandle
import Derived.LaidMore
import Derived.Lib.LaidTab
import Derived.Stop.Joined
namespace Go.Proofs.YtmajalobkcnobaaDoor
open Go.RowKit
set_option linter.unusedVariables false
set_option linter.unusedSimpArgs false
set_option maxRecDepth 100000

theorem pair_cells {W : World} {fuel : Nat} {cs : List Value} {a b : Int} {p : List MemPlace}
    (h : DataW.trod (fun _ => ()) Tryd.prog W 0 (fun _ => true) false fuel 72 cs = some (.agg [.lit (.int .u8 a), .lit (.int .u8 b)], p)) : cs = [.int .u8 a, .int .u8 b] := by
  cases fuel with
  | zero => simp [DataW.trod] at h
  | succ fuel =>
    have hu := Tryd.underlying72
    have hc : Tryd.prog.cellsOf 72 = 2 := by kernel_rfl
    have hc5 : Tryd.prog.cellsOf 5 = 1 := by kernel_rfl
    simp only [DataW.trod, hu, hc] at h
    split at h
    · rename_i hl
      obtain ⟨xs, hm, hx⟩ := Option.map_eq_some_iff.1 h
      simp only [List.mapM_cons, List.mapM_nil, Option.bind_eq_bind, Option.pure_def, Option.bind_eq_some_iff, Option.some.injEq, hc5, List.drop_zero] at hm
      obtain ⟨x, hx0, r, ⟨y, hy0, r2, rfl, rfl⟩, rfl⟩ := hm
      simp only [List.map_cons, List.map_nil, Prod.mk.injEq, DataW.agg.injEq, List.cons.injEq, and_true] at hx
      obtain ⟨⟨e1, e2⟩, -⟩ := hx
      obtain ⟨u, v, rfl⟩ : ∃ u v, cs = [u, v] := by
        match cs, hl with
        | [u, v], _ => exact ⟨u, v, rfl⟩
      simp only [List.take_succ_cons, List.take_zero, List.drop_succ_cons, List.drop_zero] at hx0 hy0
      obtain ⟨z, q1, q2, _⟩ := DataW.trod_int Tryd.underlying5 (show DataW.trod _ _ _ _ _ _ _ _ _ = some (x.1, x.2) from hx0)
      obtain ⟨z', r1, r2, _⟩ := DataW.trod_int Tryd.underlying5 (show DataW.trod _ _ _ _ _ _ _ _ _ = some (y.1, y.2) from hy0)
      rw [e1] at q2
      rw [e2] at r2
      have q3 := congrArg Prod.fst q2
      have r3 := congrArg Prod.fst r2
      simp only [DataW.lit.injEq, Lit.int.injEq, true_and] at q3 r3
      subst q3 r3
      simp only [List.cons.injEq, and_true] at q1 r1
      rw [q1, r1]
    · cases h

theorem ki_of_trod {W : World} {fuel : Nat} {cs : List Value} {p : List MemPlace}
    (h : DataW.trod (fun _ => ()) Tryd.prog W 0 (fun _ => true) false fuel 73 cs = some (Rows.laid_leafmesh_comm_kinds, p)) : ∀ k, k < 8 → cs[k * 2]? = some (.int .u8 (khi k)) ∧ cs[k * 2 + 1]? = some (.int .u8 (klo k)) := by
  cases fuel with
  | zero => simp [DataW.trod] at h
  | succ fuel =>
    have hu := Tryd.underlying73
    have hc : Tryd.prog.cellsOf 73 = 16 := by kernel_rfl
    have hc2 : Tryd.prog.cellsOf 72 = 2 := by kernel_rfl
    simp only [DataW.trod, hu, hc, hc2] at h
    split at h
    · rename_i hl
      obtain ⟨xs, hm, hx⟩ := Option.map_eq_some_iff.1 h
      have hxs : xs.map (·.1) = (List.range 8).map fun k => (DataW.agg [.lit (.int .u8 (khi k)), .lit (.int .u8 (klo k))] : DataW Unit) := by
        have := congrArg Prod.fst hx
        simp only [Rows.laid_leafmesh_comm_kinds, DataW.agg.injEq] at this
        rw [this]
        rfl
      intro k hk
      obtain ⟨b, hb, hf⟩ := Lib.mapM_at hm k k (by simp [hk])
      have h2 : (xs.map (·.1))[k]? = some b.1 := by simp [hb]
      rw [hxs] at h2
      simp only [List.getElem?_map, List.getElem?_range hk, Option.map_some, Option.some.injEq] at h2
      have hpc := pair_cells (a := khi k) (b := klo k) (p := b.2) (by rw [hf, h2])
      have g0 : ((cs.drop (k * 2)).take 2)[0]? = some (.int .u8 (khi k)) := by rw [hpc]; rfl
      have g1 : ((cs.drop (k * 2)).take 2)[1]? = some (.int .u8 (klo k)) := by rw [hpc]; rfl
      simpa [List.getElem?_take, List.getElem?_drop] using And.intro g0 g1
    · cases h

theorem ki_of_laid {W : World} (h : laidMetH Tryd.prog [("leafmesh/comm.kinds", Rows.laid_leafmesh_comm_kinds)] W) : KI W := by
  rw [MakeChecks.laidMetH_plain _ _ _ (by kernel_rfl)] at h
  obtain ⟨ps, ⟨g', t', cs, fuel, p, q, hg', ht', hvar, hd, _, _⟩, _⟩ := h
  have hg : Tryd.prog.globalNamed "leafmesh/comm.kinds" = some 0 := by kernel_rfl
  have ht : (Tryd.prog.globals[0]?).map (·.type) = some 73 := by kernel_rfl
  obtain rfl := Option.some.inj (hg.symm.trans hg')
  obtain rfl := Option.some.inj (ht.symm.trans ht')
  have hk := ki_of_trod hd
  have hcell : ∀ i, W.cell? ⟨0, i, none⟩ = cs.toList[i]? := fun i => by
    have := World.var?_cell hg hvar i
    simpa using this
  unfold KI
  simp only [hcell]
  have h0 := hk 0 (by decide); have h1 := hk 1 (by decide); have h2 := hk 2 (by decide); have h3 := hk 3 (by decide); have h4 := hk 4 (by decide); have h5 := hk 5 (by decide); have h6 := hk 6 (by decide); have h7 := hk 7 (by decide)
  exact ⟨h0.1, h0.2, h1.1, h1.2, h2.1, h2.2, h3.1, h3.2, h4.1, h4.2, h5.1, h5.2, h6.1, h6.2, h7.1, h7.2⟩
end Go.Proofs.YtmajalobkcnobaaDoor
