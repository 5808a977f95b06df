/- Arguments that are frames, or octets, opened. No condition. -/
import Derived.Test.YtgpjelcihmbiiaaPMt
import Derived.Lib.SmallJoins
import Derived.ChangeOld
import Derived.ChangeSame
import Derived.Carry
namespace Go.Proofs.Ytgpjelcihmbiiaa
open Go.RowKit Go.ChangeShapes Go.WideShapes Go.ChangeAt Go.Joins
set_option linter.unusedVariables false
set_option maxRecDepth 100000

theorem own : ownKnob Try.prog.godebug = none := by kernel_rfl
theorem laidOut : laidOutB Try.prog = true := by kernel_rfl
theorem cellsFr : Try.prog.cellsOf 36 = 15 := by kernel_rfl
theorem one_at {cs : List Value} {o : Nat} {v : Value} (h : (cs.drop o).take 1 = [v]) : cs[o]? = some v := by
  have := congrArg (fun l : List Value => l[0]?) h
  simpa [List.getElem?_take, List.getElem?_drop] using this
theorem part_at {cs : List Value} {o k i : Nat} {v : Value} (hi : i < k) (h : ((cs.drop o).take k)[i]? = some v) : cs[o + i]? = some v := by
  rw [List.getElem?_take_of_lt hi, List.getElem?_drop] at h
  exact h
theorem field_at {t : TypeId} {i : Nat} {T : TypeId} {o : Nat} (h : ((Try.prog.fieldsOf t)[i]?).map (fun f => (f.type, f.offset)) = some (T, o)) : ∃ f, (Try.prog.fieldsOf t)[i]? = some f ∧ f.type = T ∧ f.offset = o := by
  obtain ⟨f, h1, h2⟩ := Option.map_eq_some_iff.1 h
  simp only [Prod.mk.injEq] at h2
  exact ⟨f, h1, h2.1, h2.2⟩
section
variable {H : Type} {enc : TypeId × Value → H} {w : World} {base : Nat} {spare : Nat → Bool} {held : Bool}
theorem open_frame {r : Reach} {b0 : Nat} {v : Value} {d : DataW H} {p : List MemPlace}
    (hv : Value.okWide Try.prog w r b0 36 v) (h : DataW.Trod enc Try.prog w base spare held 36 v d p) :
    ∃ f : FL, v = f.v ∧ f.Ok := by
  have hs : Try.prog.underlying 36 = some (.struct (Try.prog.fieldsOf 36)) := by kernel_rfl
  have hs2 : Try.prog.underlying 34 = some (.struct (Try.prog.fieldsOf 34)) := by kernel_rfl
  have hs3 : Try.prog.underlying 32 = some (.struct (Try.prog.fieldsOf 32)) := by kernel_rfl
  obtain ⟨cs, rfl, hsz⟩ := okWide_struct hs hv
  rw [cellsFr] at hsz
  obtain ⟨fuel, hf⟩ := h
  obtain ⟨xs, m, _, _, _, hx, hi⟩ := DataW.trod_struct hs (show DataW.trod enc Try.prog w base spare held fuel 36 cs.toList = some (d, p) from hf)
  rw [show (Try.prog.fieldsOf 36).size = 6 by kernel_rfl] at hx
  have F : ∀ i T o k, i < 6 → ((Try.prog.fieldsOf 36)[i]?).map (fun f => (f.type, f.offset)) = some (T, o) → Try.prog.cellsOf T = k → ∃ y, DataW.trod enc Try.prog w base spare held m T ((cs.toList.drop o).take k) = some y := by
    intro i T o k hi6 hff hk
    obtain ⟨f, h1, rfl, rfl⟩ := field_at hff
    have := hi i f h1
    rw [hk, List.getElem?_eq_getElem (show i < xs.length by omega)] at this
    exact ⟨_, this⟩
  obtain ⟨y0, g0⟩ := F 0 28 0 1 (by decide) (by kernel_rfl) (by kernel_rfl)
  obtain ⟨xs_, u0, -, b0⟩ := DataW.trod_int Try.underlying28 g0
  have c0 := one_at u0
  have B0 := bounds_u64 b0
  obtain ⟨y1, g1⟩ := F 1 28 1 1 (by decide) (by kernel_rfl) (by kernel_rfl)
  obtain ⟨xd, u1, -, b1⟩ := DataW.trod_int Try.underlying28 g1
  have c1 := one_at u1
  have B1 := bounds_u64 b1
  obtain ⟨y2, g2⟩ := F 2 3 2 1 (by decide) (by kernel_rfl) (by kernel_rfl)
  obtain ⟨xk, u2, -, b2⟩ := DataW.trod_int Try.underlying3 g2
  have c2 := one_at u2
  have B2 := bounds_i64 b2
  obtain ⟨y3, g3⟩ := F 3 34 3 5 (by decide) (by kernel_rfl) (by kernel_rfl)
  obtain ⟨zs3, m3, _, _, _, hz3, hj3⟩ := DataW.trod_struct hs2 g3
  rw [show (Try.prog.fieldsOf 34).size = 5 by kernel_rfl] at hz3
  obtain ⟨q3, h3, t3, o3⟩ := field_at (t := 34) (i := 0) (T := 3) (o := 0) (by kernel_rfl)
  have j3 := hj3 0 q3 h3
  rw [t3, o3, show Try.prog.cellsOf 3 = 1 by kernel_rfl, List.getElem?_eq_getElem (show 0 < zs3.length by omega)] at j3
  obtain ⟨xop, v3, -, w3⟩ := DataW.trod_int Try.underlying3 j3
  have c3 := part_at (show 0 < 5 by decide) (one_at v3)
  have B3 := bounds_i64 w3
  obtain ⟨q4, h4, t4, o4⟩ := field_at (t := 34) (i := 1) (T := 28) (o := 1) (by kernel_rfl)
  have j4 := hj3 1 q4 h4
  rw [t4, o4, show Try.prog.cellsOf 28 = 1 by kernel_rfl, List.getElem?_eq_getElem (show 1 < zs3.length by omega)] at j4
  obtain ⟨xsm, v4, -, w4⟩ := DataW.trod_int Try.underlying28 j4
  have c4 := part_at (show 1 < 5 by decide) (one_at v4)
  have B4 := bounds_u64 w4
  obtain ⟨q5, h5, t5, o5⟩ := field_at (t := 34) (i := 2) (T := 30) (o := 2) (by kernel_rfl)
  have j5 := hj3 2 q5 h5
  rw [t5, o5, show Try.prog.cellsOf 30 = 1 by kernel_rfl, List.getElem?_eq_getElem (show 2 < zs3.length by omega)] at j5
  obtain ⟨xsi, v5, -, w5⟩ := DataW.trod_int Try.underlying30 j5
  have c5 := part_at (show 2 < 5 by decide) (one_at v5)
  have B5 := bounds_u32 w5
  obtain ⟨q6, h6, t6, o6⟩ := field_at (t := 34) (i := 3) (T := 28) (o := 3) (by kernel_rfl)
  have j6 := hj3 3 q6 h6
  rw [t6, o6, show Try.prog.cellsOf 28 = 1 by kernel_rfl, List.getElem?_eq_getElem (show 3 < zs3.length by omega)] at j6
  obtain ⟨xtm, v6, -, w6⟩ := DataW.trod_int Try.underlying28 j6
  have c6 := part_at (show 3 < 5 by decide) (one_at v6)
  have B6 := bounds_u64 w6
  obtain ⟨q7, h7, t7, o7⟩ := field_at (t := 34) (i := 4) (T := 30) (o := 4) (by kernel_rfl)
  have j7 := hj3 4 q7 h7
  rw [t7, o7, show Try.prog.cellsOf 30 = 1 by kernel_rfl, List.getElem?_eq_getElem (show 4 < zs3.length by omega)] at j7
  obtain ⟨xti, v7, -, w7⟩ := DataW.trod_int Try.underlying30 j7
  have c7 := part_at (show 4 < 5 by decide) (one_at v7)
  have B7 := bounds_u32 w7
  obtain ⟨y4, g4⟩ := F 4 32 8 6 (by decide) (by kernel_rfl) (by kernel_rfl)
  obtain ⟨zs4, m4, _, _, _, hz4, hj4⟩ := DataW.trod_struct hs3 g4
  rw [show (Try.prog.fieldsOf 32).size = 6 by kernel_rfl] at hz4
  obtain ⟨q8, h8, t8, o8⟩ := field_at (t := 32) (i := 0) (T := 30) (o := 0) (by kernel_rfl)
  have j8 := hj4 0 q8 h8
  rw [t8, o8, show Try.prog.cellsOf 30 = 1 by kernel_rfl, List.getElem?_eq_getElem (show 0 < zs4.length by omega)] at j8
  obtain ⟨xhs, v8, -, w8⟩ := DataW.trod_int Try.underlying30 j8
  have c8 := part_at (show 0 < 6 by decide) (one_at v8)
  have B8 := bounds_u32 w8
  obtain ⟨q9, h9, t9, o9⟩ := field_at (t := 32) (i := 1) (T := 30) (o := 1) (by kernel_rfl)
  have j9 := hj4 1 q9 h9
  rw [t9, o9, show Try.prog.cellsOf 30 = 1 by kernel_rfl, List.getElem?_eq_getElem (show 1 < zs4.length by omega)] at j9
  obtain ⟨xhd, v9, -, w9⟩ := DataW.trod_int Try.underlying30 j9
  have c9 := part_at (show 1 < 6 by decide) (one_at v9)
  have B9 := bounds_u32 w9
  obtain ⟨q10, h10, t10, o10⟩ := field_at (t := 32) (i := 2) (T := 3) (o := 2) (by kernel_rfl)
  have j10 := hj4 2 q10 h10
  rw [t10, o10, show Try.prog.cellsOf 3 = 1 by kernel_rfl, List.getElem?_eq_getElem (show 2 < zs4.length by omega)] at j10
  obtain ⟨xtt, v10, -, w10⟩ := DataW.trod_int Try.underlying3 j10
  have c10 := part_at (show 2 < 6 by decide) (one_at v10)
  have B10 := bounds_i64 w10
  obtain ⟨q11, h11, t11, o11⟩ := field_at (t := 32) (i := 3) (T := 3) (o := 3) (by kernel_rfl)
  have j11 := hj4 3 q11 h11
  rw [t11, o11, show Try.prog.cellsOf 3 = 1 by kernel_rfl, List.getElem?_eq_getElem (show 3 < zs4.length by omega)] at j11
  obtain ⟨xpr, v11, -, w11⟩ := DataW.trod_int Try.underlying3 j11
  have c11 := part_at (show 3 < 6 by decide) (one_at v11)
  have B11 := bounds_i64 w11
  obtain ⟨q12, h12, t12, o12⟩ := field_at (t := 32) (i := 4) (T := 3) (o := 4) (by kernel_rfl)
  have j12 := hj4 4 q12 h12
  rw [t12, o12, show Try.prog.cellsOf 3 = 1 by kernel_rfl, List.getElem?_eq_getElem (show 4 < zs4.length by omega)] at j12
  obtain ⟨xsp, v12, -, w12⟩ := DataW.trod_int Try.underlying3 j12
  have c12 := part_at (show 4 < 6 by decide) (one_at v12)
  have B12 := bounds_i64 w12
  obtain ⟨q13, h13, t13, o13⟩ := field_at (t := 32) (i := 5) (T := 3) (o := 5) (by kernel_rfl)
  have j13 := hj4 5 q13 h13
  rw [t13, o13, show Try.prog.cellsOf 3 = 1 by kernel_rfl, List.getElem?_eq_getElem (show 5 < zs4.length by omega)] at j13
  obtain ⟨xdp, v13, -, w13⟩ := DataW.trod_int Try.underlying3 j13
  have c13 := part_at (show 5 < 6 by decide) (one_at v13)
  have B13 := bounds_i64 w13
  obtain ⟨y5, g5⟩ := F 5 27 14 1 (by decide) (by kernel_rfl) (by kernel_rfl)
  obtain ⟨xx, u5, -, b5⟩ := DataW.trod_int Try.underlying27 g5
  have c14 := one_at u5
  have B14 := bounds_u64 b5
  refine ⟨FL.mk xs_ xd xk xop xsm xsi xtm xti xhs xhd xtt xpr xsp xdp xx, ?_, ⟨⟨B0.1, Int.lt_of_le_of_lt B0.2 (by decide)⟩, ⟨B1.1, Int.lt_of_le_of_lt B1.2 (by decide)⟩, ⟨B4.1, Int.lt_of_le_of_lt B4.2 (by decide)⟩, ⟨B5.1, Int.lt_of_le_of_lt B5.2 (by decide)⟩, ⟨B6.1, Int.lt_of_le_of_lt B6.2 (by decide)⟩, ⟨B7.1, Int.lt_of_le_of_lt B7.2 (by decide)⟩, ⟨B8.1, Int.lt_of_le_of_lt B8.2 (by decide)⟩, ⟨B9.1, Int.lt_of_le_of_lt B9.2 (by decide)⟩, ⟨B14.1, Int.lt_of_le_of_lt B14.2 (by decide)⟩⟩⟩
  have hcs : cs.toList = FL.cs (FL.mk xs_ xd xk xop xsm xsi xtm xti xhs xhd xtt xpr xsp xdp xx) := by
    apply List.ext_getElem?
    intro j
    rcases Nat.lt_or_ge j 15 with hj | hj
    · rcases j with _ | _ | _ | _ | _ | _ | _ | _ | _ | _ | _ | _ | _ | _ | _ | j
      · exact c0
      · exact c1
      · exact c2
      · exact c3
      · exact c4
      · exact c5
      · exact c6
      · exact c7
      · exact c8
      · exact c9
      · exact c10
      · exact c11
      · exact c12
      · exact c13
      · exact c14
      · omega
    · rw [List.getElem?_eq_none (by simpa using (by omega : cs.size ≤ j)), List.getElem?_eq_none (show (FL.cs _).length ≤ j from hj)]
  unfold FL.v
  rw [← hcs, Array.toArray_toList]
end
theorem addr_of_cell {w : World} {a : Addr} {v : Value} (h : w.cell? a = some v) : a.spot = none := by
  unfold World.cell? at h
  split at h
  · split at h
    · cases h
    · rename_i hs
      cases hx : a.spot with
      | none => rfl
      | some s => simp [hx] at hs
  · cases h
theorem addr_add {a : Addr} (hs : a.spot = none) (i : Nat) : a.add i = ⟨a.block, a.off + i, none⟩ := by
  obtain ⟨b, o, s⟩ := a
  simp only at hs
  subst hs
  exact add_is b o i
theorem add_zero (a : Addr) : a.add 0 = a := by simp [Addr.add]
theorem open_bytes {H : Type} {enc : TypeId × Value → H} {w : World} {held : Bool} {v : Value} {d : DataW H} {p : List MemPlace} (hv : Value.okWide Try.prog w .any 0 23 v) (h : DataW.Trod enc Try.prog w 0 (fun _ => true) held 23 v d p) : ∃ xs, Seg w v xs ∧ Oct xs := by
  obtain ⟨a, len, cap, rfl⟩ := okWide_slice Try.underlying23 hv
  obtain ⟨fuel, hf⟩ := h
  rcases open_ints Try.underlying23 Try.underlying5 (by kernel_rfl) hf with ⟨hcs, -⟩ | ⟨a', len', cap', zs, hcs, -, hlc, -, hzl, -, hcell, hwf⟩
  · simp [Value.cells] at hcs
    obtain ⟨rfl, rfl, rfl⟩ := hcs
    exact ⟨[], Seg.nil w, fun x hx => absurd hx (by simp)⟩
  · simp [Value.cells] at hcs
    obtain ⟨rfl, rfl, rfl⟩ := hcs
    simp only [if_true] at hzl
    have hl : (zs.take len).length = len := by simp; omega
    refine ⟨zs.take len, ⟨_, cap, by rw [hl], by rw [hl]; exact hlc, fun i hi => ?_⟩, fun x hx => ?_⟩
    · rw [hl] at hi
      have hc := hcell i (by omega)
      have hc0 := hcell 0 (by omega)
      rw [add_zero] at hc0
      have hsp := addr_of_cell hc0
      rw [addr_add hsp] at hc
      refine ⟨a'.block, a'.off, ?_, ?_⟩
      · obtain ⟨b, o, s⟩ := a'
        simp only at hsp
        subst hsp
        rfl
      · rw [hc]
        simp [List.getD_eq_getElem?_getD, List.getElem?_take_of_lt hi]
    · have := bounds_u8 (hwf x (List.mem_of_mem_take hx))
      omega
end Go.Proofs.Ytgpjelcihmbiiaa
