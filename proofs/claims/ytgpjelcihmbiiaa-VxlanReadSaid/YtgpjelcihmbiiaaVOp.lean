/- Arguments that are packets, opened. No condition. -/
import Derived.Test.YtgpjelcihmbiiaaVKt
import Derived.Test.YtgpjelcihmbiiaaPOp
namespace Go.Proofs.Ytgpjelcihmbiiaa
open Go.RowKit Go.ChangeShapes Go.WideShapes Go.ChangeAt Go.Joins
set_option linter.unusedVariables false
set_option linter.unusedSimpArgs false
set_option maxRecDepth 100000

theorem cellsPk : Try.prog.cellsOf 55 = 21 := by kernel_rfl
section
variable {H : Type} {enc : TypeId × Value → H} {w : World} {base : Nat} {spare : Nat → Bool} {held : Bool}
theorem frame_cells {l : List Value} (hsz : l.length = 15) {fuel : Nat} {y : DataW H × List MemPlace} (hf : DataW.trod enc Try.prog w base spare held fuel 36 l = some y) :
    ∃ f : FL, l = f.cs ∧ f.Ok := by
  have hs : Try.prog.underlying 36 = some (.struct (Try.prog.fieldsOf 36)) := by kernel_rfl
  have hs2 : Try.prog.underlying 34 = some (.struct (Try.prog.fieldsOf 34)) := by kernel_rfl
  have hs3 : Try.prog.underlying 32 = some (.struct (Try.prog.fieldsOf 32)) := by kernel_rfl
  obtain ⟨xs, m, _, _, _, hx, hi⟩ := DataW.trod_struct hs hf
  rw [show (Try.prog.fieldsOf 36).size = 6 by kernel_rfl] at hx
  have F : ∀ i T o k, i < 6 → ((Try.prog.fieldsOf 36)[i]?).map (fun f => (f.type, f.offset)) = some (T, o) → Try.prog.cellsOf T = k → ∃ y, DataW.trod enc Try.prog w base spare held m T ((l.drop o).take k) = some y := by
    intro i T o k hi6 hff hk
    obtain ⟨f, h1, rfl, rfl⟩ := field_at hff
    have := hi i f h1
    rw [hk, List.getElem?_eq_getElem (show i < xs.length by omega)] at this
    exact ⟨_, this⟩
  obtain ⟨y0, g0⟩ := F 0 28 0 1 (by decide) (by kernel_rfl) (by kernel_rfl)
  obtain ⟨xs_, u0, -, b0⟩ := DataW.trod_int Try.underlying28 g0
  have c0 := one_at u0
  have B0 := bounds_u64 b0
  obtain ⟨y1, g1⟩ := F 1 28 1 1 (by decide) (by kernel_rfl) (by kernel_rfl)
  obtain ⟨xd, u1, -, b1⟩ := DataW.trod_int Try.underlying28 g1
  have c1 := one_at u1
  have B1 := bounds_u64 b1
  obtain ⟨y2, g2⟩ := F 2 3 2 1 (by decide) (by kernel_rfl) (by kernel_rfl)
  obtain ⟨xk, u2, -, b2⟩ := DataW.trod_int Try.underlying3 g2
  have c2 := one_at u2
  have B2 := bounds_i64 b2
  obtain ⟨y3, g3⟩ := F 3 34 3 5 (by decide) (by kernel_rfl) (by kernel_rfl)
  obtain ⟨zs3, m3, _, _, _, hz3, hj3⟩ := DataW.trod_struct hs2 g3
  rw [show (Try.prog.fieldsOf 34).size = 5 by kernel_rfl] at hz3
  obtain ⟨q3, h3, t3, o3⟩ := field_at (t := 34) (i := 0) (T := 3) (o := 0) (by kernel_rfl)
  have j3 := hj3 0 q3 h3
  rw [t3, o3, show Try.prog.cellsOf 3 = 1 by kernel_rfl, List.getElem?_eq_getElem (show 0 < zs3.length by omega)] at j3
  obtain ⟨xop, v3, -, w3⟩ := DataW.trod_int Try.underlying3 j3
  have c3 := part_at (show 0 < 5 by decide) (one_at v3)
  have B3 := bounds_i64 w3
  obtain ⟨q4, h4, t4, o4⟩ := field_at (t := 34) (i := 1) (T := 28) (o := 1) (by kernel_rfl)
  have j4 := hj3 1 q4 h4
  rw [t4, o4, show Try.prog.cellsOf 28 = 1 by kernel_rfl, List.getElem?_eq_getElem (show 1 < zs3.length by omega)] at j4
  obtain ⟨xsm, v4, -, w4⟩ := DataW.trod_int Try.underlying28 j4
  have c4 := part_at (show 1 < 5 by decide) (one_at v4)
  have B4 := bounds_u64 w4
  obtain ⟨q5, h5, t5, o5⟩ := field_at (t := 34) (i := 2) (T := 30) (o := 2) (by kernel_rfl)
  have j5 := hj3 2 q5 h5
  rw [t5, o5, show Try.prog.cellsOf 30 = 1 by kernel_rfl, List.getElem?_eq_getElem (show 2 < zs3.length by omega)] at j5
  obtain ⟨xsi, v5, -, w5⟩ := DataW.trod_int Try.underlying30 j5
  have c5 := part_at (show 2 < 5 by decide) (one_at v5)
  have B5 := bounds_u32 w5
  obtain ⟨q6, h6, t6, o6⟩ := field_at (t := 34) (i := 3) (T := 28) (o := 3) (by kernel_rfl)
  have j6 := hj3 3 q6 h6
  rw [t6, o6, show Try.prog.cellsOf 28 = 1 by kernel_rfl, List.getElem?_eq_getElem (show 3 < zs3.length by omega)] at j6
  obtain ⟨xtm, v6, -, w6⟩ := DataW.trod_int Try.underlying28 j6
  have c6 := part_at (show 3 < 5 by decide) (one_at v6)
  have B6 := bounds_u64 w6
  obtain ⟨q7, h7, t7, o7⟩ := field_at (t := 34) (i := 4) (T := 30) (o := 4) (by kernel_rfl)
  have j7 := hj3 4 q7 h7
  rw [t7, o7, show Try.prog.cellsOf 30 = 1 by kernel_rfl, List.getElem?_eq_getElem (show 4 < zs3.length by omega)] at j7
  obtain ⟨xti, v7, -, w7⟩ := DataW.trod_int Try.underlying30 j7
  have c7 := part_at (show 4 < 5 by decide) (one_at v7)
  have B7 := bounds_u32 w7
  obtain ⟨y4, g4⟩ := F 4 32 8 6 (by decide) (by kernel_rfl) (by kernel_rfl)
  obtain ⟨zs4, m4, _, _, _, hz4, hj4⟩ := DataW.trod_struct hs3 g4
  rw [show (Try.prog.fieldsOf 32).size = 6 by kernel_rfl] at hz4
  obtain ⟨q8, h8, t8, o8⟩ := field_at (t := 32) (i := 0) (T := 30) (o := 0) (by kernel_rfl)
  have j8 := hj4 0 q8 h8
  rw [t8, o8, show Try.prog.cellsOf 30 = 1 by kernel_rfl, List.getElem?_eq_getElem (show 0 < zs4.length by omega)] at j8
  obtain ⟨xhs, v8, -, w8⟩ := DataW.trod_int Try.underlying30 j8
  have c8 := part_at (show 0 < 6 by decide) (one_at v8)
  have B8 := bounds_u32 w8
  obtain ⟨q9, h9, t9, o9⟩ := field_at (t := 32) (i := 1) (T := 30) (o := 1) (by kernel_rfl)
  have j9 := hj4 1 q9 h9
  rw [t9, o9, show Try.prog.cellsOf 30 = 1 by kernel_rfl, List.getElem?_eq_getElem (show 1 < zs4.length by omega)] at j9
  obtain ⟨xhd, v9, -, w9⟩ := DataW.trod_int Try.underlying30 j9
  have c9 := part_at (show 1 < 6 by decide) (one_at v9)
  have B9 := bounds_u32 w9
  obtain ⟨q10, h10, t10, o10⟩ := field_at (t := 32) (i := 2) (T := 3) (o := 2) (by kernel_rfl)
  have j10 := hj4 2 q10 h10
  rw [t10, o10, show Try.prog.cellsOf 3 = 1 by kernel_rfl, List.getElem?_eq_getElem (show 2 < zs4.length by omega)] at j10
  obtain ⟨xtt, v10, -, w10⟩ := DataW.trod_int Try.underlying3 j10
  have c10 := part_at (show 2 < 6 by decide) (one_at v10)
  have B10 := bounds_i64 w10
  obtain ⟨q11, h11, t11, o11⟩ := field_at (t := 32) (i := 3) (T := 3) (o := 3) (by kernel_rfl)
  have j11 := hj4 3 q11 h11
  rw [t11, o11, show Try.prog.cellsOf 3 = 1 by kernel_rfl, List.getElem?_eq_getElem (show 3 < zs4.length by omega)] at j11
  obtain ⟨xpr, v11, -, w11⟩ := DataW.trod_int Try.underlying3 j11
  have c11 := part_at (show 3 < 6 by decide) (one_at v11)
  have B11 := bounds_i64 w11
  obtain ⟨q12, h12, t12, o12⟩ := field_at (t := 32) (i := 4) (T := 3) (o := 4) (by kernel_rfl)
  have j12 := hj4 4 q12 h12
  rw [t12, o12, show Try.prog.cellsOf 3 = 1 by kernel_rfl, List.getElem?_eq_getElem (show 4 < zs4.length by omega)] at j12
  obtain ⟨xsp, v12, -, w12⟩ := DataW.trod_int Try.underlying3 j12
  have c12 := part_at (show 4 < 6 by decide) (one_at v12)
  have B12 := bounds_i64 w12
  obtain ⟨q13, h13, t13, o13⟩ := field_at (t := 32) (i := 5) (T := 3) (o := 5) (by kernel_rfl)
  have j13 := hj4 5 q13 h13
  rw [t13, o13, show Try.prog.cellsOf 3 = 1 by kernel_rfl, List.getElem?_eq_getElem (show 5 < zs4.length by omega)] at j13
  obtain ⟨xdp, v13, -, w13⟩ := DataW.trod_int Try.underlying3 j13
  have c13 := part_at (show 5 < 6 by decide) (one_at v13)
  have B13 := bounds_i64 w13
  obtain ⟨y5, g5⟩ := F 5 27 14 1 (by decide) (by kernel_rfl) (by kernel_rfl)
  obtain ⟨xx, u5, -, b5⟩ := DataW.trod_int Try.underlying27 g5
  have c14 := one_at u5
  have B14 := bounds_u64 b5
  refine ⟨FL.mk xs_ xd xk xop xsm xsi xtm xti xhs xhd xtt xpr xsp xdp xx, ?_, ⟨⟨B0.1, Int.lt_of_le_of_lt B0.2 (by decide)⟩, ⟨B1.1, Int.lt_of_le_of_lt B1.2 (by decide)⟩, ⟨B4.1, Int.lt_of_le_of_lt B4.2 (by decide)⟩, ⟨B5.1, Int.lt_of_le_of_lt B5.2 (by decide)⟩, ⟨B6.1, Int.lt_of_le_of_lt B6.2 (by decide)⟩, ⟨B7.1, Int.lt_of_le_of_lt B7.2 (by decide)⟩, ⟨B8.1, Int.lt_of_le_of_lt B8.2 (by decide)⟩, ⟨B9.1, Int.lt_of_le_of_lt B9.2 (by decide)⟩, ⟨B14.1, Int.lt_of_le_of_lt B14.2 (by decide)⟩⟩⟩
  have hcs : l = FL.cs (FL.mk xs_ xd xk xop xsm xsi xtm xti xhs xhd xtt xpr xsp xdp xx) := by
    apply List.ext_getElem?
    intro j
    rcases Nat.lt_or_ge j 15 with hj | hj
    · rcases j with _ | _ | _ | _ | _ | _ | _ | _ | _ | _ | _ | _ | _ | _ | _ | j
      · exact c0
      · exact c1
      · exact c2
      · exact c3
      · exact c4
      · exact c5
      · exact c6
      · exact c7
      · exact c8
      · exact c9
      · exact c10
      · exact c11
      · exact c12
      · exact c13
      · exact c14
      · omega
    · rw [List.getElem?_eq_none (by omega), List.getElem?_eq_none (show (FL.cs _).length ≤ j from hj)]
  exact hcs
theorem open_packet {r : Reach} {b0 : Nat} {v : Value} {d : DataW H} {p : List MemPlace}
    (hv : Value.okWide Try.prog w r b0 55 v) (h : DataW.Trod enc Try.prog w base spare held 55 v d p) :
    ∃ p : PL, v = p.v ∧ p.Ok := by
  have hs : Try.prog.underlying 55 = some (.struct (Try.prog.fieldsOf 55)) := by kernel_rfl
  obtain ⟨cs, rfl, hsz⟩ := okWide_struct hs hv
  rw [cellsPk] at hsz
  obtain ⟨fuel, hf⟩ := h
  obtain ⟨xs, m, _, _, _, hx, hi⟩ := DataW.trod_struct hs (show DataW.trod enc Try.prog w base spare held fuel 55 cs.toList = some (d, p) from hf)
  rw [show (Try.prog.fieldsOf 55).size = 7 by kernel_rfl] at hx
  have F : ∀ i T o k, i < 7 → ((Try.prog.fieldsOf 55)[i]?).map (fun f => (f.type, f.offset)) = some (T, o) → Try.prog.cellsOf T = k → ∃ y, DataW.trod enc Try.prog w base spare held m T ((cs.toList.drop o).take k) = some y := by
    intro i T o k hi7 hff hk
    obtain ⟨f, h1, rfl, rfl⟩ := field_at hff
    have := hi i f h1
    rw [hk, List.getElem?_eq_getElem (show i < xs.length by omega)] at this
    exact ⟨_, this⟩
  obtain ⟨y0, g0⟩ := F 0 30 0 1 (by decide) (by kernel_rfl) (by kernel_rfl)
  obtain ⟨xsrc, u0, -, b0⟩ := DataW.trod_int Try.underlying30 g0
  have c0 := one_at u0
  have B0 := bounds_u32 b0
  obtain ⟨y1, g1⟩ := F 1 30 1 1 (by decide) (by kernel_rfl) (by kernel_rfl)
  obtain ⟨xdst, u1, -, b1⟩ := DataW.trod_int Try.underlying30 g1
  have c1 := one_at u1
  have B1 := bounds_u32 b1
  obtain ⟨y2, g2⟩ := F 2 3 2 1 (by decide) (by kernel_rfl) (by kernel_rfl)
  obtain ⟨xttl, u2, -, b2⟩ := DataW.trod_int Try.underlying3 g2
  have c2 := one_at u2
  have B2 := bounds_i64 b2
  obtain ⟨y3, g3⟩ := F 3 3 3 1 (by decide) (by kernel_rfl) (by kernel_rfl)
  obtain ⟨xent, u3, -, b3⟩ := DataW.trod_int Try.underlying3 g3
  have c3 := one_at u3
  have B3 := bounds_i64 b3
  obtain ⟨y4, g4⟩ := F 4 29 4 1 (by decide) (by kernel_rfl) (by kernel_rfl)
  obtain ⟨xvni, u4, -, b4⟩ := DataW.trod_int Try.underlying29 g4
  have c4 := one_at u4
  have B4 := bounds_u32 b4
  obtain ⟨y5, g5⟩ := F 5 29 5 1 (by decide) (by kernel_rfl) (by kernel_rfl)
  obtain ⟨xmark, u5, -, b5⟩ := DataW.trod_int Try.underlying29 g5
  have c5 := one_at u5
  have B5 := bounds_u32 b5
  obtain ⟨y6, g6⟩ := F 6 36 6 15 (by decide) (by kernel_rfl) (by kernel_rfl)
  have hl15 : ((cs.toList.drop 6).take 15).length = 15 := by simp; omega
  obtain ⟨f, hfc, hfo⟩ := frame_cells hl15 g6
  refine ⟨⟨xsrc, xdst, xttl, xent, xvni, xmark, f⟩, ?_, ⟨⟨B0.1, Int.lt_of_le_of_lt B0.2 (by decide)⟩, ⟨B1.1, Int.lt_of_le_of_lt B1.2 (by decide)⟩, ⟨B4.1, Int.lt_of_le_of_lt B4.2 (by decide)⟩, ⟨B5.1, Int.lt_of_le_of_lt B5.2 (by decide)⟩, hfo⟩⟩
  have h6 : cs.toList = cs.toList.take 6 ++ ((cs.toList.drop 6).take 15) := by
    rw [List.take_of_length_le (l := cs.toList.drop 6) (by simp; omega), List.take_append_drop]
  have hcs : cs.toList = PL.cs ⟨xsrc, xdst, xttl, xent, xvni, xmark, f⟩ := by
    rw [h6, hfc]
    have h5 : cs.toList.take 6 = [.int .u32 xsrc, .int .u32 xdst, .int .i64 xttl, .int .i64 xent, .int .u32 xvni, .int .u32 xmark] := by
      apply List.ext_getElem?
      intro j
      rcases Nat.lt_or_ge j 6 with hj | hj
      · rw [List.getElem?_take_of_lt hj]
        rcases j with _ | _ | _ | _ | _ | _ | j
        · exact c0
        · exact c1
        · exact c2
        · exact c3
        · exact c4
        · exact c5
        · omega
      · rw [List.getElem?_eq_none (by simp; omega), List.getElem?_eq_none (by simpa using hj)]
    rw [h5]
    rfl
  unfold PL.v
  rw [← hcs, Array.toArray_toList]
end
end Go.Proofs.Ytgpjelcihmbiiaa
