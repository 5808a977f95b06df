/- Two routes are the same just where all their fields are. No condition. -/
import Derived.Test.YtejcclcckgdbgaaNO
import Derived.Test.YtejcclcckgdbgaaEqe
namespace Go.Proofs.Ytejcclcckgdbgaa
open Go.RowKit Go.Sort
set_option linter.unusedVariables false
set_option linter.unusedSimpArgs false
set_option maxRecDepth 100000

theorem eqE_at (d : Nat) (e f : Nat → Int) (W : World) : Sem.run Try.prog (Op.equalIn (d + 2) 31 (.agg (esi e).toArray) (.agg (esi f).toArray)) W = .ok (eqE e f) W := by
  have hsz : ∀ w, (sizeOf 5).run Try.prog w = .ok 1 w := fun w => by kernel_rfl
  have hx := run_part_esi e
  have hy := run_part_esi f
  unfold eqE esi
  generalize (#[.int .u8 (e 0), .int .u8 (e 1), .int .u8 (e 2), .int .u8 (e 3), .int .u8 (e 4), .int .u8 (e 5), .int .u8 (e 6), .int .u8 (e 7), .int .u8 (e 8), .int .u8 (e 9)] : Array Value) = xs at hx ⊢
  generalize (#[.int .u8 (f 0), .int .u8 (f 1), .int .u8 (f 2), .int .u8 (f 3), .int .u8 (f 4), .int .u8 (f 5), .int .u8 (f 6), .int .u8 (f 7), .int .u8 (f 8), .int .u8 (f 9)] : Array Value) = ys at hy ⊢
  rw [Op.equalIn]
  simp only [Sem.run_bind, run_underlying Try.underlying31, Result.andThen_ok, hsz, Std.Legacy.Range.forIn_eq_forIn_range', Std.Legacy.Range.size, Nat.sub_zero, Nat.add_sub_cancel, Nat.div_one]
  have hl : ∀ i ∈ List.range' 0 10 1, i < 10 := fun i hi => by simpa using (List.mem_range'_1.1 hi).2
  generalize List.range' 0 10 1 = l at hl ⊢
  induction l with
  | nil => simp
  | cons i l ih =>
    have hi : i < 10 := hl i (by simp)
    have pe : (Op.equalIn (d + 1) 5 (.int .u8 (e i)) (.int .u8 (f i))).run Try.prog W = .ok (e i == f i) W :=
      run_equalIn_int W d 5 .u8 .u8 _ _ Try.underlying5
    simp only [List.forIn_cons, Sem.run_bind, hx W i hi, hy W i hi, pe, Result.andThen_ok, List.all_cons]
    cases hb : (e i == f i)
    · simp
    · simp only [Bool.not_true, Bool.false_eq_true, if_false, Sem.run_pure, Result.andThen_ok, Bool.true_and]
      exact ih fun j hj => hl j (by simp [hj])

/-- One field. -/
theorem eqF {d : Nat} {xs ys : Array Value} {w : World} {f : Field} {fs : List Field} {a b : Value} {r s : Bool} (hn : f.name ≠ "_") (ha : (part f.type xs f.offset).run Try.prog w = .ok a w) (hb : (part f.type ys f.offset).run Try.prog w = .ok b w)
    (hr : (Op.equalIn d f.type a b).run Try.prog w = .ok r w) (hs : (Op.eqFields d xs ys fs).run Try.prog w = .ok s w) : (Op.eqFields d xs ys (f :: fs)).run Try.prog w = .ok (r && s) w := by
  simp only [Op.eqFields, if_pos hn, Sem.run_bind, ha, hb, hr, Result.andThen_ok]
  cases r
  · simp
  · simpa using hs

def NL.eqb (n m : NL) : Bool := (n.k == m.k) && ((n.rd == m.rd) && (eqE n.e m.e && ((n.t == m.t) && ((n.m == m.m) && ((n.ip == m.ip) && ((n.h == m.h) && (((n.pi == m.pi) && (n.pn == m.pn)) && ((n.g == m.g) && ((n.l == m.l) && ((n.l2 == m.l2) && true))))))))))
theorem fields_are : (Try.prog.fieldsOf 36).toList.map (fun f => (f.name, f.type, f.offset)) = [("Kind", 3, 0), ("RD", 27, 1), ("ESI", 31, 2), ("Tag", 29, 12), ("MAC", 28, 13), ("IP", 32, 14), ("HasIP", 4, 15), ("Prefix", 34, 16), ("Gateway", 32, 18), ("Label", 29, 19), ("Label2", 29, 20)] := by kernel_rfl
theorem fields2_are : (Try.prog.fieldsOf 34).toList.map (fun f => (f.name, f.type, f.offset)) = [("IP", 32, 0), ("Len", 3, 1)] := by kernel_rfl
theorem unmap {l : List Field} {x : String × TypeId × Nat} {r : List (String × TypeId × Nat)} (h : l.map (fun f => (f.name, f.type, f.offset)) = x :: r) : ∃ f fs, l = f :: fs ∧ f.name = x.1 ∧ f.type = x.2.1 ∧ f.offset = x.2.2 ∧ fs.map (fun f => (f.name, f.type, f.offset)) = r := by
  cases l with
  | nil => cases h
  | cons f fs =>
    simp only [List.map_cons, List.cons.injEq] at h
    exact ⟨f, fs, rfl, by rw [← h.1], by rw [← h.1], by rw [← h.1], h.2⟩
theorem unmap0 {l : List Field} (h : l.map (fun f => (f.name, f.type, f.offset)) = []) : l = [] := by simpa using h
theorem eqP (d : Nat) (p q p' q' : Int) (w : World) : (Op.equalIn (d + 2) 34 (.agg #[.int .u32 p, .int .i64 q]) (.agg #[.int .u32 p', .int .i64 q'])).run Try.prog w = .ok ((p == p') && (q == q')) w := by
  rw [run_equalIn_struct w (d + 1) _ _ _ (by kernel_rfl) (by kernel_rfl)]
  obtain ⟨f0, r0, e0, a0, b0, c0, h0⟩ := unmap fields2_are
  obtain ⟨f1, r1, e1, a1, b1, c1, h1⟩ := unmap h0
  obtain rfl := unmap0 h1
  rw [e0, e1]
  have := eqF (d := d + 1) (xs := #[.int .u32 p, .int .i64 q]) (ys := #[.int .u32 p', .int .i64 q']) (w := w) (f := f0) (fs := [f1]) (a := .int .u32 p) (b := .int .u32 p') (r := p == p') (s := (q == q') && true) (by rw [a0]; decide) (by rw [b0, c0]; kernel_rfl) (by rw [b0, c0]; kernel_rfl) (by rw [b0]; exact run_equalIn_int w d _ .u32 .u32 _ _ Try.underlying32)
    (eqF (a := .int .i64 q) (b := .int .i64 q') (by rw [a1]; decide) (by rw [b1, c1]; kernel_rfl) (by rw [b1, c1]; kernel_rfl) (by rw [b1]; exact run_equalIn_int w d _ .i64 .i64 _ _ Try.underlying3) (s := true) (by simp [Op.eqFields]))
  rw [Bool.and_true] at this
  exact this
set_option maxHeartbeats 2000000 in
theorem eqN (n m : NL) (w : World) : (Op.equalIn 10000 36 (.agg n.cs.toArray) (.agg m.cs.toArray)).run Try.prog w = .ok (n.eqb m) w := by
  show (Op.equalIn (9999 + 1) 36 (.agg n.cs.toArray) (.agg m.cs.toArray)).run Try.prog w = _
  rw [run_equalIn_struct w 9999 _ _ _ (by kernel_rfl) (by kernel_rfl)]
  obtain ⟨f0, r0, e0, a0, b0, c0, h0⟩ := unmap fields_are
  obtain ⟨f1, r1, e1, a1, b1, c1, h1⟩ := unmap h0
  obtain ⟨f2, r2, e2, a2, b2, c2, h2⟩ := unmap h1
  obtain ⟨f3, r3, e3, a3, b3, c3, h3⟩ := unmap h2
  obtain ⟨f4, r4, e4, a4, b4, c4, h4⟩ := unmap h3
  obtain ⟨f5, r5, e5, a5, b5, c5, h5⟩ := unmap h4
  obtain ⟨f6, r6, e6, a6, b6, c6, h6⟩ := unmap h5
  obtain ⟨f7, r7, e7, a7, b7, c7, h7⟩ := unmap h6
  obtain ⟨f8, r8, e8, a8, b8, c8, h8⟩ := unmap h7
  obtain ⟨f9, r9, e9, a9, b9, c9, h9⟩ := unmap h8
  obtain ⟨f10, r10, e10, a10, b10, c10, h10⟩ := unmap h9
  obtain rfl := unmap0 h10
  rw [e0, e1, e2, e3, e4, e5, e6, e7, e8, e9, e10]
  exact (eqF (s := _) (a := .int .i64 n.k) (b := .int .i64 m.k) (r := (n.k == m.k)) (by rw [a0]; decide) (by rw [b0, c0]; kernel_rfl) (by rw [b0, c0]; kernel_rfl) (by rw [b0]; exact run_equalIn_int w 9998 _ .i64 .i64 _ _ Try.underlying3)
    (eqF (s := _) (a := .int .u64 n.rd) (b := .int .u64 m.rd) (r := (n.rd == m.rd)) (by rw [a1]; decide) (by rw [b1, c1]; kernel_rfl) (by rw [b1, c1]; kernel_rfl) (by rw [b1]; exact run_equalIn_int w 9998 _ .u64 .u64 _ _ Try.underlying27)
    (eqF (s := _) (a := .agg (esi n.e).toArray) (b := .agg (esi m.e).toArray) (r := eqE n.e m.e) (by rw [a2]; decide) (by rw [b2, c2]; kernel_rfl) (by rw [b2, c2]; kernel_rfl) (by rw [b2]; exact eqE_at 9997 n.e m.e w)
    (eqF (s := _) (a := .int .u32 n.t) (b := .int .u32 m.t) (r := (n.t == m.t)) (by rw [a3]; decide) (by rw [b3, c3]; kernel_rfl) (by rw [b3, c3]; kernel_rfl) (by rw [b3]; exact run_equalIn_int w 9998 _ .u32 .u32 _ _ Try.underlying29)
    (eqF (s := _) (a := .int .u64 n.m) (b := .int .u64 m.m) (r := (n.m == m.m)) (by rw [a4]; decide) (by rw [b4, c4]; kernel_rfl) (by rw [b4, c4]; kernel_rfl) (by rw [b4]; exact run_equalIn_int w 9998 _ .u64 .u64 _ _ Try.underlying28)
    (eqF (s := _) (a := .int .u32 n.ip) (b := .int .u32 m.ip) (r := (n.ip == m.ip)) (by rw [a5]; decide) (by rw [b5, c5]; kernel_rfl) (by rw [b5, c5]; kernel_rfl) (by rw [b5]; exact run_equalIn_int w 9998 _ .u32 .u32 _ _ Try.underlying32)
    (eqF (s := _) (a := .bool n.h) (b := .bool m.h) (r := (n.h == m.h)) (by rw [a6]; decide) (by rw [b6, c6]; kernel_rfl) (by rw [b6, c6]; kernel_rfl) (by rw [b6]; exact run_equalIn_bool' w 9998 _ _ _ Try.underlying4)
    (eqF (s := _) (a := .agg #[.int .u32 n.pi, .int .i64 n.pn]) (b := .agg #[.int .u32 m.pi, .int .i64 m.pn]) (r := ((n.pi == m.pi) && (n.pn == m.pn))) (by rw [a7]; decide) (by rw [b7, c7]; kernel_rfl) (by rw [b7, c7]; kernel_rfl) (by rw [b7]; exact eqP 9997 n.pi n.pn m.pi m.pn w)
    (eqF (s := _) (a := .int .u32 n.g) (b := .int .u32 m.g) (r := (n.g == m.g)) (by rw [a8]; decide) (by rw [b8, c8]; kernel_rfl) (by rw [b8, c8]; kernel_rfl) (by rw [b8]; exact run_equalIn_int w 9998 _ .u32 .u32 _ _ Try.underlying32)
    (eqF (s := _) (a := .int .u32 n.l) (b := .int .u32 m.l) (r := (n.l == m.l)) (by rw [a9]; decide) (by rw [b9, c9]; kernel_rfl) (by rw [b9, c9]; kernel_rfl) (by rw [b9]; exact run_equalIn_int w 9998 _ .u32 .u32 _ _ Try.underlying29)
    (eqF (s := true) (a := .int .u32 n.l2) (b := .int .u32 m.l2) (r := (n.l2 == m.l2)) (by rw [a10]; decide) (by rw [b10, c10]; kernel_rfl) (by rw [b10, c10]; kernel_rfl) (by rw [b10]; exact run_equalIn_int w 9998 _ .u32 .u32 _ _ Try.underlying29)
    (by simp [Op.eqFields]))))))))))))
end Go.Proofs.Ytejcclcckgdbgaa
