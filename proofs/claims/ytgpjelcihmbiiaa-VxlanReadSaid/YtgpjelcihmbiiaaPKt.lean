/- Frames as values; structs in memory by their blocks. No condition. -/
import Derived.Test.YtgpjelcihmbiiaaNWr
import Derived.Deep.MidRow
import Derived.Deep.Cut
namespace Go.Proofs.Ytgpjelcihmbiiaa
open Go.RowKit
set_option linter.unusedVariables false
set_option linter.unusedSimpArgs false
set_option maxRecDepth 100000

theorem Blk.range {w : World} {b : Nat} {t : TypeId} {cs : List Value} (h : Blk w b t cs) (k : Nat) (vs : List Value) (e : (cs.drop k).take vs.length = vs) : w.rangeAt b k vs := fun j v hv => by
  have hj : j < vs.length := (List.getElem?_eq_some_iff.1 hv).1
  refine h.cell (k + j) ?_
  rw [← e, List.getElem?_take_of_lt hj, List.getElem?_drop] at hv
  exact hv
theorem run_boxA (ty : TypeId) (cs : List Value) (w : World) : (Instr.box ty (.agg cs.toArray)).run Try.prog w = .ok (.pointer (some ⟨w.heap.size, 0, none⟩)) (w.alloc (.cells cs.toArray ty)) := rfl
theorem eqF {d : Nat} {xs ys : Array Value} {w : World} {f : Field} {fs : List Field} {a b : Value} {r s : Bool} (hn : f.name ≠ "_") (ha : (part f.type xs f.offset).run Try.prog w = .ok a w) (hb : (part f.type ys f.offset).run Try.prog w = .ok b w)
    (hr : (Op.equalIn d f.type a b).run Try.prog w = .ok r w) (hs : (Op.eqFields d xs ys fs).run Try.prog w = .ok s w) : (Op.eqFields d xs ys (f :: fs)).run Try.prog w = .ok (r && s) w := by
  simp only [Op.eqFields, if_pos hn, Sem.run_bind, ha, hb, hr, Result.andThen_ok]
  cases r
  · simp
  · simpa using hs
theorem unmap {l : List Field} {x : String × TypeId × Nat} {r : List (String × TypeId × Nat)} (h : l.map (fun f => (f.name, f.type, f.offset)) = x :: r) : ∃ f fs, l = f :: fs ∧ f.name = x.1 ∧ f.type = x.2.1 ∧ f.offset = x.2.2 ∧ fs.map (fun f => (f.name, f.type, f.offset)) = r := by
  cases l with
  | nil => cases h
  | cons f fs =>
    simp only [List.map_cons, List.cons.injEq] at h
    exact ⟨f, fs, rfl, by rw [← h.1], by rw [← h.1], by rw [← h.1], h.2⟩
theorem unmap0 {l : List Field} (h : l.map (fun f => (f.name, f.type, f.offset)) = []) : l = [] := by simpa using h

/-- A frame: its fields. -/
structure FL where
  s : Int
  d : Int
  k : Int
  op : Int
  sm : Int
  si : Int
  tm : Int
  ti : Int
  hs : Int
  hd : Int
  tt : Int
  pr : Int
  sp : Int
  dp : Int
  x : Int
def FL.ar (f : FL) : List Value := [.int .i64 f.op, .int .u64 f.sm, .int .u32 f.si, .int .u64 f.tm, .int .u32 f.ti]
def FL.ip (f : FL) : List Value := [.int .u32 f.hs, .int .u32 f.hd, .int .i64 f.tt, .int .i64 f.pr, .int .i64 f.sp, .int .i64 f.dp]
def FL.cs (f : FL) : List Value := [.int .u64 f.s, .int .u64 f.d, .int .i64 f.k, .int .i64 f.op, .int .u64 f.sm, .int .u32 f.si, .int .u64 f.tm, .int .u32 f.ti, .int .u32 f.hs, .int .u32 f.hd, .int .i64 f.tt, .int .i64 f.pr, .int .i64 f.sp, .int .i64 f.dp, .int .u64 f.x]
def FL.v (f : FL) : Value := .agg f.cs.toArray
def F0 : FL := ⟨0, 0, 0, 0, 0, 0, 0, 0, 0, 0, 0, 0, 0, 0, 0⟩
theorem szF : (Try.prog.info? 36).map (·.size) = some 15 := by kernel_rfl
theorem szA : (Try.prog.info? 34).map (·.size) = some 5 := by kernel_rfl
theorem szH : (Try.prog.info? 32).map (·.size) = some 6 := by kernel_rfl
theorem szHi : (Try.prog.info? 110).map (·.size) = some 6 := by kernel_rfl
theorem fieldsA : (Try.prog.fieldsOf 34).toList.map (fun f => (f.name, f.type, f.offset)) = [("Op", 3, 0), ("SenderMAC", 28, 1), ("SenderIP", 30, 2), ("TargetMAC", 28, 3), ("TargetIP", 30, 4)] := by kernel_rfl
theorem fieldsH : (Try.prog.fieldsOf 32).toList.map (fun f => (f.name, f.type, f.offset)) = [("Src", 30, 0), ("Dst", 30, 1), ("TTL", 3, 2), ("Proto", 3, 3), ("SrcPort", 3, 4), ("DstPort", 3, 5)] := by kernel_rfl
theorem fieldsF : (Try.prog.fieldsOf 36).toList.map (fun f => (f.name, f.type, f.offset)) = [("Src", 28, 0), ("Dst", 28, 1), ("Kind", 3, 2), ("ARP", 34, 3), ("IP", 32, 8), ("Data", 27, 14)] := by kernel_rfl
def FL.eqa (f g : FL) : Bool := (f.op == g.op) && ((f.sm == g.sm) && ((f.si == g.si) && ((f.tm == g.tm) && (f.ti == g.ti))))
def FL.eqh (f g : FL) : Bool := (f.hs == g.hs) && ((f.hd == g.hd) && ((f.tt == g.tt) && ((f.pr == g.pr) && ((f.sp == g.sp) && (f.dp == g.dp)))))
def FL.eqb (f g : FL) : Bool := (f.s == g.s) && ((f.d == g.d) && ((f.k == g.k) && (f.eqa g && (f.eqh g && (f.x == g.x)))))
theorem eqA (n : Nat) (f g : FL) (w : World) : (Op.equalIn (n + 2) 34 (.agg f.ar.toArray) (.agg g.ar.toArray)).run Try.prog w = .ok (f.eqa g) w := by
  rw [run_equalIn_struct w (n + 1) _ _ _ (by kernel_rfl) (by kernel_rfl)]
  obtain ⟨f0, r0, e0, a0, b0, c0, h0⟩ := unmap fieldsA
  obtain ⟨f1, r1, e1, a1, b1, c1, h1⟩ := unmap h0
  obtain ⟨f2, r2, e2, a2, b2, c2, h2⟩ := unmap h1
  obtain ⟨f3, r3, e3, a3, b3, c3, h3⟩ := unmap h2
  obtain ⟨f4, r4, e4, a4, b4, c4, h4⟩ := unmap h3
  obtain rfl := unmap0 h4
  rw [e0, e1, e2, e3, e4]
  have := eqF (d := n + 1) (xs := f.ar.toArray) (ys := g.ar.toArray) (w := w) (f := f0) (fs := [f1, f2, f3, f4]) (a := .int .i64 f.op) (b := .int .i64 g.op) (r := f.op == g.op) (s := (f.sm == g.sm) && ((f.si == g.si) && ((f.tm == g.tm) && ((f.ti == g.ti) && true)))) (by rw [a0]; decide) (by rw [b0, c0]; kernel_rfl) (by rw [b0, c0]; kernel_rfl) (by rw [b0]; exact run_equalIn_int w n _ .i64 .i64 _ _ Try.underlying3)
    (eqF (a := .int .u64 f.sm) (b := .int .u64 g.sm) (by rw [a1]; decide) (by rw [b1, c1]; kernel_rfl) (by rw [b1, c1]; kernel_rfl) (by rw [b1]; exact run_equalIn_int w n _ .u64 .u64 _ _ Try.underlying28)
    (eqF (a := .int .u32 f.si) (b := .int .u32 g.si) (by rw [a2]; decide) (by rw [b2, c2]; kernel_rfl) (by rw [b2, c2]; kernel_rfl) (by rw [b2]; exact run_equalIn_int w n _ .u32 .u32 _ _ Try.underlying30)
    (eqF (a := .int .u64 f.tm) (b := .int .u64 g.tm) (by rw [a3]; decide) (by rw [b3, c3]; kernel_rfl) (by rw [b3, c3]; kernel_rfl) (by rw [b3]; exact run_equalIn_int w n _ .u64 .u64 _ _ Try.underlying28)
    (eqF (a := .int .u32 f.ti) (b := .int .u32 g.ti) (by rw [a4]; decide) (by rw [b4, c4]; kernel_rfl) (by rw [b4, c4]; kernel_rfl) (by rw [b4]; exact run_equalIn_int w n _ .u32 .u32 _ _ Try.underlying30) (s := true) (by simp [Op.eqFields])))))
  rw [Bool.and_true] at this
  exact this
theorem eqH (n : Nat) (f g : FL) (w : World) : (Op.equalIn (n + 2) 32 (.agg f.ip.toArray) (.agg g.ip.toArray)).run Try.prog w = .ok (f.eqh g) w := by
  rw [run_equalIn_struct w (n + 1) _ _ _ (by kernel_rfl) (by kernel_rfl)]
  obtain ⟨f0, r0, e0, a0, b0, c0, h0⟩ := unmap fieldsH
  obtain ⟨f1, r1, e1, a1, b1, c1, h1⟩ := unmap h0
  obtain ⟨f2, r2, e2, a2, b2, c2, h2⟩ := unmap h1
  obtain ⟨f3, r3, e3, a3, b3, c3, h3⟩ := unmap h2
  obtain ⟨f4, r4, e4, a4, b4, c4, h4⟩ := unmap h3
  obtain ⟨f5, r5, e5, a5, b5, c5, h5⟩ := unmap h4
  obtain rfl := unmap0 h5
  rw [e0, e1, e2, e3, e4, e5]
  have := eqF (d := n + 1) (xs := f.ip.toArray) (ys := g.ip.toArray) (w := w) (f := f0) (fs := [f1, f2, f3, f4, f5]) (a := .int .u32 f.hs) (b := .int .u32 g.hs) (r := f.hs == g.hs) (s := (f.hd == g.hd) && ((f.tt == g.tt) && ((f.pr == g.pr) && ((f.sp == g.sp) && ((f.dp == g.dp) && true))))) (by rw [a0]; decide) (by rw [b0, c0]; kernel_rfl) (by rw [b0, c0]; kernel_rfl) (by rw [b0]; exact run_equalIn_int w n _ .u32 .u32 _ _ Try.underlying30)
    (eqF (a := .int .u32 f.hd) (b := .int .u32 g.hd) (by rw [a1]; decide) (by rw [b1, c1]; kernel_rfl) (by rw [b1, c1]; kernel_rfl) (by rw [b1]; exact run_equalIn_int w n _ .u32 .u32 _ _ Try.underlying30)
    (eqF (a := .int .i64 f.tt) (b := .int .i64 g.tt) (by rw [a2]; decide) (by rw [b2, c2]; kernel_rfl) (by rw [b2, c2]; kernel_rfl) (by rw [b2]; exact run_equalIn_int w n _ .i64 .i64 _ _ Try.underlying3)
    (eqF (a := .int .i64 f.pr) (b := .int .i64 g.pr) (by rw [a3]; decide) (by rw [b3, c3]; kernel_rfl) (by rw [b3, c3]; kernel_rfl) (by rw [b3]; exact run_equalIn_int w n _ .i64 .i64 _ _ Try.underlying3)
    (eqF (a := .int .i64 f.sp) (b := .int .i64 g.sp) (by rw [a4]; decide) (by rw [b4, c4]; kernel_rfl) (by rw [b4, c4]; kernel_rfl) (by rw [b4]; exact run_equalIn_int w n _ .i64 .i64 _ _ Try.underlying3)
    (eqF (a := .int .i64 f.dp) (b := .int .i64 g.dp) (by rw [a5]; decide) (by rw [b5, c5]; kernel_rfl) (by rw [b5, c5]; kernel_rfl) (by rw [b5]; exact run_equalIn_int w n _ .i64 .i64 _ _ Try.underlying3) (s := true) (by simp [Op.eqFields]))))))
  rw [Bool.and_true] at this
  exact this
theorem eqFr (n : Nat) (f g : FL) (w : World) : (Op.equalIn (n + 3) 36 f.v g.v).run Try.prog w = .ok (f.eqb g) w := by
  unfold FL.v
  rw [run_equalIn_struct w (n + 2) _ _ _ (by kernel_rfl) (by kernel_rfl)]
  obtain ⟨f0, r0, e0, a0, b0, c0, h0⟩ := unmap fieldsF
  obtain ⟨f1, r1, e1, a1, b1, c1, h1⟩ := unmap h0
  obtain ⟨f2, r2, e2, a2, b2, c2, h2⟩ := unmap h1
  obtain ⟨f3, r3, e3, a3, b3, c3, h3⟩ := unmap h2
  obtain ⟨f4, r4, e4, a4, b4, c4, h4⟩ := unmap h3
  obtain ⟨f5, r5, e5, a5, b5, c5, h5⟩ := unmap h4
  obtain rfl := unmap0 h5
  rw [e0, e1, e2, e3, e4, e5]
  have := eqF (d := n + 2) (xs := f.cs.toArray) (ys := g.cs.toArray) (w := w) (f := f0) (fs := [f1, f2, f3, f4, f5]) (a := .int .u64 f.s) (b := .int .u64 g.s) (r := f.s == g.s) (s := (f.d == g.d) && ((f.k == g.k) && (f.eqa g && (f.eqh g && ((f.x == g.x) && true))))) (by rw [a0]; decide) (by rw [b0, c0]; kernel_rfl) (by rw [b0, c0]; kernel_rfl) (by rw [b0]; exact run_equalIn_int w (n + 1) _ .u64 .u64 _ _ Try.underlying28)
    (eqF (a := .int .u64 f.d) (b := .int .u64 g.d) (by rw [a1]; decide) (by rw [b1, c1]; kernel_rfl) (by rw [b1, c1]; kernel_rfl) (by rw [b1]; exact run_equalIn_int w (n + 1) _ .u64 .u64 _ _ Try.underlying28)
    (eqF (a := .int .i64 f.k) (b := .int .i64 g.k) (by rw [a2]; decide) (by rw [b2, c2]; kernel_rfl) (by rw [b2, c2]; kernel_rfl) (by rw [b2]; exact run_equalIn_int w (n + 1) _ .i64 .i64 _ _ Try.underlying3)
    (eqF (a := .agg f.ar.toArray) (b := .agg g.ar.toArray) (by rw [a3]; decide) (by rw [b3, c3]; kernel_rfl) (by rw [b3, c3]; kernel_rfl) (by rw [b3]; exact eqA n f g w)
    (eqF (a := .agg f.ip.toArray) (b := .agg g.ip.toArray) (by rw [a4]; decide) (by rw [b4, c4]; kernel_rfl) (by rw [b4, c4]; kernel_rfl) (by rw [b4]; exact eqH n f g w)
    (eqF (a := .int .u64 f.x) (b := .int .u64 g.x) (by rw [a5]; decide) (by rw [b5, c5]; kernel_rfl) (by rw [b5, c5]; kernel_rfl) (by rw [b5]; exact run_equalIn_int w (n + 1) _ .u64 .u64 _ _ Try.underlying27) (s := true) (by simp [Op.eqFields]))))))
  rw [Bool.and_true] at this
  exact this
theorem neqA (f g : FL) (w : World) : (binOp .neq 34 (.agg f.ar.toArray) (.agg g.ar.toArray)).run Try.prog w = .ok (.bool (!(f.eqa g))) w := by
  have h2 : Sem.run Try.prog (Op.equal 34 (.agg f.ar.toArray) (.agg g.ar.toArray)) w = .ok (f.eqa g) w := eqA 9998 f g w
  simp [binOp, h2]
theorem neqH (f g : FL) (w : World) : (binOp .neq 32 (.agg f.ip.toArray) (.agg g.ip.toArray)).run Try.prog w = .ok (.bool (!(f.eqh g))) w := by
  have h2 : Sem.run Try.prog (Op.equal 32 (.agg f.ip.toArray) (.agg g.ip.toArray)) w = .ok (f.eqh g) w := eqH 9998 f g w
  simp [binOp, h2]
theorem eqlF (f g : FL) (w : World) : (binOp .eql 36 f.v g.v).run Try.prog w = .ok (.bool (f.eqb g)) w := by
  have h2 : Sem.run Try.prog (Op.equal 36 f.v g.v) w = .ok (f.eqb g) w := eqFr 9997 f g w
  unfold FL.v at h2 ⊢
  simp [binOp, h2]
theorem wp_cmp {o : Oper} {a : Act} {w : World} {K : Act → World → Prop} {Q : Exit → Act → World → Prop} (p : BinOp) (ty : TypeId) (x y : Operand) (ho : o.op = .binOp p ty x y ty) (u v : Value) (hx : a.eval x = u) (hy : a.eval y = v) (r : Bool)
    (hg : Sem.run Try.prog (eqGuard p ty x y u v) w = .ok () w) (hr : (binOp p ty u v).run Try.prog w = .ok (.bool r) w) (h : K (a.put o.dst (.bool r)) w) : o.wp Try.prog a w K Q := by
  unfold Oper.wp execOp
  simp only [ho, hx, hy, Sem.run_bind, hg, hr, Sem.run_pure, Result.andThen_ok]
  exact h
section
variable {ops : Array Oper} {rest : List Oper} {o : Oper} {a : Act} {w : World} {Q : Exit → Act → World → Prop}
theorem wpList_wanted (hw : Region.wanted o (yielded ops a.tmps) = true)
    (h : ∀ K : Act → World → Prop, (∀ a w, wpList Try.prog ops Q rest a w → K a w) → o.wp Try.prog a w K Q) : wpList Try.prog ops Q (o :: rest) a w :=
  wpList_step fun K hK => by rw [if_pos hw]; exact h K hK
theorem at_box (hgd : o.guard = none) (ty : TypeId) (x : Operand) (ho : o.op = .box ty x) (cs : List Value) (hx : a.eval x = .agg cs.toArray)
    (h : ∀ w', Blk w' w.heap.size ty cs → Below w.heap.size w w' → w'.heap.size = w.heap.size + 1 → wpList Try.prog ops Q rest (a.put o.dst (.pointer (some ⟨w.heap.size, 0, none⟩))) w') : wpList Try.prog ops Q (o :: rest) a w :=
  wpList_plain hgd fun _ hK => by
    unfold Oper.wp execOp
    simp only [ho, hx, Sem.run_bind, run_boxA, Result.andThen_ok, Sem.run_pure]
    exact hK _ _ (h _ (Blk.new w ty cs) ((Below.refl _ _).alloc (Nat.le_refl _) _) (by simp))
/-- A struct, or a part of one, loaded whole. -/
theorem at_mid (hw : Region.wanted o (yielded ops a.tmps) = true) (ty : TypeId) (x : Operand) (ho : o.op = .load ty x) (b k : Nat) (hx : a.eval x = .pointer (some ⟨b, k, none⟩)) {t : TypeId} {cs : List Value} (hb : Blk w b t cs) (vs : List Value) (he : (cs.drop k).take vs.length = vs) (d : TypeDesc)
    (hu : Try.prog.underlying ty = some d) (hd : d.isRow = true) (hi : (Try.prog.info? ty).map (·.size) = some vs.length)
    (h : wpList Try.prog ops Q rest (a.put o.dst (.agg vs.toArray)) w) : wpList Try.prog ops Q (o :: rest) a w :=
  wpList_wanted hw fun _ hK => wp_load_mid ty x ho b k hx vs d (hb.range k vs he) hu hd hi (hK _ _ h)
theorem at_cmp (hw : Region.wanted o (yielded ops a.tmps) = true) (p : BinOp) (ty : TypeId) (x y : Operand) (ho : o.op = .binOp p ty x y ty) (u v : Value) (hx : a.eval x = u) (hy : a.eval y = v) (r : Bool)
    (hg : Sem.run Try.prog (eqGuard p ty x y u v) w = .ok () w) (hr : (binOp p ty u v).run Try.prog w = .ok (.bool r) w) (h : wpList Try.prog ops Q rest (a.put o.dst (.bool r)) w) : wpList Try.prog ops Q (o :: rest) a w :=
  wpList_wanted hw fun _ hK => wp_cmp p ty x y ho u v hx hy r hg hr (hK _ _ h)
end
end Go.Proofs.Ytgpjelcihmbiiaa
