/- AddrTexts: what its calls return, together; laws of its walk. No condition. -/
import Derived.Test.YtipmfcbpkbkceaaDoorTxm
import Derived.Laws.StructEq
import Derived.Laws.BitsAllLaws
import Derived.Laws.Tables
namespace Go.Proofs.YtipmfcbpkbkceaaDoor
open Go.RowKit Go.Shelf Go.Sort
set_option linter.unusedVariables false
set_option linter.unusedSimpArgs false
set_option maxRecDepth 100000

def eqE (e f : Nat → Int) : Bool := (List.range' 0 10 1).all fun i => e i == f i
theorem run_part_esi (e : Nat → Int) (W : World) : ∀ i, i < 10 → (part 5 #[.int .u8 (e 0), .int .u8 (e 1), .int .u8 (e 2), .int .u8 (e 3), .int .u8 (e 4), .int .u8 (e 5), .int .u8 (e 6), .int .u8 (e 7), .int .u8 (e 8), .int .u8 (e 9)] (i * 1)).run Tryd.prog W = .ok (.int .u8 (e i)) W := by
  intro i hi
  rcases i with _ | _ | _ | _ | _ | _ | _ | _ | _ | _ | i
  all_goals first | omega | exact (by as_aux_lemma => kernel_rfl)
theorem run_eqE (e f : Nat → Int) (W : World) :
    Sem.run Tryd.prog (Op.equalIn 10000 29 (.agg #[.int .u8 (e 0), .int .u8 (e 1), .int .u8 (e 2), .int .u8 (e 3), .int .u8 (e 4), .int .u8 (e 5), .int .u8 (e 6), .int .u8 (e 7), .int .u8 (e 8), .int .u8 (e 9)]) (.agg #[.int .u8 (f 0), .int .u8 (f 1), .int .u8 (f 2), .int .u8 (f 3), .int .u8 (f 4), .int .u8 (f 5), .int .u8 (f 6), .int .u8 (f 7), .int .u8 (f 8), .int .u8 (f 9)])) W = .ok (eqE e f) W := by
  have hsz : ∀ w, (sizeOf 5).run Tryd.prog w = .ok 1 w := fun w => by kernel_rfl
  have hx := run_part_esi e
  have hy := run_part_esi f
  unfold eqE
  generalize (#[.int .u8 (e 0), .int .u8 (e 1), .int .u8 (e 2), .int .u8 (e 3), .int .u8 (e 4), .int .u8 (e 5), .int .u8 (e 6), .int .u8 (e 7), .int .u8 (e 8), .int .u8 (e 9)] : Array Value) = xs at hx ⊢
  generalize (#[.int .u8 (f 0), .int .u8 (f 1), .int .u8 (f 2), .int .u8 (f 3), .int .u8 (f 4), .int .u8 (f 5), .int .u8 (f 6), .int .u8 (f 7), .int .u8 (f 8), .int .u8 (f 9)] : Array Value) = ys at hy ⊢
  show Sem.run Tryd.prog (Op.equalIn (9998 + 2) 29 (.agg xs) (.agg ys)) W = _
  rw [Op.equalIn]
  simp only [Sem.run_bind, run_underlying Tryd.underlying29, Result.andThen_ok, hsz, Std.Legacy.Range.forIn_eq_forIn_range', Std.Legacy.Range.size, Nat.sub_zero, Nat.add_sub_cancel, Nat.div_one]
  have hl : ∀ i ∈ List.range' 0 10 1, i < 10 := fun i hi => by simpa using (List.mem_range'_1.1 hi).2
  generalize List.range' 0 10 1 = l at hl ⊢
  induction l with
  | nil => simp
  | cons i l ih =>
    have hi : i < 10 := hl i (by simp)
    have pe : (Op.equalIn (9998 + 1) 5 (.int .u8 (e i)) (.int .u8 (f i))).run Tryd.prog W = .ok (e i == f i) W :=
      run_equalIn_int W 9998 5 .u8 .u8 _ _ Tryd.underlying5
    simp only [List.forIn_cons, Sem.run_bind, hx W i hi, hy W i hi, pe, Result.andThen_ok, List.all_cons]
    cases hb : (e i == f i)
    · simp
    · simp only [Bool.not_true, Bool.false_eq_true, if_false, Sem.run_pure, Result.andThen_ok, Bool.true_and]
      exact ih fun j hj => hl j (by simp [hj])
/-- The cells of an identifier. -/
def eC (e : Nat → Int) : Array Value := #[.int .u8 (e 0), .int .u8 (e 1), .int .u8 (e 2), .int .u8 (e 3), .int .u8 (e 4), .int .u8 (e 5), .int .u8 (e 6), .int .u8 (e 7), .int .u8 (e 8), .int .u8 (e 9)]
theorem eq_same (e : Nat → Int) (W : World) : Sem.run Tryd.prog (Op.equalIn 10000 29 (.agg (eC e)) (.agg (eC e))) W = .ok true W := by
  have := run_eqE e e W
  rwa [show eqE e e = true by simp [eqE]] at this
theorem eqF {d : Nat} {xs ys : Array Value} {w : World} {f : Field} {fs : List Field} {a b : Value} {r s : Bool} (hn : f.name ≠ "_") (ha : (part f.type xs f.offset).run Tryd.prog w = .ok a w) (hb : (part f.type ys f.offset).run Tryd.prog w = .ok b w)
    (hr : (Op.equalIn d f.type a b).run Tryd.prog w = .ok r w) (hs : (Op.eqFields d xs ys fs).run Tryd.prog w = .ok s w) : (Op.eqFields d xs ys (f :: fs)).run Tryd.prog w = .ok (r && s) w := by
  simp only [Op.eqFields, if_pos hn, Sem.run_bind, ha, hb, hr, Result.andThen_ok]
  cases r
  · simp
  · simpa using hs
theorem fieldsP_are : (Tryd.prog.fieldsOf 27).toList.map (fun f => (f.name, f.type, f.offset)) = [("IP", 23, 0), ("Len", 3, 1)] := by kernel_rfl
theorem unmap {l : List Field} {x : String × TypeId × Nat} {r : List (String × TypeId × Nat)} (h : l.map (fun f => (f.name, f.type, f.offset)) = x :: r) : ∃ f fs, l = f :: fs ∧ f.name = x.1 ∧ f.type = x.2.1 ∧ f.offset = x.2.2 ∧ fs.map (fun f => (f.name, f.type, f.offset)) = r := by
  cases l with
  | nil => cases h
  | cons f fs =>
    simp only [List.map_cons, List.cons.injEq] at h
    exact ⟨f, fs, rfl, by rw [← h.1], by rw [← h.1], by rw [← h.1], h.2⟩
theorem unmap0 {l : List Field} (h : l.map (fun f => (f.name, f.type, f.offset)) = []) : l = [] := by simpa using h
theorem eqPfx (p q p' q' : Int) (w : World) : (Op.equalIn 10000 27 (.agg #[.int .u32 p, .int .i64 q]) (.agg #[.int .u32 p', .int .i64 q'])).run Tryd.prog w = .ok ((p == p') && (q == q')) w := by
  show (Op.equalIn (9999 + 1) 27 (.agg #[.int .u32 p, .int .i64 q]) (.agg #[.int .u32 p', .int .i64 q'])).run Tryd.prog w = _
  rw [run_equalIn_struct w 9999 _ _ _ (by kernel_rfl) (by kernel_rfl)]
  obtain ⟨f0, r0, e0, a0, b0, c0, h0⟩ := unmap fieldsP_are
  obtain ⟨f1, r1, e1, a1, b1, c1, h1⟩ := unmap h0
  obtain rfl := unmap0 h1
  rw [e0, e1]
  have := eqF (d := 9999) (xs := #[.int .u32 p, .int .i64 q]) (ys := #[.int .u32 p', .int .i64 q']) (w := w) (f := f0) (fs := [f1]) (a := .int .u32 p) (b := .int .u32 p') (r := p == p') (s := (q == q') && true) (by rw [a0]; decide) (by rw [b0, c0]; kernel_rfl) (by rw [b0, c0]; kernel_rfl) (by rw [b0]; exact run_equalIn_int w 9998 _ .u32 .u32 _ _ Tryd.underlying23)
    (eqF (a := .int .i64 q) (b := .int .i64 q') (by rw [a1]; decide) (by rw [b1, c1]; kernel_rfl) (by rw [b1, c1]; kernel_rfl) (by rw [b1]; exact run_equalIn_int w 9998 _ .i64 .i64 _ _ Tryd.underlying3) (s := true) (by simp [Op.eqFields]))
  rw [Bool.and_true] at this
  exact this
theorem eq_pfx (p q : Int) (w : World) : (Op.equalIn 10000 27 (.agg #[.int .u32 p, .int .i64 q]) (.agg #[.int .u32 p, .int .i64 q])).run Tryd.prog w = .ok true w := by
  have := eqPfx p q p q w
  simpa using this

/-- A block that holds these cells. -/
def Bk (w : World) (b : Nat) (ty : TypeId) (cs : Array Value) : Prop := w.heap[b]? = some (.cells cs ty (0, 0))
theorem Bk.lt {w : World} {b : Nat} {ty : TypeId} {cs : Array Value} (h : Bk w b ty cs) : b < w.heap.size := (Array.getElem?_eq_some_iff.1 h).1
theorem Bk.below {w w' : World} {b : Nat} {ty : TypeId} {cs : Array Value} (h : Bk w b ty cs) (k : Below w.heap.size w w') : Bk w' b ty cs := (k.block b h.lt).trans h
theorem Bk.cell {w : World} {b : Nat} {ty : TypeId} {cs : Array Value} (h : Bk w b ty cs) (j : Nat) : w.cell? ⟨b, j, none⟩ = cs[j]? := cell_of_row w b j cs ty (0, 0) h
theorem setRow_heap' (w : World) (b : Nat) (old cs : Array Value) (t : TypeId) (h : Bk w b t old) : Bk (w.setRow b cs) b t cs := by
  have h' : w.heap[b]? = some (.cells old t (0, 0)) := h
  unfold Bk
  simp [World.setRow, Array.getElem?_modify, h']
section
variable {ops : Array Oper} {rest : List Oper} {o : Oper} {a : Act} {w : World} {Q : Exit → Act → World → Prop}
theorem run_boxA (w : World) (ty : TypeId) (cs : Array Value) : (Instr.box ty (.agg cs)).run Tryd.prog w = .ok (.pointer (some ⟨w.heap.size, 0, none⟩)) (w.alloc (.cells cs ty)) := rfl
theorem at_boxA (hgd : o.guard = none) (ty : TypeId) (x : Operand) (ho : o.op = .box ty x) (cs : Array Value) (hx : a.eval x = .agg cs)
    (h : ∀ w', Bk w' w.heap.size ty cs → Below w.heap.size w w' → w'.heap.size = w.heap.size + 1 → wpList Tryd.prog ops Q rest (a.put o.dst (.pointer (some ⟨w.heap.size, 0, none⟩))) w') : wpList Tryd.prog ops Q (o :: rest) a w :=
  wpList_plain hgd fun _ hK => by
    unfold Oper.wp execOp
    simp only [ho, hx, Sem.run_bind, run_boxA, Result.andThen_ok, Sem.run_pure]
    exact hK _ _ (h _ (World.alloc_heap_new w _) ((Below.refl _ _).alloc (Nat.le_refl _) _) (by simp))
def zE : Array Value := #[.int .u8 0, .int .u8 0, .int .u8 0, .int .u8 0, .int .u8 0, .int .u8 0, .int .u8 0, .int .u8 0, .int .u8 0, .int .u8 0]
def zP : Array Value := #[.int .u32 0, .int .i64 0]
theorem run_newE (w : World) : (Instr.alloc 29 true (.tuple #[])).run Tryd.prog w = .ok (.pointer (some ⟨w.heap.size, 0, none⟩)) (w.alloc (.cells zE 29)) := by kernel_rfl
theorem run_newP (w : World) : (Instr.alloc 27 true (.tuple #[])).run Tryd.prog w = .ok (.pointer (some ⟨w.heap.size, 0, none⟩)) (w.alloc (.cells zP 27)) := by kernel_rfl
theorem at_newE (hgd : o.guard = none) (ho : o.op = .alloc 29)
    (h : ∀ w', Bk w' w.heap.size 29 zE → Below w.heap.size w w' → w'.heap.size = w.heap.size + 1 → wpList Tryd.prog ops Q rest (a.put o.dst (.pointer (some ⟨w.heap.size, 0, none⟩))) w') : wpList Tryd.prog ops Q (o :: rest) a w :=
  wpList_plain hgd fun _ hK => by
    unfold Oper.wp execOp
    simp only [ho, Sem.run_bind, run_newE, Result.andThen_ok, Sem.run_pure]
    exact hK _ _ (h _ (World.alloc_heap_new w _) ((Below.refl _ w).alloc (Nat.le_refl _) _) (by simp))
theorem at_newP (hgd : o.guard = none) (ho : o.op = .alloc 27)
    (h : ∀ w', Bk w' w.heap.size 27 zP → Below w.heap.size w w' → w'.heap.size = w.heap.size + 1 → wpList Tryd.prog ops Q rest (a.put o.dst (.pointer (some ⟨w.heap.size, 0, none⟩))) w') : wpList Tryd.prog ops Q (o :: rest) a w :=
  wpList_plain hgd fun _ hK => by
    unfold Oper.wp execOp
    simp only [ho, Sem.run_bind, run_newP, Result.andThen_ok, Sem.run_pure]
    exact hK _ _ (h _ (World.alloc_heap_new w _) ((Below.refl _ w).alloc (Nat.le_refl _) _) (by simp))
theorem szE : (Tryd.prog.info? 29).map (·.size) = some 10 := by kernel_rfl
theorem szP : (Tryd.prog.info? 27).map (·.size) = some 2 := by kernel_rfl
theorem at_storeE (hgd : o.guard = none) (x y : Operand) (ho : o.op = .store 29 x y) (hd : o.dst = none) (b : Nat) (hx : a.eval x = .pointer (some ⟨b, 0, none⟩)) (e : Nat → Int) (hy : a.eval y = .agg (eC e)) (hb : Bk w b 29 zE)
    (h : ∀ w', Bk w' b 29 (eC e) → (∀ B, B ≤ b → Below B w w') → wpList Tryd.prog ops Q rest a w') : wpList Tryd.prog ops Q (o :: rest) a w :=
  wpList_store_row hgd _ x y ho b _ hx hy _ _ hb szE rfl (by simp [eC, Value.oneCell']) (by rw [hd]; exact h _ (setRow_heap' w b _ _ _ hb) fun B hB => ⟨rfl, rfl, rfl, by simp [World.setRow], fun i hi => by simp [World.setRow, Array.getElem?_modify]; omega⟩)
theorem at_storeP (hgd : o.guard = none) (x y : Operand) (ho : o.op = .store 27 x y) (hd : o.dst = none) (b : Nat) (hx : a.eval x = .pointer (some ⟨b, 0, none⟩)) (p q : Int) (hy : a.eval y = .agg #[.int .u32 p, .int .i64 q]) (hb : Bk w b 27 zP)
    (h : ∀ w', Bk w' b 27 #[.int .u32 p, .int .i64 q] → (∀ B, B ≤ b → Below B w w') → wpList Tryd.prog ops Q rest a w') : wpList Tryd.prog ops Q (o :: rest) a w :=
  wpList_store_row hgd _ x y ho b _ hx hy _ _ hb szP rfl (by simp [Value.oneCell']) (by rw [hd]; exact h _ (setRow_heap' w b _ _ _ hb) fun B hB => ⟨rfl, rfl, rfl, by simp [World.setRow], fun i hi => by simp [World.setRow, Array.getElem?_modify]; omega⟩)
theorem at_loadE (hgd : o.guard = none) (x : Operand) (ho : o.op = .load 29 x) (b : Nat) (hx : a.eval x = .pointer (some ⟨b, 0, none⟩)) (e : Nat → Int) (hb : Bk w b 29 (eC e))
    (h : wpList Tryd.prog ops Q rest (a.put o.dst (.agg (eC e))) w) : wpList Tryd.prog ops Q (o :: rest) a w :=
  wpList_load_row hgd _ x ho b hx _ _ _ _ hb Tryd.underlying29 rfl szE h
theorem at_loadP (hgd : o.guard = none) (x : Operand) (ho : o.op = .load 27 x) (b : Nat) (hx : a.eval x = .pointer (some ⟨b, 0, none⟩)) (p q : Int) (hb : Bk w b 27 #[.int .u32 p, .int .i64 q])
    (h : wpList Tryd.prog ops Q rest (a.put o.dst (.agg #[.int .u32 p, .int .i64 q])) w) : wpList Tryd.prog ops Q (o :: rest) a w :=
  wpList_load_row hgd _ x ho b hx _ _ _ _ hb Tryd.underlying27 rfl szP h
end
theorem run_ldE {w : World} {b : Nat} {e : Nat → Int} (hb : Bk w b 29 (eC e)) : (Instr.loadAt 29 (.pointer (some ⟨b, 0, none⟩))).run Tryd.prog w = .ok (.agg (eC e)) w := by
  simp only [Instr.loadAt, Instr.sureAddr, Sem.run_bind, Sem.run_pure, Result.andThen_ok, run_loadVar_row w b _ _ _ _ _ hb Tryd.underlying29 rfl szE]
theorem run_ldP {w : World} {b : Nat} {p q : Int} (hb : Bk w b 27 #[.int .u32 p, .int .i64 q]) : (Instr.loadAt 27 (.pointer (some ⟨b, 0, none⟩))).run Tryd.prog w = .ok (.agg #[.int .u32 p, .int .i64 q]) w := by
  simp only [Instr.loadAt, Instr.sureAddr, Sem.run_bind, Sem.run_pure, Result.andThen_ok, run_loadVar_row w b _ _ _ _ _ hb Tryd.underlying27 rfl szP]

/-! ### What the calls return -/
theorem ipL_len (m : Int) : (jn 46 ((ipL m).map Lib.decDigits)).length < 4294967281 := by
  have h := ipStr_size m
  rw [ipStr_is] at h
  have : (jn 46 ((ipL m).map Lib.decDigits)).length ≤ 16 := by simpa [ByteArray.size] using h
  omega
theorem ip_calls (m : Int) (h0 : 0 ≤ m) (h1 : m < 4294967296) (w : World) (hV : Vars w) : Calls Tryd.prog 5 #[.string (ipStr m)] w fun e w' => e = .returned (.tuple #[.int .u32 m, .int .i64 0]) ∧ Below w.heap.size w w' := by
  have h := parseIP_is _ (ipL_len m) w hV
  rw [ip_back, ← ipStr_is] at h
  simp only [numResIP] at h
  rwa [numB_ip m h0 h1] at h
theorem jn_len (c : UInt8) (k : Nat) : ∀ gs : List (List UInt8), (∀ g ∈ gs, g.length ≤ k) → (jn c gs).length ≤ gs.length * (k + 1)
  | [], _ => by simp [jn]
  | [g], h => by
    have := h g (by simp)
    show g.length ≤ 1 * (k + 1)
    omega
  | g :: g' :: r, h => by
    have ih := jn_len c k (g' :: r) fun x hx => h x (List.mem_cons_of_mem _ hx)
    have := h g (by simp)
    show (g ++ c :: jn c (g' :: r)).length ≤ ((g' :: r).length + 1) * (k + 1)
    rw [List.length_append, List.length_cons, Nat.add_mul, Nat.one_mul]
    omega
theorem hexJ_len (l : List Nat) : (jn 58 (l.map txH)).length ≤ l.length * 3 := by
  have := jn_len 58 2 (l.map txH) fun g hg => by
    obtain ⟨b, _, rfl⟩ := List.mem_map.1 hg
    exact Nat.le_refl _
  simpa using this
theorem esi_calls (e : Nat → Int) (he : ∀ j, 0 ≤ e j ∧ e j < 256) (w : World) (hV : Vars w) : Calls Tryd.prog 7 #[.string (esiStr e)] w fun r w' => r = .returned (.tuple #[.agg (eC e), .int .i64 0]) ∧ Below w.heap.size w w' := by
  have hl := hexJ_len (esiL e)
  have h := parseESI_is (jn 58 ((esiL e).map txH)) (by simp [esiL] at hl ⊢; omega) w hV
  rw [esi_back e he, ← esiStr_is] at h
  have : esiRes (some (esiL e)) = .tuple #[.agg (eC e), .int .i64 0] := by
    have t : ∀ j, (((e j).toNat : Nat) : Int) = e j := fun j => Int.toNat_of_nonneg (he j).1
    simp [esiRes, esiL, byteV, eC, t]
  rwa [this] at h
theorem mac_calls (m : Int) (h0 : 0 ≤ m) : ∃ T E C I, (∀ w, Tabs w → Calls Tryd.prog 9 #[.int .u64 m] w fun e w' => e = .returned (.tuple #[.string T, .int .i64 E]) ∧ Below w.heap.size w w') ∧ (∀ w, Vars w → Calls Tryd.prog 10 #[.string T] w fun e w' => e = .returned (.tuple #[.int .u64 C, .int .i64 I]) ∧ Below w.heap.size w w') ∧ ((m ≤ 281474976710655 ∧ E = 0 ∧ C = m ∧ I = 0) ∨ (¬ m ≤ 281474976710655 ∧ E = 2)) := by
  by_cases h1 : m ≤ 281474976710655
  · refine ⟨macStr m, 0, m, 0, fun w hT => macText_yes m h0 h1 w hT, fun w hV => ?_, .inl ⟨h1, rfl, rfl, rfl⟩⟩
    have hl := hexJ_len (macL m)
    have h := parseMAC_is (jn 58 ((macL m).map txH)) (by simp [macL] at hl ⊢; omega) w hV
    rw [mac_back, ← macStr_is] at h
    simp only [numResMAC] at h
    rwa [numB_mac m h0 (by omega)] at h
  · refine ⟨⟨#[]⟩, 2, 0, 19, fun w hT => macText_no m h1 w, fun w hV => ?_, .inr ⟨h1, rfl⟩⟩
    have h := parseMAC_is [] (by decide) w hV
    rw [show groups 58 hexRd 6 [] = none by decide +kernel] at h
    exact h
theorem cln_bounds (a n : Int) (h0 : 0 ≤ a) (h1 : a < 4294967296) : 0 ≤ cln a n ∧ cln a n < 4294967296 ∧ cln (cln a n) n = cln a n := by
  have m0 : 0 ≤ msk n := Int.emod_nonneg _ (by decide)
  have m1 : msk n < 4294967296 := Int.emod_lt_of_pos _ (by decide)
  obtain ⟨A, rfl⟩ := Int.eq_ofNat_of_zero_le h0
  obtain ⟨M, hM⟩ := Int.eq_ofNat_of_zero_le m0
  have e : ∀ X : Nat, (X : Int) < 4294967296 → cln (X : Int) n = ((X &&& M : Nat) : Int) := fun X hX => by
    unfold cln
    rw [hM, u32_and _ _ (Int.natCast_nonneg _) hX (Int.natCast_nonneg _) (by omega), Int.toNat_natCast, Int.toNat_natCast]
  have hle : (A &&& M : Nat) ≤ A := Nat.and_le_left
  rw [e A h1]
  refine ⟨Int.natCast_nonneg _, by omega, ?_⟩
  rw [e (A &&& M) (by omega), Nat.and_assoc, Nat.and_self]
theorem pfxL_len (a : Int) (n : Nat) (hn : n ≤ 32) : (pfxL a n).length < 4294967281 := by
  have h := ipL_len a
  have h2 := ipStr_size a
  rw [ipStr_is] at h2
  have h3 : (jn 46 ((ipL a).map Lib.decDigits)).length ≤ 16 := by simpa [ByteArray.size] using h2
  have := digits_size n hn
  unfold pfxL
  rw [List.length_append, List.length_cons]
  omega
theorem pfx_calls (a n : Int) (h0 : 0 ≤ a) (h1 : a < 4294967296) : ∃ QA QN QE U, (∀ w, Calls Tryd.prog 11 #[.agg #[.int .u32 a, .int .i64 n]] w fun e w' => e = .returned (.tuple #[.agg #[.int .u32 QA, .int .i64 QN], .int .i64 QE]) ∧ Below w.heap.size w w') ∧ (∀ w, Tabs w → Calls Tryd.prog 12 #[.agg #[.int .u32 QA, .int .i64 QN]] w fun e w' => e = .returned (.tuple #[.string U, .int .i64 0]) ∧ Below w.heap.size w w') ∧ (∀ w, Vars w → Calls Tryd.prog 13 #[.string U] w fun e w' => e = .returned (.tuple #[.agg #[.int .u32 QA, .int .i64 QN], .int .i64 0]) ∧ Below w.heap.size w w') ∧ (((0 ≤ n ∧ n ≤ 32) ∧ QE = 0) ∨ ((¬ 0 ≤ n ∨ ¬ n ≤ 32) ∧ QE = 2)) := by
  cases hv : vld n with
  | true =>
    obtain ⟨v0, v1⟩ := vld_yes hv
    obtain ⟨b0, b1, b2⟩ := cln_bounds a n h0 h1
    obtain ⟨N, rfl⟩ := Int.eq_ofNat_of_zero_le v0
    refine ⟨cln a N, N, 0, pfxStr (cln a N) N, fun w => clean_yes a N hv w, fun w hT => prefixText_yes (cln a N) N b0 (by omega) w hT, fun w hV => ?_, .inl ⟨⟨v0, v1⟩, rfl⟩⟩
    have h := parsePrefix_is (pfxL (cln a N) N) (pfxL_len _ N (by omega)) w hV
    rw [pfx_back (cln a N) N b0 b1 (by omega) b2, ← pfxStr_is] at h
    exact h
  | false =>
    refine ⟨0, 0, 2, pfxStr 0 0, fun w => clean_no a n hv w, fun w hT => prefixText_yes 0 0 (by decide) (by decide) w hT, fun w hV => ?_, .inr ⟨?_, rfl⟩⟩
    have h := parsePrefix_is (pfxL 0 0) (pfxL_len _ 0 (by omega)) w hV
    rw [pfx_back 0 0 (by decide) (by decide) (by decide) (by decide +kernel), ← pfxStr_is] at h
    exact h
    by_cases q : 0 ≤ n
    · refine .inr fun r => ?_
      rw [show vld n = true by simp [vld, q, r]] at hv
      cases hv
    · exact .inl q
end Go.Proofs.YtipmfcbpkbkceaaDoor
