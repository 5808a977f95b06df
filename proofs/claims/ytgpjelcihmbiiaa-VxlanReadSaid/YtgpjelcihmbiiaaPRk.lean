/- Frames read: operations on structs in memory as laws of the walk; the beginning of a frame. No condition. -/
import Derived.Test.YtgpjelcihmbiiaaPBy
import Derived.Test.YtgpjelcihmbiiaaPSb
import Derived.Still
namespace Go.Proofs.Ytgpjelcihmbiiaa
open Go.RowKit Go.Sort
set_option linter.unusedVariables false
set_option linter.unusedSimpArgs false
set_option maxRecDepth 100000

theorem Seg.bytesIn {w : World} {a : Option Addr} {n c : Nat} {xs : List Int} (h : Seg w (.slice a n c) xs) : n = xs.length ∧ Lib.BytesIn w a n xs := by
  obtain ⟨a', c', e, hc, hx⟩ := h
  injection e with e1 e2 e3
  subst e1 e2
  refine ⟨rfl, fun h0 => ?_⟩
  obtain ⟨b, o, rfl, -⟩ := hx 0 h0
  refine ⟨b, o, rfl, fun i hi => ?_⟩
  obtain ⟨b', o', e, hcell⟩ := hx i hi
  injection e with e
  injection e with e1 e2
  subst e1 e2
  exact hcell
theorem bytesOf_eq {xs ys : List Int} (hx : Oct xs) (hy : Oct ys) : (Lib.bytesOf xs == Lib.bytesOf ys) = decide (xs = ys) := by
  rw [Bool.eq_iff_iff, beq_iff_eq, decide_eq_true_eq]
  constructor
  · intro h
    have hl : xs.length = ys.length := by simpa [Lib.bytesOf] using congrArg List.length h
    apply List.ext_getElem hl
    intro i h1 h2
    have h3 := congrArg (fun l : List UInt8 => l[i]?) h
    simp only [Lib.bytesOf, List.getElem?_map, List.getElem?_eq_getElem h1, List.getElem?_eq_getElem h2, Option.map_some, Option.some.injEq] at h3
    have a1 := hx _ (List.getElem_mem h1)
    have a2 := hy _ (List.getElem_mem h2)
    have h4 := congrArg UInt8.toNat h3
    simp only [UInt8.toNat_ofNat'] at h4
    omega
  · rintro rfl
    rfl
theorem equal_is {w : World} {u v : Value} {xs ys : List Int} (hu : Seg w u xs) (hv : Seg w v ys) (hx : Oct xs) (hy : Oct ys) : Calls Try.prog 48 #[u, v] w fun e w' => e = .returned (.bool (decide (xs = ys))) ∧ w' = w := by
  obtain ⟨a, c, rfl, h2⟩ := hu
  obtain ⟨a', c', rfl, h2'⟩ := hv
  have := Try.bytes_Equal_all a a' xs.length c ys.length c' xs ys w rfl rfl (Seg.bytesIn ⟨a, c, rfl, h2⟩).2 (Seg.bytesIn ⟨a', c', rfl, h2'⟩).2
  rw [bytesOf_eq hx hy] at this
  exact this

theorem be_cons (x : Int) (l : List Int) : ∀ acc : Nat, (x :: l).foldl (fun a x => a * 256 + x.toNat) acc = l.foldl (fun a x => a * 256 + x.toNat) (acc * 256 + x.toNat) := fun _ => rfl
theorem fold_enc (k n : Nat) : ∀ acc : Nat, (enc k n).foldl (fun a x => a * 256 + x.toNat) acc = acc * 256 ^ k + n % 256 ^ k := by
  induction k with
  | zero => intro acc; simp [enc, Nat.mod_one]
  | succ k ih =>
    intro acc
    show ((((n / 256 ^ k % 256 : Nat) : Int) :: enc k n).foldl _ acc) = _
    rw [be_cons, ih]
    rw [show ((n / 256 ^ k % 256 : Nat) : Int).toNat = n / 256 ^ k % 256 from rfl, Nat.pow_succ, Nat.mod_mul, Nat.add_mul, Nat.mul_assoc]
    rw [Nat.mul_comm 256 (256 ^ k), Nat.mul_comm (n / 256 ^ k % 256) (256 ^ k)]
    omega
theorem be_enc (k n : Nat) (h : n < 256 ^ k) : be (enc k n) = n := by
  unfold be
  rw [fold_enc, Nat.mod_eq_of_lt h]
  omega

/-- The reader stands before these octets, without a fault. -/
def At (R : RS) (l : List Int) : Prop := R.er = 0 ∧ R.n ≤ R.xs.length ∧ R.xs.drop R.n = l
theorem At.ok {R : RS} {a b : List Int} (h : At R (a ++ b)) (k : Int) (hk : (a.length : Int) = k) : R.ok k := by
  obtain ⟨h1, h2, h3⟩ := h
  have := congrArg List.length h3
  simp only [List.length_drop, List.length_append] at this
  exact ⟨h1, by omega, by omega⟩
theorem At.part {R : RS} {a b : List Int} (h : At R (a ++ b)) (k : Int) (hk : (a.length : Int) = k) : R.part k = a := by
  unfold RS.part
  rw [if_pos (h.ok k hk), h.2.2, ← hk]
  simp
theorem At.next {R : RS} {a b : List Int} (h : At R (a ++ b)) (k : Int) (hk : (a.length : Int) = k) : At (R.next k) b := by
  have ho := h.ok k hk
  unfold RS.next
  rw [if_pos ho]
  obtain ⟨h1, h2, h3⟩ := h
  have := congrArg List.length h3
  simp only [List.length_drop, List.length_append] at this
  refine ⟨h1, ?_, ?_⟩
  · show R.n + k.toNat ≤ R.xs.length
    omega
  · show R.xs.drop (R.n + k.toNat) = b
    rw [← List.drop_drop, h3, ← hk]
    simp
theorem At.over {R : RS} (h : At R []) (k : Int) (hk : 0 < k) : R.part k = [] := by
  obtain ⟨h1, h2, h3⟩ := h
  have := congrArg List.length h3
  simp only [List.length_drop, List.length_nil] at this
  unfold RS.part
  rw [if_neg (fun q => by have := q.2.2; omega)]
theorem At.num {R : RS} {b : List Int} {k : Nat} {x : Int} (h : At R (enc k x.toNat ++ b)) (h0 : 0 ≤ x) (h1 : x < 256 ^ k) (k' : Int) (hk : (k : Int) = k') : ((be (R.part k') : Nat) : Int) = x := by
  rw [h.part k' (by rw [enc_length]; exact hk), be_enc _ _ (by
    have : (x.toNat : Int) < ((256 ^ k : Nat) : Int) := by rw [Int.toNat_of_nonneg h0]; simpa using h1
    exact Int.ofNat_lt.1 this)]
  omega
theorem At.skip {R : RS} {b : List Int} {k m : Nat} (h : At R (enc k m ++ b)) (k' : Int) (hk : (k : Int) = k') : At (R.next k') b := h.next k' (by rw [enc_length]; exact hk)

theorem Rdr.but {w w' : World} {rb b : Nat} {R : RS} {t : TypeId} {cs : List Value} (h : Rdr w rb R) (k : But w.heap.size b w w') (hb : Blk w b t cs) (h1 : t ≠ 132) (h2 : t ≠ 5) : Rdr w' rb R := by
  obtain ⟨⟨v, hr, hd⟩, r⟩ := h
  exact ⟨⟨v, k.blk hr hr.lt (fun e => hr.ne hb (fun q => h1 q.symm) e), hd.but k hb h2⟩, r⟩
theorem Rdr.keep {w w' : World} {rb b : Nat} {R : RS} {t : TypeId} {cs : List Value} (h : Rdr w rb R) (k : But w.heap.size rb w w') (hb : Blk w b t cs) (h1 : t ≠ 132) : Blk w' b t cs := by
  obtain ⟨⟨v, hr, hd⟩, r⟩ := h
  exact k.blk hb hb.lt (fun e => hb.ne hr h1 e)
theorem Dat.of_below {B : Nat} {w : World} {v : Value} {xs : List Int} (h : DatB B w v xs) : Seg w v xs := h.dat.seg
/-- Behind an operation that writes block b. -/
structure Wrote (b : Nat) (t : TypeId) (w w' : World) (cs : List Value) : Prop where
  blk : Blk w' b t cs
  but : But w.heap.size b w w'
  size : w'.heap.size = w.heap.size
theorem Wrote.below {b : Nat} {t : TypeId} {w0 w w' : World} {cs : List Value} (g : Wrote b t w w' cs) (k : Below w0.heap.size w0 w) (hb : w0.heap.size ≤ b) : Below w0.heap.size w0 w' :=
  But.below k g.but hb k.size
theorem set_run (w : World) (ty : TypeId) (b o : Nat) (u : Value) (hc : u.cells = #[u]) (h1 : u.oneCell' = true) (hi : (Try.prog.info? ty).map (·.size) = some 1) (hx : (w.cell? ⟨b, o, none⟩).isSome = true) (hf : w.frozen? ⟨b, o, none⟩ = false) :
    (Instr.storeAt ty (.pointer (some ⟨b, o, none⟩)) u).run Try.prog w = .ok () (w.setCell ⟨b, o, none⟩ u) := by
  have := run_storeCells_cells (P := Try.prog) b o [u] 0 w (fun j hj => by obtain rfl : j = 0 := by simpa using hj
                                                                           exact hx) (fun j hj => by obtain rfl : j = 0 := by simpa using hj
                                                                                                     exact hf) (fun v hv => by obtain rfl : v = u := by simpa using hv
                                                                                                                               exact h1)
  cases hq : Try.prog.info? ty with
  | none => simp [hq] at hi
  | some i =>
    have hs : i.size = 1 := by simpa [hq] using hi
    simp only [Nat.add_zero] at this
    simp only [Instr.storeAt, Instr.sureAddr, Sem.run_bind, Sem.run_pure, Result.andThen_ok]
    simp [storeVar, sizeOf, typeInfo, hq, hc, hs, this, World.setCells]
def FZ : List Value := [.int .i64 0, .int .i64 0]
theorem run_newFr (w : World) : (Instr.alloc 36 true (.tuple #[])).run Try.prog w = .ok (.pointer (some ⟨w.heap.size, 0, none⟩)) (w.alloc (.cells F0.cs.toArray 36)) := by kernel_rfl
theorem run_newFt (w : World) : (Instr.alloc 38 true (.tuple #[])).run Try.prog w = .ok (.pointer (some ⟨w.heap.size, 0, none⟩)) (w.alloc (.cells FZ.toArray 38)) := by kernel_rfl
theorem szFt : (Try.prog.info? 38).map (·.size) = some 2 := by kernel_rfl
theorem cs_length (f : FL) : f.cs.length = 15 := rfl
theorem cs_one (f : FL) : f.cs.toArray.all (·.oneCell') = true := by simp [FL.cs, Value.oneCell']
section
variable {ops : Array Oper} {rest : List Oper} {o : Oper} {a : Act} {w : World} {Q : Exit → Act → World → Prop}
theorem at_new (hgd : o.guard = none) (ty : TypeId) (cs : List Value) (ho : o.op = .alloc ty) (hr : ∀ w, (Instr.alloc ty true (.tuple #[])).run Try.prog w = .ok (.pointer (some ⟨w.heap.size, 0, none⟩)) (w.alloc (.cells cs.toArray ty)))
    (h : ∀ w', Blk w' w.heap.size ty cs → Below w.heap.size w w' → w'.heap.size = w.heap.size + 1 → wpList Try.prog ops Q rest (a.put o.dst (.pointer (some ⟨w.heap.size, 0, none⟩))) w') : wpList Try.prog ops Q (o :: rest) a w :=
  wpList_plain hgd fun _ hK => by
    unfold Oper.wp execOp
    simp only [ho, Sem.run_bind, hr, Result.andThen_ok, Sem.run_pure]
    exact hK _ _ (h _ (Blk.new w ty cs) ((Below.refl _ w).alloc (Nat.le_refl _) _) (by simp))
theorem at_put (hgd : o.guard = none) (ty : TypeId) (x y : Operand) (ho : o.op = .store ty x y) (hd : o.dst = none) (b : Nat) (hx : a.eval x = .pointer (some ⟨b, 0, none⟩)) (cs : List Value) (hy : a.eval y = .agg cs.toArray) {old : List Value} (hb : Blk w b ty old) (hl : old.length = cs.length)
    (hi : (Try.prog.info? ty).map (·.size) = some cs.length) (h1 : cs.toArray.all (·.oneCell') = true) (h : ∀ w', Wrote b ty w w' cs → wpList Try.prog ops Q rest a w') : wpList Try.prog ops Q (o :: rest) a w :=
  wpList_store_row hgd _ x y ho b cs.toArray hx hy _ old.toArray hb (by simpa using hi) (by simpa using hl) h1 (by
    rw [hd]
    exact h _ ⟨setRow_heap w b _ _ _ _ hb, ⟨rfl, rfl, rfl, by simp [World.setRow], fun k hk hn => by simp [World.setRow, Array.getElem?_modify, Ne.symm hn]⟩, by simp [World.setRow]⟩)
/-- One cell of it. -/
theorem at_set (hgd : o.guard = none) (ty : TypeId) (x y : Operand) (ho : o.op = .store ty x y) (hd : o.dst = none) (b j : Nat) (hx : a.eval x = .pointer (some ⟨b, j, none⟩)) (t : TypeId) (cs cs' : List Value) (u : Value) (hy : a.eval y = u) (hb : Blk w b t cs) (hn : cs.set j u = cs')
    (hc : u.cells = #[u]) (h1 : u.oneCell' = true) (hi : (Try.prog.info? ty).map (·.size) = some 1) (hj : j < cs.length)
    (h : ∀ w', Wrote b t w w' cs' → wpList Try.prog ops Q rest a w') : wpList Try.prog ops Q (o :: rest) a w :=
  wpList_plain hgd fun _ hK => by
    have hc' := Blk.cell hb j (List.getElem?_eq_getElem hj)
    unfold Oper.wp execOp
    simp only [ho, hx, hy, Sem.run_bind, set_run w ty b j u hc h1 hi (by rw [hc']; rfl) (Blk.frozen hb j), Result.andThen_ok, Sem.run_pure]
    refine hK _ _ ?_
    rw [hd]
    exact h _ ⟨by rw [← hn]; exact Blk.set hb j u, (But.refl _ b w).setCell j u, by simp [World.setCell]⟩
theorem at_bld (hgd : o.guard = none) (ty : TypeId) (parts : Array (Nat × Operand)) (ho : o.op = .build ty parts) (cs : List Value)
    (hb : Try.prog.built ty (parts.map fun (i, x) => (i, a.eval x)).toList = some cs.toArray) (h : wpList Try.prog ops Q rest (a.put o.dst (.agg cs.toArray)) w) : wpList Try.prog ops Q (o :: rest) a w :=
  wpList_build hgd _ parts ho (by rw [hb]; rfl) (by rw [hb]; exact h)
end
theorem mac_one : (Try.prog.info? 28).map (·.size) = some 1 := by kernel_rfl
theorem int_one : (Try.prog.info? 3).map (·.size) = some 1 := by kernel_rfl
theorem ip_one : (Try.prog.info? 30).map (·.size) = some 1 := by kernel_rfl
theorem u64_one : (Try.prog.info? 27).map (·.size) = some 1 := by kernel_rfl
/-- A frame with the addresses that a reader stands before. -/
def start (R : RS) (k : Int) : FL := FL.mk (be ((R.next 6).part 6)) (be (R.part 6)) k 0 0 0 0 0 0 0 0 0 0 0 0
def RS.on (R : RS) : RS := ((R.next 6).next 6).next 2
theorem zero_frame (w : World) : (Instr.alloc 36 true (.tuple #[])).run Try.prog w = .ok (.pointer (some ⟨w.heap.size, 0, none⟩)) (w.alloc (.cells F0.cs.toArray 36)) := run_newFr w
set_option maxHeartbeats 1000000 in
theorem start_is (R : RS) (k : Int) (rb : Nat) (w : World) (h : Rdr w rb R) : Calls Try.prog 87 #[.pointer (some ⟨rb, 0, none⟩), .int .i64 k] w fun e w' => e = .returned (start R k).v ∧ Rdr w' rb R.on ∧ But w.heap.size rb w w' := by
  unfold start RS.on
  have NE : w.heap.size ≠ w.heap.size + 1 := by omega
  go_enter Try.func87, Try.ntmps87
  go_upto_region 1 with (refine at_new rfl 36 F0.cs rfl run_newFr ?_; rintro w1 H1 k1 s1; have r1 := h.below k1)
  go_wp2_with (first
    | (refine at_bld rfl _ _ rfl (FL.cs (FL.mk 0 0 k 0 0 0 0 0 0 0 0 0 0 0 0)) (by kernel_rfl) ?_)
    | (refine at_new rfl 36 F0.cs rfl run_newFr ?_; rintro w2 H2 k2 s2; rw [s1] at H2; have G2 := H1.below k2 H1.lt; have b2 : But w.heap.size rb w w2 := But.of_below (k1.trans (k2.mono k1.size)); have r2 := r1.below k2; clear k1 k2 r1 H1; go_simp)
    | (refine at_put rfl 36 _ _ rfl rfl (w.heap.size + 1) rfl (FL.cs (FL.mk 0 0 k 0 0 0 0 0 0 0 0 0 0 0 0)) rfl H2 rfl szF (cs_one _) ?_; rintro w3 g3; have x3 := g3.blk; have y3 := g3.but.blk G2 G2.lt NE; have r3 := r2.but g3.but H2 (by decide) (by decide); have b3 : But w.heap.size rb w w3 := b2.trans ⟨g3.but.os, g3.but.tape, g3.but.output, g3.but.size, fun i hi hn => g3.but.block i (Nat.lt_of_lt_of_le hi b2.size) (by omega)⟩; clear r2 b2 g3 G2 H2))
  go_wp2_with fail
  go_at_call 79
  refine (rd_U48 w3 rb _ r3).mono ?_
  rintro e w4 ⟨rfl, r4, q4⟩
  have x4 := r3.keep q4 x3 (by decide)
  have y4 := r3.keep q4 y3 (by decide)
  have b4 := But.then b3 q4
  clear r3 q4 x3 b3 y3
  go_wp2_with (refine at_set rfl 28 _ _ rfl rfl (w.heap.size + 1) 1 rfl 36 (FL.cs (FL.mk 0 0 k 0 0 0 0 0 0 0 0 0 0 0 0)) (FL.cs (FL.mk 0 (be (R.part 6)) k 0 0 0 0 0 0 0 0 0 0 0 0)) (.int .u64 (be (R.part 6))) rfl x4 rfl rfl rfl mac_one (show 1 < 15 by decide) ?_; rintro w5 g5; have r5 := r4.but g5.but x4 (by decide) (by decide); have b5 : But w.heap.size rb w _ := b4.trans ⟨g5.but.os, g5.but.tape, g5.but.output, g5.but.size, fun i hi hn => g5.but.block i (Nat.lt_of_lt_of_le hi b4.size) (by omega)⟩; have x5 := g5.blk; have y5 := g5.but.blk y4 y4.lt NE; clear r4 b4 x4 g5 y4)
  go_wp2_with fail
  go_at_call 79
  refine (rd_U48 w5 rb _ r5).mono ?_
  rintro e w6 ⟨rfl, r6, q6⟩
  have x6 := r5.keep q6 x5 (by decide)
  have y6 := r5.keep q6 y5 (by decide)
  have b6 := But.then b5 q6
  clear r5 q6 x5 b5 y5
  go_wp2_with (refine at_set rfl 28 _ _ rfl rfl (w.heap.size + 1) 0 rfl 36 (FL.cs (FL.mk 0 (be (R.part 6)) k 0 0 0 0 0 0 0 0 0 0 0 0)) (FL.cs (FL.mk (be ((R.next 6).part 6)) (be (R.part 6)) k 0 0 0 0 0 0 0 0 0 0 0 0)) (.int .u64 (be ((R.next 6).part 6))) rfl x6 rfl rfl rfl mac_one (show 0 < 15 by decide) ?_; rintro w7 g7; have r7 := r6.but g7.but x6 (by decide) (by decide); have b7 : But w.heap.size rb w _ := b6.trans ⟨g7.but.os, g7.but.tape, g7.but.output, g7.but.size, fun i hi hn => g7.but.block i (Nat.lt_of_lt_of_le hi b6.size) (by omega)⟩; have x7 := g7.blk; have y7 := g7.but.blk y6 y6.lt NE; clear r6 b6 x6 g7 y6)
  go_wp2_with fail
  go_at_call 78
  refine (rd_U16 w7 rb _ r7).mono ?_
  rintro e w8 ⟨rfl, r8, q8⟩
  have x8 := r7.keep q8 x7 (by decide)
  have y8 := r7.keep q8 y7 (by decide)
  have b8 := But.then b7 q8
  clear r7 q8 x7 b7 y7
  go_wp2_with (first
    | (refine at_mid rfl 36 _ rfl (w.heap.size + 1) 0 rfl x8 (FL.cs (FL.mk (be ((R.next 6).part 6)) (be (R.part 6)) k 0 0 0 0 0 0 0 0 0 0 0 0)) rfl _ Try.underlying36 rfl szF ?_)
    | (refine at_put rfl 36 _ _ rfl rfl w.heap.size rfl (FL.cs (FL.mk (be ((R.next 6).part 6)) (be (R.part 6)) k 0 0 0 0 0 0 0 0 0 0 0 0)) rfl y8 rfl szF (cs_one _) ?_; rintro w9 g9; have r9 := r8.but g9.but y8 (by decide) (by decide); have y9 := g9.blk; have b9 : But w.heap.size rb w w9 := b8.trans ⟨g9.but.os, g9.but.tape, g9.but.output, g9.but.size, fun i hi hn => g9.but.block i (Nat.lt_of_lt_of_le hi b8.size) (by omega)⟩; clear r8 b8 g9 x8 y8))
  exact bodyPost_ret (results_cell_row (by rfl) _ _ w.heap.size _ _ _ _ rfl y9 Try.underlying36 rfl szF) rfl ⟨rfl, r9, b9⟩
end Go.Proofs.Ytgpjelcihmbiiaa
