/- The reference of layer 4: only, walked. No condition. -/
import Derived.Test.YtejcclcckgdbgaaNQf
import Derived.Test.YtejcclcckgdbgaaWMx
import Derived.Test.YtejcclcckgdbgaaNBg
import Derived.Deep.MidRow
namespace Go.Proofs.Ytejcclcckgdbgaa
open Go.RowKit Go.Sort
set_option linter.unusedVariables false
set_option linter.unusedSimpArgs false
set_option maxRecDepth 100000

/-- A route some of whose fields are another's. -/
def Mx (s o : NL) (be bt bm bip bh bp bg bl bl2 : Bool) : NL := ⟨o.k, o.rd, if be then s.e else o.e, if bt then s.t else o.t, if bm then s.m else o.m, if bip then s.ip else o.ip, if bh then s.h else o.h, if bp then s.pi else o.pi, if bp then s.pn else o.pn, if bg then s.g else o.g, if bl then s.l else o.l, if bl2 then s.l2 else o.l2⟩
theorem free_skip {P : Program} {ops : Array Oper} {C : Found → Array Bool → World → Prop} {fr : Nat → Bool} {good : Nat → Value → Prop} {x : Found} {Q : Act → Prop} {o : Oper} {l : List Oper} {k : Nat} {a : Act} (hf : fr k = false) (hw : Region.wanted o (yielded ops a.tmps) = true)
    (hc : ∀ L w, k ∈ Region.ready .any ops L → C x L w → ∃ w'', (execOp a.eval o).run P w = .ok .skip w'' ∧ C x (L.setIfInBounds k true) w'') (h : wpFree P ops C fr good x Q l (k + 1) (a.put o.dst undef)) : wpFree P ops C fr good x Q (o :: l) k a :=
  ⟨undef, .inr (.inl ⟨hf, hw, fun L w hr hC => by
    obtain ⟨w'', e, hC'⟩ := hc L w hr hC
    rw [e]
    exact ⟨hC', rfl⟩⟩), h⟩
/-- Every operation waits, where its edge binds, for earlier ones only. -/
def backC (ops : Array Oper) : Bool := (List.range ops.size).all fun j => match ops[j]? with
  | some o => o.after.all fun e => !Region.binds .any e || decide (e.on < j)
  | none => true
theorem all_doneC {ops : Array Oper} (hb : backC ops = true) {L : Array Bool} (hz : L.size = ops.size) (hr : Region.ready .any ops L = []) : ∀ j, j < ops.size → L.getD j false = true := by
  intro j
  induction j using Nat.strongRecOn with
  | ind j ih =>
    intro hj
    rcases hv : L.getD j false with _ | _
    · exfalso
      have hm : j ∈ Region.ready .any ops L := mem_ready.2 ⟨?_, ops[j], by simp [hj], fun e he hbd => ?_⟩
      · rw [hr] at hm
        cases hm
      · have hj' : j < L.size := by omega
        simp [hj'] at hv ⊢
        exact hv
      · have h1 := List.all_eq_true.1 hb j (List.mem_range.2 hj)
        simp only [Array.getElem?_eq_getElem hj] at h1
        have h2 : e.on < j := by
          have := Array.all_eq_true_iff_forall_mem.1 h1 e he
          rw [hbd] at this
          simpa using this
        exact ih e.on h2 (by omega)
    · rfl
theorem wp_region_freeC {P : Program} {id : Nat} {Q : Exit → Act → World → Prop} {a : Act} {w : World} {l : List Oper} (C : Found → Array Bool → World → Prop) (fr : Nat → Bool) (good : Nat → Value → Prop) (hm : P.follows .mixedOrders = true) (hB : Region.lexB .any l.toArray = true) (hb : backC l.toArray = true)
    (hloc : ∀ x y L w, Agree fr L x y → C x L w → C y L w) (x0 : Found) (h0 : ∀ j, fr j = true → good j (x0 j)) (hC : C x0 (Array.replicate l.length false) { w with drawn := w.drawn + 1 })
    (h : ∀ x : Found, (∀ j, fr j = true → good j (x j)) → wpFree P l.toArray C fr good x (fun a' => ∀ L w', (∀ j, j < l.length → L.getD j false = true) → C x L w' → Q .normal a' w') l 0 a) : (Code.region id l.toArray true).wp P Q a w := by
  simp only [Region.lexB, Bool.and_eq_true] at hB
  refine wp_region_any hm (wpAny_of_X (C := C) (fr := fr) (good := good) (n := l.length) (Q := fun x a' => ∀ L w', (∀ j, j < l.length → L.getD j false = true) → C x L w' → Q .normal a' w') hloc (fun x a L w' hz _ hr hw' h => h L w' (fun j hj => all_doneC hb (by simpa using hz) hr j (by simpa using hj)) hw') _ _ _ _ x0 (by simp) h0 (by simpa using hC) fun y hy _ => ?_)
  have := wpX_lex (C := C) (fr := fr) (good := good) (x := y) hB.1 l 0 (Array.replicate l.toArray.size false) a (by simp) (by simpa using hB.2) (h y hy)
  simpa using this
/-- The class of a region that stores fields of s into the block b2, which held o, whatever their order. -/
def Co (z : Nat) (w0 : World) (b1 b2 : Nat) (n s o : NL) (ie it im iip ih ip ig il ill : Nat) (x : Found) (L : Array Bool) (w : World) : Prop :=
  L.size = z ∧ Below w0.heap.size w0 w ∧ Bx w b1 n ∧ Bx w b2 (Mx s o (L.getD ie false) (L.getD it false) (L.getD im false) (L.getD iip false) (L.getD ih false) (L.getD ip false) (L.getD ig false) (L.getD il false) (L.getD ill false))
section
variable {z : Nat} {w0 w : World} {b1 b2 : Nat} {n s o : NL} {ie it im iip ih ip ig il ill : Nat} {x : Found} {L : Array Bool}
theorem Co.calm (j : Nat) (hj : j ≠ ie ∧ j ≠ it ∧ j ≠ im ∧ j ≠ iip ∧ j ≠ ih ∧ j ≠ ip ∧ j ≠ ig ∧ j ≠ il ∧ j ≠ ill) (h : Co z w0 b1 b2 n s o ie it im iip ih ip ig il ill x L w) : Co z w0 b1 b2 n s o ie it im iip ih ip ig il ill x (L.setIfInBounds j true) w := by
  obtain ⟨h0, h1, h2, h3, h4, h5, h6, h7, h8⟩ := hj
  unfold Co at *
  rw [getD_set_ne false h0, getD_set_ne false h1, getD_set_ne false h2, getD_set_ne false h3, getD_set_ne false h4, getD_set_ne false h5, getD_set_ne false h6, getD_set_ne false h7, getD_set_ne false h8]
  exact ⟨by rw [Array.size_setIfInBounds]; exact h.1, h.2⟩
theorem Co.start (h1 : Below w0.heap.size w0 w) (h2 : Bx w b1 n) (h3 : Bx w b2 o) : Co z w0 b1 b2 n s o ie it im iip ih ip ig il ill x (Array.replicate z false) { w with drawn := w.drawn + 1 } := by
  have k : Below w.heap.size w { w with drawn := w.drawn + 1 } := ⟨rfl, rfl, rfl, Nat.le_refl _, fun _ _ => rfl⟩
  have e : ∀ j, (Array.replicate z false).getD j false = false := fun j => by
    simp [Array.getElem?_replicate]
    split <;> rfl
  unfold Co
  simp only [e]
  exact ⟨by simp, h1.trans (k.mono h1.size), h2.below k h2.lt, h3.below k h3.lt⟩
theorem Co.p_e {oo : Oper} {a : Act} (x' y' : Operand) (ho : oo.op = .store 31 x' y') (hx : a.eval x' = .pointer (some ⟨b2, 2, none⟩)) (hy : a.eval y' = .agg (esi s.e).toArray) (hd : ie ≠ it ∧ ie ≠ im ∧ ie ≠ iip ∧ ie ≠ ih ∧ ie ≠ ip ∧ ie ≠ ig ∧ ie ≠ il ∧ ie ≠ ill) (hb : w0.heap.size ≤ b2) (hne : b1 ≠ b2) (hi : ie < L.size) (h : Co z w0 b1 b2 n s o ie it im iip ih ip ig il ill x L w) :
    ∃ w'', (execOp a.eval oo).run Try.prog w = .ok .skip w'' ∧ Co z w0 b1 b2 n s o ie it im iip ih ip ig il ill x (L.setIfInBounds ie true) w'' := by
  obtain ⟨h0, h1, h2, h3, h4, h5, h6, h7⟩ := hd
  obtain ⟨a0, a1, a2, a3⟩ := h
  unfold Co
  rw [set_yes hi, getD_set_ne false h0, getD_set_ne false h1, getD_set_ne false h2, getD_set_ne false h3, getD_set_ne false h4, getD_set_ne false h5, getD_set_ne false h6, getD_set_ne false h7]
  have hr := run_storeAt_mid (P := Try.prog) w b2 2 31 (esi s.e).toArray (Blk.there a3 2 10 (by rw [NL.cs_length]; decide)) (esi_size s.e) (esi_one s.e)
  refine ⟨w.setCells b2 2 (esi s.e), ?_, by rw [Array.size_setIfInBounds]; exact a0, a1.trans ((show Below w0.heap.size w (w.setCells b2 2 (esi s.e)) from Below.setCells hb _ _ (Below.refl _ _)).mono (Nat.le_refl _)), ?_, ?_⟩
  · unfold execOp
    simp only [ho, hx, hy, Sem.run_bind, hr, Result.andThen_ok, Sem.run_pure]
  · exact (But.setCells (esi s.e) 2 (But.refl w.heap.size b2 w)).blk a2 a2.lt hne
  · have := Blk.setCells (w := w) (esi s.e) 2 a3
    rw [show Mx s o true (L.getD it false) (L.getD im false) (L.getD iip false) (L.getD ih false) (L.getD ip false) (L.getD ig false) (L.getD il false) (L.getD ill false) = { Mx s o (L.getD ie false) (L.getD it false) (L.getD im false) (L.getD iip false) (L.getD ih false) (L.getD ip false) (L.getD ig false) (L.getD il false) (L.getD ill false) with e := s.e } from rfl]
    exact this
theorem Co.p_t {oo : Oper} {a : Act} (x' y' : Operand) (ho : oo.op = .store 29 x' y') (hx : a.eval x' = .pointer (some ⟨b2, 12, none⟩)) (hy : a.eval y' = .int .u32 s.t) (hd : it ≠ ie ∧ it ≠ im ∧ it ≠ iip ∧ it ≠ ih ∧ it ≠ ip ∧ it ≠ ig ∧ it ≠ il ∧ it ≠ ill) (hb : w0.heap.size ≤ b2) (hne : b1 ≠ b2) (hi : it < L.size) (h : Co z w0 b1 b2 n s o ie it im iip ih ip ig il ill x L w) :
    ∃ w'', (execOp a.eval oo).run Try.prog w = .ok .skip w'' ∧ Co z w0 b1 b2 n s o ie it im iip ih ip ig il ill x (L.setIfInBounds it true) w'' := by
  obtain ⟨h0, h1, h2, h3, h4, h5, h6, h7⟩ := hd
  obtain ⟨a0, a1, a2, a3⟩ := h
  unfold Co
  rw [set_yes hi, getD_set_ne false h0, getD_set_ne false h1, getD_set_ne false h2, getD_set_ne false h3, getD_set_ne false h4, getD_set_ne false h5, getD_set_ne false h6, getD_set_ne false h7]
  have hc' := Blk.cell a3 12 (List.getElem?_eq_getElem (show 12 < (Mx s o (L.getD ie false) (L.getD it false) (L.getD im false) (L.getD iip false) (L.getD ih false) (L.getD ip false) (L.getD ig false) (L.getD il false) (L.getD ill false)).cs.length by rw [NL.cs_length]; decide))
  have hr := set_run w 29 b2 12 (.int .u32 s.t) rfl rfl u32_one (by rw [hc']; rfl) (Blk.frozen a3 12)
  refine ⟨w.setCell ⟨b2, 12, none⟩ (.int .u32 s.t), ?_, by rw [Array.size_setIfInBounds]; exact a0, a1.setCell hb _, ?_, ?_⟩
  · unfold execOp
    simp only [ho, hx, hy, Sem.run_bind, hr, Result.andThen_ok, Sem.run_pure]
  · exact ((But.refl w.heap.size b2 w).setCell 12 (.int .u32 s.t)).blk a2 a2.lt hne
  · have := Blk.set a3 12 (.int .u32 s.t)
    rw [show Mx s o (L.getD ie false) true (L.getD im false) (L.getD iip false) (L.getD ih false) (L.getD ip false) (L.getD ig false) (L.getD il false) (L.getD ill false) = { Mx s o (L.getD ie false) (L.getD it false) (L.getD im false) (L.getD iip false) (L.getD ih false) (L.getD ip false) (L.getD ig false) (L.getD il false) (L.getD ill false) with t := s.t } from rfl]
    exact this
theorem Co.p_m {oo : Oper} {a : Act} (x' y' : Operand) (ho : oo.op = .store 28 x' y') (hx : a.eval x' = .pointer (some ⟨b2, 13, none⟩)) (hy : a.eval y' = .int .u64 s.m) (hd : im ≠ ie ∧ im ≠ it ∧ im ≠ iip ∧ im ≠ ih ∧ im ≠ ip ∧ im ≠ ig ∧ im ≠ il ∧ im ≠ ill) (hb : w0.heap.size ≤ b2) (hne : b1 ≠ b2) (hi : im < L.size) (h : Co z w0 b1 b2 n s o ie it im iip ih ip ig il ill x L w) :
    ∃ w'', (execOp a.eval oo).run Try.prog w = .ok .skip w'' ∧ Co z w0 b1 b2 n s o ie it im iip ih ip ig il ill x (L.setIfInBounds im true) w'' := by
  obtain ⟨h0, h1, h2, h3, h4, h5, h6, h7⟩ := hd
  obtain ⟨a0, a1, a2, a3⟩ := h
  unfold Co
  rw [set_yes hi, getD_set_ne false h0, getD_set_ne false h1, getD_set_ne false h2, getD_set_ne false h3, getD_set_ne false h4, getD_set_ne false h5, getD_set_ne false h6, getD_set_ne false h7]
  have hc' := Blk.cell a3 13 (List.getElem?_eq_getElem (show 13 < (Mx s o (L.getD ie false) (L.getD it false) (L.getD im false) (L.getD iip false) (L.getD ih false) (L.getD ip false) (L.getD ig false) (L.getD il false) (L.getD ill false)).cs.length by rw [NL.cs_length]; decide))
  have hr := set_run w 28 b2 13 (.int .u64 s.m) rfl rfl mac_one (by rw [hc']; rfl) (Blk.frozen a3 13)
  refine ⟨w.setCell ⟨b2, 13, none⟩ (.int .u64 s.m), ?_, by rw [Array.size_setIfInBounds]; exact a0, a1.setCell hb _, ?_, ?_⟩
  · unfold execOp
    simp only [ho, hx, hy, Sem.run_bind, hr, Result.andThen_ok, Sem.run_pure]
  · exact ((But.refl w.heap.size b2 w).setCell 13 (.int .u64 s.m)).blk a2 a2.lt hne
  · have := Blk.set a3 13 (.int .u64 s.m)
    rw [show Mx s o (L.getD ie false) (L.getD it false) true (L.getD iip false) (L.getD ih false) (L.getD ip false) (L.getD ig false) (L.getD il false) (L.getD ill false) = { Mx s o (L.getD ie false) (L.getD it false) (L.getD im false) (L.getD iip false) (L.getD ih false) (L.getD ip false) (L.getD ig false) (L.getD il false) (L.getD ill false) with m := s.m } from rfl]
    exact this
theorem Co.p_ip {oo : Oper} {a : Act} (x' y' : Operand) (ho : oo.op = .store 32 x' y') (hx : a.eval x' = .pointer (some ⟨b2, 14, none⟩)) (hy : a.eval y' = .int .u32 s.ip) (hd : iip ≠ ie ∧ iip ≠ it ∧ iip ≠ im ∧ iip ≠ ih ∧ iip ≠ ip ∧ iip ≠ ig ∧ iip ≠ il ∧ iip ≠ ill) (hb : w0.heap.size ≤ b2) (hne : b1 ≠ b2) (hi : iip < L.size) (h : Co z w0 b1 b2 n s o ie it im iip ih ip ig il ill x L w) :
    ∃ w'', (execOp a.eval oo).run Try.prog w = .ok .skip w'' ∧ Co z w0 b1 b2 n s o ie it im iip ih ip ig il ill x (L.setIfInBounds iip true) w'' := by
  obtain ⟨h0, h1, h2, h3, h4, h5, h6, h7⟩ := hd
  obtain ⟨a0, a1, a2, a3⟩ := h
  unfold Co
  rw [set_yes hi, getD_set_ne false h0, getD_set_ne false h1, getD_set_ne false h2, getD_set_ne false h3, getD_set_ne false h4, getD_set_ne false h5, getD_set_ne false h6, getD_set_ne false h7]
  have hc' := Blk.cell a3 14 (List.getElem?_eq_getElem (show 14 < (Mx s o (L.getD ie false) (L.getD it false) (L.getD im false) (L.getD iip false) (L.getD ih false) (L.getD ip false) (L.getD ig false) (L.getD il false) (L.getD ill false)).cs.length by rw [NL.cs_length]; decide))
  have hr := set_run w 32 b2 14 (.int .u32 s.ip) rfl rfl ip_one (by rw [hc']; rfl) (Blk.frozen a3 14)
  refine ⟨w.setCell ⟨b2, 14, none⟩ (.int .u32 s.ip), ?_, by rw [Array.size_setIfInBounds]; exact a0, a1.setCell hb _, ?_, ?_⟩
  · unfold execOp
    simp only [ho, hx, hy, Sem.run_bind, hr, Result.andThen_ok, Sem.run_pure]
  · exact ((But.refl w.heap.size b2 w).setCell 14 (.int .u32 s.ip)).blk a2 a2.lt hne
  · have := Blk.set a3 14 (.int .u32 s.ip)
    rw [show Mx s o (L.getD ie false) (L.getD it false) (L.getD im false) true (L.getD ih false) (L.getD ip false) (L.getD ig false) (L.getD il false) (L.getD ill false) = { Mx s o (L.getD ie false) (L.getD it false) (L.getD im false) (L.getD iip false) (L.getD ih false) (L.getD ip false) (L.getD ig false) (L.getD il false) (L.getD ill false) with ip := s.ip } from rfl]
    exact this
theorem Co.p_h {oo : Oper} {a : Act} (x' y' : Operand) (ho : oo.op = .store 4 x' y') (hx : a.eval x' = .pointer (some ⟨b2, 15, none⟩)) (hy : a.eval y' = .bool s.h) (hd : ih ≠ ie ∧ ih ≠ it ∧ ih ≠ im ∧ ih ≠ iip ∧ ih ≠ ip ∧ ih ≠ ig ∧ ih ≠ il ∧ ih ≠ ill) (hb : w0.heap.size ≤ b2) (hne : b1 ≠ b2) (hi : ih < L.size) (h : Co z w0 b1 b2 n s o ie it im iip ih ip ig il ill x L w) :
    ∃ w'', (execOp a.eval oo).run Try.prog w = .ok .skip w'' ∧ Co z w0 b1 b2 n s o ie it im iip ih ip ig il ill x (L.setIfInBounds ih true) w'' := by
  obtain ⟨h0, h1, h2, h3, h4, h5, h6, h7⟩ := hd
  obtain ⟨a0, a1, a2, a3⟩ := h
  unfold Co
  rw [set_yes hi, getD_set_ne false h0, getD_set_ne false h1, getD_set_ne false h2, getD_set_ne false h3, getD_set_ne false h4, getD_set_ne false h5, getD_set_ne false h6, getD_set_ne false h7]
  have hc' := Blk.cell a3 15 (List.getElem?_eq_getElem (show 15 < (Mx s o (L.getD ie false) (L.getD it false) (L.getD im false) (L.getD iip false) (L.getD ih false) (L.getD ip false) (L.getD ig false) (L.getD il false) (L.getD ill false)).cs.length by rw [NL.cs_length]; decide))
  have hr := set_run w 4 b2 15 (.bool s.h) rfl rfl bool_one (by rw [hc']; rfl) (Blk.frozen a3 15)
  refine ⟨w.setCell ⟨b2, 15, none⟩ (.bool s.h), ?_, by rw [Array.size_setIfInBounds]; exact a0, a1.setCell hb _, ?_, ?_⟩
  · unfold execOp
    simp only [ho, hx, hy, Sem.run_bind, hr, Result.andThen_ok, Sem.run_pure]
  · exact ((But.refl w.heap.size b2 w).setCell 15 (.bool s.h)).blk a2 a2.lt hne
  · have := Blk.set a3 15 (.bool s.h)
    rw [show Mx s o (L.getD ie false) (L.getD it false) (L.getD im false) (L.getD iip false) true (L.getD ip false) (L.getD ig false) (L.getD il false) (L.getD ill false) = { Mx s o (L.getD ie false) (L.getD it false) (L.getD im false) (L.getD iip false) (L.getD ih false) (L.getD ip false) (L.getD ig false) (L.getD il false) (L.getD ill false) with h := s.h } from rfl]
    exact this
theorem Co.p_p {oo : Oper} {a : Act} (x' y' : Operand) (ho : oo.op = .store 34 x' y') (hx : a.eval x' = .pointer (some ⟨b2, 16, none⟩)) (hy : a.eval y' = .agg #[.int .u32 s.pi, .int .i64 s.pn]) (hd : ip ≠ ie ∧ ip ≠ it ∧ ip ≠ im ∧ ip ≠ iip ∧ ip ≠ ih ∧ ip ≠ ig ∧ ip ≠ il ∧ ip ≠ ill) (hb : w0.heap.size ≤ b2) (hne : b1 ≠ b2) (hi : ip < L.size) (h : Co z w0 b1 b2 n s o ie it im iip ih ip ig il ill x L w) :
    ∃ w'', (execOp a.eval oo).run Try.prog w = .ok .skip w'' ∧ Co z w0 b1 b2 n s o ie it im iip ih ip ig il ill x (L.setIfInBounds ip true) w'' := by
  obtain ⟨h0, h1, h2, h3, h4, h5, h6, h7⟩ := hd
  obtain ⟨a0, a1, a2, a3⟩ := h
  unfold Co
  rw [set_yes hi, getD_set_ne false h0, getD_set_ne false h1, getD_set_ne false h2, getD_set_ne false h3, getD_set_ne false h4, getD_set_ne false h5, getD_set_ne false h6, getD_set_ne false h7]
  have hr := run_storeAt_mid (P := Try.prog) w b2 16 34 ([.int .u32 s.pi, .int .i64 s.pn]).toArray (Blk.there a3 16 2 (by rw [NL.cs_length]; decide)) (show (Try.prog.info? 34).map (·.size) = some 2 by kernel_rfl) (by simp [Value.oneCell'])
  refine ⟨w.setCells b2 16 ([.int .u32 s.pi, .int .i64 s.pn]), ?_, by rw [Array.size_setIfInBounds]; exact a0, a1.trans ((show Below w0.heap.size w (w.setCells b2 16 ([.int .u32 s.pi, .int .i64 s.pn])) from Below.setCells hb _ _ (Below.refl _ _)).mono (Nat.le_refl _)), ?_, ?_⟩
  · unfold execOp
    simp only [ho, hx, hy, Sem.run_bind, hr, Result.andThen_ok, Sem.run_pure]
  · exact (But.setCells ([.int .u32 s.pi, .int .i64 s.pn]) 16 (But.refl w.heap.size b2 w)).blk a2 a2.lt hne
  · have := Blk.setCells (w := w) ([.int .u32 s.pi, .int .i64 s.pn]) 16 a3
    rw [show Mx s o (L.getD ie false) (L.getD it false) (L.getD im false) (L.getD iip false) (L.getD ih false) true (L.getD ig false) (L.getD il false) (L.getD ill false) = { Mx s o (L.getD ie false) (L.getD it false) (L.getD im false) (L.getD iip false) (L.getD ih false) (L.getD ip false) (L.getD ig false) (L.getD il false) (L.getD ill false) with pi := s.pi, pn := s.pn } from rfl]
    exact this
theorem Co.p_g {oo : Oper} {a : Act} (x' y' : Operand) (ho : oo.op = .store 32 x' y') (hx : a.eval x' = .pointer (some ⟨b2, 18, none⟩)) (hy : a.eval y' = .int .u32 s.g) (hd : ig ≠ ie ∧ ig ≠ it ∧ ig ≠ im ∧ ig ≠ iip ∧ ig ≠ ih ∧ ig ≠ ip ∧ ig ≠ il ∧ ig ≠ ill) (hb : w0.heap.size ≤ b2) (hne : b1 ≠ b2) (hi : ig < L.size) (h : Co z w0 b1 b2 n s o ie it im iip ih ip ig il ill x L w) :
    ∃ w'', (execOp a.eval oo).run Try.prog w = .ok .skip w'' ∧ Co z w0 b1 b2 n s o ie it im iip ih ip ig il ill x (L.setIfInBounds ig true) w'' := by
  obtain ⟨h0, h1, h2, h3, h4, h5, h6, h7⟩ := hd
  obtain ⟨a0, a1, a2, a3⟩ := h
  unfold Co
  rw [set_yes hi, getD_set_ne false h0, getD_set_ne false h1, getD_set_ne false h2, getD_set_ne false h3, getD_set_ne false h4, getD_set_ne false h5, getD_set_ne false h6, getD_set_ne false h7]
  have hc' := Blk.cell a3 18 (List.getElem?_eq_getElem (show 18 < (Mx s o (L.getD ie false) (L.getD it false) (L.getD im false) (L.getD iip false) (L.getD ih false) (L.getD ip false) (L.getD ig false) (L.getD il false) (L.getD ill false)).cs.length by rw [NL.cs_length]; decide))
  have hr := set_run w 32 b2 18 (.int .u32 s.g) rfl rfl ip_one (by rw [hc']; rfl) (Blk.frozen a3 18)
  refine ⟨w.setCell ⟨b2, 18, none⟩ (.int .u32 s.g), ?_, by rw [Array.size_setIfInBounds]; exact a0, a1.setCell hb _, ?_, ?_⟩
  · unfold execOp
    simp only [ho, hx, hy, Sem.run_bind, hr, Result.andThen_ok, Sem.run_pure]
  · exact ((But.refl w.heap.size b2 w).setCell 18 (.int .u32 s.g)).blk a2 a2.lt hne
  · have := Blk.set a3 18 (.int .u32 s.g)
    rw [show Mx s o (L.getD ie false) (L.getD it false) (L.getD im false) (L.getD iip false) (L.getD ih false) (L.getD ip false) true (L.getD il false) (L.getD ill false) = { Mx s o (L.getD ie false) (L.getD it false) (L.getD im false) (L.getD iip false) (L.getD ih false) (L.getD ip false) (L.getD ig false) (L.getD il false) (L.getD ill false) with g := s.g } from rfl]
    exact this
theorem Co.p_l {oo : Oper} {a : Act} (x' y' : Operand) (ho : oo.op = .store 29 x' y') (hx : a.eval x' = .pointer (some ⟨b2, 19, none⟩)) (hy : a.eval y' = .int .u32 s.l) (hd : il ≠ ie ∧ il ≠ it ∧ il ≠ im ∧ il ≠ iip ∧ il ≠ ih ∧ il ≠ ip ∧ il ≠ ig ∧ il ≠ ill) (hb : w0.heap.size ≤ b2) (hne : b1 ≠ b2) (hi : il < L.size) (h : Co z w0 b1 b2 n s o ie it im iip ih ip ig il ill x L w) :
    ∃ w'', (execOp a.eval oo).run Try.prog w = .ok .skip w'' ∧ Co z w0 b1 b2 n s o ie it im iip ih ip ig il ill x (L.setIfInBounds il true) w'' := by
  obtain ⟨h0, h1, h2, h3, h4, h5, h6, h7⟩ := hd
  obtain ⟨a0, a1, a2, a3⟩ := h
  unfold Co
  rw [set_yes hi, getD_set_ne false h0, getD_set_ne false h1, getD_set_ne false h2, getD_set_ne false h3, getD_set_ne false h4, getD_set_ne false h5, getD_set_ne false h6, getD_set_ne false h7]
  have hc' := Blk.cell a3 19 (List.getElem?_eq_getElem (show 19 < (Mx s o (L.getD ie false) (L.getD it false) (L.getD im false) (L.getD iip false) (L.getD ih false) (L.getD ip false) (L.getD ig false) (L.getD il false) (L.getD ill false)).cs.length by rw [NL.cs_length]; decide))
  have hr := set_run w 29 b2 19 (.int .u32 s.l) rfl rfl u32_one (by rw [hc']; rfl) (Blk.frozen a3 19)
  refine ⟨w.setCell ⟨b2, 19, none⟩ (.int .u32 s.l), ?_, by rw [Array.size_setIfInBounds]; exact a0, a1.setCell hb _, ?_, ?_⟩
  · unfold execOp
    simp only [ho, hx, hy, Sem.run_bind, hr, Result.andThen_ok, Sem.run_pure]
  · exact ((But.refl w.heap.size b2 w).setCell 19 (.int .u32 s.l)).blk a2 a2.lt hne
  · have := Blk.set a3 19 (.int .u32 s.l)
    rw [show Mx s o (L.getD ie false) (L.getD it false) (L.getD im false) (L.getD iip false) (L.getD ih false) (L.getD ip false) (L.getD ig false) true (L.getD ill false) = { Mx s o (L.getD ie false) (L.getD it false) (L.getD im false) (L.getD iip false) (L.getD ih false) (L.getD ip false) (L.getD ig false) (L.getD il false) (L.getD ill false) with l := s.l } from rfl]
    exact this
theorem Co.p_l2 {oo : Oper} {a : Act} (x' y' : Operand) (ho : oo.op = .store 29 x' y') (hx : a.eval x' = .pointer (some ⟨b2, 20, none⟩)) (hy : a.eval y' = .int .u32 s.l2) (hd : ill ≠ ie ∧ ill ≠ it ∧ ill ≠ im ∧ ill ≠ iip ∧ ill ≠ ih ∧ ill ≠ ip ∧ ill ≠ ig ∧ ill ≠ il) (hb : w0.heap.size ≤ b2) (hne : b1 ≠ b2) (hi : ill < L.size) (h : Co z w0 b1 b2 n s o ie it im iip ih ip ig il ill x L w) :
    ∃ w'', (execOp a.eval oo).run Try.prog w = .ok .skip w'' ∧ Co z w0 b1 b2 n s o ie it im iip ih ip ig il ill x (L.setIfInBounds ill true) w'' := by
  obtain ⟨h0, h1, h2, h3, h4, h5, h6, h7⟩ := hd
  obtain ⟨a0, a1, a2, a3⟩ := h
  unfold Co
  rw [set_yes hi, getD_set_ne false h0, getD_set_ne false h1, getD_set_ne false h2, getD_set_ne false h3, getD_set_ne false h4, getD_set_ne false h5, getD_set_ne false h6, getD_set_ne false h7]
  have hc' := Blk.cell a3 20 (List.getElem?_eq_getElem (show 20 < (Mx s o (L.getD ie false) (L.getD it false) (L.getD im false) (L.getD iip false) (L.getD ih false) (L.getD ip false) (L.getD ig false) (L.getD il false) (L.getD ill false)).cs.length by rw [NL.cs_length]; decide))
  have hr := set_run w 29 b2 20 (.int .u32 s.l2) rfl rfl u32_one (by rw [hc']; rfl) (Blk.frozen a3 20)
  refine ⟨w.setCell ⟨b2, 20, none⟩ (.int .u32 s.l2), ?_, by rw [Array.size_setIfInBounds]; exact a0, a1.setCell hb _, ?_, ?_⟩
  · unfold execOp
    simp only [ho, hx, hy, Sem.run_bind, hr, Result.andThen_ok, Sem.run_pure]
  · exact ((But.refl w.heap.size b2 w).setCell 20 (.int .u32 s.l2)).blk a2 a2.lt hne
  · have := Blk.set a3 20 (.int .u32 s.l2)
    rw [show Mx s o (L.getD ie false) (L.getD it false) (L.getD im false) (L.getD iip false) (L.getD ih false) (L.getD ip false) (L.getD ig false) (L.getD il false) true = { Mx s o (L.getD ie false) (L.getD it false) (L.getD im false) (L.getD iip false) (L.getD ih false) (L.getD ip false) (L.getD ig false) (L.getD il false) (L.getD ill false) with l2 := s.l2 } from rfl]
    exact this
end
end Go.Proofs.Ytejcclcckgdbgaa
namespace Go.Proofs.Ytejcclcckgdbgaa
open Go.RowKit Go.Sort
set_option linter.unusedVariables false
set_option linter.unusedSimpArgs false
set_option maxRecDepth 100000

theorem ldv_uint32 {w : World} {b k : Nat} {e : Int} (h : w.cell? ⟨b, k, none⟩ = some (.int .u32 e)) : (loadVar 29 ⟨b, k, none⟩).run Try.prog w = .ok (.int .u32 e) w := by
  simp [go_sem, h]
theorem ld_uint32 {o : Oper} {a : Act} {w : World} (x : Operand) (ho : o.op = .load 29 x) (b k : Nat) (hx : a.eval x = .pointer (some ⟨b, k, none⟩)) (n : NL) (e : Int) (hb : Bx w b n) (hc : n.cs[k]? = some (.int .u32 e)) : (execOp a.eval o).run Try.prog w = .ok (.value (.int .u32 e)) w := by
  have h := ldv_uint32 (Blk.cell hb k hc)
  unfold execOp
  simp only [ho, hx, Instr.loadAt, Instr.sureAddr, Sem.run_bind, Sem.run_pure, Result.andThen_ok, h]
theorem ldv_MAC {w : World} {b k : Nat} {e : Int} (h : w.cell? ⟨b, k, none⟩ = some (.int .u64 e)) : (loadVar 28 ⟨b, k, none⟩).run Try.prog w = .ok (.int .u64 e) w := by
  simp [go_sem, h]
theorem ld_MAC {o : Oper} {a : Act} {w : World} (x : Operand) (ho : o.op = .load 28 x) (b k : Nat) (hx : a.eval x = .pointer (some ⟨b, k, none⟩)) (n : NL) (e : Int) (hb : Bx w b n) (hc : n.cs[k]? = some (.int .u64 e)) : (execOp a.eval o).run Try.prog w = .ok (.value (.int .u64 e)) w := by
  have h := ldv_MAC (Blk.cell hb k hc)
  unfold execOp
  simp only [ho, hx, Instr.loadAt, Instr.sureAddr, Sem.run_bind, Sem.run_pure, Result.andThen_ok, h]
theorem ldv_IP {w : World} {b k : Nat} {e : Int} (h : w.cell? ⟨b, k, none⟩ = some (.int .u32 e)) : (loadVar 32 ⟨b, k, none⟩).run Try.prog w = .ok (.int .u32 e) w := by
  simp [go_sem, h]
theorem ld_IP {o : Oper} {a : Act} {w : World} (x : Operand) (ho : o.op = .load 32 x) (b k : Nat) (hx : a.eval x = .pointer (some ⟨b, k, none⟩)) (n : NL) (e : Int) (hb : Bx w b n) (hc : n.cs[k]? = some (.int .u32 e)) : (execOp a.eval o).run Try.prog w = .ok (.value (.int .u32 e)) w := by
  have h := ldv_IP (Blk.cell hb k hc)
  unfold execOp
  simp only [ho, hx, Instr.loadAt, Instr.sureAddr, Sem.run_bind, Sem.run_pure, Result.andThen_ok, h]
theorem ldv_bool {w : World} {b k : Nat} {e : Bool} (h : w.cell? ⟨b, k, none⟩ = some (.bool e)) : (loadVar 4 ⟨b, k, none⟩).run Try.prog w = .ok (.bool e) w := by
  simp [go_sem, h]
theorem ld_bool {o : Oper} {a : Act} {w : World} (x : Operand) (ho : o.op = .load 4 x) (b k : Nat) (hx : a.eval x = .pointer (some ⟨b, k, none⟩)) (n : NL) (e : Bool) (hb : Bx w b n) (hc : n.cs[k]? = some (.bool e)) : (execOp a.eval o).run Try.prog w = .ok (.value (.bool e)) w := by
  have h := ldv_bool (Blk.cell hb k hc)
  unfold execOp
  simp only [ho, hx, Instr.loadAt, Instr.sureAddr, Sem.run_bind, Sem.run_pure, Result.andThen_ok, h]
theorem ld_esi {o : Oper} {a : Act} {w : World} (x : Operand) (ho : o.op = .load 31 x) (b : Nat) (hx : a.eval x = .pointer (some ⟨b, 2, none⟩)) (n : NL) (hb : Bx w b n) : (execOp a.eval o).run Try.prog w = .ok (.value (.agg (esi n.e).toArray)) w := by
  unfold execOp
  simp only [ho, hx, Sem.run_bind, run_loadAt_mid w b 2 _ _ _ hb.range Try.underlying31 rfl (esi_size _), Sem.run_pure, Result.andThen_ok]
theorem Bx.rangeP {w : World} {b : Nat} {n : NL} (h : Bx w b n) : w.rangeAt b 16 [.int .u32 n.pi, .int .i64 n.pn] := fun j v hv => by
  rcases j with _ | _ | j
  · exact Blk.cell h 16 hv
  · exact Blk.cell h 17 hv
  · simp at hv
theorem ld_pfx {o : Oper} {a : Act} {w : World} (x : Operand) (ho : o.op = .load 34 x) (b : Nat) (hx : a.eval x = .pointer (some ⟨b, 16, none⟩)) (n : NL) (hb : Bx w b n) : (execOp a.eval o).run Try.prog w = .ok (.value (.agg #[.int .u32 n.pi, .int .i64 n.pn])) w := by
  unfold execOp
  simp only [ho, hx, Sem.run_bind, run_loadAt_mid w b 16 _ [.int .u32 n.pi, .int .i64 n.pn] _ hb.rangeP Try.underlying34 rfl szP, Sem.run_pure, Result.andThen_ok]
def o0 (n : NL) : NL := ⟨n.k, n.rd, fun _ => 0, 0, 0, 0, false, 0, 0, 0, 0, 0⟩
set_option maxHeartbeats 4000000 in
theorem only_1 (n : NL) (hk : n.k = 1) (w : World) : Calls Try.prog 38 #[n.v] w fun r w' => r = .returned (.tuple #[n.auto.v, .bool true]) ∧ Below w.heap.size w w' := by
  have q1 : (n.k == 1) = true := by simp [hk]
  clear hk
  unfold NL.v
  go_enter Try.func38, Try.ntmps38
  go_upto_region 1 with (first
    | (refine at_box rfl _ rfl n rfl ?_; rintro w1 ⟨x1, k1, s1⟩; clear s1)
    | (refine at_new rfl rfl ?_; rintro w2 ⟨z2, k2, s2⟩; clear s2))
  have hl1 := x1.lt
  have hl2 := z2.lt
  have x2 := x1.below k2 x1.lt
  have b2 := k1.trans (k2.mono k1.size)
  have c0 := Blk.cell x2 0 (v := .int .i64 n.k) rfl
  have c1 := Blk.cell x2 1 (v := .int .u64 n.rd) rfl
  go_upto_region 2 with (first
    | (refine at_build rfl _ rfl (o0 n) (by kernel_rfl) ?_)
    | (refine at_new rfl rfl ?_; rintro w3 ⟨z3, k3, s3⟩; clear s3)
    | (refine at_store rfl _ _ rfl rfl w2.heap.size rfl NL.zero (o0 n) rfl z3 ?_; rintro w4 g4; have o5 := g4.bx; have b5 := But.below k3 g4.but (Nat.le_refl _) k3.size))
  clear c0 c1 k1 k2
  have x5 := x2.below b5 x2.lt
  have c0 := Blk.cell x5 0 (v := .int .i64 n.k) rfl
  go_upto_region 5 with fail
  clear c0
  refine wp_region_freeC (Co 12 w2 w.heap.size w2.heap.size n (n) ⟨n.k, n.rd, fun _ => 0, 0, 0, 0, false, 0, 0, 0, 0, 0⟩ 7 9 902 903 904 905 906 11 908) (fun _ => false) (fun _ _ => True) (by kernel_rfl) (by kernel_rfl) (by kernel_rfl) (fun x y L w' ha h => h) (fun _ => undef) (fun _ h => by cases h) (Co.start b5 x5 o5) (fun x _ => ?_)
  obtain ⟨Tw, Gw, hTw, hGw, -⟩ := family (fun _ => True) w trivial
  refine free_calm (G := Gw) rfl (fun L w' _ hC => hGw w' trivial) (fun L w' _ hC => Co.calm _ (by decide) hC) (fun K hK => ?_)
  go_simp
  refine hK _ ?_
  clear hK K
  refine free_put (.agg (esi n.e).toArray) rfl (by first | rfl | go_simp) (fun L w' hrd hC => ⟨w', ld_esi (.tmp 15) rfl w.heap.size rfl n hC.2.2.1, hC.calm _ (by decide)⟩) ?_
  try dsimp only
  refine free_calm (G := Gw) rfl (fun L w' _ hC => hGw w' trivial) (fun L w' _ hC => Co.calm _ (by decide) hC) (fun K hK => ?_)
  go_simp
  refine hK _ ?_
  clear hK K
  refine free_put (.int .u32 n.t) rfl (by first | rfl | go_simp) (fun L w' hrd hC => ⟨w', ld_uint32 (.tmp 17) rfl w.heap.size 12 rfl n _ hC.2.2.1 rfl, hC.calm _ (by decide)⟩) ?_
  try dsimp only
  refine free_calm (G := Gw) rfl (fun L w' _ hC => hGw w' trivial) (fun L w' _ hC => Co.calm _ (by decide) hC) (fun K hK => ?_)
  go_simp
  refine hK _ ?_
  clear hK K
  refine free_put (.int .u32 n.l) rfl (by first | rfl | go_simp) (fun L w' hrd hC => ⟨w', ld_uint32 (.tmp 19) rfl w.heap.size 19 rfl n _ hC.2.2.1 rfl, hC.calm _ (by decide)⟩) ?_
  try dsimp only
  refine free_calm (G := Gw) rfl (fun L w' _ hC => hGw w' trivial) (fun L w' _ hC => Co.calm _ (by decide) hC) (fun K hK => ?_)
  go_simp
  refine hK _ ?_
  clear hK K
  refine free_skip rfl (by first | rfl | go_simp) (fun L w' hrd hC => Co.p_e (.tmp 21) (.tmp 16) rfl rfl rfl (by decide) (by omega) (by omega) (ready_undone hrd).2 hC) ?_
  try dsimp only
  refine free_calm (G := Gw) rfl (fun L w' _ hC => hGw w' trivial) (fun L w' _ hC => Co.calm _ (by decide) hC) (fun K hK => ?_)
  go_simp
  refine hK _ ?_
  clear hK K
  refine free_skip rfl (by first | rfl | go_simp) (fun L w' hrd hC => Co.p_t (.tmp 22) (.tmp 18) rfl rfl rfl (by decide) (by omega) (by omega) (ready_undone hrd).2 hC) ?_
  try dsimp only
  refine free_calm (G := Gw) rfl (fun L w' _ hC => hGw w' trivial) (fun L w' _ hC => Co.calm _ (by decide) hC) (fun K hK => ?_)
  go_simp
  refine hK _ ?_
  clear hK K
  refine free_skip rfl (by first | rfl | go_simp) (fun L w' hrd hC => Co.p_l (.tmp 23) (.tmp 20) rfl rfl rfl (by decide) (by omega) (by omega) (ready_undone hrd).2 hC) ?_
  try dsimp only
  refine free_nil ?_
  intro L w7 hL hC
  have o7 := hC.2.2.2
  have b7 := hC.2.1
  have hz := hC.1
  have hN : ∀ j, 900 ≤ j → L.getD j false = false := fun j hj => by
    rw [Array.getD_eq_getD_getElem?, Array.getElem?_eq_none (by omega)]
    rfl
  clear hC hGw hTw
  rw [hL 7 (by decide)] at o7
  rw [hL 9 (by decide)] at o7
  rw [hL 11 (by decide)] at o7
  rw [hN 902 (by decide)] at o7
  rw [hN 903 (by decide)] at o7
  rw [hN 904 (by decide)] at o7
  rw [hN 905 (by decide)] at o7
  rw [hN 906 (by decide)] at o7
  rw [hN 908 (by decide)] at o7
  clear hL hN hz
  have z7 := z2.below b7 hl2
  go_wp2_with (first
    | (refine at_load rfl _ rfl w2.heap.size rfl _ o7 ?_)
    | (refine at_store rfl _ _ rfl rfl w1.heap.size rfl NL.zero _ rfl z7 ?_; rintro w8 g8))
  have b8 := b2.trans (b7.mono b2.size)
  refine bodyPost_ret (results_row_tmpQ (by rfl) _ _ w1.heap.size _ _ _ _ rfl g8.bx Try.underlying36 rfl (NL.size _)) rfl ⟨rfl, g8.next b8 (Nat.le_of_lt hl1)⟩
set_option maxHeartbeats 4000000 in
theorem only_3 (n : NL) (hk : n.k = 3) (w : World) : Calls Try.prog 38 #[n.v] w fun r w' => r = .returned (.tuple #[n.flood.v, .bool true]) ∧ Below w.heap.size w w' := by
  have q1 : (n.k == 1) = false := by simp [hk]
  have q2 : (n.k == 2) = false := by simp [hk]
  have q3 : (n.k == 3) = true := by simp [hk]
  clear hk
  unfold NL.v
  go_enter Try.func38, Try.ntmps38
  go_upto_region 1 with (first
    | (refine at_box rfl _ rfl n rfl ?_; rintro w1 ⟨x1, k1, s1⟩; clear s1)
    | (refine at_new rfl rfl ?_; rintro w2 ⟨z2, k2, s2⟩; clear s2))
  have hl1 := x1.lt
  have hl2 := z2.lt
  have x2 := x1.below k2 x1.lt
  have b2 := k1.trans (k2.mono k1.size)
  have c0 := Blk.cell x2 0 (v := .int .i64 n.k) rfl
  have c1 := Blk.cell x2 1 (v := .int .u64 n.rd) rfl
  go_upto_region 2 with (first
    | (refine at_build rfl _ rfl (o0 n) (by kernel_rfl) ?_)
    | (refine at_new rfl rfl ?_; rintro w3 ⟨z3, k3, s3⟩; clear s3)
    | (refine at_store rfl _ _ rfl rfl w2.heap.size rfl NL.zero (o0 n) rfl z3 ?_; rintro w4 g4; have o5 := g4.bx; have b5 := But.below k3 g4.but (Nat.le_refl _) k3.size))
  clear c0 c1 k1 k2
  have x5 := x2.below b5 x2.lt
  have c0 := Blk.cell x5 0 (v := .int .i64 n.k) rfl
  go_upto_region 11 with fail
  clear c0
  refine wp_region_freeC (Co 10 w2 w.heap.size w2.heap.size n ({ n with h := true }) ⟨n.k, n.rd, fun _ => 0, 0, 0, 0, false, 0, 0, 0, 0, 0⟩ 900 5 902 7 9 905 906 907 908) (fun _ => false) (fun _ _ => True) (by kernel_rfl) (by kernel_rfl) (by kernel_rfl) (fun x y L w' ha h => h) (fun _ => undef) (fun _ h => by cases h) (Co.start b5 x5 o5) (fun x _ => ?_)
  obtain ⟨Tw, Gw, hTw, hGw, -⟩ := family (fun _ => True) w trivial
  refine free_calm (G := Gw) rfl (fun L w' _ hC => hGw w' trivial) (fun L w' _ hC => Co.calm _ (by decide) hC) (fun K hK => ?_)
  go_simp
  refine hK _ ?_
  clear hK K
  refine free_put (.int .u32 n.t) rfl (by first | rfl | go_simp) (fun L w' hrd hC => ⟨w', ld_uint32 (.tmp 51) rfl w.heap.size 12 rfl n _ hC.2.2.1 rfl, hC.calm _ (by decide)⟩) ?_
  try dsimp only
  refine free_calm (G := Gw) rfl (fun L w' _ hC => hGw w' trivial) (fun L w' _ hC => Co.calm _ (by decide) hC) (fun K hK => ?_)
  go_simp
  refine hK _ ?_
  clear hK K
  refine free_put (.int .u32 n.ip) rfl (by first | rfl | go_simp) (fun L w' hrd hC => ⟨w', ld_IP (.tmp 53) rfl w.heap.size 14 rfl n _ hC.2.2.1 rfl, hC.calm _ (by decide)⟩) ?_
  try dsimp only
  refine free_calm (G := Gw) rfl (fun L w' _ hC => hGw w' trivial) (fun L w' _ hC => Co.calm _ (by decide) hC) (fun K hK => ?_)
  go_simp
  refine hK _ ?_
  clear hK K
  refine free_skip rfl (by first | rfl | go_simp) (fun L w' hrd hC => Co.p_t (.tmp 55) (.tmp 52) rfl rfl rfl (by decide) (by omega) (by omega) (ready_undone hrd).2 hC) ?_
  try dsimp only
  refine free_calm (G := Gw) rfl (fun L w' _ hC => hGw w' trivial) (fun L w' _ hC => Co.calm _ (by decide) hC) (fun K hK => ?_)
  go_simp
  refine hK _ ?_
  clear hK K
  refine free_skip rfl (by first | rfl | go_simp) (fun L w' hrd hC => Co.p_ip (.tmp 56) (.tmp 54) rfl rfl rfl (by decide) (by omega) (by omega) (ready_undone hrd).2 hC) ?_
  try dsimp only
  refine free_calm (G := Gw) rfl (fun L w' _ hC => hGw w' trivial) (fun L w' _ hC => Co.calm _ (by decide) hC) (fun K hK => ?_)
  go_simp
  refine hK _ ?_
  clear hK K
  refine free_skip rfl (by first | rfl | go_simp) (fun L w' hrd hC => Co.p_h (.tmp 57) (.const (.bool true)) rfl rfl rfl (by decide) (by omega) (by omega) (ready_undone hrd).2 hC) ?_
  try dsimp only
  refine free_nil ?_
  intro L w7 hL hC
  have o7 := hC.2.2.2
  have b7 := hC.2.1
  have hz := hC.1
  have hN : ∀ j, 900 ≤ j → L.getD j false = false := fun j hj => by
    rw [Array.getD_eq_getD_getElem?, Array.getElem?_eq_none (by omega)]
    rfl
  clear hC hGw hTw
  rw [hL 5 (by decide)] at o7
  rw [hL 7 (by decide)] at o7
  rw [hL 9 (by decide)] at o7
  rw [hN 900 (by decide)] at o7
  rw [hN 902 (by decide)] at o7
  rw [hN 905 (by decide)] at o7
  rw [hN 906 (by decide)] at o7
  rw [hN 907 (by decide)] at o7
  rw [hN 908 (by decide)] at o7
  clear hL hN hz
  have z7 := z2.below b7 hl2
  go_wp2_with (first
    | (refine at_load rfl _ rfl w2.heap.size rfl _ o7 ?_)
    | (refine at_store rfl _ _ rfl rfl w1.heap.size rfl NL.zero _ rfl z7 ?_; rintro w8 g8))
  have b8 := b2.trans (b7.mono b2.size)
  refine bodyPost_ret (results_row_tmpQ (by rfl) _ _ w1.heap.size _ _ _ _ rfl g8.bx Try.underlying36 rfl (NL.size _)) rfl ⟨rfl, g8.next b8 (Nat.le_of_lt hl1)⟩
set_option maxHeartbeats 4000000 in
theorem only_4 (n : NL) (hk : n.k = 4) (w : World) : Calls Try.prog 38 #[n.v] w fun r w' => r = .returned (.tuple #[n.segment.v, .bool true]) ∧ Below w.heap.size w w' := by
  have q1 : (n.k == 1) = false := by simp [hk]
  have q2 : (n.k == 2) = false := by simp [hk]
  have q3 : (n.k == 3) = false := by simp [hk]
  have q4 : (n.k == 4) = true := by simp [hk]
  clear hk
  unfold NL.v
  go_enter Try.func38, Try.ntmps38
  go_upto_region 1 with (first
    | (refine at_box rfl _ rfl n rfl ?_; rintro w1 ⟨x1, k1, s1⟩; clear s1)
    | (refine at_new rfl rfl ?_; rintro w2 ⟨z2, k2, s2⟩; clear s2))
  have hl1 := x1.lt
  have hl2 := z2.lt
  have x2 := x1.below k2 x1.lt
  have b2 := k1.trans (k2.mono k1.size)
  have c0 := Blk.cell x2 0 (v := .int .i64 n.k) rfl
  have c1 := Blk.cell x2 1 (v := .int .u64 n.rd) rfl
  go_upto_region 2 with (first
    | (refine at_build rfl _ rfl (o0 n) (by kernel_rfl) ?_)
    | (refine at_new rfl rfl ?_; rintro w3 ⟨z3, k3, s3⟩; clear s3)
    | (refine at_store rfl _ _ rfl rfl w2.heap.size rfl NL.zero (o0 n) rfl z3 ?_; rintro w4 g4; have o5 := g4.bx; have b5 := But.below k3 g4.but (Nat.le_refl _) k3.size))
  clear c0 c1 k1 k2
  have x5 := x2.below b5 x2.lt
  have c0 := Blk.cell x5 0 (v := .int .i64 n.k) rfl
  go_upto_region 13 with fail
  clear c0
  refine wp_region_freeC (Co 10 w2 w.heap.size w2.heap.size n ({ n with h := true }) ⟨n.k, n.rd, fun _ => 0, 0, 0, 0, false, 0, 0, 0, 0, 0⟩ 5 901 902 7 9 905 906 907 908) (fun _ => false) (fun _ _ => True) (by kernel_rfl) (by kernel_rfl) (by kernel_rfl) (fun x y L w' ha h => h) (fun _ => undef) (fun _ h => by cases h) (Co.start b5 x5 o5) (fun x _ => ?_)
  obtain ⟨Tw, Gw, hTw, hGw, -⟩ := family (fun _ => True) w trivial
  refine free_calm (G := Gw) rfl (fun L w' _ hC => hGw w' trivial) (fun L w' _ hC => Co.calm _ (by decide) hC) (fun K hK => ?_)
  go_simp
  refine hK _ ?_
  clear hK K
  refine free_put (.agg (esi n.e).toArray) rfl (by first | rfl | go_simp) (fun L w' hrd hC => ⟨w', ld_esi (.tmp 60) rfl w.heap.size rfl n hC.2.2.1, hC.calm _ (by decide)⟩) ?_
  try dsimp only
  refine free_calm (G := Gw) rfl (fun L w' _ hC => hGw w' trivial) (fun L w' _ hC => Co.calm _ (by decide) hC) (fun K hK => ?_)
  go_simp
  refine hK _ ?_
  clear hK K
  refine free_put (.int .u32 n.ip) rfl (by first | rfl | go_simp) (fun L w' hrd hC => ⟨w', ld_IP (.tmp 62) rfl w.heap.size 14 rfl n _ hC.2.2.1 rfl, hC.calm _ (by decide)⟩) ?_
  try dsimp only
  refine free_calm (G := Gw) rfl (fun L w' _ hC => hGw w' trivial) (fun L w' _ hC => Co.calm _ (by decide) hC) (fun K hK => ?_)
  go_simp
  refine hK _ ?_
  clear hK K
  refine free_skip rfl (by first | rfl | go_simp) (fun L w' hrd hC => Co.p_e (.tmp 64) (.tmp 61) rfl rfl rfl (by decide) (by omega) (by omega) (ready_undone hrd).2 hC) ?_
  try dsimp only
  refine free_calm (G := Gw) rfl (fun L w' _ hC => hGw w' trivial) (fun L w' _ hC => Co.calm _ (by decide) hC) (fun K hK => ?_)
  go_simp
  refine hK _ ?_
  clear hK K
  refine free_skip rfl (by first | rfl | go_simp) (fun L w' hrd hC => Co.p_ip (.tmp 65) (.tmp 63) rfl rfl rfl (by decide) (by omega) (by omega) (ready_undone hrd).2 hC) ?_
  try dsimp only
  refine free_calm (G := Gw) rfl (fun L w' _ hC => hGw w' trivial) (fun L w' _ hC => Co.calm _ (by decide) hC) (fun K hK => ?_)
  go_simp
  refine hK _ ?_
  clear hK K
  refine free_skip rfl (by first | rfl | go_simp) (fun L w' hrd hC => Co.p_h (.tmp 66) (.const (.bool true)) rfl rfl rfl (by decide) (by omega) (by omega) (ready_undone hrd).2 hC) ?_
  try dsimp only
  refine free_nil ?_
  intro L w7 hL hC
  have o7 := hC.2.2.2
  have b7 := hC.2.1
  have hz := hC.1
  have hN : ∀ j, 900 ≤ j → L.getD j false = false := fun j hj => by
    rw [Array.getD_eq_getD_getElem?, Array.getElem?_eq_none (by omega)]
    rfl
  clear hC hGw hTw
  rw [hL 5 (by decide)] at o7
  rw [hL 7 (by decide)] at o7
  rw [hL 9 (by decide)] at o7
  rw [hN 901 (by decide)] at o7
  rw [hN 902 (by decide)] at o7
  rw [hN 905 (by decide)] at o7
  rw [hN 906 (by decide)] at o7
  rw [hN 907 (by decide)] at o7
  rw [hN 908 (by decide)] at o7
  clear hL hN hz
  have z7 := z2.below b7 hl2
  go_wp2_with (first
    | (refine at_load rfl _ rfl w2.heap.size rfl _ o7 ?_)
    | (refine at_store rfl _ _ rfl rfl w1.heap.size rfl NL.zero _ rfl z7 ?_; rintro w8 g8))
  have b8 := b2.trans (b7.mono b2.size)
  refine bodyPost_ret (results_row_tmpQ (by rfl) _ _ w1.heap.size _ _ _ _ rfl g8.bx Try.underlying36 rfl (NL.size _)) rfl ⟨rfl, g8.next b8 (Nat.le_of_lt hl1)⟩
set_option maxHeartbeats 4000000 in
theorem only_5 (n : NL) (hk : n.k = 5) (w : World) : Calls Try.prog 38 #[n.v] w fun r w' => r = .returned (.tuple #[n.prefix_.v, .bool true]) ∧ Below w.heap.size w w' := by
  have q1 : (n.k == 1) = false := by simp [hk]
  have q2 : (n.k == 2) = false := by simp [hk]
  have q3 : (n.k == 3) = false := by simp [hk]
  have q4 : (n.k == 4) = false := by simp [hk]
  have q5 : (n.k == 5) = true := by simp [hk]
  clear hk
  unfold NL.v
  go_enter Try.func38, Try.ntmps38
  go_upto_region 1 with (first
    | (refine at_box rfl _ rfl n rfl ?_; rintro w1 ⟨x1, k1, s1⟩; clear s1)
    | (refine at_new rfl rfl ?_; rintro w2 ⟨z2, k2, s2⟩; clear s2))
  have hl1 := x1.lt
  have hl2 := z2.lt
  have x2 := x1.below k2 x1.lt
  have b2 := k1.trans (k2.mono k1.size)
  have c0 := Blk.cell x2 0 (v := .int .i64 n.k) rfl
  have c1 := Blk.cell x2 1 (v := .int .u64 n.rd) rfl
  go_upto_region 2 with (first
    | (refine at_build rfl _ rfl (o0 n) (by kernel_rfl) ?_)
    | (refine at_new rfl rfl ?_; rintro w3 ⟨z3, k3, s3⟩; clear s3)
    | (refine at_store rfl _ _ rfl rfl w2.heap.size rfl NL.zero (o0 n) rfl z3 ?_; rintro w4 g4; have o5 := g4.bx; have b5 := But.below k3 g4.but (Nat.le_refl _) k3.size))
  clear c0 c1 k1 k2
  have x5 := x2.below b5 x2.lt
  have c0 := Blk.cell x5 0 (v := .int .i64 n.k) rfl
  go_upto_region 15 with fail
  clear c0
  refine wp_region_freeC (Co 20 w2 w.heap.size w2.heap.size n (n) ⟨n.k, n.rd, fun _ => 0, 0, 0, 0, false, 0, 0, 0, 0, 0⟩ 11 13 902 903 904 15 17 19 908) (fun _ => false) (fun _ _ => True) (by kernel_rfl) (by kernel_rfl) (by kernel_rfl) (fun x y L w' ha h => h) (fun _ => undef) (fun _ h => by cases h) (Co.start b5 x5 o5) (fun x _ => ?_)
  obtain ⟨Tw, Gw, hTw, hGw, -⟩ := family (fun _ => True) w trivial
  refine free_calm (G := Gw) rfl (fun L w' _ hC => hGw w' trivial) (fun L w' _ hC => Co.calm _ (by decide) hC) (fun K hK => ?_)
  go_simp
  refine hK _ ?_
  clear hK K
  refine free_put (.agg (esi n.e).toArray) rfl (by first | rfl | go_simp) (fun L w' hrd hC => ⟨w', ld_esi (.tmp 69) rfl w.heap.size rfl n hC.2.2.1, hC.calm _ (by decide)⟩) ?_
  try dsimp only
  refine free_calm (G := Gw) rfl (fun L w' _ hC => hGw w' trivial) (fun L w' _ hC => Co.calm _ (by decide) hC) (fun K hK => ?_)
  go_simp
  refine hK _ ?_
  clear hK K
  refine free_put (.int .u32 n.t) rfl (by first | rfl | go_simp) (fun L w' hrd hC => ⟨w', ld_uint32 (.tmp 71) rfl w.heap.size 12 rfl n _ hC.2.2.1 rfl, hC.calm _ (by decide)⟩) ?_
  try dsimp only
  refine free_calm (G := Gw) rfl (fun L w' _ hC => hGw w' trivial) (fun L w' _ hC => Co.calm _ (by decide) hC) (fun K hK => ?_)
  go_simp
  refine hK _ ?_
  clear hK K
  refine free_put (.agg #[.int .u32 n.pi, .int .i64 n.pn]) rfl (by first | rfl | go_simp) (fun L w' hrd hC => ⟨w', ld_pfx (.tmp 73) rfl w.heap.size rfl n hC.2.2.1, hC.calm _ (by decide)⟩) ?_
  try dsimp only
  refine free_calm (G := Gw) rfl (fun L w' _ hC => hGw w' trivial) (fun L w' _ hC => Co.calm _ (by decide) hC) (fun K hK => ?_)
  go_simp
  refine hK _ ?_
  clear hK K
  refine free_put (.int .u32 n.g) rfl (by first | rfl | go_simp) (fun L w' hrd hC => ⟨w', ld_IP (.tmp 75) rfl w.heap.size 18 rfl n _ hC.2.2.1 rfl, hC.calm _ (by decide)⟩) ?_
  try dsimp only
  refine free_calm (G := Gw) rfl (fun L w' _ hC => hGw w' trivial) (fun L w' _ hC => Co.calm _ (by decide) hC) (fun K hK => ?_)
  go_simp
  refine hK _ ?_
  clear hK K
  refine free_put (.int .u32 n.l) rfl (by first | rfl | go_simp) (fun L w' hrd hC => ⟨w', ld_uint32 (.tmp 77) rfl w.heap.size 19 rfl n _ hC.2.2.1 rfl, hC.calm _ (by decide)⟩) ?_
  try dsimp only
  refine free_calm (G := Gw) rfl (fun L w' _ hC => hGw w' trivial) (fun L w' _ hC => Co.calm _ (by decide) hC) (fun K hK => ?_)
  go_simp
  refine hK _ ?_
  clear hK K
  refine free_skip rfl (by first | rfl | go_simp) (fun L w' hrd hC => Co.p_e (.tmp 79) (.tmp 70) rfl rfl rfl (by decide) (by omega) (by omega) (ready_undone hrd).2 hC) ?_
  try dsimp only
  refine free_calm (G := Gw) rfl (fun L w' _ hC => hGw w' trivial) (fun L w' _ hC => Co.calm _ (by decide) hC) (fun K hK => ?_)
  go_simp
  refine hK _ ?_
  clear hK K
  refine free_skip rfl (by first | rfl | go_simp) (fun L w' hrd hC => Co.p_t (.tmp 80) (.tmp 72) rfl rfl rfl (by decide) (by omega) (by omega) (ready_undone hrd).2 hC) ?_
  try dsimp only
  refine free_calm (G := Gw) rfl (fun L w' _ hC => hGw w' trivial) (fun L w' _ hC => Co.calm _ (by decide) hC) (fun K hK => ?_)
  go_simp
  refine hK _ ?_
  clear hK K
  refine free_skip rfl (by first | rfl | go_simp) (fun L w' hrd hC => Co.p_p (.tmp 81) (.tmp 74) rfl rfl rfl (by decide) (by omega) (by omega) (ready_undone hrd).2 hC) ?_
  try dsimp only
  refine free_calm (G := Gw) rfl (fun L w' _ hC => hGw w' trivial) (fun L w' _ hC => Co.calm _ (by decide) hC) (fun K hK => ?_)
  go_simp
  refine hK _ ?_
  clear hK K
  refine free_skip rfl (by first | rfl | go_simp) (fun L w' hrd hC => Co.p_g (.tmp 82) (.tmp 76) rfl rfl rfl (by decide) (by omega) (by omega) (ready_undone hrd).2 hC) ?_
  try dsimp only
  refine free_calm (G := Gw) rfl (fun L w' _ hC => hGw w' trivial) (fun L w' _ hC => Co.calm _ (by decide) hC) (fun K hK => ?_)
  go_simp
  refine hK _ ?_
  clear hK K
  refine free_skip rfl (by first | rfl | go_simp) (fun L w' hrd hC => Co.p_l (.tmp 83) (.tmp 78) rfl rfl rfl (by decide) (by omega) (by omega) (ready_undone hrd).2 hC) ?_
  try dsimp only
  refine free_nil ?_
  intro L w7 hL hC
  have o7 := hC.2.2.2
  have b7 := hC.2.1
  have hz := hC.1
  have hN : ∀ j, 900 ≤ j → L.getD j false = false := fun j hj => by
    rw [Array.getD_eq_getD_getElem?, Array.getElem?_eq_none (by omega)]
    rfl
  clear hC hGw hTw
  rw [hL 11 (by decide)] at o7
  rw [hL 13 (by decide)] at o7
  rw [hL 15 (by decide)] at o7
  rw [hL 17 (by decide)] at o7
  rw [hL 19 (by decide)] at o7
  rw [hN 902 (by decide)] at o7
  rw [hN 903 (by decide)] at o7
  rw [hN 904 (by decide)] at o7
  rw [hN 908 (by decide)] at o7
  clear hL hN hz
  have z7 := z2.below b7 hl2
  go_wp2_with (first
    | (refine at_load rfl _ rfl w2.heap.size rfl _ o7 ?_)
    | (refine at_store rfl _ _ rfl rfl w1.heap.size rfl NL.zero _ rfl z7 ?_; rintro w8 g8))
  have b8 := b2.trans (b7.mono b2.size)
  refine bodyPost_ret (results_row_tmpQ (by rfl) _ _ w1.heap.size _ _ _ _ rfl g8.bx Try.underlying36 rfl (NL.size _)) rfl ⟨rfl, g8.next b8 (Nat.le_of_lt hl1)⟩
set_option maxHeartbeats 4000000 in
theorem only_2 (n : NL) (hk : n.k = 2) (w : World) : Calls Try.prog 38 #[n.v] w fun r w' => r = .returned (.tuple #[n.mac.v, .bool true]) ∧ Below w.heap.size w w' := by
  have q1 : (n.k == 1) = false := by simp [hk]
  have q2 : (n.k == 2) = true := by simp [hk]
  clear hk
  unfold NL.v
  go_enter Try.func38, Try.ntmps38
  go_upto_region 1 with (first
    | (refine at_box rfl _ rfl n rfl ?_; rintro w1 ⟨x1, k1, s1⟩; clear s1)
    | (refine at_new rfl rfl ?_; rintro w2 ⟨z2, k2, s2⟩; clear s2))
  have hl1 := x1.lt
  have hl2 := z2.lt
  have x2 := x1.below k2 x1.lt
  have b2 := k1.trans (k2.mono k1.size)
  have c0 := Blk.cell x2 0 (v := .int .i64 n.k) rfl
  have c1 := Blk.cell x2 1 (v := .int .u64 n.rd) rfl
  go_upto_region 2 with (first
    | (refine at_build rfl _ rfl (o0 n) (by kernel_rfl) ?_)
    | (refine at_new rfl rfl ?_; rintro w3 ⟨z3, k3, s3⟩; clear s3)
    | (refine at_store rfl _ _ rfl rfl w2.heap.size rfl NL.zero (o0 n) rfl z3 ?_; rintro w4 g4; have o5 := g4.bx; have b5 := But.below k3 g4.but (Nat.le_refl _) k3.size))
  clear c0 c1 k1 k2
  have x5 := x2.below b5 x2.lt
  have c0 := Blk.cell x5 0 (v := .int .i64 n.k) rfl
  go_upto_region 7 with fail
  clear c0
  refine wp_region_freeC (Co 24 w2 w.heap.size w2.heap.size n (n) ⟨n.k, n.rd, fun _ => 0, 0, 0, 0, false, 0, 0, 0, 0, 0⟩ 13 15 17 903 19 905 906 21 23) (fun _ => false) (fun _ _ => True) (by kernel_rfl) (by kernel_rfl) (by kernel_rfl) (fun x y L w' ha h => h) (fun _ => undef) (fun _ h => by cases h) (Co.start b5 x5 o5) (fun x _ => ?_)
  obtain ⟨Tw, Gw, hTw, hGw, -⟩ := family (fun _ => True) w trivial
  refine free_calm (G := Gw) rfl (fun L w' _ hC => hGw w' trivial) (fun L w' _ hC => Co.calm _ (by decide) hC) (fun K hK => ?_)
  go_simp
  refine hK _ ?_
  clear hK K
  refine free_put (.agg (esi n.e).toArray) rfl (by first | rfl | go_simp) (fun L w' hrd hC => ⟨w', ld_esi (.tmp 26) rfl w.heap.size rfl n hC.2.2.1, hC.calm _ (by decide)⟩) ?_
  try dsimp only
  refine free_calm (G := Gw) rfl (fun L w' _ hC => hGw w' trivial) (fun L w' _ hC => Co.calm _ (by decide) hC) (fun K hK => ?_)
  go_simp
  refine hK _ ?_
  clear hK K
  refine free_put (.int .u32 n.t) rfl (by first | rfl | go_simp) (fun L w' hrd hC => ⟨w', ld_uint32 (.tmp 28) rfl w.heap.size 12 rfl n _ hC.2.2.1 rfl, hC.calm _ (by decide)⟩) ?_
  try dsimp only
  refine free_calm (G := Gw) rfl (fun L w' _ hC => hGw w' trivial) (fun L w' _ hC => Co.calm _ (by decide) hC) (fun K hK => ?_)
  go_simp
  refine hK _ ?_
  clear hK K
  refine free_put (.int .u64 n.m) rfl (by first | rfl | go_simp) (fun L w' hrd hC => ⟨w', ld_MAC (.tmp 30) rfl w.heap.size 13 rfl n _ hC.2.2.1 rfl, hC.calm _ (by decide)⟩) ?_
  try dsimp only
  refine free_calm (G := Gw) rfl (fun L w' _ hC => hGw w' trivial) (fun L w' _ hC => Co.calm _ (by decide) hC) (fun K hK => ?_)
  go_simp
  refine hK _ ?_
  clear hK K
  refine free_put (.bool n.h) rfl (by first | rfl | go_simp) (fun L w' hrd hC => ⟨w', ld_bool (.tmp 32) rfl w.heap.size 15 rfl n _ hC.2.2.1 rfl, hC.calm _ (by decide)⟩) ?_
  try dsimp only
  refine free_calm (G := Gw) rfl (fun L w' _ hC => hGw w' trivial) (fun L w' _ hC => Co.calm _ (by decide) hC) (fun K hK => ?_)
  go_simp
  refine hK _ ?_
  clear hK K
  refine free_put (.int .u32 n.l) rfl (by first | rfl | go_simp) (fun L w' hrd hC => ⟨w', ld_uint32 (.tmp 34) rfl w.heap.size 19 rfl n _ hC.2.2.1 rfl, hC.calm _ (by decide)⟩) ?_
  try dsimp only
  refine free_calm (G := Gw) rfl (fun L w' _ hC => hGw w' trivial) (fun L w' _ hC => Co.calm _ (by decide) hC) (fun K hK => ?_)
  go_simp
  refine hK _ ?_
  clear hK K
  refine free_put (.int .u32 n.l2) rfl (by first | rfl | go_simp) (fun L w' hrd hC => ⟨w', ld_uint32 (.tmp 36) rfl w.heap.size 20 rfl n _ hC.2.2.1 rfl, hC.calm _ (by decide)⟩) ?_
  try dsimp only
  refine free_calm (G := Gw) rfl (fun L w' _ hC => hGw w' trivial) (fun L w' _ hC => Co.calm _ (by decide) hC) (fun K hK => ?_)
  go_simp
  refine hK _ ?_
  clear hK K
  refine free_skip rfl (by first | rfl | go_simp) (fun L w' hrd hC => Co.p_e (.tmp 38) (.tmp 27) rfl rfl rfl (by decide) (by omega) (by omega) (ready_undone hrd).2 hC) ?_
  try dsimp only
  refine free_calm (G := Gw) rfl (fun L w' _ hC => hGw w' trivial) (fun L w' _ hC => Co.calm _ (by decide) hC) (fun K hK => ?_)
  go_simp
  refine hK _ ?_
  clear hK K
  refine free_skip rfl (by first | rfl | go_simp) (fun L w' hrd hC => Co.p_t (.tmp 39) (.tmp 29) rfl rfl rfl (by decide) (by omega) (by omega) (ready_undone hrd).2 hC) ?_
  try dsimp only
  refine free_calm (G := Gw) rfl (fun L w' _ hC => hGw w' trivial) (fun L w' _ hC => Co.calm _ (by decide) hC) (fun K hK => ?_)
  go_simp
  refine hK _ ?_
  clear hK K
  refine free_skip rfl (by first | rfl | go_simp) (fun L w' hrd hC => Co.p_m (.tmp 40) (.tmp 31) rfl rfl rfl (by decide) (by omega) (by omega) (ready_undone hrd).2 hC) ?_
  try dsimp only
  refine free_calm (G := Gw) rfl (fun L w' _ hC => hGw w' trivial) (fun L w' _ hC => Co.calm _ (by decide) hC) (fun K hK => ?_)
  go_simp
  refine hK _ ?_
  clear hK K
  refine free_skip rfl (by first | rfl | go_simp) (fun L w' hrd hC => Co.p_h (.tmp 41) (.tmp 33) rfl rfl rfl (by decide) (by omega) (by omega) (ready_undone hrd).2 hC) ?_
  try dsimp only
  refine free_calm (G := Gw) rfl (fun L w' _ hC => hGw w' trivial) (fun L w' _ hC => Co.calm _ (by decide) hC) (fun K hK => ?_)
  go_simp
  refine hK _ ?_
  clear hK K
  refine free_skip rfl (by first | rfl | go_simp) (fun L w' hrd hC => Co.p_l (.tmp 42) (.tmp 35) rfl rfl rfl (by decide) (by omega) (by omega) (ready_undone hrd).2 hC) ?_
  try dsimp only
  refine free_calm (G := Gw) rfl (fun L w' _ hC => hGw w' trivial) (fun L w' _ hC => Co.calm _ (by decide) hC) (fun K hK => ?_)
  go_simp
  refine hK _ ?_
  clear hK K
  refine free_skip rfl (by first | rfl | go_simp) (fun L w' hrd hC => Co.p_l2 (.tmp 43) (.tmp 37) rfl rfl rfl (by decide) (by omega) (by omega) (ready_undone hrd).2 hC) ?_
  try dsimp only
  refine free_nil ?_
  intro L w7 hL hC
  have o7 := hC.2.2.2
  have b7 := hC.2.1
  have hz := hC.1
  have hN : ∀ j, 900 ≤ j → L.getD j false = false := fun j hj => by
    rw [Array.getD_eq_getD_getElem?, Array.getElem?_eq_none (by omega)]
    rfl
  clear hC hGw hTw
  rw [hL 13 (by decide)] at o7
  rw [hL 15 (by decide)] at o7
  rw [hL 17 (by decide)] at o7
  rw [hL 19 (by decide)] at o7
  rw [hL 21 (by decide)] at o7
  rw [hL 23 (by decide)] at o7
  rw [hN 903 (by decide)] at o7
  rw [hN 905 (by decide)] at o7
  rw [hN 906 (by decide)] at o7
  clear hL hN hz
  have x7 := x2.below b7 x2.lt
  have z7 := z2.below b7 hl2
  have b8 := b2.trans (b7.mono b2.size)
  have c15 := Blk.cell x7 15 (v := .bool n.h) rfl
  have c14 := Blk.cell x7 14 (v := .int .u32 n.ip) rfl
  cases A : n.h with
  | false =>
    rw [A] at c15
    go_wp2_with (first
      | (refine at_load rfl _ rfl w2.heap.size rfl _ o7 ?_)
      | (refine at_store rfl _ _ rfl rfl w1.heap.size rfl NL.zero _ rfl z7 ?_; rintro w8 g8))
    refine bodyPost_ret (results_row_tmpQ (by rfl) _ _ w1.heap.size _ _ _ _ rfl g8.bx Try.underlying36 rfl (NL.size _)) rfl ⟨?_, g8.next b8 (Nat.le_of_lt hl1)⟩
    simp [NL.mac, NL.v, NL.cs, Mx, A]
  | true =>
    rw [A] at c15
    go_wp2_with (first
      | (refine at_set rfl 32 _ _ rfl rfl w2.heap.size 14 rfl _ ({ (Mx n (o0 n) true true true false true false false true true) with ip := n.ip }) (.int .u32 n.ip) rfl o7 rfl rfl rfl ip_one (by decide) ?_; rintro w9 g9; have o9 := g9.bx; have z9 := g9.other z7 (by omega); have b9 := g9.next b8 (by omega); clear o7 z7)
      | (refine at_load rfl _ rfl w2.heap.size rfl _ o9 ?_)
      | (refine at_store rfl _ _ rfl rfl w1.heap.size rfl NL.zero _ rfl z9 ?_; rintro w8 g8))
    refine bodyPost_ret (results_row_tmpQ (by rfl) _ _ w1.heap.size _ _ _ _ rfl g8.bx Try.underlying36 rfl (NL.size _)) rfl ⟨?_, g8.next b9 (Nat.le_of_lt hl1)⟩
    simp [NL.mac, NL.v, NL.cs, Mx, o0, A]
set_option maxHeartbeats 4000000 in
theorem only_no (n : NL) (q1 : (n.k == 1) = false) (q2 : (n.k == 2) = false) (q3 : (n.k == 3) = false) (q4 : (n.k == 4) = false) (q5 : (n.k == 5) = false) (w : World) : Calls Try.prog 38 #[n.v] w fun r w' => r = .returned (.tuple #[(o0 n).v, .bool false]) ∧ Below w.heap.size w w' := by
  unfold NL.v
  go_enter Try.func38, Try.ntmps38
  go_upto_region 1 with (first
    | (refine at_box rfl _ rfl n rfl ?_; rintro w1 ⟨x1, k1, s1⟩; clear s1)
    | (refine at_new rfl rfl ?_; rintro w2 ⟨z2, k2, s2⟩; clear s2))
  have hl1 := x1.lt
  have hl2 := z2.lt
  have x2 := x1.below k2 x1.lt
  have b2 := k1.trans (k2.mono k1.size)
  have c0 := Blk.cell x2 0 (v := .int .i64 n.k) rfl
  have c1 := Blk.cell x2 1 (v := .int .u64 n.rd) rfl
  go_upto_region 2 with (first
    | (refine at_build rfl _ rfl (o0 n) (by kernel_rfl) ?_)
    | (refine at_new rfl rfl ?_; rintro w3 ⟨z3, k3, s3⟩; clear s3)
    | (refine at_store rfl _ _ rfl rfl w2.heap.size rfl NL.zero (o0 n) rfl z3 ?_; rintro w4 g4; have o5 := g4.bx; have b5 := But.below k3 g4.but (Nat.le_refl _) k3.size))
  clear c0 c1 k1 k2
  have x5 := x2.below b5 x2.lt
  have c0 := Blk.cell x5 0 (v := .int .i64 n.k) rfl
  have z5 := z2.below b5 hl2
  have b8 := b2.trans (b5.mono b2.size)
  go_wp2_with (first
    | (refine at_load rfl _ rfl w2.heap.size rfl _ o5 ?_)
    | (refine at_store rfl _ _ rfl rfl w1.heap.size rfl NL.zero _ rfl z5 ?_; rintro w8 g8))
  refine bodyPost_ret (results_row_tmpQ (by rfl) _ _ w1.heap.size _ _ _ _ rfl g8.bx Try.underlying36 rfl (NL.size _)) rfl ⟨rfl, g8.next b8 (Nat.le_of_lt hl1)⟩
theorem only_is (n : NL) (h : lay n.k ≠ none) (w : World) : Calls Try.prog 38 #[n.v] w fun r w' => r = .returned (.tuple #[n.norm.v, .bool true]) ∧ Below w.heap.size w w' := by
  unfold NL.norm
  rcases kind_of_lay h with q | q | q | q | q
  · rw [if_pos q]
    exact only_1 n q w
  · rw [if_neg (by omega), if_pos q]
    exact only_2 n q w
  · rw [if_neg (by omega), if_neg (by omega), if_pos q]
    exact only_3 n q w
  · rw [if_neg (by omega), if_neg (by omega), if_neg (by omega), if_pos q]
    exact only_4 n q w
  · rw [if_neg (by omega), if_neg (by omega), if_neg (by omega), if_neg (by omega), if_pos q]
    exact only_5 n q w
theorem only_none (n : NL) (h : lay n.k = none) (w : World) : Calls Try.prog 38 #[n.v] w fun r w' => r = .returned (.tuple #[(o0 n).v, .bool false]) ∧ Below w.heap.size w w' := by
  have k : ∀ c : Int, 1 ≤ c → c ≤ 5 → (n.k == c) = false := fun c h1 h2 => by
    have : n.k ≠ c := fun e => by
      rw [e] at h
      obtain e1 | e1 | e1 | e1 | e1 : c = 1 ∨ c = 2 ∨ c = 3 ∨ c = 4 ∨ c = 5 := by omega
      all_goals (rw [e1] at h; revert h; decide)
    simpa using this
  exact only_no n (k 1 (by decide) (by decide)) (k 2 (by decide) (by decide)) (k 3 (by decide) (by decide)) (k 4 (by decide) (by decide)) (k 5 (by decide) (by decide)) w
end Go.Proofs.Ytejcclcckgdbgaa
