/- The writer: marks. No condition. -/
import Derived.Test.YtailaenkmknpiaaWNl
import Derived.Maps.OwnSet
import Derived.Maps.OwnOps
namespace Go.Proofs.Ytailaenkmknpiaa
open Go.RowKit Go.Maps
set_option linter.unusedVariables false
set_option linter.unusedSimpArgs false
set_option maxRecDepth 100000

theorem key_int : Keyed Try.prog 3 := int_keyed Try.underlying3
theorem key_of (n : Nat) (h : n ≤ 1099511627776) : keyOf Try.prog 3 (.int .i64 n) = some (.int .i64 n) :=
  keyOf_int_mk Try.underlying3 (by simp only [Lit.wf, IntKind.min, IntKind.max, IntKind.signed, IntKind.bits, Bool.and_eq_true, decide_eq_true_eq, if_true]; omega)
/-- The open marks: the map in block m. -/
def Mks (w : World) (m n : Nat) (D : DataW Unit) : Prop := w.ownsMap Try.prog 3 unitElem m n D
theorem mks_ne {w : World} {m n b : Nat} {D : DataW Unit} {t : TypeId} {cs : List Value} (h : Mks w m n D) (hb : Blk w b t cs) : m ≠ b := by
  rintro rfl
  obtain ⟨es, clock, hm, _⟩ := h
  unfold Blk at hb
  rw [hm] at hb
  cases hb
theorem mks_kept {w w' : World} {m n : Nat} {D : DataW Unit} (h : Mks w m n D) (e : w'.heap[m]? = w.heap[m]?) : Mks w' m n D := by
  obtain ⟨es, clock, hm, r⟩ := h
  exact ⟨es, clock, e.trans hm, r⟩
theorem mks_own {w : World} {m n : Nat} {D : DataW Unit} {v : Value} {xs : List Int} (h : Mks w m n D) (hd : Dat w v xs) : some m ≠ v.ownBlock := by
  rcases hd.form with ⟨rfl, rfl⟩ | ⟨g, cap, ds, rfl, h1, h2, hg, h3, h4⟩
  · simp [Value.ownBlock]
  · simp only [Value.ownBlock, ne_eq, Option.some.injEq]
    exact mks_ne h hg

/-- Only these blocks may have been written. -/
structure ButP (p : Nat → Prop) (w w' : World) : Prop where
  os : w'.os = w.os
  tape : w'.tape = w.tape
  output : w'.output = w.output
  size : w.heap.size ≤ w'.heap.size
  block : ∀ k, k < w.heap.size → ¬ p k → w'.heap[k]? = w.heap[k]?
theorem ButP.below {p : Nat → Prop} {B : Nat} {w0 w w' : World} (h0 : Below B w0 w) (k : ButP p w w') (hp : ∀ i, i < B → ¬ p i) (hs : B ≤ w.heap.size) : Below B w0 w' :=
  h0.trans ⟨k.os, k.tape, k.output, k.size, fun i hi => k.block i (by omega) (hp i hi)⟩
def WS.mine (b : Nat) (W : WS) (k : Nat) : Prop := k = b ∨ k = W.mb ∨ some k = W.v.ownBlock

theorem wr_Mark (w : World) (b : Nat) (W : WS) (n : Nat) (D : DataW Unit) (h : Wtr w b W) (hm : Mks w W.mb n D) (hn : n < 1099511627776) (hk : W.xs.length + 2 ≤ W.lim) :
    Calls Try.prog 16 #[.pointer (some ⟨b, 0, none⟩)] w fun e w' => e = .returned (.tuple #[.int .i64 W.xs.length, .int .i64 0]) ∧ ∃ v', Wtr w' b { W with xs := W.xs ++ [0, 0], v := v' } ∧ Mks w' W.mb (n + 1) (D.put (.int .i64 W.xs.length) (.agg [])) ∧ ButP (W.mine b) w w' ∧ (v'.ownBlock = W.v.ownBlock ∨ ∀ g, v'.ownBlock = some g → w.heap.size ≤ g) := by
  have hlen := wr_Len w b W h
  have hx := wr_extend w b W 2 h hk
  have hkey := key_of W.xs.length (by have := h.2.2.2; omega)
  have hmw := mks_own hm h.2.1
  have hmb := mks_ne hm h.1
  go_enter Try.func16, Try.ntmps16
  go_wp2_with (go_at_call 21; refine hlen.mono ?_; rintro e w' ⟨rfl, hw⟩; obtain rfl := hw.symm)
  go_at_call 45
  refine hx.mono ?_
  rintro e w1 ⟨v', rfl, hb1, hd1, hbut, hnew⟩
  have hm1 := mks_kept hm (hbut.block _ hm.lt hmb hmw)
  have c2 := hb1.cell 2 (v := .map (some W.mb)) rfl
  clear hx hlen
  go_wp2_with (at_mapUpdate; refine wpList_mapUpdate_own _ rfl _ _ _ 73 rfl 3 78 key_int Try.underlying73 unitElem W.mb n D rfl hm1 (by unfold maxLen; omega) _ _ _ rfl rfl hkey (.agg []) [] unitElem_mk ?_; intro w2 hm2 hg2)
  go_ret2
  have hb2 : Blk w2 b 75 _ := (hg2.block b hb1.lt (fun e => hmb (Option.some.inj e).symm)).trans hb1
  refine ⟨rfl, v', ⟨hb2, ?_, ?_, ?_, h.2.2.2.2⟩, hm2, ⟨hg2.os.trans hbut.os, hg2.tape.trans hbut.tape, hg2.output.trans hbut.output, Nat.le_trans hbut.size hg2.size, fun k hk hp => ?_⟩, hnew⟩
  · rcases hd1.form with ⟨rfl, e⟩ | ⟨g, cap, ds, rfl, h1, h2, hg, h3, h4⟩
    · simp at e
    · exact Dat.of rfl h1 h2 ((hg2.block g hg.lt (fun e => mks_ne hm1 hg (Option.some.inj e).symm)).trans hg) h3 h4
  · intro x hx
    rcases List.mem_append.1 hx with hx | hx
    · exact h.2.2.1 x hx
    · simp at hx
      omega
  · show (W.xs ++ [0, 0]).length ≤ W.lim
    simpa using hk
  · exact (hg2.block k (Nat.lt_of_lt_of_le hk hbut.size) (fun e => hp (.inr (.inl (Option.some.inj e))))).trans (hbut.block k hk (fun e => hp (.inl e)) (fun e => hp (.inr (.inr e))))
end Go.Proofs.Ytailaenkmknpiaa
