/- The writer: its fields in memory; its inner functions. No condition. -/
import Derived.Test.YtgpjelcihmbiiaaWSto
import Derived.Lib.AppendZeros
import Derived.Laws.Cover3
import Derived.OwnWalk
namespace Go.Proofs.Ytgpjelcihmbiiaa
open Go.RowKit
set_option linter.unusedVariables false
set_option linter.unusedSimpArgs false
set_option maxRecDepth 100000

/-- A writer: its limit, its bytes, the slice that holds them, the block of its marks. -/
structure WS where
  lim : Nat
  xs : List Int
  v : Value
  mb : Nat
def WS.cells (W : WS) : List Value := [.int .i64 W.lim, W.v, .map (some W.mb)]
def Wtr (w : World) (b : Nat) (W : WS) : Prop := Blk w b 113 W.cells ∧ Dat w W.v W.xs ∧ Oct W.xs ∧ W.xs.length ≤ W.lim ∧ W.lim ≤ 65536
/-- Only the writer's own two blocks, b and that of its bytes, may have been written. -/
structure ButW (b : Nat) (v : Value) (w w' : World) : Prop where
  os : w'.os = w.os
  tape : w'.tape = w.tape
  output : w'.output = w.output
  size : w.heap.size ≤ w'.heap.size
  block : ∀ k, k < w.heap.size → k ≠ b → some k ≠ v.ownBlock → w'.heap[k]? = w.heap[k]?
theorem ButW.refl (b : Nat) (v : Value) (w : World) : ButW b v w w := ⟨rfl, rfl, rfl, Nat.le_refl _, fun _ _ _ _ => rfl⟩
theorem ButW.of_below {b : Nat} {v : Value} {w w' : World} (h : Below w.heap.size w w') : ButW b v w w' := ⟨h.os, h.tape, h.output, h.size, fun k hk _ _ => h.block k hk⟩
theorem ButW.blk {b c : Nat} {v : Value} {w w' : World} {t : TypeId} {cs : List Value} (k : ButW b v w w') (h : Blk w c t cs) (hn : c ≠ b) (hv : some c ≠ v.ownBlock) : Blk w' c t cs := (k.block c h.lt hn hv).trans h
theorem ButW.below {B b : Nat} {v : Value} {w0 w w' : World} (h0 : Below B w0 w) (k : ButW b v w w') (hb : B ≤ b) (hv : ∀ g, v.ownBlock = some g → B ≤ g) (hs : B ≤ w.heap.size) : Below B w0 w' :=
  h0.trans ⟨k.os, k.tape, k.output, k.size, fun i hi => k.block i (by omega) (by omega) (fun e => by have := hv i e.symm; omega)⟩

theorem neq_map (m : Option Nat) (w : World) : (binOp .neq 111 (.map m) (.map none)).run Try.prog w = .ok (.bool (!m.isNone)) w := run_neq_map_nil w _ _ _ m Try.underlying111
theorem wr_valid (w : World) (b : Nat) (W : WS) (h : Wtr w b W) : Calls Try.prog 65 #[.pointer (some ⟨b, 0, none⟩)] w fun e w' => e = .returned (.bool true) ∧ w' = w := by
  have c2 := h.1.cell 2 (v := .map (some W.mb)) rfl
  have q := neq_map (some W.mb)
  go_enter Try.func65, Try.ntmps65
  go_wp2
  go_ret
  exact ⟨rfl, rfl⟩

theorem wr_extend_full (w : World) (b : Nat) (W : WS) (k : Nat) (h : Wtr w b W) (hk : W.lim < W.xs.length + k) (hk2 : k ≤ 1099511627776) : Calls Try.prog 85 #[.pointer (some ⟨b, 0, none⟩), .int .i64 k] w fun e w' => e = .returned (.tuple #[.slice none 0 0, .int .i64 7]) ∧ w' = w := by
  have hv := wr_valid w b W h
  obtain ⟨hb, hd, ho, hl1, hl2⟩ := h
  obtain ⟨a, c, hsl, -⟩ := hd.seg
  have c0 := hb.cell 0 (v := .int .i64 W.lim) rfl
  have c1 := hb.cell 1 (v := W.v) rfl
  rw [hsl] at c1
  have hlt : (W.lim : Int) - W.xs.length < k := by omega
  go_enter Try.func85, Try.ntmps85
  go_wp2_with (go_at_call 65; refine hv.mono ?_; rintro e w' ⟨rfl, hw⟩; obtain rfl := hw.symm)
  go_ret2
  exact ⟨rfl, rfl⟩

/-- The slice that extend hands back. -/
def tail (v : Value) (n : Nat) : Value := match v with
  | .slice a len cap => sliced a n len cap 1
  | v => v
theorem tail_is (v : Value) (xs : List Int) {w : World} (h : Dat w v xs) (n : Nat) (hn : n ≤ xs.length) (w' : World) : (Instr.slice 23 v (some (.int .i64 n)) none none).run Try.prog w' = .ok (tail v n) w' := by
  have ee : Try.prog.elem 23 = 5 := by kernel_rfl
  have ht : Try.prog.underlying 23 = some (.slice (Try.prog.elem 23)) := by rw [ee]; exact Try.underlying23
  have es : (sizeOf (Try.prog.elem 23)).run Try.prog w' = .ok 1 w' := by rw [ee]; exact Try.sizeOf5 w'
  obtain ⟨a, c, rfl, -⟩ := h.seg
  rw [run_slice_l w' _ _ _ _ ht .i64 _ (by omega) (by omega), es]
  rfl
theorem Dat.own_ne {w : World} {v : Value} {xs : List Int} {b : Nat} {t : TypeId} {cs : List Value} (h : Dat w v xs) (hb : Blk w b t cs) (ht : t ≠ 5) : some b ≠ v.ownBlock := by
  rcases h.form with ⟨rfl, rfl⟩ | ⟨g, cap, ds, rfl, h1, h2, hg, h3, h4⟩
  · simp [Value.ownBlock]
  · simp only [Value.ownBlock, ne_eq, Option.some.injEq]
    exact hb.ne hg ht
theorem wr_extend (w : World) (b : Nat) (W : WS) (k : Nat) (h : Wtr w b W) (hk : W.xs.length + k ≤ W.lim) : Calls Try.prog 85 #[.pointer (some ⟨b, 0, none⟩), .int .i64 k] w fun e w' => ∃ v', e = .returned (.tuple #[tail v' W.xs.length, .int .i64 0]) ∧ Blk w' b 113 (WS.cells { W with v := v' }) ∧ Dat w' v' (W.xs ++ List.replicate k 0) ∧ ButW b W.v w w' ∧ (v'.ownBlock = W.v.ownBlock ∨ ∀ g, v'.ownBlock = some g → w.heap.size ≤ g) := by
  have hv := wr_valid w b W h
  obtain ⟨hb, hd, ho, hl1, hl2⟩ := h
  obtain ⟨lim, xs, v, mb⟩ := W
  simp only at hb hd ho hl1 hl2 hk hv ⊢
  obtain ⟨v', w1, hr, hd1, hg, hnew⟩ := append_zeros w 23 v xs k hd (by omega)
  have hown := hd.own_ne hb (by decide)
  have hb1 : Blk w1 b 113 (WS.cells ⟨lim, xs, v, mb⟩) := (hg.block b hb.lt hown).trans hb
  have hs := tail_is v' _ hd1 xs.length (by simp)
  obtain ⟨a, c, rfl, -⟩ := hd.seg
  obtain ⟨a', n', c', rfl⟩ : ∃ a' n' c', v' = .slice a' n' c' := by
    obtain ⟨a', c', e, -⟩ := hd1.seg
    exact ⟨_, _, _, e⟩
  have c0 := hb.cell 0 (v := .int .i64 lim) rfl
  have c1 := hb.cell 1 (v := .slice a xs.length c) rfl
  have d1 := hb1.cell 1 (v := .slice a xs.length c) rfl
  have f1 := hb1.frozen 1
  have hlt : ¬ (lim : Int) - xs.length < k := by omega
  go_enter Try.func85, Try.ntmps85
  go_wp2_with (first | (go_at_call 65; refine hv.mono ?_; rintro e w' ⟨rfl, hw⟩; obtain rfl := hw.symm) | (at_builtin; refine Lib.wpList_append_run _ rfl (.tmp 27) (.tmp 28) 23 3 rfl _ _ rfl rfl _ _ hr ?_))
  go_ret2
  refine ⟨_, rfl, hb1.set 1 _, hd1.set hb1 (by decide) 1 _, ⟨hg.os, hg.tape, hg.output, by simpa [World.setCell] using hg.size, fun j hj hn hv => (Below.heap_setCell _ _ _ _ hn).trans (hg.block j hj hv)⟩, hnew⟩
end Go.Proofs.Ytgpjelcihmbiiaa
