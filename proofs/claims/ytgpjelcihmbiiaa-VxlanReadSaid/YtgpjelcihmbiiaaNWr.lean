/- A writer, followed through several calls: what it has written since. No condition. -/
import Derived.Test.YtgpjelcihmbiiaaWLv

namespace Go.Proofs.Ytgpjelcihmbiiaa
open Go.RowKit
set_option linter.unusedVariables false
set_option linter.unusedSimpArgs false
set_option maxRecDepth 100000

/-- Since the world w the writer in block b, which was W, has written ys; beside it nothing that was there has turned. -/
structure Wr (b : Nat) (W : WS) (w : World) (ys : List Int) (v : Value) (w' : World) : Prop where
  wtr : Wtr w' b { W with xs := W.xs ++ ys, v := v }
  but : ButW b W.v w w'
  own : v.ownBlock = W.v.ownBlock ∨ ∀ g, v.ownBlock = some g → w.heap.size ≤ g
theorem Wr.start {w : World} {b : Nat} {W : WS} (h : Wtr w b W) : Wr b W w [] W.v w := ⟨by rw [List.append_nil]; exact h, ButW.refl _ _ _, .inl rfl⟩
theorem Wr.below {b : Nat} {W : WS} {w w1 w2 : World} {ys : List Int} {v : Value} (h : Wr b W w ys v w1) (k : Below w1.heap.size w1 w2) : Wr b W w ys v w2 :=
  ⟨h.wtr.below k, ⟨k.os.trans h.but.os, k.tape.trans h.but.tape, k.output.trans h.but.output, Nat.le_trans h.but.size k.size, fun i hi hn hv => (k.block i (Nat.lt_of_lt_of_le hi h.but.size)).trans (h.but.block i hi hn hv)⟩, h.own⟩
theorem Wr.of_later {b : Nat} {W : WS} {w w1 w2 : World} {ys : List Int} {v : Value} (k : Below w.heap.size w w1) (h : Wr b W w1 ys v w2) : Wr b W w ys v w2 :=
  ⟨h.wtr, ⟨h.but.os.trans k.os, h.but.tape.trans k.tape, h.but.output.trans k.output, Nat.le_trans k.size h.but.size, fun i hi hn hv => (h.but.block i (Nat.lt_of_lt_of_le hi k.size) hn hv).trans (k.block i hi)⟩, h.own.elim .inl fun q => .inr fun g hg => Nat.le_trans k.size (q g hg)⟩
theorem Wr.step {b : Nat} {W : WS} {w w1 w2 : World} {ys zs : List Int} {v v2 : Value} (h : Wr b W w ys v w1) (h2 : Wr b { W with xs := W.xs ++ ys, v := v } w1 zs v2 w2) : Wr b W w (ys ++ zs) v2 w2 := by
  refine ⟨by rw [← List.append_assoc]; exact h2.wtr, ⟨h2.but.os.trans h.but.os, h2.but.tape.trans h.but.tape, h2.but.output.trans h.but.output, Nat.le_trans h.but.size h2.but.size, fun i hi hn hv => ?_⟩, ?_⟩
  · refine (h2.but.block i (Nat.lt_of_lt_of_le hi h.but.size) hn ?_).trans (h.but.block i hi hn hv)
    rintro (e : some i = v.ownBlock)
    rcases h.own with q | q
    · exact hv (e.trans q)
    · have := q i e.symm
      omega
  · rcases h2.own with q | q
    · rcases h.own with p | p
      · exact .inl (Eq.trans q p)
      · exact .inr fun g hg => p g (by rw [← hg]; exact q.symm)
    · exact .inr fun g hg => Nat.le_trans h.but.size (q g hg)
theorem Wr.of_put {b : Nat} {W : WS} {w w1 w2 : World} {ys zs : List Int} {v : Value} {r : Int} {e : Ending} (h : Wr b W w ys v w1) (p : Put b { W with xs := W.xs ++ ys, v := v } r zs w1 e w2) (hr : r = 0) : e = .returned (.int .i64 0) ∧ ∃ v2, Wr b W w (ys ++ zs) v2 w2 := by
  obtain ⟨he, v2, h1, h2, h3⟩ := p.yes hr
  exact ⟨he, v2, h.step ⟨h1, h2, h3⟩⟩
theorem Wr.base {b B : Nat} {W : WS} {w0 w w' : World} {ys : List Int} {v : Value} (h : Wr b W w ys v w') (k : Below B w0 w) (hb : B ≤ b) (hv : ∀ g, W.v.ownBlock = some g → B ≤ g) (hs : B ≤ w.heap.size) : Below B w0 w' := h.but.below k hb hv hs
theorem res_ok {W : WS} {k n : Nat} (h1 : n < 256 ^ k) (h2 : W.xs.length + k ≤ W.lim) : W.res k n = 0 := by
  unfold WS.res
  rw [if_neg (by omega), if_neg (by omega)]
theorem put_U8 {b : Nat} {W : WS} {w w1 : World} {ys : List Int} {v : Value} (h : Wr b W w ys v w1) (x : Int) (h0 : 0 ≤ x) (h1 : x < 256) (hr : W.xs.length + ys.length + 1 ≤ W.lim) :
    Calls Try.prog 83 #[.pointer (some ⟨b, 0, none⟩), .int .u64 x] w1 fun e w2 => e = .returned (.int .i64 0) ∧ ∃ v2, Wr b W w (ys ++ enc 1 x.toNat) v2 w2 := by
  have hx : x = ((x.toNat : Nat) : Int) := (Int.toNat_of_nonneg h0).symm
  have c := wr_U8 w1 b _ x.toNat h.wtr (by omega)
  rw [← hx] at c
  exact c.mono fun e w2 p => h.of_put p (res_ok (show x.toNat < 256 by omega) (by simpa using hr))
theorem put_U24 {b : Nat} {W : WS} {w w1 : World} {ys : List Int} {v : Value} (h : Wr b W w ys v w1) (x : Int) (h0 : 0 ≤ x) (h1 : x < 16777216) (hr : W.xs.length + ys.length + 3 ≤ W.lim) :
    Calls Try.prog 93 #[.pointer (some ⟨b, 0, none⟩), .int .u64 x] w1 fun e w2 => e = .returned (.int .i64 0) ∧ ∃ v2, Wr b W w (ys ++ enc 3 x.toNat) v2 w2 := by
  have hx : x = ((x.toNat : Nat) : Int) := (Int.toNat_of_nonneg h0).symm
  have c := wr_U24 w1 b _ x.toNat h.wtr (by omega)
  rw [← hx] at c
  exact c.mono fun e w2 p => h.of_put p (res_ok (show x.toNat < 16777216 by omega) (by simpa using hr))
theorem put_U32 {b : Nat} {W : WS} {w w1 : World} {ys : List Int} {v : Value} (h : Wr b W w ys v w1) (x : Int) (h0 : 0 ≤ x) (h1 : x < 4294967296) (hr : W.xs.length + ys.length + 4 ≤ W.lim) :
    Calls Try.prog 82 #[.pointer (some ⟨b, 0, none⟩), .int .u64 x] w1 fun e w2 => e = .returned (.int .i64 0) ∧ ∃ v2, Wr b W w (ys ++ enc 4 x.toNat) v2 w2 := by
  have hx : x = ((x.toNat : Nat) : Int) := (Int.toNat_of_nonneg h0).symm
  have c := wr_U32 w1 b _ x.toNat h.wtr (by omega)
  rw [← hx] at c
  exact c.mono fun e w2 p => h.of_put p (res_ok (show x.toNat < 4294967296 by omega) (by simpa using hr))
theorem put_U48 {b : Nat} {W : WS} {w w1 : World} {ys : List Int} {v : Value} (h : Wr b W w ys v w1) (x : Int) (h0 : 0 ≤ x) (h1 : x < 281474976710656) (hr : W.xs.length + ys.length + 6 ≤ W.lim) :
    Calls Try.prog 42 #[.pointer (some ⟨b, 0, none⟩), .int .u64 x] w1 fun e w2 => e = .returned (.int .i64 0) ∧ ∃ v2, Wr b W w (ys ++ enc 6 x.toNat) v2 w2 := by
  have hx : x = ((x.toNat : Nat) : Int) := (Int.toNat_of_nonneg h0).symm
  have c := wr_U48 w1 b _ x.toNat h.wtr (by omega)
  rw [← hx] at c
  exact c.mono fun e w2 p => h.of_put p (res_ok (show x.toNat < 281474976710656 by omega) (by simpa using hr))
theorem put_U64 {b : Nat} {W : WS} {w w1 : World} {ys : List Int} {v : Value} (h : Wr b W w ys v w1) (x : Int) (h0 : 0 ≤ x) (h1 : x < 18446744073709551616) (hr : W.xs.length + ys.length + 8 ≤ W.lim) :
    Calls Try.prog 43 #[.pointer (some ⟨b, 0, none⟩), .int .u64 x] w1 fun e w2 => e = .returned (.int .i64 0) ∧ ∃ v2, Wr b W w (ys ++ enc 8 x.toNat) v2 w2 := by
  have hx : x = ((x.toNat : Nat) : Int) := (Int.toNat_of_nonneg h0).symm
  have c := wr_U64 w1 b _ x.toNat h.wtr (by omega)
  rw [← hx] at c
  exact c.mono fun e w2 p => h.of_put p (res_ok (show x.toNat < 18446744073709551616 by omega) (by simpa using hr))
end Go.Proofs.Ytgpjelcihmbiiaa
