/- A writer, followed through several calls: what it has written since. No condition. -/
import Derived.Test.YtejcclcckgdbgaaGa
import Derived.Test.YtejcclcckgdbgaaNNm
namespace Go.Proofs.Ytejcclcckgdbgaa
open Go.RowKit Go.Sort
set_option linter.unusedVariables false
set_option linter.unusedSimpArgs false
set_option maxRecDepth 100000

/-- Since the world w the writer in block b, which was W, has written ys; beside it nothing that was there has turned. -/
structure Wr (b : Nat) (W : WS) (w : World) (ys : List Int) (v : Value) (w' : World) : Prop where
  wtr : Wtr w' b { W with xs := W.xs ++ ys, v := v }
  but : ButW b W.v w w'
  own : v.ownBlock = W.v.ownBlock ∨ ∀ g, v.ownBlock = some g → w.heap.size ≤ g
theorem Wr.start {w : World} {b : Nat} {W : WS} (h : Wtr w b W) : Wr b W w [] W.v w := ⟨by rw [List.append_nil]; exact h, ButW.refl _ _ _, .inl rfl⟩
theorem Wr.below {b : Nat} {W : WS} {w w1 w2 : World} {ys : List Int} {v : Value} (h : Wr b W w ys v w1) (k : Below w1.heap.size w1 w2) : Wr b W w ys v w2 :=
  ⟨h.wtr.below k, ⟨k.os.trans h.but.os, k.tape.trans h.but.tape, k.output.trans h.but.output, Nat.le_trans h.but.size k.size, fun i hi hn hv => (k.block i (Nat.lt_of_lt_of_le hi h.but.size)).trans (h.but.block i hi hn hv)⟩, h.own⟩
theorem Wr.of_later {b : Nat} {W : WS} {w w1 w2 : World} {ys : List Int} {v : Value} (k : Below w.heap.size w w1) (h : Wr b W w1 ys v w2) : Wr b W w ys v w2 :=
  ⟨h.wtr, ⟨h.but.os.trans k.os, h.but.tape.trans k.tape, h.but.output.trans k.output, Nat.le_trans k.size h.but.size, fun i hi hn hv => (h.but.block i (Nat.lt_of_lt_of_le hi k.size) hn hv).trans (k.block i hi)⟩, h.own.elim .inl fun q => .inr fun g hg => Nat.le_trans k.size (q g hg)⟩
theorem Wr.step {b : Nat} {W : WS} {w w1 w2 : World} {ys zs : List Int} {v v2 : Value} (h : Wr b W w ys v w1) (h2 : Wr b { W with xs := W.xs ++ ys, v := v } w1 zs v2 w2) : Wr b W w (ys ++ zs) v2 w2 := by
  refine ⟨by rw [← List.append_assoc]; exact h2.wtr, ⟨h2.but.os.trans h.but.os, h2.but.tape.trans h.but.tape, h2.but.output.trans h.but.output, Nat.le_trans h.but.size h2.but.size, fun i hi hn hv => ?_⟩, ?_⟩
  · refine (h2.but.block i (Nat.lt_of_lt_of_le hi h.but.size) hn ?_).trans (h.but.block i hi hn hv)
    rintro (e : some i = v.ownBlock)
    rcases h.own with q | q
    · exact hv (e.trans q)
    · have := q i e.symm
      omega
  · rcases h2.own with q | q
    · rcases h.own with p | p
      · exact .inl (Eq.trans q p)
      · exact .inr fun g hg => p g (by rw [← hg]; exact q.symm)
    · exact .inr fun g hg => Nat.le_trans h.but.size (q g hg)
theorem Wr.of_put {b : Nat} {W : WS} {w w1 w2 : World} {ys zs : List Int} {v : Value} {r : Int} {e : Ending} (h : Wr b W w ys v w1) (p : Put b { W with xs := W.xs ++ ys, v := v } r zs w1 e w2) (hr : r = 0) : e = .returned (.int .i64 0) ∧ ∃ v2, Wr b W w (ys ++ zs) v2 w2 := by
  obtain ⟨he, v2, h1, h2, h3⟩ := p.yes hr
  exact ⟨he, v2, h.step ⟨h1, h2, h3⟩⟩
theorem Wr.bx {b c : Nat} {W : WS} {w w' : World} {ys : List Int} {v : Value} {n : NL} (h : Wr b W w ys v w') (x : Bx w c n) (hb : Blk w b 101 W.cells) (hv : Dat w W.v W.xs) : Bx w' c n :=
  h.but.blk x (fun e => x.ne hb (by decide) e) (hv.own_ne x (by decide))
theorem Wr.base {b B : Nat} {W : WS} {w0 w w' : World} {ys : List Int} {v : Value} (h : Wr b W w ys v w') (k : Below B w0 w) (hb : B ≤ b) (hv : ∀ g, W.v.ownBlock = some g → B ≤ g) (hs : B ≤ w.heap.size) : Below B w0 w' := h.but.below k hb hv hs
theorem res_ok {W : WS} {k n : Nat} (h1 : n < 256 ^ k) (h2 : W.xs.length + k ≤ W.lim) : W.res k n = 0 := by
  unfold WS.res
  rw [if_neg (by omega), if_neg (by omega)]
theorem put_U8 {b : Nat} {W : WS} {w w1 : World} {ys : List Int} {v : Value} (h : Wr b W w ys v w1) (x : Int) (h0 : 0 ≤ x) (h1 : x < 256) (hr : W.xs.length + ys.length + 1 ≤ W.lim) :
    Calls Try.prog 123 #[.pointer (some ⟨b, 0, none⟩), .int .u64 x] w1 fun e w2 => e = .returned (.int .i64 0) ∧ ∃ v2, Wr b W w (ys ++ enc 1 x.toNat) v2 w2 := by
  have hx : x = ((x.toNat : Nat) : Int) := (Int.toNat_of_nonneg h0).symm
  have c := wr_U8 w1 b _ x.toNat h.wtr (by omega)
  rw [← hx] at c
  exact c.mono fun e w2 p => h.of_put p (res_ok (show x.toNat < 256 by omega) (by simpa using hr))
theorem put_U24 {b : Nat} {W : WS} {w w1 : World} {ys : List Int} {v : Value} (h : Wr b W w ys v w1) (x : Int) (h0 : 0 ≤ x) (h1 : x < 16777216) (hr : W.xs.length + ys.length + 3 ≤ W.lim) :
    Calls Try.prog 108 #[.pointer (some ⟨b, 0, none⟩), .int .u64 x] w1 fun e w2 => e = .returned (.int .i64 0) ∧ ∃ v2, Wr b W w (ys ++ enc 3 x.toNat) v2 w2 := by
  have hx : x = ((x.toNat : Nat) : Int) := (Int.toNat_of_nonneg h0).symm
  have c := wr_U24 w1 b _ x.toNat h.wtr (by omega)
  rw [← hx] at c
  exact c.mono fun e w2 p => h.of_put p (res_ok (show x.toNat < 16777216 by omega) (by simpa using hr))
theorem put_U32 {b : Nat} {W : WS} {w w1 : World} {ys : List Int} {v : Value} (h : Wr b W w ys v w1) (x : Int) (h0 : 0 ≤ x) (h1 : x < 4294967296) (hr : W.xs.length + ys.length + 4 ≤ W.lim) :
    Calls Try.prog 114 #[.pointer (some ⟨b, 0, none⟩), .int .u64 x] w1 fun e w2 => e = .returned (.int .i64 0) ∧ ∃ v2, Wr b W w (ys ++ enc 4 x.toNat) v2 w2 := by
  have hx : x = ((x.toNat : Nat) : Int) := (Int.toNat_of_nonneg h0).symm
  have c := wr_U32 w1 b _ x.toNat h.wtr (by omega)
  rw [← hx] at c
  exact c.mono fun e w2 p => h.of_put p (res_ok (show x.toNat < 4294967296 by omega) (by simpa using hr))
theorem put_U48 {b : Nat} {W : WS} {w w1 : World} {ys : List Int} {v : Value} (h : Wr b W w ys v w1) (x : Int) (h0 : 0 ≤ x) (h1 : x < 281474976710656) (hr : W.xs.length + ys.length + 6 ≤ W.lim) :
    Calls Try.prog 124 #[.pointer (some ⟨b, 0, none⟩), .int .u64 x] w1 fun e w2 => e = .returned (.int .i64 0) ∧ ∃ v2, Wr b W w (ys ++ enc 6 x.toNat) v2 w2 := by
  have hx : x = ((x.toNat : Nat) : Int) := (Int.toNat_of_nonneg h0).symm
  have c := wr_U48 w1 b _ x.toNat h.wtr (by omega)
  rw [← hx] at c
  exact c.mono fun e w2 p => h.of_put p (res_ok (show x.toNat < 281474976710656 by omega) (by simpa using hr))
theorem put_U64 {b : Nat} {W : WS} {w w1 : World} {ys : List Int} {v : Value} (h : Wr b W w ys v w1) (x : Int) (h0 : 0 ≤ x) (h1 : x < 18446744073709551616) (hr : W.xs.length + ys.length + 8 ≤ W.lim) :
    Calls Try.prog 112 #[.pointer (some ⟨b, 0, none⟩), .int .u64 x] w1 fun e w2 => e = .returned (.int .i64 0) ∧ ∃ v2, Wr b W w (ys ++ enc 8 x.toNat) v2 w2 := by
  have hx : x = ((x.toNat : Nat) : Int) := (Int.toNat_of_nonneg h0).symm
  have c := wr_U64 w1 b _ x.toNat h.wtr (by omega)
  rw [← hx] at c
  exact c.mono fun e w2 p => h.of_put p (res_ok (show x.toNat < 18446744073709551616 by omega) (by simpa using hr))
theorem writeIP_is {b : Nat} {W : WS} {w w1 : World} {ys : List Int} {v : Value} (h : Wr b W w ys v w1) (x : Int) (h0 : 0 ≤ x) (h1 : x < 4294967296) (hr : W.xs.length + ys.length + 5 ≤ W.lim) :
    Calls Try.prog 125 #[.pointer (some ⟨b, 0, none⟩), .int .u32 x] w1 fun e w2 => e = .returned (.tuple #[]) ∧ ∃ v2, Wr b W w (ys ++ (enc 1 32 ++ enc 4 x.toNat)) v2 w2 := by
  have c := put_U8 h 32 (by decide) (by decide) (by omega)
  rw [← List.append_assoc]
  go_enter Try.func125, Try.ntmps125
  go_wp2_with fail
  go_at_call 123
  refine c.mono ?_
  rintro e w2 ⟨rfl, v2, S2⟩
  clear c
  have c := put_U32 S2 x h0 h1 (by simp [enc_length]; omega)
  go_wp2_with fail
  go_at_call 114
  refine c.mono ?_
  rintro e w3 ⟨rfl, v3, S3⟩
  go_wp2
  go_returns
  exact ⟨rfl, v3, S3⟩
/-- The numbers of a route are in the ranges of their types. -/
structure NL.Ok (n : NL) : Prop where
  rd : 0 ≤ n.rd ∧ n.rd < 18446744073709551616
  e : ∀ j, 0 ≤ n.e j ∧ n.e j < 256
  t : 0 ≤ n.t ∧ n.t < 4294967296
  m : 0 ≤ n.m ∧ n.m < 18446744073709551616
  ip : 0 ≤ n.ip ∧ n.ip < 4294967296
  pi : 0 ≤ n.pi ∧ n.pi < 4294967296
  g : 0 ≤ n.g ∧ n.g < 4294967296
  l : 0 ≤ n.l ∧ n.l < 4294967296
  l2 : 0 ≤ n.l2 ∧ n.l2 < 4294967296
def NL.floodV (n : NL) : List Int := enc 8 n.rd.toNat ++ enc 4 n.t.toNat ++ (enc 1 32 ++ enc 4 n.ip.toNat)
set_option maxHeartbeats 2000000 in
theorem floodW (n : NL) (hn : n.Ok) {b : Nat} {W : WS} {w : World} (h : Wtr w b W) (hl : W.xs.length + 17 ≤ W.lim) :
    Calls Try.prog 128 #[.agg #[], .pointer (some ⟨b, 0, none⟩), n.v] w fun e w2 => e = .returned (.tuple #[]) ∧ ∃ v2, Wr b W w n.floodV v2 w2 := by
  obtain ⟨qrd, prd⟩ := hn.rd
  obtain ⟨qt, pt⟩ := hn.t
  obtain ⟨qip, pip⟩ := hn.ip
  unfold NL.v NL.floodV
  go_enter Try.func128, Try.ntmps128
  go_wp2_with (first
    | (refine at_box0 rfl 95 _ rfl rfl ?_; rintro w1 k1 s1)
    | (refine at_box rfl _ rfl n rfl ?_; rintro w2 ⟨x2, k2, s2⟩; rw [s1] at x2; have b2 := k1.trans (k2.mono k1.size); have S2 := Wr.start (h.below b2); have hb := S2.wtr.1; have hd := S2.wtr.2.1; have c1 := Blk.cell x2 1 (v := .int .u64 n.rd) rfl; clear k1 k2))
  go_at_call 112
  refine (put_U64 S2 n.rd qrd prd (by simp [enc_length]; omega)).mono ?_
  rintro e w3 ⟨rfl, v3, S3⟩
  have x3 := S3.bx x2 (by simpa using hb) (by simpa using hd)
  have c2 := Blk.cell x3 12 (v := .int .u32 n.t) rfl
  clear c1 S2
  go_wp2_with fail
  go_at_call 114
  refine (put_U32 S3 n.t qt pt (by simp [enc_length]; omega)).mono ?_
  rintro e w4 ⟨rfl, v4, S4⟩
  have x4 := S4.bx x2 (by simpa using hb) (by simpa using hd)
  have c3 := Blk.cell x4 14 (v := .int .u32 n.ip) rfl
  clear c2 x3 S3
  go_wp2_with fail
  go_at_call 125
  refine (writeIP_is S4 n.ip qip pip (by simp [enc_length]; omega)).mono ?_
  rintro e w5 ⟨rfl, v5, S5⟩
  clear c3 x4 S4
  go_wp2
  go_returns
  exact ⟨rfl, v5, Wr.of_later b2 (by simpa [List.append_assoc] using S5)⟩
end Go.Proofs.Ytejcclcckgdbgaa
