/- What each layout writes. No condition. -/
import Derived.Test.YtejcclcckgdbgaaNWr
import Derived.Laws.CopyRow
import Derived.Laws.CopyOwn
namespace Go.Proofs.Ytejcclcckgdbgaa
open Go.RowKit Go.Sort
set_option linter.unusedVariables false
set_option linter.unusedSimpArgs false
set_option maxRecDepth 100000

/-- What Check asks of the numbers. -/
structure NL.Small (n : NL) : Prop where
  m : n.m < 281474976710656
  l : n.l < 16777216
  l2 : n.l2 < 16777216
  pn : 0 ≤ n.pn ∧ n.pn < 256
def esiL (e : Nat → Int) : List Int := [e 0, e 1, e 2, e 3, e 4, e 5, e 6, e 7, e 8, e 9]
theorem esiL_map (e : Nat → Int) : (esiL e).map (Value.int .u8) = esi e := rfl
theorem put_len (cs : List Value) (ln : Nat) (e : Nat → Int) (h : ln + 10 ≤ cs.length) : (cs.take ln ++ (esi e ++ cs.drop (ln + 10))).length = cs.length ∧ (cs.take ln ++ (esi e ++ cs.drop (ln + 10))).take (ln + 10) = cs.take ln ++ esi e := by
  have h1 : (cs.take ln).length = ln := by simp; omega
  have h2 : (esi e).length = 10 := rfl
  constructor
  · rw [List.length_append, List.length_append, h1, h2, List.length_drop]
    omega
  · rw [← List.append_assoc, List.take_left' (by rw [List.length_append, h1, h2])]
set_option maxHeartbeats 2000000 in
theorem put_Bytes {b B : Nat} {W : WS} {w w1 : World} {ys : List Int} {v : Value} {n : NL} (h : Wr b W w ys v w1) (x : Bx w1 B n) (he : ∀ j, 0 ≤ n.e j ∧ n.e j < 256) (hr : W.xs.length + ys.length + 10 ≤ W.lim) :
    Calls Try.prog 113 #[.pointer (some ⟨b, 0, none⟩), .slice (some ⟨B, 2, none⟩) 10 10] w1 fun e w2 => e = .returned (.int .i64 0) ∧ ∃ v2, Wr b W w (ys ++ esiL n.e) v2 w2 := by
  have ht := h.wtr
  obtain ⟨lim, xs, v0, mb⟩ := W
  simp only at ht hr
  have hx := wr_extend w1 b _ 10 ht (by simp; omega)
  simp only at hx
  have key : ∀ w2 v2, Blk w2 b 101 (WS.cells ⟨lim, xs ++ ys, v2, mb⟩) → Dat w2 v2 (xs ++ ys ++ List.replicate 10 0) → ButW b v w1 w2 → (v2.ownBlock = v.ownBlock ∨ ∀ g, v2.ownBlock = some g → w1.heap.size ≤ g) → ∃ g cap cs ln, tail v2 (xs ++ ys).length = .slice (some ⟨g, ln, none⟩) 10 (cap - ln) ∧ Hid (Blk w2 g 5 cs) ∧ ln + 10 ≤ cs.length ∧ Bx w2 B n ∧
      Wr b ⟨lim, xs, v0, mb⟩ w (ys ++ esiL n.e) v2 (w2.setRow g (cs.take ln ++ (esi n.e ++ cs.drop (ln + 10))).toArray) := by
    intro w2 v2 hb2 hd2 hbut hown
    obtain ⟨g, cap, cs, hvf, htf, c1, c2, hg, c3, c4⟩ := tail_form hd2 (by decide)
    have hgb : b ≠ g := hb2.ne hg (by decide)
    have hvo : v2.ownBlock = some g := by rw [hvf]; rfl
    have x2 : Bx w2 B n := hbut.blk x (fun e => x.ne ht.1 (by decide) e) (Dat.own_ne ht.2.1 x (by decide))
    refine ⟨g, cap, cs, (xs ++ ys).length, htf, Lib.hid hg, by omega, x2, ?_⟩
    have hl1 : (xs ++ ys ++ esiL n.e).length = (xs ++ ys).length + 10 := by simp [esiL]; omega
    have hset := setRow_heap w2 g cs.toArray (cs.take (xs ++ ys).length ++ (esi n.e ++ cs.drop ((xs ++ ys).length + 10))).toArray _ _ hg
    have hk2 : ∀ k, k ≠ g → (w2.setRow g (cs.take (xs ++ ys).length ++ (esi n.e ++ cs.drop ((xs ++ ys).length + 10))).toArray).heap[k]? = w2.heap[k]? := fun k hk => setRow_other w2 g k _ hk
    have hsz : (w2.setRow g (cs.take (xs ++ ys).length ++ (esi n.e ++ cs.drop ((xs ++ ys).length + 10))).toArray).heap.size = w2.heap.size := by simp [World.setRow]
    refine h.step ⟨⟨?_, ?_, ?_, ?_, ?_⟩, ⟨hbut.os, hbut.tape, hbut.output, by rw [hsz]; exact hbut.size, fun j hj hn hv => ?_⟩, hown⟩
    · exact (hk2 b hgb).trans hb2
    · show Dat _ v2 (xs ++ ys ++ esiL n.e)
      rw [hvf]
      obtain ⟨L1, L2⟩ := put_len cs (xs ++ ys).length n.e (by rw [c3]; exact c1)
      refine Dat.of hl1 c1 c2 hset (by rw [L1]; exact c3) ?_
      rw [List.map_append, esiL_map, ← c4]
      exact L2
    · intro z hz
      simp only [List.mem_append] at hz
      rcases hz with hz | hz
      · exact ht.2.2.1 z (by simpa using hz)
      · simp only [esiL, List.mem_cons, List.not_mem_nil, or_false] at hz
        rcases hz with rfl | rfl | rfl | rfl | rfl | rfl | rfl | rfl | rfl | rfl <;> exact he _
    · show (xs ++ ys ++ esiL n.e).length ≤ lim
      simp [esiL]
      omega
    · exact ht.2.2.2.2
    · refine (hk2 j ?_).trans (hbut.block j hj hn hv)
      rintro rfl
      rcases hown with e | e
      · exact hv (hvo.symm.trans e)
      · have := e _ hvo
        omega
  clear hr ht
  go_enter Try.func113, Try.ntmps113
  go_wp2_with fail
  go_at_call 117
  refine hx.mono ?_
  rintro e w2 ⟨v2, rfl, hb2, hd2, hbut, hown⟩
  obtain ⟨g, cap, cs, ln, htf, hg, hlen, x2, hW⟩ := key w2 v2 hb2 hd2 hbut hown
  rw [htf]
  clear key hx hb2 hd2 hbut hown htf
  have es : esi n.e = esi n.e := rfl
  go_wp2_with (refine wpList_copy_own rfl (.tmp 14) (.tmp 15) 23 23 rfl 5 Try.underlying23 (by kernel_rfl) g ln 10 _ ⟨B, 2, none⟩ 10 10 rfl rfl cs.toArray _ hg.out (esi n.e) rfl (fun j v hv => by rw [Addr.add_mid]; exact x2.range j v hv) (by simp [esi]; omega) (by simp [esi, Value.oneCell']) ?_)
  go_ret
  exact ⟨rfl, v2, hW⟩
set_option maxHeartbeats 2000000 in
theorem writeStartX (n : NL) (hn : n.Ok) {b : Nat} {W : WS} {w : World} (h : Wtr w b W) (hl : W.xs.length + 22 ≤ W.lim) :
    Calls Try.prog 107 #[.pointer (some ⟨b, 0, none⟩), n.v] w fun e w2 => e = .returned (.tuple #[]) ∧ ∃ v2, Wr b W w (enc 8 n.rd.toNat ++ esiL n.e ++ enc 4 n.t.toNat) v2 w2 := by
  unfold NL.v
  obtain ⟨qrd, prd⟩ := hn.rd
  obtain ⟨qt, pt⟩ := hn.t
  go_enter Try.func107, Try.ntmps107
  go_wp2_with (first
    | (refine at_box rfl _ rfl n rfl ?_; rintro w2 ⟨x2, b2, s2⟩; have S2 := Wr.start (h.below b2); have hb := S2.wtr.1; have hd := S2.wtr.2.1; have cf_rd := Blk.cell x2 1 (v := .int .u64 n.rd) rfl; skip))
  go_at_call 112
  refine (put_U64 S2 n.rd hn.rd.1 hn.rd.2 (by simp [enc_length, esiL]; omega)).mono ?_
  rintro e w3 ⟨rfl, v3, S3⟩
  clear cf_rd
  have x3 := S3.bx x2 (by simpa using hb) (by simpa using hd)
  clear S2
  go_wp2_with fail
  go_at_call 113
  refine (put_Bytes S3 x3 hn.e (by simp [enc_length, esiL]; omega)).mono ?_
  rintro e w4 ⟨rfl, v4, S4⟩
  have x4 := S4.bx x2 (by simpa using hb) (by simpa using hd)
  have cf_t := Blk.cell x4 12 (v := .int .u32 n.t) rfl
  clear S3
  go_wp2_with fail
  go_at_call 114
  refine (put_U32 S4 n.t hn.t.1 hn.t.2 (by simp [enc_length, esiL]; omega)).mono ?_
  rintro e w5 ⟨rfl, v5, S5⟩
  clear cf_t
  clear S4
  go_wp2
  go_returns
  exact ⟨rfl, v5, Wr.of_later b2 (by simpa [List.append_assoc] using S5)⟩
theorem writeStart_is (n : NL) (hn : n.Ok) {b : Nat} {W : WS} {w w1 : World} {ys : List Int} {v : Value} (S : Wr b W w ys v w1) (hl : W.xs.length + ys.length + 22 ≤ W.lim) :
    Calls Try.prog 107 #[.pointer (some ⟨b, 0, none⟩), n.v] w1 fun e w2 => e = .returned (.tuple #[]) ∧ ∃ v2, Wr b W w (ys ++ (enc 8 n.rd.toNat ++ esiL n.e ++ enc 4 n.t.toNat)) v2 w2 :=
  (writeStartX n hn S.wtr (by simpa using hl)).mono fun e w2 ⟨he, v2, h⟩ => ⟨he, v2, S.step h⟩
def NL.autoV (n : NL) : List Int := enc 8 n.rd.toNat ++ esiL n.e ++ enc 4 n.t.toNat ++ enc 3 n.l.toNat
set_option maxHeartbeats 2000000 in
theorem autoW (n : NL) (hn : n.Ok) (hs : n.Small) {b : Nat} {W : WS} {w : World} (h : Wtr w b W) (hl : W.xs.length + 25 ≤ W.lim) :
    Calls Try.prog 104 #[.agg #[], .pointer (some ⟨b, 0, none⟩), n.v] w fun e w2 => e = .returned (.tuple #[]) ∧ ∃ v2, Wr b W w (n.autoV) v2 w2 := by
  unfold NL.v NL.autoV
  obtain ⟨ql, pl⟩ := hn.l
  go_enter Try.func104, Try.ntmps104
  go_wp2_with (first
    | (refine at_box0 rfl 93 _ rfl rfl ?_; rintro w1 k1 s1)
    | (refine at_box rfl _ rfl n rfl ?_; rintro w2 ⟨x2, k2, s2⟩; rw [s1] at x2; have b2 := k1.trans (k2.mono k1.size); have S2 := Wr.start (h.below b2); have hb := S2.wtr.1; have hd := S2.wtr.2.1; clear k1 k2)
    | (refine at_load rfl _ rfl (w.heap.size + 1) rfl n x2 ?_))
  go_at_call 107
  refine (writeStart_is n hn S2 (by simp [enc_length, esiL]; omega)).mono ?_
  rintro e w3 ⟨rfl, v3, S3⟩
  have x3 := S3.bx x2 (by simpa using hb) (by simpa using hd)
  have cf_l := Blk.cell x3 19 (v := .int .u32 n.l) rfl
  clear S2
  go_wp2_with fail
  go_at_call 108
  refine (put_U24 S3 n.l hn.l.1 hs.l (by simp [enc_length, esiL]; omega)).mono ?_
  rintro e w4 ⟨rfl, v4, S4⟩
  clear cf_l
  clear S3
  go_wp2
  go_returns
  exact ⟨rfl, v4, Wr.of_later b2 (by simpa [List.append_assoc] using S4)⟩
def NL.segmentV (n : NL) : List Int := enc 8 n.rd.toNat ++ esiL n.e ++ (enc 1 32 ++ enc 4 n.ip.toNat)
set_option maxHeartbeats 2000000 in
theorem segmentW (n : NL) (hn : n.Ok) (hs : n.Small) {b : Nat} {W : WS} {w : World} (h : Wtr w b W) (hl : W.xs.length + 23 ≤ W.lim) :
    Calls Try.prog 131 #[.agg #[], .pointer (some ⟨b, 0, none⟩), n.v] w fun e w2 => e = .returned (.tuple #[]) ∧ ∃ v2, Wr b W w (n.segmentV) v2 w2 := by
  unfold NL.v NL.segmentV
  obtain ⟨qrd, prd⟩ := hn.rd
  obtain ⟨qip, pip⟩ := hn.ip
  go_enter Try.func131, Try.ntmps131
  go_wp2_with (first
    | (refine at_box0 rfl 96 _ rfl rfl ?_; rintro w1 k1 s1)
    | (refine at_box rfl _ rfl n rfl ?_; rintro w2 ⟨x2, k2, s2⟩; rw [s1] at x2; have b2 := k1.trans (k2.mono k1.size); have S2 := Wr.start (h.below b2); have hb := S2.wtr.1; have hd := S2.wtr.2.1; have cf_rd := Blk.cell x2 1 (v := .int .u64 n.rd) rfl; clear k1 k2))
  go_at_call 112
  refine (put_U64 S2 n.rd hn.rd.1 hn.rd.2 (by simp [enc_length, esiL]; omega)).mono ?_
  rintro e w3 ⟨rfl, v3, S3⟩
  clear cf_rd
  have x3 := S3.bx x2 (by simpa using hb) (by simpa using hd)
  clear S2
  go_wp2_with fail
  go_at_call 113
  refine (put_Bytes S3 x3 hn.e (by simp [enc_length, esiL]; omega)).mono ?_
  rintro e w4 ⟨rfl, v4, S4⟩
  have x4 := S4.bx x2 (by simpa using hb) (by simpa using hd)
  have cf_ip := Blk.cell x4 14 (v := .int .u32 n.ip) rfl
  clear S3
  go_wp2_with fail
  go_at_call 125
  refine (writeIP_is S4 n.ip hn.ip.1 hn.ip.2 (by simp [enc_length, esiL]; omega)).mono ?_
  rintro e w5 ⟨rfl, v5, S5⟩
  clear cf_ip
  clear S4
  go_wp2
  go_returns
  exact ⟨rfl, v5, Wr.of_later b2 (by simpa [List.append_assoc] using S5)⟩
def NL.prefixV (n : NL) : List Int := enc 8 n.rd.toNat ++ esiL n.e ++ enc 4 n.t.toNat ++ enc 1 n.pn.toNat ++ enc 4 n.pi.toNat ++ enc 4 n.g.toNat ++ enc 3 n.l.toNat
set_option maxHeartbeats 2000000 in
theorem prefixW (n : NL) (hn : n.Ok) (hs : n.Small) {b : Nat} {W : WS} {w : World} (h : Wtr w b W) (hl : W.xs.length + 34 ≤ W.lim) :
    Calls Try.prog 134 #[.agg #[], .pointer (some ⟨b, 0, none⟩), n.v] w fun e w2 => e = .returned (.tuple #[]) ∧ ∃ v2, Wr b W w (n.prefixV) v2 w2 := by
  unfold NL.v NL.prefixV
  obtain ⟨qpn, ppn⟩ := hs.pn
  obtain ⟨qpi, ppi⟩ := hn.pi
  obtain ⟨qg, pg⟩ := hn.g
  obtain ⟨ql, pl⟩ := hn.l
  go_enter Try.func134, Try.ntmps134
  go_wp2_with (first
    | (refine at_box0 rfl 97 _ rfl rfl ?_; rintro w1 k1 s1)
    | (refine at_box rfl _ rfl n rfl ?_; rintro w2 ⟨x2, k2, s2⟩; rw [s1] at x2; have b2 := k1.trans (k2.mono k1.size); have S2 := Wr.start (h.below b2); have hb := S2.wtr.1; have hd := S2.wtr.2.1; clear k1 k2)
    | (refine at_load rfl _ rfl (w.heap.size + 1) rfl n x2 ?_))
  go_at_call 107
  refine (writeStart_is n hn S2 (by simp [enc_length, esiL]; omega)).mono ?_
  rintro e w3 ⟨rfl, v3, S3⟩
  have x3 := S3.bx x2 (by simpa using hb) (by simpa using hd)
  have cf_pn := Blk.cell x3 17 (v := .int .i64 n.pn) rfl
  clear S2
  go_wp2_with fail
  go_at_call 123
  refine (put_U8 S3 n.pn hs.pn.1 hs.pn.2 (by simp [enc_length, esiL]; omega)).mono ?_
  rintro e w4 ⟨rfl, v4, S4⟩
  clear cf_pn
  have x4 := S4.bx x2 (by simpa using hb) (by simpa using hd)
  have cf_pi := Blk.cell x4 16 (v := .int .u32 n.pi) rfl
  clear S3
  go_wp2_with fail
  go_at_call 114
  refine (put_U32 S4 n.pi hn.pi.1 hn.pi.2 (by simp [enc_length, esiL]; omega)).mono ?_
  rintro e w5 ⟨rfl, v5, S5⟩
  clear cf_pi
  have x5 := S5.bx x2 (by simpa using hb) (by simpa using hd)
  have cf_g := Blk.cell x5 18 (v := .int .u32 n.g) rfl
  clear S4
  go_wp2_with fail
  go_at_call 114
  refine (put_U32 S5 n.g hn.g.1 hn.g.2 (by simp [enc_length, esiL]; omega)).mono ?_
  rintro e w6 ⟨rfl, v6, S6⟩
  clear cf_g
  have x6 := S6.bx x2 (by simpa using hb) (by simpa using hd)
  have cf_l := Blk.cell x6 19 (v := .int .u32 n.l) rfl
  clear S5
  go_wp2_with fail
  go_at_call 108
  refine (put_U24 S6 n.l hn.l.1 hs.l (by simp [enc_length, esiL]; omega)).mono ?_
  rintro e w7 ⟨rfl, v7, S7⟩
  clear cf_l
  clear S6
  go_wp2
  go_returns
  exact ⟨rfl, v7, Wr.of_later b2 (by simpa [List.append_assoc] using S7)⟩
def NL.macV (n : NL) : List Int := enc 8 n.rd.toNat ++ esiL n.e ++ enc 4 n.t.toNat ++ enc 1 48 ++ enc 6 n.m.toNat ++ (if n.h then enc 1 32 ++ enc 4 n.ip.toNat else enc 1 0) ++ enc 3 n.l.toNat ++ (if n.l2 = 0 then [] else enc 3 n.l2.toNat)
set_option maxHeartbeats 2000000 in
theorem macWtt (n : NL) (hn : n.Ok) (hs : n.Small) (A : n.h = true) (B : (n.l2 != 0) = true) {b : Nat} {W : WS} {w : World} (h : Wtr w b W) (hl : W.xs.length + 40 ≤ W.lim) :
    Calls Try.prog 121 #[.agg #[], .pointer (some ⟨b, 0, none⟩), n.v] w fun e w2 => e = .returned (.tuple #[]) ∧ ∃ v2, Wr b W w (enc 8 n.rd.toNat ++ esiL n.e ++ enc 4 n.t.toNat ++ enc 1 48 ++ enc 6 n.m.toNat ++ (enc 1 32 ++ enc 4 n.ip.toNat) ++ enc 3 n.l.toNat ++ enc 3 n.l2.toNat) v2 w2 := by
  unfold NL.v
  obtain ⟨qm, pm⟩ := hn.m
  obtain ⟨qip, pip⟩ := hn.ip
  obtain ⟨ql, pl⟩ := hn.l
  obtain ⟨ql2, pl2⟩ := hn.l2
  go_enter Try.func121, Try.ntmps121
  go_wp2_with (first
    | (refine at_box0 rfl 94 _ rfl rfl ?_; rintro w1 k1 s1)
    | (refine at_box rfl _ rfl n rfl ?_; rintro w2 ⟨x2, k2, s2⟩; rw [s1] at x2; have b2 := k1.trans (k2.mono k1.size); have S2 := Wr.start (h.below b2); have hb := S2.wtr.1; have hd := S2.wtr.2.1; clear k1 k2)
    | (refine at_load rfl _ rfl (w.heap.size + 1) rfl n x2 ?_))
  go_at_call 107
  refine (writeStart_is n hn S2 (by simp [enc_length, esiL]; omega)).mono ?_
  rintro e w3 ⟨rfl, v3, S3⟩
  have x3 := S3.bx x2 (by simpa using hb) (by simpa using hd)
  clear S2
  go_wp2_with fail
  go_at_call 123
  refine (put_U8 S3 48 (by decide) (by decide) (by simp [enc_length, esiL]; omega)).mono ?_
  rintro e w4 ⟨rfl, v4, S4⟩
  have x4 := S4.bx x2 (by simpa using hb) (by simpa using hd)
  have cf_m := Blk.cell x4 13 (v := .int .u64 n.m) rfl
  clear S3
  go_wp2_with fail
  go_at_call 124
  refine (put_U48 S4 n.m hn.m.1 hs.m (by simp [enc_length, esiL]; omega)).mono ?_
  rintro e w5 ⟨rfl, v5, S5⟩
  clear cf_m
  have x5 := S5.bx x2 (by simpa using hb) (by simpa using hd)
  have cf_h := Blk.cell x5 15 (v := .bool n.h) rfl
  rw [A] at cf_h
  have cf_ip := Blk.cell x5 14 (v := .int .u32 n.ip) rfl
  clear S4
  go_wp2_with fail
  go_at_call 125
  refine (writeIP_is S5 n.ip hn.ip.1 hn.ip.2 (by simp [enc_length, esiL]; omega)).mono ?_
  rintro e w6 ⟨rfl, v6, S6⟩
  clear cf_h cf_ip
  have x6 := S6.bx x2 (by simpa using hb) (by simpa using hd)
  have cf_l := Blk.cell x6 19 (v := .int .u32 n.l) rfl
  clear S5
  go_wp2_with fail
  go_at_call 108
  refine (put_U24 S6 n.l hn.l.1 hs.l (by simp [enc_length, esiL]; omega)).mono ?_
  rintro e w7 ⟨rfl, v7, S7⟩
  clear cf_l
  have x7 := S7.bx x2 (by simpa using hb) (by simpa using hd)
  have cf_l2 := Blk.cell x7 20 (v := .int .u32 n.l2) rfl
  clear S6
  go_wp2_with fail
  go_at_call 108
  refine (put_U24 S7 n.l2 hn.l2.1 hs.l2 (by simp [enc_length, esiL]; omega)).mono ?_
  rintro e w8 ⟨rfl, v8, S8⟩
  clear cf_l2
  clear S7
  go_wp2
  go_returns
  exact ⟨rfl, v8, Wr.of_later b2 (by simpa [List.append_assoc] using S8)⟩
set_option maxHeartbeats 2000000 in
theorem macWtf (n : NL) (hn : n.Ok) (hs : n.Small) (A : n.h = true) (B : (n.l2 != 0) = false) {b : Nat} {W : WS} {w : World} (h : Wtr w b W) (hl : W.xs.length + 37 ≤ W.lim) :
    Calls Try.prog 121 #[.agg #[], .pointer (some ⟨b, 0, none⟩), n.v] w fun e w2 => e = .returned (.tuple #[]) ∧ ∃ v2, Wr b W w (enc 8 n.rd.toNat ++ esiL n.e ++ enc 4 n.t.toNat ++ enc 1 48 ++ enc 6 n.m.toNat ++ (enc 1 32 ++ enc 4 n.ip.toNat) ++ enc 3 n.l.toNat) v2 w2 := by
  unfold NL.v
  obtain ⟨qm, pm⟩ := hn.m
  obtain ⟨qip, pip⟩ := hn.ip
  obtain ⟨ql, pl⟩ := hn.l
  go_enter Try.func121, Try.ntmps121
  go_wp2_with (first
    | (refine at_box0 rfl 94 _ rfl rfl ?_; rintro w1 k1 s1)
    | (refine at_box rfl _ rfl n rfl ?_; rintro w2 ⟨x2, k2, s2⟩; rw [s1] at x2; have b2 := k1.trans (k2.mono k1.size); have S2 := Wr.start (h.below b2); have hb := S2.wtr.1; have hd := S2.wtr.2.1; clear k1 k2)
    | (refine at_load rfl _ rfl (w.heap.size + 1) rfl n x2 ?_))
  go_at_call 107
  refine (writeStart_is n hn S2 (by simp [enc_length, esiL]; omega)).mono ?_
  rintro e w3 ⟨rfl, v3, S3⟩
  have x3 := S3.bx x2 (by simpa using hb) (by simpa using hd)
  clear S2
  go_wp2_with fail
  go_at_call 123
  refine (put_U8 S3 48 (by decide) (by decide) (by simp [enc_length, esiL]; omega)).mono ?_
  rintro e w4 ⟨rfl, v4, S4⟩
  have x4 := S4.bx x2 (by simpa using hb) (by simpa using hd)
  have cf_m := Blk.cell x4 13 (v := .int .u64 n.m) rfl
  clear S3
  go_wp2_with fail
  go_at_call 124
  refine (put_U48 S4 n.m hn.m.1 hs.m (by simp [enc_length, esiL]; omega)).mono ?_
  rintro e w5 ⟨rfl, v5, S5⟩
  clear cf_m
  have x5 := S5.bx x2 (by simpa using hb) (by simpa using hd)
  have cf_h := Blk.cell x5 15 (v := .bool n.h) rfl
  rw [A] at cf_h
  have cf_ip := Blk.cell x5 14 (v := .int .u32 n.ip) rfl
  clear S4
  go_wp2_with fail
  go_at_call 125
  refine (writeIP_is S5 n.ip hn.ip.1 hn.ip.2 (by simp [enc_length, esiL]; omega)).mono ?_
  rintro e w6 ⟨rfl, v6, S6⟩
  clear cf_h cf_ip
  have x6 := S6.bx x2 (by simpa using hb) (by simpa using hd)
  have cf_l := Blk.cell x6 19 (v := .int .u32 n.l) rfl
  clear S5
  go_wp2_with fail
  go_at_call 108
  refine (put_U24 S6 n.l hn.l.1 hs.l (by simp [enc_length, esiL]; omega)).mono ?_
  rintro e w7 ⟨rfl, v7, S7⟩
  clear cf_l
  have x7 := S7.bx x2 (by simpa using hb) (by simpa using hd)
  have cf_l2 := Blk.cell x7 20 (v := .int .u32 n.l2) rfl
  clear S6
  go_wp2
  go_returns
  exact ⟨rfl, v7, Wr.of_later b2 (by simpa [List.append_assoc] using S7)⟩
set_option maxHeartbeats 2000000 in
theorem macWft (n : NL) (hn : n.Ok) (hs : n.Small) (A : n.h = false) (B : (n.l2 != 0) = true) {b : Nat} {W : WS} {w : World} (h : Wtr w b W) (hl : W.xs.length + 36 ≤ W.lim) :
    Calls Try.prog 121 #[.agg #[], .pointer (some ⟨b, 0, none⟩), n.v] w fun e w2 => e = .returned (.tuple #[]) ∧ ∃ v2, Wr b W w (enc 8 n.rd.toNat ++ esiL n.e ++ enc 4 n.t.toNat ++ enc 1 48 ++ enc 6 n.m.toNat ++ enc 1 0 ++ enc 3 n.l.toNat ++ enc 3 n.l2.toNat) v2 w2 := by
  unfold NL.v
  obtain ⟨qm, pm⟩ := hn.m
  obtain ⟨ql, pl⟩ := hn.l
  obtain ⟨ql2, pl2⟩ := hn.l2
  go_enter Try.func121, Try.ntmps121
  go_wp2_with (first
    | (refine at_box0 rfl 94 _ rfl rfl ?_; rintro w1 k1 s1)
    | (refine at_box rfl _ rfl n rfl ?_; rintro w2 ⟨x2, k2, s2⟩; rw [s1] at x2; have b2 := k1.trans (k2.mono k1.size); have S2 := Wr.start (h.below b2); have hb := S2.wtr.1; have hd := S2.wtr.2.1; clear k1 k2)
    | (refine at_load rfl _ rfl (w.heap.size + 1) rfl n x2 ?_))
  go_at_call 107
  refine (writeStart_is n hn S2 (by simp [enc_length, esiL]; omega)).mono ?_
  rintro e w3 ⟨rfl, v3, S3⟩
  have x3 := S3.bx x2 (by simpa using hb) (by simpa using hd)
  clear S2
  go_wp2_with fail
  go_at_call 123
  refine (put_U8 S3 48 (by decide) (by decide) (by simp [enc_length, esiL]; omega)).mono ?_
  rintro e w4 ⟨rfl, v4, S4⟩
  have x4 := S4.bx x2 (by simpa using hb) (by simpa using hd)
  have cf_m := Blk.cell x4 13 (v := .int .u64 n.m) rfl
  clear S3
  go_wp2_with fail
  go_at_call 124
  refine (put_U48 S4 n.m hn.m.1 hs.m (by simp [enc_length, esiL]; omega)).mono ?_
  rintro e w5 ⟨rfl, v5, S5⟩
  clear cf_m
  have x5 := S5.bx x2 (by simpa using hb) (by simpa using hd)
  have cf_h := Blk.cell x5 15 (v := .bool n.h) rfl
  rw [A] at cf_h
  clear S4
  go_wp2_with fail
  go_at_call 123
  refine (put_U8 S5 0 (by decide) (by decide) (by simp [enc_length, esiL]; omega)).mono ?_
  rintro e w6 ⟨rfl, v6, S6⟩
  clear cf_h
  have x6 := S6.bx x2 (by simpa using hb) (by simpa using hd)
  have cf_l := Blk.cell x6 19 (v := .int .u32 n.l) rfl
  clear S5
  go_wp2_with fail
  go_at_call 108
  refine (put_U24 S6 n.l hn.l.1 hs.l (by simp [enc_length, esiL]; omega)).mono ?_
  rintro e w7 ⟨rfl, v7, S7⟩
  clear cf_l
  have x7 := S7.bx x2 (by simpa using hb) (by simpa using hd)
  have cf_l2 := Blk.cell x7 20 (v := .int .u32 n.l2) rfl
  clear S6
  go_wp2_with fail
  go_at_call 108
  refine (put_U24 S7 n.l2 hn.l2.1 hs.l2 (by simp [enc_length, esiL]; omega)).mono ?_
  rintro e w8 ⟨rfl, v8, S8⟩
  clear cf_l2
  clear S7
  go_wp2
  go_returns
  exact ⟨rfl, v8, Wr.of_later b2 (by simpa [List.append_assoc] using S8)⟩
set_option maxHeartbeats 2000000 in
theorem macWff (n : NL) (hn : n.Ok) (hs : n.Small) (A : n.h = false) (B : (n.l2 != 0) = false) {b : Nat} {W : WS} {w : World} (h : Wtr w b W) (hl : W.xs.length + 33 ≤ W.lim) :
    Calls Try.prog 121 #[.agg #[], .pointer (some ⟨b, 0, none⟩), n.v] w fun e w2 => e = .returned (.tuple #[]) ∧ ∃ v2, Wr b W w (enc 8 n.rd.toNat ++ esiL n.e ++ enc 4 n.t.toNat ++ enc 1 48 ++ enc 6 n.m.toNat ++ enc 1 0 ++ enc 3 n.l.toNat) v2 w2 := by
  unfold NL.v
  obtain ⟨qm, pm⟩ := hn.m
  obtain ⟨ql, pl⟩ := hn.l
  go_enter Try.func121, Try.ntmps121
  go_wp2_with (first
    | (refine at_box0 rfl 94 _ rfl rfl ?_; rintro w1 k1 s1)
    | (refine at_box rfl _ rfl n rfl ?_; rintro w2 ⟨x2, k2, s2⟩; rw [s1] at x2; have b2 := k1.trans (k2.mono k1.size); have S2 := Wr.start (h.below b2); have hb := S2.wtr.1; have hd := S2.wtr.2.1; clear k1 k2)
    | (refine at_load rfl _ rfl (w.heap.size + 1) rfl n x2 ?_))
  go_at_call 107
  refine (writeStart_is n hn S2 (by simp [enc_length, esiL]; omega)).mono ?_
  rintro e w3 ⟨rfl, v3, S3⟩
  have x3 := S3.bx x2 (by simpa using hb) (by simpa using hd)
  clear S2
  go_wp2_with fail
  go_at_call 123
  refine (put_U8 S3 48 (by decide) (by decide) (by simp [enc_length, esiL]; omega)).mono ?_
  rintro e w4 ⟨rfl, v4, S4⟩
  have x4 := S4.bx x2 (by simpa using hb) (by simpa using hd)
  have cf_m := Blk.cell x4 13 (v := .int .u64 n.m) rfl
  clear S3
  go_wp2_with fail
  go_at_call 124
  refine (put_U48 S4 n.m hn.m.1 hs.m (by simp [enc_length, esiL]; omega)).mono ?_
  rintro e w5 ⟨rfl, v5, S5⟩
  clear cf_m
  have x5 := S5.bx x2 (by simpa using hb) (by simpa using hd)
  have cf_h := Blk.cell x5 15 (v := .bool n.h) rfl
  rw [A] at cf_h
  clear S4
  go_wp2_with fail
  go_at_call 123
  refine (put_U8 S5 0 (by decide) (by decide) (by simp [enc_length, esiL]; omega)).mono ?_
  rintro e w6 ⟨rfl, v6, S6⟩
  clear cf_h
  have x6 := S6.bx x2 (by simpa using hb) (by simpa using hd)
  have cf_l := Blk.cell x6 19 (v := .int .u32 n.l) rfl
  clear S5
  go_wp2_with fail
  go_at_call 108
  refine (put_U24 S6 n.l hn.l.1 hs.l (by simp [enc_length, esiL]; omega)).mono ?_
  rintro e w7 ⟨rfl, v7, S7⟩
  clear cf_l
  have x7 := S7.bx x2 (by simpa using hb) (by simpa using hd)
  have cf_l2 := Blk.cell x7 20 (v := .int .u32 n.l2) rfl
  clear S6
  go_wp2
  go_returns
  exact ⟨rfl, v7, Wr.of_later b2 (by simpa [List.append_assoc] using S7)⟩
theorem macV_length (n : NL) : n.macV.length = 33 + (if n.h then 4 else 0) + (if n.l2 = 0 then 0 else 3) := by
  unfold NL.macV
  cases n.h <;> by_cases h : n.l2 = 0 <;> simp [enc_length, esiL, h]
theorem macW (n : NL) (hn : n.Ok) (hs : n.Small) {b : Nat} {W : WS} {w : World} (h : Wtr w b W) (hl : W.xs.length + n.macV.length ≤ W.lim) :
    Calls Try.prog 121 #[.agg #[], .pointer (some ⟨b, 0, none⟩), n.v] w fun e w2 => e = .returned (.tuple #[]) ∧ ∃ v2, Wr b W w n.macV v2 w2 := by
  rw [macV_length] at hl
  unfold NL.macV
  cases A : n.h
  · by_cases B : n.l2 = 0
    · simpa [A, B] using macWff n hn hs A (by simp [B]) h (by simpa [A, B] using hl)
    · simpa [A, B] using macWft n hn hs A (by simpa using B) h (by simpa [A, B] using hl)
  · by_cases B : n.l2 = 0
    · simpa [A, B] using macWtf n hn hs A (by simp [B]) h (by simpa [A, B] using hl)
    · simpa [A, B] using macWtt n hn hs A (by simpa using B) h (by simpa [A, B] using hl)
end Go.Proofs.Ytejcclcckgdbgaa
