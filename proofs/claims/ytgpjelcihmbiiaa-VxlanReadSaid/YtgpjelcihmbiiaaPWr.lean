/- What the headers write. No condition. -/
import Derived.Test.YtgpjelcihmbiiaaPWb
import Derived.Test.YtgpjelcihmbiiaaPSm
namespace Go.Proofs.Ytgpjelcihmbiiaa
open Go.RowKit
set_option linter.unusedVariables false
set_option linter.unusedSimpArgs false
set_option maxRecDepth 100000

theorem Wr.keep {b c : Nat} {W : WS} {w w' : World} {ys : List Int} {v : Value} {t : TypeId} {cs : List Value} (h : Wr b W w ys v w') (x : Blk w c t cs) (hb : Blk w b 113 W.cells) (hv : Dat w W.v W.xs) (h1 : t ≠ 113) (h2 : t ≠ 5) : Blk w' c t cs :=
  h.but.blk x (fun e => x.ne hb h1 e) (hv.own_ne x h2)
theorem put_U16 {b : Nat} {W : WS} {w w1 : World} {ys : List Int} {v : Value} (h : Wr b W w ys v w1) (x : Int) (h0 : 0 ≤ x) (h1 : x < 65536) (hr : W.xs.length + ys.length + 2 ≤ W.lim) :
    Calls Try.prog 84 #[.pointer (some ⟨b, 0, none⟩), .int .u64 x] w1 fun e w2 => e = .returned (.int .i64 0) ∧ ∃ v2, Wr b W w (ys ++ enc 2 x.toNat) v2 w2 := by
  have hx : x = ((x.toNat : Nat) : Int) := (Int.toNat_of_nonneg h0).symm
  have c := wr_U16 w1 b _ x.toNat h.wtr (by omega)
  rw [← hx] at c
  exact c.mono fun e w2 p => h.of_put p (res_ok (show x.toNat < 65536 by omega) (by simpa using hr))
theorem put_Bytes {b : Nat} {W : WS} {w w1 : World} {ys : List Int} {v : Value} (h : Wr b W w ys v w1) (u : Value) (zs : List Int) (hu : Dat w1 u zs) (ho : Oct zs) (hne : ∀ g, u.ownBlock = some g → some g ≠ v.ownBlock) (hr : W.xs.length + ys.length + zs.length ≤ W.lim) :
    Calls Try.prog 125 #[.pointer (some ⟨b, 0, none⟩), u] w1 fun e w2 => e = .returned (.int .i64 0) ∧ ∃ v2, Wr b W w (ys ++ zs) v2 w2 := by
  refine (wr_Bytes w1 b _ u zs h.wtr hu ho hne (by show (W.xs ++ ys).length + zs.length ≤ W.lim; simpa using hr)).mono ?_
  rintro e w2 ⟨rfl, v2, a1, a2, a3⟩
  exact ⟨rfl, v2, h.step ⟨a1, a2, a3⟩⟩
/-- The numbers of a frame are in the ranges of their types. -/
structure FL.Ok (f : FL) : Prop where
  s : 0 ≤ f.s ∧ f.s < 18446744073709551616
  d : 0 ≤ f.d ∧ f.d < 18446744073709551616
  sm : 0 ≤ f.sm ∧ f.sm < 18446744073709551616
  si : 0 ≤ f.si ∧ f.si < 4294967296
  tm : 0 ≤ f.tm ∧ f.tm < 18446744073709551616
  ti : 0 ≤ f.ti ∧ f.ti < 4294967296
  hs : 0 ≤ f.hs ∧ f.hs < 4294967296
  hd : 0 ≤ f.hd ∧ f.hd < 4294967296
  x : 0 ≤ f.x ∧ f.x < 18446744073709551616
def FL.size (f : FL) : Nat := if pt f.pr = true then 36 else 28
def FL.arB (f : FL) : List Int := enc 2 2054 ++ (enc 6 4429186564 ++ (enc 2 f.op.toNat ++ (enc 6 f.sm.toNat ++ (enc 4 f.si.toNat ++ (enc 6 f.tm.toNat ++ enc 4 f.ti.toNat)))))
def FL.hdB (f : FL) (c : Int) : List Int := enc 2 17664 ++ (enc 2 f.size ++ (enc 4 0 ++ (enc 1 f.tt.toNat ++ (enc 1 f.pr.toNat ++ (enc 2 c.toNat ++ (enc 4 f.hs.toNat ++ enc 4 f.hd.toNat))))))
def FL.ptB (f : FL) : List Int := if pt f.pr = true then enc 2 f.sp.toNat ++ (enc 2 f.dp.toNat ++ (enc 2 16 ++ enc 2 0)) else []
def FL.ipB (f : FL) : List Int := enc 2 2048 ++ (f.hdB (sumI (f.hdB 0)) ++ f.ptB)
theorem hdB_length (f : FL) (c : Int) : (f.hdB c).length = 20 := by simp [FL.hdB, enc_length]
theorem hdB_oct (f : FL) (c : Int) : Oct (f.hdB c) := by
  intro x hx
  simp only [FL.hdB, List.mem_append] at hx
  rcases hx with q | q | q | q | q | q | q | q
  all_goals exact enc_oct _ _ x q
theorem sumI_lt {xs : List Int} (h : Oct xs) : 0 ≤ sumI xs ∧ sumI xs < 65536 := by
  have := accS_lt h (List.range ((xs.length + 1) / 2))
  unfold sumI
  omega
theorem dataW {b : Nat} {W : WS} {w : World} (h : Wtr w b W) (hl : W.xs.length + 2 ≤ W.lim) :
    Calls Try.prog 118 #[.agg #[], .pointer (some ⟨b, 0, none⟩)] w fun e w2 => e = .returned (.tuple #[]) ∧ ∃ v2, Wr b W w (enc 2 34997) v2 w2 := by
  go_enter Try.func118, Try.ntmps118
  go_wp2_with (refine at_box rfl _ _ rfl [] rfl ?_; rintro w1 H1 k1 s1)
  go_at_call 84
  refine (put_U16 (Wr.start (h.below k1)) 34997 (by decide) (by decide) (by simpa using hl)).mono ?_
  rintro e w2 ⟨rfl, v2, S2⟩
  go_wp2
  go_returns
  exact ⟨rfl, v2, Wr.of_later k1 (by simpa using S2)⟩
set_option maxHeartbeats 1000000 in
theorem arpW (f : FL) (hf : f.Ok) (hc : f.achk = 0) {b : Nat} {W : WS} {w : World} (h : Wtr w b W) (hl : W.xs.length + 30 ≤ W.lim) :
    Calls Try.prog 120 #[.agg f.ar.toArray, .pointer (some ⟨b, 0, none⟩)] w fun e w2 => e = .returned (.tuple #[]) ∧ ∃ v2, Wr b W w f.arB v2 w2 := by
  obtain ⟨s, d, k, op, sm, si, tm, ti, hs, hd, tt, pr, sp, dp, x⟩ := f
  have q1 := hf.sm
  have q2 := hf.si
  have q3 := hf.tm
  have q4 := hf.ti
  clear hf
  unfold FL.ar FL.arB
  unfold FL.achk at hc
  dsimp only at *
  have ho : (op = 1 ∨ op = 2) ∧ sm ≤ 281474976710655 ∧ tm ≤ 281474976710655 := by
    by_cases q : ¬ (op = 1 ∨ op = 2) ∨ 281474976710655 < sm ∨ 281474976710655 < tm
    · rw [if_pos q] at hc; cases hc
    · omega
  clear hc
  obtain ⟨ho, q5, q6⟩ := ho
  have e0 : op % 18446744073709551616 = op := by omega
  have HO := Lib.hid ho
  have hop : 0 ≤ op ∧ op < 65536 := by omega
  clear ho
  go_enter Try.func120, Try.ntmps120
  go_wp2_with (refine at_box rfl _ _ rfl [.int .i64 op, .int .u64 sm, .int .u32 si, .int .u64 tm, .int .u32 ti] rfl ?_; rintro w1 H1 k1 s1)
  have S1 := Wr.start (h.below k1)
  have B0 := (h.below k1).1
  have D0 := (h.below k1).2.1
  clear s1
  go_at_call 84
  refine (put_U16 S1 2054 (by decide) (by decide) (by simp [enc_length] <;> omega)).mono ?_
  rintro e w2 ⟨rfl, v2, S2⟩
  have x2 := S2.keep H1 B0 D0 (by decide) (by decide)
  go_wp2_with fail
  go_at_call 42
  refine (put_U48 S2 4429186564 (by decide) (by decide) (by simp [enc_length] <;> omega)).mono ?_
  rintro e w3 ⟨rfl, v3, S3⟩
  have x3 := S3.keep H1 B0 D0 (by decide) (by decide)
  clear x2 S2
  have d4 := Blk.cell x3 0 (v := .int .i64 op) rfl
  go_wp2_with fail
  go_at_call 84
  refine (put_U16 S3 op (by omega) (by omega) (by simp [enc_length] <;> omega)).mono ?_
  rintro e w4 ⟨rfl, v4, S4⟩
  have x4 := S4.keep H1 B0 D0 (by decide) (by decide)
  clear x3 d4 S3
  have d5 := Blk.cell x4 1 (v := .int .u64 sm) rfl
  go_wp2_with fail
  go_at_call 42
  refine (put_U48 S4 sm q1.1 (by omega) (by simp [enc_length] <;> omega)).mono ?_
  rintro e w5 ⟨rfl, v5, S5⟩
  have x5 := S5.keep H1 B0 D0 (by decide) (by decide)
  clear x4 d5 S4
  have d6 := Blk.cell x5 2 (v := .int .u32 si) rfl
  go_wp2_with fail
  go_at_call 82
  refine (put_U32 S5 si q2.1 q2.2 (by simp [enc_length] <;> omega)).mono ?_
  rintro e w6 ⟨rfl, v6, S6⟩
  have x6 := S6.keep H1 B0 D0 (by decide) (by decide)
  clear x5 d6 S5
  have d7 := Blk.cell x6 3 (v := .int .u64 tm) rfl
  go_wp2_with fail
  go_at_call 42
  refine (put_U48 S6 tm q3.1 (by omega) (by simp [enc_length] <;> omega)).mono ?_
  rintro e w7 ⟨rfl, v7, S7⟩
  have x7 := S7.keep H1 B0 D0 (by decide) (by decide)
  clear x6 d7 S6
  have d8 := Blk.cell x7 4 (v := .int .u32 ti) rfl
  go_wp2_with fail
  go_at_call 82
  refine (put_U32 S7 ti q4.1 q4.2 (by simp [enc_length] <;> omega)).mono ?_
  rintro e w8 ⟨rfl, v8, S8⟩
  have x8 := S8.keep H1 B0 D0 (by decide) (by decide)
  clear x7 d8 S7
  go_wp2
  go_returns
  exact ⟨rfl, v8, Wr.of_later k1 (by simpa [List.append_assoc] using S8)⟩
theorem size_is (f : FL) (w : World) : Calls Try.prog 122 #[.agg f.ip.toArray] w fun e w' => e = .returned (.int .u64 f.size) ∧ Below w.heap.size w w' := by
  obtain ⟨s, d, k, op, sm, si, tm, ti, hs, hd, tt, pr, sp, dp, x⟩ := f
  unfold FL.ip FL.size
  dsimp only
  have HP := fun w => ported_is pr w
  cases hp : pt pr
  all_goals
    rw [hp] at HP
    go_enter Try.func122, Try.ntmps122
    go_wp2_with (first | (refine at_box rfl _ _ rfl [.int .u32 hs, .int .u32 hd, .int .i64 tt, .int .i64 pr, .int .i64 sp, .int .i64 dp] rfl ?_; rintro w1 H1 k1 s1; have c3 := H1.cell 3 (v := .int .i64 pr) rfl; clear H1) | (go_at_call 21; refine (HP _).mono ?_; rintro e w' ⟨rfl, hw⟩; obtain rfl := hw.symm))
    go_ret
    exact ⟨rfl, k1⟩
set_option maxHeartbeats 2000000 in
theorem withSum_is (f : FL) (hf : f.Ok) (h1 : up 255 f.tt = true) (h2 : up 255 f.pr = true) (c : Int) (qc : 0 ≤ c ∧ c < 65536) (w : World) :
    Calls Try.prog 126 #[.agg f.ip.toArray, .int .u16 c] w fun e w' => ∃ v, e = .returned v ∧ DatB w.heap.size w' v (f.hdB c) ∧ Below w.heap.size w w' := by
  have hsz := fun w => size_is f w
  have hss : f.size = 36 ∨ f.size = 28 := by unfold FL.size; split <;> simp
  have q1 := hf.hs
  have q2 := hf.hd
  clear hf
  obtain ⟨s, d, k, op, sm, si, tm, ti, hs, hd, tt, pr, sp, dp, x⟩ := f
  unfold FL.hdB
  generalize FL.size ⟨s, d, k, op, sm, si, tm, ti, hs, hd, tt, pr, sp, dp, x⟩ = z at hsz hss ⊢
  unfold FL.ip at hsz ⊢
  simp only [up, Bool.and_eq_true, decide_eq_true_eq] at h1 h2
  dsimp only at *
  have e1 : tt % 18446744073709551616 = tt := by omega
  have e2 : pr % 18446744073709551616 = pr := by omega
  have HS := Lib.hid hss
  have hz : z < 65536 := by omega
  clear hss
  go_enter Try.func126, Try.ntmps126
  go_wp2_with (refine at_box rfl _ _ rfl [.int .u32 hs, .int .u32 hd, .int .i64 tt, .int .i64 pr, .int .i64 sp, .int .i64 dp] rfl ?_; rintro w1 H1 k1 s1)
  go_at_call 41
  refine (wr_New w1 20 (by decide)).mono ?_
  rintro e w2 ⟨b, rfl, m, W2, hbb, -, -, k2⟩
  have b2 := k1.trans (k2.mono k1.size)
  have H2 := H1.below k2 H1.lt
  have hB : w.heap.size ≤ b := Nat.le_trans k1.size hbb
  clear k1 k2 hbb s1 H1
  have S2 := Wr.start W2
  have B0 := W2.1
  have D0 := W2.2.1
  go_wp2_with fail
  go_at_call 84
  refine (put_U16 S2 17664 (by decide) (by decide) (by simp [enc_length])).mono ?_
  rintro e w3 ⟨rfl, v3, S3⟩
  have x3 := S3.keep H2 B0 D0 (by decide) (by decide)
  go_wp2_with (refine at_mid rfl 110 _ rfl w.heap.size 0 rfl x3 [.int .u32 hs, .int .u32 hd, .int .i64 tt, .int .i64 pr, .int .i64 sp, .int .i64 dp] rfl _ Try.underlying110 rfl szHi ?_)
  go_at_call 122
  refine (hsz w3).mono ?_
  rintro e w4 ⟨rfl, k4⟩
  have S4 := S3.below k4
  have x4 := x3.below k4 x3.lt
  clear x3 S3 k4 S2 hsz
  go_wp2_with fail
  go_at_call 84
  refine (put_U16 S4 z (by omega) (by omega) (by simp [enc_length])).mono ?_
  rintro e w5 ⟨rfl, v5, S5⟩
  rw [Int.toNat_natCast] at S5
  have x5 := S5.keep H2 B0 D0 (by decide) (by decide)
  clear x4 S4
  go_wp2_with fail
  go_at_call 82
  refine (put_U32 S5 0 (by decide) (by decide) (by simp [enc_length] <;> omega)).mono ?_
  rintro e w6 ⟨rfl, v6, S6⟩
  have x6 := S6.keep H2 B0 D0 (by decide) (by decide)
  have d7 := Blk.cell x6 2 (v := .int .i64 tt) rfl
  go_wp2_with fail
  go_at_call 83
  refine (put_U8 S6 tt h1.1 (by omega) (by simp [enc_length] <;> omega)).mono ?_
  rintro e w7 ⟨rfl, v7, S7⟩
  have x7 := S7.keep H2 B0 D0 (by decide) (by decide)
  clear x6 d7 S6
  have d8 := Blk.cell x7 3 (v := .int .i64 pr) rfl
  go_wp2_with fail
  go_at_call 83
  refine (put_U8 S7 pr h2.1 (by omega) (by simp [enc_length] <;> omega)).mono ?_
  rintro e w8 ⟨rfl, v8, S8⟩
  have x8 := S8.keep H2 B0 D0 (by decide) (by decide)
  clear x7 d8 S7
  go_wp2_with fail
  go_at_call 84
  refine (put_U16 S8 c qc.1 qc.2 (by simp [enc_length] <;> omega)).mono ?_
  rintro e w9 ⟨rfl, v9, S9⟩
  have x9 := S9.keep H2 B0 D0 (by decide) (by decide)
  clear x8 S8
  have d10 := Blk.cell x9 0 (v := .int .u32 hs) rfl
  go_wp2_with fail
  go_at_call 82
  refine (put_U32 S9 hs q1.1 q1.2 (by simp [enc_length] <;> omega)).mono ?_
  rintro e w10 ⟨rfl, v10, S10⟩
  have x10 := S10.keep H2 B0 D0 (by decide) (by decide)
  clear x9 d10 S9
  have d11 := Blk.cell x10 1 (v := .int .u32 hd) rfl
  go_wp2_with fail
  go_at_call 82
  refine (put_U32 S10 hd q2.1 q2.2 (by simp [enc_length] <;> omega)).mono ?_
  rintro e w11 ⟨rfl, v11, S11⟩
  have x11 := S11.keep H2 B0 D0 (by decide) (by decide)
  clear x10 d11 S10
  go_wp2_with fail
  go_at_call 44
  refine (out_new w11 b _ S11.wtr).mono ?_
  rintro e w12 ⟨v, rfl, hd12, k12⟩
  have b12 : Below w.heap.size w w11 := S11.base b2 hB (fun g hg => by simp [Value.ownBlock] at hg) b2.size
  go_wp2
  go_ret
  refine ⟨v, rfl, ?_, b12.trans (k12.mono b12.size)⟩
  have := World.ownsRow.mono hd12 b12.size
  simpa [DatB, List.append_assoc] using this
end Go.Proofs.Ytgpjelcihmbiiaa
