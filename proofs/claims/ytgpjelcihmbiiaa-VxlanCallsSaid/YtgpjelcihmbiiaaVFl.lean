/- The flow of a frame, and its entropy. No condition. -/
import Derived.Test.YtgpjelcihmbiiaaVLv
namespace Go.Proofs.Ytgpjelcihmbiiaa
open Go.RowKit
set_option linter.unusedVariables false
set_option linter.unusedSimpArgs false
set_option maxRecDepth 100000

/-- The octets of the flow of a frame. -/
def flw (f : FL) : List Int := if f.k = 2 then enc 4 f.hs.toNat ++ (enc 4 f.hd.toNat ++ (enc 1 (f.pr % 256).toNat ++ (enc 2 (f.sp % 65536).toNat ++ enc 2 (f.dp % 65536).toNat))) else enc 6 (f.s % 281474976710656).toNat ++ (enc 6 (f.d % 281474976710656).toNat ++ enc 1 (f.k % 256).toNat)
theorem flw_length (f : FL) : (flw f).length = 13 := by unfold flw; split <;> simp [enc_length]
theorem flw_oct (f : FL) : Oct (flw f) := by
  intro x hx
  unfold flw at hx
  split at hx <;> simp only [List.mem_append] at hx
  · rcases hx with q | q | q | q | q
    all_goals exact enc_oct _ _ x q
  · rcases hx with q | q | q
    all_goals exact enc_oct _ _ x q
theorem flw_some (f : FL) : flw f ≠ [] := fun h => by
  have := flw_length f
  rw [h] at this
  cases this
theorem and48 (a : Int) (h0 : 0 ≤ a) (h1 : a < 18446744073709551616) : bits .and .u64 a 281474976710655 = a % 281474976710656 := by
  rw [u64_and _ _ h0 h1 (by decide) (by decide)]
  have := Nat.and_two_pow_sub_one_eq_mod a.toNat 48
  rw [show ((281474976710655 : Int).toNat) = 2 ^ 48 - 1 by decide, this]
  omega
theorem w16 (z : Int) : IntKind.u64.wrap (IntKind.u16.wrap z) = z % 65536 := by
  simp [IntKind.wrap, IntKind.bits, IntKind.signed]
  omega
theorem str_at (xs : List Int) (ho : Oct xs) (i : Nat) (hi : i < xs.length) : ((strOfNums xs).data[i]?.map fun b => (b.toNat : Int)) = some (xs.getD i 0) := by
  have h := ho _ (List.getElem_mem hi)
  have e : (strOfNums xs).data[i]? = some (UInt8.ofNat (xs[i]).toNat) := by
    unfold strOfNums
    simp [hi]
  rw [e, List.getD_eq_getElem?_getD, List.getElem?_eq_getElem hi]
  simp [UInt8.toNat_ofNat']
  omega
set_option maxHeartbeats 4000000 in
theorem flow_ip (s d k op sm si tm ti hs hd tt pr sp dp x : Int) (hf : FL.Ok ⟨s, d, k, op, sm, si, tm, ti, hs, hd, tt, pr, sp, dp, x⟩) (hk : k = 2) (w : World) : Calls Try.prog 63 #[.agg #[.int .u64 s, .int .u64 d, .int .i64 k, .int .i64 op, .int .u64 sm, .int .u32 si, .int .u64 tm, .int .u32 ti, .int .u32 hs, .int .u32 hd, .int .i64 tt, .int .i64 pr, .int .i64 sp, .int .i64 dp, .int .u64 x]] w fun e w' => e = .returned (.string (strOfNums (flw ⟨s, d, k, op, sm, si, tm, ti, hs, hd, tt, pr, sp, dp, x⟩))) ∧ Below w.heap.size w w' := by
  have q1 := hf.s; have q2 := hf.d; have q3 := hf.hs; have q4 := hf.hd
  dsimp only at q1 q2 q3 q4
  have hne := flw_some ⟨s, d, k, op, sm, si, tm, ti, hs, hd, tt, pr, sp, dp, x⟩
  subst hk
  have r1 : pr % 256 % 18446744073709551616 = pr % 256 := by omega
  have rU16sp := w16 sp
  have rU16dp := w16 dp
  obtain ⟨E, hE⟩ : ∃ E, flw ⟨s, d, 2, op, sm, si, tm, ti, hs, hd, tt, pr, sp, dp, x⟩ = E := ⟨_, rfl⟩
  rw [hE] at hne ⊢
  unfold flw at hE
  rw [if_pos rfl] at hE
  dsimp only at hE
  have HNE := Lib.hid hne
  have HEE := Lib.hid hE
  clear hne hf hE
  go_enter Try.func63, Try.ntmps63
  go_wp2_with (refine at_box rfl 36 _ rfl [.int .u64 s, .int .u64 d, .int .i64 2, .int .i64 op, .int .u64 sm, .int .u32 si, .int .u64 tm, .int .u32 ti, .int .u32 hs, .int .u32 hd, .int .i64 tt, .int .i64 pr, .int .i64 sp, .int .i64 dp, .int .u64 x] rfl ?_; rintro w1 H1 k1 s1)
  go_at_call 41
  refine (wr_New w1 13 (by decide)).mono ?_
  rintro e w2 ⟨b, rfl, m, W2, hbb, -, -, k2⟩
  have b2 := k1.trans (k2.mono k1.size)
  have H2 := H1.below k2 H1.lt
  have hBb : w.heap.size ≤ b := Nat.le_trans k1.size hbb
  clear k1 k2 hbb s1 H1
  have S2 := Wr.start W2
  have B0 := W2.1
  have D0 := W2.2.1
  have cK := Blk.cell H2 2 (v := .int .i64 2) rfl
  have d2 := Blk.cell H2 8 (v := .int .u32 hs) rfl
  go_wp2_with fail
  go_at_call 82
  refine (put_U32 S2 hs q3.1 q3.2 (by simp [enc_length] <;> omega)).mono ?_
  rintro e w3 ⟨rfl, v3, S3⟩
  have x3 := S3.keep H2 B0 D0 (by decide) (by decide)
  clear S2 d2
  have d3 := Blk.cell x3 9 (v := .int .u32 hd) rfl
  go_wp2_with fail
  go_at_call 82
  refine (put_U32 S3 hd q4.1 q4.2 (by simp [enc_length] <;> omega)).mono ?_
  rintro e w4 ⟨rfl, v4, S4⟩
  have x4 := S4.keep H2 B0 D0 (by decide) (by decide)
  clear S3 d3
  have d4 := Blk.cell x4 11 (v := .int .i64 pr) rfl
  go_wp2_with fail
  go_at_call 83
  refine (put_U8 S4 (pr % 256) (by omega) (by omega) (by simp [enc_length] <;> omega)).mono ?_
  rintro e w5 ⟨rfl, v5, S5⟩
  have x5 := S5.keep H2 B0 D0 (by decide) (by decide)
  clear S4 d4
  have d5 := Blk.cell x5 12 (v := .int .i64 sp) rfl
  go_wp2_with fail
  go_at_call 84
  refine (put_U16 S5 (sp % 65536) (by omega) (by omega) (by simp [enc_length] <;> omega)).mono ?_
  rintro e w6 ⟨rfl, v6, S6⟩
  have x6 := S6.keep H2 B0 D0 (by decide) (by decide)
  clear S5 d5
  have d6 := Blk.cell x6 13 (v := .int .i64 dp) rfl
  go_wp2_with fail
  go_at_call 84
  refine (put_U16 S6 (dp % 65536) (by omega) (by omega) (by simp [enc_length] <;> omega)).mono ?_
  rintro e w7 ⟨rfl, v7, S7⟩
  have x7 := S7.keep H2 B0 D0 (by decide) (by decide)
  clear S6 d6
  go_wp2_with fail
  go_at_call 44
  refine (out_new w7 b _ S7.wtr).mono ?_
  rintro e wz ⟨v, rfl, dz, kz⟩
  have bb := S7.base b2 hBb (fun g hg => by simp [Value.ownBlock] at hg) b2.size
  have bz := bb.trans (kz.mono bb.size)
  simp only [List.nil_append, List.append_assoc] at dz
  rw [HEE.out] at dz
  have hcv := seg_string dz.dat.seg HNE.out
  obtain ⟨va, vc, rfl⟩ := dz.dat.shape
  clear dz kz bb S7 x7 cK H2 B0 D0
  go_wp2
  go_ret
  exact ⟨rfl, bz⟩
set_option maxHeartbeats 4000000 in
theorem flow_mac (s d k op sm si tm ti hs hd tt pr sp dp x : Int) (hf : FL.Ok ⟨s, d, k, op, sm, si, tm, ti, hs, hd, tt, pr, sp, dp, x⟩) (hk : k ≠ 2) (w : World) : Calls Try.prog 63 #[.agg #[.int .u64 s, .int .u64 d, .int .i64 k, .int .i64 op, .int .u64 sm, .int .u32 si, .int .u64 tm, .int .u32 ti, .int .u32 hs, .int .u32 hd, .int .i64 tt, .int .i64 pr, .int .i64 sp, .int .i64 dp, .int .u64 x]] w fun e w' => e = .returned (.string (strOfNums (flw ⟨s, d, k, op, sm, si, tm, ti, hs, hd, tt, pr, sp, dp, x⟩))) ∧ Below w.heap.size w w' := by
  have q1 := hf.s; have q2 := hf.d; have q3 := hf.hs; have q4 := hf.hd
  dsimp only at q1 q2 q3 q4
  have hne := flw_some ⟨s, d, k, op, sm, si, tm, ti, hs, hd, tt, pr, sp, dp, x⟩
  have r1 : k % 256 % 18446744073709551616 = k % 256 := by omega
  have a1 := and48 s q1.1 q1.2
  have a2 := and48 d q2.1 q2.2
  have hk2 : (k == 2) = false := by simpa using hk
  obtain ⟨E, hE⟩ : ∃ E, flw ⟨s, d, k, op, sm, si, tm, ti, hs, hd, tt, pr, sp, dp, x⟩ = E := ⟨_, rfl⟩
  rw [hE] at hne ⊢
  unfold flw at hE
  rw [if_neg hk] at hE
  dsimp only at hE
  have HNE := Lib.hid hne
  have HEE := Lib.hid hE
  clear hne hf hE hk
  go_enter Try.func63, Try.ntmps63
  go_wp2_with (refine at_box rfl 36 _ rfl [.int .u64 s, .int .u64 d, .int .i64 k, .int .i64 op, .int .u64 sm, .int .u32 si, .int .u64 tm, .int .u32 ti, .int .u32 hs, .int .u32 hd, .int .i64 tt, .int .i64 pr, .int .i64 sp, .int .i64 dp, .int .u64 x] rfl ?_; rintro w1 H1 k1 s1)
  go_at_call 41
  refine (wr_New w1 13 (by decide)).mono ?_
  rintro e w2 ⟨b, rfl, m, W2, hbb, -, -, k2⟩
  have b2 := k1.trans (k2.mono k1.size)
  have H2 := H1.below k2 H1.lt
  have hBb : w.heap.size ≤ b := Nat.le_trans k1.size hbb
  clear k1 k2 hbb s1 H1
  have S2 := Wr.start W2
  have B0 := W2.1
  have D0 := W2.2.1
  have cK := Blk.cell H2 2 (v := .int .i64 k) rfl
  have d2 := Blk.cell H2 0 (v := .int .u64 s) rfl
  go_wp2_with fail
  go_at_call 42
  refine (put_U48 S2 (s % 281474976710656) (by omega) (by omega) (by simp [enc_length] <;> omega)).mono ?_
  rintro e w3 ⟨rfl, v3, S3⟩
  have x3 := S3.keep H2 B0 D0 (by decide) (by decide)
  clear S2 d2
  have d3 := Blk.cell x3 1 (v := .int .u64 d) rfl
  go_wp2_with fail
  go_at_call 42
  refine (put_U48 S3 (d % 281474976710656) (by omega) (by omega) (by simp [enc_length] <;> omega)).mono ?_
  rintro e w4 ⟨rfl, v4, S4⟩
  have x4 := S4.keep H2 B0 D0 (by decide) (by decide)
  clear S3 d3
  have d4 := Blk.cell x4 2 (v := .int .i64 k) rfl
  go_wp2_with fail
  go_at_call 83
  refine (put_U8 S4 (k % 256) (by omega) (by omega) (by simp [enc_length] <;> omega)).mono ?_
  rintro e w5 ⟨rfl, v5, S5⟩
  have x5 := S5.keep H2 B0 D0 (by decide) (by decide)
  clear S4 d4
  go_wp2_with fail
  go_at_call 44
  refine (out_new w5 b _ S5.wtr).mono ?_
  rintro e wz ⟨v, rfl, dz, kz⟩
  have bb := S5.base b2 hBb (fun g hg => by simp [Value.ownBlock] at hg) b2.size
  have bz := bb.trans (kz.mono bb.size)
  simp only [List.nil_append, List.append_assoc] at dz
  rw [HEE.out] at dz
  have hcv := seg_string dz.dat.seg HNE.out
  obtain ⟨va, vc, rfl⟩ := dz.dat.shape
  clear dz kz bb S5 x5 cK H2 B0 D0
  go_wp2
  go_ret
  exact ⟨rfl, bz⟩
theorem flow_is (f : FL) (hf : f.Ok) (w : World) : Calls Try.prog 63 #[f.v] w fun e w' => e = .returned (.string (strOfNums (flw f))) ∧ Below w.heap.size w w' := by
  obtain ⟨s, d, k, op, sm, si, tm, ti, hs, hd, tt, pr, sp, dp, x⟩ := f
  by_cases hk : k = 2
  · exact flow_ip _ _ _ _ _ _ _ _ _ _ _ _ _ _ _ hf hk w
  · exact flow_mac _ _ _ _ _ _ _ _ _ _ _ _ _ _ _ hf hk w
set_option maxHeartbeats 2000000 in
theorem hashs_is (xs : List Int) (w : World) (ho : Oct xs) (hl : xs.length ≤ 1000000) :
    Calls Try.prog 62 #[.string (strOfNums xs)] w fun e w' => e = .returned (.int .u32 (hsh xs)) ∧ w' = w := by
  have hsz := strOfNums_size xs
  have hat := str_at xs ho
  generalize strOfNums xs = str at *
  go_enter Try.func62, Try.ntmps62
  go_wp2_with fail
  go_loopw [3, 4, 7] (fun v3 v4 v7 wr => ∃ i : Nat, i ≤ xs.length ∧ v3 = .int .u32 (hsh (xs.take i)) ∧ v7 = .int .i64 i ∧ wr = w) (fun _ _ v7 _ => xs.length - (intOf v7).toNat)
  case atStart => exact ⟨0, Nat.zero_le _, rfl, rfl, rfl⟩
  case round =>
    obtain ⟨i, hi, rfl, rfl, hw⟩ := hrel
    subst hw
    by_cases hlt : i < xs.length
    · have hO := ho.getD i
      have hq : (i : Int) < str.size := by omega
      have hs := hsh_take xs i hlt
      have hi2 := hat i hlt
      have HAT := Lib.hid hat
      clear hat
      generalize xs.getD i 0 = y at *
      generalize hsh (xs.take i) = h0 at *
      have e1 : bits .xor .u32 h0 y * 16777619 % 4294967296 = hsh (xs.take (i + 1)) := hs.symm
      obtain ⟨ub, hub, huy⟩ := Option.map_eq_some_iff.1 hi2
      have hidx : ∀ w, (Instr.index 9 (.string str) (.int .i64 i)).run Try.prog w = .ok (.int .u8 y) w := fun w => by
        have hc : (0 : Int) ≤ i ∧ (i : Int) < str.size := ⟨by omega, hq⟩
        rw [run_index_string _ _ _ _ _ Try.underlying9, dif_pos hc]
        have e2 : str[(i : Int).toNat]'(by omega) = ub := by
          have := Array.getElem?_eq_some_iff.1 hub
          exact this.2
        rw [e2, huy]
      clear hs hi2
      go_wp2
      exact ⟨⟨i + 1, by omega, by simp [← e1], by simp only [Value.int.injEq, true_and]; omega, trivial⟩, by simp [intOf]; omega⟩
    · obtain rfl : i = xs.length := by omega
      rw [List.take_length]
      go_wp2
      go_ret
      exact ⟨rfl, rfl⟩
def entro (f : FL) : Int := 49152 + hsh (flw f) % 16384
theorem ent_is (f : FL) (hf : f.Ok) (w : World) : Calls Try.prog 37 #[f.v] w fun e w' => e = .returned (.int .i64 (entro f)) ∧ Below w.heap.size w w' := by
  have HF := fun w => flow_is f hf w
  have HS := fun w => hashs_is (flw f) w (flw_oct f) (by rw [flw_length]; decide)
  have hb := hsh_lt (flw f)
  unfold entro
  generalize hsh (flw f) = h at *
  generalize strOfNums (flw f) = str at *
  have e1 : 49152 + h % 16384 < 9223372036854775808 := by omega
  unfold FL.v at HF ⊢
  go_enter Try.func37, Try.ntmps37
  go_wp2_with (first
    | (refine at_box rfl 36 _ rfl (FL.cs f) rfl ?_; rintro w1 H1 k1 s1)
    | (refine at_mid rfl 36 _ rfl w.heap.size 0 rfl H1 (FL.cs f) rfl _ Try.underlying36 rfl szF ?_))
  go_at_call 63
  refine (HF w1).mono ?_
  rintro e w2 ⟨rfl, k2⟩
  have b2 := k1.trans (k2.mono k1.size)
  clear k1 k2 H1 HF
  go_wp2_with fail
  go_at_call 62
  refine (HS w2).mono ?_
  rintro e w3 ⟨rfl, hw⟩
  obtain rfl := hw.symm
  go_wp2
  go_ret
  exact ⟨by simp <;> omega, b2⟩
end Go.Proofs.Ytgpjelcihmbiiaa
