/- The examples of the chapter hold. No condition. -/
import Derived.Test.YtgpjelcihmbiiaaVLd
namespace Go.Proofs.Ytgpjelcihmbiiaa
open Go.RowKit
set_option linter.unusedVariables false
set_option linter.unusedSimpArgs false
set_option maxRecDepth 100000

theorem hash_is (xs : List Int) (v : Value) (w : World) (hd : Seg w v xs) (ho : Oct xs) (hl : xs.length ≤ 1000000) :
    Calls Try.prog 33 #[v] w fun e w' => e = .returned (.int .u32 (hsh xs)) ∧ w' = w := by
  have H := fun w' h => hashb_is xs v w' h ho hl
  have HV := Lib.hid hd
  obtain ⟨va, vc, rfl, -⟩ := id hd
  clear hd
  go_enter Try.func33, Try.ntmps33
  go_wp2_with (go_at_call 61; refine (H _ HV.out).mono ?_; rintro e w' ⟨rfl, hw⟩; obtain rfl := hw.symm)
  go_ret
  exact ⟨rfl, rfl⟩
def exF : FL := ⟨2199023255553, 281474976710655, 0, 0, 0, 0, 0, 0, 0, 0, 0, 0, 0, 0, 7⟩
def exP : PL := ⟨184483841, 184483842, 16, 50000, 100, 0, exF⟩
theorem exF_ok : exF.Ok := ⟨by decide, by decide, by decide, by decide, by decide, by decide, by decide, by decide, by decide⟩
theorem exF_chk : exF.chk = 0 := by
  have hmc : mc exF.s = false := by decide
  unfold FL.chk
  rw [if_neg (by decide), hmc, if_neg (by decide), if_neg (by decide), if_neg (by decide), if_neg (by decide), if_neg (by decide)]
theorem exF_enc : exF.enc = [255, 255, 255, 255, 255, 255, 2, 0, 0, 0, 0, 1, 136, 181, 0, 0, 0, 0, 0, 0, 0, 7] := by decide
theorem exP_ok : exP.Ok := ⟨by decide, by decide, by decide, by decide, exF_ok⟩
theorem exP_chk : exP.chk = 0 := by
  unfold PL.chk
  rw [if_pos (by decide)]
  exact exF_chk
theorem exP_len : exP.enc.length = 58 := by
  rw [penc_length]
  show 36 + exF.enc.length = 58
  rw [exF_enc]
  rfl
theorem exP_mid : (exP.enc.drop 20).take 16 = [195, 80, 18, 181, 0, 38, 0, 0, 8, 0, 0, 0, 0, 0, 100, 0] := by
  unfold PL.enc
  rw [List.drop_left' (hdr_length _ _)]
  show ((udB 50000 exF.enc.length ++ (vxB 0 100 ++ exF.enc)).take 16) = _
  rw [exF_enc]
  decide
def PZ : List Value := P0.cs
theorem run_newPk (w : World) : (Instr.alloc 55 true (.tuple #[])).run Try.prog w = .ok (.pointer (some ⟨w.heap.size, 0, none⟩)) (w.alloc (.cells P0.cs.toArray 55)) := by kernel_rfl
theorem example_is (w : World) : Calls Try.prog 31 #[] w fun e w' => e = .returned exP.v ∧ Below w.heap.size w w' := by
  go_enter Try.func31, Try.ntmps31
  go_wp2_with (first
    | (refine at_new rfl 55 P0.cs rfl run_newPk ?_; rintro w1 H1 k1 s1)
    | (refine at_bld rfl 36 _ rfl (FL.cs exF) (by kernel_rfl) ?_)
    | (refine at_bld rfl 55 _ rfl (PL.cs exP) (by kernel_rfl) ?_)
    | (refine at_put rfl 55 _ _ rfl rfl w.heap.size rfl (PL.cs exP) rfl H1 rfl szP (pcs_one _) ?_; rintro w2 g2; have H2 := g2.blk; have b2 := g2.below k1 (Nat.le_refl _); clear H1 k1 g2 s1))
  exact bodyPost_ret (results_cell_row (by rfl) _ _ w.heap.size _ _ _ _ rfl H2 Try.underlying55 rfl szP) rfl ⟨rfl, b2⟩
theorem at_sliceX {ops : Array Oper} {rest : List Oper} {o : Oper} {a : Act} {w : World} {Q : Exit → Act → World → Prop} (hw : Region.wanted o (yielded ops a.tmps) = true) (ty : TypeId) (x l h : Operand) (ho : o.op = .slice ty x (some l) (some h) none) (v lo hi v1 : Value) (hx : a.eval x = v) (hl : a.eval l = lo) (hh : a.eval h = hi) (hr : (Instr.sliceAt ty v (some lo) (some hi) none).run Try.prog w = .ok v1 w)
    (k : wpList Try.prog ops Q rest (a.put o.dst v1) w) : wpList Try.prog ops Q (o :: rest) a w :=
  wpList_wanted hw fun _ hK => by
    unfold Oper.wp execOp
    simp only [ho, Option.map_some, Option.map_none, hx, hl, hh, Sem.run_bind, hr, Sem.run_pure, Result.andThen_ok]
    exact hK _ _ k
set_option maxHeartbeats 2000000 in
theorem vlives_is (w : World) : Calls Try.prog 28 #[] w fun e w' => e = .returned (.bool true) ∧ Below w.heap.size w w' := by
  have HE := fun w => example_is w
  have HB := fun w => vbytes_ok exP exP_ok exP_chk w
  have HH : ∀ w, Calls Try.prog 33 #[.slice none 0 0] w fun e w' => e = .returned (.int .u32 2166136261) ∧ w' = w := fun w => hash_is [] _ w (Seg.nil w) (fun x hx => absurd hx (by simp)) (by decide)
  have hlen := exP_len
  have hmid := exP_mid
  generalize exP.enc = xs at *
  have hs : strOfNums ((xs.drop 20).take 16) = (⟨#[195, 80, 18, 181, 0, 38, 0, 0, 8, 0, 0, 0, 0, 0, 100, 0]⟩ : ByteArray) := by rw [hmid]; rfl
  have HS := Lib.hid hs
  have HNE : Hid ((xs.drop 20).take 16 ≠ []) := Lib.hid (by rw [hmid]; decide)
  have HL := Lib.hid hlen
  clear hs hmid hlen
  unfold PL.v at HE HB
  go_enter Try.func28, Try.ntmps28
  go_wp2_with fail
  go_at_call 31
  refine (HE w).mono ?_
  rintro e w1 ⟨rfl, k1⟩
  go_wp2_with fail
  go_at_call 30
  refine (HB w1).mono ?_
  rintro e w2 ⟨v, rfl, d2, k2⟩
  have b2 := k1.trans (k2.mono k1.size)
  obtain ⟨sv, hsr, hss⟩ := dat_slice d2.dat 20 16 (by rw [HL.out]; decide)
  rw [show ((20 : Nat) : Int) = 20 from rfl, show ((16 : Nat) : Int) = 16 from rfl, show (20 : Int) + 16 = 36 from rfl] at hsr
  have hcv := seg_string hss HNE.out
  rw [HS.out] at hcv
  obtain ⟨va, vc, hve⟩ := d2.dat.shape
  rw [HL.out] at hve
  subst hve
  have hsr' : (Instr.sliceAt 23 (.slice va 58 vc) (some (.int .i64 20)) (some (.int .i64 36)) none).run Try.prog w2 = .ok sv w2 := by rw [run_sliceAt_slice _ _ _ _ _ _ under_b]; exact hsr
  clear k1 k2 HB HE hsr d2
  go_upto_region 2 with fail
  refine wp_region_lit ?_
  repeat (first
    | go_skip
    | (refine at_sliceX rfl 23 _ _ _ rfl (.slice va 58 vc) (.int .i64 20) (.int .i64 36) sv rfl rfl rfl hsr' ?_)
    | (go_at_call 33; refine (HH _).mono ?_; rintro e w' ⟨rfl, hw⟩; obtain rfl := hw.symm)
    | go_guarded | go_step | go_upon)
  go_wp2
  go_ret
  exact ⟨rfl, b2⟩
end Go.Proofs.Ytgpjelcihmbiiaa
