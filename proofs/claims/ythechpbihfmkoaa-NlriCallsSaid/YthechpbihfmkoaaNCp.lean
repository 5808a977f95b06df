/- Compare: the order of two routes' keys. No condition. -/
import Derived.Test.YthechpbihfmkoaaNC
import Derived.Test.YthechpbihfmkoaaQt
namespace Go.Proofs.Ythechpbihfmkoaa
open Go.RowKit Go.Sort Go.Shelf
set_option linter.unusedVariables false
set_option linter.unusedSimpArgs false
set_option maxRecDepth 100000

theorem cesi_any (e f : Nat → Int) (w : World) : Calls Try.prog 43 #[.agg (esi e).toArray, .agg (esi f).toArray] w fun r w' => r = .returned (.int .i64 (cmpE e f)) ∧ Below w.heap.size w w' := compareESI_any e f w
/-- The signs, one after the other. -/
def signs (a b : NL) : List Int := [sg a.k b.k, sg a.rd b.rd, cmpE a.e b.e, sg a.t b.t, sg a.m b.m, sg (bit a.h) (bit b.h), sg a.ip b.ip, cmpP a.pi a.pn b.pi b.pn, sg a.g b.g]
def NL.cmp (a b : NL) : Int := orL (signs a.key b.key)

set_option maxHeartbeats 8000000 in
theorem compare_is (a b : NL) (w : World) : Calls Try.prog 21 #[a.v, b.v] w fun r w' => r = .returned (.int .i64 (a.cmp b)) ∧ Below w.heap.size w w' := by
  unfold NL.cmp
  have hka := fun w => key_is a w
  have hkb := fun w => key_is b w
  generalize a.key = p at hka ⊢
  generalize b.key = q at hkb ⊢
  unfold NL.v at hka hkb ⊢
  go_enter Try.func21, Try.ntmps21
  go_wp2_with (first
    | (refine at_box rfl (.tmp 0) rfl a rfl ?_; rintro w1 ⟨x1, k1, s1⟩)
    | (refine at_box rfl (.tmp 1) rfl b rfl ?_; rintro w2 ⟨y2, k2, s2⟩; rw [s1] at y2; have x2 := x1.below k2 x1.lt; have b2 := k1.trans (k2.mono k1.size); have hne : w.heap.size + 1 ≠ w.heap.size := by omega
       clear x1 k1 k2))
  refine wp_region_qtail 4 (by kernel_rfl) (by kernel_rfl) ?_
  simp only [List.take_succ_cons, List.take_zero, List.drop_succ_cons, List.drop_zero]
  repeat (first
    | go_big_quiet_skip
    | (go_big_quiet_want; refine q_load (.tmp 2) rfl w.heap.size rfl a x2.regrown ?_; go_simp; go_big_quiet_on)
    | (go_big_quiet_want; refine q_load (.tmp 3) rfl (w.heap.size + 1) rfl b y2.regrown ?_; go_simp; go_big_quiet_on)
    | (go_big_quiet_want; go_big_quiet_op; first | go_big_quiet_on | go_big_quiet_call (first | (with_reducible exact Calls.regrown_of (hka _)) | (with_reducible exact Calls.regrown_of (hkb _)))))
  refine wpQuiet_nil ?_
  intro w3 k3
  have x3 := x2.below k3 x2.lt
  have y3 := y2.below k3 y2.lt
  have b3 := b2.trans (k3.mono b2.size)
  clear x2 y2 b2 k3 hka hkb
  go_wp2_with (first
    | (refine at_store rfl (.tmp 2) _ rfl rfl w.heap.size rfl a p rfl x3 ?_; rintro w4 g4; have x4 := g4.bx; have y4 := g4.other y3 hne; have b4 := g4.next b3 (Nat.le_refl _); clear g4 x3 y3 b3)
    | (refine at_store rfl (.tmp 3) _ rfl rfl (w.heap.size + 1) rfl b q rfl y4 ?_; rintro w5 g5; have y5 := g5.bx; have x5 := g5.other x4 (Ne.symm hne); have b5 := g5.next b4 (by omega); clear g5 x4 y4 b4))
  refine wp_region_qtail 47 (by kernel_rfl) (by kernel_rfl) ?_
  simp only [List.take_succ_cons, List.take_zero, List.drop_succ_cons, List.drop_zero]
  have c0 := cell_regrown (Blk.cell x5 0 (v := .int .i64 p.k) rfl)
  have c1 := cell_regrown (Blk.cell x5 1 (v := .int .u64 p.rd) rfl)
  have c12 := cell_regrown (Blk.cell x5 12 (v := .int .u32 p.t) rfl)
  have c13 := cell_regrown (Blk.cell x5 13 (v := .int .u64 p.m) rfl)
  have c14 := cell_regrown (Blk.cell x5 14 (v := .int .u32 p.ip) rfl)
  have c15 := cell_regrown (Blk.cell x5 15 (v := .bool p.h) rfl)
  have c16 := cell_regrown (Blk.cell x5 16 (v := .int .u32 p.pi) rfl)
  have c17 := cell_regrown (Blk.cell x5 17 (v := .int .i64 p.pn) rfl)
  have c18 := cell_regrown (Blk.cell x5 18 (v := .int .u32 p.g) rfl)
  have d0 := cell_regrown (Blk.cell y5 0 (v := .int .i64 q.k) rfl)
  have d1 := cell_regrown (Blk.cell y5 1 (v := .int .u64 q.rd) rfl)
  have d12 := cell_regrown (Blk.cell y5 12 (v := .int .u32 q.t) rfl)
  have d13 := cell_regrown (Blk.cell y5 13 (v := .int .u64 q.m) rfl)
  have d14 := cell_regrown (Blk.cell y5 14 (v := .int .u32 q.ip) rfl)
  have d15 := cell_regrown (Blk.cell y5 15 (v := .bool q.h) rfl)
  have d16 := cell_regrown (Blk.cell y5 16 (v := .int .u32 q.pi) rfl)
  have d17 := cell_regrown (Blk.cell y5 17 (v := .int .i64 q.pn) rfl)
  have d18 := cell_regrown (Blk.cell y5 18 (v := .int .u32 q.g) rfl)
  repeat (first
    | go_big_quiet_skip
    | (go_big_quiet_want; refine q_esi (.tmp 19) rfl w.heap.size rfl p x5.regrown ?_; go_simp; go_big_quiet_on)
    | (go_big_quiet_want; refine q_esi (.tmp 21) rfl (w.heap.size + 1) rfl q y5.regrown ?_; go_simp; go_big_quiet_on)
    | (go_big_quiet_want; go_big_quiet_op; first | go_big_quiet_on | go_big_quiet_call (first | (with_reducible exact regrown_same (cmpInt_any _ _ _)) | (with_reducible exact regrown_same (cmpU64_any _ _ _)) | (with_reducible exact regrown_same (cmpU32_any _ _ _)) | (with_reducible exact regrown_same (cmpMAC_any _ _ _)) | (with_reducible exact regrown_same (cmpIP_any _ _ _)) | (with_reducible exact regrown_same (number_any _ _)) | (with_reducible exact Calls.regrown_of (cesi_any _ _ _)) | (with_reducible exact Calls.regrown_of (comparePrefix_any _ _ _ _ _)))))
  refine wpQuiet_nil ?_
  intro w6 k6
  have b6 := b5.trans (k6.mono b5.size)
  clear k6 x5 y5 b5 c0 d0 c1 d1 c12 d12 c13 d13 c14 d14 c15 d15 c16 d16 c17 d17 c18 d18
  go_wp2_with fail
  go_at_call 40
  refine (or_is w6.heap.size (signs p q) (show 9 ≤ 1000 by decide) _ (Blk.new w6 3 ((signs p q).map (Value.int .i64)))).mono ?_
  rintro e w7 ⟨rfl, rfl⟩
  go_wp2
  go_ret
  exact ⟨rfl, b6.alloc b6.size _⟩
end Go.Proofs.Ythechpbihfmkoaa
