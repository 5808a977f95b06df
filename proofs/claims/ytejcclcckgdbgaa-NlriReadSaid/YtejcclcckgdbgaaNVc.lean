/- The reference of layer 4: the route that a value would encode, kinds 2, 5. No condition. -/
import Derived.Test.YtejcclcckgdbgaaNVb
namespace Go.Proofs.Ytejcclcckgdbgaa
open Go.RowKit Go.Sort
set_option linter.unusedVariables false
set_option linter.unusedSimpArgs false
set_option maxRecDepth 100000
set_option maxHeartbeats 1000000 in
theorem val_2L (xs : List Int) (ho : Oct xs) (hl : xs.length ≤ 1000) (h18 : 18 ≤ xs.length) (v : Value) (w : World) (hs : Seg w v xs) : Calls Try.prog 53 #[.int .i64 2, v] w fun r w' => ∃ n : NL, r = .returned n.v ∧ Vals 2 xs n ∧ Below w.heap.size w w' := by
  have h18' : (18 : Int) ≤ xs.length := by omega
  obtain ⟨pa, pc, hpv⟩ : ∃ a c, v = .slice a xs.length c := by obtain ⟨a, c, e, -⟩ := id hs; exact ⟨a, c, e⟩
  subst hpv
  go_enter Try.func53, Try.ntmps53
  go_wp2_with (first
    | (refine at_new rfl rfl ?_; rintro w1 ⟨x1, k1, s1⟩; have vb := k1; clear k1)
    | fail)
  go_at_call 75
  refine (take_z xs ho hl _ _ (hs.below vb) 0 8 18446744073709551616 (by decide) (by decide) (by decide) (by decide) (by decide)).mono ?_
  rintro r wx ⟨z1, rfl, Hz1, z1a, z1b, hw⟩
  obtain rfl := hw.symm
  clear hw
  go_wp2_with (first
    | (refine at_build rfl _ rfl ⟨2, z1, fun _ => 0, 0, 0, 0, false, 0, 0, 0, 0, 0⟩ (by kernel_rfl) ?_)
    | (refine at_new rfl rfl ?_; rintro w2 ⟨x2, k2, s2⟩; rw [s1] at x2; have y2 := x1.below k2 x1.lt; have vb := vb.trans (k2.mono vb.size); clear k2; go_simp)
    | (refine at_store rfl _ _ rfl rfl (w.heap.size + 1) rfl NL.zero ⟨2, z1, fun _ => 0, 0, 0, 0, false, 0, 0, 0, 0, 0⟩ rfl x2 ?_; rintro w3 g3; have V : Va w w3 ⟨2, z1, fun _ => 0, 0, 0, 0, false, 0, 0, 0, 0, 0⟩ := ⟨g3.bx, g3.other y2 (by omega), But.below vb g3.but (Nat.le_succ _) vb.size⟩; have vb := V.b; clear g3 x2 y2 x1)
    | fail)
  refine wp_region_selT [0, 1, 2, 3] 1 rfl (by kernel_rfl) (by kernel_rfl) (by kernel_rfl) (by kernel_rfl) (fun _ d _ _ _ h => by cases d <;> exact h) ?_
  intro W hW
  simp only [pickOps, List.filterMap_cons, List.filterMap_nil, List.getElem?_cons_zero, List.getElem?_cons_succ, Option.map_some, List.map_cons, List.map_nil]
  obtain ⟨pf, ps⟩ := pv_is (hs.below vb) 8 18 (by decide) h18
  repeat (first
    | (go_big_quiet_want; refine q_slice 23 (by rw [elem_bytes]; exact Try.underlying23) (.tmp 20) (.const (.int .i64 8)) (.const (.int .i64 18)) rfl _ _ _ (pv (.slice pa xs.length pc) 8 18) rfl rfl rfl (fun W _ => pf W) ?_; go_simp; go_big_quiet_on)
    | go_big_quiet_step (fail))
  refine wpQuiet_nil ?_
  have dr : Below w3.heap.size w3 W := by subst hW; exact (Below.refl _ _).drew
  have V4 : Va w W ⟨2, z1, fun _ => 0, 0, 0, 0, false, 0, 0, 0, 0, 0⟩ := ⟨V.x.below dr V.x.lt, V.z.below dr V.z.lt, V.b.trans (dr.mono V.b.size)⟩
  obtain ⟨rv, w5, hr, g5⟩ := copy_id W 3 (w.heap.size + 1) ⟨2, z1, fun _ => 0, 0, 0, 0, false, 0, 0, 0, 0, 0⟩ (pv (.slice pa xs.length pc) 8 18) _ V4.x (ps.below dr) (by rw [List.length_take, List.length_drop]; omega)
  replace V := V4.set g5
  have vb := V.b
  have HR := Lib.hid hr
  clear hr V4 g5 dr hW ps
  refine wpAnyH_one (k := 4) (by kernel_rfl) rfl (fun K hQ => ?_)
  refine if_true_prop (by kernel_rfl) ?_
  refine step_copy _ _ 23 23 rfl _ _ _ rfl rfl HR.out ?_
  refine hQ _ _ ⟨_, rfl⟩ ?_
  clear hQ K
  refine wpAnyH_done (by kernel_rfl) ?_ 0
  clear HR pf
  generalize hE : (fun j => ((xs.drop 8).take 10).getD j 0) = E at V
  go_wp2_with fail
  go_at_call 75
  refine (take_z xs ho hl _ _ (hs.below vb) 18 4 4294967296 (by decide) (by decide) (by decide) (by decide) (by decide)).mono ?_
  rintro r wx ⟨z2, rfl, Hz2, z2a, z2b, hw⟩
  obtain rfl := hw.symm
  clear hw
  go_wp2_with (first
    | (refine at_set rfl 29 _ _ rfl rfl (w.heap.size + 1) 12 rfl ⟨2, z1, E, 0, 0, 0, false, 0, 0, 0, 0, 0⟩ ⟨2, z1, E, z2, 0, 0, false, 0, 0, 0, 0, 0⟩ (.int .u32 z2) rfl V.x rfl rfl rfl u32_one (by decide) ?_; rintro wy gy; replace V := V.set gy; have vb := V.b; clear gy)
    | fail)
  go_at_call 75
  refine (take_z xs ho hl _ _ (hs.below vb) 23 6 281474976710656 (by decide) (by decide) (by decide) (by decide) (by decide)).mono ?_
  rintro r wx ⟨z3, rfl, Hz3, z3a, z3b, hw⟩
  obtain rfl := hw.symm
  clear hw
  go_wp2_with (first
    | (refine at_set rfl 28 _ _ rfl rfl (w.heap.size + 1) 13 rfl ⟨2, z1, E, z2, 0, 0, false, 0, 0, 0, 0, 0⟩ ⟨2, z1, E, z2, z3, 0, false, 0, 0, 0, 0, 0⟩ (.int .u64 z3) rfl V.x rfl rfl rfl mac_one (by decide) ?_; rintro wy gy; replace V := V.set gy; have vb := V.b; clear gy)
    | fail)
  go_at_call 75
  refine (take_z xs ho hl _ _ (hs.below vb) 29 1 256 (by decide) (by decide) (by decide) (by decide) (by decide)).mono ?_
  rintro r wx ⟨z4, rfl, Hz4, z4a, z4b, hw⟩
  obtain rfl := hw.symm
  clear hw
  by_cases hz : z4 = 32
  · have hzb : (z4 == 32) = true := by simpa using hz
    go_wp2_with (first
      | (refine at_set rfl 4 _ _ rfl rfl (w.heap.size + 1) 15 rfl ⟨2, z1, E, z2, z3, 0, false, 0, 0, 0, 0, 0⟩ ⟨2, z1, E, z2, z3, 0, true, 0, 0, 0, 0, 0⟩ (.bool true) rfl V.x rfl rfl rfl bool_one (by decide) ?_; rintro wy gy; replace V := V.set gy; have vb := V.b; have ch := Blk.cell V.x 15 (v := .bool true) rfl; clear gy)
      | fail)
    go_at_call 75
    refine (take_z xs ho hl _ _ (hs.below vb) 30 4 4294967296 (by decide) (by decide) (by decide) (by decide) (by decide)).mono ?_
    rintro r wx ⟨z5, rfl, Hz5, z5a, z5b, hw⟩
    obtain rfl := hw.symm
    clear hw
    clear ch
    go_wp2_with (first
      | (refine at_set rfl 32 _ _ rfl rfl (w.heap.size + 1) 14 rfl ⟨2, z1, E, z2, z3, 0, true, 0, 0, 0, 0, 0⟩ ⟨2, z1, E, z2, z3, z5, true, 0, 0, 0, 0, 0⟩ (.int .u32 z5) rfl V.x rfl rfl rfl ip_one (by decide) ?_; rintro wy gy; replace V := V.set gy; have vb := V.b; clear gy)
      | fail)
    go_at_call 75
    refine (take_z xs ho hl _ _ (hs.below vb) 34 3 16777216 (by decide) (by decide) (by decide) (by decide) (by decide)).mono ?_
    rintro r wx ⟨z6, rfl, Hz6, z6a, z6b, hw⟩
    obtain rfl := hw.symm
    clear hw
    go_wp2_with fail
    go_at_call 75
    refine (take_z xs ho hl _ _ (hs.below vb) 37 3 16777216 (by decide) (by decide) (by decide) (by decide) (by decide)).mono ?_
    rintro r wx ⟨z7, rfl, Hz7, z7a, z7b, hw⟩
    obtain rfl := hw.symm
    clear hw
    go_wp2_with (first
      | (refine at_set rfl 29 _ _ rfl rfl (w.heap.size + 1) 19 rfl ⟨2, z1, E, z2, z3, z5, true, 0, 0, 0, 0, 0⟩ ⟨2, z1, E, z2, z3, z5, true, 0, 0, 0, z6, 0⟩ (.int .u32 z6) rfl V.x rfl rfl rfl u32_one (by decide) ?_; rintro wy gy; replace V := V.set gy; have vb := V.b; clear gy)
      | (refine at_set rfl 29 _ _ rfl rfl (w.heap.size + 1) 20 rfl ⟨2, z1, E, z2, z3, z5, true, 0, 0, 0, z6, 0⟩ ⟨2, z1, E, z2, z3, z5, true, 0, 0, 0, z6, z7⟩ (.int .u32 z7) rfl V.x rfl rfl rfl u32_one (by decide) ?_; rintro wy gy; replace V := V.set gy; have vb := V.b; clear gy)
      | (refine at_load rfl _ rfl (w.heap.size + 1) rfl ⟨2, z1, E, z2, z3, z5, true, 0, 0, 0, z6, z7⟩ V.x ?_)
      | (refine at_store rfl _ _ rfl rfl w.heap.size rfl NL.zero ⟨2, z1, E, z2, z3, z5, true, 0, 0, 0, z6, z7⟩ rfl V.z ?_; rintro wy gy; have Y := gy.bx; have vb := But.below V.b gy.but (Nat.le_refl _) V.b.size; clear gy)
      | fail)
    exact bodyPost_ret (results_cell_row (by rfl) _ _ w.heap.size _ _ _ _ rfl Y Try.underlying36 rfl (NL.size _)) rfl ⟨⟨2, z1, E, z2, z3, z5, true, 0, 0, 0, z6, z7⟩, rfl, vals_2 rfl Hz1.out (fun j => by rw [← hE]) Hz2.out Hz3.out (by have q : z4 = ((tk xs 29 1 : Nat) : Int) := Hz4.out; rw [← q]; exact hzb.symm) (fun _ => ⟨Hz5.out, Hz6.out, Hz7.out⟩) (fun q => by cases q) rfl rfl rfl ⟨⟨z1a, Int.lt_of_lt_of_le z1b (by decide)⟩, fun j => by rw [← hE]; exact ((ho.drop 8).take 10).getD j, ⟨z2a, Int.lt_of_lt_of_le z2b (by decide)⟩, ⟨z3a, Int.lt_of_lt_of_le z3b (by decide)⟩, ⟨z5a, Int.lt_of_lt_of_le z5b (by decide)⟩, zro (by decide), zro (by decide), ⟨z6a, Int.lt_of_lt_of_le z6b (by decide)⟩, ⟨z7a, Int.lt_of_lt_of_le z7b (by decide)⟩⟩, vb⟩
  · have hzb : (z4 == 32) = false := by simpa using hz
    go_wp2_with (first
      | (refine at_set rfl 4 _ _ rfl rfl (w.heap.size + 1) 15 rfl ⟨2, z1, E, z2, z3, 0, false, 0, 0, 0, 0, 0⟩ ⟨2, z1, E, z2, z3, 0, false, 0, 0, 0, 0, 0⟩ (.bool false) rfl V.x rfl rfl rfl bool_one (by decide) ?_; rintro wy gy; replace V := V.set gy; have vb := V.b; have ch := Blk.cell V.x 15 (v := .bool false) rfl; clear gy)
      | fail)
    go_at_call 75
    refine (take_z xs ho hl _ _ (hs.below vb) 30 3 16777216 (by decide) (by decide) (by decide) (by decide) (by decide)).mono ?_
    rintro r wx ⟨z5, rfl, Hz5, z5a, z5b, hw⟩
    obtain rfl := hw.symm
    clear hw
    clear ch
    go_wp2_with fail
    go_at_call 75
    refine (take_z xs ho hl _ _ (hs.below vb) 33 3 16777216 (by decide) (by decide) (by decide) (by decide) (by decide)).mono ?_
    rintro r wx ⟨z6, rfl, Hz6, z6a, z6b, hw⟩
    obtain rfl := hw.symm
    clear hw
    go_wp2_with (first
      | (refine at_set rfl 29 _ _ rfl rfl (w.heap.size + 1) 19 rfl ⟨2, z1, E, z2, z3, 0, false, 0, 0, 0, 0, 0⟩ ⟨2, z1, E, z2, z3, 0, false, 0, 0, 0, z5, 0⟩ (.int .u32 z5) rfl V.x rfl rfl rfl u32_one (by decide) ?_; rintro wy gy; replace V := V.set gy; have vb := V.b; clear gy)
      | (refine at_set rfl 29 _ _ rfl rfl (w.heap.size + 1) 20 rfl ⟨2, z1, E, z2, z3, 0, false, 0, 0, 0, z5, 0⟩ ⟨2, z1, E, z2, z3, 0, false, 0, 0, 0, z5, z6⟩ (.int .u32 z6) rfl V.x rfl rfl rfl u32_one (by decide) ?_; rintro wy gy; replace V := V.set gy; have vb := V.b; clear gy)
      | (refine at_load rfl _ rfl (w.heap.size + 1) rfl ⟨2, z1, E, z2, z3, 0, false, 0, 0, 0, z5, z6⟩ V.x ?_)
      | (refine at_store rfl _ _ rfl rfl w.heap.size rfl NL.zero ⟨2, z1, E, z2, z3, 0, false, 0, 0, 0, z5, z6⟩ rfl V.z ?_; rintro wy gy; have Y := gy.bx; have vb := But.below V.b gy.but (Nat.le_refl _) V.b.size; clear gy)
      | fail)
    exact bodyPost_ret (results_cell_row (by rfl) _ _ w.heap.size _ _ _ _ rfl Y Try.underlying36 rfl (NL.size _)) rfl ⟨⟨2, z1, E, z2, z3, 0, false, 0, 0, 0, z5, z6⟩, rfl, vals_2 rfl Hz1.out (fun j => by rw [← hE]) Hz2.out Hz3.out (by have q : z4 = ((tk xs 29 1 : Nat) : Int) := Hz4.out; rw [← q]; exact hzb.symm) (fun q => by cases q) (fun _ => ⟨rfl, Hz5.out, Hz6.out⟩) rfl rfl rfl ⟨⟨z1a, Int.lt_of_lt_of_le z1b (by decide)⟩, fun j => by rw [← hE]; exact ((ho.drop 8).take 10).getD j, ⟨z2a, Int.lt_of_lt_of_le z2b (by decide)⟩, ⟨z3a, Int.lt_of_lt_of_le z3b (by decide)⟩, zro (by decide), zro (by decide), zro (by decide), ⟨z5a, Int.lt_of_lt_of_le z5b (by decide)⟩, ⟨z6a, Int.lt_of_lt_of_le z6b (by decide)⟩⟩, vb⟩
set_option maxHeartbeats 1000000 in
theorem val_2S (xs : List Int) (ho : Oct xs) (hl : xs.length ≤ 1000) (h18 : ¬ 18 ≤ xs.length) (v : Value) (w : World) (hs : Seg w v xs) : Calls Try.prog 53 #[.int .i64 2, v] w fun r w' => ∃ n : NL, r = .returned n.v ∧ Vals 2 xs n ∧ Below w.heap.size w w' := by
  have h18' : ¬ (18 : Int) ≤ xs.length := by omega
  obtain ⟨pa, pc, hpv⟩ : ∃ a c, v = .slice a xs.length c := by obtain ⟨a, c, e, -⟩ := id hs; exact ⟨a, c, e⟩
  subst hpv
  go_enter Try.func53, Try.ntmps53
  go_wp2_with (first
    | (refine at_new rfl rfl ?_; rintro w1 ⟨x1, k1, s1⟩; have vb := k1; clear k1)
    | fail)
  go_at_call 75
  refine (take_z xs ho hl _ _ (hs.below vb) 0 8 18446744073709551616 (by decide) (by decide) (by decide) (by decide) (by decide)).mono ?_
  rintro r wx ⟨z1, rfl, Hz1, z1a, z1b, hw⟩
  obtain rfl := hw.symm
  clear hw
  go_wp2_with (first
    | (refine at_build rfl _ rfl ⟨2, z1, fun _ => 0, 0, 0, 0, false, 0, 0, 0, 0, 0⟩ (by kernel_rfl) ?_)
    | (refine at_new rfl rfl ?_; rintro w2 ⟨x2, k2, s2⟩; rw [s1] at x2; have y2 := x1.below k2 x1.lt; have vb := vb.trans (k2.mono vb.size); clear k2; go_simp)
    | (refine at_store rfl _ _ rfl rfl (w.heap.size + 1) rfl NL.zero ⟨2, z1, fun _ => 0, 0, 0, 0, false, 0, 0, 0, 0, 0⟩ rfl x2 ?_; rintro w3 g3; have V : Va w w3 ⟨2, z1, fun _ => 0, 0, 0, 0, false, 0, 0, 0, 0, 0⟩ := ⟨g3.bx, g3.other y2 (by omega), But.below vb g3.but (Nat.le_succ _) vb.size⟩; have vb := V.b; clear g3 x2 y2 x1)
    | fail)
  go_at_call 75
  refine (take_z xs ho hl _ _ (hs.below vb) 8 4 4294967296 (by decide) (by decide) (by decide) (by decide) (by decide)).mono ?_
  rintro r wx ⟨z2, rfl, Hz2, z2a, z2b, hw⟩
  obtain rfl := hw.symm
  clear hw
  go_wp2_with (first
    | (refine at_set rfl 29 _ _ rfl rfl (w.heap.size + 1) 12 rfl ⟨2, z1, fun _ => 0, 0, 0, 0, false, 0, 0, 0, 0, 0⟩ ⟨2, z1, fun _ => 0, z2, 0, 0, false, 0, 0, 0, 0, 0⟩ (.int .u32 z2) rfl V.x rfl rfl rfl u32_one (by decide) ?_; rintro wy gy; replace V := V.set gy; have vb := V.b; clear gy)
    | fail)
  go_at_call 75
  refine (take_z xs ho hl _ _ (hs.below vb) 13 6 281474976710656 (by decide) (by decide) (by decide) (by decide) (by decide)).mono ?_
  rintro r wx ⟨z3, rfl, Hz3, z3a, z3b, hw⟩
  obtain rfl := hw.symm
  clear hw
  go_wp2_with (first
    | (refine at_set rfl 28 _ _ rfl rfl (w.heap.size + 1) 13 rfl ⟨2, z1, fun _ => 0, z2, 0, 0, false, 0, 0, 0, 0, 0⟩ ⟨2, z1, fun _ => 0, z2, z3, 0, false, 0, 0, 0, 0, 0⟩ (.int .u64 z3) rfl V.x rfl rfl rfl mac_one (by decide) ?_; rintro wy gy; replace V := V.set gy; have vb := V.b; clear gy)
    | fail)
  go_at_call 75
  refine (take_z xs ho hl _ _ (hs.below vb) 19 1 256 (by decide) (by decide) (by decide) (by decide) (by decide)).mono ?_
  rintro r wx ⟨z4, rfl, Hz4, z4a, z4b, hw⟩
  obtain rfl := hw.symm
  clear hw
  by_cases hz : z4 = 32
  · have hzb : (z4 == 32) = true := by simpa using hz
    go_wp2_with (first
      | (refine at_set rfl 4 _ _ rfl rfl (w.heap.size + 1) 15 rfl ⟨2, z1, fun _ => 0, z2, z3, 0, false, 0, 0, 0, 0, 0⟩ ⟨2, z1, fun _ => 0, z2, z3, 0, true, 0, 0, 0, 0, 0⟩ (.bool true) rfl V.x rfl rfl rfl bool_one (by decide) ?_; rintro wy gy; replace V := V.set gy; have vb := V.b; have ch := Blk.cell V.x 15 (v := .bool true) rfl; clear gy)
      | fail)
    go_at_call 75
    refine (take_z xs ho hl _ _ (hs.below vb) 20 4 4294967296 (by decide) (by decide) (by decide) (by decide) (by decide)).mono ?_
    rintro r wx ⟨z5, rfl, Hz5, z5a, z5b, hw⟩
    obtain rfl := hw.symm
    clear hw
    clear ch
    go_wp2_with (first
      | (refine at_set rfl 32 _ _ rfl rfl (w.heap.size + 1) 14 rfl ⟨2, z1, fun _ => 0, z2, z3, 0, true, 0, 0, 0, 0, 0⟩ ⟨2, z1, fun _ => 0, z2, z3, z5, true, 0, 0, 0, 0, 0⟩ (.int .u32 z5) rfl V.x rfl rfl rfl ip_one (by decide) ?_; rintro wy gy; replace V := V.set gy; have vb := V.b; clear gy)
      | fail)
    go_at_call 75
    refine (take_z xs ho hl _ _ (hs.below vb) 24 3 16777216 (by decide) (by decide) (by decide) (by decide) (by decide)).mono ?_
    rintro r wx ⟨z6, rfl, Hz6, z6a, z6b, hw⟩
    obtain rfl := hw.symm
    clear hw
    go_wp2_with fail
    go_at_call 75
    refine (take_z xs ho hl _ _ (hs.below vb) 27 3 16777216 (by decide) (by decide) (by decide) (by decide) (by decide)).mono ?_
    rintro r wx ⟨z7, rfl, Hz7, z7a, z7b, hw⟩
    obtain rfl := hw.symm
    clear hw
    go_wp2_with (first
      | (refine at_set rfl 29 _ _ rfl rfl (w.heap.size + 1) 19 rfl ⟨2, z1, fun _ => 0, z2, z3, z5, true, 0, 0, 0, 0, 0⟩ ⟨2, z1, fun _ => 0, z2, z3, z5, true, 0, 0, 0, z6, 0⟩ (.int .u32 z6) rfl V.x rfl rfl rfl u32_one (by decide) ?_; rintro wy gy; replace V := V.set gy; have vb := V.b; clear gy)
      | (refine at_set rfl 29 _ _ rfl rfl (w.heap.size + 1) 20 rfl ⟨2, z1, fun _ => 0, z2, z3, z5, true, 0, 0, 0, z6, 0⟩ ⟨2, z1, fun _ => 0, z2, z3, z5, true, 0, 0, 0, z6, z7⟩ (.int .u32 z7) rfl V.x rfl rfl rfl u32_one (by decide) ?_; rintro wy gy; replace V := V.set gy; have vb := V.b; clear gy)
      | (refine at_load rfl _ rfl (w.heap.size + 1) rfl ⟨2, z1, fun _ => 0, z2, z3, z5, true, 0, 0, 0, z6, z7⟩ V.x ?_)
      | (refine at_store rfl _ _ rfl rfl w.heap.size rfl NL.zero ⟨2, z1, fun _ => 0, z2, z3, z5, true, 0, 0, 0, z6, z7⟩ rfl V.z ?_; rintro wy gy; have Y := gy.bx; have vb := But.below V.b gy.but (Nat.le_refl _) V.b.size; clear gy)
      | fail)
    exact bodyPost_ret (results_cell_row (by rfl) _ _ w.heap.size _ _ _ _ rfl Y Try.underlying36 rfl (NL.size _)) rfl ⟨⟨2, z1, fun _ => 0, z2, z3, z5, true, 0, 0, 0, z6, z7⟩, rfl, Vals.short rfl ⟨⟨z1a, Int.lt_of_lt_of_le z1b (by decide)⟩, fun _ => zro (by decide), ⟨z2a, Int.lt_of_lt_of_le z2b (by decide)⟩, ⟨z3a, Int.lt_of_lt_of_le z3b (by decide)⟩, ⟨z5a, Int.lt_of_lt_of_le z5b (by decide)⟩, zro (by decide), zro (by decide), ⟨z6a, Int.lt_of_lt_of_le z6b (by decide)⟩, ⟨z7a, Int.lt_of_lt_of_le z7b (by decide)⟩⟩ (by decide) h18, vb⟩
  · have hzb : (z4 == 32) = false := by simpa using hz
    go_wp2_with (first
      | (refine at_set rfl 4 _ _ rfl rfl (w.heap.size + 1) 15 rfl ⟨2, z1, fun _ => 0, z2, z3, 0, false, 0, 0, 0, 0, 0⟩ ⟨2, z1, fun _ => 0, z2, z3, 0, false, 0, 0, 0, 0, 0⟩ (.bool false) rfl V.x rfl rfl rfl bool_one (by decide) ?_; rintro wy gy; replace V := V.set gy; have vb := V.b; have ch := Blk.cell V.x 15 (v := .bool false) rfl; clear gy)
      | fail)
    go_at_call 75
    refine (take_z xs ho hl _ _ (hs.below vb) 20 3 16777216 (by decide) (by decide) (by decide) (by decide) (by decide)).mono ?_
    rintro r wx ⟨z5, rfl, Hz5, z5a, z5b, hw⟩
    obtain rfl := hw.symm
    clear hw
    clear ch
    go_wp2_with fail
    go_at_call 75
    refine (take_z xs ho hl _ _ (hs.below vb) 23 3 16777216 (by decide) (by decide) (by decide) (by decide) (by decide)).mono ?_
    rintro r wx ⟨z6, rfl, Hz6, z6a, z6b, hw⟩
    obtain rfl := hw.symm
    clear hw
    go_wp2_with (first
      | (refine at_set rfl 29 _ _ rfl rfl (w.heap.size + 1) 19 rfl ⟨2, z1, fun _ => 0, z2, z3, 0, false, 0, 0, 0, 0, 0⟩ ⟨2, z1, fun _ => 0, z2, z3, 0, false, 0, 0, 0, z5, 0⟩ (.int .u32 z5) rfl V.x rfl rfl rfl u32_one (by decide) ?_; rintro wy gy; replace V := V.set gy; have vb := V.b; clear gy)
      | (refine at_set rfl 29 _ _ rfl rfl (w.heap.size + 1) 20 rfl ⟨2, z1, fun _ => 0, z2, z3, 0, false, 0, 0, 0, z5, 0⟩ ⟨2, z1, fun _ => 0, z2, z3, 0, false, 0, 0, 0, z5, z6⟩ (.int .u32 z6) rfl V.x rfl rfl rfl u32_one (by decide) ?_; rintro wy gy; replace V := V.set gy; have vb := V.b; clear gy)
      | (refine at_load rfl _ rfl (w.heap.size + 1) rfl ⟨2, z1, fun _ => 0, z2, z3, 0, false, 0, 0, 0, z5, z6⟩ V.x ?_)
      | (refine at_store rfl _ _ rfl rfl w.heap.size rfl NL.zero ⟨2, z1, fun _ => 0, z2, z3, 0, false, 0, 0, 0, z5, z6⟩ rfl V.z ?_; rintro wy gy; have Y := gy.bx; have vb := But.below V.b gy.but (Nat.le_refl _) V.b.size; clear gy)
      | fail)
    exact bodyPost_ret (results_cell_row (by rfl) _ _ w.heap.size _ _ _ _ rfl Y Try.underlying36 rfl (NL.size _)) rfl ⟨⟨2, z1, fun _ => 0, z2, z3, 0, false, 0, 0, 0, z5, z6⟩, rfl, Vals.short rfl ⟨⟨z1a, Int.lt_of_lt_of_le z1b (by decide)⟩, fun _ => zro (by decide), ⟨z2a, Int.lt_of_lt_of_le z2b (by decide)⟩, ⟨z3a, Int.lt_of_lt_of_le z3b (by decide)⟩, zro (by decide), zro (by decide), zro (by decide), ⟨z5a, Int.lt_of_lt_of_le z5b (by decide)⟩, ⟨z6a, Int.lt_of_lt_of_le z6b (by decide)⟩⟩ (by decide) h18, vb⟩
set_option maxHeartbeats 1000000 in
theorem val_5L (xs : List Int) (ho : Oct xs) (hl : xs.length ≤ 1000) (h18 : 18 ≤ xs.length) (v : Value) (w : World) (hs : Seg w v xs) : Calls Try.prog 53 #[.int .i64 5, v] w fun r w' => ∃ n : NL, r = .returned n.v ∧ Vals 5 xs n ∧ Below w.heap.size w w' := by
  have h18' : (18 : Int) ≤ xs.length := by omega
  obtain ⟨pa, pc, hpv⟩ : ∃ a c, v = .slice a xs.length c := by obtain ⟨a, c, e, -⟩ := id hs; exact ⟨a, c, e⟩
  subst hpv
  go_enter Try.func53, Try.ntmps53
  go_wp2_with (first
    | (refine at_new rfl rfl ?_; rintro w1 ⟨x1, k1, s1⟩; have vb := k1; clear k1)
    | fail)
  go_at_call 75
  refine (take_z xs ho hl _ _ (hs.below vb) 0 8 18446744073709551616 (by decide) (by decide) (by decide) (by decide) (by decide)).mono ?_
  rintro r wx ⟨z1, rfl, Hz1, z1a, z1b, hw⟩
  obtain rfl := hw.symm
  clear hw
  go_wp2_with (first
    | (refine at_build rfl _ rfl ⟨5, z1, fun _ => 0, 0, 0, 0, false, 0, 0, 0, 0, 0⟩ (by kernel_rfl) ?_)
    | (refine at_new rfl rfl ?_; rintro w2 ⟨x2, k2, s2⟩; rw [s1] at x2; have y2 := x1.below k2 x1.lt; have vb := vb.trans (k2.mono vb.size); clear k2; go_simp)
    | (refine at_store rfl _ _ rfl rfl (w.heap.size + 1) rfl NL.zero ⟨5, z1, fun _ => 0, 0, 0, 0, false, 0, 0, 0, 0, 0⟩ rfl x2 ?_; rintro w3 g3; have V : Va w w3 ⟨5, z1, fun _ => 0, 0, 0, 0, false, 0, 0, 0, 0, 0⟩ := ⟨g3.bx, g3.other y2 (by omega), But.below vb g3.but (Nat.le_succ _) vb.size⟩; have vb := V.b; clear g3 x2 y2 x1)
    | fail)
  refine wp_region_selT [0, 1, 2, 3] 1 rfl (by kernel_rfl) (by kernel_rfl) (by kernel_rfl) (by kernel_rfl) (fun _ d _ _ _ h => by cases d <;> exact h) ?_
  intro W hW
  simp only [pickOps, List.filterMap_cons, List.filterMap_nil, List.getElem?_cons_zero, List.getElem?_cons_succ, Option.map_some, List.map_cons, List.map_nil]
  obtain ⟨pf, ps⟩ := pv_is (hs.below vb) 8 18 (by decide) h18
  repeat (first
    | (go_big_quiet_want; refine q_slice 23 (by rw [elem_bytes]; exact Try.underlying23) (.tmp 20) (.const (.int .i64 8)) (.const (.int .i64 18)) rfl _ _ _ (pv (.slice pa xs.length pc) 8 18) rfl rfl rfl (fun W _ => pf W) ?_; go_simp; go_big_quiet_on)
    | go_big_quiet_step (fail))
  refine wpQuiet_nil ?_
  have dr : Below w3.heap.size w3 W := by subst hW; exact (Below.refl _ _).drew
  have V4 : Va w W ⟨5, z1, fun _ => 0, 0, 0, 0, false, 0, 0, 0, 0, 0⟩ := ⟨V.x.below dr V.x.lt, V.z.below dr V.z.lt, V.b.trans (dr.mono V.b.size)⟩
  obtain ⟨rv, w5, hr, g5⟩ := copy_id W 3 (w.heap.size + 1) ⟨5, z1, fun _ => 0, 0, 0, 0, false, 0, 0, 0, 0, 0⟩ (pv (.slice pa xs.length pc) 8 18) _ V4.x (ps.below dr) (by rw [List.length_take, List.length_drop]; omega)
  replace V := V4.set g5
  have vb := V.b
  have HR := Lib.hid hr
  clear hr V4 g5 dr hW ps
  refine wpAnyH_one (k := 4) (by kernel_rfl) rfl (fun K hQ => ?_)
  refine if_true_prop (by kernel_rfl) ?_
  refine step_copy _ _ 23 23 rfl _ _ _ rfl rfl HR.out ?_
  refine hQ _ _ ⟨_, rfl⟩ ?_
  clear hQ K
  refine wpAnyH_done (by kernel_rfl) ?_ 0
  clear HR pf
  generalize hE : (fun j => ((xs.drop 8).take 10).getD j 0) = E at V
  go_wp2_with fail
  go_at_call 75
  refine (take_z xs ho hl _ _ (hs.below vb) 18 4 4294967296 (by decide) (by decide) (by decide) (by decide) (by decide)).mono ?_
  rintro r wx ⟨z2, rfl, Hz2, z2a, z2b, hw⟩
  obtain rfl := hw.symm
  clear hw
  go_wp2_with (first
    | (refine at_set rfl 29 _ _ rfl rfl (w.heap.size + 1) 12 rfl ⟨5, z1, E, 0, 0, 0, false, 0, 0, 0, 0, 0⟩ ⟨5, z1, E, z2, 0, 0, false, 0, 0, 0, 0, 0⟩ (.int .u32 z2) rfl V.x rfl rfl rfl u32_one (by decide) ?_; rintro wy gy; replace V := V.set gy; have vb := V.b; clear gy)
    | fail)
  go_at_call 75
  refine (take_z xs ho hl _ _ (hs.below vb) 23 4 4294967296 (by decide) (by decide) (by decide) (by decide) (by decide)).mono ?_
  rintro r wx ⟨z3, rfl, Hz3, z3a, z3b, hw⟩
  obtain rfl := hw.symm
  clear hw
  go_wp2_with fail
  go_at_call 75
  refine (take_z xs ho hl _ _ (hs.below vb) 22 1 256 (by decide) (by decide) (by decide) (by decide) (by decide)).mono ?_
  rintro r wx ⟨z4, rfl, Hz4, z4a, z4b, hw⟩
  obtain rfl := hw.symm
  clear hw
  go_wp2_with (first
    | (refine at_setPrefix rfl _ _ rfl rfl (w.heap.size + 1) rfl ⟨5, z1, E, z2, 0, 0, false, 0, 0, 0, 0, 0⟩ z3 z4 rfl V.x ?_; rintro wy gy; replace V := V.set gy; have vb := V.b; clear gy)
    | fail)
  go_at_call 75
  refine (take_z xs ho hl _ _ (hs.below vb) 27 4 4294967296 (by decide) (by decide) (by decide) (by decide) (by decide)).mono ?_
  rintro r wx ⟨z5, rfl, Hz5, z5a, z5b, hw⟩
  obtain rfl := hw.symm
  clear hw
  go_wp2_with fail
  go_at_call 75
  refine (take_z xs ho hl _ _ (hs.below vb) 31 3 16777216 (by decide) (by decide) (by decide) (by decide) (by decide)).mono ?_
  rintro r wx ⟨z6, rfl, Hz6, z6a, z6b, hw⟩
  obtain rfl := hw.symm
  clear hw
  go_wp2_with (first
    | (refine at_set rfl 32 _ _ rfl rfl (w.heap.size + 1) 18 rfl ⟨5, z1, E, z2, 0, 0, false, z3, z4, 0, 0, 0⟩ ⟨5, z1, E, z2, 0, 0, false, z3, z4, z5, 0, 0⟩ (.int .u32 z5) rfl V.x rfl rfl rfl ip_one (by decide) ?_; rintro wy gy; replace V := V.set gy; have vb := V.b; clear gy)
    | (refine at_set rfl 29 _ _ rfl rfl (w.heap.size + 1) 19 rfl ⟨5, z1, E, z2, 0, 0, false, z3, z4, z5, 0, 0⟩ ⟨5, z1, E, z2, 0, 0, false, z3, z4, z5, z6, 0⟩ (.int .u32 z6) rfl V.x rfl rfl rfl u32_one (by decide) ?_; rintro wy gy; replace V := V.set gy; have vb := V.b; clear gy)
    | (refine at_load rfl _ rfl (w.heap.size + 1) rfl ⟨5, z1, E, z2, 0, 0, false, z3, z4, z5, z6, 0⟩ V.x ?_)
    | (refine at_store rfl _ _ rfl rfl w.heap.size rfl NL.zero ⟨5, z1, E, z2, 0, 0, false, z3, z4, z5, z6, 0⟩ rfl V.z ?_; rintro wy gy; have Y := gy.bx; have vb := But.below V.b gy.but (Nat.le_refl _) V.b.size; clear gy)
    | fail)
  exact bodyPost_ret (results_cell_row (by rfl) _ _ w.heap.size _ _ _ _ rfl Y Try.underlying36 rfl (NL.size _)) rfl ⟨⟨5, z1, E, z2, 0, 0, false, z3, z4, z5, z6, 0⟩, rfl, vals_5 rfl Hz1.out (fun j => by rw [← hE]) Hz2.out rfl rfl rfl Hz3.out Hz4.out Hz5.out Hz6.out rfl ⟨⟨z1a, Int.lt_of_lt_of_le z1b (by decide)⟩, fun j => by rw [← hE]; exact ((ho.drop 8).take 10).getD j, ⟨z2a, Int.lt_of_lt_of_le z2b (by decide)⟩, zro (by decide), zro (by decide), ⟨z3a, Int.lt_of_lt_of_le z3b (by decide)⟩, ⟨z5a, Int.lt_of_lt_of_le z5b (by decide)⟩, ⟨z6a, Int.lt_of_lt_of_le z6b (by decide)⟩, zro (by decide)⟩, vb⟩
set_option maxHeartbeats 1000000 in
theorem val_5S (xs : List Int) (ho : Oct xs) (hl : xs.length ≤ 1000) (h18 : ¬ 18 ≤ xs.length) (v : Value) (w : World) (hs : Seg w v xs) : Calls Try.prog 53 #[.int .i64 5, v] w fun r w' => ∃ n : NL, r = .returned n.v ∧ Vals 5 xs n ∧ Below w.heap.size w w' := by
  have h18' : ¬ (18 : Int) ≤ xs.length := by omega
  obtain ⟨pa, pc, hpv⟩ : ∃ a c, v = .slice a xs.length c := by obtain ⟨a, c, e, -⟩ := id hs; exact ⟨a, c, e⟩
  subst hpv
  go_enter Try.func53, Try.ntmps53
  go_wp2_with (first
    | (refine at_new rfl rfl ?_; rintro w1 ⟨x1, k1, s1⟩; have vb := k1; clear k1)
    | fail)
  go_at_call 75
  refine (take_z xs ho hl _ _ (hs.below vb) 0 8 18446744073709551616 (by decide) (by decide) (by decide) (by decide) (by decide)).mono ?_
  rintro r wx ⟨z1, rfl, Hz1, z1a, z1b, hw⟩
  obtain rfl := hw.symm
  clear hw
  go_wp2_with (first
    | (refine at_build rfl _ rfl ⟨5, z1, fun _ => 0, 0, 0, 0, false, 0, 0, 0, 0, 0⟩ (by kernel_rfl) ?_)
    | (refine at_new rfl rfl ?_; rintro w2 ⟨x2, k2, s2⟩; rw [s1] at x2; have y2 := x1.below k2 x1.lt; have vb := vb.trans (k2.mono vb.size); clear k2; go_simp)
    | (refine at_store rfl _ _ rfl rfl (w.heap.size + 1) rfl NL.zero ⟨5, z1, fun _ => 0, 0, 0, 0, false, 0, 0, 0, 0, 0⟩ rfl x2 ?_; rintro w3 g3; have V : Va w w3 ⟨5, z1, fun _ => 0, 0, 0, 0, false, 0, 0, 0, 0, 0⟩ := ⟨g3.bx, g3.other y2 (by omega), But.below vb g3.but (Nat.le_succ _) vb.size⟩; have vb := V.b; clear g3 x2 y2 x1)
    | fail)
  go_at_call 75
  refine (take_z xs ho hl _ _ (hs.below vb) 8 4 4294967296 (by decide) (by decide) (by decide) (by decide) (by decide)).mono ?_
  rintro r wx ⟨z2, rfl, Hz2, z2a, z2b, hw⟩
  obtain rfl := hw.symm
  clear hw
  go_wp2_with (first
    | (refine at_set rfl 29 _ _ rfl rfl (w.heap.size + 1) 12 rfl ⟨5, z1, fun _ => 0, 0, 0, 0, false, 0, 0, 0, 0, 0⟩ ⟨5, z1, fun _ => 0, z2, 0, 0, false, 0, 0, 0, 0, 0⟩ (.int .u32 z2) rfl V.x rfl rfl rfl u32_one (by decide) ?_; rintro wy gy; replace V := V.set gy; have vb := V.b; clear gy)
    | fail)
  go_at_call 75
  refine (take_z xs ho hl _ _ (hs.below vb) 13 4 4294967296 (by decide) (by decide) (by decide) (by decide) (by decide)).mono ?_
  rintro r wx ⟨z3, rfl, Hz3, z3a, z3b, hw⟩
  obtain rfl := hw.symm
  clear hw
  go_wp2_with fail
  go_at_call 75
  refine (take_z xs ho hl _ _ (hs.below vb) 12 1 256 (by decide) (by decide) (by decide) (by decide) (by decide)).mono ?_
  rintro r wx ⟨z4, rfl, Hz4, z4a, z4b, hw⟩
  obtain rfl := hw.symm
  clear hw
  go_wp2_with (first
    | (refine at_setPrefix rfl _ _ rfl rfl (w.heap.size + 1) rfl ⟨5, z1, fun _ => 0, z2, 0, 0, false, 0, 0, 0, 0, 0⟩ z3 z4 rfl V.x ?_; rintro wy gy; replace V := V.set gy; have vb := V.b; clear gy)
    | fail)
  go_at_call 75
  refine (take_z xs ho hl _ _ (hs.below vb) 17 4 4294967296 (by decide) (by decide) (by decide) (by decide) (by decide)).mono ?_
  rintro r wx ⟨z5, rfl, Hz5, z5a, z5b, hw⟩
  obtain rfl := hw.symm
  clear hw
  go_wp2_with fail
  go_at_call 75
  refine (take_z xs ho hl _ _ (hs.below vb) 21 3 16777216 (by decide) (by decide) (by decide) (by decide) (by decide)).mono ?_
  rintro r wx ⟨z6, rfl, Hz6, z6a, z6b, hw⟩
  obtain rfl := hw.symm
  clear hw
  go_wp2_with (first
    | (refine at_set rfl 32 _ _ rfl rfl (w.heap.size + 1) 18 rfl ⟨5, z1, fun _ => 0, z2, 0, 0, false, z3, z4, 0, 0, 0⟩ ⟨5, z1, fun _ => 0, z2, 0, 0, false, z3, z4, z5, 0, 0⟩ (.int .u32 z5) rfl V.x rfl rfl rfl ip_one (by decide) ?_; rintro wy gy; replace V := V.set gy; have vb := V.b; clear gy)
    | (refine at_set rfl 29 _ _ rfl rfl (w.heap.size + 1) 19 rfl ⟨5, z1, fun _ => 0, z2, 0, 0, false, z3, z4, z5, 0, 0⟩ ⟨5, z1, fun _ => 0, z2, 0, 0, false, z3, z4, z5, z6, 0⟩ (.int .u32 z6) rfl V.x rfl rfl rfl u32_one (by decide) ?_; rintro wy gy; replace V := V.set gy; have vb := V.b; clear gy)
    | (refine at_load rfl _ rfl (w.heap.size + 1) rfl ⟨5, z1, fun _ => 0, z2, 0, 0, false, z3, z4, z5, z6, 0⟩ V.x ?_)
    | (refine at_store rfl _ _ rfl rfl w.heap.size rfl NL.zero ⟨5, z1, fun _ => 0, z2, 0, 0, false, z3, z4, z5, z6, 0⟩ rfl V.z ?_; rintro wy gy; have Y := gy.bx; have vb := But.below V.b gy.but (Nat.le_refl _) V.b.size; clear gy)
    | fail)
  exact bodyPost_ret (results_cell_row (by rfl) _ _ w.heap.size _ _ _ _ rfl Y Try.underlying36 rfl (NL.size _)) rfl ⟨⟨5, z1, fun _ => 0, z2, 0, 0, false, z3, z4, z5, z6, 0⟩, rfl, Vals.short rfl ⟨⟨z1a, Int.lt_of_lt_of_le z1b (by decide)⟩, fun _ => zro (by decide), ⟨z2a, Int.lt_of_lt_of_le z2b (by decide)⟩, zro (by decide), zro (by decide), ⟨z3a, Int.lt_of_lt_of_le z3b (by decide)⟩, ⟨z5a, Int.lt_of_lt_of_le z5b (by decide)⟩, ⟨z6a, Int.lt_of_lt_of_le z6b (by decide)⟩, zro (by decide)⟩ (by decide) h18, vb⟩
end Go.Proofs.Ytejcclcckgdbgaa
