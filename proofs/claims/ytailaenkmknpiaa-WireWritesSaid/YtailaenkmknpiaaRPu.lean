/- The reference's writer: numbers. No condition. -/
import Derived.Test.YtailaenkmknpiaaRWr
import Derived.Test.YtailaenkmknpiaaWNb
namespace Go.Proofs.Ytailaenkmknpiaa
open Go.RowKit Go.Sort
set_option linter.unusedVariables false
set_option linter.unusedSimpArgs false
set_option maxRecDepth 100000

theorem enc_get (n : Nat) : ∀ k j, j < k → (enc k n).getD j 0 = ((n / 256 ^ (k - 1 - j) % 256 : Nat) : Int)
  | 0, _, h => absurd h (Nat.not_lt_zero _)
  | k + 1, 0, _ => by simp [enc]
  | k + 1, j + 1, h => by
    show (enc k n).getD j 0 = _
    rw [enc_get n k j (by omega), show k + 1 - 1 - (j + 1) = k - 1 - j by omega]
theorem shr_at (n i : Nat) (hi : i ≤ 8) : Op.shift .shr .u64 n .i64 (IntKind.i64.wrap (8 * (i : Int))) = pure (.int .u64 ((n : Int) / 2 ^ (8 * i))) := by
  rw [show IntKind.i64.wrap (8 * (i : Int)) = 8 * (i : Int) from IntWalk.i64_in _ (by omega), shift_shr_any _ _ _ _ (by omega)]
  congr 3
  rw [show (8 * (i : Int)).toNat = 8 * i by omega, show min (8 * i) IntKind.u64.bits = 8 * i from Nat.min_eq_left (by show 8 * i ≤ 64; omega)]

set_option maxHeartbeats 2000000 in
theorem rw_Put_range (w : World) (b : Nat) (W : WR) (k n : Nat) (hk8 : k ≤ 8) (hn : n < 18446744073709551616) (hr : 256 ^ k ≤ n) :
    Calls Try.prog 11 #[.pointer (some ⟨b, 0, none⟩), .int .u64 n, .int .i64 k] w fun e w' => PutR b W 2 (enc k n) w e w' := by
  have hz := shr_not n k hr
  have hk : k < 8 := by
    rcases Nat.lt_or_ge k 8 with q | q
    · exact q
    · obtain rfl : k = 8 := by omega
      have : (256 : Nat) ^ 8 = 18446744073709551616 := by decide
      omega
  have hk' : (k : Int) < 8 := by omega
  go_enter Try.func11, Try.ntmps11
  go_wp2
  go_ret
  exact ⟨rfl, .inl ⟨by decide, Below.refl _ _⟩⟩
set_option maxHeartbeats 2000000 in
theorem rw_Put_full (w : World) (b : Nat) (W : WR) (k n : Nat) (h : Rwt w b W) (hk8 : k ≤ 8) (hn : n < 18446744073709551616) (hr : n < 256 ^ k) (hf : W.lim < W.xs.length + k) :
    Calls Try.prog 11 #[.pointer (some ⟨b, 0, none⟩), .int .u64 n, .int .i64 k] w fun e w' => PutR b W 7 (enc k n) w e w' := by
  have hz := shr_zero n k hr
  obtain ⟨⟨hb, hv, hvm⟩, o1, l1, l2⟩ := h
  obtain ⟨av, cv, hve⟩ := hv.dat.shape
  have c0 := hb.cell 0 (v := W.v) rfl
  have c1 := hb.cell 1 (v := .int .i64 W.lim) rfl
  rw [hve] at c0
  have b1 : decide ((W.lim : Int) - W.xs.length < k) = true := by simp; omega
  clear hb hv hvm hve
  by_cases hk : k < 8
  · have hk' : (k : Int) < 8 := by omega
    go_enter Try.func11, Try.ntmps11
    go_wp2
    go_quiet (fail)
    go_wp2
    go_ret
    exact ⟨rfl, .inl ⟨by decide, below_drewN _ _ _⟩⟩
  · have hk' : ¬ (k : Int) < 8 := by omega
    go_enter Try.func11, Try.ntmps11
    go_wp2
    go_quiet (fail)
    go_wp2
    go_ret
    exact ⟨rfl, .inl ⟨by decide, below_drewN _ _ _⟩⟩
set_option maxHeartbeats 2000000 in
theorem rw_Put_ok (w : World) (b : Nat) (W : WR) (k n : Nat) (h : Rwt w b W) (hk8 : k ≤ 8) (hn : n < 18446744073709551616) (hr : n < 256 ^ k) (hf : W.xs.length + k ≤ W.lim) :
    Calls Try.prog 11 #[.pointer (some ⟨b, 0, none⟩), .int .u64 n, .int .i64 k] w fun e w' => PutR b W 0 (enc k n) w e w' := by
  have hz := shr_zero n k hr
  have h0 := h
  obtain ⟨⟨hb, hv, hvm⟩, o1, l1, l2⟩ := h
  obtain ⟨av, cv, hve⟩ := hv.dat.shape
  have c0 := hb.cell 0 (v := W.v) rfl
  have c1 := hb.cell 1 (v := .int .i64 W.lim) rfl
  rw [hve] at c0
  have b1 : decide ((W.lim : Int) - W.xs.length < k) = false := by simp; omega
  clear hb hv hvm
  obtain ⟨lim, xs, v, ms, vm⟩ := W
  dsimp only at *
  subst hve
  by_cases hk : k < 8
  · have hk' : (k : Int) < 8 := by omega
    go_enter Try.func11, Try.ntmps11
    go_wp2
    go_quiet (fail)
    go_wp2_with fail
    clear hz
    go_loopw [7] (fun vi wr => ∃ (j : Nat) (vj : Value), j ≤ k ∧ vi = .int .i64 ((k : Int) - 1 - j) ∧ Rwt wr b ⟨lim, xs ++ (enc k n).take j, vj, ms, vm⟩ ∧ ButR b (.slice av xs.length cv) vm w wr ∧ Moved w (.slice av xs.length cv) vj)
      (fun vi _ => (intOf vi + 1).toNat)
    case atStart => exact ⟨0, _, Nat.zero_le _, by simp, by simpa using h0.below (below_drewN w.heap.size w nq), ButR.of_below (below_drewN w.heap.size w nq), Moved.refl _ _⟩
    case round =>
      obtain ⟨j, vj, hj, rfl, hR, hB, hM⟩ := hrel
      clear c0 c1
      obtain ⟨ja, jn, jc, rfl⟩ : ∃ a n c, vj = .slice a n c := by obtain ⟨a, c, e⟩ := hR.1.2.1.dat.shape; exact ⟨a, _, c, e⟩
      by_cases hlt : j < k
      · obtain ⟨i, hi⟩ : ∃ i : Nat, (k : Int) - 1 - j = i := ⟨k - 1 - j, by omega⟩
        have hik : i = k - 1 - j := by omega
        have hi8 : (i : Int) ≤ 8 := by omega
        have b3 : decide (0 ≤ (i : Int)) = true := by simp
        have hsh := shr_at n i (by omega)
        have hby := byte_is n i
        obtain ⟨y, hy⟩ : ∃ y : Int, y = IntKind.u8.wrap ((n : Int) / 2 ^ (8 * i)) := ⟨_, rfl⟩
        have hwr : IntKind.u8.wrap ((n : Int) / 2 ^ (8 * i)) = (n : Int) / 2 ^ (8 * i) % 256 := by simp [IntKind.wrap, IntKind.bits, IntKind.signed]
        rw [← hwr] at hby
        have hyo : 0 ≤ y ∧ y < 256 := by rw [hy, hby]; omega
        have hst := take_step (enc k n) j (by rw [enc_length]; exact hlt)
        rw [enc_get n k j hlt, ← hik, ← hby, ← hy] at hst
        have W1 := hR.below ((Below.refl wr.heap.size wr).drew)
        have al : Below wr.drew.heap.size wr.drew (wr.drew.alloc (.cells #[.int .u8 y] 5)) := (Below.refl _ _).alloc (Nat.le_refl _) _
        have R1 := W1.below al
        have hlit : Seg (wr.drew.alloc (.cells #[.int .u8 y] 5)) (.slice (some ⟨wr.drew.heap.size, 0, none⟩) 1 1) [y] := seg_lit wr.drew [y]
        obtain ⟨v2, w2, hr, hd2, hg2, hm2⟩ := append_anyM _ 33 (b + 1) _ _ _ [y] R1.1.2.1 hlit R1.1.1.lt (by show (xs ++ (enc k n).take j).length + 1 ≤ _; rw [List.length_append, List.length_take, enc_length]; omega)
        obtain ⟨a2, n2, c2', rfl⟩ : ∃ a n c, v2 = .slice a n c := by obtain ⟨a, c, e⟩ := hd2.dat.shape; exact ⟨a, _, c, e⟩
        obtain ⟨g1, g2, g3⟩ := R1.grow hg2 hd2 hm2 (fun x hx => by obtain rfl : x = y := by simpa using hx
                                                                   exact hyo) (by show (xs ++ (enc k n).take j).length + 1 ≤ lim; rw [List.length_append, List.length_take, enc_length]; omega)
        have q0 : wr.drew.cell? ⟨b, 0, none⟩ = some (.slice ja jn jc) := W1.1.1.cell 0 rfl
        have q1 : (wr.drew.alloc (.cells #[.int .u8 y] 5)).cell? ⟨b, 0, none⟩ = some (.slice ja jn jc) := R1.1.1.cell 0 rfl
        have q2 : w2.cell? ⟨b, 0, none⟩ = some (.slice ja jn jc) := g1.cell 0 rfl
        have f2 := g1.frozen 0
        have hnx : Rwt (w2.setCell ⟨b, 0, none⟩ (.slice a2 n2 c2')) b ⟨lim, xs ++ (enc k n).take (j + 1), .slice a2 n2 c2', ms, vm⟩ := by
          rw [hst, ← List.append_assoc]
          exact g2
        have k01 : Below wr.heap.size wr (wr.drew.alloc (.cells #[.int .u8 y] 5)) := ((Below.refl wr.heap.size wr).drew).trans al
        have hMx : Moved wr (.slice ja jn jc) (.slice a2 n2 c2') := hm2.imp id fun q g hg => Nat.le_trans k01.size (q g hg)
        have hBx : ButR b (.slice av xs.length cv) vm w (w2.setCell ⟨b, 0, none⟩ (.slice a2 n2 c2')) :=
          hB.trans ((ButR.of_below (b := b) (v := .slice ja jn jc) (vm := vm) k01).trans ⟨g3.os, g3.tape, g3.output, g3.size, g3.block⟩ (Moved.refl _ _) (Moved.refl _ _)) hM (Moved.refl _ _)
        have hMn := hM.trans hMx hB.size
        rw [hi]
        have HY := Lib.hid hy
        have HS := Lib.hid hst
        have HI := Lib.hid hi
        have HI2 := Lib.hid hik
        clear hwr hby hst hi hik hR W1 R1 g1 g2 g3 hd2 hg2 hm2 hMx k01 al hlit hB hM hy
        go_wp2_with fail
        refine wp_region_stage 14 (w2.setCell ⟨b, 0, none⟩ (.slice a2 n2 c2')) [(11, w2), (10, (wr.drew).alloc (.cells #[.int .u8 y] 5))] (by decide) (by kernel_rfl) (by kernel_rfl) (by kernel_rfl) ?_
        refine stage_pure (by simp) (fun K hK => ?_)
        go_simp
        refine hK _ ?_
        clear hK K
        refine stage_pure (by simp) (fun K hK => ?_)
        go_simp
        refine hK _ ?_
        clear hK K
        refine stage_pure (by simp) (fun K hK => ?_)
        go_simp
        refine hK _ ?_
        clear hK K
        refine stage_pure (by simp) (fun K hK => ?_)
        go_simp
        refine hK _ ?_
        clear hK K
        refine stage_load ⟨b, 0, none⟩ (.slice ja jn jc) (by first | rfl | go_simp) (by simp) (fun L h1 h2 => ?_) (fun W hW => by go_simp) ?_
        · refine stg_in (F := fun W => W.cell? ⟨b, 0, none⟩ = some (.slice ja jn jc)) _ q0 (fun p hp hL => ?_)
          simp only [List.mem_cons, List.not_mem_nil, or_false] at hp
          rcases hp with rfl | rfl | rfl
          · have e := h2.dep (h2.dep hL rfl (e := ⟨11, .data⟩) (by simp) rfl) rfl (e := ⟨4, .data⟩) (by simp) rfl
            rw [(ready_not h1).1] at e
            cases e
          · exact q2
          · exact q1
        refine stage_pure (by simp) (fun K hK => ?_)
        go_simp
        refine hK _ ?_
        clear hK K
        refine stage_pure (by simp) (fun K hK => ?_)
        go_simp
        refine hK _ ?_
        clear hK K
        refine stage_pure (by simp) (fun K hK => ?_)
        go_simp
        refine hK _ ?_
        clear hK K
        refine stage_pure (by simp) (fun K hK => ?_)
        go_simp
        refine hK _ ?_
        clear hK K
        refine stage_pure (by simp) (fun K hK => ?_)
        go_simp
        refine hK _ ?_
        clear hK K
        refine stage_to (pre := [(14, w2.setCell ⟨b, 0, none⟩ (.slice a2 n2 c2')), (11, w2)]) (post := []) (W := wr.drew) (.slice (some ⟨wr.drew.heap.size, 0, none⟩) 1 1) (by first | rfl | go_simp) (fun L h1 h2 p hp => ?_) (by simp) (fun L h1 h2 => stg_first _ fun p hp => ?_) (by go_simp; first | done | (rw [HY.out]; done) | (rw [HY.out]; rfl) | rfl) ?_
        · simp only [List.mem_cons, List.not_mem_nil, or_false] at hp
          rcases hp with rfl | rfl
          · exact not_yet h1 fun hL => h2.dep (h2.dep hL rfl (e := ⟨11, .data⟩) (by simp) rfl) rfl (e := ⟨10, .data⟩) (by simp) rfl
          · exact not_yet h1 fun hL => h2.dep hL rfl (e := ⟨10, .data⟩) (by simp) rfl
        · simp only [List.mem_append, List.mem_cons, List.not_mem_nil, or_false] at hp
          rcases hp with (rfl | rfl) | rfl
          · exact not_yet h1 fun hL => h2.dep (h2.dep hL rfl (e := ⟨11, .data⟩) (by simp) rfl) rfl (e := ⟨10, .data⟩) (by simp) rfl
          · exact not_yet h1 fun hL => h2.dep hL rfl (e := ⟨10, .data⟩) (by simp) rfl
          · exact (ready_not h1).1
        refine stage_to (pre := [(14, w2.setCell ⟨b, 0, none⟩ (.slice a2 n2 c2'))]) (post := [(10, (wr.drew).alloc (.cells #[.int .u8 y] 5))]) (W := (wr.drew).alloc (.cells #[.int .u8 y] 5)) (.slice a2 n2 c2') (by first | rfl | go_simp) (fun L h1 h2 p hp => ?_) (by simp) (fun L h1 h2 => ?_) (append_op _ (.tmp 39) (.tmp 45) 33 33 rfl rfl _ _ rfl rfl _ _ hr) ?_
        · simp only [List.mem_cons, List.not_mem_nil, or_false] at hp
          subst hp
          exact not_yet h1 fun hL => h2.dep hL rfl (e := ⟨11, .data⟩) (by simp) rfl
        · refine stg_here (post := []) [(14, w2.setCell ⟨b, 0, none⟩ (.slice a2 n2 c2')), (11, w2)] (fun p hp => ?_) (ready_dep h1 rfl (e := ⟨10, .data⟩) (by simp) rfl)
          simp only [List.mem_cons, List.not_mem_nil, or_false] at hp
          rcases hp with rfl | rfl
          · exact not_yet h1 fun hL => h2.dep hL rfl (e := ⟨11, .data⟩) (by simp) rfl
          · exact (ready_not h1).1
        refine stage_pure (by simp) (fun K hK => ?_)
        go_simp
        refine hK _ ?_
        clear hK K
        refine stage_pure (by simp) (fun K hK => ?_)
        go_simp
        refine hK _ ?_
        clear hK K
        refine stage_toS (pre := []) (post := [(11, w2), (10, (wr.drew).alloc (.cells #[.int .u8 y] 5))]) (W := w2) (by first | rfl | go_simp) (fun L h1 h2 p hp => by cases hp) (by simp) (fun L h1 h2 => ?_) (by go_simp) ?_
        · refine stg_here (post := [(10, (wr.drew).alloc (.cells #[.int .u8 y] 5))]) [(14, w2.setCell ⟨b, 0, none⟩ (.slice a2 n2 c2'))] (fun p hp => ?_) (ready_dep h1 rfl (e := ⟨11, .data⟩) (by simp) rfl)
          simp only [List.mem_cons, List.not_mem_nil, or_false] at hp
          subst hp
          exact (ready_not h1).1
        refine stage_nil ?_
        go_wp2_with fail
        go_roundw
        case rel => first
          | exact ⟨j + 1, _, hlt, by have := HI.out; congr 1; omega, hnx, hBx, hMn⟩
          | (refine ⟨_, _, _, _, _, _, _, _, _, _, _, _, _, _, _, _, _, _, _, ⟨j + 1, _, hlt, ?_, hnx, hBx, hMn⟩, rfl⟩
             have := HI.out
             congr 1
             omega)
        case measure => simp [intOf] <;> omega
      · obtain rfl : j = k := by omega
        rw [List.take_of_length_le (by rw [enc_length]; exact Nat.le_refl _)] at hR
        have e1 : (j : Int) - 1 - j = -1 := by omega
        rw [e1]
        clear e1
        go_wp2
        go_ret
        exact ⟨rfl, .inr ⟨rfl, _, hR, hB, hM⟩⟩
  · have hk' : ¬ (k : Int) < 8 := by omega
    go_enter Try.func11, Try.ntmps11
    go_wp2
    go_quiet (fail)
    go_wp2_with fail
    clear hz
    go_loopw [7] (fun vi wr => ∃ (j : Nat) (vj : Value), j ≤ k ∧ vi = .int .i64 ((k : Int) - 1 - j) ∧ Rwt wr b ⟨lim, xs ++ (enc k n).take j, vj, ms, vm⟩ ∧ ButR b (.slice av xs.length cv) vm w wr ∧ Moved w (.slice av xs.length cv) vj)
      (fun vi _ => (intOf vi + 1).toNat)
    case atStart => exact ⟨0, _, Nat.zero_le _, by simp, by simpa using h0.below (below_drewN w.heap.size w nq), ButR.of_below (below_drewN w.heap.size w nq), Moved.refl _ _⟩
    case round =>
      obtain ⟨j, vj, hj, rfl, hR, hB, hM⟩ := hrel
      clear c0 c1
      obtain ⟨ja, jn, jc, rfl⟩ : ∃ a n c, vj = .slice a n c := by obtain ⟨a, c, e⟩ := hR.1.2.1.dat.shape; exact ⟨a, _, c, e⟩
      by_cases hlt : j < k
      · obtain ⟨i, hi⟩ : ∃ i : Nat, (k : Int) - 1 - j = i := ⟨k - 1 - j, by omega⟩
        have hik : i = k - 1 - j := by omega
        have hi8 : (i : Int) ≤ 8 := by omega
        have b3 : decide (0 ≤ (i : Int)) = true := by simp
        have hsh := shr_at n i (by omega)
        have hby := byte_is n i
        obtain ⟨y, hy⟩ : ∃ y : Int, y = IntKind.u8.wrap ((n : Int) / 2 ^ (8 * i)) := ⟨_, rfl⟩
        have hwr : IntKind.u8.wrap ((n : Int) / 2 ^ (8 * i)) = (n : Int) / 2 ^ (8 * i) % 256 := by simp [IntKind.wrap, IntKind.bits, IntKind.signed]
        rw [← hwr] at hby
        have hyo : 0 ≤ y ∧ y < 256 := by rw [hy, hby]; omega
        have hst := take_step (enc k n) j (by rw [enc_length]; exact hlt)
        rw [enc_get n k j hlt, ← hik, ← hby, ← hy] at hst
        have W1 := hR.below ((Below.refl wr.heap.size wr).drew)
        have al : Below wr.drew.heap.size wr.drew (wr.drew.alloc (.cells #[.int .u8 y] 5)) := (Below.refl _ _).alloc (Nat.le_refl _) _
        have R1 := W1.below al
        have hlit : Seg (wr.drew.alloc (.cells #[.int .u8 y] 5)) (.slice (some ⟨wr.drew.heap.size, 0, none⟩) 1 1) [y] := seg_lit wr.drew [y]
        obtain ⟨v2, w2, hr, hd2, hg2, hm2⟩ := append_anyM _ 33 (b + 1) _ _ _ [y] R1.1.2.1 hlit R1.1.1.lt (by show (xs ++ (enc k n).take j).length + 1 ≤ _; rw [List.length_append, List.length_take, enc_length]; omega)
        obtain ⟨a2, n2, c2', rfl⟩ : ∃ a n c, v2 = .slice a n c := by obtain ⟨a, c, e⟩ := hd2.dat.shape; exact ⟨a, _, c, e⟩
        obtain ⟨g1, g2, g3⟩ := R1.grow hg2 hd2 hm2 (fun x hx => by obtain rfl : x = y := by simpa using hx
                                                                   exact hyo) (by show (xs ++ (enc k n).take j).length + 1 ≤ lim; rw [List.length_append, List.length_take, enc_length]; omega)
        have q0 : wr.drew.cell? ⟨b, 0, none⟩ = some (.slice ja jn jc) := W1.1.1.cell 0 rfl
        have q1 : (wr.drew.alloc (.cells #[.int .u8 y] 5)).cell? ⟨b, 0, none⟩ = some (.slice ja jn jc) := R1.1.1.cell 0 rfl
        have q2 : w2.cell? ⟨b, 0, none⟩ = some (.slice ja jn jc) := g1.cell 0 rfl
        have f2 := g1.frozen 0
        have hnx : Rwt (w2.setCell ⟨b, 0, none⟩ (.slice a2 n2 c2')) b ⟨lim, xs ++ (enc k n).take (j + 1), .slice a2 n2 c2', ms, vm⟩ := by
          rw [hst, ← List.append_assoc]
          exact g2
        have k01 : Below wr.heap.size wr (wr.drew.alloc (.cells #[.int .u8 y] 5)) := ((Below.refl wr.heap.size wr).drew).trans al
        have hMx : Moved wr (.slice ja jn jc) (.slice a2 n2 c2') := hm2.imp id fun q g hg => Nat.le_trans k01.size (q g hg)
        have hBx : ButR b (.slice av xs.length cv) vm w (w2.setCell ⟨b, 0, none⟩ (.slice a2 n2 c2')) :=
          hB.trans ((ButR.of_below (b := b) (v := .slice ja jn jc) (vm := vm) k01).trans ⟨g3.os, g3.tape, g3.output, g3.size, g3.block⟩ (Moved.refl _ _) (Moved.refl _ _)) hM (Moved.refl _ _)
        have hMn := hM.trans hMx hB.size
        rw [hi]
        have HY := Lib.hid hy
        have HS := Lib.hid hst
        have HI := Lib.hid hi
        have HI2 := Lib.hid hik
        clear hwr hby hst hi hik hR W1 R1 g1 g2 g3 hd2 hg2 hm2 hMx k01 al hlit hB hM hy
        go_wp2_with fail
        refine wp_region_stage 14 (w2.setCell ⟨b, 0, none⟩ (.slice a2 n2 c2')) [(11, w2), (10, (wr.drew).alloc (.cells #[.int .u8 y] 5))] (by decide) (by kernel_rfl) (by kernel_rfl) (by kernel_rfl) ?_
        refine stage_pure (by simp) (fun K hK => ?_)
        go_simp
        refine hK _ ?_
        clear hK K
        refine stage_pure (by simp) (fun K hK => ?_)
        go_simp
        refine hK _ ?_
        clear hK K
        refine stage_pure (by simp) (fun K hK => ?_)
        go_simp
        refine hK _ ?_
        clear hK K
        refine stage_pure (by simp) (fun K hK => ?_)
        go_simp
        refine hK _ ?_
        clear hK K
        refine stage_load ⟨b, 0, none⟩ (.slice ja jn jc) (by first | rfl | go_simp) (by simp) (fun L h1 h2 => ?_) (fun W hW => by go_simp) ?_
        · refine stg_in (F := fun W => W.cell? ⟨b, 0, none⟩ = some (.slice ja jn jc)) _ q0 (fun p hp hL => ?_)
          simp only [List.mem_cons, List.not_mem_nil, or_false] at hp
          rcases hp with rfl | rfl | rfl
          · have e := h2.dep (h2.dep hL rfl (e := ⟨11, .data⟩) (by simp) rfl) rfl (e := ⟨4, .data⟩) (by simp) rfl
            rw [(ready_not h1).1] at e
            cases e
          · exact q2
          · exact q1
        refine stage_pure (by simp) (fun K hK => ?_)
        go_simp
        refine hK _ ?_
        clear hK K
        refine stage_pure (by simp) (fun K hK => ?_)
        go_simp
        refine hK _ ?_
        clear hK K
        refine stage_pure (by simp) (fun K hK => ?_)
        go_simp
        refine hK _ ?_
        clear hK K
        refine stage_pure (by simp) (fun K hK => ?_)
        go_simp
        refine hK _ ?_
        clear hK K
        refine stage_pure (by simp) (fun K hK => ?_)
        go_simp
        refine hK _ ?_
        clear hK K
        refine stage_to (pre := [(14, w2.setCell ⟨b, 0, none⟩ (.slice a2 n2 c2')), (11, w2)]) (post := []) (W := wr.drew) (.slice (some ⟨wr.drew.heap.size, 0, none⟩) 1 1) (by first | rfl | go_simp) (fun L h1 h2 p hp => ?_) (by simp) (fun L h1 h2 => stg_first _ fun p hp => ?_) (by go_simp; first | done | (rw [HY.out]; done) | (rw [HY.out]; rfl) | rfl) ?_
        · simp only [List.mem_cons, List.not_mem_nil, or_false] at hp
          rcases hp with rfl | rfl
          · exact not_yet h1 fun hL => h2.dep (h2.dep hL rfl (e := ⟨11, .data⟩) (by simp) rfl) rfl (e := ⟨10, .data⟩) (by simp) rfl
          · exact not_yet h1 fun hL => h2.dep hL rfl (e := ⟨10, .data⟩) (by simp) rfl
        · simp only [List.mem_append, List.mem_cons, List.not_mem_nil, or_false] at hp
          rcases hp with (rfl | rfl) | rfl
          · exact not_yet h1 fun hL => h2.dep (h2.dep hL rfl (e := ⟨11, .data⟩) (by simp) rfl) rfl (e := ⟨10, .data⟩) (by simp) rfl
          · exact not_yet h1 fun hL => h2.dep hL rfl (e := ⟨10, .data⟩) (by simp) rfl
          · exact (ready_not h1).1
        refine stage_to (pre := [(14, w2.setCell ⟨b, 0, none⟩ (.slice a2 n2 c2'))]) (post := [(10, (wr.drew).alloc (.cells #[.int .u8 y] 5))]) (W := (wr.drew).alloc (.cells #[.int .u8 y] 5)) (.slice a2 n2 c2') (by first | rfl | go_simp) (fun L h1 h2 p hp => ?_) (by simp) (fun L h1 h2 => ?_) (append_op _ (.tmp 39) (.tmp 45) 33 33 rfl rfl _ _ rfl rfl _ _ hr) ?_
        · simp only [List.mem_cons, List.not_mem_nil, or_false] at hp
          subst hp
          exact not_yet h1 fun hL => h2.dep hL rfl (e := ⟨11, .data⟩) (by simp) rfl
        · refine stg_here (post := []) [(14, w2.setCell ⟨b, 0, none⟩ (.slice a2 n2 c2')), (11, w2)] (fun p hp => ?_) (ready_dep h1 rfl (e := ⟨10, .data⟩) (by simp) rfl)
          simp only [List.mem_cons, List.not_mem_nil, or_false] at hp
          rcases hp with rfl | rfl
          · exact not_yet h1 fun hL => h2.dep hL rfl (e := ⟨11, .data⟩) (by simp) rfl
          · exact (ready_not h1).1
        refine stage_pure (by simp) (fun K hK => ?_)
        go_simp
        refine hK _ ?_
        clear hK K
        refine stage_pure (by simp) (fun K hK => ?_)
        go_simp
        refine hK _ ?_
        clear hK K
        refine stage_toS (pre := []) (post := [(11, w2), (10, (wr.drew).alloc (.cells #[.int .u8 y] 5))]) (W := w2) (by first | rfl | go_simp) (fun L h1 h2 p hp => by cases hp) (by simp) (fun L h1 h2 => ?_) (by go_simp) ?_
        · refine stg_here (post := [(10, (wr.drew).alloc (.cells #[.int .u8 y] 5))]) [(14, w2.setCell ⟨b, 0, none⟩ (.slice a2 n2 c2'))] (fun p hp => ?_) (ready_dep h1 rfl (e := ⟨11, .data⟩) (by simp) rfl)
          simp only [List.mem_cons, List.not_mem_nil, or_false] at hp
          subst hp
          exact (ready_not h1).1
        refine stage_nil ?_
        go_wp2_with fail
        go_roundw
        case rel => first
          | exact ⟨j + 1, _, hlt, by have := HI.out; congr 1; omega, hnx, hBx, hMn⟩
          | (refine ⟨_, _, _, _, _, _, _, _, _, _, _, _, _, _, _, _, _, _, _, ⟨j + 1, _, hlt, ?_, hnx, hBx, hMn⟩, rfl⟩
             have := HI.out
             congr 1
             omega)
        case measure => simp [intOf] <;> omega
      · obtain rfl : j = k := by omega
        rw [List.take_of_length_le (by rw [enc_length]; exact Nat.le_refl _)] at hR
        have e1 : (j : Int) - 1 - j = -1 := by omega
        rw [e1]
        clear e1
        go_wp2
        go_ret
        exact ⟨rfl, .inr ⟨rfl, _, hR, hB, hM⟩⟩

theorem rw_Put (w : World) (b : Nat) (W : WR) (k n : Nat) (h : Rwt w b W) (hk8 : k ≤ 8) (hn : n < 18446744073709551616) :
    Calls Try.prog 11 #[.pointer (some ⟨b, 0, none⟩), .int .u64 n, .int .i64 k] w fun e w' => PutR b W (if 256 ^ k ≤ n then 2 else if W.lim < W.xs.length + k then 7 else 0) (enc k n) w e w' := by
  by_cases h1 : 256 ^ k ≤ n
  · rw [if_pos h1]
    exact rw_Put_range w b W k n hk8 hn h1
  · rw [if_neg h1]
    by_cases h2 : W.lim < W.xs.length + k
    · rw [if_pos h2]
      exact rw_Put_full w b W k n h hk8 hn (by omega) h2
    · rw [if_neg h2]
      exact rw_Put_ok w b W k n h hk8 hn (by omega) (by omega)
end Go.Proofs.Ytailaenkmknpiaa
