/- Read, whole. No condition. -/
import Derived.Test.YtgpjelcihmbiiaaPRe
namespace Go.Proofs.Ytgpjelcihmbiiaa
open Go.RowKit
set_option linter.unusedVariables false
set_option linter.unusedSimpArgs false
set_option maxRecDepth 100000

theorem results_rows {P : Program} {fn : Func} {p q : Tmp} {ty uy : TypeId} (h : fn.results = #[.cell p ty, .cell q uy]) (tmps : Array Value) (w : World) (g k : Nat) (t u : TypeId) (cs ds : Array Value) (fr gr : Nat × Nat) (d e : TypeDesc)
    (hp : tmps.getD p undef = .pointer (some ⟨g, 0, none⟩)) (hg : w.heap[g]? = some (.cells cs t fr))
    (hu : P.underlying ty = some d) (hd : (match d with | .struct _ | .array _ _ => true | _ => false) = true) (hi : (P.info? ty).map (·.size) = some cs.size)
    (kp : tmps.getD q undef = .pointer (some ⟨k, 0, none⟩)) (kg : w.heap[k]? = some (.cells ds u gr))
    (ku : P.underlying uy = some e) (kd : (match e with | .struct _ | .array _ _ => true | _ => false) = true) (ki : (P.info? uy).map (·.size) = some ds.size) :
    (results fn tmps).run P w = .ok (.tuple #[.agg cs, .agg ds]) w := by
  have hp' : tmps[p]?.getD undef = .pointer (some ⟨g, 0, none⟩) := by simpa using hp
  have kp' : tmps[q]?.getD undef = .pointer (some ⟨k, 0, none⟩) := by simpa using kp
  simp [results, h, hp', kp', asAddr, run_loadVar_row w g t ty cs fr d hg hu hd hi, run_loadVar_row w k u uy ds gr e kg ku kd ki]
def flt (e a : Int) : List Value := [.int .i64 e, .int .i64 a]
theorem flt_one (e a : Int) : (flt e a).toArray.all (·.oneCell') = true := by simp [flt, Value.oneCell']
theorem enc_octets (f : FL) : Oct f.enc := by
  intro x hx
  simp only [FL.enc, FL.mid, List.mem_append] at hx
  rcases hx with q | q | q | q
  · exact enc_oct _ _ x q
  · exact enc_oct _ _ x q
  · split at q
    · exact enc_oct _ _ x q
    · split at q
      · simp only [FL.arB, List.mem_append] at q
        rcases q with q | q | q | q | q | q | q
        all_goals exact enc_oct _ _ x q
      · simp only [FL.ipB, List.mem_append] at q
        rcases q with q | q | q
        · exact enc_oct _ _ x q
        · exact hdB_oct _ _ x q
        · unfold FL.ptB at q
          split at q
          · simp only [List.mem_append] at q
            rcases q with q | q | q | q
            all_goals exact enc_oct _ _ x q
          · cases q
  · exact enc_oct _ _ x q
theorem be_at {xs : List Int} (h : Oct xs) {R : RS} (hR : R.xs = xs) (k : Nat) : be (R.part k) < 256 ^ k := be_part (by rw [hR]; exact h) k
theorem Z64 : (0 : Int) ≤ 0 ∧ (0 : Int) < 18446744073709551616 := by decide
theorem Z32 : (0 : Int) ≤ 0 ∧ (0 : Int) < 4294967296 := by decide
theorem decF_ok {k : Int} {xs : List Int} (ho : Oct xs) : (decF k (R0 xs)).Ok := by
  have hx : (R0 xs).xs = xs := rfl
  have B : ∀ (R : RS) (hR : R.xs = xs) (k : Nat) (m : Int), 256 ^ k ≤ m → (0 : Int) ≤ (be (R.part k) : Int) ∧ (be (R.part k) : Int) < m := fun R hR k m hm => by
    have := be_at ho hR k
    have h2 : ((be (R.part k) : Nat) : Int) < ((256 ^ k : Nat) : Int) := by exact_mod_cast this
    have h3 : ((256 ^ k : Nat) : Int) = (256 : Int) ^ k := by simp
    constructor <;> omega
  unfold decF
  split
  · refine ⟨B _ ?_ 6 _ (by decide), B _ ?_ 6 _ (by decide), Z64, Z32, Z64, Z32, Z32, Z32, B _ ?_ 8 _ (by decide)⟩ <;> simp only [next_xs, on_xs, hx]
  · split
    · refine ⟨B _ ?_ 6 _ (by decide), B _ ?_ 6 _ (by decide), B _ ?_ 6 _ (by decide), B _ ?_ 4 _ (by decide), B _ ?_ 6 _ (by decide), B _ ?_ 4 _ (by decide), Z32, Z32, B _ ?_ 8 _ (by decide)⟩ <;> simp only [next_xs, on_xs, hx]
    · split
      · refine ⟨B _ ?_ 6 _ (by decide), B _ ?_ 6 _ (by decide), Z64, Z32, Z64, Z32, B _ ?_ 4 _ (by decide), B _ ?_ 4 _ (by decide), B _ ?_ 8 _ (by decide)⟩ <;> simp only [next_xs, on_xs, hx]
      · refine ⟨B _ ?_ 6 _ (by decide), B _ ?_ 6 _ (by decide), Z64, Z32, Z64, Z32, B _ ?_ 4 _ (by decide), B _ ?_ 4 _ (by decide), B _ ?_ 8 _ (by decide)⟩ <;> simp only [next_xs, on_xs, hx]
set_option maxHeartbeats 2000000 in
theorem read_short (xs : List Int) (ho : Oct xs) (hl : xs.length ≤ 1099511627776) (h : xs.length < 14) (v : Value) (w : World) (hv : Seg w v xs) : Calls Try.prog 17 #[v] w fun r w' => r = .returned (.tuple #[FL.v F0, .agg (flt 4 (xs.length : Int)).toArray]) ∧ Below w.heap.size w w' := by
  have HV := Lib.hid hv
  have hlen : (xs.length : Int) < 14 := by omega
  obtain ⟨va, vc, rfl, -⟩ := id hv
  clear hv
  unfold FL.v
  go_enter Try.func17, Try.ntmps17
  go_wp2_with (first
    | (refine at_new rfl 36 F0.cs rfl run_newFr ?_; rintro w1 H1 k1 s1)
    | (refine at_new rfl 38 FZ rfl run_newFt ?_; rintro w2 G2 k2 s2; rw [s1] at G2; have H2 := H1.below k2 H1.lt; have b2 := k1.trans (k2.mono k1.size); have SS := Lib.hid s2; clear k1 k2 H1 s2; try go_simp)
    | (refine at_bld rfl 36 _ rfl (FL.cs F0) (by kernel_rfl) ?_)
    | (refine at_bld rfl 38 _ rfl (flt 4 (xs.length : Int)) (by kernel_rfl) ?_)
    | (refine at_put rfl 36 _ _ rfl rfl w.heap.size rfl (FL.cs F0) rfl H2 rfl szF (cs_one _) ?_; rintro w8 g8; have H8 := g8.blk; have G8 := g8.but.blk G2 G2.lt (show w.heap.size + 1 ≠ w.heap.size by omega); have b8 := g8.below b2 (Nat.le_refl _); clear H2 G2 b2 g8)
    | (refine at_put rfl 38 _ _ rfl rfl (w.heap.size + 1) rfl (flt 4 (xs.length : Int)) rfl G8 rfl szFt (flt_one _ _) ?_; rintro w9 g9; have G9 := g9.blk; have H9 := g9.but.blk H8 H8.lt (show w.heap.size ≠ w.heap.size + 1 by omega); have b9 := g9.below b8 (Nat.le_succ _); clear H8 G8 b8 g9))
  exact bodyPost_ret (results_rows (by rfl) _ _ w.heap.size (w.heap.size + 1) _ _ (FL.cs F0).toArray (flt 4 (xs.length : Int)).toArray _ _ _ _ rfl H9 Try.underlying36 rfl szF rfl G9 Try.underlying38 rfl szFt) rfl ⟨rfl, b9⟩
set_option maxHeartbeats 2000000 in
theorem read_type (xs : List Int) (ho : Oct xs) (hl : xs.length ≤ 1099511627776) (h14 : 14 ≤ xs.length) (hk : knOf (tyAt xs) = false) (v : Value) (w : World) (hv : Seg w v xs) : Calls Try.prog 17 #[v] w fun r w' => r = .returned (.tuple #[FL.v F0, .agg (flt 6 12).toArray]) ∧ Below w.heap.size w w' := by
  have HV := Lib.hid hv
  have HK := fun w h => kind_is xs ho h14 v w h
  have hlen : ¬ (xs.length : Int) < 14 := by omega
  rw [hk] at HK
  obtain ⟨va, vc, rfl, -⟩ := id hv
  clear hv
  unfold FL.v
  go_enter Try.func17, Try.ntmps17
  go_wp2_with (first
    | (refine at_new rfl 36 F0.cs rfl run_newFr ?_; rintro w1 H1 k1 s1)
    | (refine at_new rfl 38 FZ rfl run_newFt ?_; rintro w2 G2 k2 s2; rw [s1] at G2; have H2 := H1.below k2 H1.lt; have b2 := k1.trans (k2.mono k1.size); have SS := Lib.hid s2; clear k1 k2 H1 s2; try go_simp)
    | (go_at_call 45; refine (HK w2 (HV.out.below b2)).mono ?_; rintro e w3 ⟨rfl, k3⟩; have b3 := b2.trans (k3.mono b2.size); have H3 := H2.below k3 H2.lt; have G3 := G2.below k3 G2.lt; clear b2 H2 G2 k3 HK)
    | (refine at_bld rfl 36 _ rfl (FL.cs F0) (by kernel_rfl) ?_)
    | (refine at_bld rfl 38 _ rfl (flt 6 12) (by kernel_rfl) ?_)
    | (refine at_put rfl 36 _ _ rfl rfl w.heap.size rfl (FL.cs F0) rfl H3 rfl szF (cs_one _) ?_; rintro w8 g8; have H8 := g8.blk; have G8 := g8.but.blk G3 G3.lt (show w.heap.size + 1 ≠ w.heap.size by omega); have b8 := g8.below b3 (Nat.le_refl _); clear H3 G3 b3 g8)
    | (refine at_put rfl 38 _ _ rfl rfl (w.heap.size + 1) rfl (flt 6 12) rfl G8 rfl szFt (flt_one _ _) ?_; rintro w9 g9; have G9 := g9.blk; have H9 := g9.but.blk H8 H8.lt (show w.heap.size ≠ w.heap.size + 1 by omega); have b9 := g9.below b8 (Nat.le_succ _); clear H8 G8 b8 g9))
  exact bodyPost_ret (results_rows (by rfl) _ _ w.heap.size (w.heap.size + 1) _ _ (FL.cs F0).toArray (flt 6 12).toArray _ _ _ _ rfl H9 Try.underlying36 rfl szF rfl G9 Try.underlying38 rfl szFt) rfl ⟨rfl, b9⟩
set_option maxHeartbeats 2000000 in
theorem read_less (xs : List Int) (ho : Oct xs) (hl : xs.length ≤ 1099511627776) (h14 : 14 ≤ xs.length) (hk : knOf (tyAt xs) = true) (hz : (xs.length : Int) < szOf (kdOf (tyAt xs)) xs) (v : Value) (w : World) (hv : Seg w v xs) : Calls Try.prog 17 #[v] w fun r w' => r = .returned (.tuple #[FL.v F0, .agg (flt 4 (xs.length : Int)).toArray]) ∧ Below w.heap.size w w' := by
  have HV := Lib.hid hv
  have HK := fun w h => kind_is xs ho h14 v w h
  have hlen : ¬ (xs.length : Int) < 14 := by omega
  rw [hk] at HK
  have hk3 : kdOf (tyAt xs) = 0 ∨ kdOf (tyAt xs) = 1 ∨ kdOf (tyAt xs) = 2 := by
    unfold kdOf
    split
    · exact .inl rfl
    · split
      · exact .inr (.inl rfl)
      · split
        · exact .inr (.inr rfl)
        · exact .inl rfl
  have HZ := fun w h => size_of (kdOf (tyAt xs)) hk3 xs ho v w h
  clear hk3
  generalize szOf (kdOf (tyAt xs)) xs = Z at *
  generalize kdOf (tyAt xs) = K at *
  obtain ⟨va, vc, rfl, -⟩ := id hv
  clear hv
  unfold FL.v
  go_enter Try.func17, Try.ntmps17
  go_wp2_with (first
    | (refine at_new rfl 36 F0.cs rfl run_newFr ?_; rintro w1 H1 k1 s1)
    | (refine at_new rfl 38 FZ rfl run_newFt ?_; rintro w2 G2 k2 s2; rw [s1] at G2; have H2 := H1.below k2 H1.lt; have b2 := k1.trans (k2.mono k1.size); have SS := Lib.hid s2; clear k1 k2 H1 s2; try go_simp)
    | (go_at_call 45; refine (HK w2 (HV.out.below b2)).mono ?_; rintro e w3 ⟨rfl, k3⟩; have b3 := b2.trans (k3.mono b2.size); have H3 := H2.below k3 H2.lt; have G3 := G2.below k3 G2.lt; clear b2 H2 G2 k3 HK)
    | (go_at_call 46; refine (HZ w3 (HV.out.below b3)).mono ?_; rintro e w' ⟨rfl, hw⟩; obtain rfl := hw.symm; clear HZ)
    | (refine at_bld rfl 36 _ rfl (FL.cs F0) (by kernel_rfl) ?_)
    | (refine at_bld rfl 38 _ rfl (flt 4 (xs.length : Int)) (by kernel_rfl) ?_)
    | (refine at_put rfl 36 _ _ rfl rfl w.heap.size rfl (FL.cs F0) rfl H3 rfl szF (cs_one _) ?_; rintro w8 g8; have H8 := g8.blk; have G8 := g8.but.blk G3 G3.lt (show w.heap.size + 1 ≠ w.heap.size by omega); have b8 := g8.below b3 (Nat.le_refl _); clear H3 G3 b3 g8)
    | (refine at_put rfl 38 _ _ rfl rfl (w.heap.size + 1) rfl (flt 4 (xs.length : Int)) rfl G8 rfl szFt (flt_one _ _) ?_; rintro w9 g9; have G9 := g9.blk; have H9 := g9.but.blk H8 H8.lt (show w.heap.size ≠ w.heap.size + 1 by omega); have b9 := g9.below b8 (Nat.le_succ _); clear H8 G8 b8 g9))
  exact bodyPost_ret (results_rows (by rfl) _ _ w.heap.size (w.heap.size + 1) _ _ (FL.cs F0).toArray (flt 4 (xs.length : Int)).toArray _ _ _ _ rfl H9 Try.underlying36 rfl szF rfl G9 Try.underlying38 rfl szFt) rfl ⟨rfl, b9⟩
set_option maxHeartbeats 2000000 in
theorem read_more (xs : List Int) (ho : Oct xs) (hl : xs.length ≤ 1099511627776) (h14 : 14 ≤ xs.length) (hk : knOf (tyAt xs) = true) (hz : szOf (kdOf (tyAt xs)) xs < (xs.length : Int)) (v : Value) (w : World) (hv : Seg w v xs) : Calls Try.prog 17 #[v] w fun r w' => r = .returned (.tuple #[FL.v F0, .agg (flt 5 (szOf (kdOf (tyAt xs)) xs)).toArray]) ∧ Below w.heap.size w w' := by
  have HV := Lib.hid hv
  have HK := fun w h => kind_is xs ho h14 v w h
  have hlen : ¬ (xs.length : Int) < 14 := by omega
  rw [hk] at HK
  have hk3 : kdOf (tyAt xs) = 0 ∨ kdOf (tyAt xs) = 1 ∨ kdOf (tyAt xs) = 2 := by
    unfold kdOf
    split
    · exact .inl rfl
    · split
      · exact .inr (.inl rfl)
      · split
        · exact .inr (.inr rfl)
        · exact .inl rfl
  have HZ := fun w h => size_of (kdOf (tyAt xs)) hk3 xs ho v w h
  clear hk3
  generalize szOf (kdOf (tyAt xs)) xs = Z at *
  generalize kdOf (tyAt xs) = K at *
  have hz2 : ¬ (xs.length : Int) < Z := by omega
  obtain ⟨va, vc, rfl, -⟩ := id hv
  clear hv
  unfold FL.v
  go_enter Try.func17, Try.ntmps17
  go_wp2_with (first
    | (refine at_new rfl 36 F0.cs rfl run_newFr ?_; rintro w1 H1 k1 s1)
    | (refine at_new rfl 38 FZ rfl run_newFt ?_; rintro w2 G2 k2 s2; rw [s1] at G2; have H2 := H1.below k2 H1.lt; have b2 := k1.trans (k2.mono k1.size); have SS := Lib.hid s2; clear k1 k2 H1 s2; try go_simp)
    | (go_at_call 45; refine (HK w2 (HV.out.below b2)).mono ?_; rintro e w3 ⟨rfl, k3⟩; have b3 := b2.trans (k3.mono b2.size); have H3 := H2.below k3 H2.lt; have G3 := G2.below k3 G2.lt; clear b2 H2 G2 k3 HK)
    | (go_at_call 46; refine (HZ w3 (HV.out.below b3)).mono ?_; rintro e w' ⟨rfl, hw⟩; obtain rfl := hw.symm; clear HZ)
    | (refine at_bld rfl 36 _ rfl (FL.cs F0) (by kernel_rfl) ?_)
    | (refine at_bld rfl 38 _ rfl (flt 5 Z) (by kernel_rfl) ?_)
    | (refine at_put rfl 36 _ _ rfl rfl w.heap.size rfl (FL.cs F0) rfl H3 rfl szF (cs_one _) ?_; rintro w8 g8; have H8 := g8.blk; have G8 := g8.but.blk G3 G3.lt (show w.heap.size + 1 ≠ w.heap.size by omega); have b8 := g8.below b3 (Nat.le_refl _); clear H3 G3 b3 g8)
    | (refine at_put rfl 38 _ _ rfl rfl (w.heap.size + 1) rfl (flt 5 Z) rfl G8 rfl szFt (flt_one _ _) ?_; rintro w9 g9; have G9 := g9.blk; have H9 := g9.but.blk H8 H8.lt (show w.heap.size ≠ w.heap.size + 1 by omega); have b9 := g9.below b8 (Nat.le_succ _); clear H8 G8 b8 g9))
  exact bodyPost_ret (results_rows (by rfl) _ _ w.heap.size (w.heap.size + 1) _ _ (FL.cs F0).toArray (flt 5 Z).toArray _ _ _ _ rfl H9 Try.underlying36 rfl szF rfl G9 Try.underlying38 rfl szFt) rfl ⟨rfl, b9⟩
set_option maxHeartbeats 2000000 in
theorem read_bad1 (xs : List Int) (ho : Oct xs) (hl : xs.length ≤ 1099511627776) (h14 : 14 ≤ xs.length) (hk : knOf (tyAt xs) = true) (hz : (xs.length : Int) = szOf (kdOf (tyAt xs)) xs) (hc : FL.chk (decF (kdOf (tyAt xs)) (R0 xs)) ≠ 0) (v : Value) (w : World) (hv : Seg w v xs) : Calls Try.prog 17 #[v] w fun r w' => r = .returned (.tuple #[FL.v F0, .agg (flt 3 0).toArray]) ∧ Below w.heap.size w w' := by
  have HV := Lib.hid hv
  have HK := fun w h => kind_is xs ho h14 v w h
  have hlen : ¬ (xs.length : Int) < 14 := by omega
  rw [hk] at HK
  have hk3 : kdOf (tyAt xs) = 0 ∨ kdOf (tyAt xs) = 1 ∨ kdOf (tyAt xs) = 2 := by
    unfold kdOf
    split
    · exact .inl rfl
    · split
      · exact .inr (.inl rfl)
      · split
        · exact .inr (.inr rfl)
        · exact .inl rfl
  have HZ := fun w h => size_of (kdOf (tyAt xs)) hk3 xs ho v w h
  have HD := fun w h => decode_is (kdOf (tyAt xs)) hk3 xs ho hz v w h
  have HB := fun w => bytes_bad (decF (kdOf (tyAt xs)) (R0 xs)) hc w
  have A : (FL.chk (decF (kdOf (tyAt xs)) (R0 xs)) != 0) = true := by simpa using hc
  generalize FL.chk (decF (kdOf (tyAt xs)) (R0 xs)) = Y at HB A
  clear hc
  clear hk3
  rw [← hz] at HZ
  have hz2 : ¬ (xs.length : Int) < (xs.length : Int) := by omega
  generalize decF (kdOf (tyAt xs)) (R0 xs) = D at *
  generalize kdOf (tyAt xs) = K at *
  clear hz
  unfold FL.v at HD HB
  obtain ⟨va, vc, rfl, -⟩ := id hv
  clear hv
  unfold FL.v
  go_enter Try.func17, Try.ntmps17
  go_wp2_with (first
    | (refine at_new rfl 36 F0.cs rfl run_newFr ?_; rintro w1 H1 k1 s1)
    | (refine at_new rfl 38 FZ rfl run_newFt ?_; rintro w2 G2 k2 s2; rw [s1] at G2; have H2 := H1.below k2 H1.lt; have b2 := k1.trans (k2.mono k1.size); have SS := Lib.hid s2; clear k1 k2 H1 s2; try go_simp)
    | (go_at_call 45; refine (HK w2 (HV.out.below b2)).mono ?_; rintro e w3 ⟨rfl, k3⟩; have b3 := b2.trans (k3.mono b2.size); have H3 := H2.below k3 H2.lt; have G3 := G2.below k3 G2.lt; clear b2 H2 G2 k3 HK)
    | (go_at_call 46; refine (HZ w3 (HV.out.below b3)).mono ?_; rintro e w' ⟨rfl, hw⟩; obtain rfl := hw.symm; clear HZ))
  go_at_call 47
  refine (HD w3 (HV.out.below b3)).mono ?_
  rintro e w4 ⟨rfl, k4⟩
  have b4 := b3.trans (k4.mono b3.size)
  have H4 := H3.below k4 H3.lt
  have G4 := G3.below k4 G3.lt
  have l4 := G4.lt
  clear b3 H3 G3 k4 HD
  go_wp2_with (first
    | (refine at_new rfl 36 F0.cs rfl run_newFr ?_; rintro w5 X5 k5 s5; have b5 := b4.trans (k5.mono b4.size); have H5 := H4.below k5 H4.lt; have G5 := G4.below k5 G4.lt; have FB := b4.size; clear b4 H4 G4 k5; have S5 := Lib.hid s5; clear s5; try go_simp)
    | (refine at_put rfl 36 _ _ rfl rfl w4.heap.size rfl (FL.cs D) rfl X5 rfl szF (cs_one _) ?_; rintro w6 g6; have X6 := g6.blk; have b6 := g6.below b5 FB; have H6 := g6.but.blk H5 H5.lt (show w.heap.size ≠ w4.heap.size by omega); have G6 := g6.but.blk G5 G5.lt (show w.heap.size + 1 ≠ w4.heap.size by omega); clear b5 H5 G5 X5 g6)
    | (refine at_mid rfl 36 _ rfl w4.heap.size 0 rfl X6 (FL.cs D) rfl _ Try.underlying36 rfl szF ?_))
  go_at_call 16
  refine (HB w6).mono ?_
  rintro e w7 ⟨rfl, k7⟩
  have b7 := b6.trans (k7.mono b6.size)
  have H7 := H6.below k7 H6.lt
  have G7 := G6.below k7 G6.lt
  have X7 := X6.below k7 X6.lt
  clear b6 H6 G6 X6 k7 HB
  go_wp2_with (first
    | (refine at_bld rfl 36 _ rfl (FL.cs F0) (by kernel_rfl) ?_)
    | (refine at_bld rfl 38 _ rfl (flt 3 0) (by kernel_rfl) ?_)
    | (refine at_put rfl 36 _ _ rfl rfl w.heap.size rfl (FL.cs F0) rfl H7 rfl szF (cs_one _) ?_; rintro w8 g8; have H8 := g8.blk; have G8 := g8.but.blk G7 G7.lt (show w.heap.size + 1 ≠ w.heap.size by omega); have b8 := g8.below b7 (Nat.le_refl _); clear H7 G7 b7 g8)
    | (refine at_put rfl 38 _ _ rfl rfl (w.heap.size + 1) rfl (flt 3 0) rfl G8 rfl szFt (flt_one _ _) ?_; rintro w9 g9; have G9 := g9.blk; have H9 := g9.but.blk H8 H8.lt (show w.heap.size ≠ w.heap.size + 1 by omega); have b9 := g9.below b8 (Nat.le_succ _); clear H8 G8 b8 g9))
  exact bodyPost_ret (results_rows (by rfl) _ _ w.heap.size (w.heap.size + 1) _ _ (FL.cs F0).toArray (flt 3 0).toArray _ _ _ _ rfl H9 Try.underlying36 rfl szF rfl G9 Try.underlying38 rfl szFt) rfl ⟨rfl, b9⟩
set_option maxHeartbeats 2000000 in
theorem read_bad2 (xs : List Int) (ho : Oct xs) (hl : xs.length ≤ 1099511627776) (h14 : 14 ≤ xs.length) (hk : knOf (tyAt xs) = true) (hz : (xs.length : Int) = szOf (kdOf (tyAt xs)) xs) (hc : FL.chk (decF (kdOf (tyAt xs)) (R0 xs)) = 0) (heq : FL.enc (decF (kdOf (tyAt xs)) (R0 xs)) ≠ xs) (v : Value) (w : World) (hv : Seg w v xs) : Calls Try.prog 17 #[v] w fun r w' => r = .returned (.tuple #[FL.v F0, .agg (flt 3 0).toArray]) ∧ Below w.heap.size w w' := by
  have HV := Lib.hid hv
  have HK := fun w h => kind_is xs ho h14 v w h
  have hlen : ¬ (xs.length : Int) < 14 := by omega
  rw [hk] at HK
  have hk3 : kdOf (tyAt xs) = 0 ∨ kdOf (tyAt xs) = 1 ∨ kdOf (tyAt xs) = 2 := by
    unfold kdOf
    split
    · exact .inl rfl
    · split
      · exact .inr (.inl rfl)
      · split
        · exact .inr (.inr rfl)
        · exact .inl rfl
  have HZ := fun w h => size_of (kdOf (tyAt xs)) hk3 xs ho v w h
  have HD := fun w h => decode_is (kdOf (tyAt xs)) hk3 xs ho hz v w h
  have HB := fun w => bytes_ok (decF (kdOf (tyAt xs)) (R0 xs)) (decF_ok ho) hc w
  have HO := Lib.hid (enc_octets (decF (kdOf (tyAt xs)) (R0 xs)))
  have HE := Lib.hid heq
  clear heq hc
  clear hk3
  rw [← hz] at HZ
  have hz2 : ¬ (xs.length : Int) < (xs.length : Int) := by omega
  generalize decF (kdOf (tyAt xs)) (R0 xs) = D at *
  generalize kdOf (tyAt xs) = K at *
  clear hz
  unfold FL.v at HD HB
  obtain ⟨va, vc, rfl, -⟩ := id hv
  clear hv
  unfold FL.v
  go_enter Try.func17, Try.ntmps17
  go_wp2_with (first
    | (refine at_new rfl 36 F0.cs rfl run_newFr ?_; rintro w1 H1 k1 s1)
    | (refine at_new rfl 38 FZ rfl run_newFt ?_; rintro w2 G2 k2 s2; rw [s1] at G2; have H2 := H1.below k2 H1.lt; have b2 := k1.trans (k2.mono k1.size); have SS := Lib.hid s2; clear k1 k2 H1 s2; try go_simp)
    | (go_at_call 45; refine (HK w2 (HV.out.below b2)).mono ?_; rintro e w3 ⟨rfl, k3⟩; have b3 := b2.trans (k3.mono b2.size); have H3 := H2.below k3 H2.lt; have G3 := G2.below k3 G2.lt; clear b2 H2 G2 k3 HK)
    | (go_at_call 46; refine (HZ w3 (HV.out.below b3)).mono ?_; rintro e w' ⟨rfl, hw⟩; obtain rfl := hw.symm; clear HZ))
  go_at_call 47
  refine (HD w3 (HV.out.below b3)).mono ?_
  rintro e w4 ⟨rfl, k4⟩
  have b4 := b3.trans (k4.mono b3.size)
  have H4 := H3.below k4 H3.lt
  have G4 := G3.below k4 G3.lt
  have l4 := G4.lt
  clear b3 H3 G3 k4 HD
  go_wp2_with (first
    | (refine at_new rfl 36 F0.cs rfl run_newFr ?_; rintro w5 X5 k5 s5; have b5 := b4.trans (k5.mono b4.size); have H5 := H4.below k5 H4.lt; have G5 := G4.below k5 G4.lt; have FB := b4.size; clear b4 H4 G4 k5; have S5 := Lib.hid s5; clear s5; try go_simp)
    | (refine at_put rfl 36 _ _ rfl rfl w4.heap.size rfl (FL.cs D) rfl X5 rfl szF (cs_one _) ?_; rintro w6 g6; have X6 := g6.blk; have b6 := g6.below b5 FB; have H6 := g6.but.blk H5 H5.lt (show w.heap.size ≠ w4.heap.size by omega); have G6 := g6.but.blk G5 G5.lt (show w.heap.size + 1 ≠ w4.heap.size by omega); clear b5 H5 G5 X5 g6)
    | (refine at_mid rfl 36 _ rfl w4.heap.size 0 rfl X6 (FL.cs D) rfl _ Try.underlying36 rfl szF ?_))
  go_at_call 16
  refine (HB w6).mono ?_
  rintro e w7 ⟨u, rfl, d7, k7⟩
  have b7 := b6.trans (k7.mono b6.size)
  have H7 := H6.below k7 H6.lt
  have G7 := G6.below k7 G6.lt
  have X7 := X6.below k7 X6.lt
  clear b6 H6 G6 X6 k7 HB
  have HQ := equal_is (d7.dat.seg) (HV.out.below b7) HO.out ho
  rw [show decide (D.enc = xs) = false by simpa using HE.out] at HQ
  clear d7
  go_wp2_with (first
    | (go_at_call 48; refine HQ.mono ?_; rintro e w' ⟨rfl, hw⟩; obtain rfl := hw.symm; clear HQ)
    | (refine at_mid rfl 36 _ rfl w4.heap.size 0 rfl X7 (FL.cs D) rfl _ Try.underlying36 rfl szF ?_)
    | (refine at_bld rfl 36 _ rfl (FL.cs F0) (by kernel_rfl) ?_)
    | (refine at_bld rfl 38 _ rfl (flt 3 0) (by kernel_rfl) ?_)
    | (refine at_put rfl 36 _ _ rfl rfl w.heap.size rfl (FL.cs F0) rfl H7 rfl szF (cs_one _) ?_; rintro w8 g8; have H8 := g8.blk; have G8 := g8.but.blk G7 G7.lt (show w.heap.size + 1 ≠ w.heap.size by omega); have b8 := g8.below b7 (Nat.le_refl _); clear H7 G7 b7 g8)
    | (refine at_put rfl 38 _ _ rfl rfl (w.heap.size + 1) rfl (flt 3 0) rfl G8 rfl szFt (flt_one _ _) ?_; rintro w9 g9; have G9 := g9.blk; have H9 := g9.but.blk H8 H8.lt (show w.heap.size ≠ w.heap.size + 1 by omega); have b9 := g9.below b8 (Nat.le_succ _); clear H8 G8 b8 g9))
  exact bodyPost_ret (results_rows (by rfl) _ _ w.heap.size (w.heap.size + 1) _ _ (FL.cs F0).toArray (flt 3 0).toArray _ _ _ _ rfl H9 Try.underlying36 rfl szF rfl G9 Try.underlying38 rfl szFt) rfl ⟨rfl, b9⟩
set_option maxHeartbeats 2000000 in
theorem read_ok (xs : List Int) (ho : Oct xs) (hl : xs.length ≤ 1099511627776) (h14 : 14 ≤ xs.length) (hk : knOf (tyAt xs) = true) (hz : (xs.length : Int) = szOf (kdOf (tyAt xs)) xs) (hc : FL.chk (decF (kdOf (tyAt xs)) (R0 xs)) = 0) (heq : FL.enc (decF (kdOf (tyAt xs)) (R0 xs)) = xs) (v : Value) (w : World) (hv : Seg w v xs) : Calls Try.prog 17 #[v] w fun r w' => r = .returned (.tuple #[FL.v (decF (kdOf (tyAt xs)) (R0 xs)), .agg (flt 0 0).toArray]) ∧ Below w.heap.size w w' := by
  have HV := Lib.hid hv
  have HK := fun w h => kind_is xs ho h14 v w h
  have hlen : ¬ (xs.length : Int) < 14 := by omega
  rw [hk] at HK
  have hk3 : kdOf (tyAt xs) = 0 ∨ kdOf (tyAt xs) = 1 ∨ kdOf (tyAt xs) = 2 := by
    unfold kdOf
    split
    · exact .inl rfl
    · split
      · exact .inr (.inl rfl)
      · split
        · exact .inr (.inr rfl)
        · exact .inl rfl
  have HZ := fun w h => size_of (kdOf (tyAt xs)) hk3 xs ho v w h
  have HD := fun w h => decode_is (kdOf (tyAt xs)) hk3 xs ho hz v w h
  have HB := fun w => bytes_ok (decF (kdOf (tyAt xs)) (R0 xs)) (decF_ok ho) hc w
  have HO := Lib.hid (enc_octets (decF (kdOf (tyAt xs)) (R0 xs)))
  have HE := Lib.hid heq
  clear heq hc
  clear hk3
  rw [← hz] at HZ
  have hz2 : ¬ (xs.length : Int) < (xs.length : Int) := by omega
  generalize decF (kdOf (tyAt xs)) (R0 xs) = D at *
  generalize kdOf (tyAt xs) = K at *
  clear hz
  unfold FL.v at HD HB
  obtain ⟨va, vc, rfl, -⟩ := id hv
  clear hv
  unfold FL.v
  go_enter Try.func17, Try.ntmps17
  go_wp2_with (first
    | (refine at_new rfl 36 F0.cs rfl run_newFr ?_; rintro w1 H1 k1 s1)
    | (refine at_new rfl 38 FZ rfl run_newFt ?_; rintro w2 G2 k2 s2; rw [s1] at G2; have H2 := H1.below k2 H1.lt; have b2 := k1.trans (k2.mono k1.size); have SS := Lib.hid s2; clear k1 k2 H1 s2; try go_simp)
    | (go_at_call 45; refine (HK w2 (HV.out.below b2)).mono ?_; rintro e w3 ⟨rfl, k3⟩; have b3 := b2.trans (k3.mono b2.size); have H3 := H2.below k3 H2.lt; have G3 := G2.below k3 G2.lt; clear b2 H2 G2 k3 HK)
    | (go_at_call 46; refine (HZ w3 (HV.out.below b3)).mono ?_; rintro e w' ⟨rfl, hw⟩; obtain rfl := hw.symm; clear HZ))
  go_at_call 47
  refine (HD w3 (HV.out.below b3)).mono ?_
  rintro e w4 ⟨rfl, k4⟩
  have b4 := b3.trans (k4.mono b3.size)
  have H4 := H3.below k4 H3.lt
  have G4 := G3.below k4 G3.lt
  have l4 := G4.lt
  clear b3 H3 G3 k4 HD
  go_wp2_with (first
    | (refine at_new rfl 36 F0.cs rfl run_newFr ?_; rintro w5 X5 k5 s5; have b5 := b4.trans (k5.mono b4.size); have H5 := H4.below k5 H4.lt; have G5 := G4.below k5 G4.lt; have FB := b4.size; clear b4 H4 G4 k5; have S5 := Lib.hid s5; clear s5; try go_simp)
    | (refine at_put rfl 36 _ _ rfl rfl w4.heap.size rfl (FL.cs D) rfl X5 rfl szF (cs_one _) ?_; rintro w6 g6; have X6 := g6.blk; have b6 := g6.below b5 FB; have H6 := g6.but.blk H5 H5.lt (show w.heap.size ≠ w4.heap.size by omega); have G6 := g6.but.blk G5 G5.lt (show w.heap.size + 1 ≠ w4.heap.size by omega); clear b5 H5 G5 X5 g6)
    | (refine at_mid rfl 36 _ rfl w4.heap.size 0 rfl X6 (FL.cs D) rfl _ Try.underlying36 rfl szF ?_))
  go_at_call 16
  refine (HB w6).mono ?_
  rintro e w7 ⟨u, rfl, d7, k7⟩
  have b7 := b6.trans (k7.mono b6.size)
  have H7 := H6.below k7 H6.lt
  have G7 := G6.below k7 G6.lt
  have X7 := X6.below k7 X6.lt
  clear b6 H6 G6 X6 k7 HB
  have HQ := equal_is (d7.dat.seg) (HV.out.below b7) HO.out ho
  rw [show decide (D.enc = xs) = true by simpa using HE.out] at HQ
  clear d7
  go_wp2_with (first
    | (go_at_call 48; refine HQ.mono ?_; rintro e w' ⟨rfl, hw⟩; obtain rfl := hw.symm; clear HQ)
    | (refine at_mid rfl 36 _ rfl w4.heap.size 0 rfl X7 (FL.cs D) rfl _ Try.underlying36 rfl szF ?_)
    | (refine at_bld rfl 36 _ rfl (FL.cs F0) (by kernel_rfl) ?_)
    | (refine at_bld rfl 38 _ rfl (flt 0 0) (by kernel_rfl) ?_)
    | (refine at_put rfl 36 _ _ rfl rfl w.heap.size rfl (FL.cs D) rfl H7 rfl szF (cs_one _) ?_; rintro w8 g8; have H8 := g8.blk; have G8 := g8.but.blk G7 G7.lt (show w.heap.size + 1 ≠ w.heap.size by omega); have b8 := g8.below b7 (Nat.le_refl _); clear H7 G7 b7 g8)
    | (refine at_put rfl 38 _ _ rfl rfl (w.heap.size + 1) rfl (flt 0 0) rfl G8 rfl szFt (flt_one _ _) ?_; rintro w9 g9; have G9 := g9.blk; have H9 := g9.but.blk H8 H8.lt (show w.heap.size ≠ w.heap.size + 1 by omega); have b9 := g9.below b8 (Nat.le_succ _); clear H8 G8 b8 g9))
  exact bodyPost_ret (results_rows (by rfl) _ _ w.heap.size (w.heap.size + 1) _ _ (FL.cs D).toArray (flt 0 0).toArray _ _ _ _ rfl H9 Try.underlying36 rfl szF rfl G9 Try.underlying38 rfl szFt) rfl ⟨rfl, b9⟩
end Go.Proofs.Ytgpjelcihmbiiaa
