/- Which frame octets are, and how long; decoding. No condition. -/
import Derived.Test.YtgpjelcihmbiiaaPRi
namespace Go.Proofs.Ytgpjelcihmbiiaa
open Go.RowKit
set_option linter.unusedVariables false
set_option linter.unusedSimpArgs false
set_option maxRecDepth 100000

theorem bits_or_i64_nat (a b : Nat) (ha : a < 4611686018427387904) (hb : b < 4611686018427387904) : bits .or .i64 (a : Int) (b : Int) = ((a ||| b : Nat) : Int) := by
  have hx : a ||| b < 2 ^ 62 := Nat.or_lt_two_pow (by omega) (by omega)
  have h1 : (BitVec.ofInt 64 (a : Int)).toNat = a := by
    rw [BitVec.ofInt_natCast, BitVec.toNat_ofNat]; exact Nat.mod_eq_of_lt (by omega)
  have h2 : (BitVec.ofInt 64 (b : Int)).toNat = b := by
    rw [BitVec.ofInt_natCast, BitVec.toNat_ofNat]; exact Nat.mod_eq_of_lt (by omega)
  show IntKind.i64.wrap ((BitVec.ofInt 64 (a : Int) ||| BitVec.ofInt 64 (b : Int)).toNat : Int) = _
  rw [BitVec.toNat_or, h1, h2]
  simp only [IntKind.wrap, IntKind.bits, IntKind.signed]
  simp <;> omega
theorem or_i64 (a y : Int) (h0 : 0 ≤ a) (h1 : a < 256) (h2 : 0 ≤ y) (h3 : y < 256) : bits .or .i64 (a * 256) y = a * 256 + y := by
  obtain ⟨x, rfl⟩ := Int.eq_ofNat_of_zero_le h0
  obtain ⟨z, rfl⟩ := Int.eq_ofNat_of_zero_le h2
  have e2 := Nat.two_pow_add_eq_or_of_lt (i := 8) (b := z) (by omega) x
  have e3 := bits_or_i64_nat (2 ^ 8 * x) z (by omega) (by omega)
  rw [show (x : Int) * 256 = ((2 ^ 8 * x : Nat) : Int) by omega, e3, ← e2]
  omega
/-- The number of two octets at 12. -/
def tyAt (xs : List Int) : Int := xs.getD 12 0 * 256 + xs.getD 13 0
def kdOf (t : Int) : Int := if t = 34997 then 0 else if t = 2054 then 1 else if t = 2048 then 2 else 0
def knOf (t : Int) : Bool := (t == 34997) || ((t == 2054) || (t == 2048))
theorem Seg.some {w : World} {a : Option Addr} {n c : Nat} {xs : List Int} (h : Seg w (.slice a n c) xs) (h0 : 0 < xs.length) : ∃ b o, a = .some ⟨b, o, none⟩ ∧ n = xs.length ∧ xs.length ≤ c ∧ ∀ i, i < xs.length → w.cell? ⟨b, o + i, none⟩ = .some (.int .u8 (xs.getD i 0)) := by
  obtain ⟨a', c', e, hc, hx⟩ := h
  injection e with e1 e2 e3
  subst e1 e2 e3
  obtain ⟨b, o, rfl, -⟩ := hx 0 h0
  refine ⟨b, o, rfl, rfl, hc, fun i hi => ?_⟩
  obtain ⟨b', o', e, hcell⟩ := hx i hi
  injection e with e
  injection e with e1 e2
  subst e1 e2
  exact hcell
theorem kind_0 (xs : List Int) (ho : Oct xs) (h14 : 14 ≤ xs.length) (ht : tyAt xs = 34997) (v : Value) (w : World) (hv : Seg w v xs) : Calls Try.prog 45 #[v] w fun e w' => e = .returned (.tuple #[.int .i64 0, .bool true]) ∧ Below w.heap.size w w' := by
  obtain ⟨a, c, rfl, -⟩ := id hv
  obtain ⟨b, o, rfl, -, hc, hx⟩ := hv.some (by omega)
  have c12 := hx 12 (by omega)
  have c13 := hx 13 (by omega)
  have o1 := ho.getD 12
  have o2 := ho.getD 13
  clear hx
  obtain ⟨x, hx⟩ : ∃ x, xs.getD 12 0 = x := ⟨_, rfl⟩
  obtain ⟨y, hy⟩ : ∃ y, xs.getD 13 0 = y := ⟨_, rfl⟩
  rw [hx] at c12 o1
  rw [hy] at c13 o2
  have hor := or_i64 x y o1.1 o1.2 o2.1 o2.2
  rw [tyAt, hx, hy] at ht
  rw [ht] at hor
  clear ht
  clear hx hy hv
  have hlen : (13 : Int) < xs.length := by omega
  generalize xs.length = n at *
  clear ho
  go_enter Try.func45, Try.ntmps45
  go_upto_region 1 with fail
  go_quiet (fail)
  go_wp2
  go_ret2
  exact ⟨rfl, below_drewN _ _ _⟩
theorem kind_1 (xs : List Int) (ho : Oct xs) (h14 : 14 ≤ xs.length) (ht : tyAt xs = 2054) (v : Value) (w : World) (hv : Seg w v xs) : Calls Try.prog 45 #[v] w fun e w' => e = .returned (.tuple #[.int .i64 1, .bool true]) ∧ Below w.heap.size w w' := by
  obtain ⟨a, c, rfl, -⟩ := id hv
  obtain ⟨b, o, rfl, -, hc, hx⟩ := hv.some (by omega)
  have c12 := hx 12 (by omega)
  have c13 := hx 13 (by omega)
  have o1 := ho.getD 12
  have o2 := ho.getD 13
  clear hx
  obtain ⟨x, hx⟩ : ∃ x, xs.getD 12 0 = x := ⟨_, rfl⟩
  obtain ⟨y, hy⟩ : ∃ y, xs.getD 13 0 = y := ⟨_, rfl⟩
  rw [hx] at c12 o1
  rw [hy] at c13 o2
  have hor := or_i64 x y o1.1 o1.2 o2.1 o2.2
  rw [tyAt, hx, hy] at ht
  rw [ht] at hor
  clear ht
  clear hx hy hv
  have hlen : (13 : Int) < xs.length := by omega
  generalize xs.length = n at *
  clear ho
  go_enter Try.func45, Try.ntmps45
  go_upto_region 1 with fail
  go_quiet (fail)
  go_wp2
  go_ret2
  exact ⟨rfl, below_drewN _ _ _⟩
theorem kind_2 (xs : List Int) (ho : Oct xs) (h14 : 14 ≤ xs.length) (ht : tyAt xs = 2048) (v : Value) (w : World) (hv : Seg w v xs) : Calls Try.prog 45 #[v] w fun e w' => e = .returned (.tuple #[.int .i64 2, .bool true]) ∧ Below w.heap.size w w' := by
  obtain ⟨a, c, rfl, -⟩ := id hv
  obtain ⟨b, o, rfl, -, hc, hx⟩ := hv.some (by omega)
  have c12 := hx 12 (by omega)
  have c13 := hx 13 (by omega)
  have o1 := ho.getD 12
  have o2 := ho.getD 13
  clear hx
  obtain ⟨x, hx⟩ : ∃ x, xs.getD 12 0 = x := ⟨_, rfl⟩
  obtain ⟨y, hy⟩ : ∃ y, xs.getD 13 0 = y := ⟨_, rfl⟩
  rw [hx] at c12 o1
  rw [hy] at c13 o2
  have hor := or_i64 x y o1.1 o1.2 o2.1 o2.2
  rw [tyAt, hx, hy] at ht
  rw [ht] at hor
  clear ht
  clear hx hy hv
  have hlen : (13 : Int) < xs.length := by omega
  generalize xs.length = n at *
  clear ho
  go_enter Try.func45, Try.ntmps45
  go_upto_region 1 with fail
  go_quiet (fail)
  go_wp2
  go_ret2
  exact ⟨rfl, below_drewN _ _ _⟩
theorem kind_n (xs : List Int) (ho : Oct xs) (h14 : 14 ≤ xs.length) (t1 : tyAt xs ≠ 34997) (t2 : tyAt xs ≠ 2054) (t3 : tyAt xs ≠ 2048) (v : Value) (w : World) (hv : Seg w v xs) : Calls Try.prog 45 #[v] w fun e w' => e = .returned (.tuple #[.int .i64 0, .bool false]) ∧ Below w.heap.size w w' := by
  obtain ⟨a, c, rfl, -⟩ := id hv
  obtain ⟨b, o, rfl, -, hc, hx⟩ := hv.some (by omega)
  have c12 := hx 12 (by omega)
  have c13 := hx 13 (by omega)
  have o1 := ho.getD 12
  have o2 := ho.getD 13
  clear hx
  obtain ⟨x, hx⟩ : ∃ x, xs.getD 12 0 = x := ⟨_, rfl⟩
  obtain ⟨y, hy⟩ : ∃ y, xs.getD 13 0 = y := ⟨_, rfl⟩
  rw [hx] at c12 o1
  rw [hy] at c13 o2
  have hor := or_i64 x y o1.1 o1.2 o2.1 o2.2
  rw [tyAt, hx, hy] at t1 t2 t3
  have q1 : (x * 256 + y == 34997) = false := by simpa using t1
  have q2 : (x * 256 + y == 2054) = false := by simpa using t2
  have q3 : (x * 256 + y == 2048) = false := by simpa using t3
  clear t1 t2 t3
  clear hx hy hv
  have hlen : (13 : Int) < xs.length := by omega
  generalize xs.length = n at *
  clear ho
  go_enter Try.func45, Try.ntmps45
  go_upto_region 1 with fail
  go_quiet (fail)
  go_wp2
  go_ret2
  exact ⟨rfl, below_drewN _ _ _⟩
theorem kind_is (xs : List Int) (ho : Oct xs) (h14 : 14 ≤ xs.length) (v : Value) (w : World) (hv : Seg w v xs) : Calls Try.prog 45 #[v] w fun e w' => e = .returned (.tuple #[.int .i64 (kdOf (tyAt xs)), .bool (knOf (tyAt xs))]) ∧ Below w.heap.size w w' := by
  by_cases h1 : tyAt xs = 34997
  · rw [h1]; exact kind_0 xs ho h14 h1 v w hv
  by_cases h2 : tyAt xs = 2054
  · rw [h2]; exact kind_1 xs ho h14 h2 v w hv
  by_cases h3 : tyAt xs = 2048
  · rw [h3]; exact kind_2 xs ho h14 h3 v w hv
  rw [show kdOf (tyAt xs) = 0 by simp [kdOf, h1, h2, h3], show knOf (tyAt xs) = false by simp [knOf, h1, h2, h3]]
  exact kind_n xs ho h14 h1 h2 h3 v w hv
/-- How long a frame of a kind is. -/
def szOf (k : Int) (xs : List Int) : Int := if k = 0 then 22 else if k = 1 then 50 else if 23 < xs.length ∧ pt (xs.getD 23 0) = true then 50 else 42
theorem size_0 (a : Option Addr) (n c : Nat) (w : World) : Calls Try.prog 46 #[.int .i64 0, .slice a n c] w fun e w' => e = .returned (.int .i64 22) ∧ w' = w := by
  go_enter Try.func46, Try.ntmps46
  go_wp2
  go_ret
  exact ⟨rfl, rfl⟩
theorem size_1 (a : Option Addr) (n c : Nat) (w : World) : Calls Try.prog 46 #[.int .i64 1, .slice a n c] w fun e w' => e = .returned (.int .i64 50) ∧ w' = w := by
  go_enter Try.func46, Try.ntmps46
  go_wp2
  go_ret
  exact ⟨rfl, rfl⟩
theorem size_2s (a : Option Addr) (n c : Nat) (w : World) (h : n ≤ 23) : Calls Try.prog 46 #[.int .i64 2, .slice a n c] w fun e w' => e = .returned (.int .i64 42) ∧ w' = w := by
  have q : decide ((23 : Int) < n) = false := by simp; omega
  go_enter Try.func46, Try.ntmps46
  go_wp2
  go_ret
  exact ⟨rfl, rfl⟩
theorem size_2y (b o n c : Nat) (x : Int) (w : World) (h : 23 < n) (hx : w.cell? ⟨b, o + 23, none⟩ = some (.int .u8 x)) (h0 : 0 ≤ x ∧ x < 256) (hp : pt x = true) : Calls Try.prog 46 #[.int .i64 2, .slice (some ⟨b, o, none⟩) n c] w fun e w' => e = .returned (.int .i64 50) ∧ w' = w := by
  have q : decide ((23 : Int) < n) = true := by simp; omega
  have q' : (23 : Int) < n := by omega
  have HP := fun w => ported_is x w
  rw [hp] at HP
  go_enter Try.func46, Try.ntmps46
  go_wp2_with (go_at_call 21; refine (HP _).mono ?_; rintro e w' ⟨rfl, hw⟩; obtain rfl := hw.symm)
  go_ret
  exact ⟨rfl, rfl⟩
theorem size_2n (b o n c : Nat) (x : Int) (w : World) (h : 23 < n) (hx : w.cell? ⟨b, o + 23, none⟩ = some (.int .u8 x)) (h0 : 0 ≤ x ∧ x < 256) (hp : pt x = false) : Calls Try.prog 46 #[.int .i64 2, .slice (some ⟨b, o, none⟩) n c] w fun e w' => e = .returned (.int .i64 42) ∧ w' = w := by
  have q : decide ((23 : Int) < n) = true := by simp; omega
  have q' : (23 : Int) < n := by omega
  have HP := fun w => ported_is x w
  rw [hp] at HP
  go_enter Try.func46, Try.ntmps46
  go_wp2_with (go_at_call 21; refine (HP _).mono ?_; rintro e w' ⟨rfl, hw⟩; obtain rfl := hw.symm)
  go_ret
  exact ⟨rfl, rfl⟩
theorem size_of (k : Int) (hk : k = 0 ∨ k = 1 ∨ k = 2) (xs : List Int) (ho : Oct xs) (v : Value) (w : World) (hv : Seg w v xs) : Calls Try.prog 46 #[.int .i64 k, v] w fun e w' => e = .returned (.int .i64 (szOf k xs)) ∧ w' = w := by
  obtain ⟨a, c, rfl, -⟩ := id hv
  rcases hk with rfl | rfl | rfl
  · exact size_0 a _ c w
  · exact size_1 a _ c w
  · unfold szOf
    rw [if_neg (by decide), if_neg (by decide)]
    by_cases h : 23 < xs.length
    · obtain ⟨b, o, rfl, -, hc, hx⟩ := hv.some (by omega)
      cases hp : pt (xs.getD 23 0)
      · rw [if_neg (by simp)]
        exact size_2n b o _ c _ w h (hx 23 h) (ho.getD 23) hp
      · rw [if_pos ⟨h, rfl⟩]
        exact size_2y b o _ c _ w h (hx 23 h) (ho.getD 23) hp
    · rw [if_neg (fun q => h q.1)]
      exact size_2s a _ c w (by omega)
/-- The frame that octets are. -/
def decF (k : Int) (R : RS) : FL := if k = 0 then decD R else if k = 1 then decA R else if pt (prR R) = true then decY R else decN R
theorem sz22 : (Try.prog.info? 116).map (·.size) = some 22 := by kernel_rfl
theorem sz50 : (Try.prog.info? 118).map (·.size) = some 50 := by kernel_rfl
section
variable {ops : Array Oper} {rest : List Oper} {o : Oper} {a : Act} {w : World} {Q : Exit → Act → World → Prop}
theorem at_rng (hw : Region.wanted o (yielded ops a.tmps) = true) (ty : TypeId) (x : Operand) (ho : o.op = .load ty x) (b k : Nat) (hx : a.eval x = .pointer (some ⟨b, k, none⟩)) (vs : List Value) (hr : w.rangeAt b k vs) (d : TypeDesc)
    (hu : Try.prog.underlying ty = some d) (hd : d.isRow = true) (hi : (Try.prog.info? ty).map (·.size) = some vs.length)
    (h : wpList Try.prog ops Q rest (a.put o.dst (.agg vs.toArray)) w) : wpList Try.prog ops Q (o :: rest) a w :=
  wpList_wanted hw fun _ hK => wp_load_mid ty x ho b k hx vs d hr hu hd hi (hK _ _ h)
theorem at_arr (hgd : o.guard = none) (ty : TypeId) (x : Operand) (ho : o.op = .sliceToArrayPointer ty x) (p : Option Addr) (n c m : Nat) (e : TypeId) (hx : a.eval x = .slice p n c) (hu : Try.prog.underlying ty = some (.array m e)) (hn : ¬ n < m)
    (h : wpList Try.prog ops Q rest (a.put o.dst (.pointer p)) w) : wpList Try.prog ops Q (o :: rest) a w :=
  wpList_plain hgd fun _ hK => by
    unfold Oper.wp execOp
    simp only [ho, hx, Instr.arrayAt, run_underlying hu, Sem.run_bind, Result.andThen_ok, if_neg hn, Sem.run_pure]
    exact hK _ _ h
end
set_option maxHeartbeats 1000000 in
theorem dec_0 (xs : List Int) (ho : Oct xs) (hl : xs.length = 22) (v : Value) (w : World) (hv : Seg w v xs) : Calls Try.prog 47 #[.int .i64 0, v] w fun e w' => e = .returned (decD (R0 xs)).v ∧ Below w.heap.size w w' := by
  have hC := fun w => data_is xs ho hl w
  have hk : 22 < 1000 := by decide
  obtain ⟨a, c, rfl, -⟩ := id hv
  obtain ⟨b, o, rfl, -, hc, hx⟩ := hv.some (by omega)
  have hr : ∀ w', Below w.heap.size w w' → w'.rangeAt b o (xs.map (Value.int .u8)) := fun w' k j u hu => by
    rw [List.getElem?_map] at hu
    have hj : j < xs.length := by
      rcases Nat.lt_or_ge j xs.length with q | q
      · exact q
      · rw [List.getElem?_eq_none q] at hu; cases hu
    have h1 := hx j hj
    rw [(k.cell (p := ⟨b, o + j, none⟩) (block_lt_of_cell h1)), h1, ← hu]
    simp [List.getD_eq_getElem?_getD, hj]
  clear hx hv
  have HR := Lib.hid hr
  have HL := Lib.hid (show (xs.map (Value.int .u8)).length = 22 by rw [List.length_map, hl])
  generalize (decD (R0 xs)) = D at hC ⊢
  unfold FL.v at hC ⊢
  generalize xs.map (Value.int .u8) = vs at hC HR HL
  rw [hl]
  clear hr hl
  go_enter Try.func47, Try.ntmps47
  go_wp2_with (first
    | (refine at_new rfl 36 F0.cs rfl run_newFr ?_; rintro w1 H1 k1 s1; clear s1; go_simp)
    | (refine at_arr rfl 116 _ rfl _ 22 c 22 _ rfl Try.underlying116 (by decide) ?_)
    | (refine at_rng rfl 116 _ rfl b o rfl vs (HR.out w1 k1) _ Try.underlying116 rfl (by rw [HL.out]; exact sz22) ?_))
  go_at_call 67
  refine (hC w1).mono ?_
  rintro e w2 ⟨rfl, k2⟩
  have H2 := H1.below k2 H1.lt
  have b2 := k1.trans (k2.mono k1.size)
  clear k1 k2 H1 hC HR
  go_wp2_with (refine at_put rfl 36 _ _ rfl rfl w.heap.size rfl (FL.cs D) rfl H2 rfl szF (cs_one _) ?_; rintro w3 g3; have x3 := g3.blk; have b3 := g3.below b2 (Nat.le_refl _); clear g3 H2 b2)
  exact bodyPost_ret (results_cell_row (by rfl) _ _ w.heap.size _ _ _ _ rfl x3 Try.underlying36 rfl szF) rfl ⟨rfl, b3⟩
set_option maxHeartbeats 1000000 in
theorem dec_1 (xs : List Int) (ho : Oct xs) (hl : xs.length = 50) (v : Value) (w : World) (hv : Seg w v xs) : Calls Try.prog 47 #[.int .i64 1, v] w fun e w' => e = .returned (decA (R0 xs)).v ∧ Below w.heap.size w w' := by
  have hC := fun w => arp_is xs ho hl w
  have hk : 50 < 1000 := by decide
  obtain ⟨a, c, rfl, -⟩ := id hv
  obtain ⟨b, o, rfl, -, hc, hx⟩ := hv.some (by omega)
  have hr : ∀ w', Below w.heap.size w w' → w'.rangeAt b o (xs.map (Value.int .u8)) := fun w' k j u hu => by
    rw [List.getElem?_map] at hu
    have hj : j < xs.length := by
      rcases Nat.lt_or_ge j xs.length with q | q
      · exact q
      · rw [List.getElem?_eq_none q] at hu; cases hu
    have h1 := hx j hj
    rw [(k.cell (p := ⟨b, o + j, none⟩) (block_lt_of_cell h1)), h1, ← hu]
    simp [List.getD_eq_getElem?_getD, hj]
  clear hx hv
  have HR := Lib.hid hr
  have HL := Lib.hid (show (xs.map (Value.int .u8)).length = 50 by rw [List.length_map, hl])
  generalize (decA (R0 xs)) = D' at hC ⊢
  unfold FL.v at hC ⊢
  generalize xs.map (Value.int .u8) = vs at hC HR HL
  rw [hl]
  clear hr hl
  go_enter Try.func47, Try.ntmps47
  go_wp2_with (first
    | (refine at_new rfl 36 F0.cs rfl run_newFr ?_; rintro w1 H1 k1 s1; clear s1; go_simp)
    | (refine at_arr rfl 118 _ rfl _ 50 c 50 _ rfl Try.underlying118 (by decide) ?_)
    | (refine at_rng rfl 118 _ rfl b o rfl vs (HR.out w1 k1) _ Try.underlying118 rfl (by rw [HL.out]; exact sz50) ?_))
  go_at_call 68
  refine (hC w1).mono ?_
  rintro e w2 ⟨rfl, k2⟩
  have H2 := H1.below k2 H1.lt
  have b2 := k1.trans (k2.mono k1.size)
  clear k1 k2 H1 hC HR
  go_wp2_with (refine at_put rfl 36 _ _ rfl rfl w.heap.size rfl (FL.cs D') rfl H2 rfl szF (cs_one _) ?_; rintro w3 g3; have x3 := g3.blk; have b3 := g3.below b2 (Nat.le_refl _); clear g3 H2 b2)
  exact bodyPost_ret (results_cell_row (by rfl) _ _ w.heap.size _ _ _ _ rfl x3 Try.underlying36 rfl szF) rfl ⟨rfl, b3⟩
set_option maxHeartbeats 1000000 in
theorem dec_2 (xs : List Int) (ho : Oct xs) (hl : xs.length ≤ 1000) (v : Value) (w : World) (hv : Seg w v xs) : Calls Try.prog 47 #[.int .i64 2, v] w fun e w' => e = .returned (decF 2 (R0 xs)).v ∧ Below w.heap.size w w' := by
  have hC : ∀ w', Seg w' v xs → Calls Try.prog 69 #[v] w' fun e w'' => e = .returned (decF 2 (R0 xs)).v ∧ Below w'.heap.size w' w'' := fun w' h => by
    unfold decF
    rw [if_neg (by decide), if_neg (by decide)]
    cases hp : pt (prR (R0 xs))
    · rw [if_neg (by simp)]; exact ip_no xs ho hl v w' h hp
    · rw [if_pos rfl]; exact ip_yes xs ho hl v w' h hp
  have HV := Lib.hid hv
  obtain ⟨a, c, rfl, -⟩ := id hv
  clear hv
  generalize (decF 2 (R0 xs)) = D at hC ⊢
  unfold FL.v at hC ⊢
  go_enter Try.func47, Try.ntmps47
  go_wp2_with (refine at_new rfl 36 F0.cs rfl run_newFr ?_; rintro w1 H1 k1 s1; clear s1; go_simp)
  go_at_call 69
  refine (hC w1 (HV.out.below k1)).mono ?_
  rintro e w2 ⟨rfl, k2⟩
  have H2 := H1.below k2 H1.lt
  have b2 := k1.trans (k2.mono k1.size)
  clear k1 k2 H1 hC
  go_wp2_with (refine at_put rfl 36 _ _ rfl rfl w.heap.size rfl (FL.cs D) rfl H2 rfl szF (cs_one _) ?_; rintro w3 g3; have x3 := g3.blk; have b3 := g3.below b2 (Nat.le_refl _); clear g3 H2 b2)
  exact bodyPost_ret (results_cell_row (by rfl) _ _ w.heap.size _ _ _ _ rfl x3 Try.underlying36 rfl szF) rfl ⟨rfl, b3⟩
theorem decode_is (k : Int) (hk : k = 0 ∨ k = 1 ∨ k = 2) (xs : List Int) (ho : Oct xs) (hl : (xs.length : Int) = szOf k xs) (v : Value) (w : World) (hv : Seg w v xs) : Calls Try.prog 47 #[.int .i64 k, v] w fun e w' => e = .returned (decF k (R0 xs)).v ∧ Below w.heap.size w w' := by
  rcases hk with rfl | rfl | rfl
  · exact dec_0 xs ho (by unfold szOf at hl; rw [if_pos rfl] at hl; omega) v w hv
  · exact dec_1 xs ho (by unfold szOf at hl; rw [if_neg (by decide), if_pos rfl] at hl; omega) v w hv
  · exact dec_2 xs ho (by unfold szOf at hl; rw [if_neg (by decide), if_neg (by decide)] at hl; split at hl <;> omega) v w hv
end Go.Proofs.Ytgpjelcihmbiiaa
