/- WireBack: under way. No condition. -/
import Derived.Test.YtlkobpmbecljkabWBm
import Derived.Test.YtlkobpmbecljkabWNb
import Derived.Test.YtlkobpmbecljkabWGt
namespace Go.Proofs.Ytlkobpmbecljkab
open Go.RowKit Go.Maps Go.MapKept
set_option linter.unusedVariables false
set_option linter.unusedSimpArgs false
set_option maxRecDepth 100000

/-- A slice of acts: their kinds and numbers. -/
def Acs (w : World) (v : Value) (m : Nat) (K : Nat → Int) (N : Nat → Nat) : Prop := ∃ a c, v = .slice a m c ∧ ∀ i, i < m → (∃ b o, a = some ⟨b, o, none⟩ ∧ w.cell? ⟨b, o + i * 4, none⟩ = some (.int .i64 (K i)) ∧ w.cell? ⟨b, o + i * 4 + 2, none⟩ = some (.int .u64 (N i : Nat))) ∧ I64 (K i) ∧ N i < 18446744073709551616
theorem sizes_is (w : World) : Calls Try.prog 33 #[] w fun e w' => e = .returned (.slice (some ⟨w.heap.size, 0, none⟩) 6 6) ∧ w' = w.alloc (.cells #[.int .i64 1, .int .i64 2, .int .i64 3, .int .i64 4, .int .i64 6, .int .i64 8] 3) := by
  go_enter Try.func33, Try.ntmps33
  go_wp2
  go_ret
  exact ⟨rfl, rfl⟩
/-- What the two slices, the writer and the mark are when ns have been written. -/
def BkSt (w0 : World) (b mb : Nat) (D : DataW Unit) (ns : List (Nat × Nat)) (vk vn : Value) (wr : World) : Prop :=
  ∃ v, Bk w0 b mb D ns v wr ∧ Rw w0.heap.size wr 3 vk (ns.map fun p => Value.int .i64 (p.1 : Nat)) ∧ Rw w0.heap.size wr 30 vn (ns.map fun p => Value.int .u64 (p.2 : Nat))
theorem BkSt.below {w0 w w' : World} {b mb : Nat} {D : DataW Unit} {ns : List (Nat × Nat)} {vk vn : Value} (h : BkSt w0 b mb D ns vk vn w) (k : Below w.heap.size w w') : BkSt w0 b mb D ns vk vn w' := by
  obtain ⟨v, h1, h2, h3⟩ := h
  exact ⟨v, h1.below k, h2.below k, h3.below k⟩
theorem Bk.res (p : Nat × Nat) {ns : List (Nat × Nat)} {v : Value} {mb : Nat} (hn : ns.length ≤ 100) (h : p.2 < 256 ^ sz p.1) : WS.res ⟨65536, [0, 0] ++ flat ns, v, mb⟩ (sz p.1) p.2 = 0 := by
  have h1 := flat_length ns
  have h2 := (sz_le p.1).2
  unfold WS.res
  rw [if_neg (by omega), if_neg (by simp; omega)]
theorem Bk.res_no (k n : Nat) {W : WS} (h : ¬ n < 256 ^ sz k) : WS.res W (sz k) n = 2 := by
  unfold WS.res
  rw [if_pos (by omega)]
theorem sizes_cell (w : World) (k : Nat) (h : k < 6) : (w.alloc (.cells #[.int .i64 1, .int .i64 2, .int .i64 3, .int .i64 4, .int .i64 6, .int .i64 8] 3)).cell? ⟨w.heap.size, k, none⟩ = some (.int .i64 (sz k : Nat)) := by
  rw [World.cell?_alloc_at _ _ _ _ rfl]
  match k, h with
  | 0, _ => rfl
  | 1, _ => rfl
  | 2, _ => rfl
  | 3, _ => rfl
  | 4, _ => rfl
  | 5, _ => rfl
theorem shr_q (n k : Nat) (h1 : 1 ≤ k) (h8 : k ≤ 8) : ∃ q : Int, Op.shift .shr .u64 n .i64 (IntKind.i64.wrap (8 * (k : Int))) = pure (.int .u64 q) ∧ (q = 0 ↔ n < 256 ^ k) := by
  refine ⟨(n : Int) / 2 ^ (8 * k), ?_, ?_⟩
  · rw [show IntKind.i64.wrap (8 * (k : Int)) = 8 * (k : Int) from IntWalk.i64_in _ (by omega), shift_shr_any _ _ _ _ (by omega)]
    congr 3
    rw [show (8 * (k : Int)).toNat = 8 * k by omega, show min (8 * k) IntKind.u64.bits = 8 * k from Nat.min_eq_left (by show 8 * k ≤ 64; omega)]
  · constructor
    · intro h
      rcases Nat.lt_or_ge n (256 ^ k) with q | q
      · exact q
      · exact absurd h (shr_not n k q)
    · exact shr_zero n k
set_option maxHeartbeats 4000000 in
theorem back_walk (w : World) (v0 : Value) (m : Nat) (K : Nat → Int) (N : Nat → Nat) (h3 : Acs w v0 m K N) (hm : m ≤ 60) :
    Calls Try.prog 6 #[v0] w fun e w' => e = .returned (.bool true) ∧ Below w.heap.size w w' := by
  obtain ⟨a3, c3, rfl, h3⟩ := h3
  have q2 : ¬ (60 : Int) < m := by omega
  go_enter Try.func6, Try.ntmps6
  go_wp2_with fail
  go_at_call 9
  refine (lives_is w).mono ?_
  rintro e' w1 ⟨rfl, B1⟩
  go_wp2_with fail
  go_at_call 10
  refine (wr_New w1 65536 (by decide)).mono ?_
  rintro e w2 ⟨b, rfl, mb, W2, hbb, hmm, hm2, k2⟩
  have M2 : Mks w2 mb 0 (.map []) := ⟨#[], 0, hm2, ⟨by simp, stamped_empty 0, by simp⟩, Nat.le_refl _, rfl⟩
  have B2 := B1.trans (k2.mono B1.size)
  have hmw : w.heap.size ≤ mb := Nat.le_trans B1.size hmm
  have O2 : Own w.heap.size b (.slice none 0 0) := ⟨Nat.le_trans B1.size hbb, fun g hg => by simp [Value.ownBlock] at hg⟩
  clear hbb hmm hm2 k2 B1
  go_wp2_with fail
  go_at_call 11
  refine (wr_Mark w2 b _ 0 _ W2 M2 (by decide) (by show 0 + 2 ≤ 65536; decide)).mono ?_
  rintro e w3 ⟨rfl, v3, W3, M3, k3, o3⟩
  change Wtr w3 b ⟨65536, [0, 0], v3, mb⟩ at W3
  have B3 := k3.below B2 (fun i hi h => by
    rcases h with h | h | h
    · have := O2.1
      omega
    · have h' : i = mb := h
      omega
    · simp [Value.ownBlock] at h) B2.size
  have O3 := O2.next B2.size o3
  clear k3 o3 O2 B2 W2 M2
  go_wp2_with fail
  go_loopw [7, 8, 9] (fun vk vn vi wr => ∃ (i : Nat) (ns : List (Nat × Nat)), i ≤ m ∧ ns.length ≤ i ∧ (∀ p ∈ ns, p.1 < 6 ∧ p.2 < 256 ^ sz p.1) ∧ vi = .int .i64 i ∧ BkSt w b mb (DataW.put (.map []) (.int .i64 ((0 : Nat) : Int)) (.agg [])) ns vk vn wr)
    (fun _ _ vi _ => m - (intOf vi).toNat)
  case atStart => exact ⟨0, [], Nat.zero_le _, Nat.zero_le _, fun p hp => absurd hp (by simp), rfl, v3, ⟨W3, M3, O3, B3⟩, World.ownsRow_nil _ _ _ _, World.ownsRow_nil _ _ _ _⟩
  case round =>
    obtain ⟨i, ns, hi, hni, hns, rfl, hst⟩ := hrel
    by_cases hlt : i < m
    · obtain ⟨⟨g, o, rfl, ck, cn⟩, wk, wn⟩ := h3 i hlt
      have hil : (i : Int) < m := by omega
      have hB : Below w.heap.size w wr := by
        obtain ⟨v, h1, -, -⟩ := hst
        exact h1.2.2.2
      have ck' := (hB.cell (p := ⟨g, o + i * 4, none⟩) (block_lt_of_cell ck)).trans ck
      have cn' := (hB.cell (p := ⟨g, o + i * 4 + 2, none⟩) (block_lt_of_cell cn)).trans cn
      clear ck h3 W3 M3 B3 O3
      go_wp2_with fail
      go_at_call 30
      refine (pick_is (K i) 6 (by omega) (by omega) wk _).mono ?_
      rintro e' wx ⟨k, rfl, hk, hw⟩
      obtain rfl := hw.symm
      clear ck'
      by_cases hk5 : k = 5
      · subst hk5
        have hfit : N i < 256 ^ sz 5 := wn
        go_wp2_with fail
        refine wp_region_multi (fun _ w' => ∃ n, w' = wr.drewN n) (by kernel_rfl) (by kernel_rfl) ⟨1, rfl⟩ ?_
        refine multi_calm (G := fun n : Nat => wr.drewN n) (fun L w' _ hC => hC) (fun L w' _ hC => hC) (fun K hK => ?_)
        go_simp
        refine hK _ ?_
        clear hK K
        refine multi_calm (G := fun n : Nat => wr.drewN n) (fun L w' _ hC => hC) (fun L w' _ hC => hC) (fun K hK => ?_)
        go_simp
        refine hK _ ?_
        clear hK K
        refine multi_calm (G := fun n : Nat => wr.drewN n) (fun L w' _ hC => hC) (fun L w' _ hC => hC) (fun K hK => ?_)
        go_simp
        refine hK _ ?_
        clear hK K
        refine multi_calm (G := fun n : Nat => wr.drewN n) (fun L w' _ hC => hC) (fun L w' _ hC => hC) (fun K hK => ?_)
        go_simp
        refine hK _ ?_
        clear hK K
        refine multi_calm (G := fun n : Nat => wr.drewN n) (fun L w' _ hC => hC) (fun L w' _ hC => hC) (fun K hK => ?_)
        go_simp
        refine hK _ ?_
        clear hK K
        refine multi_calm (G := fun n : Nat => wr.drewN n) (fun L w' _ hC => hC) (fun L w' _ hC => hC) (fun K hK => ?_)
        go_simp
        refine hK _ ?_
        clear hK K
        refine multi_calm (G := fun n : Nat => wr.drewN n) (fun L w' _ hC => hC) (fun L w' _ hC => hC) (fun K hK => ?_)
        go_simp
        refine hK _ ?_
        clear hK K
        refine multi_calm (G := fun n : Nat => wr.drewN n) (fun L w' _ hC => hC) (fun L w' _ hC => hC) (fun K hK => ?_)
        go_simp
        refine hK _ ?_
        clear hK K
        refine multi_calm (G := fun n : Nat => wr.drewN n) (fun L w' _ hC => hC) (fun L w' _ hC => hC) (fun K hK => ?_)
        go_simp
        refine hK _ ?_
        clear hK K
        refine multi_calm (G := fun n : Nat => wr.drewN n) (fun L w' _ hC => hC) (fun L w' _ hC => hC) (fun K hK => ?_)
        go_simp
        refine hK _ ?_
        clear hK K
        refine multi_calm (G := fun n : Nat => wr.drewN n) (fun L w' _ hC => hC) (fun L w' _ hC => hC) (fun K hK => ?_)
        go_simp
        refine hK _ ?_
        clear hK K
        refine multi_calm (G := fun n : Nat => wr.drewN n) (fun L w' _ hC => hC) (fun L w' _ hC => hC) (fun K hK => ?_)
        go_simp
        refine hK _ ?_
        clear hK K
        refine multi_calm (G := fun n : Nat => wr.drewN n) (fun L w' _ hC => hC) (fun L w' _ hC => hC) (fun K hK => ?_)
        go_simp
        refine hK _ ?_
        clear hK K
        refine multi_calm (G := fun n : Nat => wr.drewN n) (fun L w' _ hC => hC) (fun L w' _ hC => hC) (fun K hK => ?_)
        go_simp
        refine hK _ ?_
        clear hK K
        refine multi_calm (G := fun n : Nat => wr.drewN n) (fun L w' _ hC => hC) (fun L w' _ hC => hC) (fun K hK => ?_)
        go_simp
        refine hK _ ?_
        clear hK K
        refine multi_calm (G := fun n : Nat => wr.drewN n) (fun L w' _ hC => hC) (fun L w' _ hC => hC) (fun K hK => ?_)
        go_simp
        refine hK _ ?_
        clear hK K
        refine multi_calm (G := fun n : Nat => wr.drewN n) (fun L w' _ hC => hC) (fun L w' _ hC => hC) (fun K hK => ?_)
        go_simp
        refine hK _ ?_
        clear hK K
        refine multi_nil ?_
        intro L w' hL hC
        have hE : Below wr.heap.size wr w' := by
          obtain ⟨n, rfl⟩ := hC
          exact below_drew (Below.refl wr.heap.size wr) n
        clear hL hC
        have hst2 := hst.below hE
        clear hE hst cn' hB
        obtain ⟨v, hbk, hrk, hrn⟩ := hst2
        have cn2 := (hbk.2.2.2.cell (p := ⟨g, o + i * 4 + 2, none⟩) (block_lt_of_cell cn)).trans cn
        go_wp2_with fail
        go_at_call 31
        refine (put_is _ b _ 5 (N i) hk hbk.1 wn).mono ?_
        rintro e' wp hP
        obtain ⟨rfl, v2, W2, kW, oV⟩ := hP.yes (Bk.res (5, N i) (by omega) hfit)
        have hbk2 := hbk.put (5, N i) W2 kW oV
        have hrk2 := hrk.butW hbk.1 (by decide) (by decide) kW
        have hrn2 := hrn.butW hbk.1 (by decide) (by decide) kW
        clear hP W2 kW oV hbk hrk hrn cn2
        have cn2 := (hbk2.2.2.2.cell (p := ⟨g, o + i * 4 + 2, none⟩) (block_lt_of_cell cn)).trans cn
        have qb := neq_bool
        try dsimp only
        repeat (first | go_skip | go_guarded | go_step | go_upon)
        clear qb
        refine wp_region_free (Cl w b mb (DataW.put (.map []) (.int .i64 ((0 : Nat) : Int)) (.agg [])) (ns ++ [(5, N i)]) v2 u7 u8 (ns.map fun p => Value.int .i64 (p.1 : Nat)) (ns.map fun p => Value.int .u64 (p.2 : Nat)) (.int .i64 ((5 : Nat) : Int)) (.int .u64 (N i : Nat))) (fun j => j == 2 || j == 3 || j == 10 || j == 11) (fun _ _ => True) (by kernel_rfl) (by kernel_rfl) (by kernel_rfl) (fun x y L w' ha h => h.loc ⟨rfl, rfl, rfl, rfl⟩ y ha) (fun _ => undef) (fun _ _ => trivial) (Cl.start _ hbk2 hrk2 hrn2) (fun x _ => ?_)
        obtain ⟨T, G, hT, hG, gN⟩ := family (fun w' => w'.cell? ⟨g, o + i * 4 + 2, none⟩ = some (.int .u64 (N i : Nat))) wp cn2
        refine free_calm (G := G) rfl (fun L w' _ hC => hG _ (Cl.cell hC cn)) (fun L w' _ hC => Cl.calm _ (by decide) hC) (fun K hK => ?_)
        go_simp
        refine hK _ ?_
        clear hK K
        refine free_calm (G := G) rfl (fun L w' _ hC => hG _ (Cl.cell hC cn)) (fun L w' _ hC => Cl.calm _ (by decide) hC) (fun K hK => ?_)
        go_simp
        refine hK _ ?_
        clear hK K
        refine free_write rfl (by first | rfl | go_simp) (fun L w' hr hC => ⟨_, _, (by first | rfl | go_simp), trivial, hC.lit2 (ready_undone hr)⟩) ?_
        refine free_write rfl (by first | rfl | go_simp) (fun L w' hr hC => ?_) ?_
        · obtain ⟨u, w'', hrun, hC'⟩ := hC.app3 55 rfl (by simp; omega) (ready_dep hr rfl (e := ⟨2, .data⟩) (by simp) rfl) (ready_undone hr)
          exact ⟨u, w'', append_op w' (.tmp 70) (.tmp 72) 55 55 rfl rfl _ _ rfl rfl _ _ hrun, trivial, hC'⟩
        try dsimp only
        refine free_calm (G := G) rfl (fun L w' _ hC => hG _ (Cl.cell hC cn)) (fun L w' _ hC => Cl.calm _ (by decide) hC) (fun K hK => ?_)
        go_simp
        refine hK _ ?_
        clear hK K
        refine free_calm (G := G) rfl (fun L w' _ hC => hG _ (Cl.cell hC cn)) (fun L w' _ hC => Cl.calm _ (by decide) hC) (fun K hK => ?_)
        go_simp
        refine hK _ ?_
        clear hK K
        refine free_calm (G := G) rfl (fun L w' _ hC => hG _ (Cl.cell hC cn)) (fun L w' _ hC => Cl.calm _ (by decide) hC) (fun K hK => ?_)
        go_simp
        refine hK _ ?_
        clear hK K
        refine free_calm (G := G) rfl (fun L w' _ hC => hG _ (Cl.cell hC cn)) (fun L w' _ hC => Cl.calm _ (by decide) hC) (fun K hK => ?_)
        go_simp
        refine hK _ ?_
        clear hK K
        refine free_calm (G := G) rfl (fun L w' _ hC => hG _ (Cl.cell hC cn)) (fun L w' _ hC => Cl.calm _ (by decide) hC) (fun K hK => ?_)
        go_simp
        refine hK _ ?_
        clear hK K
        refine free_calm (G := G) rfl (fun L w' _ hC => hG _ (Cl.cell hC cn)) (fun L w' _ hC => Cl.calm _ (by decide) hC) (fun K hK => ?_)
        go_simp
        refine hK _ ?_
        clear hK K
        refine free_write rfl (by first | rfl | go_simp) (fun L w' hr hC => ⟨_, _, (by first | rfl | go_simp), trivial, hC.lit10 (ready_undone hr)⟩) ?_
        refine free_write rfl (by first | rfl | go_simp) (fun L w' hr hC => ?_) ?_
        · obtain ⟨u, w'', hrun, hC'⟩ := hC.app11 73 rfl (by simp; omega) (ready_dep hr rfl (e := ⟨10, .data⟩) (by simp) rfl) (ready_undone hr)
          exact ⟨u, w'', append_op w' (.tmp 74) (.tmp 80) 73 73 rfl rfl _ _ rfl rfl _ _ hrun, trivial, hC'⟩
        try dsimp only
        refine free_calm (G := G) rfl (fun L w' _ hC => hG _ (Cl.cell hC cn)) (fun L w' _ hC => Cl.calm _ (by decide) hC) (fun K hK => ?_)
        go_simp
        refine hK _ ?_
        clear hK K
        refine free_calm (G := G) rfl (fun L w' _ hC => hG _ (Cl.cell hC cn)) (fun L w' _ hC => Cl.calm _ (by decide) hC) (fun K hK => ?_)
        go_simp
        refine hK _ ?_
        clear hK K
        refine free_nil ?_
        intro L w' hL hC
        obtain ⟨hbk3, hrk3, hrn3⟩ := hC.done (hL 3 (by decide)) (hL 11 (by decide))
        clear hC hL hG gN hT G T hbk2 hrk2 hrn2
        have hns2 : ∀ p ∈ ns ++ [(5, N i)], p.1 < 6 ∧ p.2 < 256 ^ sz p.1 := fun p hp => by
          rcases List.mem_append.1 hp with hp | hp
          · exact hns p hp
          · obtain rfl : p = (5, N i) := by simpa using hp
            exact ⟨hk, hfit⟩
        try dsimp only
        repeat (first | go_skip | go_guarded | go_step | go_upon)
        exact ⟨⟨i + 1, ns ++ [(5, N i)], hlt, by simp; omega, hns2, rfl, v2, hbk3, by rw [List.map_append]; exact hrk3, by rw [List.map_append]; exact hrn3⟩, by simp [intOf]; omega⟩
      · have hk' : ((k : Int) == 5) = false := by simp; omega
        go_wp2_with fail
        have hsz := sz_le k
        let A0 : World → Prop := fun w' => ∃ n, w' = wr.drewN n
        let A1 : World → Prop := fun w' => ∃ n, w' = (wr.alloc (.cells #[.int .i64 1, .int .i64 2, .int .i64 3, .int .i64 4, .int .i64 6, .int .i64 8] 3)).drewN n
        let C : Array Bool → World → Prop := fun L w' => (L.getD 10 false = true → L.getD 8 false = true) ∧ if L.getD 8 false = true then A1 w' else A0 w'
        refine wp_region_multi C (by kernel_rfl) (by kernel_rfl) ⟨fun h => by simp at h, by simp; exact ⟨1, rfl⟩⟩ ?_
        have hkC : ∀ j, j ≠ 8 → j ≠ 10 → ∀ L w', C L w' → C (L.setIfInBounds j true) w' := fun j h8 h10 L w' h => by
          show _ ∧ _
          rw [getD_set_ne false h8, getD_set_ne false h10]
          exact h
        have hF : ∀ L w', C L w' → w'.cell? ⟨g, o + i * 4 + 2, none⟩ = some (.int .u64 (N i : Nat)) := fun L w' h => by
          have h2 := h.2
          split at h2
          · obtain ⟨n, rfl⟩ := h2
            exact (((Below.refl wr.heap.size wr).alloc (Nat.le_refl _) _).cell (p := ⟨g, o + i * 4 + 2, none⟩) (block_lt_of_cell cn')).trans cn'
          · obtain ⟨n, rfl⟩ := h2
            exact cn'
        obtain ⟨T, G, hT, hG, gN⟩ := family (fun w' => w'.cell? ⟨g, o + i * 4 + 2, none⟩ = some (.int .u64 (N i : Nat))) wr cn'
        obtain ⟨T1, G1, hT1, hG1, gS⟩ := family (fun w' => w'.cell? ⟨wr.heap.size, k, none⟩ = some (.int .i64 (sz k : Nat))) _ (sizes_cell wr k hk)
        refine multi_calm (G := G) (fun L w' _ hC => hG _ (hF L w' hC)) (fun L w' _ hC => hkC _ (by decide) (by decide) L w' hC) (fun K hK => ?_)
        go_simp
        refine hK _ ?_
        clear hK K
        refine multi_calm (G := G) (fun L w' _ hC => hG _ (hF L w' hC)) (fun L w' _ hC => hkC _ (by decide) (by decide) L w' hC) (fun K hK => ?_)
        go_simp
        refine hK _ ?_
        clear hK K
        refine multi_calm (G := G) (fun L w' _ hC => hG _ (hF L w' hC)) (fun L w' _ hC => hkC _ (by decide) (by decide) L w' hC) (fun K hK => ?_)
        go_simp
        refine hK _ ?_
        clear hK K
        refine multi_calm (G := G) (fun L w' _ hC => hG _ (hF L w' hC)) (fun L w' _ hC => hkC _ (by decide) (by decide) L w' hC) (fun K hK => ?_)
        go_simp
        refine hK _ ?_
        clear hK K
        refine multi_calm (G := G) (fun L w' _ hC => hG _ (hF L w' hC)) (fun L w' _ hC => hkC _ (by decide) (by decide) L w' hC) (fun K hK => ?_)
        go_simp
        refine hK _ ?_
        clear hK K
        refine multi_calm (G := G) (fun L w' _ hC => hG _ (hF L w' hC)) (fun L w' _ hC => hkC _ (by decide) (by decide) L w' hC) (fun K hK => ?_)
        go_simp
        refine hK _ ?_
        clear hK K
        refine multi_calm (G := G) (fun L w' _ hC => hG _ (hF L w' hC)) (fun L w' _ hC => hkC _ (by decide) (by decide) L w' hC) (fun K hK => ?_)
        go_simp
        refine hK _ ?_
        clear hK K
        refine multi_calm (G := G) (fun L w' _ hC => hG _ (hF L w' hC)) (fun L w' _ hC => hkC _ (by decide) (by decide) L w' hC) (fun K hK => ?_)
        go_simp
        refine hK _ ?_
        clear hK K
        refine multi_call 33 #[] (.slice (some ⟨wr.heap.size, 0, none⟩) 6 6) (by first | rfl | go_simp) (fun w' => by first | rfl | go_simp) (fun L w' hr hC => ?_) ?_
        · obtain ⟨h8, hs⟩ := ready_not hr
          have h2 := hC.2
          rw [if_neg (by simp [h8])] at h2
          obtain ⟨n, rfl⟩ := h2
          refine (sizes_is _).mono ?_
          rintro e' w'' ⟨rfl, rfl⟩
          refine ⟨rfl, fun _ => set_yes hs, ?_⟩
          rw [if_pos (set_yes hs)]
          exact ⟨n, rfl⟩
        try dsimp only
        refine multi_calm (G := G) (fun L w' _ hC => hG _ (hF L w' hC)) (fun L w' _ hC => hkC _ (by decide) (by decide) L w' hC) (fun K hK => ?_)
        go_simp
        refine hK _ ?_
        clear hK K
        have hk6 : (k : Int) < 6 := by omega
        refine multi_calm (G := G) (fun L w' _ hC => hG _ (hF L w' hC)) (fun L w' hr hC => ⟨fun _ => by rw [getD_set_ne false (by decide)]; exact ready_dep hr rfl (e := ⟨8, .data⟩) (by simp) rfl, by rw [getD_set_ne false (by decide)]; exact hC.2⟩) (fun K hK => ?_)
        go_simp
        refine hK _ ?_
        clear hK K
        refine multi_calm (G := G1) (fun L w' hr hC => hG1 _ (by
          have h2 := hC.2
          rw [if_pos (hC.1 (ready_dep hr rfl (e := ⟨10, .data⟩) (by simp) rfl))] at h2
          obtain ⟨n, rfl⟩ := h2
          exact sizes_cell wr k hk)) (fun L w' _ hC => hkC _ (by decide) (by decide) L w' hC) (fun K hK => ?_)
        go_simp
        refine hK _ ?_
        clear hK K
        obtain ⟨q, hsh, hq⟩ := shr_q (N i) (sz k) hsz.1 hsz.2
        refine multi_calm (G := G) (fun L w' _ hC => hG _ (hF L w' hC)) (fun L w' _ hC => hkC _ (by decide) (by decide) L w' hC) (fun K hK => ?_)
        go_simp
        refine hK _ ?_
        clear hK K
        refine multi_calm (G := G) (fun L w' _ hC => hG _ (hF L w' hC)) (fun L w' _ hC => hkC _ (by decide) (by decide) L w' hC) (fun K hK => ?_)
        go_simp
        refine hK _ ?_
        clear hK K
        refine multi_calm (G := G) (fun L w' _ hC => hG _ (hF L w' hC)) (fun L w' _ hC => hkC _ (by decide) (by decide) L w' hC) (fun K hK => ?_)
        go_simp
        refine hK _ ?_
        clear hK K
        refine multi_calm (G := G) (fun L w' _ hC => hG _ (hF L w' hC)) (fun L w' _ hC => hkC _ (by decide) (by decide) L w' hC) (fun K hK => ?_)
        go_simp
        refine hK _ ?_
        clear hK K
        refine multi_calm (G := G) (fun L w' _ hC => hG _ (hF L w' hC)) (fun L w' _ hC => hkC _ (by decide) (by decide) L w' hC) (fun K hK => ?_)
        go_simp
        refine hK _ ?_
        clear hK K
        refine multi_nil ?_
        intro L w' hL hC
        have hE : Below wr.heap.size wr w' := by
          have h2 := hC.2
          split at h2
          · obtain ⟨n, rfl⟩ := h2
            exact below_drew ((Below.refl wr.heap.size wr).alloc (Nat.le_refl _) _) n
          · obtain ⟨n, rfl⟩ := h2
            exact below_drew (Below.refl wr.heap.size wr) n
        clear hkC hF hG gN hG1 gS hL hC
        clear hT hT1 G G1 T T1 C A0 A1
        by_cases hfit : N i < 256 ^ sz k
        · have hq0 : q = 0 := hq.2 hfit
          subst hq0
          have hst2 := hst.below hE
          clear hE hst cn' hB
          obtain ⟨v, hbk, hrk, hrn⟩ := hst2
          have cn2 := (hbk.2.2.2.cell (p := ⟨g, o + i * 4 + 2, none⟩) (block_lt_of_cell cn)).trans cn
          go_wp2_with fail
          go_at_call 31
          refine (put_is _ b _ k (N i) hk hbk.1 wn).mono ?_
          rintro e' wp hP
          obtain ⟨rfl, v2, W2, kW, oV⟩ := hP.yes (Bk.res (k, N i) (by omega) hfit)
          have hbk2 := hbk.put (k, N i) W2 kW oV
          have hrk2 := hrk.butW hbk.1 (by decide) (by decide) kW
          have hrn2 := hrn.butW hbk.1 (by decide) (by decide) kW
          clear hP W2 kW oV hbk hrk hrn cn2
          have cn2 := (hbk2.2.2.2.cell (p := ⟨g, o + i * 4 + 2, none⟩) (block_lt_of_cell cn)).trans cn
          have qb := neq_bool
          try dsimp only
          repeat (first | go_skip | go_guarded | go_step | go_upon)
          clear qb hsh hq
          refine wp_region_free (Cl w b mb (DataW.put (.map []) (.int .i64 ((0 : Nat) : Int)) (.agg [])) (ns ++ [(k, N i)]) v2 u7 u8 (ns.map fun p => Value.int .i64 (p.1 : Nat)) (ns.map fun p => Value.int .u64 (p.2 : Nat)) (.int .i64 (k : Int)) (.int .u64 (N i : Nat))) (fun j => j == 2 || j == 3 || j == 10 || j == 11) (fun _ _ => True) (by kernel_rfl) (by kernel_rfl) (by kernel_rfl) (fun x y L w' ha h => h.loc ⟨rfl, rfl, rfl, rfl⟩ y ha) (fun _ => undef) (fun _ _ => trivial) (Cl.start _ hbk2 hrk2 hrn2) (fun x _ => ?_)
          obtain ⟨T, G, hT, hG, gN⟩ := family (fun w' => w'.cell? ⟨g, o + i * 4 + 2, none⟩ = some (.int .u64 (N i : Nat))) wp cn2
          refine free_calm (G := G) rfl (fun L w' _ hC => hG _ (Cl.cell hC cn)) (fun L w' _ hC => Cl.calm _ (by decide) hC) (fun K hK => ?_)
          go_simp
          refine hK _ ?_
          clear hK K
          refine free_calm (G := G) rfl (fun L w' _ hC => hG _ (Cl.cell hC cn)) (fun L w' _ hC => Cl.calm _ (by decide) hC) (fun K hK => ?_)
          go_simp
          refine hK _ ?_
          clear hK K
          refine free_write rfl (by first | rfl | go_simp) (fun L w' hr hC => ⟨_, _, (by first | rfl | go_simp), trivial, hC.lit2 (ready_undone hr)⟩) ?_
          refine free_write rfl (by first | rfl | go_simp) (fun L w' hr hC => ?_) ?_
          · obtain ⟨u, w'', hrun, hC'⟩ := hC.app3 55 rfl (by simp; omega) (ready_dep hr rfl (e := ⟨2, .data⟩) (by simp) rfl) (ready_undone hr)
            exact ⟨u, w'', append_op w' (.tmp 70) (.tmp 72) 55 55 rfl rfl _ _ rfl rfl _ _ hrun, trivial, hC'⟩
          try dsimp only
          refine free_calm (G := G) rfl (fun L w' _ hC => hG _ (Cl.cell hC cn)) (fun L w' _ hC => Cl.calm _ (by decide) hC) (fun K hK => ?_)
          go_simp
          refine hK _ ?_
          clear hK K
          refine free_calm (G := G) rfl (fun L w' _ hC => hG _ (Cl.cell hC cn)) (fun L w' _ hC => Cl.calm _ (by decide) hC) (fun K hK => ?_)
          go_simp
          refine hK _ ?_
          clear hK K
          refine free_calm (G := G) rfl (fun L w' _ hC => hG _ (Cl.cell hC cn)) (fun L w' _ hC => Cl.calm _ (by decide) hC) (fun K hK => ?_)
          go_simp
          refine hK _ ?_
          clear hK K
          refine free_calm (G := G) rfl (fun L w' _ hC => hG _ (Cl.cell hC cn)) (fun L w' _ hC => Cl.calm _ (by decide) hC) (fun K hK => ?_)
          go_simp
          refine hK _ ?_
          clear hK K
          refine free_calm (G := G) rfl (fun L w' _ hC => hG _ (Cl.cell hC cn)) (fun L w' _ hC => Cl.calm _ (by decide) hC) (fun K hK => ?_)
          go_simp
          refine hK _ ?_
          clear hK K
          refine free_calm (G := G) rfl (fun L w' _ hC => hG _ (Cl.cell hC cn)) (fun L w' _ hC => Cl.calm _ (by decide) hC) (fun K hK => ?_)
          go_simp
          refine hK _ ?_
          clear hK K
          refine free_write rfl (by first | rfl | go_simp) (fun L w' hr hC => ⟨_, _, (by first | rfl | go_simp), trivial, hC.lit10 (ready_undone hr)⟩) ?_
          refine free_write rfl (by first | rfl | go_simp) (fun L w' hr hC => ?_) ?_
          · obtain ⟨u, w'', hrun, hC'⟩ := hC.app11 73 rfl (by simp; omega) (ready_dep hr rfl (e := ⟨10, .data⟩) (by simp) rfl) (ready_undone hr)
            exact ⟨u, w'', append_op w' (.tmp 74) (.tmp 80) 73 73 rfl rfl _ _ rfl rfl _ _ hrun, trivial, hC'⟩
          try dsimp only
          refine free_calm (G := G) rfl (fun L w' _ hC => hG _ (Cl.cell hC cn)) (fun L w' _ hC => Cl.calm _ (by decide) hC) (fun K hK => ?_)
          go_simp
          refine hK _ ?_
          clear hK K
          refine free_calm (G := G) rfl (fun L w' _ hC => hG _ (Cl.cell hC cn)) (fun L w' _ hC => Cl.calm _ (by decide) hC) (fun K hK => ?_)
          go_simp
          refine hK _ ?_
          clear hK K
          refine free_nil ?_
          intro L w' hL hC
          obtain ⟨hbk3, hrk3, hrn3⟩ := hC.done (hL 3 (by decide)) (hL 11 (by decide))
          clear hC hL hG gN hT G T hbk2 hrk2 hrn2
          have hns2 : ∀ p ∈ ns ++ [(k, N i)], p.1 < 6 ∧ p.2 < 256 ^ sz p.1 := fun p hp => by
            rcases List.mem_append.1 hp with hp | hp
            · exact hns p hp
            · obtain rfl : p = (k, N i) := by simpa using hp
              exact ⟨hk, hfit⟩
          try dsimp only
          repeat (first | go_skip | go_guarded | go_step | go_upon)
          exact ⟨⟨i + 1, ns ++ [(k, N i)], hlt, by simp; omega, hns2, rfl, v2, hbk3, by rw [List.map_append]; exact hrk3, by rw [List.map_append]; exact hrn3⟩, by simp [intOf]; omega⟩
        · have hq0 : (q == 0) = false := by
            have := fun e => hfit (hq.1 e)
            simpa using this
          have hst2 := hst.below hE
          clear hE hst cn' hB
          obtain ⟨v, hbk, hrk, hrn⟩ := hst2
          have cn2 := (hbk.2.2.2.cell (p := ⟨g, o + i * 4 + 2, none⟩) (block_lt_of_cell cn)).trans cn
          go_wp2_with fail
          go_at_call 31
          refine (put_is _ b _ k (N i) hk hbk.1 wn).mono ?_
          rintro e' wp hP
          obtain ⟨rfl, hw⟩ := hP.no (by rw [Bk.res_no k (N i) hfit]; decide)
          obtain rfl := hw.symm
          rw [Bk.res_no k (N i) hfit]
          clear hP
          go_wp2_with fail
          exact ⟨⟨i + 1, ns, hlt, by omega, hns, rfl, v, hbk, hrk, hrn⟩, by simp [intOf]; omega⟩
    · obtain rfl : i = m := by omega
      obtain ⟨v, hbk, hrk, hrn⟩ := hst
      clear h3 W3 M3 B3 O3
      have hfl := flat_length ns
      obtain ⟨a7, c7, e7⟩ := hrk.form
      obtain ⟨a8, c8, e8⟩ := hrn.form
      rw [List.length_map] at e7 e8
      subst e7 e8
      go_wp2_with fail
      go_at_call 13
      refine (wr_Patch wr b _ _ _ 0 hbk.1 hbk.2.1 rfl (by simp) (by simp; omega)).mono ?_
      rintro e' w4 ⟨rfl, W4, M4, k4⟩
      have K4 := hrk.butP hbk.1 hbk.2.1 (by decide) (by decide) k4
      have N4 := hrn.butP hbk.1 hbk.2.1 (by decide) (by decide) k4
      have B4 : Below w.heap.size w w4 := k4.below hbk.2.2.2 (hbk.2.2.1.mine (W := ⟨65536, [0, 0] ++ flat ns, v, mb⟩) hmw) hbk.2.2.2.size
      rw [patched_zero] at W4
      change Wtr w4 b ⟨65536, enc 2 (flat ns).length ++ flat ns, v, mb⟩ at W4
      have hbw := hbk.2.2.1.1
      clear hbk hrk hrn M4 k4
      try dsimp only
      repeat (first | go_skip | go_guarded | go_step | go_upon)
      go_at_call 24
      refine (wr_Out w4 b _ W4).mono ?_
      rintro e' w5 ⟨u, rfl, D5, k5⟩
      have W5 := W4.below k5
      have K5 := K4.below k5
      have N5 := N4.below k5
      have B5 := B4.trans (k5.mono B4.size)
      clear W4 K4 N4 B4 k5
      try dsimp only
      repeat (first | go_skip | go_guarded | go_step | go_upon)
      go_at_call 14
      have hxl : (enc 2 (flat ns).length ++ flat ns).length = 2 + (flat ns).length := by rw [List.length_append, enc_length]
      refine (rd_New w5 u _ D5.seg W5.2.2.1 (by show (enc 2 (flat ns).length ++ flat ns).length ≤ _; omega)).mono ?_
      rintro e' w6 ⟨c, rfl, hc0, R6, k6⟩
      change Rdr w6 c ⟨0, 0, enc 2 (flat ns).length ++ flat ns, 0, 0⟩ at R6
      have hcb : c ≠ b := by
        have := W5.1.lt
        omega
      have hcw : w.heap.size ≤ c := Nat.le_trans B5.size hc0
      have W6 := W5.below k6
      have K6 := K5.below k6
      have N6 := N5.below k6
      have B6 := B5.trans (k6.mono B5.size)
      clear W5 K5 N5 B5 k6 D5 hc0
      try dsimp only
      repeat (first | go_skip | go_guarded | go_step | go_upon)
      go_at_call 18
      refine (rd_U16 w6 c _ R6).mono ?_
      rintro e' w7 ⟨rfl, R7, k7⟩
      obtain ⟨cs, hcs⟩ := R6.blk
      have W7 := W6.but R6 k7 hcb
      have K7 := K6.but hcs (by decide) k7
      have N7 := N6.but hcs (by decide) k7
      have B7 := But.below B6 k7 hcw B6.size
      rw [show (2 : Int) = ((2 : Nat) : Int) from rfl, st_next 0 2 _ (by omega)] at R7
      rw [show (2 : Int) = ((2 : Nat) : Int) from rfl, st_part 0 2 _ (by omega), List.drop_zero, List.take_append_of_le_length (by rw [enc_length]; exact Nat.le_refl _), List.take_of_length_le (by rw [enc_length]; exact Nat.le_refl _), be_enc 2 _ (by omega)]
      clear W6 K6 N6 B6 R6 k7 hcs
      try dsimp only
      repeat (first | go_skip | go_guarded | go_step | go_upon)
      go_at_call 27
      refine (rd_Left w7 c _ R7).mono ?_
      rintro e' w8 ⟨rfl, k8⟩
      rw [show (((⟨0, 0 + 2, enc 2 (flat ns).length ++ flat ns, 0, 0⟩ : RS).xs.length : Nat) : Int) - (((⟨0, 0 + 2, enc 2 (flat ns).length ++ flat ns, 0, 0⟩ : RS).n : Nat) : Int) = ((flat ns).length : Int) from by show (((enc 2 (flat ns).length ++ flat ns).length : Nat) : Int) - ((0 + 2 : Nat) : Int) = _; omega]
      have H8 : Rb w b c mb v ns (.slice a7 ns.length c7) (.slice a8 ns.length c8) 0 w8 := Rb.below (wr := w7) ⟨R7, W7, K7, N7, B7⟩ k8
      clear R7 W7 K7 N7 B7 k8
      try dsimp only
      repeat (first | go_skip | go_guarded | go_step | go_upon)
      go_wp2_with fail
      go_loopw [13] (fun vj wr => ∃ j : Nat, j ≤ ns.length ∧ vj = .int .i64 j ∧ Rb w b c mb v ns (.slice a7 ns.length c7) (.slice a8 ns.length c8) j wr) (fun vj _ => ns.length - (intOf vj).toNat)
      case atStart => exact ⟨0, Nat.zero_le _, rfl, H8⟩
      case round =>
        obtain ⟨j, hj, rfl, H⟩ := hrel
        clear H8
        by_cases hjn : j < ns.length
        · obtain ⟨p, hp⟩ : ∃ p, ns[j]? = some p := ⟨ns[j], by simp [hjn]⟩
          obtain ⟨⟨g7, rfl, q7⟩, ⟨g8, rfl, q8⟩⟩ := H.cells hp
          obtain ⟨h6, hf⟩ := hns p (List.mem_of_getElem? hp)
          have hil : (j : Int) < ns.length := by omega
          go_wp2_with fail
          refine wp_region_free (fun (x : Found) (L : Array Bool) (w' : World) => if L.getD 5 false = true then Rb w b c mb v ns (.slice (some ⟨g7, 0, none⟩) ns.length c7) (.slice (some ⟨g8, 0, none⟩) ns.length c8) (j + 1) w' else Rb w b c mb v ns (.slice (some ⟨g7, 0, none⟩) ns.length c7) (.slice (some ⟨g8, 0, none⟩) ns.length c8) j w') (fun j => j == 5) (fun _ u => u = .int .u64 (p.2 : Nat)) (by kernel_rfl) (by kernel_rfl) (by kernel_rfl) (fun x y L w' _ h => h) (fun _ => .int .u64 (p.2 : Nat)) (fun _ _ => rfl) (by simp; exact H.below ⟨rfl, rfl, rfl, Nat.le_refl _, fun _ _ => rfl⟩) (fun x hx => ?_)
          have x5 : x 5 = .int .u64 (p.2 : Nat) := hx 5 rfl
          clear hx
          have hkC : ∀ k, k ≠ 5 → ∀ L w', (fun (x : Found) (L : Array Bool) (w' : World) => if L.getD 5 false = true then Rb w b c mb v ns (.slice (some ⟨g7, 0, none⟩) ns.length c7) (.slice (some ⟨g8, 0, none⟩) ns.length c8) (j + 1) w' else Rb w b c mb v ns (.slice (some ⟨g7, 0, none⟩) ns.length c7) (.slice (some ⟨g8, 0, none⟩) ns.length c8) j w') x L w' → (fun (x : Found) (L : Array Bool) (w' : World) => if L.getD 5 false = true then Rb w b c mb v ns (.slice (some ⟨g7, 0, none⟩) ns.length c7) (.slice (some ⟨g8, 0, none⟩) ns.length c8) (j + 1) w' else Rb w b c mb v ns (.slice (some ⟨g7, 0, none⟩) ns.length c7) (.slice (some ⟨g8, 0, none⟩) ns.length c8) j w') x (L.setIfInBounds k true) w' := fun k h5 L w' h => by
            dsimp only at h ⊢
            rw [getD_set_ne false h5]
            exact h
          have hF : ∀ L w', (fun (x : Found) (L : Array Bool) (w' : World) => if L.getD 5 false = true then Rb w b c mb v ns (.slice (some ⟨g7, 0, none⟩) ns.length c7) (.slice (some ⟨g8, 0, none⟩) ns.length c8) (j + 1) w' else Rb w b c mb v ns (.slice (some ⟨g7, 0, none⟩) ns.length c7) (.slice (some ⟨g8, 0, none⟩) ns.length c8) j w') x L w' → w'.cell? ⟨g7, j, none⟩ = some (.int .i64 (p.1 : Nat)) ∧ w'.cell? ⟨g8, j, none⟩ = some (.int .u64 (p.2 : Nat)) := fun L w' h => by
            have h2 : ∃ j', Rb w b c mb v ns (.slice (some ⟨g7, 0, none⟩) ns.length c7) (.slice (some ⟨g8, 0, none⟩) ns.length c8) j' w' := by
              dsimp only at h
              split at h
              · exact ⟨_, h⟩
              · exact ⟨_, h⟩
            obtain ⟨j', h2⟩ := h2
            obtain ⟨⟨y7, e7, z7⟩, ⟨y8, e8, z8⟩⟩ := h2.cells hp
            cases e7
            cases e8
            exact ⟨z7, z8⟩
          obtain ⟨T, G, hT, hG, gN⟩ := family (fun w' => w'.cell? ⟨g7, j, none⟩ = some (.int .i64 (p.1 : Nat)) ∧ w'.cell? ⟨g8, j, none⟩ = some (.int .u64 (p.2 : Nat))) _ ⟨q7, q8⟩
          have gK := fun t => (gN t).1
          have gM := fun t => (gN t).2
          clear gN
          refine free_calm (G := G) rfl (fun L w' _ hC => hG _ (hF L w' hC)) (fun L w' _ hC => hkC _ (by decide) L w' hC) (fun K hK => ?_)
          go_simp
          refine hK _ ?_
          clear hK K
          refine free_calm (G := G) rfl (fun L w' _ hC => hG _ (hF L w' hC)) (fun L w' _ hC => hkC _ (by decide) L w' hC) (fun K hK => ?_)
          go_simp
          refine hK _ ?_
          clear hK K
          refine free_calm (G := G) rfl (fun L w' _ hC => hG _ (hF L w' hC)) (fun L w' _ hC => hkC _ (by decide) L w' hC) (fun K hK => ?_)
          go_simp
          refine hK _ ?_
          clear hK K
          refine free_calm (G := G) rfl (fun L w' _ hC => hG _ (hF L w' hC)) (fun L w' _ hC => hkC _ (by decide) L w' hC) (fun K hK => ?_)
          go_simp
          refine hK _ ?_
          clear hK K
          refine free_calm (G := G) rfl (fun L w' _ hC => hG _ (hF L w' hC)) (fun L w' _ hC => hkC _ (by decide) L w' hC) (fun K hK => ?_)
          go_simp
          refine hK _ ?_
          clear hK K
          refine free_call rfl 40 #[.pointer (some ⟨c, 0, none⟩), .int .i64 (p.1 : Nat)] (by first | rfl | go_simp) (fun w' => by first | rfl | go_simp) (fun L w' hr hC => ?_) ?_
          · obtain ⟨h5, hs⟩ := ready_undone hr
            rw [if_neg (by simp [h5])] at hC
            refine (hC.get hcb hcw hp h6 hf).mono ?_
            rintro e' w'' ⟨u', rfl, hu, hR⟩
            refine ⟨u', rfl, hu, ?_⟩
            rw [if_pos (set_yes hs)]
            exact hR
          try dsimp only
          rw [x5]
          refine free_calm (G := G) rfl (fun L w' _ hC => hG _ (hF L w' hC)) (fun L w' _ hC => hkC _ (by decide) L w' hC) (fun K hK => ?_)
          go_simp
          refine hK _ ?_
          clear hK K
          refine free_calm (G := G) rfl (fun L w' _ hC => hG _ (hF L w' hC)) (fun L w' _ hC => hkC _ (by decide) L w' hC) (fun K hK => ?_)
          go_simp
          refine hK _ ?_
          clear hK K
          refine free_calm (G := G) rfl (fun L w' _ hC => hG _ (hF L w' hC)) (fun L w' _ hC => hkC _ (by decide) L w' hC) (fun K hK => ?_)
          go_simp
          refine hK _ ?_
          clear hK K
          refine free_calm (G := G) rfl (fun L w' _ hC => hG _ (hF L w' hC)) (fun L w' _ hC => hkC _ (by decide) L w' hC) (fun K hK => ?_)
          go_simp
          refine hK _ ?_
          clear hK K
          refine free_calm (G := G) rfl (fun L w' _ hC => hG _ (hF L w' hC)) (fun L w' _ hC => hkC _ (by decide) L w' hC) (fun K hK => ?_)
          go_simp
          refine hK _ ?_
          clear hK K
          refine free_nil ?_
          intro L w' hL hC
          rw [if_pos (hL 5 (by decide))] at hC
          clear hL hkC hF hG gK gM hT G T H q7 q8
          go_wp2_with fail
          exact ⟨⟨j + 1, hjn, rfl, hC⟩, by simp [intOf]; omega⟩
        · obtain rfl : j = ns.length := by omega
          obtain ⟨R9, W9, -, -, B9⟩ := H
          rw [List.take_length] at R9
          go_wp2_with fail
          go_at_call 27
          refine (rd_Left _ c _ R9).mono ?_
          rintro e' w9 ⟨rfl, k9⟩
          rw [show (((⟨0, 2 + (flat ns).length, enc 2 (flat ns).length ++ flat ns, 0, 0⟩ : RS).xs.length : Nat) : Int) - (((⟨0, 2 + (flat ns).length, enc 2 (flat ns).length ++ flat ns, 0, 0⟩ : RS).n : Nat) : Int) = 0 from by show (((enc 2 (flat ns).length ++ flat ns).length : Nat) : Int) - ((2 + (flat ns).length : Nat) : Int) = _; omega]
          have R10 := R9.below k9
          have W10 := W9.below k9
          have B10 := B9.trans (k9.mono B9.size)
          clear R9 W9 B9 k9
          try dsimp only
          repeat (first | go_skip | go_guarded | go_step | go_upon)
          go_at_call 19
          refine (rd_Fault _ c _ R10).mono ?_
          rintro e' w10 ⟨rfl, k10⟩
          have R11 := R10.below k10
          have W11 := W10.below k10
          have B11 := B10.trans (k10.mono B10.size)
          clear R10 W10 B10 k10
          try dsimp only
          repeat (first | go_skip | go_guarded | go_step | go_upon)
          go_at_call 17
          refine (rd_At _ c _ R11).mono ?_
          rintro e' wx ⟨rfl, hw⟩
          obtain rfl := hw.symm
          rw [show (((⟨0, 2 + (flat ns).length, enc 2 (flat ns).length ++ flat ns, 0, 0⟩ : RS).f : Nat) : Int) + (((⟨0, 2 + (flat ns).length, enc 2 (flat ns).length ++ flat ns, 0, 0⟩ : RS).n : Nat) : Int) = ((2 + (flat ns).length : Nat) : Int) from by show ((0 : Nat) : Int) + ((2 + (flat ns).length : Nat) : Int) = _; omega]
          try dsimp only
          repeat (first | go_skip | go_guarded | go_step | go_upon)
          go_at_call 23
          refine (wr_Len _ b _ W11).mono ?_
          rintro e' wx ⟨rfl, hw⟩
          obtain rfl := hw.symm
          rw [show ((⟨65536, enc 2 (flat ns).length ++ flat ns, v, mb⟩ : WS).xs.length) = 2 + (flat ns).length from hxl]
          try dsimp only
          repeat (first | go_skip | go_guarded | go_step | go_upon)
          go_ret
          exact ⟨rfl, B11⟩
      
end Go.Proofs.Ytlkobpmbecljkab
