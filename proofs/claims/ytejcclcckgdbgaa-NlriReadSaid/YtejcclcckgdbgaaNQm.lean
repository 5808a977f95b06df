/- The reference of layer 4: Bytes at kind 2. No condition. -/
import Derived.Test.YtejcclcckgdbgaaNQl
namespace Go.Proofs.Ytejcclcckgdbgaa
open Go.RowKit Go.Sort
set_option linter.unusedVariables false
set_option linter.unusedSimpArgs false
set_option maxRecDepth 100000

set_option maxHeartbeats 4000000 in
theorem rbytes_2ff (n : NL) (hn : n.Ok) (hk : n.k = 2) (hc : n.chk = 0) (hh : n.h = false) (hz : n.l2 = 0) (w : World) : Calls Try.prog 16 #[n.v] w fun r w' => ∃ v, r = .returned (.tuple #[v, .int .i64 0]) ∧ Dat w' v n.code ∧ Below w.heap.size w w' := by
  have hS := small_of hc
  obtain ⟨n0, n1⟩ := hS.pn
  clear hS
  have hcode : n.code = [2, (n.val.length : Int)] ++ n.val := by unfold NL.code; rw [hk]; rfl
  have hval : n.val = enc 8 n.rd.toNat ++ esiL n.e ++ enc 4 n.t.toNat ++ [48] ++ enc 6 n.m.toNat ++ adrB n.ip n.h ++ enc 3 n.l.toNat := by unfold NL.val; rw [if_neg (by omega), if_pos hk]; unfold NL.macV; rw [if_pos hz, List.append_nil]; rfl
  have hvl : n.val.length = 33 := by rw [hval]; simp [enc_length, esiL_len, adrB, hh]
  rw [hcode, hvl, hval]
  clear hcode hval hvl
  have hC := fun w => rchk_is n w
  rw [hc] at hC
  obtain ⟨r0, r1⟩ := hn.rd
  obtain ⟨t0, t1⟩ := hn.t
  obtain ⟨l0, l1⟩ := hn.l
  obtain ⟨i0, i1⟩ := hn.ip
  obtain ⟨p0, p1⟩ := hn.pi
  obtain ⟨g0, g1⟩ := hn.g
  obtain ⟨m0, m1⟩ := hn.m
  obtain ⟨q0, q1⟩ := hn.l2
  clear hc hn
  have HH := Lib.hid hh
  clear hh
  have HL := Lib.hid hz
  clear hz
  unfold NL.v at hC ⊢
  go_enter Try.func16, Try.ntmps16
  go_wp2_with (first
    | (refine at_box rfl _ rfl n rfl ?_; rintro w1 ⟨x1, k1, s1⟩; clear s1)
    | (refine at_load rfl _ rfl w.heap.size rfl n x1 ?_))
  go_at_call 18
  refine (hC _).mono ?_
  rintro r w2 ⟨rfl, k2⟩
  have x2 := x1.below k2 x1.lt
  have K2 := k1.trans (k2.mono k1.size)
  clear hC x1 k1 k2
  have a0 := Blk.cell x2 0 (v := .int .i64 n.k) rfl
  rw [hk] at a0
  have a1 := Blk.cell x2 1 (v := .int .u64 n.rd) rfl
  go_wp2_with fail
  go_at_call 36
  refine (put_is w2.heap.size [] (by decide) (.slice none 0 0) n.rd 8 r0 r1 (by decide) w2 (Nat.le_refl _) (datB_nil _ _)).mono ?_
  rintro r w3 ⟨v3, rfl, D3, e3, -⟩
  rw [List.nil_append] at D3
  clear a0 a1
  have x3 := x2.below e3 x2.lt
  have a0 := Blk.cell x3 0 (v := .int .i64 n.k) rfl
  rw [hk] at a0
  have a2 := Blk.cell x3 12 (v := .int .u32 n.t) rfl
  go_wp2_with (refine at_appS rfl (.tmp 17) (.tmp 19) rfl _ rfl w.heap.size 2 10 10 rfl w2.heap.size (enc 8 n.rd.toNat) (esiL n.e) D3 (esiL_len _) x3.esiCells e3.size (by rw [enc_length, esiL_len]; decide) ?_; rintro w4 v4 D4 f4 -; have e4 := e3.trans f4; have x4 := x2.below e4 x2.lt; have g0' := Blk.cell x4 0 (v := .int .i64 n.k) rfl; rw [hk] at g0'; have g2' := Blk.cell x4 12 (v := .int .u32 n.t) rfl; clear a0 a2 f4 D3)
  go_at_call 36
  refine (put_is w2.heap.size (enc 8 n.rd.toNat ++ esiL n.e) (by simp [enc_length, esiL_len]) v4 n.t 4 t0 (by omega) (by decide) w4 e4.size D4).mono ?_
  rintro r w5 ⟨v5, rfl, D5, f5, -⟩
  have e5 := e4.trans f5
  clear g0' g2' D4 f5
  have x5 := x2.below e5 x2.lt
  have h0 := Blk.cell x5 0 (v := .int .i64 n.k) rfl
  rw [hk] at h0
  obtain ⟨zs, hzs⟩ : ∃ zs, enc 8 n.rd.toNat ++ esiL n.e ++ enc 4 n.t.toNat = zs := ⟨_, rfl⟩
  have hzl : zs.length = 22 := by rw [← hzs]; simp [enc_length, esiL_len]
  rw [hzs] at D5
  have HZ := Lib.hid hzs
  clear hzs
  go_wp2_with fail
  clear h0
  refine wp_region_selB w2.heap.size [0, 3, 4] 4 rfl (by kernel_rfl) (by kernel_rfl) (by kernel_rfl) (by kernel_rfl) (fun _ d _ _ _ h => by cases d <;> exact h) ?_
  intro W5 hW5
  have dr5 : Below w2.heap.size w5 W5 := by subst hW5; exact (Below.refl _ _).drew
  have X5 := x5.below dr5 x2.lt
  have E5 := e5.trans dr5
  have c13 : ∀ q : Beh w2.heap.size W5, q.w.cell? ⟨w.heap.size, 13, none⟩ = some (.int .u64 n.m) := fun q => Blk.cell (Blk.below X5 q.h x2.lt) 13 rfl
  replace D5 := D5.below (show Below w5.heap.size w5 W5 by subst hW5; exact (Below.refl _ _).drew)
  clear hW5 x5
  simp only [pickOps, List.filterMap_cons, List.filterMap_nil, List.getElem?_cons_zero, List.getElem?_cons_succ, Option.map_some, List.map_cons, List.map_nil]
  repeat (go_big_quiet_step (fail))
  refine wpQuiet_nil ?_
  clear c13
  have Dl5 := dat_one W5 48
  have dl5 : Below w2.heap.size W5 (W5.alloc (.cells #[.int .u8 48] 5)) := (Below.refl _ _).alloc E5.size _
  have dm5 : Below W5.heap.size W5 (W5.alloc (.cells #[.int .u8 48] 5)) := (Below.refl _ _).alloc (Nat.le_refl _) _
  refine wpAnyH_one (k := 1) (by kernel_rfl) rfl (fun K hQ => ?_)
  go_simp
  refine hQ _ _ ⟨⟨_, dl5⟩, rfl⟩ ?_
  clear hQ K
  obtain ⟨va5, wa5, hr, DA5, hg⟩ := append_dat _ 23 w2.heap.size _ _ _ _ (D5.below dm5) Dl5 (E5.trans dl5).size (by rw [hzl]; simp)
  have da5 : Below w2.heap.size W5 wa5 := dl5.grown hg (E5.trans dl5).size fun k hk => (World.ownsRow.lt (D5.below dm5) k hk).1
  have HR := Lib.hid hr
  clear hr hg
  refine wpAnyH_one (k := 2) (by kernel_rfl) rfl (fun K hQ => ?_)
  refine if_true_prop (by kernel_rfl) ?_
  refine Lib.wp_append_run _ _ _ 23 23 rfl _ _ rfl rfl _ _ HR.out ?_
  refine hQ _ _ ⟨⟨_, da5⟩, rfl⟩ ?_
  clear hQ K
  clear HR
  refine wpAnyH_one (k := 5) (by kernel_rfl) rfl (fun K hQ => ?_)
  go_simp
  refine (put_is w2.heap.size (zs ++ [48]) (by simp [hzl]) va5 n.m 6 m0 (by omega) (by decide) wa5 (E5.trans da5).size DA5).mono ?_
  rintro r w6 ⟨v6, rfl, D6, f6, -⟩
  have b6 : Below w2.heap.size W5 w6 := (da5).trans f6
  refine hQ _ _ ⟨⟨_, b6⟩, rfl⟩ ?_
  clear hQ K
  refine wpAnyH_one (k := 6) (by kernel_rfl) rfl (fun K hQ => ?_)
  go_simp
  refine hQ _ _ ⟨⟨_, b6⟩, rfl⟩ ?_
  clear hQ K
  refine wpAnyH_done (by kernel_rfl) ?_ 0
  have e6 := E5.trans b6
  have x6 := x2.below e6 x2.lt
  obtain ⟨z6, hz6⟩ : ∃ z6, zs ++ [48] ++ enc 6 n.m.toNat = z6 := ⟨_, rfl⟩
  have Lz6 : z6.length = 29 := by rw [← hz6]; simp [hzl, enc_length]
  rw [hz6] at D6
  have Hz6 := Lib.hid hz6
  clear hz6
  go_wp2_with fail
  refine wp_region_selB w2.heap.size [0, 1, 2, 3, 4, 6, 7, 8] 3 rfl (by kernel_rfl) (by kernel_rfl) (by kernel_rfl) (by kernel_rfl) (fun _ d _ _ _ h => by cases d <;> exact h) ?_
  intro W6 hW6
  have dr6 : Below w2.heap.size w6 W6 := by subst hW6; exact (Below.refl _ _).drew
  have X6 := x6.below dr6 x2.lt
  have E6 := e6.trans dr6
  have c14 : ∀ q : Beh w2.heap.size W6, q.w.cell? ⟨w.heap.size, 14, none⟩ = some (.int .u32 n.ip) := fun q => Blk.cell (Blk.below X6 q.h x2.lt) 14 rfl
  have c15 : ∀ q : Beh w2.heap.size W6, q.w.cell? ⟨w.heap.size, 15, none⟩ = some (.bool n.h) := fun q => Blk.cell (Blk.below X6 q.h x2.lt) 15 rfl
  have c19 : ∀ q : Beh w2.heap.size W6, q.w.cell? ⟨w.heap.size, 19, none⟩ = some (.int .u32 n.l) := fun q => Blk.cell (Blk.below X6 q.h x2.lt) 19 rfl
  replace D6 := D6.below (show Below w6.heap.size w6 W6 by subst hW6; exact (Below.refl _ _).drew)
  clear hW6 x6
  simp only [pickOps, List.filterMap_cons, List.filterMap_nil, List.getElem?_cons_zero, List.getElem?_cons_succ, Option.map_some, List.map_cons, List.map_nil]
  repeat (go_big_quiet_step (fail))
  refine wpQuiet_nil ?_
  clear c14 c15 c19
  refine wpAnyH_one (k := 5) (by kernel_rfl) rfl (fun K hQ => ?_)
  go_simp
  refine (address_is w2.heap.size (z6) (by simp [Lz6]) v6 n.ip n.h i0 i1 W6 (E6.trans (Below.refl _ _)).size D6).mono ?_
  rintro r w7 ⟨v7, rfl, D7, f7, -⟩
  have b7 : Below w2.heap.size W6 w7 := ((Below.refl _ _)).trans f7
  refine hQ _ _ ⟨⟨_, b7⟩, rfl⟩ ?_
  clear hQ K
  refine wpAnyH_one (k := 9) (by kernel_rfl) rfl (fun K hQ => ?_)
  go_simp
  refine (put_is w2.heap.size (z6 ++ adrB n.ip n.h) (by simp [Lz6, enc_length, adrB, HH.out]) v7 n.l 3 l0 (by omega) (by decide) w7 (E6.trans b7).size D7).mono ?_
  rintro r w8 ⟨v8, rfl, D8, f8, -⟩
  have b8 : Below w2.heap.size W6 w8 := (b7).trans f8
  refine hQ _ _ ⟨⟨_, b8⟩, rfl⟩ ?_
  clear hQ K
  refine wpAnyH_one (k := 10) (by kernel_rfl) rfl (fun K hQ => ?_)
  go_simp
  refine hQ _ _ ⟨⟨_, b8⟩, rfl⟩ ?_
  clear hQ K
  refine wpAnyH_done (by kernel_rfl) ?_ 0
  have e8 := E6.trans b8
  have x8 := x2.below e8 x2.lt
  obtain ⟨z8, hz8⟩ : ∃ z8, z6 ++ adrB n.ip n.h ++ enc 3 n.l.toNat = z8 := ⟨_, rfl⟩
  have Lz8 : z8.length = 33 := by rw [← hz8]; simp [Lz6, adrB, HH.out, enc_length]
  rw [hz8] at D8
  have Hz8 := Lib.hid hz8
  clear hz8
  have h20 := Blk.cell x8 20 (v := .int .u32 n.l2) rfl
  rw [HL.out] at h20
  obtain ⟨sa, sc, hsh⟩ := (DatB.dat D8).shape
  rw [Lz8] at hsh
  subst hsh
  have h0 := Blk.cell x8 0 (v := .int .i64 n.k) rfl
  rw [hk] at h0
  go_wp2_with (first
    | (refine at_lit2 rfl (.tmp 93) (.tmp 96) rfl 2 33 rfl rfl w2.heap.size e8.size ?_; rintro wl ul Dl kl)
    | (refine at_app rfl (.tmp 97) (.tmp 98) rfl _ _ rfl rfl w2.heap.size [2, 33] z8 Dl ((DatB.dat D8).below kl) (by have := kl.size; have := e8.size; omega) (by rw [Lz8]; decide) ?_; rintro wf vf Df ff -))
  have ef := e8.trans ((kl.mono e8.size).trans ff)
  go_ret2
  exact ⟨_, rfl, by have q := Df.dat; rw [← Hz8.out, ← Hz6.out, ← HZ.out] at q; exact q, K2.trans (ef.mono K2.size)⟩
set_option maxHeartbeats 4000000 in
theorem rbytes_2ft (n : NL) (hn : n.Ok) (hk : n.k = 2) (hc : n.chk = 0) (hh : n.h = false) (hz : n.l2 ≠ 0) (w : World) : Calls Try.prog 16 #[n.v] w fun r w' => ∃ v, r = .returned (.tuple #[v, .int .i64 0]) ∧ Dat w' v n.code ∧ Below w.heap.size w w' := by
  have hS := small_of hc
  obtain ⟨n0, n1⟩ := hS.pn
  clear hS
  have hcode : n.code = [2, (n.val.length : Int)] ++ n.val := by unfold NL.code; rw [hk]; rfl
  have hval : n.val = enc 8 n.rd.toNat ++ esiL n.e ++ enc 4 n.t.toNat ++ [48] ++ enc 6 n.m.toNat ++ adrB n.ip n.h ++ enc 3 n.l.toNat ++ enc 3 n.l2.toNat := by unfold NL.val; rw [if_neg (by omega), if_pos hk]; unfold NL.macV; rw [if_neg hz]; rfl
  have hvl : n.val.length = 36 := by rw [hval]; simp [enc_length, esiL_len, adrB, hh]
  rw [hcode, hvl, hval]
  clear hcode hval hvl
  have hC := fun w => rchk_is n w
  rw [hc] at hC
  obtain ⟨r0, r1⟩ := hn.rd
  obtain ⟨t0, t1⟩ := hn.t
  obtain ⟨l0, l1⟩ := hn.l
  obtain ⟨i0, i1⟩ := hn.ip
  obtain ⟨p0, p1⟩ := hn.pi
  obtain ⟨g0, g1⟩ := hn.g
  obtain ⟨m0, m1⟩ := hn.m
  obtain ⟨q0, q1⟩ := hn.l2
  clear hc hn
  have HH := Lib.hid hh
  clear hh
  have hnz : (n.l2 != 0) = true := by simpa using hz
  have HL := Lib.hid hz
  clear hz
  have HN := Lib.hid hnz
  clear hnz
  unfold NL.v at hC ⊢
  go_enter Try.func16, Try.ntmps16
  go_wp2_with (first
    | (refine at_box rfl _ rfl n rfl ?_; rintro w1 ⟨x1, k1, s1⟩; clear s1)
    | (refine at_load rfl _ rfl w.heap.size rfl n x1 ?_))
  go_at_call 18
  refine (hC _).mono ?_
  rintro r w2 ⟨rfl, k2⟩
  have x2 := x1.below k2 x1.lt
  have K2 := k1.trans (k2.mono k1.size)
  clear hC x1 k1 k2
  have a0 := Blk.cell x2 0 (v := .int .i64 n.k) rfl
  rw [hk] at a0
  have a1 := Blk.cell x2 1 (v := .int .u64 n.rd) rfl
  go_wp2_with fail
  go_at_call 36
  refine (put_is w2.heap.size [] (by decide) (.slice none 0 0) n.rd 8 r0 r1 (by decide) w2 (Nat.le_refl _) (datB_nil _ _)).mono ?_
  rintro r w3 ⟨v3, rfl, D3, e3, -⟩
  rw [List.nil_append] at D3
  clear a0 a1
  have x3 := x2.below e3 x2.lt
  have a0 := Blk.cell x3 0 (v := .int .i64 n.k) rfl
  rw [hk] at a0
  have a2 := Blk.cell x3 12 (v := .int .u32 n.t) rfl
  go_wp2_with (refine at_appS rfl (.tmp 17) (.tmp 19) rfl _ rfl w.heap.size 2 10 10 rfl w2.heap.size (enc 8 n.rd.toNat) (esiL n.e) D3 (esiL_len _) x3.esiCells e3.size (by rw [enc_length, esiL_len]; decide) ?_; rintro w4 v4 D4 f4 -; have e4 := e3.trans f4; have x4 := x2.below e4 x2.lt; have g0' := Blk.cell x4 0 (v := .int .i64 n.k) rfl; rw [hk] at g0'; have g2' := Blk.cell x4 12 (v := .int .u32 n.t) rfl; clear a0 a2 f4 D3)
  go_at_call 36
  refine (put_is w2.heap.size (enc 8 n.rd.toNat ++ esiL n.e) (by simp [enc_length, esiL_len]) v4 n.t 4 t0 (by omega) (by decide) w4 e4.size D4).mono ?_
  rintro r w5 ⟨v5, rfl, D5, f5, -⟩
  have e5 := e4.trans f5
  clear g0' g2' D4 f5
  have x5 := x2.below e5 x2.lt
  have h0 := Blk.cell x5 0 (v := .int .i64 n.k) rfl
  rw [hk] at h0
  obtain ⟨zs, hzs⟩ : ∃ zs, enc 8 n.rd.toNat ++ esiL n.e ++ enc 4 n.t.toNat = zs := ⟨_, rfl⟩
  have hzl : zs.length = 22 := by rw [← hzs]; simp [enc_length, esiL_len]
  rw [hzs] at D5
  have HZ := Lib.hid hzs
  clear hzs
  go_wp2_with fail
  clear h0
  refine wp_region_selB w2.heap.size [0, 3, 4] 4 rfl (by kernel_rfl) (by kernel_rfl) (by kernel_rfl) (by kernel_rfl) (fun _ d _ _ _ h => by cases d <;> exact h) ?_
  intro W5 hW5
  have dr5 : Below w2.heap.size w5 W5 := by subst hW5; exact (Below.refl _ _).drew
  have X5 := x5.below dr5 x2.lt
  have E5 := e5.trans dr5
  have c13 : ∀ q : Beh w2.heap.size W5, q.w.cell? ⟨w.heap.size, 13, none⟩ = some (.int .u64 n.m) := fun q => Blk.cell (Blk.below X5 q.h x2.lt) 13 rfl
  replace D5 := D5.below (show Below w5.heap.size w5 W5 by subst hW5; exact (Below.refl _ _).drew)
  clear hW5 x5
  simp only [pickOps, List.filterMap_cons, List.filterMap_nil, List.getElem?_cons_zero, List.getElem?_cons_succ, Option.map_some, List.map_cons, List.map_nil]
  repeat (go_big_quiet_step (fail))
  refine wpQuiet_nil ?_
  clear c13
  have Dl5 := dat_one W5 48
  have dl5 : Below w2.heap.size W5 (W5.alloc (.cells #[.int .u8 48] 5)) := (Below.refl _ _).alloc E5.size _
  have dm5 : Below W5.heap.size W5 (W5.alloc (.cells #[.int .u8 48] 5)) := (Below.refl _ _).alloc (Nat.le_refl _) _
  refine wpAnyH_one (k := 1) (by kernel_rfl) rfl (fun K hQ => ?_)
  go_simp
  refine hQ _ _ ⟨⟨_, dl5⟩, rfl⟩ ?_
  clear hQ K
  obtain ⟨va5, wa5, hr, DA5, hg⟩ := append_dat _ 23 w2.heap.size _ _ _ _ (D5.below dm5) Dl5 (E5.trans dl5).size (by rw [hzl]; simp)
  have da5 : Below w2.heap.size W5 wa5 := dl5.grown hg (E5.trans dl5).size fun k hk => (World.ownsRow.lt (D5.below dm5) k hk).1
  have HR := Lib.hid hr
  clear hr hg
  refine wpAnyH_one (k := 2) (by kernel_rfl) rfl (fun K hQ => ?_)
  refine if_true_prop (by kernel_rfl) ?_
  refine Lib.wp_append_run _ _ _ 23 23 rfl _ _ rfl rfl _ _ HR.out ?_
  refine hQ _ _ ⟨⟨_, da5⟩, rfl⟩ ?_
  clear hQ K
  clear HR
  refine wpAnyH_one (k := 5) (by kernel_rfl) rfl (fun K hQ => ?_)
  go_simp
  refine (put_is w2.heap.size (zs ++ [48]) (by simp [hzl]) va5 n.m 6 m0 (by omega) (by decide) wa5 (E5.trans da5).size DA5).mono ?_
  rintro r w6 ⟨v6, rfl, D6, f6, -⟩
  have b6 : Below w2.heap.size W5 w6 := (da5).trans f6
  refine hQ _ _ ⟨⟨_, b6⟩, rfl⟩ ?_
  clear hQ K
  refine wpAnyH_one (k := 6) (by kernel_rfl) rfl (fun K hQ => ?_)
  go_simp
  refine hQ _ _ ⟨⟨_, b6⟩, rfl⟩ ?_
  clear hQ K
  refine wpAnyH_done (by kernel_rfl) ?_ 0
  have e6 := E5.trans b6
  have x6 := x2.below e6 x2.lt
  obtain ⟨z6, hz6⟩ : ∃ z6, zs ++ [48] ++ enc 6 n.m.toNat = z6 := ⟨_, rfl⟩
  have Lz6 : z6.length = 29 := by rw [← hz6]; simp [hzl, enc_length]
  rw [hz6] at D6
  have Hz6 := Lib.hid hz6
  clear hz6
  go_wp2_with fail
  refine wp_region_selB w2.heap.size [0, 1, 2, 3, 4, 6, 7, 8] 3 rfl (by kernel_rfl) (by kernel_rfl) (by kernel_rfl) (by kernel_rfl) (fun _ d _ _ _ h => by cases d <;> exact h) ?_
  intro W6 hW6
  have dr6 : Below w2.heap.size w6 W6 := by subst hW6; exact (Below.refl _ _).drew
  have X6 := x6.below dr6 x2.lt
  have E6 := e6.trans dr6
  have c14 : ∀ q : Beh w2.heap.size W6, q.w.cell? ⟨w.heap.size, 14, none⟩ = some (.int .u32 n.ip) := fun q => Blk.cell (Blk.below X6 q.h x2.lt) 14 rfl
  have c15 : ∀ q : Beh w2.heap.size W6, q.w.cell? ⟨w.heap.size, 15, none⟩ = some (.bool n.h) := fun q => Blk.cell (Blk.below X6 q.h x2.lt) 15 rfl
  have c19 : ∀ q : Beh w2.heap.size W6, q.w.cell? ⟨w.heap.size, 19, none⟩ = some (.int .u32 n.l) := fun q => Blk.cell (Blk.below X6 q.h x2.lt) 19 rfl
  replace D6 := D6.below (show Below w6.heap.size w6 W6 by subst hW6; exact (Below.refl _ _).drew)
  clear hW6 x6
  simp only [pickOps, List.filterMap_cons, List.filterMap_nil, List.getElem?_cons_zero, List.getElem?_cons_succ, Option.map_some, List.map_cons, List.map_nil]
  repeat (go_big_quiet_step (fail))
  refine wpQuiet_nil ?_
  clear c14 c15 c19
  refine wpAnyH_one (k := 5) (by kernel_rfl) rfl (fun K hQ => ?_)
  go_simp
  refine (address_is w2.heap.size (z6) (by simp [Lz6]) v6 n.ip n.h i0 i1 W6 (E6.trans (Below.refl _ _)).size D6).mono ?_
  rintro r w7 ⟨v7, rfl, D7, f7, -⟩
  have b7 : Below w2.heap.size W6 w7 := ((Below.refl _ _)).trans f7
  refine hQ _ _ ⟨⟨_, b7⟩, rfl⟩ ?_
  clear hQ K
  refine wpAnyH_one (k := 9) (by kernel_rfl) rfl (fun K hQ => ?_)
  go_simp
  refine (put_is w2.heap.size (z6 ++ adrB n.ip n.h) (by simp [Lz6, enc_length, adrB, HH.out]) v7 n.l 3 l0 (by omega) (by decide) w7 (E6.trans b7).size D7).mono ?_
  rintro r w8 ⟨v8, rfl, D8, f8, -⟩
  have b8 : Below w2.heap.size W6 w8 := (b7).trans f8
  refine hQ _ _ ⟨⟨_, b8⟩, rfl⟩ ?_
  clear hQ K
  refine wpAnyH_one (k := 10) (by kernel_rfl) rfl (fun K hQ => ?_)
  go_simp
  refine hQ _ _ ⟨⟨_, b8⟩, rfl⟩ ?_
  clear hQ K
  refine wpAnyH_done (by kernel_rfl) ?_ 0
  have e8 := E6.trans b8
  have x8 := x2.below e8 x2.lt
  obtain ⟨z8, hz8⟩ : ∃ z8, z6 ++ adrB n.ip n.h ++ enc 3 n.l.toNat = z8 := ⟨_, rfl⟩
  have Lz8 : z8.length = 33 := by rw [← hz8]; simp [Lz6, adrB, HH.out, enc_length]
  rw [hz8] at D8
  have Hz8 := Lib.hid hz8
  clear hz8
  have h20 := Blk.cell x8 20 (v := .int .u32 n.l2) rfl
  have hnz := HN.out
  go_wp2_with fail
  go_at_call 36
  refine (put_is w2.heap.size z8 (by simp [Lz8]) v8 n.l2 3 q0 (by omega) (by decide) w8 e8.size D8).mono ?_
  rintro r w9 ⟨v9, rfl, D9, f9, -⟩
  have e9 := e8.trans f9
  clear h20 D8 f9 hnz
  have x9 := x2.below e9 x2.lt
  obtain ⟨z9, hz9⟩ : ∃ z9, z8 ++ enc 3 n.l2.toNat = z9 := ⟨_, rfl⟩
  have Lz9 : z9.length = 36 := by rw [← hz9]; simp [Lz8, enc_length]
  rw [hz9] at D9
  have Hz9 := Lib.hid hz9
  clear hz9
  obtain ⟨sa, sc, hsh⟩ := (DatB.dat D9).shape
  rw [Lz9] at hsh
  subst hsh
  have h0 := Blk.cell x9 0 (v := .int .i64 n.k) rfl
  rw [hk] at h0
  go_wp2_with (first
    | (refine at_lit2 rfl (.tmp 93) (.tmp 96) rfl 2 36 rfl rfl w2.heap.size e9.size ?_; rintro wl ul Dl kl)
    | (refine at_app rfl (.tmp 97) (.tmp 98) rfl _ _ rfl rfl w2.heap.size [2, 36] z9 Dl ((DatB.dat D9).below kl) (by have := kl.size; have := e9.size; omega) (by rw [Lz9]; decide) ?_; rintro wf vf Df ff -))
  have ef := e9.trans ((kl.mono e9.size).trans ff)
  go_ret2
  exact ⟨_, rfl, by have q := Df.dat; rw [← Hz9.out, ← Hz8.out, ← Hz6.out, ← HZ.out] at q; exact q, K2.trans (ef.mono K2.size)⟩
set_option maxHeartbeats 4000000 in
theorem rbytes_2tf (n : NL) (hn : n.Ok) (hk : n.k = 2) (hc : n.chk = 0) (hh : n.h = true) (hz : n.l2 = 0) (w : World) : Calls Try.prog 16 #[n.v] w fun r w' => ∃ v, r = .returned (.tuple #[v, .int .i64 0]) ∧ Dat w' v n.code ∧ Below w.heap.size w w' := by
  have hS := small_of hc
  obtain ⟨n0, n1⟩ := hS.pn
  clear hS
  have hcode : n.code = [2, (n.val.length : Int)] ++ n.val := by unfold NL.code; rw [hk]; rfl
  have hval : n.val = enc 8 n.rd.toNat ++ esiL n.e ++ enc 4 n.t.toNat ++ [48] ++ enc 6 n.m.toNat ++ adrB n.ip n.h ++ enc 3 n.l.toNat := by unfold NL.val; rw [if_neg (by omega), if_pos hk]; unfold NL.macV; rw [if_pos hz, List.append_nil]; rfl
  have hvl : n.val.length = 37 := by rw [hval]; simp [enc_length, esiL_len, adrB, hh]
  rw [hcode, hvl, hval]
  clear hcode hval hvl
  have hC := fun w => rchk_is n w
  rw [hc] at hC
  obtain ⟨r0, r1⟩ := hn.rd
  obtain ⟨t0, t1⟩ := hn.t
  obtain ⟨l0, l1⟩ := hn.l
  obtain ⟨i0, i1⟩ := hn.ip
  obtain ⟨p0, p1⟩ := hn.pi
  obtain ⟨g0, g1⟩ := hn.g
  obtain ⟨m0, m1⟩ := hn.m
  obtain ⟨q0, q1⟩ := hn.l2
  clear hc hn
  have HH := Lib.hid hh
  clear hh
  have HL := Lib.hid hz
  clear hz
  unfold NL.v at hC ⊢
  go_enter Try.func16, Try.ntmps16
  go_wp2_with (first
    | (refine at_box rfl _ rfl n rfl ?_; rintro w1 ⟨x1, k1, s1⟩; clear s1)
    | (refine at_load rfl _ rfl w.heap.size rfl n x1 ?_))
  go_at_call 18
  refine (hC _).mono ?_
  rintro r w2 ⟨rfl, k2⟩
  have x2 := x1.below k2 x1.lt
  have K2 := k1.trans (k2.mono k1.size)
  clear hC x1 k1 k2
  have a0 := Blk.cell x2 0 (v := .int .i64 n.k) rfl
  rw [hk] at a0
  have a1 := Blk.cell x2 1 (v := .int .u64 n.rd) rfl
  go_wp2_with fail
  go_at_call 36
  refine (put_is w2.heap.size [] (by decide) (.slice none 0 0) n.rd 8 r0 r1 (by decide) w2 (Nat.le_refl _) (datB_nil _ _)).mono ?_
  rintro r w3 ⟨v3, rfl, D3, e3, -⟩
  rw [List.nil_append] at D3
  clear a0 a1
  have x3 := x2.below e3 x2.lt
  have a0 := Blk.cell x3 0 (v := .int .i64 n.k) rfl
  rw [hk] at a0
  have a2 := Blk.cell x3 12 (v := .int .u32 n.t) rfl
  go_wp2_with (refine at_appS rfl (.tmp 17) (.tmp 19) rfl _ rfl w.heap.size 2 10 10 rfl w2.heap.size (enc 8 n.rd.toNat) (esiL n.e) D3 (esiL_len _) x3.esiCells e3.size (by rw [enc_length, esiL_len]; decide) ?_; rintro w4 v4 D4 f4 -; have e4 := e3.trans f4; have x4 := x2.below e4 x2.lt; have g0' := Blk.cell x4 0 (v := .int .i64 n.k) rfl; rw [hk] at g0'; have g2' := Blk.cell x4 12 (v := .int .u32 n.t) rfl; clear a0 a2 f4 D3)
  go_at_call 36
  refine (put_is w2.heap.size (enc 8 n.rd.toNat ++ esiL n.e) (by simp [enc_length, esiL_len]) v4 n.t 4 t0 (by omega) (by decide) w4 e4.size D4).mono ?_
  rintro r w5 ⟨v5, rfl, D5, f5, -⟩
  have e5 := e4.trans f5
  clear g0' g2' D4 f5
  have x5 := x2.below e5 x2.lt
  have h0 := Blk.cell x5 0 (v := .int .i64 n.k) rfl
  rw [hk] at h0
  obtain ⟨zs, hzs⟩ : ∃ zs, enc 8 n.rd.toNat ++ esiL n.e ++ enc 4 n.t.toNat = zs := ⟨_, rfl⟩
  have hzl : zs.length = 22 := by rw [← hzs]; simp [enc_length, esiL_len]
  rw [hzs] at D5
  have HZ := Lib.hid hzs
  clear hzs
  go_wp2_with fail
  clear h0
  refine wp_region_selB w2.heap.size [0, 3, 4] 4 rfl (by kernel_rfl) (by kernel_rfl) (by kernel_rfl) (by kernel_rfl) (fun _ d _ _ _ h => by cases d <;> exact h) ?_
  intro W5 hW5
  have dr5 : Below w2.heap.size w5 W5 := by subst hW5; exact (Below.refl _ _).drew
  have X5 := x5.below dr5 x2.lt
  have E5 := e5.trans dr5
  have c13 : ∀ q : Beh w2.heap.size W5, q.w.cell? ⟨w.heap.size, 13, none⟩ = some (.int .u64 n.m) := fun q => Blk.cell (Blk.below X5 q.h x2.lt) 13 rfl
  replace D5 := D5.below (show Below w5.heap.size w5 W5 by subst hW5; exact (Below.refl _ _).drew)
  clear hW5 x5
  simp only [pickOps, List.filterMap_cons, List.filterMap_nil, List.getElem?_cons_zero, List.getElem?_cons_succ, Option.map_some, List.map_cons, List.map_nil]
  repeat (go_big_quiet_step (fail))
  refine wpQuiet_nil ?_
  clear c13
  have Dl5 := dat_one W5 48
  have dl5 : Below w2.heap.size W5 (W5.alloc (.cells #[.int .u8 48] 5)) := (Below.refl _ _).alloc E5.size _
  have dm5 : Below W5.heap.size W5 (W5.alloc (.cells #[.int .u8 48] 5)) := (Below.refl _ _).alloc (Nat.le_refl _) _
  refine wpAnyH_one (k := 1) (by kernel_rfl) rfl (fun K hQ => ?_)
  go_simp
  refine hQ _ _ ⟨⟨_, dl5⟩, rfl⟩ ?_
  clear hQ K
  obtain ⟨va5, wa5, hr, DA5, hg⟩ := append_dat _ 23 w2.heap.size _ _ _ _ (D5.below dm5) Dl5 (E5.trans dl5).size (by rw [hzl]; simp)
  have da5 : Below w2.heap.size W5 wa5 := dl5.grown hg (E5.trans dl5).size fun k hk => (World.ownsRow.lt (D5.below dm5) k hk).1
  have HR := Lib.hid hr
  clear hr hg
  refine wpAnyH_one (k := 2) (by kernel_rfl) rfl (fun K hQ => ?_)
  refine if_true_prop (by kernel_rfl) ?_
  refine Lib.wp_append_run _ _ _ 23 23 rfl _ _ rfl rfl _ _ HR.out ?_
  refine hQ _ _ ⟨⟨_, da5⟩, rfl⟩ ?_
  clear hQ K
  clear HR
  refine wpAnyH_one (k := 5) (by kernel_rfl) rfl (fun K hQ => ?_)
  go_simp
  refine (put_is w2.heap.size (zs ++ [48]) (by simp [hzl]) va5 n.m 6 m0 (by omega) (by decide) wa5 (E5.trans da5).size DA5).mono ?_
  rintro r w6 ⟨v6, rfl, D6, f6, -⟩
  have b6 : Below w2.heap.size W5 w6 := (da5).trans f6
  refine hQ _ _ ⟨⟨_, b6⟩, rfl⟩ ?_
  clear hQ K
  refine wpAnyH_one (k := 6) (by kernel_rfl) rfl (fun K hQ => ?_)
  go_simp
  refine hQ _ _ ⟨⟨_, b6⟩, rfl⟩ ?_
  clear hQ K
  refine wpAnyH_done (by kernel_rfl) ?_ 0
  have e6 := E5.trans b6
  have x6 := x2.below e6 x2.lt
  obtain ⟨z6, hz6⟩ : ∃ z6, zs ++ [48] ++ enc 6 n.m.toNat = z6 := ⟨_, rfl⟩
  have Lz6 : z6.length = 29 := by rw [← hz6]; simp [hzl, enc_length]
  rw [hz6] at D6
  have Hz6 := Lib.hid hz6
  clear hz6
  go_wp2_with fail
  refine wp_region_selB w2.heap.size [0, 1, 2, 3, 4, 6, 7, 8] 3 rfl (by kernel_rfl) (by kernel_rfl) (by kernel_rfl) (by kernel_rfl) (fun _ d _ _ _ h => by cases d <;> exact h) ?_
  intro W6 hW6
  have dr6 : Below w2.heap.size w6 W6 := by subst hW6; exact (Below.refl _ _).drew
  have X6 := x6.below dr6 x2.lt
  have E6 := e6.trans dr6
  have c14 : ∀ q : Beh w2.heap.size W6, q.w.cell? ⟨w.heap.size, 14, none⟩ = some (.int .u32 n.ip) := fun q => Blk.cell (Blk.below X6 q.h x2.lt) 14 rfl
  have c15 : ∀ q : Beh w2.heap.size W6, q.w.cell? ⟨w.heap.size, 15, none⟩ = some (.bool n.h) := fun q => Blk.cell (Blk.below X6 q.h x2.lt) 15 rfl
  have c19 : ∀ q : Beh w2.heap.size W6, q.w.cell? ⟨w.heap.size, 19, none⟩ = some (.int .u32 n.l) := fun q => Blk.cell (Blk.below X6 q.h x2.lt) 19 rfl
  replace D6 := D6.below (show Below w6.heap.size w6 W6 by subst hW6; exact (Below.refl _ _).drew)
  clear hW6 x6
  simp only [pickOps, List.filterMap_cons, List.filterMap_nil, List.getElem?_cons_zero, List.getElem?_cons_succ, Option.map_some, List.map_cons, List.map_nil]
  repeat (go_big_quiet_step (fail))
  refine wpQuiet_nil ?_
  clear c14 c15 c19
  refine wpAnyH_one (k := 5) (by kernel_rfl) rfl (fun K hQ => ?_)
  go_simp
  refine (address_is w2.heap.size (z6) (by simp [Lz6]) v6 n.ip n.h i0 i1 W6 (E6.trans (Below.refl _ _)).size D6).mono ?_
  rintro r w7 ⟨v7, rfl, D7, f7, -⟩
  have b7 : Below w2.heap.size W6 w7 := ((Below.refl _ _)).trans f7
  refine hQ _ _ ⟨⟨_, b7⟩, rfl⟩ ?_
  clear hQ K
  refine wpAnyH_one (k := 9) (by kernel_rfl) rfl (fun K hQ => ?_)
  go_simp
  refine (put_is w2.heap.size (z6 ++ adrB n.ip n.h) (by simp [Lz6, enc_length, adrB, HH.out]) v7 n.l 3 l0 (by omega) (by decide) w7 (E6.trans b7).size D7).mono ?_
  rintro r w8 ⟨v8, rfl, D8, f8, -⟩
  have b8 : Below w2.heap.size W6 w8 := (b7).trans f8
  refine hQ _ _ ⟨⟨_, b8⟩, rfl⟩ ?_
  clear hQ K
  refine wpAnyH_one (k := 10) (by kernel_rfl) rfl (fun K hQ => ?_)
  go_simp
  refine hQ _ _ ⟨⟨_, b8⟩, rfl⟩ ?_
  clear hQ K
  refine wpAnyH_done (by kernel_rfl) ?_ 0
  have e8 := E6.trans b8
  have x8 := x2.below e8 x2.lt
  obtain ⟨z8, hz8⟩ : ∃ z8, z6 ++ adrB n.ip n.h ++ enc 3 n.l.toNat = z8 := ⟨_, rfl⟩
  have Lz8 : z8.length = 37 := by rw [← hz8]; simp [Lz6, adrB, HH.out, enc_length]
  rw [hz8] at D8
  have Hz8 := Lib.hid hz8
  clear hz8
  have h20 := Blk.cell x8 20 (v := .int .u32 n.l2) rfl
  rw [HL.out] at h20
  obtain ⟨sa, sc, hsh⟩ := (DatB.dat D8).shape
  rw [Lz8] at hsh
  subst hsh
  have h0 := Blk.cell x8 0 (v := .int .i64 n.k) rfl
  rw [hk] at h0
  go_wp2_with (first
    | (refine at_lit2 rfl (.tmp 93) (.tmp 96) rfl 2 37 rfl rfl w2.heap.size e8.size ?_; rintro wl ul Dl kl)
    | (refine at_app rfl (.tmp 97) (.tmp 98) rfl _ _ rfl rfl w2.heap.size [2, 37] z8 Dl ((DatB.dat D8).below kl) (by have := kl.size; have := e8.size; omega) (by rw [Lz8]; decide) ?_; rintro wf vf Df ff -))
  have ef := e8.trans ((kl.mono e8.size).trans ff)
  go_ret2
  exact ⟨_, rfl, by have q := Df.dat; rw [← Hz8.out, ← Hz6.out, ← HZ.out] at q; exact q, K2.trans (ef.mono K2.size)⟩
set_option maxHeartbeats 4000000 in
theorem rbytes_2tt (n : NL) (hn : n.Ok) (hk : n.k = 2) (hc : n.chk = 0) (hh : n.h = true) (hz : n.l2 ≠ 0) (w : World) : Calls Try.prog 16 #[n.v] w fun r w' => ∃ v, r = .returned (.tuple #[v, .int .i64 0]) ∧ Dat w' v n.code ∧ Below w.heap.size w w' := by
  have hS := small_of hc
  obtain ⟨n0, n1⟩ := hS.pn
  clear hS
  have hcode : n.code = [2, (n.val.length : Int)] ++ n.val := by unfold NL.code; rw [hk]; rfl
  have hval : n.val = enc 8 n.rd.toNat ++ esiL n.e ++ enc 4 n.t.toNat ++ [48] ++ enc 6 n.m.toNat ++ adrB n.ip n.h ++ enc 3 n.l.toNat ++ enc 3 n.l2.toNat := by unfold NL.val; rw [if_neg (by omega), if_pos hk]; unfold NL.macV; rw [if_neg hz]; rfl
  have hvl : n.val.length = 40 := by rw [hval]; simp [enc_length, esiL_len, adrB, hh]
  rw [hcode, hvl, hval]
  clear hcode hval hvl
  have hC := fun w => rchk_is n w
  rw [hc] at hC
  obtain ⟨r0, r1⟩ := hn.rd
  obtain ⟨t0, t1⟩ := hn.t
  obtain ⟨l0, l1⟩ := hn.l
  obtain ⟨i0, i1⟩ := hn.ip
  obtain ⟨p0, p1⟩ := hn.pi
  obtain ⟨g0, g1⟩ := hn.g
  obtain ⟨m0, m1⟩ := hn.m
  obtain ⟨q0, q1⟩ := hn.l2
  clear hc hn
  have HH := Lib.hid hh
  clear hh
  have hnz : (n.l2 != 0) = true := by simpa using hz
  have HL := Lib.hid hz
  clear hz
  have HN := Lib.hid hnz
  clear hnz
  unfold NL.v at hC ⊢
  go_enter Try.func16, Try.ntmps16
  go_wp2_with (first
    | (refine at_box rfl _ rfl n rfl ?_; rintro w1 ⟨x1, k1, s1⟩; clear s1)
    | (refine at_load rfl _ rfl w.heap.size rfl n x1 ?_))
  go_at_call 18
  refine (hC _).mono ?_
  rintro r w2 ⟨rfl, k2⟩
  have x2 := x1.below k2 x1.lt
  have K2 := k1.trans (k2.mono k1.size)
  clear hC x1 k1 k2
  have a0 := Blk.cell x2 0 (v := .int .i64 n.k) rfl
  rw [hk] at a0
  have a1 := Blk.cell x2 1 (v := .int .u64 n.rd) rfl
  go_wp2_with fail
  go_at_call 36
  refine (put_is w2.heap.size [] (by decide) (.slice none 0 0) n.rd 8 r0 r1 (by decide) w2 (Nat.le_refl _) (datB_nil _ _)).mono ?_
  rintro r w3 ⟨v3, rfl, D3, e3, -⟩
  rw [List.nil_append] at D3
  clear a0 a1
  have x3 := x2.below e3 x2.lt
  have a0 := Blk.cell x3 0 (v := .int .i64 n.k) rfl
  rw [hk] at a0
  have a2 := Blk.cell x3 12 (v := .int .u32 n.t) rfl
  go_wp2_with (refine at_appS rfl (.tmp 17) (.tmp 19) rfl _ rfl w.heap.size 2 10 10 rfl w2.heap.size (enc 8 n.rd.toNat) (esiL n.e) D3 (esiL_len _) x3.esiCells e3.size (by rw [enc_length, esiL_len]; decide) ?_; rintro w4 v4 D4 f4 -; have e4 := e3.trans f4; have x4 := x2.below e4 x2.lt; have g0' := Blk.cell x4 0 (v := .int .i64 n.k) rfl; rw [hk] at g0'; have g2' := Blk.cell x4 12 (v := .int .u32 n.t) rfl; clear a0 a2 f4 D3)
  go_at_call 36
  refine (put_is w2.heap.size (enc 8 n.rd.toNat ++ esiL n.e) (by simp [enc_length, esiL_len]) v4 n.t 4 t0 (by omega) (by decide) w4 e4.size D4).mono ?_
  rintro r w5 ⟨v5, rfl, D5, f5, -⟩
  have e5 := e4.trans f5
  clear g0' g2' D4 f5
  have x5 := x2.below e5 x2.lt
  have h0 := Blk.cell x5 0 (v := .int .i64 n.k) rfl
  rw [hk] at h0
  obtain ⟨zs, hzs⟩ : ∃ zs, enc 8 n.rd.toNat ++ esiL n.e ++ enc 4 n.t.toNat = zs := ⟨_, rfl⟩
  have hzl : zs.length = 22 := by rw [← hzs]; simp [enc_length, esiL_len]
  rw [hzs] at D5
  have HZ := Lib.hid hzs
  clear hzs
  go_wp2_with fail
  clear h0
  refine wp_region_selB w2.heap.size [0, 3, 4] 4 rfl (by kernel_rfl) (by kernel_rfl) (by kernel_rfl) (by kernel_rfl) (fun _ d _ _ _ h => by cases d <;> exact h) ?_
  intro W5 hW5
  have dr5 : Below w2.heap.size w5 W5 := by subst hW5; exact (Below.refl _ _).drew
  have X5 := x5.below dr5 x2.lt
  have E5 := e5.trans dr5
  have c13 : ∀ q : Beh w2.heap.size W5, q.w.cell? ⟨w.heap.size, 13, none⟩ = some (.int .u64 n.m) := fun q => Blk.cell (Blk.below X5 q.h x2.lt) 13 rfl
  replace D5 := D5.below (show Below w5.heap.size w5 W5 by subst hW5; exact (Below.refl _ _).drew)
  clear hW5 x5
  simp only [pickOps, List.filterMap_cons, List.filterMap_nil, List.getElem?_cons_zero, List.getElem?_cons_succ, Option.map_some, List.map_cons, List.map_nil]
  repeat (go_big_quiet_step (fail))
  refine wpQuiet_nil ?_
  clear c13
  have Dl5 := dat_one W5 48
  have dl5 : Below w2.heap.size W5 (W5.alloc (.cells #[.int .u8 48] 5)) := (Below.refl _ _).alloc E5.size _
  have dm5 : Below W5.heap.size W5 (W5.alloc (.cells #[.int .u8 48] 5)) := (Below.refl _ _).alloc (Nat.le_refl _) _
  refine wpAnyH_one (k := 1) (by kernel_rfl) rfl (fun K hQ => ?_)
  go_simp
  refine hQ _ _ ⟨⟨_, dl5⟩, rfl⟩ ?_
  clear hQ K
  obtain ⟨va5, wa5, hr, DA5, hg⟩ := append_dat _ 23 w2.heap.size _ _ _ _ (D5.below dm5) Dl5 (E5.trans dl5).size (by rw [hzl]; simp)
  have da5 : Below w2.heap.size W5 wa5 := dl5.grown hg (E5.trans dl5).size fun k hk => (World.ownsRow.lt (D5.below dm5) k hk).1
  have HR := Lib.hid hr
  clear hr hg
  refine wpAnyH_one (k := 2) (by kernel_rfl) rfl (fun K hQ => ?_)
  refine if_true_prop (by kernel_rfl) ?_
  refine Lib.wp_append_run _ _ _ 23 23 rfl _ _ rfl rfl _ _ HR.out ?_
  refine hQ _ _ ⟨⟨_, da5⟩, rfl⟩ ?_
  clear hQ K
  clear HR
  refine wpAnyH_one (k := 5) (by kernel_rfl) rfl (fun K hQ => ?_)
  go_simp
  refine (put_is w2.heap.size (zs ++ [48]) (by simp [hzl]) va5 n.m 6 m0 (by omega) (by decide) wa5 (E5.trans da5).size DA5).mono ?_
  rintro r w6 ⟨v6, rfl, D6, f6, -⟩
  have b6 : Below w2.heap.size W5 w6 := (da5).trans f6
  refine hQ _ _ ⟨⟨_, b6⟩, rfl⟩ ?_
  clear hQ K
  refine wpAnyH_one (k := 6) (by kernel_rfl) rfl (fun K hQ => ?_)
  go_simp
  refine hQ _ _ ⟨⟨_, b6⟩, rfl⟩ ?_
  clear hQ K
  refine wpAnyH_done (by kernel_rfl) ?_ 0
  have e6 := E5.trans b6
  have x6 := x2.below e6 x2.lt
  obtain ⟨z6, hz6⟩ : ∃ z6, zs ++ [48] ++ enc 6 n.m.toNat = z6 := ⟨_, rfl⟩
  have Lz6 : z6.length = 29 := by rw [← hz6]; simp [hzl, enc_length]
  rw [hz6] at D6
  have Hz6 := Lib.hid hz6
  clear hz6
  go_wp2_with fail
  refine wp_region_selB w2.heap.size [0, 1, 2, 3, 4, 6, 7, 8] 3 rfl (by kernel_rfl) (by kernel_rfl) (by kernel_rfl) (by kernel_rfl) (fun _ d _ _ _ h => by cases d <;> exact h) ?_
  intro W6 hW6
  have dr6 : Below w2.heap.size w6 W6 := by subst hW6; exact (Below.refl _ _).drew
  have X6 := x6.below dr6 x2.lt
  have E6 := e6.trans dr6
  have c14 : ∀ q : Beh w2.heap.size W6, q.w.cell? ⟨w.heap.size, 14, none⟩ = some (.int .u32 n.ip) := fun q => Blk.cell (Blk.below X6 q.h x2.lt) 14 rfl
  have c15 : ∀ q : Beh w2.heap.size W6, q.w.cell? ⟨w.heap.size, 15, none⟩ = some (.bool n.h) := fun q => Blk.cell (Blk.below X6 q.h x2.lt) 15 rfl
  have c19 : ∀ q : Beh w2.heap.size W6, q.w.cell? ⟨w.heap.size, 19, none⟩ = some (.int .u32 n.l) := fun q => Blk.cell (Blk.below X6 q.h x2.lt) 19 rfl
  replace D6 := D6.below (show Below w6.heap.size w6 W6 by subst hW6; exact (Below.refl _ _).drew)
  clear hW6 x6
  simp only [pickOps, List.filterMap_cons, List.filterMap_nil, List.getElem?_cons_zero, List.getElem?_cons_succ, Option.map_some, List.map_cons, List.map_nil]
  repeat (go_big_quiet_step (fail))
  refine wpQuiet_nil ?_
  clear c14 c15 c19
  refine wpAnyH_one (k := 5) (by kernel_rfl) rfl (fun K hQ => ?_)
  go_simp
  refine (address_is w2.heap.size (z6) (by simp [Lz6]) v6 n.ip n.h i0 i1 W6 (E6.trans (Below.refl _ _)).size D6).mono ?_
  rintro r w7 ⟨v7, rfl, D7, f7, -⟩
  have b7 : Below w2.heap.size W6 w7 := ((Below.refl _ _)).trans f7
  refine hQ _ _ ⟨⟨_, b7⟩, rfl⟩ ?_
  clear hQ K
  refine wpAnyH_one (k := 9) (by kernel_rfl) rfl (fun K hQ => ?_)
  go_simp
  refine (put_is w2.heap.size (z6 ++ adrB n.ip n.h) (by simp [Lz6, enc_length, adrB, HH.out]) v7 n.l 3 l0 (by omega) (by decide) w7 (E6.trans b7).size D7).mono ?_
  rintro r w8 ⟨v8, rfl, D8, f8, -⟩
  have b8 : Below w2.heap.size W6 w8 := (b7).trans f8
  refine hQ _ _ ⟨⟨_, b8⟩, rfl⟩ ?_
  clear hQ K
  refine wpAnyH_one (k := 10) (by kernel_rfl) rfl (fun K hQ => ?_)
  go_simp
  refine hQ _ _ ⟨⟨_, b8⟩, rfl⟩ ?_
  clear hQ K
  refine wpAnyH_done (by kernel_rfl) ?_ 0
  have e8 := E6.trans b8
  have x8 := x2.below e8 x2.lt
  obtain ⟨z8, hz8⟩ : ∃ z8, z6 ++ adrB n.ip n.h ++ enc 3 n.l.toNat = z8 := ⟨_, rfl⟩
  have Lz8 : z8.length = 37 := by rw [← hz8]; simp [Lz6, adrB, HH.out, enc_length]
  rw [hz8] at D8
  have Hz8 := Lib.hid hz8
  clear hz8
  have h20 := Blk.cell x8 20 (v := .int .u32 n.l2) rfl
  have hnz := HN.out
  go_wp2_with fail
  go_at_call 36
  refine (put_is w2.heap.size z8 (by simp [Lz8]) v8 n.l2 3 q0 (by omega) (by decide) w8 e8.size D8).mono ?_
  rintro r w9 ⟨v9, rfl, D9, f9, -⟩
  have e9 := e8.trans f9
  clear h20 D8 f9 hnz
  have x9 := x2.below e9 x2.lt
  obtain ⟨z9, hz9⟩ : ∃ z9, z8 ++ enc 3 n.l2.toNat = z9 := ⟨_, rfl⟩
  have Lz9 : z9.length = 40 := by rw [← hz9]; simp [Lz8, enc_length]
  rw [hz9] at D9
  have Hz9 := Lib.hid hz9
  clear hz9
  obtain ⟨sa, sc, hsh⟩ := (DatB.dat D9).shape
  rw [Lz9] at hsh
  subst hsh
  have h0 := Blk.cell x9 0 (v := .int .i64 n.k) rfl
  rw [hk] at h0
  go_wp2_with (first
    | (refine at_lit2 rfl (.tmp 93) (.tmp 96) rfl 2 40 rfl rfl w2.heap.size e9.size ?_; rintro wl ul Dl kl)
    | (refine at_app rfl (.tmp 97) (.tmp 98) rfl _ _ rfl rfl w2.heap.size [2, 40] z9 Dl ((DatB.dat D9).below kl) (by have := kl.size; have := e9.size; omega) (by rw [Lz9]; decide) ?_; rintro wf vf Df ff -))
  have ef := e9.trans ((kl.mono e9.size).trans ff)
  go_ret2
  exact ⟨_, rfl, by have q := Df.dat; rw [← Hz9.out, ← Hz8.out, ← Hz6.out, ← HZ.out] at q; exact q, K2.trans (ef.mono K2.size)⟩
theorem rbytes_ok (n : NL) (hn : n.Ok) (hc : n.chk = 0) (w : World) : Calls Try.prog 16 #[n.v] w fun r w' => ∃ v, r = .returned (.tuple #[v, .int .i64 0]) ∧ Dat w' v n.code ∧ Below w.heap.size w w' := by
  rcases kind_of_lay (chk_zero hc).1 with h | h | h | h | h
  · exact rbytes_1 n hn h hc w
  · cases A : n.h
    · by_cases B : n.l2 = 0
      · exact rbytes_2ff n hn h hc A B w
      · exact rbytes_2ft n hn h hc A B w
    · by_cases B : n.l2 = 0
      · exact rbytes_2tf n hn h hc A B w
      · exact rbytes_2tt n hn h hc A B w
  · exact rbytes_3 n hn h hc w
  · exact rbytes_4 n hn h hc w
  · exact rbytes_5 n hn h hc w
end Go.Proofs.Ytejcclcckgdbgaa
