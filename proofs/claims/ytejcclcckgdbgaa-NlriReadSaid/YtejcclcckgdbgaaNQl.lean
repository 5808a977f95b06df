/- The reference of layer 4: Bytes at kind 5. No condition. -/
import Derived.Test.YtejcclcckgdbgaaNQk
import Derived.Test.YtejcclcckgdbgaaCRs
namespace Go.Proofs.Ytejcclcckgdbgaa
open Go.RowKit Go.Sort
set_option linter.unusedVariables false
set_option linter.unusedSimpArgs false
set_option maxRecDepth 100000

structure Beh (B : Nat) (W : World) where
  w : World
  h : Below B W w
instance (B : Nat) (W : World) : Inhabited (Beh B W) := ⟨⟨W, Below.refl _ _⟩⟩

/-- A region that draws its order: chosen operations that look at no memory, or at blocks below B, are taken first. -/
theorem wp_region_selB {P : Program} {id : Nat} {Q : Exit → Act → World → Prop} {a : Act} {w : World} {l : List Oper} (B : Nat) (ks : List Nat) (g : Nat) (hn : g + (pickOps l ks).length = l.toArray.size) (hm : P.follows .mixedOrders = true) (hs : Region.noSelect l.toArray = true)
    (hp : ((pickOps l ks).all fun x => plainOp x.2.op) = true) (hB : lexSel l.toArray (pickOps l ks) (Array.replicate l.toArray.size false) = true) (hQ : ∀ c d v a w, Q (.panic c) (a.put d v) w → Q (.panic c) a w)
    (h : ∀ W, W = w.drew → wpQuiet P l.toArray (fun w' => ∃ q : Beh B W, w' = q.w) (fun a' => wpAnyH P .any l.toArray Q (fun w' => ∃ q : Beh B W, w' = q.w) g (listedSel (pickOps l ks) (Array.replicate l.toArray.size false)) a' W) ((pickOps l ks).map (·.2)) a) : (Code.region id l.toArray true).wp P Q a w := by
  refine wp_region_held (S := fun w' => ∃ q : Beh B w.drew, w' = q.w) hm ?_
  have H := wpAnyH_sel (S := fun w' => ∃ q : Beh B w.drew, w' = q.w) (g := g) (w := w.drew) hs hQ ⟨⟨_, Below.refl _ _⟩, rfl⟩ (pickOps l ks) (Array.replicate l.toArray.size false) a (pickOps_ok l ks) hp hB (h w.drew rfl)
  rw [hn] at H
  exact H
theorem enc_one {x : Int} (h0 : 0 ≤ x) (h1 : x < 256) : enc 1 x.toNat = [x] := by
  obtain ⟨k, rfl⟩ : ∃ k : Nat, x = k := ⟨x.toNat, by omega⟩
  have : k < 256 := by omega
  simp [enc, Nat.mod_eq_of_lt this]
set_option maxHeartbeats 4000000 in
theorem rbytes_5 (n : NL) (hn : n.Ok) (hk : n.k = 5) (hc : n.chk = 0) (w : World) : Calls Try.prog 16 #[n.v] w fun r w' => ∃ v, r = .returned (.tuple #[v, .int .i64 0]) ∧ Dat w' v n.code ∧ Below w.heap.size w w' := by
  have hS := small_of hc
  obtain ⟨n0, n1⟩ := hS.pn
  clear hS
  have hcode : n.code = [5, (n.val.length : Int)] ++ n.val := by unfold NL.code; rw [hk]; rfl
  have hval : n.val = enc 8 n.rd.toNat ++ esiL n.e ++ enc 4 n.t.toNat ++ [n.pn] ++ enc 4 n.pi.toNat ++ enc 4 n.g.toNat ++ enc 3 n.l.toNat := by unfold NL.val; rw [if_neg (by omega), if_neg (by omega), if_neg (by omega), if_neg (by omega)]; unfold NL.prefixV; rw [enc_one n0 n1]
  have hvl : n.val.length = 34 := by rw [hval]; simp [enc_length, esiL_len, adrB]
  rw [hcode, hvl, hval]
  clear hcode hval hvl
  have hC := fun w => rchk_is n w
  rw [hc] at hC
  obtain ⟨r0, r1⟩ := hn.rd
  obtain ⟨t0, t1⟩ := hn.t
  obtain ⟨l0, l1⟩ := hn.l
  obtain ⟨i0, i1⟩ := hn.ip
  obtain ⟨p0, p1⟩ := hn.pi
  obtain ⟨g0, g1⟩ := hn.g
  obtain ⟨m0, m1⟩ := hn.m
  obtain ⟨q0, q1⟩ := hn.l2
  clear hc hn
  unfold NL.v at hC ⊢
  go_enter Try.func16, Try.ntmps16
  go_wp2_with (first
    | (refine at_box rfl _ rfl n rfl ?_; rintro w1 ⟨x1, k1, s1⟩; clear s1)
    | (refine at_load rfl _ rfl w.heap.size rfl n x1 ?_))
  go_at_call 18
  refine (hC _).mono ?_
  rintro r w2 ⟨rfl, k2⟩
  have x2 := x1.below k2 x1.lt
  have K2 := k1.trans (k2.mono k1.size)
  clear hC x1 k1 k2
  have a0 := Blk.cell x2 0 (v := .int .i64 n.k) rfl
  rw [hk] at a0
  have a1 := Blk.cell x2 1 (v := .int .u64 n.rd) rfl
  go_wp2_with fail
  go_at_call 36
  refine (put_is w2.heap.size [] (by decide) (.slice none 0 0) n.rd 8 r0 r1 (by decide) w2 (Nat.le_refl _) (datB_nil _ _)).mono ?_
  rintro r w3 ⟨v3, rfl, D3, e3, -⟩
  rw [List.nil_append] at D3
  clear a0 a1
  have x3 := x2.below e3 x2.lt
  have a0 := Blk.cell x3 0 (v := .int .i64 n.k) rfl
  rw [hk] at a0
  have a2 := Blk.cell x3 12 (v := .int .u32 n.t) rfl
  go_wp2_with (refine at_appS rfl (.tmp 17) (.tmp 19) rfl _ rfl w.heap.size 2 10 10 rfl w2.heap.size (enc 8 n.rd.toNat) (esiL n.e) D3 (esiL_len _) x3.esiCells e3.size (by rw [enc_length, esiL_len]; decide) ?_; rintro w4 v4 D4 f4 -; have e4 := e3.trans f4; have x4 := x2.below e4 x2.lt; have g0' := Blk.cell x4 0 (v := .int .i64 n.k) rfl; rw [hk] at g0'; have g2' := Blk.cell x4 12 (v := .int .u32 n.t) rfl; clear a0 a2 f4 D3)
  go_at_call 36
  refine (put_is w2.heap.size (enc 8 n.rd.toNat ++ esiL n.e) (by simp [enc_length, esiL_len]) v4 n.t 4 t0 (by omega) (by decide) w4 e4.size D4).mono ?_
  rintro r w5 ⟨v5, rfl, D5, f5, -⟩
  have e5 := e4.trans f5
  clear g0' g2' D4 f5
  have x5 := x2.below e5 x2.lt
  have h0 := Blk.cell x5 0 (v := .int .i64 n.k) rfl
  rw [hk] at h0
  obtain ⟨zs, hzs⟩ : ∃ zs, enc 8 n.rd.toNat ++ esiL n.e ++ enc 4 n.t.toNat = zs := ⟨_, rfl⟩
  have hzl : zs.length = 22 := by rw [← hzs]; simp [enc_length, esiL_len]
  rw [hzs] at D5
  have HZ := Lib.hid hzs
  clear hzs
  go_wp2_with fail
  clear h0
  refine wp_region_selB w2.heap.size [0, 1, 2, 3, 4, 7, 8, 9, 10] 4 rfl (by kernel_rfl) (by kernel_rfl) (by kernel_rfl) (by kernel_rfl) (fun _ d _ _ _ h => by cases d <;> exact h) ?_
  intro W5 hW5
  have dr5 : Below w2.heap.size w5 W5 := by subst hW5; exact (Below.refl _ _).drew
  have X5 := x5.below dr5 x2.lt
  have E5 := e5.trans dr5
  have c16 : ∀ q : Beh w2.heap.size W5, q.w.cell? ⟨w.heap.size, 16, none⟩ = some (.int .u32 n.pi) := fun q => Blk.cell (Blk.below X5 q.h x2.lt) 16 rfl
  have c17 : ∀ q : Beh w2.heap.size W5, q.w.cell? ⟨w.heap.size, 17, none⟩ = some (.int .i64 n.pn) := fun q => Blk.cell (Blk.below X5 q.h x2.lt) 17 rfl
  replace D5 := D5.below (show Below w5.heap.size w5 W5 by subst hW5; exact (Below.refl _ _).drew)
  clear hW5 x5
  simp only [pickOps, List.filterMap_cons, List.filterMap_nil, List.getElem?_cons_zero, List.getElem?_cons_succ, Option.map_some, List.map_cons, List.map_nil]
  repeat (go_big_quiet_step (fail))
  refine wpQuiet_nil ?_
  clear c16 c17
  have Dl5 := dat_one W5 n.pn
  have dl5 : Below w2.heap.size W5 (W5.alloc (.cells #[.int .u8 n.pn] 5)) := (Below.refl _ _).alloc E5.size _
  have dm5 : Below W5.heap.size W5 (W5.alloc (.cells #[.int .u8 n.pn] 5)) := (Below.refl _ _).alloc (Nat.le_refl _) _
  refine wpAnyH_one (k := 5) (by kernel_rfl) rfl (fun K hQ => ?_)
  go_simp
  refine hQ _ _ ⟨⟨_, dl5⟩, rfl⟩ ?_
  clear hQ K
  obtain ⟨va5, wa5, hr, DA5, hg⟩ := append_dat _ 23 w2.heap.size _ _ _ _ (D5.below dm5) Dl5 (E5.trans dl5).size (by rw [hzl]; simp)
  have da5 : Below w2.heap.size W5 wa5 := dl5.grown hg (E5.trans dl5).size fun k hk => (World.ownsRow.lt (D5.below dm5) k hk).1
  have HR := Lib.hid hr
  clear hr hg
  refine wpAnyH_one (k := 6) (by kernel_rfl) rfl (fun K hQ => ?_)
  refine if_true_prop (by kernel_rfl) ?_
  refine Lib.wp_append_run _ _ _ 23 23 rfl _ _ rfl rfl _ _ HR.out ?_
  refine hQ _ _ ⟨⟨_, da5⟩, rfl⟩ ?_
  clear hQ K
  clear HR
  refine wpAnyH_one (k := 11) (by kernel_rfl) rfl (fun K hQ => ?_)
  go_simp
  refine (put_is w2.heap.size (zs ++ [n.pn]) (by simp [hzl]) va5 n.pi 4 p0 (by omega) (by decide) wa5 (E5.trans da5).size DA5).mono ?_
  rintro r w6 ⟨v6, rfl, D6, f6, -⟩
  have b6 : Below w2.heap.size W5 w6 := (da5).trans f6
  refine hQ _ _ ⟨⟨_, b6⟩, rfl⟩ ?_
  clear hQ K
  refine wpAnyH_one (k := 12) (by kernel_rfl) rfl (fun K hQ => ?_)
  go_simp
  refine hQ _ _ ⟨⟨_, b6⟩, rfl⟩ ?_
  clear hQ K
  refine wpAnyH_done (by kernel_rfl) ?_ 0
  have e6 := E5.trans b6
  have x6 := x2.below e6 x2.lt
  obtain ⟨z6, hz6⟩ : ∃ z6, zs ++ [n.pn] ++ enc 4 n.pi.toNat = z6 := ⟨_, rfl⟩
  have Lz6 : z6.length = 27 := by rw [← hz6]; simp [hzl, enc_length]
  rw [hz6] at D6
  have Hz6 := Lib.hid hz6
  clear hz6
  go_wp2_with fail
  refine wp_region_selB w2.heap.size [0, 1, 2, 3, 5, 6, 7] 3 rfl (by kernel_rfl) (by kernel_rfl) (by kernel_rfl) (by kernel_rfl) (fun _ d _ _ _ h => by cases d <;> exact h) ?_
  intro W6 hW6
  have dr6 : Below w2.heap.size w6 W6 := by subst hW6; exact (Below.refl _ _).drew
  have X6 := x6.below dr6 x2.lt
  have E6 := e6.trans dr6
  have c18 : ∀ q : Beh w2.heap.size W6, q.w.cell? ⟨w.heap.size, 18, none⟩ = some (.int .u32 n.g) := fun q => Blk.cell (Blk.below X6 q.h x2.lt) 18 rfl
  have c19 : ∀ q : Beh w2.heap.size W6, q.w.cell? ⟨w.heap.size, 19, none⟩ = some (.int .u32 n.l) := fun q => Blk.cell (Blk.below X6 q.h x2.lt) 19 rfl
  replace D6 := D6.below (show Below w6.heap.size w6 W6 by subst hW6; exact (Below.refl _ _).drew)
  clear hW6 x6
  simp only [pickOps, List.filterMap_cons, List.filterMap_nil, List.getElem?_cons_zero, List.getElem?_cons_succ, Option.map_some, List.map_cons, List.map_nil]
  repeat (go_big_quiet_step (fail))
  refine wpQuiet_nil ?_
  clear c18 c19
  refine wpAnyH_one (k := 4) (by kernel_rfl) rfl (fun K hQ => ?_)
  go_simp
  refine (put_is w2.heap.size (z6) (by simp [Lz6]) v6 n.g 4 g0 (by omega) (by decide) W6 (E6.trans (Below.refl _ _)).size D6).mono ?_
  rintro r w7 ⟨v7, rfl, D7, f7, -⟩
  have b7 : Below w2.heap.size W6 w7 := ((Below.refl _ _)).trans f7
  refine hQ _ _ ⟨⟨_, b7⟩, rfl⟩ ?_
  clear hQ K
  refine wpAnyH_one (k := 8) (by kernel_rfl) rfl (fun K hQ => ?_)
  go_simp
  refine (put_is w2.heap.size (z6 ++ enc 4 n.g.toNat) (by simp [Lz6, enc_length]) v7 n.l 3 l0 (by omega) (by decide) w7 (E6.trans b7).size D7).mono ?_
  rintro r w8 ⟨v8, rfl, D8, f8, -⟩
  have b8 : Below w2.heap.size W6 w8 := (b7).trans f8
  refine hQ _ _ ⟨⟨_, b8⟩, rfl⟩ ?_
  clear hQ K
  refine wpAnyH_one (k := 9) (by kernel_rfl) rfl (fun K hQ => ?_)
  go_simp
  refine hQ _ _ ⟨⟨_, b8⟩, rfl⟩ ?_
  clear hQ K
  refine wpAnyH_done (by kernel_rfl) ?_ 0
  have e8 := E6.trans b8
  have x8 := x2.below e8 x2.lt
  obtain ⟨z8, hz8⟩ : ∃ z8, z6 ++ enc 4 n.g.toNat ++ enc 3 n.l.toNat = z8 := ⟨_, rfl⟩
  have Lz8 : z8.length = 34 := by rw [← hz8]; simp [Lz6, enc_length]
  rw [hz8] at D8
  have Hz8 := Lib.hid hz8
  clear hz8
  obtain ⟨sa, sc, hsh⟩ := (DatB.dat D8).shape
  rw [Lz8] at hsh
  subst hsh
  have h0 := Blk.cell x8 0 (v := .int .i64 n.k) rfl
  rw [hk] at h0
  go_wp2_with (first
    | (refine at_lit2 rfl (.tmp 93) (.tmp 96) rfl 5 34 rfl rfl w2.heap.size e8.size ?_; rintro wl ul Dl kl)
    | (refine at_app rfl (.tmp 97) (.tmp 98) rfl _ _ rfl rfl w2.heap.size [5, 34] z8 Dl ((DatB.dat D8).below kl) (by have := kl.size; have := e8.size; omega) (by rw [Lz8]; decide) ?_; rintro wf vf Df ff -))
  have ef := e8.trans ((kl.mono e8.size).trans ff)
  go_ret2
  exact ⟨_, rfl, by have q := Df.dat; rw [← Hz8.out, ← Hz6.out, ← HZ.out] at q; exact q, K2.trans (ef.mono K2.size)⟩
end Go.Proofs.Ytejcclcckgdbgaa
