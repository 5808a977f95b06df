/- The reference's reader: parts; a new one; a copy of octets; where a new reader's octets lie. No condition. -/
import Derived.Test.YtailaenkmknpiaaRBy
namespace Go.Proofs.Ytailaenkmknpiaa
open Go.RowKit Go.Sort
set_option linter.unusedVariables false
set_option linter.unusedSimpArgs false
set_option maxRecDepth 100000

/-- Without a fault there is no position of one. -/
def RS.pure (R : RS) : Prop := R.er = 0 → R.ea = 0
theorem RS.pure.fail {R : RS} (h : R.pure) (e : Int) : (R.fail e).pure := by
  unfold RS.fail
  split
  · next q => exact fun e => absurd e q.2
  · exact h
theorem RS.pure.next {R : RS} (h : R.pure) (k : Int) : (R.next k).pure := by
  unfold RS.next
  split
  · exact h
  · exact h.fail 4
theorem RS.pure.sub {R : RS} (h : R.pure) (k : Int) : (R.sub k).pure := h.next k

set_option maxHeartbeats 4000000 in
theorem rf_Sub (w : World) (b : Nat) (R : RS) (u : Value) (all : List Int) (k : Int) (h : Rf w b R u all) (hp : R.pure) : Calls Try.prog 30 #[.pointer (some ⟨b, 0, none⟩), .int .i64 k] w fun e w' => ∃ c, e = .returned (.pointer (some ⟨c, 0, none⟩)) ∧ w.heap.size ≤ c ∧ Rf w' c (R.sub k) u all ∧ Rf w' b (R.next k) u all ∧ But w.heap.size b w w' := by
  by_cases hk : R.ok k
  · have hyes := rf_Has_yes w b R u all k h hk
    have en : R.next k = R.adv k.toNat := if_pos hk
    have ep0 : R.part k = (R.xs.drop R.n).take k.toNat := if_pos hk
    obtain ⟨k0, k1, k2⟩ := hk
    have hn0 := h.2.2.2.2.1
    have ep : R.part k = (all.drop (R.f + R.n)).take k.toNat := by
      rw [ep0]
      exact part_all h.2.2.1 (by omega)
    have es : R.sub k = ⟨R.f + R.n, 0, (all.drop (R.f + R.n)).take k.toNat, 0, 0⟩ := by
      unfold RS.sub
      rw [ep, en]
      show RS.mk _ _ _ R.er R.ea = _
      rw [k0, hp k0]
    rw [en, es]
    clear en ep ep0 es hp
    obtain ⟨n, rfl⟩ : ∃ n : Nat, k = n := ⟨k.toNat, by omega⟩
    rw [Int.toNat_natCast]
    obtain ⟨p, hpe⟩ : ∃ p, p = R.f + R.n := ⟨_, rfl⟩
    rw [← hpe]
    obtain ⟨a, c, hu⟩ := h.1.2.shape
    subst hu
    go_enter Try.func30, Try.ntmps30
    go_wp2_with fail
    go_at_call 54
    refine hyes.mono ?_
    rintro e w1 ⟨rfl, k1'⟩
    have h1 := h.below k1'
    have K1 := But.of_below (b := b) k1'
    clear h k1' hyes
    obtain ⟨⟨hbk, hdt⟩, r2, r3, r4, r5, r6⟩ := h1
    have hall : p + n ≤ all.length := by omega
    have c1 : w1.cell? ⟨b, 1, none⟩ = some (.int .i64 (p : Nat)) := by
      have := hbk.cell 1 (v := .int .i64 ((R.f : Int) + R.n)) rfl
      rw [this]
      congr 2
      omega
    have f1 := hbk.frozen 1
    have e1 : (p : Int) + n = (R.f : Int) + ((R.n + n : Nat) : Int) := by omega
    have hb2 : Blk (w1.setCell ⟨b, 1, none⟩ (.int .i64 ((p : Int) + n))) b 68 ((R.adv n).rcells (.slice a all.length c)) := by
      have := hbk.set 1 (.int .i64 ((p : Int) + n))
      rw [e1] at this ⊢
      exact this
    have hd2 : Dat (w1.setCell ⟨b, 1, none⟩ (.int .i64 ((p : Int) + n))) (.slice a all.length c) all := Dat.set hdt hbk (by decide) 1 _
    have K2 : But w.heap.size b w (w1.setCell ⟨b, 1, none⟩ (.int .i64 ((p : Int) + n))) := K1.setCell _ _
    clear hdt hbk K1
    have HP := Lib.hid hpe
    have E1 := Lib.hid e1
    clear hpe e1
    go_wp2_with fail
    generalize hW2 : w1.setCell ⟨b, 1, none⟩ (.int .i64 ((p : Int) + n)) = w2 at hb2 hd2 K2 ⊢
    clear hW2 c1 f1
    refine wp_region_selB w2.heap.size [0, 1, 2, 3, 4, 5, 6, 7, 8, 9, 10, 11, 12, 13, 14] 2 rfl (by kernel_rfl) (by kernel_rfl) (by kernel_rfl) (by kernel_rfl) (fun _ d _ _ _ h => by cases d <;> exact h) ?_
    intro W2 hW2
    have d2 : Below w2.heap.size w2 W2 := by subst hW2; exact (Below.refl _ _).drew
    have c0 : ∀ q : Beh w2.heap.size W2, q.w.cell? ⟨b, 0, none⟩ = some (.slice a all.length c) := fun q => Blk.cell (Blk.below (hb2.below d2 hb2.lt) q.h hb2.lt) 0 rfl
    have c1 : ∀ q : Beh w2.heap.size W2, q.w.cell? ⟨b, 1, none⟩ = some (.int .i64 ((p : Int) + n)) := fun q => Blk.cell (Blk.below (hb2.below d2 hb2.lt) q.h hb2.lt) 1 (by rw [E1.out]; rfl)
    have epn : (p : Int) + n - n = p := by omega
    have D2 := hd2.below d2
    clear hW2
    simp only [pickOps, List.filterMap_cons, List.filterMap_nil, List.getElem?_cons_zero, List.getElem?_cons_succ, Option.map_some, List.map_cons, List.map_nil]
    repeat (go_big_quiet_step (fail))
    refine wpQuiet_nil ?_
    clear c0 c1
    refine wpAnyH_one (k := 15) (by kernel_rfl) rfl (fun K hQ => ?_)
    go_simp
    have dl : ∀ o, Below w2.heap.size W2 (W2.alloc o) := fun o => (Below.refl _ _).alloc d2.size _
    refine hQ _ _ ⟨⟨_, dl _⟩, rfl⟩ ?_
    clear hQ K
    refine wpAnyH_one (k := 16) (by kernel_rfl) rfl (fun K hQ => ?_)
    go_simp
    refine hQ _ _ ⟨⟨_, dl _⟩, rfl⟩ ?_
    clear hQ K
    refine wpAnyH_done (by kernel_rfl) ?_ 0
    have hl : ((all.drop p).take n).length = n := len_part all p n hall
    have hnew := Blk.new W2 68 [.slice a all.length c, .int .i64 (p : Nat), .int .i64 ((p : Int) + n), .int .i64 0, .int .i64 0]
    have D3 : ∀ o, Below w2.heap.size w2 (W2.alloc o) := fun o => d2.trans (dl o)
    go_wp2
    go_ret
    refine ⟨_, rfl, Nat.le_trans K2.size d2.size, ⟨⟨?_, hd2.below (D3 _)⟩, r2, by show (all.drop p).take ((all.drop p).take n).length = (all.drop p).take n; rw [hl], by show p + ((all.drop p).take n).length ≤ all.length; rw [hl]; exact hall, Nat.zero_le _, r6⟩, ⟨⟨hb2.below (D3 _) hb2.lt, hd2.below (D3 _)⟩, r2, r3, r4, by show R.n + n ≤ R.xs.length; omega, r6⟩, K2.trans ((But.of_below (D3 _)).mono K2.size)⟩
    unfold RS.rcells
    rw [hl]
    simpa using hnew
  · have hno := rf_Has_no w b R u all k h hk
    have e1 : R.part k = [] := if_neg hk
    have e2 : R.next k = R.fail 4 := if_neg hk
    have es : R.sub k = ⟨R.f + R.n, 0, [], (R.next k).er, (R.next k).ea⟩ := by
      unfold RS.sub
      rw [e1]
    have hn1 : (R.next k).f = R.f ∧ (R.next k).n = R.n := by
      rw [e2]
      unfold RS.fail
      split <;> exact ⟨rfl, rfl⟩
    rw [es]
    generalize R.next k = S at hno hn1 ⊢
    rw [← hn1.1, ← hn1.2]
    obtain ⟨a, c, hu⟩ := h.1.2.shape
    subst hu
    clear e1 e2 es hn1
    go_enter Try.func30, Try.ntmps30
    go_wp2_with fail
    go_at_call 54
    refine hno.mono ?_
    rintro e w2 ⟨rfl, h1, K2⟩
    clear hno h
    go_wp2_with fail
    obtain ⟨⟨hb2, hd2⟩, r2, r3, r4, r5, r6⟩ := h1
    obtain ⟨p, hpe⟩ : ∃ p, p = S.f + S.n := ⟨_, rfl⟩
    have E1 : Hid ((S.f : Int) + S.n = p) := Lib.hid (by omega)
    have HP := Lib.hid hpe
    clear hpe
    refine wp_region_selB w2.heap.size [0, 1, 2, 3, 4, 5, 6, 7, 8, 9, 10, 11, 12, 13, 14, 15, 16] 2 rfl (by kernel_rfl) (by kernel_rfl) (by kernel_rfl) (by kernel_rfl) (fun _ d _ _ _ h => by cases d <;> exact h) ?_
    intro W2 hW2
    have d2 : Below w2.heap.size w2 W2 := by subst hW2; exact (Below.refl _ _).drew
    have c0 : ∀ q : Beh w2.heap.size W2, q.w.cell? ⟨b, 0, none⟩ = some (.slice a all.length c) := fun q => Blk.cell (Blk.below (hb2.below d2 hb2.lt) q.h hb2.lt) 0 rfl
    have c1 : ∀ q : Beh w2.heap.size W2, q.w.cell? ⟨b, 1, none⟩ = some (.int .i64 (p : Nat)) := fun q => Blk.cell (Blk.below (hb2.below d2 hb2.lt) q.h hb2.lt) 1 (by rw [← E1.out]; rfl)
    have c3 : ∀ q : Beh w2.heap.size W2, q.w.cell? ⟨b, 3, none⟩ = some (.int .i64 S.er) := fun q => Blk.cell (Blk.below (hb2.below d2 hb2.lt) q.h hb2.lt) 3 rfl
    have c4 : ∀ q : Beh w2.heap.size W2, q.w.cell? ⟨b, 4, none⟩ = some (.int .i64 S.ea) := fun q => Blk.cell (Blk.below (hb2.below d2 hb2.lt) q.h hb2.lt) 4 rfl
    have D2 := hd2.below d2
    clear hW2
    simp only [pickOps, List.filterMap_cons, List.filterMap_nil, List.getElem?_cons_zero, List.getElem?_cons_succ, Option.map_some, List.map_cons, List.map_nil]
    repeat (go_big_quiet_step (fail))
    refine wpQuiet_nil ?_
    clear c0 c1 c3 c4
    refine wpAnyH_one (k := 17) (by kernel_rfl) rfl (fun K hQ => ?_)
    go_simp
    have dl : ∀ o, Below w2.heap.size W2 (W2.alloc o) := fun o => (Below.refl _ _).alloc d2.size _
    refine hQ _ _ ⟨⟨_, dl _⟩, rfl⟩ ?_
    clear hQ K
    refine wpAnyH_one (k := 18) (by kernel_rfl) rfl (fun K hQ => ?_)
    go_simp
    refine hQ _ _ ⟨⟨_, dl _⟩, rfl⟩ ?_
    clear hQ K
    refine wpAnyH_done (by kernel_rfl) ?_ 0
    have hnew := Blk.new W2 68 [.slice a all.length c, .int .i64 (p : Nat), .int .i64 (p : Nat), .int .i64 S.er, .int .i64 S.ea]
    have D3 : ∀ o, Below w2.heap.size w2 (W2.alloc o) := fun o => d2.trans (dl o)
    go_wp2
    go_ret
    refine ⟨_, rfl, Nat.le_trans K2.size d2.size, ⟨⟨?_, hd2.below (D3 _)⟩, r2, rfl, by show S.f + S.n + 0 ≤ all.length; have := HP.out; omega, Nat.zero_le _, r6⟩, ⟨⟨hb2.below (D3 _) hb2.lt, hd2.below (D3 _)⟩, r2, r3, r4, r5, r6⟩, K2.trans ((But.of_below (D3 _)).mono K2.size)⟩
    rw [← HP.out]
    simpa [RS.rcells] using hnew

/-- A copy of octets, in memory of its own. -/
theorem own_is (w : World) (v : Value) (xs : List Int) (h : Seg w v xs) (hl : xs.length ≤ 1048576) : Calls Try.prog 14 #[v] w fun e w' => ∃ v', e = .returned v' ∧ DatB w.heap.size w' v' xs ∧ Below w.heap.size w w' := by
  have k1 : Below w.heap.size w (w.alloc (.cells #[] 5)) := (Below.refl _ _).alloc (Nat.le_refl _) _
  obtain ⟨v', w', hr, hd, hg⟩ := append_any (w.alloc (.cells #[] 5)) 33 w.heap.size _ v [] xs (datB_none w w.heap.size (Nat.le_refl _)) (h.below k1) k1.size (by simp; omega)
  have k2 : Below w.heap.size w w' := k1.grown hg k1.size fun q hq => (World.ownsRow.lt (datB_none w w.heap.size (Nat.le_refl _)) q hq).1
  obtain ⟨a, c, rfl, -, -⟩ := h
  rw [List.nil_append] at hd
  obtain ⟨a', c', e'⟩ := hd.dat.shape
  subst e'
  clear hg
  go_enter Try.func14, Try.ntmps14
  go_wp2_with (at_builtin; refine Lib.wpList_append_run _ rfl (.tmp 3) (.tmp 4) 33 33 rfl _ _ rfl rfl _ _ hr ?_)
  go_ret
  exact ⟨_, rfl, hd, k2⟩

theorem rf_New (w : World) (v : Value) (xs : List Int) (h : Seg w v xs) (ho : Oct xs) (hl : xs.length ≤ 1048576) : Calls Try.prog 24 #[v] w fun e w' => ∃ b u, e = .returned (.pointer (some ⟨b, 0, none⟩)) ∧ w.heap.size ≤ b ∧ Rf w' b ⟨0, 0, xs, 0, 0⟩ u xs ∧ (∀ g, u.ownBlock = some g → w.heap.size ≤ g) ∧ Below w.heap.size w w' := by
  have k1 : Below w.heap.size w (w.alloc (.cells #[] 5)) := (Below.refl _ _).alloc (Nat.le_refl _) _
  obtain ⟨v', w', hr, hd, hg⟩ := append_any (w.alloc (.cells #[] 5)) 33 w.heap.size _ v [] xs (datB_none w w.heap.size (Nat.le_refl _)) (h.below k1) k1.size (by simp; omega)
  have k2 : Below w.heap.size w w' := k1.grown hg k1.size fun q hq => (World.ownsRow.lt (datB_none w w.heap.size (Nat.le_refl _)) q hq).1
  obtain ⟨a, c, rfl, -, -⟩ := h
  rw [List.nil_append] at hd
  obtain ⟨a', c', e'⟩ := hd.dat.shape
  subst e'
  clear hg
  go_enter Try.func24, Try.ntmps24
  go_wp2_with (at_builtin; refine Lib.wpList_append_run _ rfl (.tmp 3) (.tmp 4) 33 33 rfl _ _ rfl rfl _ _ hr ?_)
  go_ret
  have hnew := Blk.new w' 68 [.slice a' xs.length c', .int .i64 0, .int .i64 xs.length, .int .i64 0, .int .i64 0]
  have k3 : ∀ o, Below w'.heap.size w' (w'.alloc o) := fun o => (Below.refl _ _).alloc (Nat.le_refl _) _
  refine ⟨_, _, rfl, k2.size, ⟨⟨by simpa [RS.rcells] using hnew, hd.dat.below (k3 _)⟩, ho, by simp, by simp, Nat.zero_le _, hl⟩, fun g hg => (World.ownsRow.lt hd g hg).1, k2.trans ((k3 _).mono k2.size)⟩

theorem clone_new (w : World) (v : Value) (xs : List Int) (h : Seg w v xs) (hl : xs.length ≤ 140737488355328) : Calls Try.prog 48 #[v] w fun e w' => ∃ v', e = .returned v' ∧ DatB w.heap.size w' v' xs ∧ Below w.heap.size w w' := by
  obtain ⟨a, c, rfl, hc, hx⟩ := h
  cases a with
  | none =>
    have h0 : xs = [] := by
      rcases xs with _ | ⟨x, r⟩
      · rfl
      · obtain ⟨b, o, e, _⟩ := hx 0 (by simp)
        cases e
    subst h0
    refine (Try.bytes_Clone_nil _ c w).mono ?_
    rintro e w' ⟨rfl, rfl⟩
    exact ⟨_, rfl, World.ownsRow_nil _ _ _ _, Below.refl _ _⟩
  | some p =>
    refine (Try.bytes_Clone_at p _ c xs w rfl hl ?_).mono ?_
    · intro i hi
      obtain ⟨b, o, e, hcell⟩ := hx i hi
      obtain rfl := Option.some.inj e
      rw [add_is]
      exact hcell
    · rintro e w' ⟨v', rfl, ho, -, hb⟩
      exact ⟨v', rfl, ho, hb⟩
theorem rd_newB (w : World) (f : Nat) (v : Value) (xs : List Int) (h : Seg w v xs) (ho : Oct xs) (hl : f + xs.length ≤ 1099511627776) : Calls Try.prog 49 #[.int .i64 f, v] w fun e w' => ∃ b u, e = .returned (.pointer (some ⟨b, 0, none⟩)) ∧ w.heap.size ≤ b ∧ V.Rdr w' b ⟨f, 0, xs, 0, 0⟩ u ∧ (∀ g, u.ownBlock = some g → w.heap.size ≤ g) ∧ Below w.heap.size w w' := by
  have hcl := clone_new w v xs h (by omega)
  obtain ⟨a, c, rfl, hc, hx⟩ := h
  clear hx
  go_enter Try.func49, Try.ntmps49
  go_wp2_with (go_at_call 48; refine hcl.mono ?_; rintro e w1 ⟨v', rfl, hd, k⟩; obtain ⟨a', c', rfl⟩ := hd.dat.shape)
  go_ret
  clear hcl
  refine ⟨w1.heap.size, .slice a' xs.length c', rfl, k.size, ⟨⟨?_, hd.dat.below ((Below.refl _ _).alloc (Nat.le_refl _) _)⟩, ho, Nat.zero_le _, hl⟩, fun g hg => (World.ownsRow.lt hd g hg).1, k.alloc k.size _⟩
  have := Blk.new w1 88 (RS.cells ⟨f, 0, xs, 0, 0⟩ (.slice a' xs.length c'))
  simpa [RS.cells] using this
theorem rd_NewB (w : World) (v : Value) (xs : List Int) (h : Seg w v xs) (ho : Oct xs) (hl : xs.length ≤ 1099511627776) : Calls Try.prog 23 #[v] w fun e w' => ∃ b u, e = .returned (.pointer (some ⟨b, 0, none⟩)) ∧ w.heap.size ≤ b ∧ V.Rdr w' b ⟨0, 0, xs, 0, 0⟩ u ∧ (∀ g, u.ownBlock = some g → w.heap.size ≤ g) ∧ Below w.heap.size w w' := by
  have hn := rd_newB w 0 v xs h ho (by omega)
  go_enter Try.func23, Try.ntmps23
  go_wp2_with (go_at_call 49; refine hn.mono ?_; rintro e w' ⟨b, u, rfl, r⟩)
  go_ret
  exact ⟨b, u, rfl, r⟩
end Go.Proofs.Ytailaenkmknpiaa
