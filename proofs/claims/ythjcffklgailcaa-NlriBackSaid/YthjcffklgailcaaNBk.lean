/- NlriBack: the law's walk. No condition. -/
import Derived.Test.YthjcffklgailcaaNSm
import Derived.Test.YthjcffklgailcaaWMx
import Derived.Test.YthjcffklgailcaaNLi
namespace Go.Proofs.Ythjcffklgailcaa
open Go.RowKit Go.Sort
set_option linter.unusedVariables false
set_option linter.unusedSimpArgs false
set_option maxRecDepth 100000

theorem append_op {P : Program} (w : World) {o : Oper} {a : Act} (s x : Operand) (t tn : TypeId) (hgd : o.guard = none)
    (ho : o.op = .call { callee := .builtin .append, args := #[s, x], argTypes := #[t, tn] }) (vs vx : Value) (hs : a.eval s = vs) (hx : a.eval x = vx)
    (v' : Value) (w' : World) (hr : (Builtin.append_ #[t, tn] o.type #[vs, vx]).run P w = .ok v' w') : (execOp a.eval o).run P w = .ok (.value v') w' := by
  unfold execOp
  simp only [ho, resolve, invoke, builtin, Sem.run_bind, Sem.run_pure, Result.andThen_ok, List.map_toArray, List.map_cons, List.map_nil, hs, hx, hr]
theorem lit_op (w : World) {o : Oper} {a : Act} (x : Operand) (ho : o.op = .buildSlice 38 1 #[(0, x)]) (N : NL) (hx : a.eval x = N.v) : (execOp a.eval o).run Try.prog w = .ok (.value (.slice (some ⟨w.heap.size, 0, none⟩) 1 1)) (w.alloc (.cells N.cs.toArray 36)) := by
  unfold execOp
  simp only [ho, List.map_toArray, List.map_cons, List.map_nil, hx, Sem.run_bind, run_lit, Result.andThen_ok, Sem.run_pure]
theorem load_op (w : World) {o : Oper} {a : Act} (x : Operand) (ho : o.op = .load 36 x) (b k : Nat) (hx : a.eval x = .pointer (some ⟨b, k, none⟩)) (n : NL) (hC : w.rangeAt b k n.cs) : (execOp a.eval o).run Try.prog w = .ok (.value n.v) w := by
  unfold execOp
  simp only [ho, hx, Sem.run_bind, run_loadAt_mid w b k _ _ _ hC under_n rfl n.lsize, Sem.run_pure, Result.andThen_ok]
  rfl

theorem own_ty {w : World} {B e size n : Nat} {v : Value} {xs : List Value} (h : w.ownsRow B e size v n xs) {g : Nat} (hg : v.ownBlock = some g) : ∃ cur, w.heap[g]? = some (.cells cur e (0, 0)) := by
  obtain ⟨h1, ⟨hv, hn⟩ | ⟨g', cap, cur, hv, hb, hh, r⟩⟩ := h
  · rw [hv] at hg; cases hg
  · rw [hv] at hg
    cases hg
    exact ⟨cur, hh⟩
theorem row_kept {w w' : World} {B e size n B' e' size' n' : Nat} {v v' : Value} {xs xs' : List Value} (h : w.ownsRow B e size v n xs) (h' : w.ownsRow B' e' size' v' n' xs') (he : e ≠ e') (hg : w.grownBy w' v'.ownBlock) : w'.ownsRow B e size v n xs := by
  refine h.kept hg ?_
  cases hv : v.ownBlock with
  | none => exact .inl rfl
  | some g =>
    refine .inr fun q => ?_
    obtain ⟨c, hc⟩ := own_ty h hv
    obtain ⟨c', hc'⟩ := own_ty h' q.symm
    rw [hc] at hc'
    simp only [Option.some.injEq, Obj.cells.injEq] at hc'
    exact he hc'.2.1
theorem bx_kept {w w' : World} {b n' B' e' size' : Nat} {v' : Value} {n : NL} {xs' : List Value} (h : Bx w b n) (h' : w.ownsRow B' e' size' v' n' xs') (he : 36 ≠ e') (hg : w.grownBy w' v'.ownBlock) : Bx w' b n :=
  (hg.block b h.lt fun q => by
    obtain ⟨c', hc'⟩ := own_ty h' q.symm
    rw [show w.heap[b]? = _ from h] at hc'
    simp only [Option.some.injEq, Obj.cells.injEq] at hc'
    exact he hc'.2.1).trans h
theorem append_nl (w : World) (ty : TypeId) (B : Nat) (v : Value) (l : List NL) (g : Nat) (n : NL) (hv : NuN B w v l) (hg : Bx w g n) (hB : B ≤ w.heap.size) (hl : l.length ≤ 4096) :
    ∃ v' w', (Builtin.append_ #[38, 38] ty #[v, .slice (some ⟨g, 0, none⟩) 1 1]).run Try.prog w = .ok v' w' ∧ NuN B w' v' (l ++ [n]) ∧ w.grownBy w' v.ownBlock := by
  obtain ⟨i, hi, hz, hs, hb⟩ := info_nl
  have hb0 : (l.length + 1) * i.bytes ≤ 140737488355328 := Nat.le_trans (Nat.mul_le_mul (show l.length + 1 ≤ 4097 by omega) hb) (by decide)
  obtain ⟨v', w', hr, ho, hgr, -⟩ := run_append_own (P := Try.prog) w B 38 ty 36 i NL.zero.v 21 i.bytes Try.underlying38 hi hz hs rfl rfl (by decide) v l.length _ hv ⟨g, 0, none⟩ 1 1 n.cs rfl (fun j y hj => by rw [show Addr.add ⟨g, 0, none⟩ j = ⟨g, 0 + j, none⟩ from add_is _ _ _, Nat.zero_add]; exact Blk.cell hg j hj) n.cs_one (by unfold maxLen; omega) hb0 hB
  exact ⟨v', w', hr, own_push ho, hgr⟩

/-- The class of the region: which of its operations have been. -/
def Cn (w0 : World) (v3 v4 v6 : Value) (xs ys : List Int) (G : List NL) (n : NL) (x : Found) (L : Array Bool) (w : World) : Prop :=
  Below w0.heap.size w0 w ∧
  (if L.getD 2 false = true then DatB w0.heap.size w (x 2) (xs ++ ys) else DatB w0.heap.size w v3 xs ∧ Dat w v6 ys) ∧
  (if L.getD 9 false = true then NuN w0.heap.size w (x 9) (G ++ [n]) else NuN w0.heap.size w v4 G ∧ (L.getD 8 false = true → ∃ g, x 8 = .slice (some ⟨g, 0, none⟩) 1 1 ∧ Bx w g n))
section
variable {w0 w w' : World} {v3 v4 v6 : Value} {xs ys : List Int} {G : List NL} {n : NL} {x : Found} {L : Array Bool}
theorem Cn.loc {fr : Nat → Bool} (hf : fr 2 = true ∧ fr 8 = true ∧ fr 9 = true) (y : Found) (ha : Agree fr L x y) (h : Cn w0 v3 v4 v6 xs ys G n x L w) : Cn w0 v3 v4 v6 xs ys G n y L w := by
  obtain ⟨h1, h2, h3⟩ := h
  refine ⟨h1, ?_, ?_⟩
  · split
    · next e =>
      rw [if_pos e] at h2
      rw [← ha 2 hf.1 e]
      exact h2
    · next e =>
      rw [if_neg e] at h2
      exact h2
  · split
    · next e =>
      rw [if_pos e] at h3
      rw [← ha 9 hf.2.2 e]
      exact h3
    · next e =>
      rw [if_neg e] at h3
      exact ⟨h3.1, fun e2 => by rw [← ha 8 hf.2.1 e2]; exact h3.2 e2⟩
theorem Cn.calm (j : Nat) (hj : j ≠ 2 ∧ j ≠ 8 ∧ j ≠ 9) (h : Cn w0 v3 v4 v6 xs ys G n x L w) : Cn w0 v3 v4 v6 xs ys G n x (L.setIfInBounds j true) w := by
  unfold Cn at *
  rw [getD_set_ne false hj.1, getD_set_ne false hj.2.1, getD_set_ne false hj.2.2]
  exact h
theorem Cn.app2 (ty : TypeId) (hl : xs.length + ys.length ≤ 1099511627776) (h2 : L.getD 2 false = false ∧ 2 < L.size) (h : Cn w0 v3 v4 v6 xs ys G n x L w) :
    ∃ u w', (Builtin.append_ #[23, 23] ty #[v3, v6]).run Try.prog w = .ok u w' ∧ Cn w0 v3 v4 v6 xs ys G n (x.set 2 u) (L.setIfInBounds 2 true) w' := by
  obtain ⟨a1, a2, a3⟩ := h
  rw [if_neg (by simp [h2.1])] at a2
  obtain ⟨u, w', hr, hd, hg⟩ := append_dat w ty w0.heap.size v3 v6 xs ys a2.1 a2.2 a1.size hl
  refine ⟨u, w', hr, a1.grown hg a1.size fun k hk => (World.ownsRow.lt a2.1 k hk).1, ?_, ?_⟩
  · rw [if_pos (set_yes h2.2), Found.set_at]
    exact hd
  · rw [getD_set_ne false (by decide), getD_set_ne false (by decide), Found.set_ne _ _ (by decide), Found.set_ne _ _ (by decide)]
    split
    · next e =>
      rw [if_pos e] at a3
      exact row_kept a3 a2.1 (by decide) hg
    · next e =>
      rw [if_neg e] at a3
      exact ⟨row_kept a3.1 a2.1 (by decide) hg, fun e2 => by
        obtain ⟨g, hx, hb⟩ := a3.2 e2
        exact ⟨g, hx, bx_kept hb a2.1 (by decide) hg⟩⟩
theorem Cn.lit8 (h8 : L.getD 8 false = false ∧ 8 < L.size) (h : Cn w0 v3 v4 v6 xs ys G n x L w) :
    Cn w0 v3 v4 v6 xs ys G n (x.set 8 (.slice (some ⟨w.heap.size, 0, none⟩) 1 1)) (L.setIfInBounds 8 true) (w.alloc (.cells n.cs.toArray 36)) := by
  have k : Below w.heap.size w (w.alloc (.cells n.cs.toArray 36)) := (Below.refl _ w).alloc (Nat.le_refl _) _
  obtain ⟨a1, a2, a3⟩ := h
  refine ⟨a1.trans (k.mono a1.size), ?_, ?_⟩
  · rw [getD_set_ne false (by decide), Found.set_ne _ _ (by decide)]
    split
    · next e =>
      rw [if_pos e] at a2
      exact DatB.below a2 k
    · next e =>
      rw [if_neg e] at a2
      exact ⟨DatB.below a2.1 k, a2.2.below k⟩
  · rw [getD_set_ne false (by decide), Found.set_ne _ _ (by decide), Found.set_at]
    split
    · next e =>
      rw [if_pos e] at a3
      exact a3.below k
    · next e =>
      rw [if_neg e] at a3
      exact ⟨a3.1.below k, fun _ => ⟨_, rfl, Bx.new w n⟩⟩
theorem Cn.app9 (ty : TypeId) (hl : G.length ≤ 4096) (h8 : L.getD 8 false = true) (h9 : L.getD 9 false = false ∧ 9 < L.size) (h : Cn w0 v3 v4 v6 xs ys G n x L w) :
    ∃ u w', (Builtin.append_ #[38, 38] ty #[v4, x 8]).run Try.prog w = .ok u w' ∧ Cn w0 v3 v4 v6 xs ys G n (x.set 9 u) (L.setIfInBounds 9 true) w' := by
  obtain ⟨a1, a2, a3⟩ := h
  rw [if_neg (by simp [h9.1])] at a3
  obtain ⟨g, hx, hb⟩ := a3.2 h8
  obtain ⟨u, w', hr, hd, hg⟩ := append_nl w ty w0.heap.size v4 G g n a3.1 hb a1.size hl
  rw [hx]
  refine ⟨u, w', hr, a1.grown hg a1.size fun k hk => (World.ownsRow.lt a3.1 k hk).1, ?_, ?_⟩
  · rw [getD_set_ne false (by decide), Found.set_ne _ _ (by decide)]
    split
    · next e =>
      rw [if_pos e] at a2
      exact row_kept a2 a3.1 (by decide) hg
    · next e =>
      rw [if_neg e] at a2
      exact ⟨row_kept a2.1 a3.1 (by decide) hg, row_kept a2.2 a3.1 (by decide) hg⟩
  · rw [if_pos (set_yes h9.2), Found.set_at]
    exact hd
theorem Cn.done (h2 : L.getD 2 false = true) (h9 : L.getD 9 false = true) (h : Cn w0 v3 v4 v6 xs ys G n x L w) : Below w0.heap.size w0 w ∧ DatB w0.heap.size w (x 2) (xs ++ ys) ∧ NuN w0.heap.size w (x 9) (G ++ [n]) := by
  obtain ⟨a1, a2, a3⟩ := h
  rw [if_pos h2] at a2
  rw [if_pos h9] at a3
  exact ⟨a1, a2, a3⟩
theorem Cn.start (m : Nat) (h1 : Below w0.heap.size w0 w) (h2 : DatB w0.heap.size w v3 xs) (h3 : Dat w v6 ys) (h4 : NuN w0.heap.size w v4 G) : Cn w0 v3 v4 v6 xs ys G n x (Array.replicate m false) { w with drawn := w.drawn + 1 } := by
  have k : Below w.heap.size w { w with drawn := w.drawn + 1 } := ⟨rfl, rfl, rfl, Nat.le_refl _, fun _ _ => rfl⟩
  have e : ∀ j, ¬ (Array.replicate m false).getD j false = true := fun j => by
    simp [Array.getElem?_replicate]
    split <;> rfl
  unfold Cn
  rw [if_neg (e 2), if_neg (e 9)]
  exact ⟨h1.trans (k.mono h1.size), ⟨h2.below k, h3.below k⟩, h4.below k, fun h => absurd h (e 8)⟩
end
end Go.Proofs.Ythjcffklgailcaa
namespace Go.Proofs.Ythjcffklgailcaa
open Go.RowKit Go.Sort
set_option linter.unusedVariables false
set_option linter.unusedSimpArgs false
set_option maxRecDepth 100000

theorem rangeB {w wr : World} {b k : Nat} {n : NL} (hb : b < w.heap.size) (h : w.rangeAt b k n.cs) (hB : Below w.heap.size w wr) : wr.rangeAt b k n.cs := fun j u hu => (hB.cell (p := ⟨b, k + j, none⟩) hb).trans (h j u hu)
set_option maxHeartbeats 4000000 in
theorem back_is (L : List NL) (hW : ∀ n ∈ L, Wide n) (v : Value) (w : World) (h : NSeg w v L) :
    Calls Try.prog 6 #[v] w fun r w' => r = .returned (.bool true) ∧ Below w.heap.size w w' := by
  obtain ⟨a, c, rfl, -, hx⟩ := h
  have hx' : ∀ i, i < L.length → ∃ n, Wide n ∧ ∃ b o, a = some ⟨b, o, none⟩ ∧ b < w.heap.size ∧ w.rangeAt b (o + i * 21) n.cs := fun i hi => by
    have e := List.getElem?_eq_getElem hi
    exact ⟨_, hW _ (List.mem_of_getElem? e), hx i _ e⟩
  have HX := Lib.hid hx'
  clear hx hx' hW
  generalize L.length = N at HX ⊢
  by_cases hN : N ≤ 20
  · have hNi : ¬ (20 : Int) < N := by omega
    go_enter Try.func6, Try.ntmps6
    go_wp2_with fail
    go_at_call 9
    refine (lives_is w).mono ?_
    rintro r w1 ⟨rfl, k1⟩
    have hD0 : DatB w.heap.size w1 (.slice none 0 0) (codes []) := World.ownsRow_nil w1 _ _ _
    have hN0 : NuN w.heap.size w1 (.slice none 0 0) [] := NuN.nil _ _
    go_wp2_with fail
    go_loopw [3, 4, 5] (fun v3 v4 v5 wr => ∃ (i : Nat) (G : List NL), i ≤ N ∧ v5 = .int .i64 i ∧ Hid (∀ n ∈ G, Good n) ∧ G.length ≤ i ∧ DatB w.heap.size wr v3 (codes G) ∧ NuN w.heap.size wr v4 G ∧ Below w.heap.size w wr) (fun _ _ v5 _ => N - (intOf v5).toNat)
    case atStart => exact ⟨0, [], Nat.zero_le _, rfl, Lib.hid (fun n hn => by simp at hn), Nat.le_refl _, hD0, hN0, k1⟩
    case round =>
      clear hD0 hN0 k1
      obtain ⟨i, G, hi, rfl, hG, hGl, hD, hNu, hB⟩ := hrel
      by_cases hlt : i < N
      · obtain ⟨n, hw, b, o, rfl, hb, hr⟩ := HX.out i hlt
        have hil : (i : Int) < N := by omega
        have hrr := rangeB hb hr hB
        by_cases hc : n.chk = 0
        · have hs := small_of hc
          obtain ⟨kd1, kd2⟩ := kind_small (chk_zero hc).1
          go_wp2_with (refine at_loadN rfl (.tmp 24) rfl b (o + i * 21) rfl n hrr ?_)
          go_at_call 10
          refine (bytes_ok n hw.1 hc wr).mono ?_
          rintro r w2 ⟨v6, rfl, D6, k2⟩
          have hB2 := hB.trans (k2.mono hB.size)
          have hrr2 := rangeB hb hr hB2
          go_wp2_with (refine at_loadN rfl (.tmp 32) rfl b (o + i * 21) rfl n hrr2 ?_)
          go_at_call 15
          have hC := check_is n w2
          rw [hc] at hC
          refine hC.mono ?_
          rintro r w3 ⟨rfl, k3⟩
          have k23 := k2.trans (k3.mono k2.size)
          have hB3 := hB2.trans (k3.mono hB2.size)
          have hrr3 := rangeB hb hr hB3
          have D3 := D6.below k3
          have hD3 := (DatB.below hD k23)
          have hN3 := hNu.below k23
          have hgood : Good n := ⟨hw.1, hc⟩
          have hlc : n.code.length = n.val.length + 2 := rfl
          have hS : n.val.length ≤ 40 := val_le n
          have hk0 := hrr3 0 (.int .i64 n.k) rfl
          rw [Nat.add_zero] at hk0
          rcases D3.form with ⟨-, e0⟩ | ⟨g6, c6, -, hv6, -, -, -, -, -⟩
          · cases e0
          have hcell := fun g hg => World.ownsRow.cells D3 (g := g) hg
          have hb0 := hcell g6 (by rw [hv6]; rfl) 0 (.int .u8 n.k) rfl
          have hb1 := hcell g6 (by rw [hv6]; rfl) 1 (.int .u8 (n.val.length : Nat)) rfl
          rw [show Addr.add ⟨g6, 0, none⟩ 0 = ⟨g6, 0, none⟩ from rfl] at hb0
          rw [show Addr.add ⟨g6, 0, none⟩ 1 = ⟨g6, 1, none⟩ from rfl] at hb1
          have hD6 : ∀ T, T = n.val.length + 2 → Dat w3 (.slice (some ⟨g6, 0, none⟩) T c6) n.code := fun T hT => by
            rw [hT, ← hlc, ← hv6]
            exact D3
          have HDT := Lib.hid hD6
          clear hD6
          have HG6 := Lib.hid hv6
          have HGd := Lib.hid hgood
          rw [hlc] at hv6
          subst hv6
          clear hcell D3 D6 hC hrr hrr2 hB hB2 k2 k3 k23 hD hNu hgood hlc
          have hkk : (n.k != n.k) = false := by simp
          generalize n.k = kd at kd1 kd2 hk0 hb0 hkk
          generalize n.val.length = S at hS hb1 HG6 HDT
          obtain ⟨T, hT⟩ : ∃ T, T = S + 2 := ⟨_, rfl⟩
          rw [← hT]
          have hT1 : (2 : Int) ≤ T := by omega
          have hT2 : (T : Int) ≤ 42 := by omega
          have hdd : decide ((T : Int) < 2) = false := by rw [decide_eq_false_iff_not]; omega
          have hSS : ((S : Int) != (T : Int) - 2) = false := by
            rw [show (T : Int) - 2 = S by omega]
            simp
          have HT := Lib.hid hT
          clear hT
          go_wp2_with fail
          go_quiet (fail)
          go_wp2_with fail
          have kq : Below w3.heap.size w3 (w3.drewN nq) := below_drewN _ _ _
          have hB4 := hB3.trans (kq.mono hB3.size)
          have hD4 := DatB.below hD3 kq
          have hN4 := hN3.below kq
          have D4 := (HDT.out T HT.out).below kq
          have hGl2 : (codes G).length + n.code.length ≤ 1099511627776 := by
            have h1 := codes_len G
            have h2 := val_le n
            have h3 := code_len n
            omega
          clear hB3 hD3 hN3 hrr3 kq hb0 hb1 hk0 HDT HT HG6 hS hSS hdd hT1 hT2 hkk kd1 kd2
          refine wp_region_free (Cn w u3 u4 (.slice (some ⟨g6, 0, none⟩) T c6) (codes G) n.code G n) (fun j => j == 2 || j == 8 || j == 9) (fun _ _ => True) (by kernel_rfl) (by kernel_rfl) (by kernel_rfl) (fun x y L w' ha h => h.loc ⟨rfl, rfl, rfl⟩ y ha) (fun _ => undef) (fun _ _ => trivial) (Cn.start _ hB4 hD4 D4 hN4) (fun x _ => ?_)
          obtain ⟨Tw, Gw, hTw, hGw, -⟩ := family (fun _ => True) w trivial
          refine free_calm (G := Gw) rfl (fun L w' _ hC => hGw w' trivial) (fun L w' _ hC => Cn.calm _ (by decide) hC) (fun K hK => ?_)
          go_simp
          refine hK _ ?_
          clear hK K
          refine free_calm (G := Gw) rfl (fun L w' _ hC => hGw w' trivial) (fun L w' _ hC => Cn.calm _ (by decide) hC) (fun K hK => ?_)
          go_simp
          refine hK _ ?_
          clear hK K
          refine free_write rfl (by first | rfl | go_simp) (fun L w' hrd hC => ?_) ?_
          · obtain ⟨u, w'', hrun, hC'⟩ := hC.app2 23 hGl2 (ready_undone hrd)
            exact ⟨u, w'', append_op w' (.tmp 72) (.tmp 73) 23 23 rfl rfl _ _ rfl rfl _ _ hrun, trivial, hC'⟩
          try dsimp only
          refine free_calm (G := Gw) rfl (fun L w' _ hC => hGw w' trivial) (fun L w' _ hC => Cn.calm _ (by decide) hC) (fun K hK => ?_)
          go_simp
          refine hK _ ?_
          clear hK K
          refine free_calm (G := Gw) rfl (fun L w' _ hC => hGw w' trivial) (fun L w' _ hC => Cn.calm _ (by decide) hC) (fun K hK => ?_)
          go_simp
          refine hK _ ?_
          clear hK K
          refine free_calm (G := Gw) rfl (fun L w' _ hC => hGw w' trivial) (fun L w' _ hC => Cn.calm _ (by decide) hC) (fun K hK => ?_)
          go_simp
          refine hK _ ?_
          clear hK K
          refine free_calm (G := Gw) rfl (fun L w' _ hC => hGw w' trivial) (fun L w' _ hC => Cn.calm _ (by decide) hC) (fun K hK => ?_)
          go_simp
          refine hK _ ?_
          clear hK K
          refine free_put n.v rfl (by first | rfl | go_simp) (fun L w' hrd hC => ⟨w', load_op w' (.tmp 78) rfl b (o + i * 21) rfl n (rangeB hb hr hC.1), hC.calm _ (by decide)⟩) ?_
          try dsimp only
          refine free_write rfl (by first | rfl | go_simp) (fun L w' hrd hC => ⟨_, _, lit_op w' (.tmp 79) rfl n rfl, trivial, hC.lit8 (ready_undone hrd)⟩) ?_
          refine free_write rfl (by first | rfl | go_simp) (fun L w' hrd hC => ?_) ?_
          · obtain ⟨u, w'', hrun, hC'⟩ := hC.app9 38 (by omega) (ready_dep hrd rfl (e := ⟨8, .data⟩) (by simp) rfl) (ready_undone hrd)
            exact ⟨u, w'', append_op w' (.tmp 75) (.tmp 80) 38 38 rfl rfl _ _ rfl rfl _ _ hrun, trivial, hC'⟩
          try dsimp only
          refine free_calm (G := Gw) rfl (fun L w' _ hC => hGw w' trivial) (fun L w' _ hC => Cn.calm _ (by decide) hC) (fun K hK => ?_)
          go_simp
          refine hK _ ?_
          clear hK K
          refine free_calm (G := Gw) rfl (fun L w' _ hC => hGw w' trivial) (fun L w' _ hC => Cn.calm _ (by decide) hC) (fun K hK => ?_)
          go_simp
          refine hK _ ?_
          clear hK K
          refine free_nil ?_
          intro L w' hL hC
          obtain ⟨hB5, hD5, hN5⟩ := hC.done (hL 2 (by decide)) (hL 9 (by decide))
          have HG2 : Hid (∀ m ∈ G ++ [n], Good m) := Lib.hid fun m hm => by
            rcases List.mem_append.1 hm with q | q
            · exact hG.out m q
            · obtain rfl : m = n := by simpa using q
              exact HGd.out
          rw [show codes G ++ n.code = codes (G ++ [n]) by rw [codes_append, codes_one]] at hD5
          have hGl3 : (G ++ [n]).length ≤ i + 1 := by simp; omega
          generalize G ++ [n] = G2 at HG2 hD5 hN5 hGl3
          clear hC hL hGw hTw hB4 hD4 hN4 D4 hGl2 hr
          generalize x 2 = x2 at hD5
          generalize x 9 = x9 at hN5
          go_wp2
          go_roundw
          case rel => exact ⟨i + 1, G2, by omega, by go_num, HG2, hGl3, hD5, hN5, hB5⟩
          case measure => simp [intOf]; omega
        · have hne : (n.chk != 0) = true := by simpa using hc
          have hee : (n.chk != n.chk) = false := by simp
          have hbad := fun w => bytes_bad n hc w
          have hchk := fun w => check_is n w
          generalize n.chk = E at hne hee hbad hchk
          clear hc
          go_wp2_with (refine at_loadN rfl (.tmp 24) rfl b (o + i * 21) rfl n hrr ?_)
          go_at_call 10
          refine (hbad wr).mono ?_
          rintro r w2 ⟨rfl, k2⟩
          have hB2 := hB.trans (k2.mono hB.size)
          have hrr2 := rangeB hb hr hB2
          go_wp2_with (refine at_loadN rfl (.tmp 32) rfl b (o + i * 21) rfl n hrr2 ?_)
          go_at_call 15
          refine (hchk w2).mono ?_
          rintro r w3 ⟨rfl, k3⟩
          have k23 := k2.trans (k3.mono k2.size)
          have hB3 := hB2.trans (k3.mono hB2.size)
          have hD3 := (DatB.below hD k23)
          have hN3 := hNu.below k23
          clear hD hNu hB hB2 hrr hrr2 k2 k3 hbad hchk
          go_wp2
          go_roundw
          case rel => exact ⟨i + 1, G, by omega, by go_num, hG, by omega, hD3, hN3, hB3⟩
          case measure => simp [intOf]; omega
      · obtain rfl : i = N := by omega
        have ho : Oct (codes G) := codes_oct hG.out
        have hcl := codes_len G
        have hseg : Seg wr u3 (codes G) := (DatB.dat hD).seg
        go_wp2_with fail
        go_at_call 12
        refine (read_is (codes G) ho (by omega) u3 wr hseg).mono ?_
        rintro r w2 ⟨V, E, A, ⟨rfl, hR⟩, k2⟩
        obtain ⟨rfl, rfl, hV, -⟩ := reads_codes hG.out (by omega) hR
        have hN2 := hNu.below k2
        have hB2 := hB.trans (k2.mono hB.size)
        clear hR hD hNu hB k2 ho hcl hseg
        go_wp2_with fail
        go_at_call 26
        have kk : Below w2.heap.size w2 (w2.alloc (.cells #[.int .i64 0, .int .i64 0] 40)) := (Below.refl _ w2).alloc (Nat.le_refl _) _
        refine (same_n G (by omega) V u4 _ (hV.below kk).seg (hN2.below kk).seg).mono ?_
        rintro r w4 ⟨rfl, k4⟩
        go_wp2
        go_ret
        exact ⟨rfl, (hB2.trans (kk.mono hB2.size)).trans (k4.mono (Nat.le_trans hB2.size kk.size))⟩
  · have hNi : (20 : Int) < N := by omega
    go_enter Try.func6, Try.ntmps6
    go_wp2_with fail
    go_at_call 9
    refine (lives_is w).mono ?_
    rintro r w1 ⟨rfl, k1⟩
    go_wp2
    go_ret
    exact ⟨rfl, k1⟩
end Go.Proofs.Ythjcffklgailcaa
