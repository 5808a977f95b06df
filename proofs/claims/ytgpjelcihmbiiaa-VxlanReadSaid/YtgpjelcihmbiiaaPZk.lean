/- The reference of layer 7: Take; parts of structs stored whole; frames as numbers of octets. No condition. -/
import Derived.Test.YtgpjelcihmbiiaaPMt
namespace Go.Proofs.Ytgpjelcihmbiiaa
open Go.RowKit
set_option linter.unusedVariables false
set_option linter.unusedSimpArgs false
set_option maxRecDepth 100000

/-- The number of k octets at n. -/
def tk (xs : List Int) (n k : Nat) : Int := (be ((xs.drop n).take k) : Nat)
theorem tk_zero (xs : List Int) (n : Nat) : tk xs n 0 = 0 := by simp [tk, be]
theorem tk_succ {xs : List Int} (ho : Oct xs) (n i : Nat) (h : n + i < xs.length) : tk xs n (i + 1) = tk xs n i * 256 + xs.getD (n + i) 0 := by
  have hg := ho.getD (n + i)
  have he : (xs.drop n)[i]? = some (xs.getD (n + i) 0) := by
    rw [List.getElem?_drop, List.getElem?_eq_getElem h, List.getD_eq_getElem?_getD, List.getElem?_eq_getElem h]
    rfl
  unfold tk be
  rw [List.take_add_one, he, List.foldl_append]
  generalize xs.getD (n + i) 0 = y at *
  simp
  omega
theorem tk_lt {xs : List Int} (ho : Oct xs) (n : Nat) : ∀ i, n + i ≤ xs.length → 0 ≤ tk xs n i ∧ tk xs n i < 256 ^ i
  | 0, _ => by rw [tk_zero]; decide
  | i + 1, h => by
    have h1 := tk_lt ho n i (by omega)
    have h2 := ho.getD (n + i)
    rw [tk_succ ho n i (by omega), Int.pow_succ]
    omega
set_option maxHeartbeats 2000000 in
theorem take_is (xs : List Int) (v : Value) (w : World) (hd : Seg w v xs) (ho : Oct xs) (hl : xs.length ≤ 1000000) (n k : Nat) (hk : k ≤ 8) (hn : n + k ≤ xs.length) :
    Calls Try.prog 54 #[v, .int .i64 n, .int .i64 k] w fun e w' => e = .returned (.int .u64 (tk xs n k)) ∧ w' = w := by
  obtain ⟨a, c, rfl, hcap, hx⟩ := hd
  go_enter Try.func54, Try.ntmps54
  go_wp2_with fail
  go_loopw [7, 8] (fun v7 v8 wr => ∃ i : Nat, i ≤ k ∧ v7 = .int .u64 (tk xs n i) ∧ v8 = .int .i64 i ∧ wr = w) (fun _ v8 _ => k - (intOf v8).toNat)
  case atStart => exact ⟨0, Nat.zero_le _, by rw [tk_zero], rfl, rfl⟩
  case round =>
    obtain ⟨i, hi, rfl, rfl, hw⟩ := hrel
    subst hw
    by_cases hlt : i < k
    · obtain ⟨b, o, rfl, hc⟩ := hx (n + i) (by omega)
      have hO := ho.getD (n + i)
      have hq : (i : Int) < k := by omega
      have hb := tk_lt ho n i (by omega)
      have hb2 : tk xs n i < 72057594037927936 := by
        have : (256 : Int) ^ i ≤ 256 ^ 7 := by
          have : (256 : Nat) ^ i ≤ 256 ^ 7 := Nat.pow_le_pow_right (by decide) (by omega)
          exact_mod_cast this
        omega
      have hs := tk_succ ho n i (by omega)
      have hb0 := hb.1
      have hlen : (n : Int) + i < xs.length := by omega
      have HX := Lib.hid hx
      have HS := Lib.hid hs
      clear hx hb hs
      generalize xs.getD (n + i) 0 = y at *
      generalize tk xs n i = t0 at *
      have e3 : ((n : Int) + i).toNat = n + i := by omega
      go_wp2
      exact ⟨⟨i + 1, by omega, by rw [HS.out], by simp only [Value.int.injEq, true_and]; omega, trivial⟩, by simp [intOf]; omega⟩
    · obtain rfl : i = k := by omega
      clear hx
      go_wp2
      go_ret
      exact ⟨rfl, rfl⟩
/-- Cells that are laid side by side into a block. -/
def putAt (cs : List Value) (o : Nat) : List Value → List Value
  | [] => cs
  | v :: r => putAt (cs.set o v) (o + 1) r
theorem Blk.setCells {w : World} {b : Nat} {t : TypeId} : ∀ (vs : List Value) (o : Nat) {w : World} {cs : List Value}, Blk w b t cs → Blk (w.setCells b o vs) b t (putAt cs o vs)
  | [], _, _, _, h => h
  | v :: r, o, _, _, h => Blk.setCells (w := w) r (o + 1) (h.set o v)
theorem Blk.there {w : World} {b : Nat} {t : TypeId} {cs : List Value} (h : Blk w b t cs) (o n : Nat) (hn : o + n ≤ cs.length) : w.there b o n := fun j hj =>
  ⟨by rw [h.cell (o + j) (List.getElem?_eq_getElem (show o + j < cs.length by omega))]; rfl, h.frozen _⟩
theorem But.setCells {B b : Nat} {x : World} : ∀ (vs : List Value) (o : Nat) {w : World}, But B b x w → But B b x (w.setCells b o vs)
  | [], _, _, h => h
  | v :: r, o, _, h => But.setCells r (o + 1) (h.setCell o v)
theorem size_setCells {b : Nat} : ∀ (vs : List Value) (o : Nat) (w : World), (w.setCells b o vs).heap.size = w.heap.size
  | [], _, _ => rfl
  | v :: r, o, w => by
    show ((w.setCell ⟨b, o, none⟩ v).setCells b (o + 1) r).heap.size = _
    rw [size_setCells r (o + 1)]
    simp [World.setCell]
theorem at_setMid {ops : Array Oper} {rest : List Oper} {o : Oper} {a : Act} {w : World} {Q : Exit → Act → World → Prop} (hgd : o.guard = none) (ty : TypeId) (x y : Operand) (ho : o.op = .store ty x y) (hd : o.dst = none) (b k : Nat) (hx : a.eval x = .pointer (some ⟨b, k, none⟩)) (t : TypeId) (cs cs' vs : List Value) (hy : a.eval y = .agg vs.toArray) (hb : Blk w b t cs) (hn : putAt cs k vs = cs')
    (h1 : vs.toArray.all (·.oneCell') = true) (hi : (Try.prog.info? ty).map (·.size) = some vs.length) (hj : k + vs.length ≤ cs.length)
    (h : ∀ w', Wrote b t w w' cs' → wpList Try.prog ops Q rest a w') : wpList Try.prog ops Q (o :: rest) a w :=
  wpList_store_mid hgd ty x y ho b k vs.toArray hx hy (by simpa using Blk.there hb k vs.length hj) (by simpa using hi) h1
    (by rw [hd]; exact h _ ⟨by rw [← hn]; exact Blk.setCells (w := w) vs k hb, But.setCells _ k (But.refl _ b w), size_setCells _ k w⟩)

/-- A reader that has read n octets. -/
def ra (xs : List Int) (n : Nat) : RS := ⟨0, n, xs, 0, 0⟩
theorem ra_part {xs : List Int} (n : Nat) (k : Nat) (k' : Int) (hk : (k : Int) = k') (h : n + k ≤ xs.length) : ((be ((ra xs n).part k') : Nat) : Int) = tk xs n k := by
  subst hk
  unfold RS.part
  rw [if_pos ⟨rfl, by omega, by show (k : Int) ≤ (xs.length : Int) - n; omega⟩]
  rfl
theorem ra_next {xs : List Int} (n : Nat) (k : Nat) (k' : Int) (hk : (k : Int) = k') (h : n + k ≤ xs.length) : (ra xs n).next k' = ra xs (n + k) := by
  subst hk
  unfold RS.next
  rw [if_pos ⟨rfl, by omega, by show (k : Int) ≤ (xs.length : Int) - n; omega⟩]
  rfl
theorem ra_on {xs : List Int} (h : 14 ≤ xs.length) : (ra xs 0).on = ra xs 14 := by
  unfold RS.on
  rw [ra_next 0 6 6 rfl (by omega), ra_next _ 6 6 rfl (by omega), ra_next _ 2 2 rfl (by omega)]
theorem tk_one {xs : List Int} (ho : Oct xs) (n : Nat) (h : n < xs.length) : tk xs n 1 = xs.getD n 0 := by
  rw [tk_succ ho n 0 (by omega), tk_zero]
  simp
theorem tk_two {xs : List Int} (ho : Oct xs) (n : Nat) (h : n + 1 < xs.length) : tk xs n 2 = xs.getD n 0 * 256 + xs.getD (n + 1) 0 := by
  rw [tk_succ ho n 1 (by omega), tk_one ho n (by omega)]
theorem tyAt_tk {xs : List Int} (ho : Oct xs) (h : 14 ≤ xs.length) : tk xs 12 2 = tyAt xs := tk_two ho 12 (by omega)
theorem dec0 {xs : List Int} (h : xs.length = 22) : decF 0 (R0 xs) = ⟨tk xs 6 6, tk xs 0 6, 0, 0, 0, 0, 0, 0, 0, 0, 0, 0, 0, 0, tk xs 14 8⟩ := by
  show decF 0 (ra xs 0) = _
  unfold decF
  rw [if_pos rfl]
  unfold decD
  rw [ra_on (by omega), ra_next 0 6 6 rfl (by omega), ra_part 0 6 6 rfl (by omega), ra_part _ 6 6 rfl (by omega), ra_part _ 8 8 rfl (by omega)]
theorem dec1 {xs : List Int} (h : xs.length = 50) : decF 1 (R0 xs) = ⟨tk xs 6 6, tk xs 0 6, 1, tk xs 20 2, tk xs 22 6, tk xs 28 4, tk xs 32 6, tk xs 38 4, 0, 0, 0, 0, 0, 0, tk xs 42 8⟩ := by
  show decF 1 (ra xs 0) = _
  unfold decF
  rw [if_neg (by decide), if_pos rfl]
  unfold decA
  rw [ra_on (by omega), ra_next 0 6 6 rfl (by omega), ra_part 0 6 6 rfl (by omega), ra_part _ 6 6 rfl (by omega), ra_next 14 6 6 rfl (by omega), ra_part _ 2 2 rfl (by omega), ra_next _ 2 2 rfl (by omega), ra_part _ 6 6 rfl (by omega), ra_next _ 6 6 rfl (by omega), ra_part _ 4 4 rfl (by omega), ra_next _ 4 4 rfl (by omega), ra_part _ 6 6 rfl (by omega), ra_next _ 6 6 rfl (by omega), ra_part _ 4 4 rfl (by omega), ra_next _ 4 4 rfl (by omega), ra_part _ 8 8 rfl (by omega)]
theorem pr_tk {xs : List Int} (ho : Oct xs) (h : 42 ≤ xs.length) : prR (R0 xs) = xs.getD 23 0 := by
  show prR (ra xs 0) = _
  unfold prR
  rw [ra_on (by omega), ra_next 14 8 8 rfl (by omega), ra_next _ 1 1 rfl (by omega), ra_part _ 1 1 rfl (by omega), tk_one ho _ (by omega)]
theorem dec2n {xs : List Int} (ho : Oct xs) (h : xs.length = 42) (hp : pt (xs.getD 23 0) = false) : decF 2 (R0 xs) = ⟨tk xs 6 6, tk xs 0 6, 2, 0, 0, 0, 0, 0, tk xs 26 4, tk xs 30 4, xs.getD 22 0, xs.getD 23 0, 0, 0, tk xs 34 8⟩ := by
  have hq := pr_tk ho (by omega)
  unfold decF
  rw [if_neg (by decide), if_neg (by decide), hq, hp, if_neg (by decide)]
  show decN (ra xs 0) = _
  unfold decN
  rw [ra_on (by omega), ra_next 0 6 6 rfl (by omega), ra_part 0 6 6 rfl (by omega), ra_part _ 6 6 rfl (by omega), ra_next 14 8 8 rfl (by omega), ra_next _ 1 1 rfl (by omega), ra_part _ 1 1 rfl (by omega), ra_part _ 1 1 rfl (by omega), ra_next _ 1 1 rfl (by omega), ra_next _ 2 2 rfl (by omega), ra_part _ 4 4 rfl (by omega), ra_next _ 4 4 rfl (by omega), ra_part _ 4 4 rfl (by omega), ra_next _ 4 4 rfl (by omega), ra_part _ 8 8 rfl (by omega), tk_one ho _ (by omega), tk_one ho _ (by omega)]
theorem dec2y {xs : List Int} (ho : Oct xs) (h : xs.length = 50) (hp : pt (xs.getD 23 0) = true) : decF 2 (R0 xs) = ⟨tk xs 6 6, tk xs 0 6, 2, 0, 0, 0, 0, 0, tk xs 26 4, tk xs 30 4, xs.getD 22 0, xs.getD 23 0, tk xs 34 2, tk xs 36 2, tk xs 42 8⟩ := by
  have hq := pr_tk ho (by omega)
  unfold decF
  rw [if_neg (by decide), if_neg (by decide), hq, hp, if_pos rfl]
  show decY (ra xs 0) = _
  unfold decY
  rw [ra_on (by omega), ra_next 0 6 6 rfl (by omega), ra_part 0 6 6 rfl (by omega), ra_part _ 6 6 rfl (by omega), ra_next 14 8 8 rfl (by omega), ra_next _ 1 1 rfl (by omega), ra_part _ 1 1 rfl (by omega), ra_part _ 1 1 rfl (by omega), ra_next _ 1 1 rfl (by omega), ra_next _ 2 2 rfl (by omega), ra_part _ 4 4 rfl (by omega), ra_next _ 4 4 rfl (by omega), ra_part _ 4 4 rfl (by omega), ra_next _ 4 4 rfl (by omega), ra_part _ 2 2 rfl (by omega), ra_next _ 2 2 rfl (by omega), ra_part _ 2 2 rfl (by omega), ra_next _ 2 2 rfl (by omega), ra_next _ 4 4 rfl (by omega), ra_part _ 8 8 rfl (by omega), tk_one ho _ (by omega), tk_one ho _ (by omega)]
end Go.Proofs.Ytgpjelcihmbiiaa
