/- The reader: numbers. No condition. -/
import Derived.Test.YtgpjelcihmbiiaaWTk
import Derived.LoopTactic
import Derived.Laws.BitsAllLaws
namespace Go.Proofs.Ytgpjelcihmbiiaa
open Go.RowKit
set_option linter.unusedVariables false
set_option linter.unusedSimpArgs false
set_option maxRecDepth 100000

/-- The number that octets spell, the most significant one first. -/
def be (l : List Int) : Nat := l.foldl (fun a x => a * 256 + x.toNat) 0
theorem be_snoc (l : List Int) (x : Int) : be (l ++ [x]) = be l * 256 + x.toNat := by simp [be]
theorem take_step (l : List Int) (k : Nat) (h : k < l.length) : l.take (k + 1) = l.take k ++ [l.getD k 0] := by
  rw [List.take_add_one, List.getD_eq_getElem?_getD, List.getElem?_eq_getElem h]
  rfl
theorem be_take_lt (l : List Int) (h : Oct l) (k : Nat) (hk : k ≤ l.length) : be (l.take k) < 256 ^ k := by
  induction k with
  | zero => simp [be]
  | succ k ih =>
    have h1 := ih (by omega)
    have h2 := h.getD k
    rw [take_step l k (by omega), be_snoc, Nat.pow_succ]
    omega
theorem be_lt (l : List Int) (h : Oct l) : be l < 256 ^ l.length := by
  have := be_take_lt l h l.length (Nat.le_refl _)
  rwa [List.take_length] at this
theorem or_byte (a y : Int) (h0 : 0 ≤ a) (h1 : a < 72057594037927936) (h2 : 0 ≤ y) (h3 : y < 256) : bits .or .u64 (a * 256) y = a * 256 + y := by
  rw [u64_or _ _ (by omega) (by omega) h2 (by omega)]
  have e1 : (a * 256).toNat = 2 ^ 8 * a.toNat := by omega
  have e2 := Nat.two_pow_add_eq_or_of_lt (i := 8) (b := y.toNat) (by omega) a.toNat
  rw [e1, ← e2]
  omega

theorem rd_num (w : World) (b : Nat) (R : RS) (k : Nat) (hk8 : k ≤ 8) (h : Rdr w b R) : Calls Try.prog 89 #[.pointer (some ⟨b, 0, none⟩), .int .i64 k] w fun e w' => e = .returned (.int .u64 (be (R.part k))) ∧ Rdr w' b (R.next k) ∧ But w.heap.size b w w' := by
  have ho : Oct (R.part k) := by
    unfold RS.part
    split
    · exact (h.2.1.drop _).take _
    · exact fun x hx => by cases hx
  have hl : (R.part k).length ≤ 8 := by
    unfold RS.part
    split
    · simp; omega
    · simp
  go_enter Try.func89, Try.ntmps89
  go_wp2_with fail
  go_at_call 92
  refine (rd_take w b R k h).mono ?_
  rintro e w1 ⟨v, rfl, hs, r1, k1⟩
  generalize hxs : R.part k = xs at hs ho hl ⊢
  obtain ⟨a, c, rfl, hc, hx⟩ := hs
  go_wp2_with fail
  go_loop [5, 7, 12] (fun va vv vi => ∃ (j : Nat) (m : Int), j ≤ xs.length ∧ va = .int .u64 m ∧ vi = .int .i64 j ∧ Hid (m = (be (xs.take j) : Nat)))
    (fun _ _ vi => xs.length - (intOf vi).toNat)
  case atStart => exact ⟨0, 0, by omega, rfl, rfl, rfl⟩
  case round =>
    obtain ⟨j, m, hj, rfl, rfl, hh⟩ := hrel
    by_cases hlt : j < xs.length
    · obtain ⟨g, o, rfl, hcell⟩ := hx j hlt
      have hm := hh.out
      have hb := be_take_lt _ ho j hj
      have hd := ho.getD j
      have m1 : m < 72057594037927936 := by
        have := Nat.pow_le_pow_right (n := 256) (by decide) (show j ≤ 7 by omega)
        have e : (256 : Nat) ^ 7 = 72057594037927936 := by decide
        omega
      have m0 : 0 ≤ m := by omega
      have hjl : (j : Int) < xs.length := by omega
      have hst := take_step xs j hlt
      have hor := or_byte m (xs.getD j 0) m0 m1 hd.1 hd.2
      generalize hy : xs.getD j 0 = y at hcell hd hst hor
      clear hh hx
      go_wp2
      refine ⟨⟨j + 1, m * 256 + y, hlt, by rw [← hor, hm], rfl, ?_⟩, by simp [intOf]; omega⟩
      show m * 256 + y = _
      rw [hst, be_snoc]
      omega
    · have hm : m = (be (xs.take j) : Nat) := hh.out
      obtain rfl : j = xs.length := by omega
      rw [List.take_length] at hm
      clear hh hx
      go_wp2
      go_ret
      subst hm
      exact ⟨rfl, r1, k1⟩
end Go.Proofs.Ytgpjelcihmbiiaa
