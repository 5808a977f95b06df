/- ComparePrefix returns the order by address, then by length; it makes at most new memory. No condition. Comparing numbers of other types; the first of several numbers that is not zero. No condition. A region that draws its order and whose calls write: one walk of the text's order serves every order, where the class of worlds says which operations have been. No condition. A region that draws its order: all operations but the last ones only read, their callees may make new memory; the last ones wait for all of them and follow one after the other. No condition. Compare: the order of two routes' keys. No condition. Plain numbers: both comparisons are total orders. No condition. -/
import Derived.Test.YtejcclcckgdbgaaCmp
import Derived.Test.YtejcclcckgdbgaaNKey
import Derived.LoopTactic
import Derived.Test.YtejcclcckgdbgaaGa
import Derived.Deep.Quiet
import Derived.StillTail
import Derived.Test.YtejcclcckgdbgaaEqe
namespace Go.Proofs.Ytejcclcckgdbgaa
open Go.RowKit
set_option linter.unusedVariables false
set_option maxRecDepth 100000

def orI (x y : Int) : Int := if x ≠ 0 then x else y
theorem or_yes (b : Nat) (x y : Int) (hx : (x != 0) = true) (w : World) (h0 : w.cell? ⟨b, 0, none⟩ = some (.int .i64 x)) (h1 : w.cell? ⟨b, 1, none⟩ = some (.int .i64 y)) :
    Calls Try.prog 40 #[.slice (some ⟨b, 0, none⟩) 2 2] w fun e w' => e = .returned (.int .i64 x) ∧ w = w' := by
  go_enter Try.func40, Try.ntmps40
  go_wp2
  go_rounds 1
  all_goals (go_ret; exact ⟨rfl, rfl⟩)
theorem or_no (b : Nat) (x y : Int) (hx : (x != 0) = false) (hy : (y != 0) = true) (w : World) (h0 : w.cell? ⟨b, 0, none⟩ = some (.int .i64 x)) (h1 : w.cell? ⟨b, 1, none⟩ = some (.int .i64 y)) :
    Calls Try.prog 40 #[.slice (some ⟨b, 0, none⟩) 2 2] w fun e w' => e = .returned (.int .i64 y) ∧ w = w' := by
  go_enter Try.func40, Try.ntmps40
  go_wp2
  go_rounds 2
  all_goals (go_ret; exact ⟨rfl, rfl⟩)
theorem or_none (b : Nat) (x y : Int) (hx : (x != 0) = false) (hy : (y != 0) = false) (w : World) (h0 : w.cell? ⟨b, 0, none⟩ = some (.int .i64 x)) (h1 : w.cell? ⟨b, 1, none⟩ = some (.int .i64 y)) :
    Calls Try.prog 40 #[.slice (some ⟨b, 0, none⟩) 2 2] w fun e w' => e = .returned (.int .i64 0) ∧ w = w' := by
  go_enter Try.func40, Try.ntmps40
  go_wp2
  go_rounds 3
  all_goals (go_ret; exact ⟨rfl, rfl⟩)
theorem or_any (b : Nat) (x y : Int) (w : World) (h0 : w.cell? ⟨b, 0, none⟩ = some (.int .i64 x)) (h1 : w.cell? ⟨b, 1, none⟩ = some (.int .i64 y)) :
    Calls Try.prog 40 #[.slice (some ⟨b, 0, none⟩) 2 2] w fun e w' => e = .returned (.int .i64 (orI x y)) ∧ w = w' := by
  by_cases hx : x = 0
  · by_cases hy : y = 0
    · have := or_none b x y (by simp [hx]) (by simp [hy]) w h0 h1
      rwa [show orI x y = 0 by simp [orI, hx, hy]]
    · have := or_no b x y (by simp [hx]) (by simp [hy]) w h0 h1
      rwa [show orI x y = y by simp [orI, hx]]
  · have := or_yes b x y (by simp [hx]) w h0 h1
    rwa [show orI x y = x by simp [orI, hx]]

def cmpP (a n b m : Int) : Int := orI (sg a b) (sg n m)
set_option maxHeartbeats 1000000 in
theorem comparePrefix_any (a n b m : Int) (w : World) :
    Calls Try.prog 48 #[.agg #[.int .u32 a, .int .i64 n], .agg #[.int .u32 b, .int .i64 m]] w fun e w' => e = .returned (.int .i64 (cmpP a n b m)) ∧ Below w.heap.size w w' := by
  have S := ((St.start w).box2 (.int .u32 a) (.int .i64 n) 34).box2 (.int .u32 b) (.int .i64 m) 34
  simp only [World.size_alloc] at S
  go_enter Try.func48, Try.ntmps48
  go_wp2_with fail
  refine wp_region_tail S 10 (by kernel_rfl) (by kernel_rfl) ?_
  intro W1 S1 k z
  simp only [Cells, Lts, and_true] at k z
  simp only [List.take_succ_cons, List.take_zero, List.drop_succ_cons, List.drop_zero]
  still_step
  still_step
  still_step
  still_step
  still_call ((cmpIP_any a b _).mono fun e w' h => ⟨h.1, h.2.symm⟩)
  still_step
  still_step
  still_step
  still_step
  still_call ((cmpInt_any n m _).mono fun e w' h => ⟨h.1, h.2.symm⟩)
  refine wpStill_nil ?_
  have k1 := cell2_new W1 (.int .i64 (sg a b)) (.int .i64 (sg n m)) 3
  go_wp2_with (go_at_call 40; refine (or_any _ (sg a b) (sg n m) _ k1.1 k1.2).mono ?_; rintro e w' ⟨rfl, rfl⟩)
  go_ret
  exact ⟨rfl, (S1.alloc _).2⟩
end Go.Proofs.Ytejcclcckgdbgaa
namespace Go.Proofs.Ytejcclcckgdbgaa
open Go.RowKit Go.Shelf
set_option linter.unusedVariables false
set_option linter.unusedSimpArgs false
set_option maxRecDepth 100000
attribute [local go_sem] Oper.semAt_some

theorem cmpU64_any (x y : Int) (w : World) :
    Calls Try.prog 42 #[.int .u64 x, .int .u64 y] w fun e w' => e = .returned (.int .i64 (sg x y)) ∧ w = w' := by
  have ex : (x != x) = false := by simp
  have ey : (y != y) = false := by simp
  rcases Int.lt_trichotomy x y with h | h | h
  · have hs : sg x y = -1 := by simp [sg, h]
    rw [hs]
    go_enter Try.func42, Try.ntmps42
    go_wp2
    go_ret
    exact ⟨rfl, rfl⟩
  · subst h
    have hs : sg x x = 0 := by simp [sg]
    rw [hs]
    go_enter Try.func42, Try.ntmps42
    go_wp2
    go_ret
    exact ⟨rfl, rfl⟩
  · have hs : sg x y = 1 := by unfold sg; rw [if_neg (by omega), if_pos h]
    have h' : ¬ x < y := by omega
    rw [hs]
    go_enter Try.func42, Try.ntmps42
    go_wp2
    go_ret
    exact ⟨rfl, rfl⟩
theorem cmpU32_any (x y : Int) (w : World) :
    Calls Try.prog 44 #[.int .u32 x, .int .u32 y] w fun e w' => e = .returned (.int .i64 (sg x y)) ∧ w = w' := by
  have ex : (x != x) = false := by simp
  have ey : (y != y) = false := by simp
  rcases Int.lt_trichotomy x y with h | h | h
  · have hs : sg x y = -1 := by simp [sg, h]
    rw [hs]
    go_enter Try.func44, Try.ntmps44
    go_wp2
    go_ret
    exact ⟨rfl, rfl⟩
  · subst h
    have hs : sg x x = 0 := by simp [sg]
    rw [hs]
    go_enter Try.func44, Try.ntmps44
    go_wp2
    go_ret
    exact ⟨rfl, rfl⟩
  · have hs : sg x y = 1 := by unfold sg; rw [if_neg (by omega), if_pos h]
    have h' : ¬ x < y := by omega
    rw [hs]
    go_enter Try.func44, Try.ntmps44
    go_wp2
    go_ret
    exact ⟨rfl, rfl⟩
theorem cmpMAC_any (x y : Int) (w : World) :
    Calls Try.prog 45 #[.int .u64 x, .int .u64 y] w fun e w' => e = .returned (.int .i64 (sg x y)) ∧ w = w' := by
  have ex : (x != x) = false := by simp
  have ey : (y != y) = false := by simp
  rcases Int.lt_trichotomy x y with h | h | h
  · have hs : sg x y = -1 := by simp [sg, h]
    rw [hs]
    go_enter Try.func45, Try.ntmps45
    go_wp2
    go_ret
    exact ⟨rfl, rfl⟩
  · subst h
    have hs : sg x x = 0 := by simp [sg]
    rw [hs]
    go_enter Try.func45, Try.ntmps45
    go_wp2
    go_ret
    exact ⟨rfl, rfl⟩
  · have hs : sg x y = 1 := by unfold sg; rw [if_neg (by omega), if_pos h]
    have h' : ¬ x < y := by omega
    rw [hs]
    go_enter Try.func45, Try.ntmps45
    go_wp2
    go_ret
    exact ⟨rfl, rfl⟩

def bit (h : Bool) : Int := if h then 1 else 0
theorem number_any (h : Bool) (w : World) : Calls Try.prog 46 #[.bool h] w fun e w' => e = .returned (.int .i64 (bit h)) ∧ w = w' := by
  cases h
  all_goals
    go_enter Try.func46, Try.ntmps46
    go_wp2
    go_ret
    exact ⟨rfl, rfl⟩

/-- The first that is not zero. -/
def orL : List Int → Int
  | [] => 0
  | x :: r => if x ≠ 0 then x else orL r
theorem orL_at : ∀ (xs : List Int) (i : Nat), i < xs.length → (∀ j, j < i → xs.getD j 0 = 0) → xs.getD i 0 ≠ 0 → orL xs = xs.getD i 0
  | x :: r, 0, _, _, h => by simp at h; simp [orL, h]
  | x :: r, i + 1, hi, h0, h => by
    have hx : x = 0 := by simpa using h0 0 (by omega)
    subst hx
    simp only [orL, ne_eq, not_true_eq_false, if_false]
    have := orL_at r i (by simpa using hi) (fun j hj => by simpa using h0 (j + 1) (by omega)) (by simpa using h)
    simpa using this
theorem orL_none : ∀ (xs : List Int), (∀ j, j < xs.length → xs.getD j 0 = 0) → orL xs = 0
  | [], _ => rfl
  | x :: r, h => by
    have hx : x = 0 := by simpa using h 0 (by simp)
    subst hx
    simp only [orL, ne_eq, not_true_eq_false, if_false]
    exact orL_none r fun j hj => by simpa using h (j + 1) (by simpa using hj)
set_option maxHeartbeats 1000000 in
theorem or_is (b : Nat) (xs : List Int) (hn : xs.length ≤ 1000) (w : World) (hb : Blk w b 3 (xs.map (Value.int .i64))) :
    Calls Try.prog 40 #[.slice (some ⟨b, 0, none⟩) xs.length xs.length] w fun e w' => e = .returned (.int .i64 (orL xs)) ∧ w = w' := by
  have HB := Lib.hid hb
  have HA := Lib.hid (orL_at xs)
  have HN := Lib.hid (orL_none xs)
  generalize orL xs = r at HA HN ⊢
  clear hb
  go_enter Try.func40, Try.ntmps40
  go_wp2
  go_loop [5, 8] (fun v5 vi => ∃ i : Nat, i ≤ xs.length ∧ vi = .int .i64 i ∧ Hid (∀ j, j < i → xs.getD j 0 = 0)) (fun _ vi => xs.length - (intOf vi).toNat)
  case atStart => exact ⟨0, Nat.zero_le _, rfl, Lib.hid (fun j hj => absurd hj (Nat.not_lt_zero _))⟩
  case round =>
    obtain ⟨i, hi, rfl, hz⟩ := hrel
    by_cases hlt : i < xs.length
    · have hil : (i : Int) < xs.length := by omega
      have hc := HB.out.cell i (v := .int .i64 (xs.getD i 0)) (by simp [List.getD_eq_getElem?_getD, hlt])
      by_cases h0 : xs.getD i 0 = 0
      · have HZ := Lib.hid h0
        have A : (xs.getD i 0 != 0) = false := by rw [h0]; rfl
        generalize xs.getD i 0 = x at hc A
        clear h0
        go_wp2
        refine ⟨⟨i + 1, by omega, by go_num, Lib.hid (fun j hj => ?_)⟩, by simp [intOf]; omega⟩
        by_cases hji : j = i
        · subst hji; exact HZ.out
        · exact hz.out j (by omega)
      · have hr := HA.out i hlt hz.out h0
        rw [← hr] at hc
        have A : (r != 0) = true := by rw [hr]; simpa using h0
        clear h0 hr HA HN
        go_wp2
        go_ret
        exact ⟨rfl, rfl⟩
    · obtain rfl : i = xs.length := by omega
      have hr := HN.out hz.out
      subst hr
      go_wp2
      go_ret
      exact ⟨rfl, rfl⟩
end Go.Proofs.Ytejcclcckgdbgaa
namespace Go.Proofs.Ytejcclcckgdbgaa
open Go.RowKit
set_option linter.unusedVariables false

/-- Carried out, the operation leaves v, and a world of the class D. -/
def turnsUpon (P : Program) (D : World → Prop) (v : Value) : Result Next → Prop
  | .ok (.value u) w' => D w' ∧ u = v
  | .ok .skip w' => D w' ∧ v = undef
  | .ok (.enter f args) w' => Calls P f args w' (fun e w'' => e = .returned v ∧ D w'')
  | _ => False

section
variable {P : Program} {ops : Array Oper} {C : Array Bool → World → Prop}

theorem wp_of_turns {o : Oper} {a : Act} {D : World → Prop} {v : Value} {K : Act → World → Prop} {Q : Exit → Act → World → Prop} {w : World} (h : turnsUpon P D v ((execOp a.eval o).run P w)) (hK : ∀ w', D w' → K (a.put o.dst v) w') : o.wp P a w K Q := by
  unfold Oper.wp
  generalize (execOp a.eval o).run P w = r at h
  cases r with
  | ok n w' =>
    cases n <;> simp only [turnsUpon] at h <;> simp only [Oper.upon]
    case value u =>
      obtain ⟨h1, rfl⟩ := h
      exact hK _ h1
    case skip =>
      obtain ⟨h1, rfl⟩ := h
      exact hK _ h1
    case enter f args =>
      exact h.mono fun e w'' ⟨he, hw⟩ => by
        subst he
        exact hK _ hw
  | halt x w' => simp only [turnsUpon] at h

/-- Operation number j yields v whenever it may come up, and it leaves a world in which it has been. -/
def Turns (P : Program) (ops : Array Oper) (C : Array Bool → World → Prop) (j : Nat) (o : Oper) (v : Value) (a : Act) : Prop :=
  (Region.wanted o (yielded ops a.tmps) = true ∧ ∀ L w, j ∈ Region.ready .any ops L → C L w → turnsUpon P (C (L.setIfInBounds j true)) v ((execOp a.eval o).run P w)) ∨
  (Region.wanted o (yielded ops a.tmps) = false ∧ v = undef ∧ ∀ L w, j ∈ Region.ready .any ops L → C L w → C (L.setIfInBounds j true) w)
theorem Turns.of_same {j : Nat} {o : Oper} {v : Value} {a a' : Act} (h : Turns P ops C j o v a) (he : execOp a'.eval o = execOp a.eval o)
    (hw : Region.wanted o (yielded ops a'.tmps) = Region.wanted o (yielded ops a.tmps)) : Turns P ops C j o v a' := by
  unfold Turns at *
  rw [he, hw]
  exact h

/-- Whatever order is picked from here on. -/
def wpM (P : Program) (ops : Array Oper) (C : Array Bool → World → Prop) (Q : Act → Prop) : Nat → Array Bool → Act → Prop
  | 0, L, a => Region.ready .any ops L = [] ∧ Q a
  | f + 1, L, a => (Region.ready .any ops L = [] → Q a) ∧ ∀ i ∈ Region.ready .any ops L, ∃ o v, ops[i]? = some o ∧ Turns P ops C i o v a ∧ wpM P ops C Q f (L.setIfInBounds i true) (a.put o.dst v)
theorem wpAny_of_M {Q : Act → Prop} {Q' : Exit → Act → World → Prop} (hQ : ∀ a L w, Region.ready .any ops L = [] → C L w → Q a → Q' .normal a w) : ∀ (f : Nat) (L : Array Bool) (a : Act) (w : World), C L w → wpM P ops C Q f L a → wpAny P .any ops Q' f L a w
  | 0, _, _, _, hw, h => ⟨h.1, hQ _ _ _ h.1 hw h.2⟩
  | f + 1, L, a, w, hw, h => ⟨fun h0 => hQ _ _ _ h0 hw (h.1 h0), fun i hi => by
      obtain ⟨o, v, ho, ht, hm⟩ := h.2 i hi
      unfold wpOp
      simp only [ho]
      rcases ht with ⟨hwt, ht⟩ | ⟨hwt, rfl, ht⟩
      · rw [if_pos hwt]
        exact .inl (wp_of_turns (ht L w hi hw) fun w' hw' => wpAny_of_M hQ f _ _ w' hw' hm)
      · rw [if_neg (by simp [hwt])]
        exact wpAny_of_M hQ f _ _ w (ht L w hi hw) hm⟩

theorem wpM_first {Q : Act → Prop} {i : Nat} {oi : Oper} {v : Value} (hi : ops[i]? = some oi) (hsel : ∀ (j : Nat) (o : Oper) cs b, ops[j]? = some o → o.op ≠ .select cs b) :
    ∀ (f : Nat) (L : Array Bool) (a : Act), (∀ j oj, ops[j]? = some oj → j ≠ i → L.getD j true = false → (∀ e ∈ oj.after, Region.binds .any e = true → e.on ≠ i) → oi.apart ops oj = true) →
      i ∈ Region.ready .any ops L → Turns P ops C i oi v a → wpM P ops C Q f (L.setIfInBounds i true) (a.put oi.dst v) → wpM P ops C Q (f + 1) L a := by
  intro f
  induction f with
  | zero =>
    intro L a _ hr ht H
    refine ⟨fun h => (by rw [h] at hr; cases hr), fun j hj => ?_⟩
    by_cases hji : j = i
    · subst hji
      exact ⟨oi, v, hi, ht, H⟩
    · have hm := ready_mono hj hji
      rw [H.1] at hm
      cases hm
  | succ f ih =>
    intro L a hfree hr ht H
    refine ⟨fun h => (by rw [h] at hr; cases hr), fun j hj => ?_⟩
    by_cases hji : j = i
    · subst hji
      exact ⟨oi, v, hi, ht, H⟩
    · obtain ⟨oj, u, hoj, htj, hm⟩ := H.2 j (ready_mono hj hji)
      obtain ⟨hjun, oj', hoj', hall⟩ := mem_ready.1 hj
      obtain rfl : oj' = oj := Option.some.inj (hoj'.symm.trans hoj)
      have hno : ∀ e ∈ oj'.after, Region.binds .any e = true → e.on ≠ i := fun e he hb heq => by
        have g1 := hall e he hb
        have g0 := (mem_ready.1 hr).1
        rw [heq] at g1
        rcases Nat.lt_or_ge i L.size with q | q
        · simp [q] at g0 g1
          rw [g0] at g1
          cases g1
        · simp [Array.getElem?_eq_none q] at g1
      obtain ⟨h1, h2, h3⟩ := Oper.apart_spec (hfree j oj' hoj hji hjun hno)
      have sj : ∀ cs b, oj'.op ≠ .select cs b := fun cs b => hsel j oj' cs b hoj
      have si : ∀ cs b, oi.op ≠ .select cs b := fun cs b => hsel i oi cs b hi
      have ta : Turns P ops C j oj' u a := htj.of_same (execOp_put oj' sj a oi.dst v h1).symm (wanted_put oj' a oi.dst v h1).symm
      have tb : Turns P ops C i oi v (a.put oj'.dst u) := ht.of_same (execOp_put oi si a oj'.dst u h3) (wanted_put oi a oj'.dst u h3)
      refine ⟨oj', u, hoj, ta, ih (L.setIfInBounds j true) (a.put oj'.dst u) (fun k ok hk hki hun hnk => ?_) (ready_mono hr (Ne.symm hji)) tb ?_⟩
      · refine hfree k ok hk hki ?_ hnk
        by_cases hjk : j = k
        · subst hjk
          exact hjun
        · rw [getD_set_ne true hjk] at hun
          exact hun
      · rw [Array.setIfInBounds_comm _ _ hji, ← Act.put_comm a v u h2]
        exact hm

/-- The walk in the text's order. -/
def wpMulti (P : Program) (ops : Array Oper) (C : Array Bool → World → Prop) (Q : Act → Prop) : List Oper → Nat → Act → Prop
  | [], _, a => Q a
  | o :: l, k, a => ∃ v, Turns P ops C k o v a ∧ wpMulti P ops C Q l (k + 1) (a.put o.dst v)
theorem wpM_lex {Q : Act → Prop} (hs : Region.noSelect ops = true) : ∀ (l : List Oper) (k : Nat) (L : Array Bool) (a : Act), (∀ j, l[j]? = ops[k + j]?) →
    Region.lexFrom .any ops l.length k L = true → wpMulti P ops C Q l k a → wpM P ops C Q l.length L a
  | [], _, _, _, _, hB, h => ⟨by simpa [Region.lexFrom] using hB, h⟩
  | o :: l, k, L, a, hl, hB, ⟨v, ht, h⟩ => by
    have h0 : ops[k]? = some o := by simpa using (hl 0).symm
    simp only [List.length_cons, Region.lexFrom, Bool.and_eq_true] at hB
    obtain ⟨⟨hr, hf⟩, hB'⟩ := hB
    exact wpM_first h0 (Region.noSelect_spec hs) l.length L a (Region.free_spec h0 hf) (by simpa using hr) ht
      (wpM_lex hs l (k + 1) _ _ (fun j => by have := hl (j + 1); simpa [Nat.add_assoc, Nat.add_comm 1 j] using this) hB' h)

theorem wp_region_multi {id : Nat} {Q : Exit → Act → World → Prop} {a : Act} {w : World} {l : List Oper} (C : Array Bool → World → Prop) (hm : P.follows .mixedOrders = true) (hB : Region.lexB .any l.toArray = true) (hC : C (Array.replicate l.length false) { w with drawn := w.drawn + 1 })
    (h : wpMulti P l.toArray C (fun a' => ∀ L w', Region.ready .any l.toArray L = [] → C L w' → Q .normal a' w') l 0 a) : (Code.region id l.toArray true).wp P Q a w := by
  simp only [Region.lexB, Bool.and_eq_true] at hB
  refine wp_region_any hm (wpAny_of_M (C := C) (Q := fun a' => ∀ L w', Region.ready .any l.toArray L = [] → C L w' → Q .normal a' w') (fun a L w' hr hw' h => h L w' hr hw') _ _ _ _ (by simpa using hC) ?_)
  have := wpM_lex (C := C) hB.1 l 0 (Array.replicate l.toArray.size false) a (by simp) (by simpa using hB.2) h
  simpa using this

/-- An operation that yields v and leaves the world alone. -/
@[go_sem] def calmUpon (w : World) (v : Value) : Result Next → Prop
  | .ok (.value u) w' => w' = w ∧ u = v
  | .ok .skip w' => w' = w ∧ v = undef
  | _ => False
/-- .. the same v in every world of a family. -/
@[go_sem] def calm (P : Program) {T : Type} (G : T → World) (o : Oper) (a : Act) (K : Act → Prop) : Prop := ∃ v, (∀ x, calmUpon (G x) v ((execOp a.eval o).run P (G x))) ∧ K (a.put o.dst v)
theorem turns_of_calm {D : World → Prop} {w : World} {v : Value} {r : Result Next} (h : calmUpon w v r) (hD : D w) : turnsUpon P D v r := by
  cases r with
  | ok n w' =>
    cases n <;> simp only [calmUpon] at h <;> simp only [turnsUpon]
    · exact ⟨h.1 ▸ hD, h.2⟩
    · exact ⟨h.1 ▸ hD, h.2⟩
  | halt x w' => simp only [calmUpon] at h
/-- A step of the walk: an operation that reads. -/
theorem multi_calm {Q : Act → Prop} {o : Oper} {l : List Oper} {k : Nat} {a : Act} {T : Type} {G : T → World} (hG : ∀ L w, k ∈ Region.ready .any ops L → C L w → ∃ x, w = G x) (hk : ∀ L w, k ∈ Region.ready .any ops L → C L w → C (L.setIfInBounds k true) w)
    (h : ∀ K : Act → Prop, (∀ a, wpMulti P ops C Q l (k + 1) a → K a) → if Region.wanted o (yielded ops a.tmps) then calm P G o a K else K (a.put o.dst undef)) : wpMulti P ops C Q (o :: l) k a := by
  have h' := h _ (fun _ q => q)
  by_cases hw : Region.wanted o (yielded ops a.tmps) = true
  · rw [if_pos hw] at h'
    obtain ⟨v, h1, h2⟩ := h'
    exact ⟨v, .inl ⟨hw, fun L w hr hc => by
      obtain ⟨x, rfl⟩ := hG L w hr hc
      exact turns_of_calm (h1 x) (hk L _ hr hc)⟩, h2⟩
  · rw [if_neg hw] at h'
    exact ⟨undef, .inr ⟨by simpa using hw, rfl, hk⟩, h'⟩
/-- A step of the walk: a call. -/
theorem multi_call {Q : Act → Prop} {o : Oper} {l : List Oper} {k : Nat} {a : Act} (f : FuncId) (args : Array Value) (v : Value) (hw : Region.wanted o (yielded ops a.tmps) = true) (ho : ∀ w, (execOp a.eval o).run P w = .ok (.enter f args) w)
    (hc : ∀ L w, k ∈ Region.ready .any ops L → C L w → Calls P f args w fun e w'' => e = .returned v ∧ C (L.setIfInBounds k true) w'') (h : wpMulti P ops C Q l (k + 1) (a.put o.dst v)) : wpMulti P ops C Q (o :: l) k a :=
  ⟨v, .inl ⟨hw, fun L w hr hC => by rw [ho w]; exact hc L w hr hC⟩, h⟩
/-- A step of the walk: whatever writes by itself (append). -/
theorem multi_write {Q : Act → Prop} {o : Oper} {l : List Oper} {k : Nat} {a : Act} (v : Value) (hw : Region.wanted o (yielded ops a.tmps) = true)
    (hc : ∀ L w, k ∈ Region.ready .any ops L → C L w → ∃ w'', (execOp a.eval o).run P w = .ok (.value v) w'' ∧ C (L.setIfInBounds k true) w'') (h : wpMulti P ops C Q l (k + 1) (a.put o.dst v)) : wpMulti P ops C Q (o :: l) k a :=
  ⟨v, .inl ⟨hw, fun L w hr hC => by
    obtain ⟨w'', e, hC'⟩ := hc L w hr hC
    rw [e]
    exact ⟨hC', rfl⟩⟩, h⟩
theorem multi_nil {Q : Act → Prop} {k : Nat} {a : Act} (h : Q a) : wpMulti P ops C Q [] k a := h
/-- Worlds of which something is known, as a family of which nothing else is. -/
theorem family (F : World → Prop) (w0 : World) (h0 : F w0) : ∃ (T : Type) (G : T → World), Nonempty T ∧ (∀ w, F w → ∃ x, w = G x) ∧ ∀ x, F (G x) :=
  ⟨{ w // F w }, Subtype.val, ⟨⟨w0, h0⟩⟩, fun w h => ⟨⟨w, h⟩, rfl⟩, fun x => x.2⟩
theorem ready_not {j : Nat} {L : Array Bool} (h : j ∈ Region.ready .any ops L) : L.getD j false = false ∧ j < L.size := by
  have h0 := (mem_ready.1 h).1
  rcases Nat.lt_or_ge j L.size with q | q
  · simp [q] at h0 ⊢
    exact h0
  · simp [Array.getElem?_eq_none q] at h0
theorem set_yes {j : Nat} {L : Array Bool} (h : j < L.size) : (L.setIfInBounds j true).getD j false = true := by simp [h]
theorem ready_dep {j : Nat} {L : Array Bool} {o : Oper} (h : j ∈ Region.ready .any ops L) (ho : ops[j]? = some o) {e : Edge} (he : e ∈ o.after) (hb : Region.binds .any e = true) : L.getD e.on false = true := by
  obtain ⟨_, o', ho', hall⟩ := mem_ready.1 h
  obtain rfl : o' = o := Option.some.inj (ho'.symm.trans ho)
  exact hall e he hb
end
end Go.Proofs.Ytejcclcckgdbgaa
namespace Go.Proofs.Ytejcclcckgdbgaa
open Go.RowKit Go.Sort
set_option linter.unusedVariables false

section
variable {P : Program} {ops : Array Oper} {C : Array Bool → World → Prop} {n : Nat}

/-- Whatever order is picked among the first n, till all of them have been. -/
def wpMT (P : Program) (ops : Array Oper) (C : Array Bool → World → Prop) (n : Nat) (Z : Array Bool → Act → Prop) : Nat → Array Bool → Act → Prop
  | 0, L, a => Z L a
  | f + 1, L, a => Region.ready .any ops L ≠ [] ∧ ∀ i ∈ Region.ready .any ops L, i < n ∧ ∃ o v, ops[i]? = some o ∧ Turns P ops C i o v a ∧ wpMT P ops C n Z f (L.setIfInBounds i true) (a.put o.dst v)

theorem wpAny_of_MT {Z : Array Bool → Act → Prop} {g : Nat} {Q' : Exit → Act → World → Prop} (hZ : ∀ L a w, C L w → Z L a → wpAny P .any ops Q' g L a w) :
    ∀ (f : Nat) (L : Array Bool) (a : Act) (w : World), C L w → wpMT P ops C n Z f L a → wpAny P .any ops Q' (f + g) L a w
  | 0, L, a, w, hw, h => by rw [Nat.zero_add]; exact hZ _ _ _ hw h
  | f + 1, L, a, w, hw, h => by
    rw [show f + 1 + g = (f + g) + 1 by omega]
    refine ⟨fun h0 => absurd h0 h.1, fun i hi => ?_⟩
    obtain ⟨-, o, v, ho, ht, hm⟩ := h.2 i hi
    unfold wpOp
    simp only [ho]
    rcases ht with ⟨hwt, ht⟩ | ⟨hwt, rfl, ht⟩
    · rw [if_pos hwt]
      exact .inl (wp_of_turns (ht L w hi hw) fun w' hw' => wpAny_of_MT hZ f _ _ w' hw' hm)
    · rw [if_neg (by simp [hwt])]
      exact wpAny_of_MT hZ f _ _ w (ht L w hi hw) hm

theorem wpMT_first {Z : Array Bool → Act → Prop} {i : Nat} {oi : Oper} {v : Value} (hi : ops[i]? = some oi) (hsel : ∀ (j : Nat) (o : Oper) cs b, ops[j]? = some o → o.op ≠ .select cs b)
    (hs : Region.sinkB .any ops n = true) (hc : Region.chainB .any ops n = true) (hn : n < ops.size) (hin : i < n) (hdone : ∀ L a, Z L a → ∀ j ∈ Region.ready .any ops L, n ≤ j) :
    ∀ (f : Nat) (L : Array Bool) (a : Act), HeadInv .any ops n L → (∀ j oj, ops[j]? = some oj → j ≠ i → L.getD j true = false → (∀ e ∈ oj.after, Region.binds .any e = true → e.on ≠ i) → oi.apart ops oj = true) →
      i ∈ Region.ready .any ops L → Turns P ops C i oi v a → wpMT P ops C n Z f (L.setIfInBounds i true) (a.put oi.dst v) → wpMT P ops C n Z (f + 1) L a := by
  intro f
  have low : ∀ L, HeadInv .any ops n L → i ∈ Region.ready .any ops L → ∀ j ∈ Region.ready .any ops L, j < n := fun L inv hr j hj => by
    rcases Nat.lt_or_ge j n with q | q
    · exact q
    · exact absurd hj (tail_waits hs hc hn inv _ i rfl hin (mem_ready.1 hr).1 j q)
  induction f with
  | zero =>
    intro L a inv _ hr ht H
    refine ⟨fun h => (by rw [h] at hr; cases hr), fun j hj => ⟨low L inv hr j hj, ?_⟩⟩
    by_cases hji : j = i
    · subst hji
      exact ⟨oi, v, hi, ht, H⟩
    · have := hdone _ _ H j (ready_mono hj hji)
      have := low L inv hr j hj
      omega
  | succ f ih =>
    intro L a inv hfree hr ht H
    refine ⟨fun h => (by rw [h] at hr; cases hr), fun j hj => ⟨low L inv hr j hj, ?_⟩⟩
    by_cases hji : j = i
    · subst hji
      exact ⟨oi, v, hi, ht, H⟩
    · obtain ⟨-, oj, u, hoj, htj, hm⟩ := H.2 j (ready_mono hj hji)
      obtain ⟨hjun, oj', hoj', hall⟩ := mem_ready.1 hj
      obtain rfl : oj' = oj := Option.some.inj (hoj'.symm.trans hoj)
      have hun := (mem_ready.1 hr).1
      have hno : ∀ e ∈ oj'.after, Region.binds .any e = true → e.on ≠ i := fun e he hb heq => by
        have g1 := hall e he hb
        rw [heq, getD_both hun] at g1
        cases g1
      obtain ⟨h1, h2, h3⟩ := Oper.apart_spec (hfree j oj' hoj hji hjun hno)
      have sj : ∀ cs b, oj'.op ≠ .select cs b := fun cs b => hsel j oj' cs b hoj
      have si : ∀ cs b, oi.op ≠ .select cs b := fun cs b => hsel i oi cs b hi
      have ta : Turns P ops C j oj' u a := htj.of_same (execOp_put oj' sj a oi.dst v h1).symm (wanted_put oj' a oi.dst v h1).symm
      have tb : Turns P ops C i oi v (a.put oj'.dst u) := ht.of_same (execOp_put oi si a oj'.dst u h3) (wanted_put oi a oj'.dst u h3)
      refine ⟨oj', u, hoj, ta, ih (L.setIfInBounds j true) (a.put oj'.dst u) (inv.set hj (low L inv hr j hj)) (fun k ok hk hki hun hnk => ?_) (ready_mono hr (Ne.symm hji)) tb ?_⟩
      · refine hfree k ok hk hki ?_ hnk
        by_cases hjk : j = k
        · subst hjk
          exact hjun
        · rw [getD_set_ne true hjk] at hun
          exact hun
      · rw [Array.setIfInBounds_comm _ _ hji, ← Act.put_comm a v u h2]
        exact hm

theorem wpMT_lex {g : Nat} {Zq : Act → Prop} (hsel : Region.noSelect ops = true) (hs : Region.sinkB .any ops n = true) (hc : Region.chainB .any ops n = true) (hn : n < ops.size) :
    ∀ (l : List Oper) (k : Nat) (L : Array Bool) (a : Act), (∀ j, j < l.length → l[j]? = ops[k + j]?) → k + l.length = n → HeadInv .any ops n L →
    Region.lexHead .any ops g l.length k L = true → wpMulti P ops C Zq l k a → wpMT P ops C n (fun L' a' => Region.seqB .any ops g n L' = true ∧ Zq a') l.length L a
  | [], k, L, a, _, hk, _, hB, h => by
    have : k = n := by simpa using hk
    subst this
    exact ⟨by simpa [Region.lexHead] using hB, h⟩
  | o :: l, k, L, a, hl, hk, inv, hB, ⟨v, ht, h⟩ => by
    have h0 : ops[k]? = some o := by simpa using (hl 0 (by simp)).symm
    simp only [List.length_cons, Region.lexHead, Bool.and_eq_true] at hB
    obtain ⟨⟨hr, hf⟩, hB'⟩ := hB
    have hkn : k < n := by simp only [List.length_cons] at hk; omega
    have hr' : k ∈ Region.ready .any ops L := by simpa using hr
    exact wpMT_first h0 (Region.noSelect_spec hsel) hs hc hn hkn (fun L' a' hL => seqB_ready hL.1) l.length L a inv (Region.free_spec h0 hf) hr' ht
      (wpMT_lex hsel hs hc hn l (k + 1) _ _ (fun j hj => by have := hl (j + 1) (by simp; omega); simpa [Nat.add_assoc, Nat.add_comm 1 j] using this) (by simp only [List.length_cons] at hk; omega) (inv.set hr' hkn) hB' h)

theorem multi_of_quiet {C₀ : World → Prop} {Q : Act → Prop} : ∀ (l : List Oper) (k : Nat) (a : Act), wpQuiet P ops C₀ Q l a → wpMulti P ops (fun _ w => C₀ w) Q l k a
  | [], _, _, h => h
  | o :: l, k, a, h => by
    unfold wpQuiet at h
    split at h
    · rename_i hw
      obtain ⟨v, hv, hK⟩ := h
      refine ⟨v, .inl ⟨hw, fun L w _ hC => ?_⟩, multi_of_quiet l (k + 1) _ hK⟩
      have hq := hv w hC
      unfold Oper.quietAt at hq
      generalize (execOp a.eval o).run P w = r at hq
      cases r with
      | ok m w1 =>
        cases m <;> simp only [Oper.quietUpon] at hq <;> simp only [turnsUpon]
        · exact ⟨hq.1 ▸ hC, hq.2⟩
        · exact ⟨hq.1 ▸ hC, hq.2⟩
        · obtain ⟨rfl, hq⟩ := hq
          exact hq
      | halt x w1 => simp only [Oper.quietUpon] at hq
    · rename_i hw
      exact ⟨undef, .inr ⟨by simpa using hw, rfl, fun L w _ hC => hC⟩, multi_of_quiet l (k + 1) _ h⟩
end

theorem wp_region_qtail {P : Program} {id : Nat} {Q : Exit → Act → World → Prop} {a : Act} {w : World} {l : List Oper} (n : Nat) (hm : P.follows .mixedOrders = true) (hB : Region.lexTailB .any l.toArray n = true)
    (h : wpQuiet P l.toArray (fun w' => ∃ p : Regrown, w' = grow (redrawn w p.d) p.os) (fun a' => ∀ w', Below w.heap.size w w' → wpList P l.toArray Q (l.drop n) a' w') (l.take n) a) : (Code.region id l.toArray true).wp P Q a w := by
  simp only [Region.lexTailB, Bool.and_eq_true, decide_eq_true_eq] at hB
  obtain ⟨⟨⟨⟨hsel, hn⟩, hs⟩, hc⟩, hlex⟩ := hB
  have hn' : n < l.length := by simpa using hn
  have htl : (l.take n).length = n := by simp; omega
  refine wp_region_any hm ?_
  have M := multi_of_quiet (l.take n) 0 a h
  have inv : HeadInv .any l.toArray n (Array.replicate l.toArray.size false) := by
    refine ⟨by simp, fun j oj _ hl => ?_, fun t ht ht' => ?_⟩
    · rw [getD_replicate_false] at hl
      cases hl
    · have : t < l.length := by simpa using ht'
      simp [this]
  have H := wpMT_lex (C := fun _ w' => ∃ p : Regrown, w' = grow (redrawn w p.d) p.os) (n := n) (g := l.toArray.size - n) hsel hs hc hn (l.take n) 0 (Array.replicate l.toArray.size false) a (fun j hj => by
      have hj' : j < n := by simp at hj; omega
      simp [hj']) (by simp; omega) inv (by rw [htl]; exact hlex) M
  have hg : l.toArray.size = (l.take n).length + (l.toArray.size - n) := by rw [htl]; omega
  generalize Array.replicate l.toArray.size false = A at H ⊢
  rw [hg]
  refine wpAny_of_MT (C := fun _ w' => ∃ p : Regrown, w' = grow (redrawn w p.d) p.os) (fun L a' w' hw' hZ => ?_) _ _ _ { w with drawn := w.drawn + 1 } ⟨⟨w.drawn + 1, #[]⟩, by rw [grow_empty]; rfl⟩ H
  obtain ⟨p, rfl⟩ := hw'
  have hd : (l.drop n).length = l.toArray.size - n := by simp
  rw [← hd] at hZ ⊢
  exact wpAny_of_seq (l.drop n) n L a' _ (fun j => by simp) hZ.1 (hZ.2 _ (below_regrown w p.d p.os))
end Go.Proofs.Ytejcclcckgdbgaa
namespace Go.Proofs.Ytejcclcckgdbgaa
open Go.RowKit Go.Sort Go.Shelf
set_option linter.unusedVariables false
set_option linter.unusedSimpArgs false
set_option maxRecDepth 100000

theorem cesi_any (e f : Nat → Int) (w : World) : Calls Try.prog 43 #[.agg (esi e).toArray, .agg (esi f).toArray] w fun r w' => r = .returned (.int .i64 (cmpE e f)) ∧ Below w.heap.size w w' := compareESI_any e f w
/-- The signs, one after the other. -/
def signs (a b : NL) : List Int := [sg a.k b.k, sg a.rd b.rd, cmpE a.e b.e, sg a.t b.t, sg a.m b.m, sg (bit a.h) (bit b.h), sg a.ip b.ip, cmpP a.pi a.pn b.pi b.pn, sg a.g b.g]
def NL.cmp (a b : NL) : Int := orL (signs a.key b.key)

set_option maxHeartbeats 8000000 in
theorem compare_is (a b : NL) (w : World) : Calls Try.prog 21 #[a.v, b.v] w fun r w' => r = .returned (.int .i64 (a.cmp b)) ∧ Below w.heap.size w w' := by
  unfold NL.cmp
  have hka := fun w => key_is a w
  have hkb := fun w => key_is b w
  generalize a.key = p at hka ⊢
  generalize b.key = q at hkb ⊢
  unfold NL.v at hka hkb ⊢
  go_enter Try.func21, Try.ntmps21
  go_wp2_with (first
    | (refine at_box rfl (.tmp 0) rfl a rfl ?_; rintro w1 ⟨x1, k1, s1⟩)
    | (refine at_box rfl (.tmp 1) rfl b rfl ?_; rintro w2 ⟨y2, k2, s2⟩; rw [s1] at y2; have x2 := x1.below k2 x1.lt; have b2 := k1.trans (k2.mono k1.size); have hne : w.heap.size + 1 ≠ w.heap.size := by omega
       clear x1 k1 k2))
  refine wp_region_qtail 4 (by kernel_rfl) (by kernel_rfl) ?_
  simp only [List.take_succ_cons, List.take_zero, List.drop_succ_cons, List.drop_zero]
  repeat (first
    | go_big_quiet_skip
    | (go_big_quiet_want; refine q_load (.tmp 2) rfl w.heap.size rfl a x2.regrown ?_; go_simp; go_big_quiet_on)
    | (go_big_quiet_want; refine q_load (.tmp 3) rfl (w.heap.size + 1) rfl b y2.regrown ?_; go_simp; go_big_quiet_on)
    | (go_big_quiet_want; go_big_quiet_op; first | go_big_quiet_on | go_big_quiet_call (first | (with_reducible exact Calls.regrown_of (hka _)) | (with_reducible exact Calls.regrown_of (hkb _)))))
  refine wpQuiet_nil ?_
  intro w3 k3
  have x3 := x2.below k3 x2.lt
  have y3 := y2.below k3 y2.lt
  have b3 := b2.trans (k3.mono b2.size)
  clear x2 y2 b2 k3 hka hkb
  go_wp2_with (first
    | (refine at_store rfl (.tmp 2) _ rfl rfl w.heap.size rfl a p rfl x3 ?_; rintro w4 g4; have x4 := g4.bx; have y4 := g4.other y3 hne; have b4 := g4.next b3 (Nat.le_refl _); clear g4 x3 y3 b3)
    | (refine at_store rfl (.tmp 3) _ rfl rfl (w.heap.size + 1) rfl b q rfl y4 ?_; rintro w5 g5; have y5 := g5.bx; have x5 := g5.other x4 (Ne.symm hne); have b5 := g5.next b4 (by omega); clear g5 x4 y4 b4))
  refine wp_region_qtail 47 (by kernel_rfl) (by kernel_rfl) ?_
  simp only [List.take_succ_cons, List.take_zero, List.drop_succ_cons, List.drop_zero]
  have c0 := cell_regrown (Blk.cell x5 0 (v := .int .i64 p.k) rfl)
  have c1 := cell_regrown (Blk.cell x5 1 (v := .int .u64 p.rd) rfl)
  have c12 := cell_regrown (Blk.cell x5 12 (v := .int .u32 p.t) rfl)
  have c13 := cell_regrown (Blk.cell x5 13 (v := .int .u64 p.m) rfl)
  have c14 := cell_regrown (Blk.cell x5 14 (v := .int .u32 p.ip) rfl)
  have c15 := cell_regrown (Blk.cell x5 15 (v := .bool p.h) rfl)
  have c16 := cell_regrown (Blk.cell x5 16 (v := .int .u32 p.pi) rfl)
  have c17 := cell_regrown (Blk.cell x5 17 (v := .int .i64 p.pn) rfl)
  have c18 := cell_regrown (Blk.cell x5 18 (v := .int .u32 p.g) rfl)
  have d0 := cell_regrown (Blk.cell y5 0 (v := .int .i64 q.k) rfl)
  have d1 := cell_regrown (Blk.cell y5 1 (v := .int .u64 q.rd) rfl)
  have d12 := cell_regrown (Blk.cell y5 12 (v := .int .u32 q.t) rfl)
  have d13 := cell_regrown (Blk.cell y5 13 (v := .int .u64 q.m) rfl)
  have d14 := cell_regrown (Blk.cell y5 14 (v := .int .u32 q.ip) rfl)
  have d15 := cell_regrown (Blk.cell y5 15 (v := .bool q.h) rfl)
  have d16 := cell_regrown (Blk.cell y5 16 (v := .int .u32 q.pi) rfl)
  have d17 := cell_regrown (Blk.cell y5 17 (v := .int .i64 q.pn) rfl)
  have d18 := cell_regrown (Blk.cell y5 18 (v := .int .u32 q.g) rfl)
  repeat (first
    | go_big_quiet_skip
    | (go_big_quiet_want; refine q_esi (.tmp 19) rfl w.heap.size rfl p x5.regrown ?_; go_simp; go_big_quiet_on)
    | (go_big_quiet_want; refine q_esi (.tmp 21) rfl (w.heap.size + 1) rfl q y5.regrown ?_; go_simp; go_big_quiet_on)
    | (go_big_quiet_want; go_big_quiet_op; first | go_big_quiet_on | go_big_quiet_call (first | (with_reducible exact regrown_same (cmpInt_any _ _ _)) | (with_reducible exact regrown_same (cmpU64_any _ _ _)) | (with_reducible exact regrown_same (cmpU32_any _ _ _)) | (with_reducible exact regrown_same (cmpMAC_any _ _ _)) | (with_reducible exact regrown_same (cmpIP_any _ _ _)) | (with_reducible exact regrown_same (number_any _ _)) | (with_reducible exact Calls.regrown_of (cesi_any _ _ _)) | (with_reducible exact Calls.regrown_of (comparePrefix_any _ _ _ _ _)))))
  refine wpQuiet_nil ?_
  intro w6 k6
  have b6 := b5.trans (k6.mono b5.size)
  clear k6 x5 y5 b5 c0 d0 c1 d1 c12 d12 c13 d13 c14 d14 c15 d15 c16 d16 c17 d17 c18 d18
  go_wp2_with fail
  go_at_call 40
  refine (or_is w6.heap.size (signs p q) (show 9 ≤ 1000 by decide) _ (Blk.new w6 3 ((signs p q).map (Value.int .i64)))).mono ?_
  rintro e w7 ⟨rfl, rfl⟩
  go_wp2
  go_ret
  exact ⟨rfl, b6.alloc b6.size _⟩
end Go.Proofs.Ytejcclcckgdbgaa
namespace Go.Proofs.Ytejcclcckgdbgaa
open Go.RowKit

theorem sg_anti (x y : Int) : sg y x = -sg x y := by unfold sg; split <;> split <;> (try split) <;> omega
theorem sg_range (x y : Int) : -1 ≤ sg x y ∧ sg x y ≤ 1 := by unfold sg; split <;> (try split) <;> omega
theorem sg_zero {x y : Int} : sg x y = 0 ↔ x = y := by unfold sg; split <;> (try split) <;> omega
theorem sg_le {x y : Int} : sg x y ≤ 0 ↔ x ≤ y := by unfold sg; split <;> (try split) <;> omega
theorem sg_ne {x y : Int} (h : x ≠ y) : sg x y ≠ 0 := fun e => h (sg_zero.1 e)

theorem cmpP_eq (a n b m : Int) : cmpP a n b m = if a = b then sg n m else sg a b := by
  unfold cmpP orI
  by_cases h : a = b
  · rw [if_pos h, if_neg (by rw [sg_zero.2 h]; decide)]
  · rw [if_neg h, if_pos (sg_ne h)]
theorem cmpP_anti (a n b m : Int) : cmpP b m a n = -cmpP a n b m := by
  rw [cmpP_eq, cmpP_eq]
  by_cases h : a = b
  · rw [if_pos h, if_pos h.symm, sg_anti]
  · rw [if_neg h, if_neg (fun e => h e.symm), sg_anti]
theorem cmpP_range (a n b m : Int) : -1 ≤ cmpP a n b m ∧ cmpP a n b m ≤ 1 := by
  rw [cmpP_eq]
  split <;> exact sg_range _ _
theorem cmpP_zero {a n b m : Int} : cmpP a n b m = 0 ↔ a = b ∧ n = m := by
  rw [cmpP_eq]
  by_cases h : a = b
  · rw [if_pos h, sg_zero]; exact ⟨fun e => ⟨h, e⟩, fun e => e.2⟩
  · rw [if_neg h, sg_zero]; exact ⟨fun e => absurd e h, fun e => absurd e.1 h⟩
theorem cmpP_trans {a n b m c l : Int} (h1 : cmpP a n b m ≤ 0) (h2 : cmpP b m c l ≤ 0) : cmpP a n c l ≤ 0 := by
  rw [cmpP_eq] at *
  by_cases e1 : a = b
  · by_cases e2 : b = c
    · rw [if_pos e1] at h1
      rw [if_pos e2] at h2
      rw [if_pos (e1.trans e2)]
      have := sg_le.1 h1; have := sg_le.1 h2
      exact sg_le.2 (by omega)
    · rw [if_neg e2] at h2
      rw [if_neg (by omega)]
      have := sg_le.1 h2
      exact sg_le.2 (by omega)
  · rw [if_neg e1] at h1
    have k1 := sg_le.1 h1
    by_cases e2 : b = c
    · rw [if_neg (by omega)]
      exact sg_le.2 (by omega)
    · rw [if_neg e2] at h2
      have k2 := sg_le.1 h2
      rw [if_neg (by omega)]
      exact sg_le.2 (by omega)

theorem cmpFrom_anti (e f : Nat → Int) : ∀ n i, cmpFrom f e i n = -cmpFrom e f i n
  | 0, _ => rfl
  | n + 1, i => by
    unfold cmpFrom
    by_cases h : e i = f i
    · rw [if_pos h, if_pos h.symm]; exact cmpFrom_anti e f n (i + 1)
    · rw [if_neg h, if_neg (fun q => h q.symm)]; exact sg_anti _ _
theorem cmpFrom_range (e f : Nat → Int) : ∀ n i, -1 ≤ cmpFrom e f i n ∧ cmpFrom e f i n ≤ 1
  | 0, _ => by unfold cmpFrom; omega
  | n + 1, i => by
    unfold cmpFrom
    split
    · exact cmpFrom_range e f n (i + 1)
    · exact sg_range _ _
theorem cmpFrom_zero (e f : Nat → Int) : ∀ n i, cmpFrom e f i n = 0 → ∀ j, i ≤ j → j < i + n → e j = f j
  | 0, _, _, _, _, _ => by omega
  | n + 1, i, h, j, h1, h2 => by
    unfold cmpFrom at h
    by_cases q : e i = f i
    · rw [if_pos q] at h
      by_cases hij : i = j
      · subst hij; exact q
      · exact cmpFrom_zero e f n (i + 1) h j (by omega) (by omega)
    · rw [if_neg q] at h
      exact absurd (sg_zero.1 h) q
theorem cmpFrom_trans (e f g : Nat → Int) : ∀ n i, cmpFrom e f i n ≤ 0 → cmpFrom f g i n ≤ 0 → cmpFrom e g i n ≤ 0
  | 0, _, _, _ => Int.le_refl _
  | n + 1, i, h1, h2 => by
    unfold cmpFrom at *
    by_cases q1 : e i = f i
    · rw [if_pos q1] at h1
      by_cases q2 : f i = g i
      · rw [if_pos q2] at h2
        rw [if_pos (q1.trans q2)]
        exact cmpFrom_trans e f g n (i + 1) h1 h2
      · rw [if_neg q2] at h2
        rw [if_neg (by omega)]
        have := sg_le.1 h2
        exact sg_le.2 (by omega)
    · rw [if_neg q1] at h1
      have k1 := sg_le.1 h1
      by_cases q2 : f i = g i
      · rw [if_neg (by omega)]
        exact sg_le.2 (by omega)
      · rw [if_neg q2] at h2
        have k2 := sg_le.1 h2
        rw [if_neg (by omega)]
        exact sg_le.2 (by omega)
theorem cmpE_eqE (e f : Nat → Int) : eqE e f = (cmpE e f == 0) := by
  rw [Bool.eq_iff_iff, eqE_iff, beq_iff_eq]
  constructor
  · intro h; exact cmpFrom_eq e f 10 0 fun j _ hj => h j (by omega)
  · intro h j hj; exact cmpFrom_zero e f 10 0 h j (Nat.zero_le _) (by omega)
end Go.Proofs.Ytejcclcckgdbgaa
