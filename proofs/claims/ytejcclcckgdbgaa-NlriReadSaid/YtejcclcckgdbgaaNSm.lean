/- Same of two lists of the same routes. No condition. -/
import Derived.Test.YtejcclcckgdbgaaNOpn
import Derived.Test.YtejcclcckgdbgaaNMc
namespace Go.Proofs.Ytejcclcckgdbgaa
open Go.RowKit Go.ChangeShapes Go.WideShapes Go.ChangeAt Go.Joins
set_option linter.unusedVariables false
set_option linter.unusedSimpArgs false
set_option maxRecDepth 100000

section
variable {H : Type} {enc : TypeId × Value → H} {w : World} {base : Nat} {spare : Nat → Bool} {held : Bool}
theorem nlri_cells {fuel : Nat} {cs : Array Value} {x : DataW H × List MemPlace} (hsz : cs.size = 21) (hf : DataW.trod enc Try.prog w base spare held fuel 36 cs.toList = some x) :
    ∃ n : NL, cs.toList = n.cs ∧ n.Ok ∧ (-9223372036854775808 ≤ n.k ∧ n.k < 9223372036854775808) ∧ (-9223372036854775808 ≤ n.pn ∧ n.pn < 9223372036854775808) := by
  have hs : Try.prog.underlying 36 = some (.struct (Try.prog.fieldsOf 36)) := by kernel_rfl
  have hs2 : Try.prog.underlying 34 = some (.struct (Try.prog.fieldsOf 34)) := by kernel_rfl
  obtain ⟨xs, m, _, _, _, hx, hi⟩ := DataW.trod_struct hs hf
  rw [show (Try.prog.fieldsOf 36).size = 11 by kernel_rfl] at hx
  have F : ∀ i T o k, i < 11 → ((Try.prog.fieldsOf 36)[i]?).map (fun f => (f.type, f.offset)) = some (T, o) → Try.prog.cellsOf T = k → ∃ y, DataW.trod enc Try.prog w base spare held m T ((cs.toList.drop o).take k) = some y := by
    intro i T o k hi11 hff hk
    obtain ⟨f, h1, rfl, rfl⟩ := field_at hff
    have := hi i f h1
    rw [hk, List.getElem?_eq_getElem (show i < xs.length by omega)] at this
    exact ⟨_, this⟩
  obtain ⟨y0, g0⟩ := F 0 3 0 1 (by decide) (by kernel_rfl) (by kernel_rfl)
  obtain ⟨nk, u0, -, b0⟩ := DataW.trod_int Try.underlying3 g0
  have c0 := one_at u0
  have B0 := bounds_i64 b0
  obtain ⟨y1, g1⟩ := F 1 27 1 1 (by decide) (by kernel_rfl) (by kernel_rfl)
  obtain ⟨nrd, u1, -, b1⟩ := DataW.trod_int Try.underlying27 g1
  have c1 := one_at u1
  have B1 := bounds_u64 b1
  obtain ⟨y2, g2⟩ := F 2 31 2 10 (by decide) (by kernel_rfl) (by kernel_rfl)
  obtain ⟨e, u2, B2⟩ := esi_open g2
  have c2 : ∀ j, j < 10 → cs.toList[2 + j]? = some (.int .u8 (e j)) := fun j hj => part_at hj (u2 j hj)
  obtain ⟨y3, g3⟩ := F 3 29 12 1 (by decide) (by kernel_rfl) (by kernel_rfl)
  obtain ⟨nt, u3, -, b3⟩ := DataW.trod_int Try.underlying29 g3
  have c3 := one_at u3
  have B3 := bounds_u32 b3
  obtain ⟨y4, g4⟩ := F 4 28 13 1 (by decide) (by kernel_rfl) (by kernel_rfl)
  obtain ⟨nm, u4, -, b4⟩ := DataW.trod_int Try.underlying28 g4
  have c4 := one_at u4
  have B4 := bounds_u64 b4
  obtain ⟨y5, g5⟩ := F 5 32 14 1 (by decide) (by kernel_rfl) (by kernel_rfl)
  obtain ⟨nip, u5, -, b5⟩ := DataW.trod_int Try.underlying32 g5
  have c5 := one_at u5
  have B5 := bounds_u32 b5
  obtain ⟨y6, g6⟩ := F 6 4 15 1 (by decide) (by kernel_rfl) (by kernel_rfl)
  obtain ⟨nh, u6, -⟩ := DataW.trod_bool Try.underlying4 g6
  have c6 := one_at u6
  obtain ⟨y7, g7⟩ := F 7 34 16 2 (by decide) (by kernel_rfl) (by kernel_rfl)
  obtain ⟨zs, m2, _, _, _, hz, hj⟩ := DataW.trod_struct hs2 g7
  rw [show (Try.prog.fieldsOf 34).size = 2 by kernel_rfl] at hz
  obtain ⟨q0, h0, t0, o0⟩ := field_at (t := 34) (i := 0) (T := 32) (o := 0) (by kernel_rfl)
  have j0 := hj 0 q0 h0
  rw [t0, o0, show Try.prog.cellsOf 32 = 1 by kernel_rfl, List.getElem?_eq_getElem (show 0 < zs.length by omega)] at j0
  obtain ⟨npi, v0, -, w0⟩ := DataW.trod_int Try.underlying32 j0
  have cp0 := part_at (show 0 < 2 by decide) (one_at v0)
  have Bp0 := bounds_u32 w0
  obtain ⟨q1, h1, t1, o1⟩ := field_at (t := 34) (i := 1) (T := 3) (o := 1) (by kernel_rfl)
  have j1 := hj 1 q1 h1
  rw [t1, o1, show Try.prog.cellsOf 3 = 1 by kernel_rfl, List.getElem?_eq_getElem (show 1 < zs.length by omega)] at j1
  obtain ⟨npn, v1, -, w1⟩ := DataW.trod_int Try.underlying3 j1
  have cp1 := part_at (show 1 < 2 by decide) (one_at v1)
  have Bp1 := bounds_i64 w1
  obtain ⟨y8, g8⟩ := F 8 32 18 1 (by decide) (by kernel_rfl) (by kernel_rfl)
  obtain ⟨ng, u8, -, b8⟩ := DataW.trod_int Try.underlying32 g8
  have c8 := one_at u8
  have B8 := bounds_u32 b8
  obtain ⟨y9, g9⟩ := F 9 29 19 1 (by decide) (by kernel_rfl) (by kernel_rfl)
  obtain ⟨nl, u9, -, b9⟩ := DataW.trod_int Try.underlying29 g9
  have c9 := one_at u9
  have B9 := bounds_u32 b9
  obtain ⟨y10, g10⟩ := F 10 29 20 1 (by decide) (by kernel_rfl) (by kernel_rfl)
  obtain ⟨nl2, u10, -, b10⟩ := DataW.trod_int Try.underlying29 g10
  have c10 := one_at u10
  have B10 := bounds_u32 b10
  refine ⟨⟨nk, nrd, e, nt, nm, nip, nh, npi, npn, ng, nl, nl2⟩, ?_, ?_, by simp only; omega, by simp only; omega⟩
  · have hcs : cs.toList = NL.cs ⟨nk, nrd, e, nt, nm, nip, nh, npi, npn, ng, nl, nl2⟩ := by
      apply List.ext_getElem?
      intro j
      by_cases hj : j < 21
      · rcases j with _ | _ | _ | _ | _ | _ | _ | _ | _ | _ | _ | _ | _ | _ | _ | _ | _ | _ | _ | _ | _ | j
        · exact c0
        · exact c1
        · exact c2 0 (by decide)
        · exact c2 1 (by decide)
        · exact c2 2 (by decide)
        · exact c2 3 (by decide)
        · exact c2 4 (by decide)
        · exact c2 5 (by decide)
        · exact c2 6 (by decide)
        · exact c2 7 (by decide)
        · exact c2 8 (by decide)
        · exact c2 9 (by decide)
        · exact c3
        · exact c4
        · exact c5
        · exact c6
        · exact cp0
        · exact cp1
        · exact c8
        · exact c9
        · exact c10
        · omega
      · rw [List.getElem?_eq_none (show cs.toList.length ≤ j by simp; omega), List.getElem?_eq_none (show (NL.cs _).length ≤ j by rw [NL.cs_length]; omega)]
    exact hcs
  · constructor
    all_goals first | exact B2 | (constructor <;> simp only <;> omega)
end
/-- A slice that reads as these routes, whose cells may be read and written through. -/
def NSeg (w : World) (v : Value) (L : List NL) : Prop := ∃ a c, v = .slice a L.length c ∧ L.length ≤ c ∧ ∀ i n, L[i]? = some n → ∃ b o, a = some ⟨b, o, none⟩ ∧ b < w.heap.size ∧ w.rangeAt b (o + i * 21) n.cs
theorem NSeg.below {w w' : World} {v : Value} {L : List NL} (h : NSeg w v L) (k : Below w.heap.size w w') : NSeg w' v L := by
  obtain ⟨a, c, hv, hc, hx⟩ := h
  refine ⟨a, c, hv, hc, fun i n hi => ?_⟩
  obtain ⟨b, o, ha, hb, hr⟩ := hx i n hi
  exact ⟨b, o, ha, Nat.lt_of_lt_of_le hb k.size, fun j u hu => (k.cell (p := ⟨b, o + i * 21 + j, none⟩) hb).trans (hr j u hu)⟩
theorem flN_get (L : List NL) (i j : Nat) (n : NL) (h : L[i]? = some n) (hj : j < 21) : (flN L)[i * 21 + j]? = n.cs[j]? := by
  induction L generalizing i with
  | nil => simp at h
  | cons x L ih =>
    show (x.cs ++ flN L)[i * 21 + j]? = _
    cases i with
    | zero =>
      simp only [List.getElem?_cons_zero, Option.some.injEq] at h
      subst h
      rw [List.getElem?_append_left (by rw [NL.cs_length]; omega), Nat.zero_mul, Nat.zero_add]
    | succ i =>
      rw [List.getElem?_append_right (by rw [NL.cs_length]; omega), NL.cs_length, show (i + 1) * 21 + j - 21 = i * 21 + j by omega]
      exact ih i (by simpa using h)
theorem NuN.seg {B : Nat} {w : World} {v : Value} {L : List NL} (h : NuN B w v L) : NSeg w v L := by
  have hcell := fun g hg => World.ownsRow.cells h (g := g) hg
  have hlt := World.ownsRow.lt h
  obtain ⟨_, ⟨hv, hn⟩ | ⟨g, cap, cur, hv, hB, hg, h1, h2, h3, h4⟩⟩ := h
  · have hE : L = [] := List.length_eq_zero_iff.1 hn
    subst hE
    exact ⟨_, _, hv, Nat.le_refl _, fun i e hi => by simp at hi⟩
  · refine ⟨_, cap, hv, h1, fun i n hi => ⟨g, 0, rfl, (hlt g (by rw [hv]; rfl)).2, fun j u hu => ?_⟩⟩
    have hj : j < 21 := by
      rcases Nat.lt_or_ge j 21 with q | q
      · exact q
      · rw [List.getElem?_eq_none (by rw [NL.cs_length]; exact q)] at hu
        cases hu
    have := hcell g (by rw [hv]; rfl) (i * 21 + j) u (by rw [flN_get L i j n hi hj]; exact hu)
    rw [Addr.add_mid] at this
    rw [Nat.add_assoc]
    exact this
theorem addr_of_cell {w : World} {a : Addr} {v : Value} (h : w.cell? a = some v) : a.spot = none := by
  unfold World.cell? at h
  split at h
  · split at h
    · cases h
    · rename_i hs
      cases hx : a.spot with
      | none => rfl
      | some s => simp [hx] at hs
  · cases h
theorem cells_at {w : World} {a : Addr} {cs : List Value} (h : w.cells? 0 a 21 = some cs) : cs.length = 21 ∧ ∀ j, j < 21 → ∃ u, cs[j]? = some u ∧ w.cell? (a.add j) = some u := by
  unfold World.cells? at h
  rw [if_pos (Nat.zero_le _)] at h
  exact ⟨by simpa using Lib.mapM_length h, fun j hj => Lib.mapM_at h j j (by simp [hj])⟩
/-- A route, as it comes in. -/
def Wide (n : NL) : Prop := n.Ok ∧ (-9223372036854775808 ≤ n.k ∧ n.k < 9223372036854775808) ∧ (-9223372036854775808 ≤ n.pn ∧ n.pn < 9223372036854775808)
theorem open_nlris {H : Type} {enc : TypeId × Value → H} {w : World} {held : Bool} {v : Value} {d : DataW H} {p : List MemPlace}
    (hv : Value.okWide Try.prog w .any 0 38 v) (h : DataW.Trod enc Try.prog w 0 (fun _ => true) held 38 v d p) : ∃ L, NSeg w v L ∧ ∀ n ∈ L, Wide n := by
  obtain ⟨a, len, cap, rfl⟩ := okWide_slice Try.underlying38 hv
  obtain ⟨fuel, hf⟩ := h
  rcases DataW.trod_slice Try.underlying38 hf with ⟨hcs, -⟩ | ⟨a', len', cap', elems, rest, n, -, hcs, -, -, hlc, -, hel, hcell, -, -⟩
  · simp [Value.cells] at hcs
    obtain ⟨rfl, rfl, rfl⟩ := hcs
    exact ⟨[], ⟨none, 0, rfl, Nat.le_refl _, fun i e hi => by simp at hi⟩, fun e he => by simp at he⟩
  · simp [Value.cells] at hcs
    obtain ⟨rfl, rfl, rfl⟩ := hcs
    rw [cellsN] at hcell
    have hspot : ∀ i, i < len → a'.spot = none := by
      intro i hi
      have h1 := hcell 0 (by omega)
      rw [List.getElem?_eq_getElem (by omega)] at h1
      obtain ⟨cs, hc, -⟩ := Option.bind_eq_some_iff.1 h1
      obtain ⟨u, -, hu⟩ := (cells_at hc).2 0 (by decide)
      have e0 : ∀ q : Addr, q.add 0 = q := fun q => by simp [Addr.add]
      rw [Nat.zero_mul, e0, e0] at hu
      exact addr_of_cell hu
    have key : ∀ i, i < len → ∃ e : NL, Wide e ∧ a'.spot = none ∧ a'.block < w.heap.size ∧ w.rangeAt a'.block (a'.off + i * 21) e.cs := by
      intro i hi
      have h1 := hcell i hi
      rw [List.getElem?_eq_getElem (by omega)] at h1
      obtain ⟨cs, hc, ht⟩ := Option.bind_eq_some_iff.1 h1
      have hs := hspot i hi
      obtain ⟨hl8, hat⟩ := cells_at hc
      obtain ⟨e, he, ho⟩ := nlri_cells (cs := cs.toArray) (by simpa using hl8) (by simpa using ht)
      rw [show cs.toArray.toList = cs from rfl] at he
      subst he
      obtain ⟨b, o, s⟩ := a'
      simp only at hs
      subst hs
      refine ⟨e, ho, rfl, ?_, fun j u hj => ?_⟩
      · obtain ⟨u, -, hu⟩ := hat 0 (by decide)
        rw [Addr.add_mid, Addr.add_mid] at hu
        have hlt := block_lt_of_cell hu
        exact hlt
      · have hj8 : j < 21 := by
          rcases Nat.lt_or_ge j 21 with q | q
          · exact q
          · rw [List.getElem?_eq_none (by rw [NL.cs_length]; exact q)] at hj
            cases hj
        obtain ⟨u', h1, hu⟩ := hat j hj8
        rw [Addr.add_mid, Addr.add_mid] at hu
        obtain rfl := Option.some.inj (h1.symm.trans hj)
        exact hu
    have key2 : ∃ f : Nat → NL, ∀ i, i < len → Wide (f i) ∧ a'.spot = none ∧ a'.block < w.heap.size ∧ w.rangeAt a'.block (a'.off + i * 21) (f i).cs :=
      ⟨fun i => if hi : i < len then (key i hi).choose else NL.zero, fun i hi => by simp only [dif_pos hi]; exact (key i hi).choose_spec⟩
    obtain ⟨f, hf2⟩ := key2
    have hl : ((List.range len).map f).length = len := by simp
    refine ⟨(List.range len).map f, ⟨some a', cap, by rw [hl], by rw [hl]; exact hlc, fun i e hi => ?_⟩, fun e he => ?_⟩
    · have hil : i < len := by
        rcases Nat.lt_or_ge i len with q | q
        · exact q
        · rw [List.getElem?_eq_none (by rw [hl]; exact q)] at hi
          cases hi
      have : e = f i := by
        rw [List.getElem?_map, List.getElem?_range hil] at hi
        simpa using hi.symm
      subst this
      obtain ⟨-, hs, hb, hr⟩ := hf2 i hil
      refine ⟨a'.block, a'.off, ?_, hb, hr⟩
      obtain ⟨b, o, s⟩ := a'
      simp only at hs
      subst hs
      rfl
    · obtain ⟨i, hi, rfl⟩ := List.mem_map.1 he
      exact (hf2 i (List.mem_range.1 hi)).1

theorem under_n : Try.prog.underlying 36 = some (.struct (Try.prog.fieldsOf 36)) := by kernel_rfl
theorem NL.lsize (n : NL) : (Try.prog.info? 36).map (·.size) = some n.cs.length := n.size
/-- In a region that only reads. -/
theorem q_loadN {C : World → Prop} {o : Oper} {a : Act} {K : Act → Prop} (x : Operand) (ho : o.op = .load 36 x) (b k : Nat) (hx : a.eval x = .pointer (some ⟨b, k, none⟩)) (n : NL) (hC : ∀ w, C w → w.rangeAt b k n.cs) (h : K (a.put o.dst n.v)) : o.quiet Try.prog a C K :=
  ⟨n.v, fun w hw => by
    unfold Oper.quietAt execOp
    simp only [ho, hx, Sem.run_bind, run_loadAt_mid w b k _ _ _ (hC w hw) under_n rfl n.lsize, Sem.run_pure, Result.andThen_ok, Oper.quietUpon]
    exact ⟨trivial, rfl⟩, h⟩
theorem at_loadN {ops : Array Oper} {rest : List Oper} {o : Oper} {a : Act} {w : World} {Q : Exit → Act → World → Prop} (hgd : o.guard = none) (x : Operand) (ho : o.op = .load 36 x) (b k : Nat) (hx : a.eval x = .pointer (some ⟨b, k, none⟩)) (n : NL) (hb : w.rangeAt b k n.cs)
    (h : wpList Try.prog ops Q rest (a.put o.dst n.v) w) : wpList Try.prog ops Q (o :: rest) a w :=
  wpList_load_mid hgd _ x ho b k hx n.cs _ hb under_n rfl n.lsize h
theorem NL.eqb_self (n : NL) : n.eqb n = true := by
  have : eqE n.e n.e = true := (eqE_iff _ _).2 fun _ _ => rfl
  simp [NL.eqb, this]
theorem neqN (n : NL) (w : World) : (binOp .neq 36 n.v n.v).run Try.prog w = .ok (.bool false) w := by
  have := eqN n n w
  rw [n.eqb_self] at this
  unfold NL.v
  have h2 : Sem.run Try.prog (Op.equal 36 (.agg n.cs.toArray) (.agg n.cs.toArray)) w = .ok true w := this
  simp [binOp, h2]
theorem q_neqN {C : World → Prop} {o : Oper} {a : Act} {K : Act → Prop} (x y : Operand) (ho : o.op = .binOp .neq 36 x y 36) (n : NL) (hx : a.eval x = n.v) (hy : a.eval y = n.v) (h : K (a.put o.dst (.bool false))) : o.quiet Try.prog a C K :=
  ⟨.bool false, fun w hw => by
    have := neqN n w
    have hg : Sem.run Try.prog (eqGuard .neq 36 x y n.v n.v) w = .ok () w := by kernel_rfl
    unfold Oper.quietAt execOp
    simp only [ho, hx, hy, Sem.run_bind, hg, this, Sem.run_pure, Result.andThen_ok, Oper.quietUpon, and_self], h⟩
end Go.Proofs.Ytejcclcckgdbgaa
namespace Go.Proofs.Ytejcclcckgdbgaa
open Go.RowKit Go.Sort
set_option linter.unusedVariables false
set_option linter.unusedSimpArgs false
set_option maxRecDepth 100000

theorem rangeN {w wr : World} {b k : Nat} {n : NL} (hb : b < w.heap.size) (h : w.rangeAt b k n.cs) (hB : Below w.heap.size w wr) : ∀ w', (∃ p : Regrown, w' = grow (redrawn wr p.d) p.os) → w'.rangeAt b k n.cs := by
  rintro w' ⟨p, rfl⟩ j u hu
  exact ((hB.trans ((below_regrown wr p.d p.os).mono hB.size)).cell (p := ⟨b, k + j, none⟩) hb).trans (h j u hu)
set_option maxHeartbeats 4000000 in
theorem same_n (L : List NL) (hm : L.length ≤ 1000000) (v u : Value) (w : World) (hv : NSeg w v L) (hu : NSeg w u L) :
    Calls Try.prog 26 #[v, u] w fun r w' => r = .returned (.bool true) ∧ Below w.heap.size w w' := by
  obtain ⟨a, c, rfl, -, hx⟩ := hv
  obtain ⟨a', c', rfl, -, hy⟩ := hu
  have hx' : ∀ i, i < L.length → ∃ b o, a = some ⟨b, o, none⟩ ∧ b < w.heap.size ∧ w.rangeAt b (o + i * 21) (L.getD i NL.zero).cs := fun i hi => hx i _ (by rw [List.getD_eq_getElem?_getD, List.getElem?_eq_getElem hi]; rfl)
  have hy' : ∀ i, i < L.length → ∃ b o, a' = some ⟨b, o, none⟩ ∧ b < w.heap.size ∧ w.rangeAt b (o + i * 21) (L.getD i NL.zero).cs := fun i hi => hy i _ (by rw [List.getD_eq_getElem?_getD, List.getElem?_eq_getElem hi]; rfl)
  generalize (fun i => L.getD i NL.zero) = f at hx' hy'
  have HX := Lib.hid hx'
  have HY := Lib.hid hy'
  clear hx hy hx' hy'
  generalize L.length = n at hm HX HY ⊢
  go_enter Try.func26, Try.ntmps26
  go_wp2_with fail
  go_loopw [5] (fun vi wr => ∃ i : Nat, i ≤ n ∧ vi = .int .i64 i ∧ Below w.heap.size w wr) (fun vi _ => n - (intOf vi).toNat)
  case atStart => exact ⟨0, Nat.zero_le _, rfl, Below.refl _ _⟩
  case round =>
    obtain ⟨i, hi, rfl, hB⟩ := hrel
    by_cases hlt : i < n
    · obtain ⟨b, o, rfl, hb, hc⟩ := HX.out i hlt
      obtain ⟨b', o', rfl, hb', hc'⟩ := HY.out i hlt
      have r1 := rangeN hb hc hB
      have r2 := rangeN hb' hc' hB
      have hil : (i : Int) < n := by omega
      have A := neqN (L.getD i NL.zero)
      generalize L.getD i NL.zero = N at r1 r2 A
      clear hc hc'
      go_wp2_with fail
      refine wp_region_qb (by kernel_rfl) (by kernel_rfl) ?_
      repeat (first
        | go_big_quiet_skip
        | (go_big_quiet_want; refine q_loadN (.tmp 19) rfl b (o + i * 21) rfl N r1 ?_; go_simp; go_big_quiet_on)
        | (go_big_quiet_want; refine q_loadN (.tmp 23) rfl b' (o' + i * 21) rfl N r2 ?_; go_simp; go_big_quiet_on)
        | (go_big_quiet_want; refine q_neqN (.tmp 20) (.tmp 24) rfl N rfl rfl ?_; go_simp; go_big_quiet_on)
        | (go_big_quiet_step (fail)))
      refine wpQuiet_nil ?_
      intro w' hw'
      have hb2 := hB.trans (hw'.mono hB.size)
      clear r1 r2 A hw' hB
      go_wp2
      go_roundw
      case rel => exact ⟨i + 1, by omega, by go_num, hb2⟩
      case measure => simp [intOf]; omega
    · obtain rfl : i = n := by omega
      go_wp2
      go_ret
      exact ⟨rfl, hB⟩
end Go.Proofs.Ytejcclcckgdbgaa
