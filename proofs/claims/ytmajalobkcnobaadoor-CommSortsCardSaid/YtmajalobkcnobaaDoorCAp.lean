/- Lists of communities in memory of their own; appending to them. No condition. -/
import Derived.Test.YtmajalobkcnobaaDoorCTw
import Derived.Test.YtmajalobkcnobaaDoorCSm
import Derived.Lib.AppendZeros
namespace Go.Proofs.YtmajalobkcnobaaDoor
open Go.RowKit Go.Sort
set_option linter.unusedVariables false
set_option linter.unusedSimpArgs false
set_option maxRecDepth 100000

def c8 (e : Nat → Int) : List Value := [.int .u8 (e 0), .int .u8 (e 1), .int .u8 (e 2), .int .u8 (e 3), .int .u8 (e 4), .int .u8 (e 5), .int .u8 (e 6), .int .u8 (e 7)]
theorem c8_len (e : Nat → Int) : (c8 e).length = 8 := rfl
theorem c8_one (e : Nat → Int) : ∀ u ∈ c8 e, u.oneCell' = true := by
  intro u hu
  simp only [c8, List.mem_cons, List.not_mem_nil, or_false] at hu
  rcases hu with rfl | rfl | rfl | rfl | rfl | rfl | rfl | rfl <;> rfl
def fl8 (E : List (Nat → Int)) : List Value := E.flatMap c8
theorem fl8_len (E : List (Nat → Int)) : (fl8 E).length = E.length * 8 := by
  induction E with
  | nil => rfl
  | cons e E ih => simp only [fl8, List.flatMap_cons, List.length_append, c8_len, List.length_cons] at ih ⊢; omega
theorem fl8_one (E : List (Nat → Int)) : ∀ u ∈ fl8 E, u.oneCell' = true := by
  intro u hu
  obtain ⟨e, _, h⟩ := List.mem_flatMap.1 hu
  exact c8_one e u h
theorem fl8_append (E F : List (Nat → Int)) : fl8 (E ++ F) = fl8 E ++ fl8 F := List.flatMap_append ..
theorem fl8_get (E : List (Nat → Int)) (i j : Nat) (e : Nat → Int) (h : E[i]? = some e) (hj : j < 8) : (fl8 E)[i * 8 + j]? = (c8 e)[j]? := by
  induction E generalizing i with
  | nil => simp at h
  | cons x E ih =>
    show ((c8 x) ++ fl8 E)[i * 8 + j]? = _
    cases i with
    | zero =>
      simp only [List.getElem?_cons_zero, Option.some.injEq] at h
      subst h
      rw [List.getElem?_append_left (by rw [c8_len]; omega), Nat.zero_mul, Nat.zero_add]
    | succ i =>
      rw [List.getElem?_append_right (by rw [c8_len]; omega), c8_len, show (i + 1) * 8 + j - 8 = i * 8 + j by omega]
      exact ih i (by simpa using h)

def NuC (B : Nat) (w : World) (v : Value) (E : List (Nat → Int)) : Prop := w.ownsRow B 24 8 v E.length (fl8 E)
theorem NuC.nil (B : Nat) (w : World) : NuC B w (.slice none 0 0) [] := World.ownsRow_nil w _ _ _
theorem NuC.keep {B : Nat} {w w' : World} {v : Value} {E : List (Nat → Int)} (h : NuC B w v E) (k : ∀ g, v.ownBlock = some g → w'.heap[g]? = w.heap[g]?) : NuC B w' v E := by
  obtain ⟨h1, ⟨hv, hn⟩ | ⟨g, cap, cur, hv, hb, hg, r⟩⟩ := h
  · exact ⟨h1, .inl ⟨hv, hn⟩⟩
  · exact ⟨h1, .inr ⟨g, cap, cur, hv, hb, (k g (by rw [hv]; rfl)).trans hg, r⟩⟩
theorem NuC.below {B : Nat} {w w' : World} {v : Value} {E : List (Nat → Int)} (h : NuC B w v E) (k : Below w.heap.size w w') : NuC B w' v E := h.keep fun g hg => k.block g (World.ownsRow.lt h g hg).2
theorem NuC.seg {B : Nat} {w : World} {v : Value} {E : List (Nat → Int)} (h : NuC B w v E) : CSeg w v E := by
  have hcell := fun g hg => World.ownsRow.cells h (g := g) hg
  have hlt := World.ownsRow.lt h
  obtain ⟨_, ⟨hv, hn⟩ | ⟨g, cap, cur, hv, hB, hg, h1, h2, h3, h4⟩⟩ := h
  · have hE : E = [] := List.length_eq_zero_iff.1 hn
    subst hE
    exact ⟨_, _, hv, Nat.le_refl _, fun i e hi => by simp at hi⟩
  · refine ⟨_, cap, hv, h1, fun i e hi => ⟨g, 0, rfl, (hlt g (by rw [hv]; rfl)).2, fun j u hu => ?_⟩⟩
    have hj : j < 8 := by
      rcases Nat.lt_or_ge j 8 with q | q
      · exact q
      · rw [List.getElem?_eq_none (by simpa using q)] at hu
        cases hu
    have := hcell g (by rw [hv]; rfl) (i * 8 + j) u (by rw [fl8_get E i j e hi hj]; exact hu)
    rw [Addr.add_mid] at this
    rw [Nat.add_assoc]
    exact this

theorem info_comm : ∃ i, Tryd.prog.info? 24 = some i ∧ i.zero = some (.agg #[.int .u8 0, .int .u8 0, .int .u8 0, .int .u8 0, .int .u8 0, .int .u8 0, .int .u8 0, .int .u8 0]) ∧ i.size = 8 ∧ i.bytes = 8 :=
  info_parts (show (Tryd.prog.info? 24).map (fun i => (i.zero, i.size, i.bytes)) = some (some (.agg #[.int .u8 0, .int .u8 0, .int .u8 0, .int .u8 0, .int .u8 0, .int .u8 0, .int .u8 0, .int .u8 0]), 8, 8) by kernel_rfl)
theorem append_none (w : World) (ty : TypeId) (B c : Nat) (v : Value) (E : List (Nat → Int)) (hv : NuC B w v E) : (Builtin.append_ #[35, 35] ty #[v, .slice none 0 c]).run Tryd.prog w = .ok v w := by
  obtain ⟨i, hi, hz, hs, hb⟩ := info_comm
  have ht := Tryd.underlying35
  rcases hv.2 with ⟨rfl, hn⟩ | ⟨g, cap, cur, rfl, _, _, hnc, _⟩
  · simp [Builtin.append_, run_underlying ht, sizeOf, typeInfo, hi, Builtin.lenOf, Builtin.firstCells]
  · simp [Builtin.append_, run_underlying ht, sizeOf, typeInfo, hi, Builtin.lenOf, Builtin.firstCells, hnc, storeCells]
/-- Appending a list that lies wherever. -/
theorem append_c (w : World) (ty : TypeId) (B : Nat) (v u : Value) (E F : List (Nat → Int)) (hv : NuC B w v E) (hu : CSeg w u F) (hB : B ≤ w.heap.size) (hl : E.length + F.length ≤ 1000000) :
    ∃ v' w', (Builtin.append_ #[35, 35] ty #[v, u]).run Tryd.prog w = .ok v' w' ∧ NuC B w' v' (E ++ F) ∧ w.grownBy w' v.ownBlock ∧ (v ≠ .slice none 0 0 → v' ≠ .slice none 0 0) := by
  obtain ⟨i, hi, hz, hs, hb⟩ := info_comm
  obtain ⟨a, c, rfl, hc, hx⟩ := hu
  cases a with
  | none =>
    have hF : F = [] := by
      cases F with
      | nil => rfl
      | cons e F =>
        obtain ⟨b, o, h, _⟩ := hx 0 e (by simp)
        cases h
    subst hF
    exact ⟨v, w, append_none w ty B c v E hv, by rw [List.append_nil]; exact hv, ⟨rfl, rfl, rfl, Nat.le_refl _, fun _ _ _ => rfl⟩, id⟩
  | some ad =>
    have hnews : ∀ j x, (fl8 F)[j]? = some x → w.cell? (ad.add j) = some x := by
      intro j x hj
      have hjl : j < F.length * 8 := by
        rw [← fl8_len]
        rcases Nat.lt_or_ge j (fl8 F).length with q | q
        · exact q
        · rw [List.getElem?_eq_none q] at hj
          cases hj
      have hi8 : j / 8 < F.length := by omega
      obtain ⟨e, he⟩ : ∃ e, F[j / 8]? = some e := ⟨F[j / 8], by simp [hi8]⟩
      obtain ⟨b, o, h, hb, hr⟩ := hx (j / 8) e he
      obtain rfl := Option.some.inj h
      have hg := fl8_get F (j / 8) (j % 8) e he (by omega)
      rw [show j / 8 * 8 + j % 8 = j by omega, hj] at hg
      have := hr (j % 8) x hg.symm
      rw [Addr.add_mid]
      rw [show o + j / 8 * 8 + j % 8 = o + j by omega] at this
      exact this
    obtain ⟨v', w', hr, ho, hgr, hn⟩ := run_append_own (P := Tryd.prog) w B 35 ty 24 i _ 8 8 Tryd.underlying35 hi hz hs hb rfl (by decide) v E.length _ hv ad F.length c (fl8 F) (fl8_len F) hnews (fl8_one F) (by unfold maxLen; omega) (by omega) hB
    refine ⟨v', w', hr, ?_, hgr, fun h h' => h (hn.1 h').1⟩
    unfold NuC
    rw [List.length_append, fl8_append]
    exact ho

/-- leafmeshkit.Own. -/
theorem own_c (w : World) (u : Value) (F : List (Nat → Int)) (hu : CSeg w u F) (hl : F.length ≤ 1000000) :
    Calls Tryd.prog 29 #[u] w fun r w' => ∃ v, (r = .returned v ∧ NuC w.heap.size w' v F ∧ v ≠ .slice none 0 0) ∧ Below w.heap.size w w' := by
  have hE : NuC w.heap.size (w.alloc (.cells #[] 24)) (.slice (some ⟨w.heap.size, 0, none⟩) 0 0) [] := World.ownsRow_made w #[] 0 (Nat.le_refl _) (by decide) (by decide)
  obtain ⟨v', w', hr, ho, hg, hn⟩ := append_c (w.alloc (.cells #[] 24)) 35 w.heap.size _ u [] F hE (hu.below ((Below.refl _ _).alloc (Nat.le_refl _) _)) (by simp) (by simpa using hl)
  have hB : Below w.heap.size w w' := ((Below.refl _ _).alloc (Nat.le_refl _) (.cells #[] 24)).grown hg (by simp) (fun k hk => by simp [Value.ownBlock] at hk; omega)
  have HO := Lib.hid ho
  have HN := Lib.hid (hn (by simp))
  obtain ⟨a, c, rfl, -, -⟩ := hu
  obtain ⟨a', c', hv', -, -⟩ := ho.seg
  subst hv'
  clear ho hn hE
  go_enter Tryd.func29, Tryd.ntmps29
  go_wp2_with (at_builtin; refine Lib.wpList_append_run _ rfl _ _ 35 35 rfl _ _ rfl rfl _ _ hr ?_)
  go_ret
  exact ⟨_, ⟨rfl, HO.out, HN.out⟩, hB⟩
end Go.Proofs.YtmajalobkcnobaaDoor
