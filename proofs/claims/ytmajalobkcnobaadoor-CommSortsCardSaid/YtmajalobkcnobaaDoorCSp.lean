/- Sort of communities: its contract. No condition. -/
import Derived.Test.YtmajalobkcnobaaDoorCSo
namespace Go.Proofs.YtmajalobkcnobaaDoor
open Go.RowKit Go.Sort Go.Shelf Go.Lib
set_option linter.unusedVariables false
set_option linter.unusedSimpArgs false
set_option maxRecDepth 100000

theorem NuC.rw {B g cap n : Nat} {w : World} {E : List (Nat → Int)} {G : Nat → Nat → Int} (h : NuC B w (.slice (some ⟨g, 0, none⟩) n cap) E) (hG : ∀ i, i < n → E[i]? = some (G i)) : n = E.length ∧ Rw g cap n G w ∧ n ≤ cap ∧ cap ≤ maxLen ∧ B ≤ g := by
  obtain ⟨_, ⟨hv, hn⟩ | ⟨g', cap', cur, hv, hB, hg, h1, h2, h3, h4⟩⟩ := h
  · cases hv
  · injection hv with hv1 hv2 hv3
    injection hv1 with hv1
    injection hv1 with hv1
    subst hv1 hv2 hv3
    refine ⟨rfl, ⟨cur, hg, h3, fun i hi j hj => ?_⟩, h1, h2, hB⟩
    have he := hG i hi
    have hx := fl8_get E i j _ he hj
    rw [c8_at _ _ hj, ← h4, List.getElem?_take_of_lt (by omega), Array.getElem?_toList] at hx
    exact hx
theorem NuC.form8 {B : Nat} {w : World} {v : Value} {E : List (Nat → Int)} (h : NuC B w v E) (hv : v ≠ .slice none 0 0) : ∃ g cap, v = .slice (some ⟨g, 0, none⟩) E.length cap := by
  obtain ⟨_, ⟨hv', hn⟩ | ⟨g', cap', cur, hv', hB, hg, h1, h2, h3, h4⟩⟩ := h
  · exact absurd hv' hv
  · exact ⟨_, _, hv'⟩

theorem clone_c (w : World) (b o c : Nat) (F : List (Nat → Int)) (hu : CSeg w (.slice (some ⟨b, o, none⟩) F.length c) F) (hl : F.length ≤ 1000000) :
    Calls Tryd.prog 56 #[.slice (some ⟨b, o, none⟩) F.length c] w fun r w' => ∃ v, r = .returned v ∧ NuC w.heap.size w' v F ∧ v ≠ .slice none 0 0 ∧ Below w.heap.size w w' := by
  obtain ⟨i, hi, hz, hs, hb⟩ := info_comm
  obtain ⟨a, c', hv, hc, hx⟩ := hu
  injection hv with hv1 hv2 hv3
  subst hv1
  refine AnyE.slices_Clone Tryd.cloneC i _ 8 8 hi hz hs hb rfl (by decide) (fun w => Tryd.sizeOf24 w) b o F.length c (fl8 F) w (fl8_len F) (by unfold maxLen; omega) (by omega) ?_ (fl8_one F)
  intro j x hj
  have hjl : j < F.length * 8 := by
    rw [← fl8_len]
    rcases Nat.lt_or_ge j (fl8 F).length with q | q
    · exact q
    · rw [List.getElem?_eq_none q] at hj
      cases hj
  have hi8 : j / 8 < F.length := by omega
  obtain ⟨e, he⟩ : ∃ e, F[j / 8]? = .some e := ⟨F[j / 8], by simp [hi8]⟩
  obtain ⟨b', o', h, hb', hr⟩ := hx (j / 8) e he
  injection h with h
  injection h with h1 h2
  subst h1 h2
  have hg := fl8_get F (j / 8) (j % 8) e he (by omega)
  rw [show j / 8 * 8 + j % 8 = j by omega, hj] at hg
  have := hr (j % 8) x hg.symm
  rw [show o + j / 8 * 8 + j % 8 = o + j by omega] at this
  exact this

set_option maxHeartbeats 2000000 in
theorem sort_c (w : World) (b o c : Nat) (F : List (Nat → Int)) (hO : ∀ e ∈ F, O8 e) (hu : CSeg w (.slice (some ⟨b, o, none⟩) F.length c) F) (hl : F.length ≤ 1000000) :
    Calls Tryd.prog 19 #[.slice (some ⟨b, o, none⟩) F.length c] w fun r w' => ∃ g cap S, r = .returned (.slice (some ⟨g, 0, none⟩) S.length cap) ∧ NuC w.heap.size w' (.slice (some ⟨g, 0, none⟩) S.length cap) S ∧ SetOf F S ∧ Below w.heap.size w w' := by
  have hcl := clone_c w b o c F hu hl
  have HO := Lib.hid hO
  clear hO hu
  generalize hn : F.length = n at hcl hl ⊢
  go_enter Tryd.func19, Tryd.ntmps19
  go_wp2_with fail
  go_at_call 56
  refine hcl.mono ?_
  rintro r w1 ⟨v, rfl, hN, hv, hb⟩
  obtain ⟨h, -⟩ | ⟨g, cap, cur, rfl, h1, h2, hB, hgw, hg, hcs, hH⟩ := hN.holdsK
  · exact absurd h hv
  have hfs : F.toArray.size = n := by rw [List.size_toArray, hn]
  have hsr := sort_row g cap F.toArray w1 hH hgw (by rw [hfs]; exact Nat.lt_of_le_of_lt hl (by decide))
  have HA := Lib.hid (And.intro h1 (And.intro h2 (And.intro hB (And.intro hgw (And.intro hg hcs)))))
  have HF := Lib.hid hfs
  rw [hfs] at hsr ⊢
  have HN := Lib.hid hN
  have HB := Lib.hid hb
  clear hN hv hb hcl hH h1 h2 hB hgw hg hcs hfs
  go_wp2_with fail
  go_at_call 57
  refine hsr.mono ?_
  rintro r w2 ⟨rfl, d, m, os, hp, hs, hw2⟩
  obtain ⟨h1, h2, hB, hgw, hg, hcs⟩ := HA.out
  have hfs := HF.out
  rw [← hfs] at hp hs
  obtain ⟨hd, hset⟩ := kept_set HO.out hp hs
  have hBw : w.heap.size ≤ w1.heap.size := HB.out.size
  have hso := sorted_own (n := m) (os := os) (d := d) hB hgw hg (by rw [hd]; simpa using h1) h2 hcs
  have hsb := sorted_below HB.out hB hBw m d os
  rw [← hw2] at hso hsb
  have hso' : NuC w.heap.size w2 (.slice (some ⟨g, 0, none⟩) n cap) d.toList := by rw [← hn, ← hd]; exact hso
  obtain ⟨-, hRw, hnc, hmc, -⟩ := NuC.rw (G := fun i => d[i]!) hso' (fun i hi => by
    have hid : i < d.size := by omega
    rw [getElem!_pos d i hid]
    simp [hid])
  have hco := compact_row w.heap.size g cap n (fun i => d[i]!) w2 hRw hB hnc hmc
  rw [hd, hn] at hset
  have HS := Lib.hid hset
  have HSB := Lib.hid hsb
  clear hsr hp hs hw2 hso hso' hRw hset hsb h1 h2 hB hgw hg hcs hfs
  go_wp2_with fail
  go_at_call 60
  refine hco.mono ?_
  rintro r w3 ⟨rfl, hN3, hb3⟩
  have HN3 := Lib.hid hN3
  have HB3 := Lib.hid (HSB.out.trans hb3)
  clear hN3 hb3 hco
  go_wp2
  go_ret
  exact ⟨g, cap, _, rfl, HN3.out, HS.out, HB3.out⟩
end Go.Proofs.YtmajalobkcnobaaDoor
