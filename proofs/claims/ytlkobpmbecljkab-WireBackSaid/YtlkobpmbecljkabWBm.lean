/- WireBack: what is read back. No condition. -/
import Derived.Test.YtlkobpmbecljkabWBl
import Derived.Test.YtlkobpmbecljkabWSb
import Derived.Test.YtlkobpmbecljkabWGt
namespace Go.Proofs.Ytlkobpmbecljkab
open Go.RowKit Go.Maps Go.MapKept
set_option linter.unusedVariables false
set_option linter.unusedSimpArgs false
theorem patched_zero (l : List Int) : patched ([0, 0] ++ l) 0 = enc 2 l.length ++ l := by simp [patched]
theorem Rw.form {B : Nat} {w : World} {t : TypeId} {v : Value} {l : List Value} (h : Rw B w t v l) : ∃ a cap, v = .slice a l.length cap := by
  obtain ⟨h1, ⟨hv, hn⟩ | ⟨g, cap, cur, hv, r⟩⟩ := h
  · exact ⟨none, 0, by rw [hv, hn]⟩
  · exact ⟨_, _, hv⟩
theorem Rw.cell {B : Nat} {w : World} {t : TypeId} {a : Option Addr} {n cap : Nat} {l : List Value} (h : Rw B w t (.slice a n cap) l) (i : Nat) (hi : i < l.length) : ∃ g, a = some ⟨g, 0, none⟩ ∧ w.cell? ⟨g, i, none⟩ = l[i]? := by
  have h0 := h
  obtain ⟨h1, ⟨hv, hn⟩ | ⟨g, cap', cur, hv, r⟩⟩ := h
  · omega
  · cases hv
    refine ⟨g, rfl, ?_⟩
    unfold Rw at h0
    exact World.ownsRow.cellAt h0 i (by omega)
theorem Rw.butP {B b : Nat} {w w' : World} {t : TypeId} {v : Value} {l : List Value} {W : WS} {n : Nat} {D : DataW Unit} (h : Rw B w t v l) (hw : Wtr w b W) (hm : Mks w W.mb n D) (h1 : t ≠ 78) (h2 : t ≠ 5) (k : ButP (W.mine b) w w') : Rw B w' t v l :=
  h.keep fun g e => by
    obtain ⟨cs, hb⟩ := h.blk e
    exact k.block g hb.lt fun hmine => by
      rcases hmine with q | q | q
      · exact hb.ne hw.1 h1 q
      · exact mks_ne hm hb q.symm
      · exact hw.2.1.own_ne hb h2 q
theorem Rw.but {B c : Nat} {w w' : World} {t u : TypeId} {v : Value} {l cs : List Value} (h : Rw B w t v l) (hb : Blk w c u cs) (ht : t ≠ u) (k : But w.heap.size c w w') : Rw B w' t v l :=
  h.keep fun g e => by
    obtain ⟨ds, hd⟩ := h.blk e
    exact k.block g hd.lt (hd.ne hb ht)
/-- The number at place i, in the octets. -/
theorem flat_at (ns : List (Nat × Nat)) (i : Nat) (p : Nat × Nat) (hi : ns[i]? = some p) (h : List Int) :
    ((h ++ flat ns).drop (h.length + (flat (ns.take i)).length)).take (sz p.1) = enc (sz p.1) p.2 ∧ (flat (ns.take (i + 1))).length = (flat (ns.take i)).length + sz p.1 ∧ h.length + (flat (ns.take i)).length + sz p.1 ≤ (h ++ flat ns).length := by
  obtain ⟨hl, rfl⟩ := List.getElem?_eq_some_iff.1 hi
  have e : flat ns = flat (ns.take i) ++ (enc (sz ns[i].1) ns[i].2 ++ flat (ns.drop (i + 1))) := by
    have : ns = ns.take i ++ ns[i] :: ns.drop (i + 1) := by simp
    conv => lhs; rw [this]
    unfold flat
    rw [List.flatMap_append, List.flatMap_cons]
  have e2 : flat (ns.take (i + 1)) = flat (ns.take i) ++ enc (sz ns[i].1) ns[i].2 := by
    rw [← flat_snoc]
    congr 1
    rw [List.take_add_one, hi]
    rfl
  refine ⟨?_, by rw [e2, List.length_append, enc_length], by rw [e]; simp only [List.length_append, enc_length]; omega⟩
  rw [e, ← List.append_assoc, ← List.length_append, List.drop_left, List.take_append_of_le_length (by rw [enc_length]; exact Nat.le_refl _), List.take_of_length_le (by rw [enc_length]; exact Nat.le_refl _)]
theorem be_cons (x : Int) (l : List Int) : ∀ acc : Nat, (x :: l).foldl (fun a x => a * 256 + x.toNat) acc = l.foldl (fun a x => a * 256 + x.toNat) (acc * 256 + x.toNat) := fun _ => rfl
theorem fold_enc (k n : Nat) : ∀ acc : Nat, (enc k n).foldl (fun a x => a * 256 + x.toNat) acc = acc * 256 ^ k + n % 256 ^ k := by
  induction k with
  | zero => intro acc; simp [enc, Nat.mod_one]
  | succ k ih =>
    intro acc
    have e : (((n / 256 ^ k % 256 : Nat) : Int)).toNat = n / 256 ^ k % 256 := Int.toNat_natCast _
    rw [enc, be_cons, ih, e]
    have h1 : n % 256 ^ (k + 1) = n % 256 ^ k + 256 ^ k * (n / 256 ^ k % 256) := by rw [Nat.pow_succ, Nat.mod_mul]
    rw [h1, Nat.pow_succ, Nat.add_mul, Nat.mul_assoc, Nat.mul_comm 256 (256 ^ k), Nat.mul_comm (n / 256 ^ k % 256)]
    omega
theorem be_enc (k n : Nat) (h : n < 256 ^ k) : be (enc k n) = n := by
  unfold be
  rw [fold_enc, Nat.mod_eq_of_lt h]
  omega
/-- What is known when j numbers have been read back. -/
def Rb (w0 : World) (b c mb : Nat) (v : Value) (ns : List (Nat × Nat)) (vk vn : Value) (j : Nat) (wr : World) : Prop :=
  Rdr wr c ⟨0, 2 + (flat (ns.take j)).length, enc 2 (flat ns).length ++ flat ns, 0, 0⟩ ∧ Wtr wr b ⟨65536, enc 2 (flat ns).length ++ flat ns, v, mb⟩ ∧ Rw w0.heap.size wr 3 vk (ns.map fun p => Value.int .i64 (p.1 : Nat)) ∧ Rw w0.heap.size wr 30 vn (ns.map fun p => Value.int .u64 (p.2 : Nat)) ∧ Below w0.heap.size w0 wr
section
variable {w0 wr : World} {b c mb j : Nat} {v vk vn : Value} {ns : List (Nat × Nat)}
theorem Rb.below {w' : World} (h : Rb w0 b c mb v ns vk vn j wr) (k : Below wr.heap.size wr w') : Rb w0 b c mb v ns vk vn j w' :=
  ⟨h.1.below k, h.2.1.below k, h.2.2.1.below k, h.2.2.2.1.below k, h.2.2.2.2.trans (k.mono h.2.2.2.2.size)⟩
theorem Rb.get (h : Rb w0 b c mb v ns vk vn j wr) (hcb : c ≠ b) (hcw : w0.heap.size ≤ c) {p : Nat × Nat} (hp : ns[j]? = some p) (h6 : p.1 < 6) (hf : p.2 < 256 ^ sz p.1) :
    Calls Try.prog 40 #[.pointer (some ⟨c, 0, none⟩), .int .i64 (p.1 : Nat)] wr fun e w' => ∃ u, e = .returned u ∧ u = .int .u64 (p.2 : Nat) ∧ Rb w0 b c mb v ns vk vn (j + 1) w' := by
  obtain ⟨R, W, K, N, B⟩ := h
  obtain ⟨f1, f2, f3⟩ := flat_at ns j p hp (enc 2 (flat ns).length)
  rw [enc_length] at f1 f3
  refine (get_is wr c _ p.1 h6 R).mono ?_
  rintro e w' ⟨rfl, R', k⟩
  obtain ⟨cs, hcs⟩ := R.blk
  rw [st_next _ _ _ f3] at R'
  rw [st_part _ _ _ f3, f1, be_enc _ _ hf]
  refine ⟨_, rfl, rfl, ?_, W.but R k hcb, K.but hcs (by decide) k, N.but hcs (by decide) k, But.below B k hcw B.size⟩
  rw [f2, ← Nat.add_assoc]
  exact R'
theorem Rb.cells {a7 a8 : Option Addr} {n c7 c8 i : Nat} (h : Rb w0 b c mb v ns (.slice a7 n c7) (.slice a8 n c8) j wr) {p : Nat × Nat} (hp : ns[i]? = some p) :
    (∃ g, a7 = some ⟨g, 0, none⟩ ∧ wr.cell? ⟨g, i, none⟩ = some (.int .i64 (p.1 : Nat))) ∧ ∃ g, a8 = some ⟨g, 0, none⟩ ∧ wr.cell? ⟨g, i, none⟩ = some (.int .u64 (p.2 : Nat)) := by
  obtain ⟨R, W, K, N, B⟩ := h
  have hi : i < ns.length := (List.getElem?_eq_some_iff.1 hp).1
  obtain ⟨g, e, hc⟩ := K.cell i (by simpa using hi)
  obtain ⟨g', e', hc'⟩ := N.cell i (by simpa using hi)
  exact ⟨⟨g, e, by rw [hc, List.getElem?_map, hp]; rfl⟩, ⟨g', e', by rw [hc', List.getElem?_map, hp]; rfl⟩⟩
end
end Go.Proofs.Ytlkobpmbecljkab
