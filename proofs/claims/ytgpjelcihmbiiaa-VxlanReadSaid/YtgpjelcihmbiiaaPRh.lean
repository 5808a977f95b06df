/- Headers of IPv4 as octets; slices of octets made. No condition. -/
import Derived.Test.YtgpjelcihmbiiaaPSw
namespace Go.Proofs.Ytgpjelcihmbiiaa
open Go.RowKit Go.Sort
set_option linter.unusedVariables false
set_option linter.unusedSimpArgs false
set_option maxRecDepth 100000

theorem DatB.mk {B : Nat} {w : World} {xs : List Int} {g cap : Nat} {cs : List Value} (hB : B ≤ g) (h1 : xs.length ≤ cap) (h2 : cap ≤ maxLen) (hb : Blk w g 5 cs) (h3 : cs.length = cap) (h4 : cs.take xs.length = xs.map (Value.int .u8)) : DatB B w (.slice (some ⟨g, 0, none⟩) xs.length cap) xs :=
  ⟨by simp, .inr ⟨g, cap, cs.toArray, rfl, hB, hb, h1, h2, by simpa using h3, by simpa using h4⟩⟩
theorem DatB.form {B : Nat} {w : World} {v : Value} {xs : List Int} (h : DatB B w v xs) (h0 : 0 < xs.length) : ∃ g cap cs, v = .slice (some ⟨g, 0, none⟩) xs.length cap ∧ B ≤ g ∧ xs.length ≤ cap ∧ cap ≤ maxLen ∧ Blk w g 5 cs ∧ cs.length = cap ∧ cs.take xs.length = xs.map (Value.int .u8) := by
  obtain ⟨_, ⟨hv, hn⟩ | ⟨g, cap, cur, hv, hB, hg, h1, h2, h3, h4⟩⟩ := h
  · omega
  · exact ⟨g, cap, cur.toList, hv, hB, h1, h2, by unfold Blk; simpa using hg, by simpa using h3, by simpa using h4⟩
theorem datB_lit (B : Nat) (w : World) (xs : List Int) (hB : B ≤ w.heap.size) (hl : xs.length ≤ 1000) : DatB B (w.alloc (.cells (xs.map (Value.int .u8)).toArray 5)) (.slice (some ⟨w.heap.size, 0, none⟩) xs.length xs.length) xs :=
  DatB.mk hB (Nat.le_refl _) (by unfold maxLen; omega) (World.alloc_heap_new w _) (by simp) (by rw [List.take_of_length_le (by simp)])
/-- A header of these fields with this checksum. -/
def rh (n tt pr hs hd c : Int) : List Int := enc 2 17664 ++ (enc 2 n.toNat ++ (enc 4 0 ++ (enc 1 tt.toNat ++ (enc 1 pr.toNat ++ (enc 2 c.toNat ++ (enc 4 hs.toNat ++ enc 4 hd.toNat))))))
theorem rh_hdB (f : FL) (c : Int) : rh f.size f.tt f.pr f.hs f.hd c = f.hdB c := by simp [rh, FL.hdB]
theorem rh_length (n tt pr hs hd c : Int) : (rh n tt pr hs hd c).length = 20 := by simp [rh, enc_length]
theorem enc1' (x : Int) (h0 : 0 ≤ x) (h1 : x < 256) : enc 1 x.toNat = [x] := by
  simp [enc]
  omega
theorem rh_built (n tt pr hs hd : Int) (t0 : 0 ≤ tt) (t1 : tt < 256) (p0 : 0 ≤ pr) (p1 : pr < 256) : [69, 0] ++ enc 2 n.toNat ++ [0, 0, 0, 0, tt, pr, 0, 0] ++ enc 4 hs.toNat ++ enc 4 hd.toNat = rh n tt pr hs hd 0 := by
  unfold rh
  rw [enc1' tt t0 t1, enc1' pr p0 p1, show enc 2 17664 = [69, 0] by decide, show enc 4 0 = [0, 0, 0, 0] by decide, show enc 2 (0 : Int).toNat = [0, 0] by decide]
  simp [List.append_assoc]
theorem rh_set (n tt pr hs hd s : Int) (s0 : 0 ≤ s) (s1 : s < 65536) : ((rh n tt pr hs hd 0).set 10 (s / 256)).set 11 (s % 256) = rh n tt pr hs hd s := by
  have hP : (enc 2 17664 ++ (enc 2 n.toNat ++ (enc 4 0 ++ (enc 1 tt.toNat ++ enc 1 pr.toNat)))).length = 10 := by simp [enc_length]
  have e : ∀ c : Int, rh n tt pr hs hd c = (enc 2 17664 ++ (enc 2 n.toNat ++ (enc 4 0 ++ (enc 1 tt.toNat ++ enc 1 pr.toNat)))) ++ (enc 2 c.toNat ++ (enc 4 hs.toNat ++ enc 4 hd.toNat)) := fun c => by simp [rh, List.append_assoc]
  rw [e, e]
  generalize enc 2 17664 ++ (enc 2 n.toNat ++ (enc 4 0 ++ (enc 1 tt.toNat ++ enc 1 pr.toNat))) = P at hP
  rw [List.set_append_right _ _ (by omega), List.set_append_right _ _ (by omega), hP]
  congr 1
  rw [show enc 2 (0 : Int).toNat = [0, 0] by decide]
  have : enc 2 s.toNat = [s / 256, s % 256] := by
    simp [enc]
    omega
  rw [this]
  rfl
end Go.Proofs.Ytgpjelcihmbiiaa
