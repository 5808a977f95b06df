/- Packets as values; the hash of octets. No condition. -/
import Derived.Test.YtgpjelcihmbiiaaPRh
import Derived.Test.YtgpjelcihmbiiaaPOl
import Derived.Test.YtgpjelcihmbiiaaPMt
namespace Go.Proofs.Ytgpjelcihmbiiaa
open Go.RowKit
set_option linter.unusedVariables false
set_option linter.unusedSimpArgs false
set_option maxRecDepth 100000

/-- A packet: its fields. -/
structure PL where
  src : Int
  dst : Int
  ttl : Int
  ent : Int
  vni : Int
  mark : Int
  f : FL
def PL.cs (p : PL) : List Value := .int .u32 p.src :: .int .u32 p.dst :: .int .i64 p.ttl :: .int .i64 p.ent :: .int .u32 p.vni :: .int .u32 p.mark :: p.f.cs
def PL.v (p : PL) : Value := .agg p.cs.toArray
def P0 : PL := ⟨0, 0, 0, 0, 0, 0, F0⟩
theorem szP : (Try.prog.info? 55).map (·.size) = some 21 := by kernel_rfl
theorem pcs_length (p : PL) : p.cs.length = 21 := rfl
theorem pcs_one (p : PL) : p.cs.toArray.all (·.oneCell') = true := by simp [PL.cs, FL.cs, Value.oneCell']
theorem fieldsP : (Try.prog.fieldsOf 55).toList.map (fun f => (f.name, f.type, f.offset)) = [("Src", 30, 0), ("Dst", 30, 1), ("TTL", 3, 2), ("Entropy", 3, 3), ("VNI", 29, 4), ("Mark", 29, 5), ("Inner", 36, 6)] := by kernel_rfl
def PL.eqb (p q : PL) : Bool := (p.src == q.src) && ((p.dst == q.dst) && ((p.ttl == q.ttl) && ((p.ent == q.ent) && ((p.vni == q.vni) && ((p.mark == q.mark) && p.f.eqb q.f)))))
theorem eqPk (n : Nat) (f g : PL) (w : World) : (Op.equalIn (n + 4) 55 f.v g.v).run Try.prog w = .ok (f.eqb g) w := by
  unfold PL.v
  rw [run_equalIn_struct w (n + 3) _ _ _ (by kernel_rfl) (by kernel_rfl)]
  obtain ⟨f0, r0, e0, a0, b0, c0, h0⟩ := unmap fieldsP
  obtain ⟨f1, r1, e1, a1, b1, c1, h1⟩ := unmap h0
  obtain ⟨f2, r2, e2, a2, b2, c2, h2⟩ := unmap h1
  obtain ⟨f3, r3, e3, a3, b3, c3, h3⟩ := unmap h2
  obtain ⟨f4, r4, e4, a4, b4, c4, h4⟩ := unmap h3
  obtain ⟨f5, r5, e5, a5, b5, c5, h5⟩ := unmap h4
  obtain ⟨f6, r6, e6, a6, b6, c6, h6⟩ := unmap h5
  obtain rfl := unmap0 h6
  rw [e0, e1, e2, e3, e4, e5, e6]
  have := eqF (d := n + 3) (xs := f.cs.toArray) (ys := g.cs.toArray) (w := w) (f := f0) (fs := [f1, f2, f3, f4, f5, f6]) (a := .int .u32 f.src) (b := .int .u32 g.src) (r := f.src == g.src) (s := ((f.dst == g.dst) && ((f.ttl == g.ttl) && ((f.ent == g.ent) && ((f.vni == g.vni) && ((f.mark == g.mark) && (f.f.eqb g.f && true))))))) (by rw [a0]; decide) (by rw [b0, c0]; kernel_rfl) (by rw [b0, c0]; kernel_rfl) (by rw [b0]; exact run_equalIn_int w (n + 2) _ .u32 .u32 _ _ Try.underlying30)
    (eqF (a := .int .u32 f.dst) (b := .int .u32 g.dst) (by rw [a1]; decide) (by rw [b1, c1]; kernel_rfl) (by rw [b1, c1]; kernel_rfl) (by rw [b1]; exact run_equalIn_int w (n + 2) _ .u32 .u32 _ _ Try.underlying30)
    (eqF (a := .int .i64 f.ttl) (b := .int .i64 g.ttl) (by rw [a2]; decide) (by rw [b2, c2]; kernel_rfl) (by rw [b2, c2]; kernel_rfl) (by rw [b2]; exact run_equalIn_int w (n + 2) _ .i64 .i64 _ _ Try.underlying3)
    (eqF (a := .int .i64 f.ent) (b := .int .i64 g.ent) (by rw [a3]; decide) (by rw [b3, c3]; kernel_rfl) (by rw [b3, c3]; kernel_rfl) (by rw [b3]; exact run_equalIn_int w (n + 2) _ .i64 .i64 _ _ Try.underlying3)
    (eqF (a := .int .u32 f.vni) (b := .int .u32 g.vni) (by rw [a4]; decide) (by rw [b4, c4]; kernel_rfl) (by rw [b4, c4]; kernel_rfl) (by rw [b4]; exact run_equalIn_int w (n + 2) _ .u32 .u32 _ _ Try.underlying29)
    (eqF (a := .int .u32 f.mark) (b := .int .u32 g.mark) (by rw [a5]; decide) (by rw [b5, c5]; kernel_rfl) (by rw [b5, c5]; kernel_rfl) (by rw [b5]; exact run_equalIn_int w (n + 2) _ .u32 .u32 _ _ Try.underlying29)
    (eqF (a := f.f.v) (b := g.f.v) (by rw [a6]; decide) (by rw [b6, c6]; kernel_rfl) (by rw [b6, c6]; kernel_rfl) (by rw [b6]; exact eqFr n f.f g.f w) (s := true) (by simp [Op.eqFields])))))))
  rw [Bool.and_true] at this
  exact this
theorem eqlP (f g : PL) (w : World) : (binOp .eql 55 f.v g.v).run Try.prog w = .ok (.bool (f.eqb g)) w := by
  have h2 : Sem.run Try.prog (Op.equal 55 f.v g.v) w = .ok (f.eqb g) w := eqPk 9996 f g w
  unfold PL.v at h2 ⊢
  simp [binOp, h2]
theorem neqP (f g : PL) (w : World) : (binOp .neq 55 f.v g.v).run Try.prog w = .ok (.bool (!(f.eqb g))) w := by
  have h2 : Sem.run Try.prog (Op.equal 55 f.v g.v) w = .ok (f.eqb g) w := eqPk 9996 f g w
  unfold PL.v at h2 ⊢
  simp [binOp, h2]
theorem peqb_iff (p q : PL) : p.eqb q = true ↔ p = q := by
  obtain ⟨a, b, c, d, e, m, f⟩ := p
  obtain ⟨a', b', c', d', e', m', f'⟩ := q
  simp [PL.eqb, eqb_iff]
structure PL.Ok (p : PL) : Prop where
  src : 0 ≤ p.src ∧ p.src < 4294967296
  dst : 0 ≤ p.dst ∧ p.dst < 4294967296
  vni : 0 ≤ p.vni ∧ p.vni < 4294967296
  mark : 0 ≤ p.mark ∧ p.mark < 4294967296
  f : p.f.Ok
def PL.hd (p : PL) : Bool := up 255 p.ttl && (up 65535 p.ent && (decide (p.vni ≤ 16777215) && decide (p.mark ≤ 16777215)))
def PL.chk (p : PL) : Int := if p.hd = true then p.f.chk else 2
/-- The header of VXLAN, that of UDP, all together. -/
def vxB (mark vni : Int) : List Int := enc 1 8 ++ (enc 3 mark.toNat ++ (enc 3 vni.toNat ++ enc 1 0))
def udB (ent : Int) (n : Nat) : List Int := enc 2 ent.toNat ++ (enc 2 4789 ++ (enc 2 (n + 16) ++ enc 2 0))
def PL.hdr (p : PL) (n : Nat) : List Int := rh (n + 36 : Nat) p.ttl 17 p.src p.dst (sumI (rh (n + 36 : Nat) p.ttl 17 p.src p.dst 0))
def PL.enc (p : PL) : List Int := p.hdr p.f.enc.length ++ (udB p.ent p.f.enc.length ++ (vxB p.mark p.vni ++ p.f.enc))
theorem vxB_length (m v : Int) : (vxB m v).length = 8 := by simp [vxB, enc_length]
theorem udB_length (e : Int) (n : Nat) : (udB e n).length = 8 := by simp [udB, enc_length]
theorem hdr_length (p : PL) (n : Nat) : (p.hdr n).length = 20 := by unfold PL.hdr; exact rh_length ..
theorem penc_length (p : PL) : p.enc.length = 36 + p.f.enc.length := by
  unfold PL.enc
  rw [List.length_append, List.length_append, List.length_append, hdr_length, udB_length, vxB_length]
  omega
theorem hd_true {p : PL} (h : p.hd = true) : 0 ≤ p.ttl ∧ p.ttl ≤ 255 ∧ 0 ≤ p.ent ∧ p.ent ≤ 65535 ∧ p.vni ≤ 16777215 ∧ p.mark ≤ 16777215 := by
  simp only [PL.hd, up, Bool.and_eq_true, decide_eq_true_eq] at h
  omega
theorem pchk_zero {p : PL} (h : p.chk = 0) : p.hd = true ∧ p.f.chk = 0 := by
  unfold PL.chk at h
  split at h
  · exact ⟨by assumption, h⟩
  · cases h
theorem rh_oct (n tt pr hs hd c : Int) : Oct (rh n tt pr hs hd c) := by
  intro x hx
  simp only [rh, List.mem_append] at hx
  rcases hx with q | q | q | q | q | q | q | q
  all_goals exact enc_oct _ _ x q
theorem vxB_oct (m v : Int) : Oct (vxB m v) := by
  intro x hx
  simp only [vxB, List.mem_append] at hx
  rcases hx with q | q | q | q
  all_goals exact enc_oct _ _ x q
theorem udB_oct (e : Int) (n : Nat) : Oct (udB e n) := by
  intro x hx
  simp only [udB, List.mem_append] at hx
  rcases hx with q | q | q | q
  all_goals exact enc_oct _ _ x q
theorem penc_oct (p : PL) : Oct p.enc := by
  intro x hx
  simp only [PL.enc, List.mem_append] at hx
  rcases hx with q | q | q | q
  · exact rh_oct _ _ _ _ _ _ x q
  · exact udB_oct _ _ x q
  · exact vxB_oct _ _ x q
  · exact enc_octets _ x q
def hstep (h x : Int) : Int := bits .xor .u32 h x * 16777619 % 4294967296
def hsh (xs : List Int) : Int := xs.foldl hstep 2166136261
theorem hsh_lt (xs : List Int) : 0 ≤ hsh xs ∧ hsh xs < 4294967296 := by
  unfold hsh
  have : ∀ (l : List Int) (h : Int), 0 ≤ h ∧ h < 4294967296 → 0 ≤ l.foldl hstep h ∧ l.foldl hstep h < 4294967296 := by
    intro l
    induction l with
    | nil => exact fun h q => q
    | cons x l ih => exact fun h _ => ih _ (by unfold hstep; omega)
  exact this xs _ (by decide)
theorem hsh_take (xs : List Int) (i : Nat) (hi : i < xs.length) : hsh (xs.take (i + 1)) = hstep (hsh (xs.take i)) (xs.getD i 0) := by
  unfold hsh
  rw [List.take_add_one, List.getElem?_eq_getElem hi, List.foldl_append, List.getD_eq_getElem?_getD, List.getElem?_eq_getElem hi]
  rfl
set_option maxHeartbeats 2000000 in
theorem hashb_is (xs : List Int) (v : Value) (w : World) (hd : Seg w v xs) (ho : Oct xs) (hl : xs.length ≤ 1000000) :
    Calls Try.prog 61 #[v] w fun e w' => e = .returned (.int .u32 (hsh xs)) ∧ w' = w := by
  obtain ⟨a, c, rfl, hcap, hx⟩ := hd
  go_enter Try.func61, Try.ntmps61
  go_wp2_with fail
  go_loopw [3, 4, 7] (fun v3 v4 v7 wr => ∃ i : Nat, i ≤ xs.length ∧ v3 = .int .u32 (hsh (xs.take i)) ∧ v7 = .int .i64 i ∧ wr = w) (fun _ _ v7 _ => xs.length - (intOf v7).toNat)
  case atStart => exact ⟨0, Nat.zero_le _, rfl, rfl, rfl⟩
  case round =>
    obtain ⟨i, hi, rfl, rfl, hw⟩ := hrel
    subst hw
    by_cases hlt : i < xs.length
    · obtain ⟨b, o, rfl, hc⟩ := hx i hlt
      have hO := ho.getD i
      have hq : (i : Int) < xs.length := by omega
      have hs := hsh_take xs i hlt
      have HX := Lib.hid hx
      clear hx
      generalize xs.getD i 0 = y at *
      generalize hsh (xs.take i) = h0 at *
      have e1 : bits .xor .u32 h0 y * 16777619 % 4294967296 = hsh (xs.take (i + 1)) := hs.symm
      clear hs
      go_wp2
      exact ⟨⟨i + 1, by omega, by simp [← e1], by simp only [Value.int.injEq, true_and]; omega, trivial⟩, by simp [intOf]; omega⟩
    · obtain rfl : i = xs.length := by omega
      rw [List.take_length]
      go_wp2
      go_ret
      exact ⟨rfl, rfl⟩
end Go.Proofs.Ytgpjelcihmbiiaa
