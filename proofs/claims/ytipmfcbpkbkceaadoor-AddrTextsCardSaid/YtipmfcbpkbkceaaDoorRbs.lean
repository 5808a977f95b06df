/- readBytes: the bytes that exactly so many groups spell, with a separator between them. No condition but the variables'. -/
import Derived.Test.YtipmfcbpkbkceaaDoorRdx
import Derived.Laws.AppendOwn
import Derived.OwnWalk
import Derived.Lib.IndexMore
import Derived.WalkMore
import Derived.Maps.AppendAt
namespace Go.Proofs.YtipmfcbpkbkceaaDoor
open Go.RowKit Go.Shelf Go.Sort
set_option linter.unusedVariables false
set_option linter.unusedSimpArgs false

/-- What the variables that the readers name hold. -/
def Vars (w : World) : Prop := (∃ m, w.cell? ⟨0, 0, none⟩ = some (.int .i64 m)) ∧ Errs w
theorem Vars.below {w w' : World} (h : Vars w) (hb : Below w.heap.size w w') : Vars w' := by
  obtain ⟨⟨m, h1⟩, h2⟩ := h
  exact ⟨⟨m, (hb.cell (p := ⟨0, 0, none⟩) (block_lt_of_cell h1)).trans h1⟩, h2.below hb⟩

theorem own_below {w w' : World} {B e size n : Nat} {v : Value} {xs : List Value} (h : w.ownsRow B e size v n xs) (hb : Below w.heap.size w w') : w'.ownsRow B e size v n xs := by
  refine ⟨h.1, ?_⟩
  rcases h.2 with h | ⟨g, cap, cur, hv, hg, hh, r⟩
  · exact .inl h
  · exact .inr ⟨g, cap, cur, hv, hg, (hb.block g (Array.getElem?_eq_some_iff.1 hh).1).trans hh, r⟩

theorem cut_len (s sep : List UInt8) : (Lib.cut s sep).1.length ≤ s.length ∧ (Lib.cut s sep).2.1.length ≤ s.length := by
  unfold Lib.cut
  split
  · simp; omega
  · simp

theorem cut_is (s : List UInt8) (c : UInt8) (hs : s.length < 4294967281) (w : World) (hV : Vars w) :
    Calls Tryd.prog 32 #[.string ⟨s.toArray⟩, .string ⟨#[c]⟩] w fun e w' => e = .returned (.tuple #[.string ⟨(Lib.cut s [c]).1.toArray⟩, .string ⟨(Lib.cut s [c]).2.1.toArray⟩, .bool (Lib.cut s [c]).2.2]) ∧ Below w.heap.size w w' := by
  obtain ⟨⟨m, h1⟩, _⟩ := hV
  refine (Tryd.strings_Cut ⟨s.toArray⟩ ⟨#[c]⟩ m w (by simpa [ByteArray.size] using hs) h1).mono ?_
  rintro e w' ⟨rfl, n, rfl⟩
  exact ⟨rfl, ⟨rfl, rfl, rfl, Nat.le_refl _, fun _ _ => rfl⟩⟩

/-- The bytes that so many groups spell. -/
def groups (c : UInt8) (rd : ByteArray → Option Nat) : Nat → List UInt8 → Option (List Nat)
  | 0, _ => none
  | n + 1, s => match rd ⟨(Lib.cut s [c]).1.toArray⟩ with
    | none => none
    | some b => if (Lib.cut s [c]).2.2 = true then (if n = 0 then none else (groups c rd n (Lib.cut s [c]).2.1).map (b :: ·)) else (if n = 0 then some [b] else none)
def byteV (b : Nat) : Value := .int .u8 (b : Int)
def sliceLen : Value → Nat
  | .slice _ n _ => n
  | _ => 0
theorem own_slice {w : World} {B e size n : Nat} {v : Value} {xs : List Value} (h : w.ownsRow B e size v n xs) : ∃ ao cap, v = .slice ao n cap := by
  rcases h.2 with ⟨rfl, rfl⟩ | ⟨g, cap, _, rfl, _⟩
  · exact ⟨_, _, rfl⟩
  · exact ⟨_, _, rfl⟩

set_option maxHeartbeats 16000000 in
set_option maxRecDepth 100000 in
theorem readBytes_dec4 (c : UInt8) (s : List UInt8) (hs : s.length < 4294967281) (w : World) (hV : Vars w) :
    Calls Tryd.prog 22 #[.string ⟨s.toArray⟩, .string ⟨#[c]⟩, .int .i64 4, .func (.func 18) #[] #[]] w fun e w' => (∃ sv, e = .returned (.tuple #[sv, .bool (groups c decRd 4 s).isSome]) ∧ ∀ l, groups c decRd 4 s = some l → l.length = 4 ∧ w'.ownsRow w.heap.size 5 1 sv 4 (l.map byteV)) ∧ Below w.heap.size w w' := by
  obtain ⟨i0, hi, hz0, hz1, hz2⟩ := info_parts (show (Tryd.prog.info? 5).map (fun i => (i.zero, i.size, i.bytes)) = some (some (.int .u8 0), 1, 1) by kernel_rfl)
  have hmk : ∀ w, (Instr.makeSlice 58 (.int .i64 0) (.int .i64 4)).run Tryd.prog w = .ok (.slice (some ⟨w.heap.size, 0, none⟩) 0 4) (w.alloc (.cells #[.int .u8 0, .int .u8 0, .int .u8 0, .int .u8 0] 5)) := fun _ => by kernel_rfl
  obtain ⟨G, hG⟩ : ∃ G, G = groups c decRd 4 s := ⟨_, rfl⟩
  rw [← hG]
  go_enter Tryd.func22, Tryd.ntmps22
  go_wp2
  go_step3
  go_wp2
  go_step3
  go_wp2
  go_loopw [0, 10] (fun sv v wr => ∃ (cur : List UInt8) (acc : List Nat) (ao : Option Addr) (cap n : Nat), sv = .string ⟨cur.toArray⟩ ∧ v = .slice ao acc.length cap ∧ wr.ownsRow w.heap.size 5 1 v acc.length (acc.map byteV) ∧ Below w.heap.size w wr ∧ Vars wr ∧ Hid (acc.length + (n + 1) = 4 ∧ cur.length ≤ s.length ∧ G = (groups c decRd (n + 1) cur).map (acc ++ ·)))
    (fun _ v _ => 4 - sliceLen v)
  case atStart => exact ⟨s, [], _, _, 3, rfl, rfl, World.ownsRow_made _ _ _ (Nat.le_refl _) (by decide) (by decide), (Below.refl _ _).alloc (Nat.le_refl _) _, hV.below ((Below.refl _ _).alloc (Nat.le_refl _) _), rfl, Nat.le_refl _, by simp [hG]⟩
  case round =>
    obtain ⟨cur, acc, ao, cap, n, rfl, rfl, hown, hbel, hVr, HH⟩ := hrel
    have hcl := cut_len cur [c]
    have hcs : cur.length < 4294967281 := by have := HH.out.2.1; omega
    have HH2 : Hid (G = match decRd ⟨(Lib.cut cur [c]).1.toArray⟩ with
      | none => none
      | some b => if (Lib.cut cur [c]).2.2 = true then (if n = 0 then none else (groups c decRd n (Lib.cut cur [c]).2.1).map (fun l => acc ++ (b :: l))) else (if n = 0 then some (acc ++ [b]) else none)) := by
      refine Lib.hid (HH.out.2.2.trans ?_)
      simp only [groups]
      split
      · rfl
      · split
        · split
          · rfl
          · simp [Option.map_map, Function.comp_def]
        · split <;> rfl
    have hC := cut_is cur c hcs wr hVr
    have hn := HH.out.1
    have hcl2 := HH.out.2.1
    clear HH hcs
    generalize Lib.cut cur [c] = X at hC hcl HH2
    obtain ⟨g, r, m⟩ := X
    simp only at hC hcl HH2
    go_wp2_with (go_at_call 32; refine hC.mono ?_; rintro e w1 ⟨rfl, hb1⟩)
    have hV1 := hVr.below hb1
    have hown1 := own_below hown hb1
    have hbel1 := hbel.trans (hb1.mono hbel.size)
    clear hVr hown hbel hC
    go_at_call 18
    refine (readDecimal_is ⟨g.toArray⟩ (by simp [ByteArray.size]; omega) w1 hV1.2).mono ?_
    rintro e w2 ⟨⟨b, rfl, hbv⟩, hb2⟩
    have hV2 := hV1.below hb2
    have hown2 := own_below hown1 hb2
    have hbel2 := hbel1.trans (hb2.mono hbel1.size)
    clear hV1 hown1 hbel1 hb1 hb2
    rcases hrd : decRd ⟨g.toArray⟩ with _ | x
    · rw [hrd] at HH2 hbv
      have HN : G = none := HH2.out
      clear HH2
      go_wp2
      rw [Exit.noGoto_ret]
      go_ret2
      exact ⟨⟨_, by rw [HN]; rfl, fun l h => by rw [HN] at h; cases h⟩, hbel2⟩
    · rw [hrd] at HH2 hbv
      obtain rfl := hbv x rfl
      simp only at HH2
      clear hbv hrd
      have hsz2 := hbel2.size
      have hl4 : acc.length ≤ 4 := by omega
      rcases m with _ | _
      · go_wp2_with (at_builtin; refine wpList_append_own _ rfl _ _ 58 rfl w.heap.size 5 i0 (.int .u8 0) 1 1 Tryd.underlying58 hi hz0 hz1 hz2 rfl (by decide) _ _ _ rfl (hown2.alloc _) ⟨w2.heap.size, 0, none⟩ 1 1 [.int .u8 (x : Int)] rfl rfl (cell_one_new _ _ _) (fun y hy => by simp at hy; subst hy; rfl) (by unfold maxLen; omega) (by omega) (by simp; omega) ?_; intro v' w3 hown' hgrow3 hnil3; obtain ⟨ao', cap', rfl⟩ := own_slice hown')
        · have hl := hown'.1
          have HB : Below w.heap.size w w3 := (hbel2.alloc hsz2 _).grown hgrow3 (by simp; omega) (fun q hq => (hown2.lt q hq).1)
          rcases n with _ | n
          · have HN : G = some (acc ++ [x]) := HH2.out
            have hlen : acc.length + 1 = 4 := by omega
            have hd : ((acc.length : Int) + 1 == 4) = true := by rw [beq_iff_eq]; omega
            rw [Exit.noGoto_ret, hd]
            go_ret2
            refine ⟨⟨_, by rw [HN]; rfl, fun l h => ?_⟩, HB⟩
            rw [HN] at h
            cases h
            refine ⟨by simp [hlen], ?_⟩
            rw [hlen] at hown'
            rw [List.map_append, hlen]
            exact hown'
          · have HN : G = none := by have := HH2.out; simpa using this
            have hd : ((acc.length : Int) + 1 == 4) = false := by rw [beq_eq_false_iff_ne]; omega
            rw [Exit.noGoto_ret, hd]
            go_ret2
            exact ⟨⟨_, by rw [HN]; rfl, fun l h => by rw [HN] at h; cases h⟩, HB⟩
      · rcases n with _ | n
        · have HN : G = none := by have := HH2.out; simpa using this
          have hd : ((acc.length : Int) + 1 == 4) = true := by rw [beq_iff_eq]; omega
          go_wp2_with (at_builtin; refine wpList_append_own _ rfl _ _ 58 rfl w.heap.size 5 i0 (.int .u8 0) 1 1 Tryd.underlying58 hi hz0 hz1 hz2 rfl (by decide) _ _ _ rfl (hown2.alloc _) ⟨w2.heap.size, 0, none⟩ 1 1 [.int .u8 (x : Int)] rfl rfl (cell_one_new _ _ _) (fun y hy => by simp at hy; subst hy; rfl) (by unfold maxLen; omega) (by omega) (by simp; omega) ?_; intro v' w3 hown' hgrow3 hnil3; obtain ⟨ao', cap', rfl⟩ := own_slice hown')
          · have HB : Below w.heap.size w w3 := (hbel2.alloc hsz2 _).grown hgrow3 (by simp; omega) (fun q hq => (hown2.lt q hq).1)
            rw [Exit.noGoto_ret]
            go_ret2
            exact ⟨⟨_, by rw [HN]; rfl, fun l h => by rw [HN] at h; cases h⟩, HB⟩
        · have hd : ((acc.length : Int) + 1 == 4) = false := by rw [beq_eq_false_iff_ne]; omega
          have HN : Hid (acc.length + 1 + (n + 1) = 4 ∧ r.length ≤ s.length ∧ G = (groups c decRd (n + 1) r).map ((acc ++ [x]) ++ ·)) := Lib.hid ⟨by omega, by omega, by have := HH2.out; simpa using this⟩
          clear HH2
          go_wp2_with (at_builtin; refine wpList_append_own _ rfl _ _ 58 rfl w.heap.size 5 i0 (.int .u8 0) 1 1 Tryd.underlying58 hi hz0 hz1 hz2 rfl (by decide) _ _ _ rfl (hown2.alloc _) ⟨w2.heap.size, 0, none⟩ 1 1 [.int .u8 (x : Int)] rfl rfl (cell_one_new _ _ _) (fun y hy => by simp at hy; subst hy; rfl) (by unfold maxLen; omega) (by omega) (by simp; omega) ?_; intro v' w3 hown' hgrow3 hnil3; obtain ⟨ao', cap', rfl⟩ := own_slice hown')
          · have HB : Below w.heap.size w w3 := (hbel2.alloc hsz2 _).grown hgrow3 (by simp; omega) (fun q hq => (hown2.lt q hq).1)
            have hV3 : Vars w3 := hV.below HB
            go_roundw
            case rel => exact ⟨r, acc ++ [x], ao', cap', n, rfl, by simp, by simpa [byteV] using hown', HB, hV3, by simpa using HN⟩
            case measure => simp [sliceLen]; omega

set_option maxHeartbeats 16000000 in
set_option maxRecDepth 100000 in
theorem readBytes_hex6 (c : UInt8) (s : List UInt8) (hs : s.length < 4294967281) (w : World) (hV : Vars w) :
    Calls Tryd.prog 22 #[.string ⟨s.toArray⟩, .string ⟨#[c]⟩, .int .i64 6, .func (.func 23) #[] #[]] w fun e w' => (∃ sv, e = .returned (.tuple #[sv, .bool (groups c hexRd 6 s).isSome]) ∧ ∀ l, groups c hexRd 6 s = some l → l.length = 6 ∧ w'.ownsRow w.heap.size 5 1 sv 6 (l.map byteV)) ∧ Below w.heap.size w w' := by
  obtain ⟨i0, hi, hz0, hz1, hz2⟩ := info_parts (show (Tryd.prog.info? 5).map (fun i => (i.zero, i.size, i.bytes)) = some (some (.int .u8 0), 1, 1) by kernel_rfl)
  have hmk : ∀ w, (Instr.makeSlice 58 (.int .i64 0) (.int .i64 6)).run Tryd.prog w = .ok (.slice (some ⟨w.heap.size, 0, none⟩) 0 6) (w.alloc (.cells #[.int .u8 0, .int .u8 0, .int .u8 0, .int .u8 0, .int .u8 0, .int .u8 0] 5)) := fun _ => by kernel_rfl
  obtain ⟨G, hG⟩ : ∃ G, G = groups c hexRd 6 s := ⟨_, rfl⟩
  rw [← hG]
  go_enter Tryd.func22, Tryd.ntmps22
  go_wp2
  go_step3
  go_wp2
  go_step3
  go_wp2
  go_loopw [0, 10] (fun sv v wr => ∃ (cur : List UInt8) (acc : List Nat) (ao : Option Addr) (cap n : Nat), sv = .string ⟨cur.toArray⟩ ∧ v = .slice ao acc.length cap ∧ wr.ownsRow w.heap.size 5 1 v acc.length (acc.map byteV) ∧ Below w.heap.size w wr ∧ Vars wr ∧ Hid (acc.length + (n + 1) = 6 ∧ cur.length ≤ s.length ∧ G = (groups c hexRd (n + 1) cur).map (acc ++ ·)))
    (fun _ v _ => 6 - sliceLen v)
  case atStart => exact ⟨s, [], _, _, 5, rfl, rfl, World.ownsRow_made _ _ _ (Nat.le_refl _) (by decide) (by decide), (Below.refl _ _).alloc (Nat.le_refl _) _, hV.below ((Below.refl _ _).alloc (Nat.le_refl _) _), rfl, Nat.le_refl _, by simp [hG]⟩
  case round =>
    obtain ⟨cur, acc, ao, cap, n, rfl, rfl, hown, hbel, hVr, HH⟩ := hrel
    have hcl := cut_len cur [c]
    have hcs : cur.length < 4294967281 := by have := HH.out.2.1; omega
    have HH2 : Hid (G = match hexRd ⟨(Lib.cut cur [c]).1.toArray⟩ with
      | none => none
      | some b => if (Lib.cut cur [c]).2.2 = true then (if n = 0 then none else (groups c hexRd n (Lib.cut cur [c]).2.1).map (fun l => acc ++ (b :: l))) else (if n = 0 then some (acc ++ [b]) else none)) := by
      refine Lib.hid (HH.out.2.2.trans ?_)
      simp only [groups]
      split
      · rfl
      · split
        · split
          · rfl
          · simp [Option.map_map, Function.comp_def]
        · split <;> rfl
    have hC := cut_is cur c hcs wr hVr
    have hn := HH.out.1
    have hcl2 := HH.out.2.1
    clear HH hcs
    generalize Lib.cut cur [c] = X at hC hcl HH2
    obtain ⟨g, r, m⟩ := X
    simp only at hC hcl HH2
    go_wp2_with (go_at_call 32; refine hC.mono ?_; rintro e w1 ⟨rfl, hb1⟩)
    have hV1 := hVr.below hb1
    have hown1 := own_below hown hb1
    have hbel1 := hbel.trans (hb1.mono hbel.size)
    clear hVr hown hbel hC
    go_at_call 23
    refine (readHex_is ⟨g.toArray⟩ (by simp [ByteArray.size]; omega) w1 hV1.2).mono ?_
    rintro e w2 ⟨⟨b, rfl, hbv⟩, hb2⟩
    have hV2 := hV1.below hb2
    have hown2 := own_below hown1 hb2
    have hbel2 := hbel1.trans (hb2.mono hbel1.size)
    clear hV1 hown1 hbel1 hb1 hb2
    rcases hrd : hexRd ⟨g.toArray⟩ with _ | x
    · rw [hrd] at HH2 hbv
      have HN : G = none := HH2.out
      clear HH2
      go_wp2
      rw [Exit.noGoto_ret]
      go_ret2
      exact ⟨⟨_, by rw [HN]; rfl, fun l h => by rw [HN] at h; cases h⟩, hbel2⟩
    · rw [hrd] at HH2 hbv
      obtain rfl := hbv x rfl
      simp only at HH2
      clear hbv hrd
      have hsz2 := hbel2.size
      have hl4 : acc.length ≤ 6 := by omega
      rcases m with _ | _
      · go_wp2_with (at_builtin; refine wpList_append_own _ rfl _ _ 58 rfl w.heap.size 5 i0 (.int .u8 0) 1 1 Tryd.underlying58 hi hz0 hz1 hz2 rfl (by decide) _ _ _ rfl (hown2.alloc _) ⟨w2.heap.size, 0, none⟩ 1 1 [.int .u8 (x : Int)] rfl rfl (cell_one_new _ _ _) (fun y hy => by simp at hy; subst hy; rfl) (by unfold maxLen; omega) (by omega) (by simp; omega) ?_; intro v' w3 hown' hgrow3 hnil3; obtain ⟨ao', cap', rfl⟩ := own_slice hown')
        · have hl := hown'.1
          have HB : Below w.heap.size w w3 := (hbel2.alloc hsz2 _).grown hgrow3 (by simp; omega) (fun q hq => (hown2.lt q hq).1)
          rcases n with _ | n
          · have HN : G = some (acc ++ [x]) := HH2.out
            have hlen : acc.length + 1 = 6 := by omega
            have hd : ((acc.length : Int) + 1 == 6) = true := by rw [beq_iff_eq]; omega
            rw [Exit.noGoto_ret, hd]
            go_ret2
            refine ⟨⟨_, by rw [HN]; rfl, fun l h => ?_⟩, HB⟩
            rw [HN] at h
            cases h
            refine ⟨by simp [hlen], ?_⟩
            rw [hlen] at hown'
            rw [List.map_append, hlen]
            exact hown'
          · have HN : G = none := by have := HH2.out; simpa using this
            have hd : ((acc.length : Int) + 1 == 6) = false := by rw [beq_eq_false_iff_ne]; omega
            rw [Exit.noGoto_ret, hd]
            go_ret2
            exact ⟨⟨_, by rw [HN]; rfl, fun l h => by rw [HN] at h; cases h⟩, HB⟩
      · rcases n with _ | n
        · have HN : G = none := by have := HH2.out; simpa using this
          have hd : ((acc.length : Int) + 1 == 6) = true := by rw [beq_iff_eq]; omega
          go_wp2_with (at_builtin; refine wpList_append_own _ rfl _ _ 58 rfl w.heap.size 5 i0 (.int .u8 0) 1 1 Tryd.underlying58 hi hz0 hz1 hz2 rfl (by decide) _ _ _ rfl (hown2.alloc _) ⟨w2.heap.size, 0, none⟩ 1 1 [.int .u8 (x : Int)] rfl rfl (cell_one_new _ _ _) (fun y hy => by simp at hy; subst hy; rfl) (by unfold maxLen; omega) (by omega) (by simp; omega) ?_; intro v' w3 hown' hgrow3 hnil3; obtain ⟨ao', cap', rfl⟩ := own_slice hown')
          · have HB : Below w.heap.size w w3 := (hbel2.alloc hsz2 _).grown hgrow3 (by simp; omega) (fun q hq => (hown2.lt q hq).1)
            rw [Exit.noGoto_ret]
            go_ret2
            exact ⟨⟨_, by rw [HN]; rfl, fun l h => by rw [HN] at h; cases h⟩, HB⟩
        · have hd : ((acc.length : Int) + 1 == 6) = false := by rw [beq_eq_false_iff_ne]; omega
          have HN : Hid (acc.length + 1 + (n + 1) = 6 ∧ r.length ≤ s.length ∧ G = (groups c hexRd (n + 1) r).map ((acc ++ [x]) ++ ·)) := Lib.hid ⟨by omega, by omega, by have := HH2.out; simpa using this⟩
          clear HH2
          go_wp2_with (at_builtin; refine wpList_append_own _ rfl _ _ 58 rfl w.heap.size 5 i0 (.int .u8 0) 1 1 Tryd.underlying58 hi hz0 hz1 hz2 rfl (by decide) _ _ _ rfl (hown2.alloc _) ⟨w2.heap.size, 0, none⟩ 1 1 [.int .u8 (x : Int)] rfl rfl (cell_one_new _ _ _) (fun y hy => by simp at hy; subst hy; rfl) (by unfold maxLen; omega) (by omega) (by simp; omega) ?_; intro v' w3 hown' hgrow3 hnil3; obtain ⟨ao', cap', rfl⟩ := own_slice hown')
          · have HB : Below w.heap.size w w3 := (hbel2.alloc hsz2 _).grown hgrow3 (by simp; omega) (fun q hq => (hown2.lt q hq).1)
            have hV3 : Vars w3 := hV.below HB
            go_roundw
            case rel => exact ⟨r, acc ++ [x], ao', cap', n, rfl, by simp, by simpa [byteV] using hown', HB, hV3, by simpa using HN⟩
            case measure => simp [sliceLen]; omega

set_option maxHeartbeats 16000000 in
set_option maxRecDepth 100000 in
theorem readBytes_hex10 (c : UInt8) (s : List UInt8) (hs : s.length < 4294967281) (w : World) (hV : Vars w) :
    Calls Tryd.prog 22 #[.string ⟨s.toArray⟩, .string ⟨#[c]⟩, .int .i64 10, .func (.func 23) #[] #[]] w fun e w' => (∃ sv, e = .returned (.tuple #[sv, .bool (groups c hexRd 10 s).isSome]) ∧ ∀ l, groups c hexRd 10 s = some l → l.length = 10 ∧ w'.ownsRow w.heap.size 5 1 sv 10 (l.map byteV)) ∧ Below w.heap.size w w' := by
  obtain ⟨i0, hi, hz0, hz1, hz2⟩ := info_parts (show (Tryd.prog.info? 5).map (fun i => (i.zero, i.size, i.bytes)) = some (some (.int .u8 0), 1, 1) by kernel_rfl)
  have hmk : ∀ w, (Instr.makeSlice 58 (.int .i64 0) (.int .i64 10)).run Tryd.prog w = .ok (.slice (some ⟨w.heap.size, 0, none⟩) 0 10) (w.alloc (.cells #[.int .u8 0, .int .u8 0, .int .u8 0, .int .u8 0, .int .u8 0, .int .u8 0, .int .u8 0, .int .u8 0, .int .u8 0, .int .u8 0] 5)) := fun _ => by kernel_rfl
  obtain ⟨G, hG⟩ : ∃ G, G = groups c hexRd 10 s := ⟨_, rfl⟩
  rw [← hG]
  go_enter Tryd.func22, Tryd.ntmps22
  go_wp2
  go_step3
  go_wp2
  go_step3
  go_wp2
  go_loopw [0, 10] (fun sv v wr => ∃ (cur : List UInt8) (acc : List Nat) (ao : Option Addr) (cap n : Nat), sv = .string ⟨cur.toArray⟩ ∧ v = .slice ao acc.length cap ∧ wr.ownsRow w.heap.size 5 1 v acc.length (acc.map byteV) ∧ Below w.heap.size w wr ∧ Vars wr ∧ Hid (acc.length + (n + 1) = 10 ∧ cur.length ≤ s.length ∧ G = (groups c hexRd (n + 1) cur).map (acc ++ ·)))
    (fun _ v _ => 10 - sliceLen v)
  case atStart => exact ⟨s, [], _, _, 9, rfl, rfl, World.ownsRow_made _ _ _ (Nat.le_refl _) (by decide) (by decide), (Below.refl _ _).alloc (Nat.le_refl _) _, hV.below ((Below.refl _ _).alloc (Nat.le_refl _) _), rfl, Nat.le_refl _, by simp [hG]⟩
  case round =>
    obtain ⟨cur, acc, ao, cap, n, rfl, rfl, hown, hbel, hVr, HH⟩ := hrel
    have hcl := cut_len cur [c]
    have hcs : cur.length < 4294967281 := by have := HH.out.2.1; omega
    have HH2 : Hid (G = match hexRd ⟨(Lib.cut cur [c]).1.toArray⟩ with
      | none => none
      | some b => if (Lib.cut cur [c]).2.2 = true then (if n = 0 then none else (groups c hexRd n (Lib.cut cur [c]).2.1).map (fun l => acc ++ (b :: l))) else (if n = 0 then some (acc ++ [b]) else none)) := by
      refine Lib.hid (HH.out.2.2.trans ?_)
      simp only [groups]
      split
      · rfl
      · split
        · split
          · rfl
          · simp [Option.map_map, Function.comp_def]
        · split <;> rfl
    have hC := cut_is cur c hcs wr hVr
    have hn := HH.out.1
    have hcl2 := HH.out.2.1
    clear HH hcs
    generalize Lib.cut cur [c] = X at hC hcl HH2
    obtain ⟨g, r, m⟩ := X
    simp only at hC hcl HH2
    go_wp2_with (go_at_call 32; refine hC.mono ?_; rintro e w1 ⟨rfl, hb1⟩)
    have hV1 := hVr.below hb1
    have hown1 := own_below hown hb1
    have hbel1 := hbel.trans (hb1.mono hbel.size)
    clear hVr hown hbel hC
    go_at_call 23
    refine (readHex_is ⟨g.toArray⟩ (by simp [ByteArray.size]; omega) w1 hV1.2).mono ?_
    rintro e w2 ⟨⟨b, rfl, hbv⟩, hb2⟩
    have hV2 := hV1.below hb2
    have hown2 := own_below hown1 hb2
    have hbel2 := hbel1.trans (hb2.mono hbel1.size)
    clear hV1 hown1 hbel1 hb1 hb2
    rcases hrd : hexRd ⟨g.toArray⟩ with _ | x
    · rw [hrd] at HH2 hbv
      have HN : G = none := HH2.out
      clear HH2
      go_wp2
      rw [Exit.noGoto_ret]
      go_ret2
      exact ⟨⟨_, by rw [HN]; rfl, fun l h => by rw [HN] at h; cases h⟩, hbel2⟩
    · rw [hrd] at HH2 hbv
      obtain rfl := hbv x rfl
      simp only at HH2
      clear hbv hrd
      have hsz2 := hbel2.size
      have hl4 : acc.length ≤ 10 := by omega
      rcases m with _ | _
      · go_wp2_with (at_builtin; refine wpList_append_own _ rfl _ _ 58 rfl w.heap.size 5 i0 (.int .u8 0) 1 1 Tryd.underlying58 hi hz0 hz1 hz2 rfl (by decide) _ _ _ rfl (hown2.alloc _) ⟨w2.heap.size, 0, none⟩ 1 1 [.int .u8 (x : Int)] rfl rfl (cell_one_new _ _ _) (fun y hy => by simp at hy; subst hy; rfl) (by unfold maxLen; omega) (by omega) (by simp; omega) ?_; intro v' w3 hown' hgrow3 hnil3; obtain ⟨ao', cap', rfl⟩ := own_slice hown')
        · have hl := hown'.1
          have HB : Below w.heap.size w w3 := (hbel2.alloc hsz2 _).grown hgrow3 (by simp; omega) (fun q hq => (hown2.lt q hq).1)
          rcases n with _ | n
          · have HN : G = some (acc ++ [x]) := HH2.out
            have hlen : acc.length + 1 = 10 := by omega
            have hd : ((acc.length : Int) + 1 == 10) = true := by rw [beq_iff_eq]; omega
            rw [Exit.noGoto_ret, hd]
            go_ret2
            refine ⟨⟨_, by rw [HN]; rfl, fun l h => ?_⟩, HB⟩
            rw [HN] at h
            cases h
            refine ⟨by simp [hlen], ?_⟩
            rw [hlen] at hown'
            rw [List.map_append, hlen]
            exact hown'
          · have HN : G = none := by have := HH2.out; simpa using this
            have hd : ((acc.length : Int) + 1 == 10) = false := by rw [beq_eq_false_iff_ne]; omega
            rw [Exit.noGoto_ret, hd]
            go_ret2
            exact ⟨⟨_, by rw [HN]; rfl, fun l h => by rw [HN] at h; cases h⟩, HB⟩
      · rcases n with _ | n
        · have HN : G = none := by have := HH2.out; simpa using this
          have hd : ((acc.length : Int) + 1 == 10) = true := by rw [beq_iff_eq]; omega
          go_wp2_with (at_builtin; refine wpList_append_own _ rfl _ _ 58 rfl w.heap.size 5 i0 (.int .u8 0) 1 1 Tryd.underlying58 hi hz0 hz1 hz2 rfl (by decide) _ _ _ rfl (hown2.alloc _) ⟨w2.heap.size, 0, none⟩ 1 1 [.int .u8 (x : Int)] rfl rfl (cell_one_new _ _ _) (fun y hy => by simp at hy; subst hy; rfl) (by unfold maxLen; omega) (by omega) (by simp; omega) ?_; intro v' w3 hown' hgrow3 hnil3; obtain ⟨ao', cap', rfl⟩ := own_slice hown')
          · have HB : Below w.heap.size w w3 := (hbel2.alloc hsz2 _).grown hgrow3 (by simp; omega) (fun q hq => (hown2.lt q hq).1)
            rw [Exit.noGoto_ret]
            go_ret2
            exact ⟨⟨_, by rw [HN]; rfl, fun l h => by rw [HN] at h; cases h⟩, HB⟩
        · have hd : ((acc.length : Int) + 1 == 10) = false := by rw [beq_eq_false_iff_ne]; omega
          have HN : Hid (acc.length + 1 + (n + 1) = 10 ∧ r.length ≤ s.length ∧ G = (groups c hexRd (n + 1) r).map ((acc ++ [x]) ++ ·)) := Lib.hid ⟨by omega, by omega, by have := HH2.out; simpa using this⟩
          clear HH2
          go_wp2_with (at_builtin; refine wpList_append_own _ rfl _ _ 58 rfl w.heap.size 5 i0 (.int .u8 0) 1 1 Tryd.underlying58 hi hz0 hz1 hz2 rfl (by decide) _ _ _ rfl (hown2.alloc _) ⟨w2.heap.size, 0, none⟩ 1 1 [.int .u8 (x : Int)] rfl rfl (cell_one_new _ _ _) (fun y hy => by simp at hy; subst hy; rfl) (by unfold maxLen; omega) (by omega) (by simp; omega) ?_; intro v' w3 hown' hgrow3 hnil3; obtain ⟨ao', cap', rfl⟩ := own_slice hown')
          · have HB : Below w.heap.size w w3 := (hbel2.alloc hsz2 _).grown hgrow3 (by simp; omega) (fun q hq => (hown2.lt q hq).1)
            have hV3 : Vars w3 := hV.below HB
            go_roundw
            case rel => exact ⟨r, acc ++ [x], ao', cap', n, rfl, by simp, by simpa [byteV] using hown', HB, hV3, by simpa using HN⟩
            case measure => simp [sliceLen]; omega
end Go.Proofs.YtipmfcbpkbkceaaDoor
