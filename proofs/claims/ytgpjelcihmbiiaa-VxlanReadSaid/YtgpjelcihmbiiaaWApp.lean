/- Zero bytes appended to a slice of octets. No condition. -/
import Derived.Test.YtgpjelcihmbiiaaWKit
import Derived.Laws.AppendOwn
import Derived.Laws.CopyRow
namespace Go.Proofs.Ytgpjelcihmbiiaa
open Go.RowKit
set_option linter.unusedVariables false
set_option linter.unusedSimpArgs false
set_option maxRecDepth 100000

theorem info_u8 : ∃ i, Try.prog.info? 5 = some i ∧ i.zero = some (.int .u8 0) ∧ i.size = 1 ∧ i.bytes = 1 :=
  info_parts (show (Try.prog.info? 5).map (fun i => (i.zero, i.size, i.bytes)) = some (some (.int .u8 0), 1, 1) by kernel_rfl)
theorem zeros_are (m : Nat) : Builtin.zeroCells #[Value.int .u8 0] m = (List.replicate m (Value.int .u8 0)).toArray := by
  apply Array.ext
  · simp [Builtin.zeroCells]
  · intro i h1 h2
    simp [Builtin.zeroCells, Nat.mod_one]
theorem wrap_small (m : Nat) (h : m ≤ 1099511627776) : IntKind.i64.wrap (m : Int) = m := by
  simp [IntKind.wrap, IntKind.bits, IntKind.signed] <;> omega
theorem run_asInt_i64 (w : World) (m : Int) : Sem.run Try.prog (asInt (.int .i64 m)) w = .ok m w := by simp [asInt, asIntOf]
theorem run_zeros_room (w : World) (ty : TypeId) (g n cap m : Nat) (cur : Array Value) (hg : w.heap[g]? = some (.cells cur 5 (0, 0))) (hm : m ≤ 1099511627776) (hroom : n + m ≤ cap) (hcs : cur.size = cap) :
    (Builtin.append_ #[23, 3] ty #[.slice (some ⟨g, 0, none⟩) n cap, .int .i64 m]).run Try.prog w =
      .ok (.slice (some ⟨g, 0, none⟩) (n + m) cap) (w.setRow g (cur.toList.take n ++ List.replicate m (Value.int .u8 0) ++ cur.toList.drop (n + m)).toArray) := by
  obtain ⟨i, hi, hz, hs, hb⟩ := info_u8
  have hst := run_storeCells_at Try.prog g n 5 (List.replicate m (Value.int .u8 0)) 0 cur w hg (by simp; omega) (by simp [Value.oneCell'])
  simp only [Nat.add_zero, List.length_replicate] at hst
  have ht := Try.underlying23
  have hi3 := Try.underlying3
  have hw := wrap_small m hm
  have h1 : ¬ (m : Int) < 0 := by omega
  have h2 : ¬ (281474976710656 : Int) < m := by omega
  by_cases hm0 : m = 0
  · subst hm0
    simp only [List.replicate_zero, List.append_nil, Nat.add_zero] at hst hroom ⊢
    simp [Builtin.append_, run_underlying ht, run_underlying hi3, sizeOf, typeInfo, zeroValue, hi, hz, hs, hb, run_asInt_i64, show IntKind.i64.wrap 0 = 0 by decide, hroom, Addr.add_lit, hst]
  · simp [Builtin.append_, run_underlying ht, run_underlying hi3, sizeOf, typeInfo, zeroValue, hi, hz, hs, hb, run_asInt_i64, hw, h1, h2, hm0, hroom, Addr.add_lit, zeros_are, Value.cells, hst]

theorem run_zeros_grow (w : World) (ty : TypeId) (a : Option Addr) (n cap m : Nat) (olds : List Value) (hf : (Builtin.firstCells 1 n (.slice a n cap)).run Try.prog w.drew = .ok olds.toArray w.drew) (hm : n + m ≤ 1099511627776) (hroom : cap < n + m) :
    (Builtin.append_ #[23, 3] ty #[.slice a n cap, .int .i64 m]).run Try.prog w =
      .ok (.slice (some ⟨w.heap.size, 0, none⟩) (n + m) (grownCap w (n + m) cap 5)) (w.drew.alloc (.cells (olds ++ List.replicate m (Value.int .u8 0) ++ List.replicate (grownCap w (n + m) cap 5 - (n + m)) (Value.int .u8 0)).toArray 5)) := by
  obtain ⟨i, hi, hz, hs, hb⟩ := info_u8
  have ht := Try.underlying23
  have hi3 := Try.underlying3
  have hw := wrap_small m (by omega)
  have h1 : ¬ (m : Int) < 0 := by omega
  have h2 : ¬ (281474976710656 : Int) < m := by omega
  have hn : ¬ (n + m ≤ cap) := by omega
  have h63' : ¬ (9223372036854775807 < ((n : Int) + (m : Int))) := by omega
  have h48' : ¬ (281474976710656 < Builtin.nextslicecap (n + m) cap) := by
    have := growslice_fits (need := n + m) (old := cap) (bytes := 1) hroom (by omega)
    omega
  by_cases hm0 : m = 0
  · subst hm0
    simp only [List.replicate_zero, List.append_nil, Nat.add_zero] at *
    simp [Builtin.append_, run_underlying ht, run_underlying hi3, sizeOf, typeInfo, zeroValue, hi, hz, hs, hb, run_asInt_i64, show IntKind.i64.wrap 0 = 0 by decide, hn, h48', Question.forced, hf, newRow, grownCap, zeros_are, Value.cells, show ¬ (9223372036854775807 : Int) < n by omega]
    congr 2
    apply Array.ext'
    simp
  · simp [Builtin.append_, run_underlying ht, run_underlying hi3, sizeOf, typeInfo, zeroValue, hi, hz, hs, hb, run_asInt_i64, hw, h1, h2, hm0, hn, h63', h48', Question.forced, hf, newRow, grownCap, zeros_are, Value.cells]
    congr 2
    apply Array.ext'
    simp [List.append_assoc]
theorem run_zeros_nil (w : World) (ty : TypeId) : (Builtin.append_ #[23, 3] ty #[.slice none 0 0, .int .i64 0]).run Try.prog w = .ok (.slice none 0 0) w := by
  obtain ⟨i, hi, hz, hs, hb⟩ := info_u8
  have ht := Try.underlying23
  have hi3 := Try.underlying3
  simp [Builtin.append_, run_underlying ht, run_underlying hi3, sizeOf, typeInfo, zeroValue, hi, hz, hs, hb, run_asInt_i64, show IntKind.i64.wrap 0 = 0 by decide]

theorem Dat.of {w : World} {xs : List Int} {g cap n : Nat} {cs : List Value} (hn : xs.length = n) (h1 : n ≤ cap) (h2 : cap ≤ maxLen) (hb : Blk w g 5 cs) (h3 : cs.length = cap) (h4 : cs.take n = xs.map (Value.int .u8)) : Dat w (.slice (some ⟨g, 0, none⟩) n cap) xs := by
  subst hn
  exact Dat.mk h1 h2 hb h3 h4
theorem rep_map (m : Nat) : List.replicate m (Value.int .u8 0) = (List.replicate m (0 : Int)).map (Value.int .u8) := by simp
/-- m zero bytes more, wherever they come to lie. -/
theorem append_zeros (w : World) (ty : TypeId) (v : Value) (xs : List Int) (m : Nat) (hd : Dat w v xs) (hm : xs.length + m ≤ 1099511627776) :
    ∃ v' w', (Builtin.append_ #[23, 3] ty #[v, .int .i64 m]).run Try.prog w = .ok v' w' ∧ Dat w' v' (xs ++ List.replicate m 0) ∧ w.grownBy w' v.ownBlock ∧ (v'.ownBlock = v.ownBlock ∨ ∀ g, v'.ownBlock = some g → w.heap.size ≤ g) := by
  have hml : xs.length + m ≤ maxLen := by unfold maxLen; omega
  have hlen : (xs ++ List.replicate m (0 : Int)).length = xs.length + m := by simp
  have grown : ∀ (a : Option Addr) (cap : Nat) (olds : List Value), olds = xs.map (Value.int .u8) → cap < xs.length + m → (Builtin.firstCells 1 xs.length (.slice a xs.length cap)).run Try.prog w.drew = .ok olds.toArray w.drew →
      ∃ v' w', (Builtin.append_ #[23, 3] ty #[.slice a xs.length cap, .int .i64 m]).run Try.prog w = .ok v' w' ∧ Dat w' v' (xs ++ List.replicate m 0) ∧ w.grownBy w' (Value.slice a xs.length cap).ownBlock ∧ (v'.ownBlock = (Value.slice a xs.length cap).ownBlock ∨ ∀ g, v'.ownBlock = some g → w.heap.size ≤ g) := by
    intro a cap olds ho hc hf
    have hge := grownCap_ge w (xs.length + m) cap 5
    have hle := grownCap_le_maxLen w (xs.length + m) cap 5 hml
    have hol : olds.length = xs.length := by rw [ho]; simp
    refine ⟨_, _, run_zeros_grow w ty a xs.length cap m olds hf hm hc, ?_, ⟨rfl, rfl, rfl, by simp, fun k hk _ => Below.heap_alloc w.drew _ k hk⟩, .inr fun g hg => by simp only [Value.ownBlock, Option.some.injEq] at hg; omega⟩
    refine Dat.of hlen hge hle (Blk.new w.drew _ _) ?_ ?_
    · simp [hol]
      omega
    · rw [List.map_append, ← rep_map, ← ho]
      exact List.take_left' (by simp [hol])
  rcases hd.form with ⟨rfl, rfl⟩ | ⟨g, cap, cs, rfl, h1, h2, hb, h3, h4⟩
  · by_cases hm0 : m = 0
    · subst hm0
      exact ⟨_, _, run_zeros_nil w ty, Dat.nil w, ⟨rfl, rfl, rfl, Nat.le_refl _, fun _ _ _ => rfl⟩, .inl rfl⟩
    · exact grown none 0 [] rfl (by simp; omega) (by simp [Builtin.firstCells])
  · by_cases hroom : xs.length + m ≤ cap
    · have hg : w.heap[g]? = some (.cells cs.toArray 5 (0, 0)) := hb
      have hr := run_zeros_room w ty g xs.length cap m cs.toArray hg (by omega) hroom (by simpa using h3)
      refine ⟨_, _, hr, ?_, ⟨rfl, rfl, rfl, by simp [World.setRow], fun k _ hk => setRow_other w g k _ (fun e => hk (by simp [Value.ownBlock, e]))⟩, .inl rfl⟩
      refine Dat.of hlen hroom h2 (setRow_heap w g _ _ _ _ hg) ?_ ?_
      · simp
        omega
      · rw [List.map_append, ← rep_map, ← h4]
        simp only [List.append_assoc]
        rw [← List.append_assoc]
        exact List.take_left' (by simp; omega)
    · have holds : ∀ j u, (xs.map (Value.int .u8))[j]? = some u → w.drew.cell? ((⟨g, 0, none⟩ : Addr).add j) = some u := hd.cells (g := g) rfl
      exact grown _ cap _ rfl (by omega) (run_firstCells_some w.drew 1 xs.length ⟨g, 0, none⟩ xs.length cap _ (by simp) holds)
end Go.Proofs.Ytgpjelcihmbiiaa
