/- The comparison of two communities, and the library's sort by it. No condition. -/
import Derived.Test.YtmajalobkcnobaaDoorCAp
import Derived.Lib.Bytealg
import Derived.Lib.BytesEntry
namespace Go.Proofs.YtmajalobkcnobaaDoor
open Go.RowKit Go.Sort Go.Shelf Go.Lib
set_option linter.unusedVariables false
set_option linter.unusedSimpArgs false
set_option maxRecDepth 100000

/-- Its bytes, as letters. -/
def cb (e : Nat → Int) : List UInt8 := Lib.bytesOf [e 0, e 1, e 2, e 3, e 4, e 5, e 6, e 7]
def cmpC (e f : Nat → Int) : Int := Lib.compareBytes (cb e) (cb f)
theorem ext_cmp (w : World) (b1 b2 c1 c2 : Nat) (e f : Nat → Int) (h1 : ∀ j, j < 8 → w.cell? ⟨b1, j, none⟩ = some (.int .u8 (e j))) (h2 : ∀ j, j < 8 → w.cell? ⟨b2, j, none⟩ = some (.int .u8 (f j))) :
    (Extern.BytealgCompare.compare #[.slice (some ⟨b1, 0, none⟩) 8 c1, .slice (some ⟨b2, 0, none⟩) 8 c2]).run Tryd.prog w = .ok (.int .i64 (cmpC e f)) w := by
  change Sem.run Tryd.prog (do pure (goInt (Extern.BytealgCompare.cmp (← Extern.Bytes.bytesOf (.slice (some ⟨b1, 0, none⟩) 8 c1)) (← Extern.Bytes.bytesOf (.slice (some ⟨b2, 0, none⟩) 8 c2))))) w = _
  have key : ∀ (b c : Nat) (g : Nat → Int), (∀ j, j < 8 → w.cell? ⟨b, j, none⟩ = some (.int .u8 (g j))) → ∃ s : ByteArray, (Extern.Bytes.bytesOf (.slice (some ⟨b, 0, none⟩) 8 c)).run Tryd.prog w = .ok s w ∧ s.data.toList = cb g := by
    intro b c g h
    have hl := Lib.run_loadBytesX (P := Tryd.prog) w [g 0, g 1, g 2, g 3, g 4, g 5, g 6, g 7] ⟨b, 0, none⟩ .empty (fun j x hj => by
      have hj8 : j < 8 := by
        rcases Nat.lt_or_ge j 8 with q | q
        · exact q
        · rw [List.getElem?_eq_none (by simpa using q)] at hj
          cases hj
      have hc := h j hj8
      rw [Addr.add_mid, Nat.zero_add, hc]
      rcases j with _ | _ | _ | _ | _ | _ | _ | _ | j
      all_goals first | omega | (simp at hj; rw [hj]))
    exact ⟨_, hl, by simp [cb]⟩
  obtain ⟨s1, r1, e1⟩ := key b1 c1 e h1
  obtain ⟨s2, r2, e2⟩ := key b2 c2 f h2
  simp only [Sem.run_bind, r1, r2, Result.andThen_ok, Sem.run_pure]
  rw [Lib.cmp_eq, e1, e2]
  rfl
theorem bcmp (e f : Nat → Int) (b1 b2 c1 c2 : Nat) (w : World) (h1 : ∀ j, j < 8 → w.cell? ⟨b1, j, none⟩ = some (.int .u8 (e j))) (h2 : ∀ j, j < 8 → w.cell? ⟨b2, j, none⟩ = some (.int .u8 (f j))) :
    Calls Tryd.prog 59 #[.slice (some ⟨b1, 0, none⟩) 8 c1, .slice (some ⟨b2, 0, none⟩) 8 c2] w fun r w' => r = .returned (.int .i64 (cmpC e f)) ∧ w' = w := by
  have hx := ext_cmp w b1 b2 c1 c2 e f h1 h2
  generalize cmpC e f = c at hx ⊢
  clear h1 h2
  go_enter Tryd.func59, Tryd.ntmps59
  go_wp2
  rw [run_callFunc_extern Tryd.func77 (by kernel_rfl) (by kernel_rfl) (by kernel_rfl) (e := Extern.BytealgCompare.compare) (by kernel_rfl), hx]
  simp only [Result.andThen]
  rw [Oper.upon_value]
  go_wp2
  go_ret
  exact ⟨rfl, rfl⟩

set_option maxHeartbeats 1000000 in
theorem closure (e f : Nat → Int) (w : World) : Calls Tryd.prog 58 #[.agg #[.int .u8 (e 0), .int .u8 (e 1), .int .u8 (e 2), .int .u8 (e 3), .int .u8 (e 4), .int .u8 (e 5), .int .u8 (e 6), .int .u8 (e 7)], .agg #[.int .u8 (f 0), .int .u8 (f 1), .int .u8 (f 2), .int .u8 (f 3), .int .u8 (f 4), .int .u8 (f 5), .int .u8 (f 6), .int .u8 (f 7)]] w fun r w' => r = .returned (.int .i64 (cmpC e f)) ∧ ∃ q os', w' = grow (w.drewN q) os' := by
  have h1 := (Bx.new w e 24).below ((Below.refl _ _).alloc (Nat.le_refl _) (.cells #[.int .u8 (f 0), .int .u8 (f 1), .int .u8 (f 2), .int .u8 (f 3), .int .u8 (f 4), .int .u8 (f 5), .int .u8 (f 6), .int .u8 (f 7)] 24)) (by simp)
  have h2 := Bx.new (w.alloc (.cells #[.int .u8 (e 0), .int .u8 (e 1), .int .u8 (e 2), .int .u8 (e 3), .int .u8 (e 4), .int .u8 (e 5), .int .u8 (e 6), .int .u8 (e 7)] 24)) f 24
  have hz : (w.alloc (.cells #[.int .u8 (e 0), .int .u8 (e 1), .int .u8 (e 2), .int .u8 (e 3), .int .u8 (e 4), .int .u8 (e 5), .int .u8 (e 6), .int .u8 (e 7)] 24)).heap.size = w.heap.size + 1 := by simp
  rw [hz] at h2
  have H1 := Lib.hid (bx_at h1)
  have H2 := Lib.hid (bx_at h2)
  have hw : ((w.alloc (.cells #[.int .u8 (e 0), .int .u8 (e 1), .int .u8 (e 2), .int .u8 (e 3), .int .u8 (e 4), .int .u8 (e 5), .int .u8 (e 6), .int .u8 (e 7)] 24)).alloc (.cells #[.int .u8 (f 0), .int .u8 (f 1), .int .u8 (f 2), .int .u8 (f 3), .int .u8 (f 4), .int .u8 (f 5), .int .u8 (f 6), .int .u8 (f 7)] 24)) = grow w #[(.cells #[.int .u8 (e 0), .int .u8 (e 1), .int .u8 (e 2), .int .u8 (e 3), .int .u8 (e 4), .int .u8 (e 5), .int .u8 (e 6), .int .u8 (e 7)] 24), (.cells #[.int .u8 (f 0), .int .u8 (f 1), .int .u8 (f 2), .int .u8 (f 3), .int .u8 (f 4), .int .u8 (f 5), .int .u8 (f 6), .int .u8 (f 7)] 24)] := by rw [alloc_eq_grow, alloc_eq_grow, grow_grow]; rfl
  have HW := Lib.hid hw
  clear h1 h2 hz hw
  go_enter Tryd.func58, Tryd.ntmps58
  go_wp2_with fail
  generalize ((w.alloc (.cells #[.int .u8 (e 0), .int .u8 (e 1), .int .u8 (e 2), .int .u8 (e 3), .int .u8 (e 4), .int .u8 (e 5), .int .u8 (e 6), .int .u8 (e 7)] 24)).alloc (.cells #[.int .u8 (f 0), .int .u8 (f 1), .int .u8 (f 2), .int .u8 (f 3), .int .u8 (f 4), .int .u8 (f 5), .int .u8 (f 6), .int .u8 (f 7)] 24)) = w2 at H1 H2 HW ⊢
  go_quiet ((go_at_call 59; exact Calls.quiet_of_same (bcmp e f _ _ _ _ _ (fun j hj => H1.out j hj) (fun j hj => H2.out j hj))))
  go_wp2
  go_ret
  refine ⟨rfl, nq, #[(.cells #[.int .u8 (e 0), .int .u8 (e 1), .int .u8 (e 2), .int .u8 (e 3), .int .u8 (e 4), .int .u8 (e 5), .int .u8 (e 6), .int .u8 (e 7)] 24), (.cells #[.int .u8 (f 0), .int .u8 (f 1), .int .u8 (f 2), .int .u8 (f 3), .int .u8 (f 4), .int .u8 (f 5), .int .u8 (f 6), .int .u8 (f 7)] 24)], ?_⟩
  rw [HW.out]
  rfl
end Go.Proofs.YtmajalobkcnobaaDoor
