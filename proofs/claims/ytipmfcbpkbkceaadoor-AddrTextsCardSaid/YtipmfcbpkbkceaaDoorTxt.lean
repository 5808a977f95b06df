/- MACText, IPText, ESIText. The tables that strconv reads are as the program lays them. -/
import Derived.Test.YtipmfcbpkbkceaaDoorWri
namespace Go.Proofs.YtipmfcbpkbkceaaDoor
open Go.RowKit Go.Shelf Go.Sort
set_option linter.unusedVariables false
set_option linter.unusedSimpArgs false

theorem hexTxt_len (b : Nat) (_ : b < 256) : (hexTxt b).length ≤ 3 := by simp [hexTxt]
theorem decTxt_len : ∀ b, b < 256 → (decTxt b).length ≤ 3 := by decide +kernel

def macStr (m : Int) : ByteArray := strOfNums ((wrt 58 hexTxt (fun i => (bytMAC m i).toNat) (upto finMAC 6)).map (fun b : Nat => (b : Int)))
def ipStr (m : Int) : ByteArray := strOfNums ((wrt 46 decTxt (fun i => (bytIP m i).toNat) (upto finIP 4)).map (fun b : Nat => (b : Int)))
def esiStr (e : Nat → Int) : ByteArray := strOfNums ((wrt 58 hexTxt (fun i => (e i).toNat) (upto fin 10)).map (fun b : Nat => (b : Int)))

theorem validMAC_is (m : Int) (w : World) : Calls Tryd.prog 26 #[.int .u64 m] w fun e w' => e = .returned (.bool (decide (m ≤ 281474976710655))) ∧ w' = w := by
  go_enter Tryd.func26, Tryd.ntmps26
  go_wp2
  go_ret
  exact ⟨rfl, rfl⟩

set_option maxHeartbeats 2000000 in
theorem macText_yes (m : Int) (h0 : 0 ≤ m) (h1 : m ≤ 281474976710655) (w : World) (hT : Tabs w) :
    Calls Tryd.prog 9 #[.int .u64 m] w fun e w' => e = .returned (.tuple #[.string (macStr m), .int .i64 0]) ∧ Below w.heap.size w w' := by
  have hb2 : Below w.heap.size w ((w.alloc (.cells #[.int .u64 m] 25)).alloc (.cells #[.int .i64 6] 3)) := ((Below.refl _ w).alloc (Nat.le_refl _) _).alloc (by simp) _
  have c0 := ((Boxed.new w 25 (.int .u64 m)).alloc (.cells #[.int .i64 6] 3)).cell
  have c1 := (Boxed.new (w.alloc (.cells #[.int .u64 m] 25)) 3 (.int .i64 6)).cell
  rw [World.size_alloc] at c1
  have hW := writeMAC_any w.heap.size m h0 _ (by simp) c0 c1 (hT.below hb2) hexTxt hexTxt_len appendHex_is
  have HW := Lib.hid hW; have HB := Lib.hid hb2
  clear hW hb2 c0 c1 hT
  go_enter Tryd.func9, Tryd.ntmps9
  go_wp2_with (first
    | (go_at_call 26; refine (validMAC_is m _).mono ?_; rintro e w' ⟨rfl, rfl⟩)
    | (go_at_call 27; refine (partsMAC_any m 6 _).mono ?_; rintro e w' ⟨rfl, rfl⟩)
    | (go_at_call 19; refine HW.out.mono ?_; rintro e w' ⟨rfl, hb⟩))
  go_ret2
  exact ⟨rfl, HB.out.trans (hb.mono (by simp; omega))⟩

theorem macText_no (m : Int) (h1 : ¬ m ≤ 281474976710655) (w : World) :
    Calls Tryd.prog 9 #[.int .u64 m] w fun e w' => e = .returned (.tuple #[.string ⟨#[]⟩, .int .i64 2]) ∧ Below w.heap.size w w' := by
  have hv := validMAC_is m w
  rw [decide_eq_false h1] at hv
  clear h1
  go_enter Tryd.func9, Tryd.ntmps9
  go_wp2_with (go_at_call 26; refine hv.mono ?_; rintro e w' ⟨rfl, rfl⟩)
  go_ret2
  exact ⟨rfl, Below.refl _ _⟩

set_option maxHeartbeats 2000000 in
theorem ipText_is (m : Int) (h0 : 0 ≤ m) (w : World) (hT : Tabs w) :
    Calls Tryd.prog 6 #[.int .u32 m] w fun e w' => e = .returned (.string (ipStr m)) ∧ Below w.heap.size w w' := by
  have hb2 : Below w.heap.size w ((w.alloc (.cells #[.int .u32 m] 23)).alloc (.cells #[.int .i64 4] 3)) := ((Below.refl _ w).alloc (Nat.le_refl _) _).alloc (by simp) _
  have c0 := ((Boxed.new w 23 (.int .u32 m)).alloc (.cells #[.int .i64 4] 3)).cell
  have c1 := (Boxed.new (w.alloc (.cells #[.int .u32 m] 23)) 3 (.int .i64 4)).cell
  rw [World.size_alloc] at c1
  have hW := writeIP_any w.heap.size m h0 _ (by simp) c0 c1 (hT.below hb2) decTxt decTxt_len appendDecimal_is
  have HW := Lib.hid hW; have HB := Lib.hid hb2
  clear hW hb2 c0 c1 hT
  go_enter Tryd.func6, Tryd.ntmps6
  go_wp2_with (first
    | (go_at_call 20; refine (partsIP_any m 4 _).mono ?_; rintro e w' ⟨rfl, rfl⟩)
    | (go_at_call 19; refine HW.out.mono ?_; rintro e w' ⟨rfl, hb⟩))
  go_ret
  exact ⟨rfl, HB.out.trans (hb.mono (by simp; omega))⟩

theorem cells10 (w : World) (e : Nat → Int) (T : TypeId) : ∀ j, j < 10 → (w.alloc (.cells #[.int .u8 (e 0), .int .u8 (e 1), .int .u8 (e 2), .int .u8 (e 3), .int .u8 (e 4), .int .u8 (e 5), .int .u8 (e 6), .int .u8 (e 7), .int .u8 (e 8), .int .u8 (e 9)] T)).cell? ⟨w.heap.size, j, none⟩ = some (.int .u8 (e j)) := by
  intro j hj
  rw [World.cell?_alloc_at _ _ _ _ rfl]
  rcases j with _ | _ | _ | _ | _ | _ | _ | _ | _ | _ | j <;> first | rfl | omega

set_option maxHeartbeats 4000000 in
set_option maxRecDepth 100000 in
theorem esiText_is (e : Nat → Int) (hbd : ∀ j, 0 ≤ e j ∧ e j < 256) (w : World) (hT : Tabs w) :
    Calls Tryd.prog 8 #[.agg #[.int .u8 (e 0), .int .u8 (e 1), .int .u8 (e 2), .int .u8 (e 3), .int .u8 (e 4), .int .u8 (e 5), .int .u8 (e 6), .int .u8 (e 7), .int .u8 (e 8), .int .u8 (e 9)]] w fun r w' => r = .returned (.string (esiStr e)) ∧ Below w.heap.size w w' := by
  have hb2 : Below w.heap.size w ((w.alloc (.cells #[.int .u8 (e 0), .int .u8 (e 1), .int .u8 (e 2), .int .u8 (e 3), .int .u8 (e 4), .int .u8 (e 5), .int .u8 (e 6), .int .u8 (e 7), .int .u8 (e 8), .int .u8 (e 9)] 29)).alloc (.cells #[.int .u8 (e 0), .int .u8 (e 1), .int .u8 (e 2), .int .u8 (e 3), .int .u8 (e 4), .int .u8 (e 5), .int .u8 (e 6), .int .u8 (e 7), .int .u8 (e 8), .int .u8 (e 9)] 29)) := ((Below.refl _ w).alloc (Nat.le_refl _) _).alloc (by simp) _
  have c1 := cells10 (w.alloc (.cells #[.int .u8 (e 0), .int .u8 (e 1), .int .u8 (e 2), .int .u8 (e 3), .int .u8 (e 4), .int .u8 (e 5), .int .u8 (e 6), .int .u8 (e 7), .int .u8 (e 8), .int .u8 (e 9)] 29)) e 29
  rw [World.size_alloc] at c1
  have hW := writeESI_any (w.heap.size + 1) e hbd _ (by simp) c1 (hT.below hb2) hexTxt hexTxt_len appendHex_is
  have HW := Lib.hid hW; have HB := Lib.hid hb2
  clear hW hb2 c1 hT hbd
  go_enter Tryd.func8, Tryd.ntmps8
  go_wp2_with (first
    | (go_at_call 24; refine (octets_any e _).mono ?_; rintro x w' ⟨rfl, rfl⟩)
    | (go_at_call 19; refine HW.out.mono ?_; rintro x w' ⟨rfl, hb⟩))
  go_ret
  exact ⟨rfl, HB.out.trans (hb.mono (by simp; omega))⟩
end Go.Proofs.YtipmfcbpkbkceaaDoor
