/- What Read of a frame answers. No condition. -/
import Derived.Test.YtgpjelcihmbiiaaPRx
import Derived.Test.YtgpjelcihmbiiaaPKt
namespace Go.Proofs.Ytgpjelcihmbiiaa
open Go.RowKit
set_option linter.unusedVariables false
set_option linter.unusedSimpArgs false
set_option maxRecDepth 100000

/-- The octets are a frame. -/
def Fram (xs : List Int) : Prop := 14 ≤ xs.length ∧ knOf (tyAt xs) = true ∧ (xs.length : Int) = szOf (kdOf (tyAt xs)) xs ∧ FL.chk (decF (kdOf (tyAt xs)) (R0 xs)) = 0 ∧ FL.enc (decF (kdOf (tyAt xs)) (R0 xs)) = xs
instance (xs : List Int) : Decidable (Fram xs) := by unfold Fram; exact inferInstance
/-- The frame that is read, the error, its position. -/
def rdF (xs : List Int) : FL := if Fram xs then decF (kdOf (tyAt xs)) (R0 xs) else F0
def rdX (xs : List Int) : Int := if xs.length < 14 then 4 else if knOf (tyAt xs) = false then 6 else if (xs.length : Int) < szOf (kdOf (tyAt xs)) xs then 4 else if szOf (kdOf (tyAt xs)) xs < (xs.length : Int) then 5 else if Fram xs then 0 else 3
def rdA (xs : List Int) : Int := if xs.length < 14 then xs.length else if knOf (tyAt xs) = false then 12 else if (xs.length : Int) < szOf (kdOf (tyAt xs)) xs then xs.length else if szOf (kdOf (tyAt xs)) xs < (xs.length : Int) then szOf (kdOf (tyAt xs)) xs else 0
def Reads (fn : Nat) (xs : List Int) (v : Value) (w : World) : Prop := Calls Try.prog fn #[v] w fun r w' => r = .returned (.tuple #[(rdF xs).v, .agg (flt (rdX xs) (rdA xs)).toArray]) ∧ Below w.heap.size w w'
section
variable {xs : List Int} {v : Value} {w : World} {fn : Nat}
theorem reads_short (h : xs.length < 14) (c : Calls Try.prog fn #[v] w fun r w' => r = .returned (.tuple #[FL.v F0, .agg (flt 4 (xs.length : Int)).toArray]) ∧ Below w.heap.size w w') : Reads fn xs v w := by
  have e1 : rdF xs = F0 := by unfold rdF; rw [if_neg (fun q : Fram xs => by have := q.1; omega)]
  have e2 : rdX xs = 4 := by unfold rdX; rw [if_pos h]
  have e3 : rdA xs = xs.length := by unfold rdA; rw [if_pos h]
  unfold Reads
  rw [e1, e2, e3]
  exact c
theorem reads_type (h : 14 ≤ xs.length) (hk : knOf (tyAt xs) = false) (c : Calls Try.prog fn #[v] w fun r w' => r = .returned (.tuple #[FL.v F0, .agg (flt 6 12).toArray]) ∧ Below w.heap.size w w') : Reads fn xs v w := by
  have e1 : rdF xs = F0 := by unfold rdF; rw [if_neg (fun q : Fram xs => by have := q.2.1; rw [hk] at this; cases this)]
  have e2 : rdX xs = 6 := by unfold rdX; rw [if_neg (by omega), if_pos hk]
  have e3 : rdA xs = 12 := by unfold rdA; rw [if_neg (by omega), if_pos hk]
  unfold Reads
  rw [e1, e2, e3]
  exact c
theorem reads_less (h : 14 ≤ xs.length) (hk : knOf (tyAt xs) = true) (hz : (xs.length : Int) < szOf (kdOf (tyAt xs)) xs) (c : Calls Try.prog fn #[v] w fun r w' => r = .returned (.tuple #[FL.v F0, .agg (flt 4 (xs.length : Int)).toArray]) ∧ Below w.heap.size w w') : Reads fn xs v w := by
  have e1 : rdF xs = F0 := by unfold rdF; rw [if_neg (fun q : Fram xs => by have := q.2.2.1; omega)]
  have e2 : rdX xs = 4 := by unfold rdX; rw [if_neg (by omega), if_neg (by simp [hk]), if_pos hz]
  have e3 : rdA xs = xs.length := by unfold rdA; rw [if_neg (by omega), if_neg (by simp [hk]), if_pos hz]
  unfold Reads
  rw [e1, e2, e3]
  exact c
theorem reads_more (h : 14 ≤ xs.length) (hk : knOf (tyAt xs) = true) (hz : szOf (kdOf (tyAt xs)) xs < (xs.length : Int)) (c : Calls Try.prog fn #[v] w fun r w' => r = .returned (.tuple #[FL.v F0, .agg (flt 5 (szOf (kdOf (tyAt xs)) xs)).toArray]) ∧ Below w.heap.size w w') : Reads fn xs v w := by
  have e1 : rdF xs = F0 := by unfold rdF; rw [if_neg (fun q : Fram xs => by have := q.2.2.1; omega)]
  have e2 : rdX xs = 5 := by unfold rdX; rw [if_neg (by omega), if_neg (by simp [hk]), if_neg (by omega), if_pos hz]
  have e3 : rdA xs = szOf (kdOf (tyAt xs)) xs := by unfold rdA; rw [if_neg (by omega), if_neg (by simp [hk]), if_neg (by omega), if_pos hz]
  unfold Reads
  rw [e1, e2, e3]
  exact c
theorem reads_bad (h : 14 ≤ xs.length) (hk : knOf (tyAt xs) = true) (hz : (xs.length : Int) = szOf (kdOf (tyAt xs)) xs) (hf : ¬ Fram xs) (c : Calls Try.prog fn #[v] w fun r w' => r = .returned (.tuple #[FL.v F0, .agg (flt 3 0).toArray]) ∧ Below w.heap.size w w') : Reads fn xs v w := by
  have e1 : rdF xs = F0 := by unfold rdF; rw [if_neg hf]
  have e2 : rdX xs = 3 := by unfold rdX; rw [if_neg (by omega), if_neg (by simp [hk]), if_neg (by omega), if_neg (by omega), if_neg hf]
  have e3 : rdA xs = 0 := by unfold rdA; rw [if_neg (by omega), if_neg (by simp [hk]), if_neg (by omega), if_neg (by omega)]
  unfold Reads
  rw [e1, e2, e3]
  exact c
theorem reads_ok (hf : Fram xs) (c : Calls Try.prog fn #[v] w fun r w' => r = .returned (.tuple #[FL.v (decF (kdOf (tyAt xs)) (R0 xs)), .agg (flt 0 0).toArray]) ∧ Below w.heap.size w w') : Reads fn xs v w := by
  obtain ⟨h, hk, hz, -⟩ := id hf
  have e1 : rdF xs = decF (kdOf (tyAt xs)) (R0 xs) := by unfold rdF; rw [if_pos hf]
  have e2 : rdX xs = 0 := by unfold rdX; rw [if_neg (by omega), if_neg (by simp [hk]), if_neg (by omega), if_neg (by omega), if_pos hf]
  have e3 : rdA xs = 0 := by unfold rdA; rw [if_neg (by omega), if_neg (by simp [hk]), if_neg (by omega), if_neg (by omega)]
  unfold Reads
  rw [e1, e2, e3]
  exact c
end
theorem read_is (xs : List Int) (ho : Oct xs) (hl : xs.length ≤ 1099511627776) (v : Value) (w : World) (hv : Seg w v xs) : Reads 17 xs v w := by
  rcases Nat.lt_or_ge xs.length 14 with h | h
  · exact reads_short h (read_short xs ho hl h v w hv)
  cases hk : knOf (tyAt xs)
  · exact reads_type h hk (read_type xs ho hl h hk v w hv)
  rcases Int.lt_trichotomy (xs.length : Int) (szOf (kdOf (tyAt xs)) xs) with hz | hz | hz
  · exact reads_less h hk hz (read_less xs ho hl h hk hz v w hv)
  · by_cases hc : FL.chk (decF (kdOf (tyAt xs)) (R0 xs)) = 0
    · by_cases he : FL.enc (decF (kdOf (tyAt xs)) (R0 xs)) = xs
      · exact reads_ok ⟨h, hk, hz, hc, he⟩ (read_ok xs ho hl h hk hz hc he v w hv)
      · exact reads_bad h hk hz (fun q => he q.2.2.2.2) (read_bad2 xs ho hl h hk hz hc he v w hv)
    · exact reads_bad h hk hz (fun q => hc q.2.2.2.1) (read_bad1 xs ho hl h hk hz hc v w hv)
  · exact reads_more h hk hz (read_more xs ho hl h hk hz v w hv)
end Go.Proofs.Ytgpjelcihmbiiaa
