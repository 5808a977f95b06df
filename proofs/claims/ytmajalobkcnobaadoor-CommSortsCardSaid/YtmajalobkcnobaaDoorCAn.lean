/- Each constructor by one contract, the program's and the reference's. No condition. -/
import Derived.Test.YtmajalobkcnobaaDoorCIm
import Derived.Test.YtmajalobkcnobaaDoorCRk
import Derived.Test.YtmajalobkcnobaaDoorCLi
namespace Go.Proofs.YtmajalobkcnobaaDoor
open Go.RowKit Go.Sort
set_option linter.unusedVariables false
set_option linter.unusedSimpArgs false
set_option maxRecDepth 100000

def encapE (a : Int) : Nat → Int := if 0 ≤ a ∧ a ≤ 65535 then mk 3 12 a else fun _ => 0
def encapC (a : Int) : Int := if 0 ≤ a ∧ a ≤ 65535 then 0 else 2
theorem encap_any (a : Int) (ha : -9223372036854775808 ≤ a ∧ a ≤ 9223372036854775807) (w : World) (hK : KI w) : Calls Tryd.prog 11 #[.int .i64 a] w fun r w' => r = .returned (.tuple #[.agg #[.int .u8 (encapE a 0), .int .u8 (encapE a 1), .int .u8 (encapE a 2), .int .u8 (encapE a 3), .int .u8 (encapE a 4), .int .u8 (encapE a 5), .int .u8 (encapE a 6), .int .u8 (encapE a 7)], .int .i64 (encapC a)]) ∧ Below w.heap.size w w' := by
  by_cases h : 0 ≤ a ∧ a ≤ 65535
  · have e1 : encapE a = mk 3 12 a := if_pos h
    have e2 : encapC a = 0 := if_pos h
    rw [e1, e2]
    exact encap_is a h.1 h.2 w hK
  · have e1 : encapE a = (fun _ : Nat => (0 : Int)) := if_neg h
    have e2 : encapC a = 2 := if_neg h
    rw [e1, e2]
    exact encap_no a (by omega) w
theorem rencap_any (a : Int) (ha : -9223372036854775808 ≤ a ∧ a ≤ 9223372036854775807) (w : World) : Calls Tryd.prog 20 #[.int .i64 a] w fun r w' => r = .returned (.tuple #[.agg #[.int .u8 (encapE a 0), .int .u8 (encapE a 1), .int .u8 (encapE a 2), .int .u8 (encapE a 3), .int .u8 (encapE a 4), .int .u8 (encapE a 5), .int .u8 (encapE a 6), .int .u8 (encapE a 7)], .int .i64 (encapC a)]) ∧ Below w.heap.size w w' := by
  by_cases h : 0 ≤ a ∧ a ≤ 65535
  · have e1 : encapE a = mk 3 12 a := if_pos h
    have e2 : encapC a = 0 := if_pos h
    rw [e1, e2]
    exact rencap_is a h.1 h.2 w
  · have e1 : encapE a = (fun _ : Nat => (0 : Int)) := if_neg h
    have e2 : encapC a = 2 := if_neg h
    rw [e1, e2]
    by_cases h0 : a < 0
    · exact rencap_lo a h0 w
    · exact rencap_hi a (by omega) (by omega) w

def labelE (b : Bool) (n : Int) : Nat → Int := if n ≤ 16777215 then mk 6 1 (fl b + n) else fun _ => 0
def labelC (b : Bool) (n : Int) : Int := if n ≤ 16777215 then 0 else 2
theorem label_any (b : Bool) (n : Int) (hn : 0 ≤ n ∧ n < 4294967296) (w : World) (hK : KI w) : Calls Tryd.prog 10 #[.bool b, .int .u32 n] w fun r w' => r = .returned (.tuple #[.agg #[.int .u8 (labelE b n 0), .int .u8 (labelE b n 1), .int .u8 (labelE b n 2), .int .u8 (labelE b n 3), .int .u8 (labelE b n 4), .int .u8 (labelE b n 5), .int .u8 (labelE b n 6), .int .u8 (labelE b n 7)], .int .i64 (labelC b n)]) ∧ Below w.heap.size w w' := by
  by_cases h : n ≤ 16777215
  · have e1 : labelE b n = mk 6 1 (fl b + n) := if_pos h
    have e2 : labelC b n = 0 := if_pos h
    rw [e1, e2]
    exact label_is b n hn.1 h w hK
  · have e1 : labelE b n = (fun _ : Nat => (0 : Int)) := if_neg h
    have e2 : labelC b n = 2 := if_neg h
    rw [e1, e2]
    exact label_no b n (by omega) w
theorem rlabel_any (b : Bool) (n : Int) (hn : 0 ≤ n ∧ n < 4294967296) (w : World) : Calls Tryd.prog 21 #[.bool b, .int .u32 n] w fun r w' => r = .returned (.tuple #[.agg #[.int .u8 (labelE b n 0), .int .u8 (labelE b n 1), .int .u8 (labelE b n 2), .int .u8 (labelE b n 3), .int .u8 (labelE b n 4), .int .u8 (labelE b n 5), .int .u8 (labelE b n 6), .int .u8 (labelE b n 7)], .int .i64 (labelC b n)]) ∧ Below w.heap.size w w' := by
  by_cases h : n ≤ 16777215
  · have e1 : labelE b n = mk 6 1 (fl b + n) := if_pos h
    have e2 : labelC b n = 0 := if_pos h
    rw [e1, e2]
    exact rlabel_is b n hn.1 h w
  · have e1 : labelE b n = (fun _ : Nat => (0 : Int)) := if_neg h
    have e2 : labelC b n = 2 := if_neg h
    rw [e1, e2]
    exact rlabel_no b n (by omega) w

def importE (m : Int) : Nat → Int := if m ≤ 281474976710655 then mk 6 2 m else fun _ => 0
def importC (m : Int) : Int := if m ≤ 281474976710655 then 0 else 2
theorem import_any (m : Int) (hm : 0 ≤ m) (w : World) (hK : KI w) : Calls Tryd.prog 12 #[.int .u64 m] w fun r w' => r = .returned (.tuple #[.agg #[.int .u8 (importE m 0), .int .u8 (importE m 1), .int .u8 (importE m 2), .int .u8 (importE m 3), .int .u8 (importE m 4), .int .u8 (importE m 5), .int .u8 (importE m 6), .int .u8 (importE m 7)], .int .i64 (importC m)]) ∧ Below w.heap.size w w' := by
  by_cases h : m ≤ 281474976710655
  · have e1 : importE m = mk 6 2 m := if_pos h
    have e2 : importC m = 0 := if_pos h
    rw [e1, e2]
    exact import_is m hm h w hK
  · have e1 : importE m = (fun _ : Nat => (0 : Int)) := if_neg h
    have e2 : importC m = 2 := if_neg h
    rw [e1, e2]
    exact import_no m (by omega) w hK
theorem rimport_any (m : Int) (hm : 0 ≤ m) (w : World) : Calls Tryd.prog 22 #[.int .u64 m] w fun r w' => r = .returned (.tuple #[.agg #[.int .u8 (importE m 0), .int .u8 (importE m 1), .int .u8 (importE m 2), .int .u8 (importE m 3), .int .u8 (importE m 4), .int .u8 (importE m 5), .int .u8 (importE m 6), .int .u8 (importE m 7)], .int .i64 (importC m)]) ∧ Below w.heap.size w w' := by
  by_cases h : m ≤ 281474976710655
  · have e1 : importE m = mk 6 2 m := if_pos h
    have e2 : importC m = 0 := if_pos h
    rw [e1, e2]
    exact rimport_is m hm h w
  · have e1 : importE m = (fun _ : Nat => (0 : Int)) := if_neg h
    have e2 : importC m = 2 := if_neg h
    rw [e1, e2]
    exact rimport_no m (by omega) w

def routerE (m : Int) : Nat → Int := if m ≤ 281474976710655 then mk 6 3 m else fun _ => 0
def routerC (m : Int) : Int := if m ≤ 281474976710655 then 0 else 2
theorem router_any (m : Int) (hm : 0 ≤ m) (w : World) (hK : KI w) : Calls Tryd.prog 13 #[.int .u64 m] w fun r w' => r = .returned (.tuple #[.agg #[.int .u8 (routerE m 0), .int .u8 (routerE m 1), .int .u8 (routerE m 2), .int .u8 (routerE m 3), .int .u8 (routerE m 4), .int .u8 (routerE m 5), .int .u8 (routerE m 6), .int .u8 (routerE m 7)], .int .i64 (routerC m)]) ∧ Below w.heap.size w w' := by
  by_cases h : m ≤ 281474976710655
  · have e1 : routerE m = mk 6 3 m := if_pos h
    have e2 : routerC m = 0 := if_pos h
    rw [e1, e2]
    exact router_is m hm h w hK
  · have e1 : routerE m = (fun _ : Nat => (0 : Int)) := if_neg h
    have e2 : routerC m = 2 := if_neg h
    rw [e1, e2]
    exact router_no m (by omega) w hK
theorem rrouter_any (m : Int) (hm : 0 ≤ m) (w : World) : Calls Tryd.prog 23 #[.int .u64 m] w fun r w' => r = .returned (.tuple #[.agg #[.int .u8 (routerE m 0), .int .u8 (routerE m 1), .int .u8 (routerE m 2), .int .u8 (routerE m 3), .int .u8 (routerE m 4), .int .u8 (routerE m 5), .int .u8 (routerE m 6), .int .u8 (routerE m 7)], .int .i64 (routerC m)]) ∧ Below w.heap.size w w' := by
  by_cases h : m ≤ 281474976710655
  · have e1 : routerE m = mk 6 3 m := if_pos h
    have e2 : routerC m = 0 := if_pos h
    rw [e1, e2]
    exact rrouter_is m hm h w
  · have e1 : routerE m = (fun _ : Nat => (0 : Int)) := if_neg h
    have e2 : routerC m = 2 := if_neg h
    rw [e1, e2]
    exact rrouter_no m (by omega) w

def electionE (a p : Int) : Nat → Int := if (0 ≤ a ∧ a ≤ 31) ∧ (0 ≤ p ∧ p ≤ 65535) then mk 6 6 (a * 1099511627776 + p) else fun _ => 0
def electionC (a p : Int) : Int := if (0 ≤ a ∧ a ≤ 31) ∧ (0 ≤ p ∧ p ≤ 65535) then 0 else 2
theorem election_any (a p : Int) (ha : -9223372036854775808 ≤ a) (w : World) (hK : KI w) : Calls Tryd.prog 14 #[.int .i64 a, .int .i64 p] w fun r w' => r = .returned (.tuple #[.agg #[.int .u8 (electionE a p 0), .int .u8 (electionE a p 1), .int .u8 (electionE a p 2), .int .u8 (electionE a p 3), .int .u8 (electionE a p 4), .int .u8 (electionE a p 5), .int .u8 (electionE a p 6), .int .u8 (electionE a p 7)], .int .i64 (electionC a p)]) ∧ Below w.heap.size w w' := by
  by_cases h : (0 ≤ a ∧ a ≤ 31) ∧ (0 ≤ p ∧ p ≤ 65535)
  · have e1 : electionE a p = mk 6 6 (a * 1099511627776 + p) := if_pos h
    have e2 : electionC a p = 0 := if_pos h
    rw [e1, e2]
    exact election_is a p h.1.1 h.1.2 h.2.1 h.2.2 w hK
  · have e1 : electionE a p = (fun _ : Nat => (0 : Int)) := if_neg h
    have e2 : electionC a p = 2 := if_neg h
    rw [e1, e2]
    by_cases h0 : 0 ≤ a ∧ a ≤ 31
    · exact election_pref a p h0.1 h0.2 (by omega) w
    · exact election_alg a p (by omega) w
theorem relection_any (a p : Int) (ha : -9223372036854775808 ≤ a) (w : World) : Calls Tryd.prog 24 #[.int .i64 a, .int .i64 p] w fun r w' => r = .returned (.tuple #[.agg #[.int .u8 (electionE a p 0), .int .u8 (electionE a p 1), .int .u8 (electionE a p 2), .int .u8 (electionE a p 3), .int .u8 (electionE a p 4), .int .u8 (electionE a p 5), .int .u8 (electionE a p 6), .int .u8 (electionE a p 7)], .int .i64 (electionC a p)]) ∧ Below w.heap.size w w' := by
  by_cases h : (0 ≤ a ∧ a ≤ 31) ∧ (0 ≤ p ∧ p ≤ 65535)
  · have e1 : electionE a p = mk 6 6 (a * 1099511627776 + p) := if_pos h
    have e2 : electionC a p = 0 := if_pos h
    rw [e1, e2]
    exact relection_is a p h.1.1 h.1.2 h.2.1 h.2.2 w
  · have e1 : electionE a p = (fun _ : Nat => (0 : Int)) := if_neg h
    have e2 : electionC a p = 2 := if_neg h
    rw [e1, e2]
    by_cases h0 : a < 0
    · exact relection_no1 a p h0 w
    · by_cases h1 : 31 < a
      · exact relection_no2 a p (by omega) h1 w
      · by_cases h2 : p < 0
        · exact relection_no3 a p (by omega) (by omega) h2 w
        · exact relection_no4 a p (by omega) (by omega) (by omega) (by omega) w
end Go.Proofs.YtmajalobkcnobaaDoor
