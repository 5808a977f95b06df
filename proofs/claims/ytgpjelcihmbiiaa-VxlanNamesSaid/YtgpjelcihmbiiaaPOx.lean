/- PacketOnly: whatever the octets. No condition. -/
import Derived.Test.YtgpjelcihmbiiaaPOw
namespace Go.Proofs.Ytgpjelcihmbiiaa
open Go.RowKit
set_option linter.unusedVariables false
set_option maxRecDepth 100000

theorem only_is (xs : List Int) (ho : Oct xs) (v : Value) (w : World) (hv : Seg w v xs) (cut : Int) (hcut : -9223372036854775808 ≤ cut ∧ cut ≤ 9223372036854775807) (zs : List Int) (hoz : Oct zs) (u : Value) (hu : Seg w u zs) :
    Calls Try.prog 7 #[v, .int .i64 cut, u] w fun r w' => r = .returned (.bool true) ∧ Below w.heap.size w w' := by
  by_cases h1 : 300 < xs.length
  · exact only_big1 xs ho v cut zs u w hv hu h1
  by_cases h2 : 300 < zs.length
  · exact only_big2 xs ho v cut zs u w hv hu (by omega) h2
  by_cases hP : ∃ f : FL, f.Ok ∧ f.chk = 0 ∧ f.enc = xs
  · obtain ⟨f, hf, hc, rfl⟩ := hP
    have hl := (dec_enc hf hc).2.2.2.1
    by_cases hz : zs.length = 0
    · have h0 : zs = [] := List.length_eq_zero_iff.1 hz
      exact only_e f.enc ho v cut zs u w hv hu f f.enc.length rfl (by omega) hcut (by omega) (by omega) hz
        (fun w' v h => read_enc hf hc v w' h) (fun w' => bytes_ok f hf hc w') (fun w' v c hcl h => read_cut f hf hc c hcl v w' h) (fun w' v h => read_enc hf hc v w' (by rw [h0, List.append_nil] at h; exact h))
    · exact only_n f.enc ho v cut zs u w hv hu f f.enc.length rfl (by omega) hcut (by omega) (by omega) (by omega)
        (fun w' v h => read_enc hf hc v w' h) (fun w' => bytes_ok f hf hc w') (fun w' v c hcl h => read_cut f hf hc c hcl v w' h) (fun w' v h => read_long f hf hc zs (by omega) hoz (by omega) v w' h)
  · refine only_bad xs ho v cut zs u w hv hu (by omega) (by omega) fun w' v' h => ?_
    refine (read_any xs ho (by omega) v' w' h).mono fun r w'' hq => ⟨?_, hq.2⟩
    obtain ⟨f, e, a, hr, hd⟩ := hq.1
    rcases hd with ⟨p1, p2, p3, p4⟩ | ⟨p1, p2, p3, p4, p5, p6⟩
    · subst p2
      exact ⟨e, a, hr, p1, p3, p4⟩
    · exact absurd ⟨f, p3, p4, p5⟩ hP
end Go.Proofs.Ytgpjelcihmbiiaa
