/- The walk of PlainEach. -/
import Derived.Test.YtjacoifhjfipaabAl
namespace Go.Proofs.Ytjacoifhjfipaab
open Go.RowKit Ln
set_option linter.unusedVariables false
set_option linter.unusedSimpArgs false
set_option maxRecDepth 100000

set_option maxHeartbeats 4000000 in
theorem each_walk (n m : Nat) (hn : n < 256) (hm : m < 256) (w : World) : Calls Try.prog 3 #[.int .u8 (n : Nat), .int .u8 (m : Nat)] w fun e w' => e = .returned (.bool true) ∧ Below w.heap.size w w' := by
  have ho := of_sgn hn
  have hr := rn_sgn hn
  have hof := fun W => ofC (sgn n) (by rcases hr with h | h <;> omega) (by rcases hr with h | h <;> omega) W
  rw [ho.1, ho.2] at hof
  have hi := sgn_inj hn hm
  have s1 := signC n hn
  have s2 := signC m hm
  have hnm : ((sgn n == sgn m) == ((n : Int) == (m : Int))) = true := by
    by_cases e : n = m
    · subst e; simp
    · have e2 : ¬ sgn n = sgn m := fun h => e (hi.1 h)
      have e3 : ¬ (n : Int) = (m : Int) := by omega
      rw [beq_false_of_ne e2, beq_false_of_ne e3]; rfl
  generalize sgn n = p at *
  generalize sgn m = q at *
  clear ho hr hi
  go_enter Try.func3, Try.ntmps3
  go_wp2_with (first
    | (go_at_call 5; refine (aliveC w).mono ?_; rintro e w1 ⟨rfl, g1⟩)
    | (go_at_call 6; (fail_if_success (guard_hyp mk)); refine (s1 w1).mono ?_; rintro e w2 ⟨rfl, hw2⟩; subst w2; have mk : True := trivial)
    | (go_at_call 6; guard_hyp mk; refine (s2 w1).mono ?_; rintro e w2 ⟨rfl, hw2⟩; subst w2)
    | (go_at_call 7; refine (hof w1).mono ?_; rintro e w2 ⟨rfl, hw2⟩; subst w2)
    | go_in)
  go_ret
  exact ⟨rfl, gb_below g1⟩
end Go.Proofs.Ytjacoifhjfipaab
