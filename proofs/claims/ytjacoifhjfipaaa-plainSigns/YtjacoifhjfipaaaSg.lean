/- The walk of PlainSigns. -/
import Derived.Test.YtjacoifhjfipaaaAl
namespace Go.Proofs.Ytjacoifhjfipaaa
open Go.RowKit Ln
set_option linter.unusedVariables false
set_option linter.unusedSimpArgs false
set_option maxRecDepth 100000

set_option maxHeartbeats 4000000 in
theorem signs_walk (n : Nat) (r : Int) (hn : n < 256) (h0 : -2147483648 ≤ r ∧ r ≤ 2147483647) (w : World) : Calls Try.prog 4 #[.int .u8 (n : Nat), .int .i32 r] w fun e w' => e = .returned (.bool true) ∧ Below w.heap.size w w' := by
  go_enter Try.func4, Try.ntmps4
  go_wp2_with (first
    | (go_at_call 9; refine (aliveC w).mono ?_; rintro e w1 ⟨rfl, g1⟩)
    | (go_at_call 13; refine (ofC r h0.1 h0.2 w1).mono ?_; rintro e w2 ⟨rfl, hw2⟩; subst w2)
    | (go_at_call 14; refine (refOfC r h0.1 h0.2 w1).mono ?_; rintro e w3 ⟨rfl, hw3⟩; subst w3)
    | (go_at_call 15; refine (signC n hn w1).mono ?_; rintro e w2 ⟨rfl, hw2⟩; subst w2)
    | (go_at_call 16; refine (refSignC n hn w1).mono ?_; rintro e w2 ⟨rfl, hw2⟩; subst w2)
    | go_in)
  go_ret
  exact ⟨rfl, gb_below g1⟩
end Go.Proofs.Ytjacoifhjfipaaa
