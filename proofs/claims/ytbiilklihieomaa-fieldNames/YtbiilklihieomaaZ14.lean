/- FieldNames. -/
import Derived.Test.YtbiilklihieomaaZ13
namespace Go.Proofs.Ytbiilklihieomaa
open Go.RowKit
set_option linter.unusedVariables false
set_option linter.unusedSimpArgs false
set_option maxRecDepth 100000

theorem names_walk (w : World) : Calls Try.prog 3 #[] w fun e w' => e = .returned (.bool true) ∧ Below w.heap.size w w' := by
  have n1 := fun w => newN 1 1 3 132 true (by decide) (by decide) w
  have n2 := fun w => newN 1025 1024 2 4 true (by decide) (by decide) w
  have n3 := fun w => newN 1 65537 2 2 true (by decide) (by decide) w
  go_enter Try.func3, Try.ntmps3
  go_wp2_with (first | ((fail_if_success (guard_hyp g1)); go_at_call 9; refine (n1 w).mono ?_; rintro e V1 ⟨rfl, g1⟩) | (guard_hyp g1; (fail_if_success (guard_hyp g2)); go_at_call 9; refine (n2 V1).mono ?_; rintro e V2 ⟨rfl, g2⟩) | (guard_hyp g2; (fail_if_success (guard_hyp g3)); go_at_call 9; refine (n3 V2).mono ?_; rintro e V3 ⟨rfl, g3⟩) | (go_at_call 10; refine (aliveC V3).mono ?_; rintro e V4 ⟨rfl, g4⟩))
  go_ret
  exact ⟨rfl, gb_below (gb_trans g1 (gb_trans g2 (gb_trans g3 g4)))⟩
end Go.Proofs.Ytbiilklihieomaa
