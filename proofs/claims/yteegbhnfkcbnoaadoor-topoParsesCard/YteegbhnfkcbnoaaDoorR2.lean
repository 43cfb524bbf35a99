/- What the document's kind answers. -/
import Derived.Test.YteegbhnfkcbnoaaDoorR1
namespace Go.Proofs.YteegbhnfkcbnoaaDoor
open Go.RowKit
set_option linter.unusedVariables false
set_option linter.unusedSimpArgs false
set_option maxRecDepth 100000
theorem retIr {k : IntKind} {a b : Int} (h : a = b) : Ending.returned (.int k a) = .returned (.int k b) := by rw [h]

set_option maxHeartbeats 4000000 in
theorem rKindC (c : Nat) (hc : c < 256) (w : World) : Calls Tryd.prog 45 #[.int .u8 c] w fun e w' => e = .returned (.int .u8 (Tp.kindR c : Nat)) ∧ w' = w := by
  have cg0 : ((ByteArray.mk #[80, 84, 75, 67, 83])[0]'(by decide)).toNat = 80 := rfl
  have cs0 : ((ByteArray.mk #[112, 116, 107, 99, 115])[0]'(by decide)).toNat = 112 := rfl
  have cg1 : ((ByteArray.mk #[80, 84, 75, 67, 83])[1]'(by decide)).toNat = 84 := rfl
  have cs1 : ((ByteArray.mk #[112, 116, 107, 99, 115])[1]'(by decide)).toNat = 116 := rfl
  have cg2 : ((ByteArray.mk #[80, 84, 75, 67, 83])[2]'(by decide)).toNat = 75 := rfl
  have cs2 : ((ByteArray.mk #[112, 116, 107, 99, 115])[2]'(by decide)).toNat = 107 := rfl
  have cg3 : ((ByteArray.mk #[80, 84, 75, 67, 83])[3]'(by decide)).toNat = 67 := rfl
  have cs3 : ((ByteArray.mk #[112, 116, 107, 99, 115])[3]'(by decide)).toNat = 99 := rfl
  have cg4 : ((ByteArray.mk #[80, 84, 75, 67, 83])[4]'(by decide)).toNat = 83 := rfl
  have cs4 : ((ByteArray.mk #[112, 116, 107, 99, 115])[4]'(by decide)).toNat = 115 := rfl
  go_enter Tryd.func45, Tryd.ntmps45
  go_wp2
  refine wp_loop_rounds 6 ?_
  rw [rounds_succ]
  go_wp2
  all_goals try (rw [rounds_succ]; go_wp2)
  all_goals try (rw [rounds_succ]; go_wp2)
  all_goals try (rw [rounds_succ]; go_wp2)
  all_goals try (rw [rounds_succ]; go_wp2)
  all_goals try (rw [rounds_succ]; go_wp2)
  all_goals go_ret
  all_goals refine ⟨retIr ?_, rfl⟩
  all_goals clear cg0 cg1 cg2 cg3 cg4 cs0 cs1 cs2 cs3 cs4
  all_goals try simp only [Bool.or_eq_true, Bool.or_eq_false_iff, beq_iff_eq, beq_eq_false_iff_ne, ne_eq] at *
  all_goals unfold Tp.kindR
  all_goals repeat' split
  all_goals omega
end Go.Proofs.YteegbhnfkcbnoaaDoor
