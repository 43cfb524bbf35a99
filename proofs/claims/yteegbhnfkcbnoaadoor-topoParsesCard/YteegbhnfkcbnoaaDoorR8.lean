/- What the document's twist answers. -/
import Derived.Test.YteegbhnfkcbnoaaDoorR7
namespace Go.Proofs.YteegbhnfkcbnoaaDoor
open Go.RowKit
set_option linter.unusedVariables false
set_option linter.unusedSimpArgs false
set_option maxRecDepth 100000
theorem ret_ibr {k : IntKind} {a b : Int} {c d : Bool} (h : a = b) (hp : c = d) : Ending.returned (.tuple #[.int k a, .bool c]) = .returned (.tuple #[.int k b, .bool d]) := by rw [h, hp]

set_option maxHeartbeats 2000000 in
theorem twist1 (s : ByteArray) (K : Nat) (p : Tp.Dp) (g c : Nat) (w : World) (hc : Cs w g (dpl p)) : Calls Tryd.prog 23 #[.string s, .int .u8 K, .slice (some ⟨g, 0, none⟩) 1 c] w fun e w' => e = .returned (.tuple #[.int .i64 (Tp.twP s.size K p (Tp.plainD p)), .bool (Tp.twB K p (Tp.plainD p))]) ∧ w' = w := by
  have c0 := hc 0 (.int .i64 p.at_) rfl
  have c1 := hc 1 (.int .i64 p.en) rfl
  have c2 := hc 2 (.int .i64 p.st) rfl
  have c3 := hc 3 (.int .i64 p.sg) rfl
  have c4 := hc 4 (.int .i64 p.fr) rfl
  have c5 := hc 5 (.int .i64 p.to) rfl

  clear hc
  by_cases h1 : 0 ≤ p.st <;> by_cases h3 : K = 3
  all_goals
    have k1 : ((K : Int) == 3) = decide (K = 3) := by by_cases z : K = 3 <;> simp [z]; omega
    have k2 : ((K : Int) != 3) = !decide (K = 3) := by simp [bne, k1]
    simp only [h3, decide_true, decide_false, Bool.not_true, Bool.not_false] at k1 k2
    go_enter Tryd.func23, Tryd.ntmps23
    go_wp2
    refine wp_loop_rounds 3 ?_
    rw [rounds_succ]
    go_wp2
    try (rw [rounds_succ]; go_wp2)
    skip
    go_ret2
    refine ⟨ret_ibr ?_ ?_, rfl⟩
    · unfold Tp.twP
      rw [show (Tp.plainD p).st = -1 from rfl]
      repeat' split
      all_goals first | rfl | omega
    · unfold Tp.twB Tp.plainD
      simp [h1, h3]

set_option maxHeartbeats 2000000 in
theorem twist2 (s : ByteArray) (K : Nat) (p q : Tp.Dp) (g c : Nat) (w : World) (hc : Cs w g (dpl p ++ dpl q)) : Calls Tryd.prog 23 #[.string s, .int .u8 K, .slice (some ⟨g, 0, none⟩) 2 c] w fun e w' => e = .returned (.tuple #[.int .i64 (Tp.twP s.size K p q), .bool (Tp.twB K p q)]) ∧ w' = w := by
  have c0 := hc 0 (.int .i64 p.at_) rfl
  have c1 := hc 1 (.int .i64 p.en) rfl
  have c2 := hc 2 (.int .i64 p.st) rfl
  have c3 := hc 3 (.int .i64 p.sg) rfl
  have c4 := hc 4 (.int .i64 p.fr) rfl
  have c5 := hc 5 (.int .i64 p.to) rfl
  have c6 := hc 6 (.int .i64 q.at_) rfl
  have c7 := hc 7 (.int .i64 q.en) rfl
  have c8 := hc 8 (.int .i64 q.st) rfl
  have c9 := hc 9 (.int .i64 q.sg) rfl
  have c10 := hc 10 (.int .i64 q.fr) rfl
  have c11 := hc 11 (.int .i64 q.to) rfl
  clear hc
  by_cases h1 : 0 ≤ p.st <;> by_cases h3 : K = 3 <;> by_cases h2 : 0 ≤ q.st
  all_goals
    have k1 : ((K : Int) == 3) = decide (K = 3) := by by_cases z : K = 3 <;> simp [z]; omega
    have k2 : ((K : Int) != 3) = !decide (K = 3) := by simp [bne, k1]
    simp only [h3, decide_true, decide_false, Bool.not_true, Bool.not_false] at k1 k2
    go_enter Tryd.func23, Tryd.ntmps23
    go_wp2
    refine wp_loop_rounds 4 ?_
    rw [rounds_succ]
    go_wp2
    try (rw [rounds_succ]; go_wp2)
    try (rw [rounds_succ]; go_wp2)
    go_ret2
    refine ⟨ret_ibr ?_ ?_, rfl⟩
    · unfold Tp.twP
      skip
      repeat' split
      all_goals first | rfl | omega
    · unfold Tp.twB
      simp [h1, h3, h2]
end Go.Proofs.YteegbhnfkcbnoaaDoor
