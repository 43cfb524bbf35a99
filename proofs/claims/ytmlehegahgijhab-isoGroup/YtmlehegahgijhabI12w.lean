/- The statement IsoGroup answers true (its walk). -/
import Derived.Test.YtmlehegahgijhabI12
namespace Go.Proofs.Ytmlehegahgijhab
open Go.RowKit
open Fl
set_option linter.unusedVariables false
set_option linter.unusedSimpArgs false
set_option maxRecDepth 100000

theorem both_assoc : ∀ k, k < 8 → ∀ l, l < 8 → ∀ m, m < 8 → both (both k l) m = both k (both l m) := by decide
theorem both_back : ∀ k, k < 8 → ∀ l, l < 8 → both (back l) (back k) = back (both k l) := by decide
theorem nl {n : Int} (h : -17179869184 ≤ n ∧ n ≤ 17179869184) : nearB n = true := near_lt (by omega)
set_option maxHeartbeats 4000000 in
theorem group_walk (k1 x1 y1 k2 x2 y2 k3 x3 y3 a0 b0 : Int) (_ : -9223372036854775808 ≤ k1 ∧ k1 ≤ 9223372036854775807) (_ : -9223372036854775808 ≤ x1 ∧ x1 ≤ 9223372036854775807) (_ : -9223372036854775808 ≤ y1 ∧ y1 ≤ 9223372036854775807) (_ : -9223372036854775808 ≤ k2 ∧ k2 ≤ 9223372036854775807) (_ : -9223372036854775808 ≤ x2 ∧ x2 ≤ 9223372036854775807) (_ : -9223372036854775808 ≤ y2 ∧ y2 ≤ 9223372036854775807) (_ : -9223372036854775808 ≤ k3 ∧ k3 ≤ 9223372036854775807) (_ : -9223372036854775808 ≤ x3 ∧ x3 ≤ 9223372036854775807) (_ : -9223372036854775808 ≤ y3 ∧ y3 ≤ 9223372036854775807) (_ : -9223372036854775808 ≤ a0 ∧ a0 ≤ 9223372036854775807) (_ : -9223372036854775808 ≤ b0 ∧ b0 ≤ 9223372036854775807) (w : World) :
    Calls Try.prog 3 #[.agg #[.int .i64 k1, .int .i64 x1, .int .i64 y1], .agg #[.int .i64 k2, .int .i64 x2, .int .i64 y2], .agg #[.int .i64 k3, .int .i64 x3, .int .i64 y3], .agg #[.int .i64 a0, .int .i64 b0]] w fun e w' => e = .returned (.bool true) ∧ Below w.heap.size w w' := by
  refine Calls.mono (R := fun e w' => e = .returned (.bool true) ∧ w.grownBy w' none) ?_ (fun e w' h => ⟨h.1, gb_below h.2⟩)
  have k1b := (kp_is k1).2.1
  have k2b := (kp_is k2).2.1
  have k3b := (kp_is k3).2.1
  have b1 := rd_bd x1
  have b2 := rd_bd y1
  have b3 := rd_bd x2
  have b4 := rd_bd y2
  have b5 := rd_bd x3
  have b6 := rd_bd y3
  have b7 := rd_bd a0
  have b8 := rd_bd b0
  obtain ⟨t1, t2, f1, t4⟩ := both_tx (kp k1) k1b (kp k2) k2b
  obtain ⟨_, _, f2, t5⟩ := both_tx (kp k2) k2b (kp k3) k3b
  obtain ⟨_, _, f3, t6⟩ := both_tx (both (kp k1) (kp k2)) t4 (kp k3) k3b
  obtain ⟨_, _, f4, _⟩ := both_tx (kp k1) k1b (both (kp k2) (kp k3)) t5
  clear t1 t2
  have asc := both_assoc (kp k1) k1b (kp k2) k2b (kp k3) k3b
  have bb := both_back (kp k1) k1b (kp k2) k2b
  -- sizes
  have s1 := l_bd (kp k2) (n := 1073741824) (m := 1073741824) (x := rd x1) (y := rd y1) (by omega) (by omega)
  have s2 := l_bd (kp k3) (n := 1073741824) (m := 1073741824) (x := rd x2) (y := rd y2) (by omega) (by omega)
  have s3 := l_bd (kp k3) (n := 3221225472) (m := 3221225472) (x := lx (kp k2) (rd x1) (rd y1) + rd x2) (y := ly (kp k2) (rd x1) (rd y1) + rd y2) (by omega) (by omega)
  have s4 := l_bd (kp k1) (n := 1073741824) (m := 1073741824) (x := rd a0) (y := rd b0) (by omega) (by omega)
  have s5 := l_bd (kp k2) (n := 3221225472) (m := 3221225472) (x := lx (kp k1) (rd a0) (rd b0) + rd x1) (y := ly (kp k1) (rd a0) (rd b0) + rd y1) (by omega) (by omega)
  have s6 := l_bd (back (both (kp k1) (kp k2))) (n := 3221225472) (m := 3221225472) (x := lx (kp k2) (rd x1) (rd y1) + rd x2) (y := ly (kp k2) (rd x1) (rd y1) + rd y2) (by omega) (by omega)
  -- brackets
  have c1 := comp (kp k2) k2b (kp k3) k3b (rd x1) (rd y1)
  have a1 := l_add (kp k3) (lx (kp k2) (rd x1) (rd y1)) (ly (kp k2) (rd x1) (rd y1)) (rd x2) (rd y2)
  -- places
  have c2 := comp (kp k1) k1b (kp k2) k2b (rd a0) (rd b0)
  have a2 := l_add (kp k2) (lx (kp k1) (rd a0) (rd b0)) (ly (kp k1) (rd a0) (rd b0)) (rd x1) (rd y1)
  -- the way back
  have bk1 := (back_both (kp k1) k1b).2.2
  have bk2 := (back_both (kp k2) k2b).2.2
  have c3 := comp (back (kp k2)) bk2 (back (kp k1)) bk1 (lx (kp k2) (rd x1) (rd y1) + rd x2) (ly (kp k2) (rd x1) (rd y1) + rd y2)
  have a3 := l_add (back (kp k2)) (lx (kp k2) (rd x1) (rd y1)) (ly (kp k2) (rd x1) (rd y1)) (rd x2) (rd y2)
  have e3 := back_l (kp k2) k2b (rd x1) (rd y1)
  have a4 := l_add (back (kp k1)) (rd x1) (rd y1) (lx (back (kp k2)) (rd x2) (rd y2)) (ly (back (kp k2)) (rd x2) (rd y2))
  have g4 := l_neg (back (kp k1)) (lx (back (kp k2)) (rd x2) (rd y2)) (ly (back (kp k2)) (rd x2) (rd y2))
  rw [a3.1, a3.2, e3.1, e3.2.1, a4.1, a4.2, bb] at c3
  refine group_law k1 x1 y1 k2 x2 y2 k3 x3 y3 a0 b0 _ _ _ _ _ _ _ _ _ _ _ _ _ _ _ _ _ _ _ _ _ (fl4 (both (kp k1) (kp k2))) (fl4 (both (kp k2) (kp k3))) (fl4 (both (both (kp k1) (kp k2)) (kp k3))) rfl rfl (nl (by clear c1 c2 c3 a1 a2 a3 a4 e3 g4; omega)) (nl (by clear c1 c2 c3 a1 a2 a3 a4 e3 g4; omega)) f1.symm f2.symm f3.symm ?f4 ?f5 rfl rfl rfl asc.symm bb rfl rfl rfl rfl rfl rfl ?x4 ?y4 (nl ?_) (nl ?_) (nl ?_) (nl ?_) (nl ?_) (nl ?_) rfl rfl (nl ?_) (nl ?_) rfl rfl (nl ?_) (nl ?_) ?u3 ?v3 rfl rfl rfl rfl rfl rfl ?x5 ?y5 (nl ?_) (nl ?_) w
  case f4 => unfold Hid; rw [asc]; exact f4.symm
  case f5 => unfold Hid; rw [f1]; cases fl4 (kp k1) <;> cases fl4 (kp k2) <;> rfl
  case x4 => unfold Hid; omega
  case y4 => unfold Hid; omega
  case u3 => unfold Hid; omega
  case v3 => unfold Hid; omega
  case x5 => unfold Hid; omega
  case y5 => unfold Hid; omega
  all_goals (clear c1 c2 c3 a1 a2 a3 a4 e3 g4; omega)
end Go.Proofs.Ytmlehegahgijhab
