/- The statement IsoKeeps answers true (its walk). -/
import Derived.Test.YtmlehegahgijhabI10k1
import Derived.Test.YtmlehegahgijhabI10k2
import Derived.Test.YtmlehegahgijhabI10k3
namespace Go.Proofs.Ytmlehegahgijhab
open Go.RowKit
open Fl
set_option linter.unusedVariables false
set_option linter.unusedSimpArgs false
set_option maxRecDepth 100000

theorem eqPt (a b c d : Int) (w : World) : (binOp .eql 25 (.agg #[.int .i64 a, .int .i64 b]) (.agg #[.int .i64 c, .int .i64 d])).run Try.prog w = .ok (.bool (decide (a = c ∧ b = d))) w := by
  by_cases h1 : a = c
  · by_cases h2 : b = d
    · go_simp
    · go_simp
  · go_simp
set_option maxHeartbeats 1000000 in
theorem keeps_walk (k x y a0 b0 c0 d0 : Int) (h0 : -9223372036854775808 ≤ k ∧ k ≤ 9223372036854775807) (h1 : -9223372036854775808 ≤ x ∧ x ≤ 9223372036854775807) (h2 : -9223372036854775808 ≤ y ∧ y ≤ 9223372036854775807) (h3 : -9223372036854775808 ≤ a0 ∧ a0 ≤ 9223372036854775807) (h4 : -9223372036854775808 ≤ b0 ∧ b0 ≤ 9223372036854775807) (h5 : -9223372036854775808 ≤ c0 ∧ c0 ≤ 9223372036854775807) (h6 : -9223372036854775808 ≤ d0 ∧ d0 ≤ 9223372036854775807) (w : World) :
    Calls Try.prog 5 #[.agg #[.int .i64 k, .int .i64 x, .int .i64 y], .agg #[.int .i64 a0, .int .i64 b0], .agg #[.int .i64 c0, .int .i64 d0]] w fun e w' => e = .returned (.bool true) ∧ Below w.heap.size w w' := by
  refine Calls.mono (R := fun e w' => e = .returned (.bool true) ∧ w.grownBy w' none) ?_ (fun e w' h => ⟨h.1, gb_below h.2⟩)
  have ba := rd_bd a0
  have bb := rd_bd b0
  have bc := rd_bd c0
  have bd := rd_bd d0
  have bx := rd_bd x
  have bY := rd_bd y
  obtain ⟨l1, l2⟩ := l_abs (kp k) (rd a0) (rd b0)
  obtain ⟨l3, l4⟩ := l_abs (kp k) (rd c0) (rd d0)
  have hs := l_sz (kp k) (rd a0 - rd c0) (rd b0 - rd d0)
  obtain ⟨s1, s2⟩ := l_sub (kp k) (rd a0) (rd b0) (rd c0) (rd d0)
  have hi := l_inj (kp k) (a := rd a0) (b := rd b0) (c := rd c0) (d := rd d0) (X := rd x) (Y := rd y)
  rw [← s1, ← s2] at hs
  have t1 : lx (kp k) (rd a0) (rd b0) + rd x - (lx (kp k) (rd c0) (rd d0) + rd x) = lx (kp k) (rd a0) (rd b0) - lx (kp k) (rd c0) (rd d0) := by omega
  have t2 : ly (kp k) (rd a0) (rd b0) + rd y - (ly (kp k) (rd c0) (rd d0) + rd y) = ly (kp k) (rd a0) (rd b0) - ly (kp k) (rd c0) (rd d0) := by omega
  rw [← t1, ← t2] at hs
  clear s1 s2 t1 t2
  generalize hU : lx (kp k) (rd a0) (rd b0) + rd x = U at *
  generalize hV : ly (kp k) (rd a0) (rd b0) + rd y = V at *
  generalize hU2 : lx (kp k) (rd c0) (rd d0) + rd x = U2 at *
  generalize hV2 : ly (kp k) (rd c0) (rd d0) + rd y = V2 at *
  have nU : U.natAbs ≤ 1099511627776 := by clear hs hi hV hU2 hV2 l2 l3 l4 bc bd bY; omega
  have nV : V.natAbs ≤ 1099511627776 := by clear hs hi hU hU2 hV2 l1 l3 l4 bc bd bx; omega
  have nU2 : U2.natAbs ≤ 1099511627776 := by clear hs hi hU hV hV2 l1 l2 l4 ba bb bY; omega
  have nV2 : V2.natAbs ≤ 1099511627776 := by clear hs hi hU hV hU2 l1 l2 l3 ba bb bx; omega
  have e1 := eqPt (rd a0) (rd b0) (rd c0) (rd d0)
  have e2 := eqPt U V U2 V2
  have e3 : decide (U = U2 ∧ V = V2) = decide (rd a0 = rd c0 ∧ rd b0 = rd d0) := decide_eq_decide.2 hi
  rw [e3] at e2
  have hw : ∀ z : Int, -9223372036854775807 ≤ z ∧ z ≤ 9223372036854775807 → IntKind.i64.wrap z = z := fun z hz => by rw [IntKind.wrap_i64]; omega
  have q1 : -9223372036854775807 ≤ rd a0 - rd c0 ∧ rd a0 - rd c0 ≤ 9223372036854775807 := by clear hs hi hU hV hU2 hV2 l1 l2 l3 l4; omega
  have q2 : -9223372036854775807 ≤ rd b0 - rd d0 ∧ rd b0 - rd d0 ≤ 9223372036854775807 := by clear hs hi hU hV hU2 hV2 l1 l2 l3 l4; omega
  have q3 : -9223372036854775807 ≤ U - U2 ∧ U - U2 ≤ 9223372036854775807 := by clear hs hi hU hV hU2 hV2 l1 l2 l3 l4; omega
  have q4 : -9223372036854775807 ≤ V - V2 ∧ V - V2 ≤ 9223372036854775807 := by clear hs hi hU hV hU2 hV2 l1 l2 l3 l4; omega
  have n (z : Int) (hz : -1073741824 < z ∧ z < 1073741824) : nearB z = true := near_lt (by omega)
  rcases hs with ⟨k1, k2⟩ | ⟨k1, k2⟩
  · exact keeps_1 k x y a0 b0 c0 d0 _ _ _ _ U V U2 V2 rfl rfl rfl rfl (n _ ba) (n _ bb) (n _ bc) (n _ bd) hU hV hU2 hV2 (near_lt nU) (near_lt nV) (near_lt nU2) (near_lt nV2) q1 q2 q3 q4 (hw _ q1) (hw _ q2) (hw _ q3) (hw _ q4) _ e1 e2 k1 k2 w
  · by_cases k3 : sz (rd a0 - rd c0) = sz (rd b0 - rd d0)
    · exact keeps_2 k x y a0 b0 c0 d0 _ _ _ _ U V U2 V2 rfl rfl rfl rfl (n _ ba) (n _ bb) (n _ bc) (n _ bd) hU hV hU2 hV2 (near_lt nU) (near_lt nV) (near_lt nU2) (near_lt nV2) q1 q2 q3 q4 (hw _ q1) (hw _ q2) (hw _ q3) (hw _ q4) _ e1 e2 k1 k2 k3.symm w
    · exact keeps_3 k x y a0 b0 c0 d0 _ _ _ _ U V U2 V2 rfl rfl rfl rfl (n _ ba) (n _ bb) (n _ bc) (n _ bd) hU hV hU2 hV2 (near_lt nU) (near_lt nV) (near_lt nU2) (near_lt nV2) q1 q2 q3 q4 (hw _ q1) (hw _ q2) (hw _ q3) (hw _ q4) _ e1 e2 k1 k2 k3 w
end Go.Proofs.Ytmlehegahgijhab
