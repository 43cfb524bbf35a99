/- ScanLines: the walk. -/
import Derived.Test.YtimknahfgpafaaaDoorS30
namespace Go.Proofs.YtimknahfgpafaaaDoor
open Go.RowKit
set_option linter.unusedVariables false

set_option maxRecDepth 100000 in
set_option maxHeartbeats 2000000 in
theorem lines_walk (t : ByteArray) (m : Int) (w : World) (ht : t.size ≤ 1048576) (hm1 : -9223372036854775808 ≤ m) (hm2 : m ≤ 9223372036854775807) (tp : TypeId) (p : Value) (hE : Hid (Er tp p w)) (hG : 4 < w.heap.size) :
    Calls Tryd.prog 3 #[.string t, .int .i64 m] w fun e w' => e = .returned (.bool true) ∧ Below w.heap.size w w' := by
  have h1 := fun w => walkC t ht m w
  have h2 := fun w => walkC t ht 0 w
  clear hm1 hm2
  go_enter Tryd.func3, Tryd.ntmps3
  go_wp2_with (first
    | (go_at_call 9; refine (awakeC _ tp p hE hG).mono ?_; rintro e w1 ⟨rfl, g1⟩)
    | (go_at_call 10; (fail_if_success (guard_hyp b2)); refine (h1 _).mono ?_; rintro e w2 ⟨rfl, b2⟩)
    | (go_at_call 10; refine (h2 _).mono ?_; rintro e w3 ⟨rfl, b3⟩))
  go_ret
  have z1 := g1.size
  have z2 := b2.size
  exact ⟨rfl, (gb_below g1).trans ((b2.mono z1).trans (b3.mono (Nat.le_trans z1 z2)))⟩
end Go.Proofs.YtimknahfgpafaaaDoor
