/- ScanTags: the walk. -/
import Derived.Test.YtimknahfgpafaaaDoorS10
import Derived.Test.YtimknahfgpafaaaDoorS11
namespace Go.Proofs.YtimknahfgpafaaaDoor
open Go.RowKit
set_option linter.unusedVariables false
set_option linter.unusedSimpArgs false

set_option maxRecDepth 100000 in
set_option maxHeartbeats 4000000 in
theorem tags_walk0 (n : Nat) (many : Bool) (t : ByteArray) (w : World) (hn : n < 256) (tp : TypeId) (p : Value) (hE : Hid (Er tp p w)) (hG : 4 < w.heap.size) :
    Calls Tryd.prog 7 #[.int .u8 n, .bool many, .string t] w fun e w' => e = .returned (.bool true) ∧ Below w.heap.size w w' := by
  cases many with
  | true =>
    go_enter Tryd.func7, Tryd.ntmps7
    go_wp2_with (first | (go_at_call 9; refine (awakeC _ tp p hE hG).mono ?_; rintro e w1 ⟨rfl, g1⟩) | (go_at_call 22; refine (stateC t _).mono ?_; rintro e w2 ⟨rfl, k2, rfl⟩) | (go_at_call 23; refine (rstateC t _).mono ?_; rintro e w3 ⟨rfl, g3⟩) | (go_at_call 24; refine (tagTC n _ hn).mono ?_; rintro e w4 ⟨rfl, g4⟩) | (go_at_call 25; refine (rtagTC n _ hn).mono ?_; rintro e w5 ⟨rfl, g5⟩))
    go_ret
    exact ⟨rfl, gb_below (gb_trans (gb_trans (gb_trans (gb_drewN g1 _) g3) g4) g5)⟩
  | false =>
    go_enter Tryd.func7, Tryd.ntmps7
    go_wp2_with (first | (go_at_call 9; refine (awakeC _ tp p hE hG).mono ?_; rintro e w1 ⟨rfl, g1⟩) | (go_at_call 22; refine (stateC t _).mono ?_; rintro e w2 ⟨rfl, k2, rfl⟩) | (go_at_call 23; refine (rstateC t _).mono ?_; rintro e w3 ⟨rfl, g3⟩) | (go_at_call 24; refine (tagFC n _).mono ?_; rintro e w4 ⟨rfl, hw4⟩; subst w4) | (go_at_call 25; refine (rtagFC n _ hn).mono ?_; rintro e w5 ⟨rfl, hw5⟩; subst w5))
    go_ret
    exact ⟨rfl, gb_below (gb_trans (gb_drewN g1 _) g3)⟩
theorem tags_walk (a0 : Int) (many : Bool) (t : ByteArray) (w : World) (h0 : 0 ≤ a0) (h1 : a0 ≤ 255) (hs : t.size ≤ maxLen) (tp : TypeId) (p : Value) (hE : Hid (Er tp p w)) (hG : 4 < w.heap.size) :
    Calls Tryd.prog 7 #[.int .u8 a0, .bool many, .string t] w fun e w' => e = .returned (.bool true) ∧ Below w.heap.size w w' := by
  obtain ⟨n, rfl⟩ : ∃ n : Nat, a0 = n := ⟨a0.toNat, by omega⟩
  exact tags_walk0 n many t w (by omega) tp p hE hG
end Go.Proofs.YtimknahfgpafaaaDoor
