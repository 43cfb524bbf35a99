/- For every number and every text the statement WholeTexts answers true (its walk). -/
import Derived.Test.YtnbfjoheljlkfaaDoorParseR
namespace Go.Proofs.YtnbfjoheljlkfaaDoor
open Go.RowKit
set_option linter.unusedVariables false

set_option maxHeartbeats 4000000 in
set_option maxRecDepth 100000 in
theorem texts_walk (n : Int) (s : ByteArray) (w : World) (h0 : -9223372036854775808 ≤ n) (h1 : n ≤ 9223372036854775807) (hs : s.size ≤ maxLen) (ht : Tab w) (tp : TypeId) (p : Value) (hvar : w.var? Tryd.prog "strconv.ErrRange" = some #[.iface tp p]) :
    Calls Tryd.prog 4 #[.int .i64 n, .string s] w fun e w' => e = .returned (.bool true) ∧ Below w.heap.size w w' := by
  have hV : Hid (Vars tp p w) := ⟨ht, hvar⟩
  clear ht hvar
  go_enter Tryd.func4, Tryd.ntmps4
  go_wp2_with (first
    | (go_at_call 5; refine (parseV _ _ hs _ _ hV _ _ rfl rfl).mono ?_; rintro e w1 ⟨rfl, hb1, hV1⟩)
    | (go_at_call 9; refine (parseRef _ _ hs).mono ?_; rintro e w2 ⟨rfl, rfl⟩)
    | (go_at_call 8; refine (textV _ _ _ _ h0 h1 hV1).mono ?_; rintro e w3 ⟨rfl, hb3, hV3⟩)
    | (go_at_call 10; refine (textRef _ _ h0 h1).mono ?_; rintro e w4 ⟨rfl, hb4⟩))
  go_ret
  exact ⟨rfl, hb1.trans ((hb3.mono hb1.size).trans (hb4.mono (Nat.le_trans hb1.size hb3.size)))⟩
end Go.Proofs.YtnbfjoheljlkfaaDoor
