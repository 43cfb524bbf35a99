/- The statement WholeNames, a closed sentence, answers true (its walk). -/
import Derived.Test.YtnbfjoheljlkfaaDoorVars
import Derived.Deep.RegionWith
namespace Go.Proofs.YtnbfjoheljlkfaaDoor
open Go.RowKit
set_option linter.unusedVariables false

theorem pLeastv : Tx.parseV [45, 57, 50, 50, 51, 51, 55, 50, 48, 51, 54, 56, 53, 52, 55, 55, 53, 56, 48, 56] = -9223372036854775808 := by decide +kernel
theorem pLeaste : Tx.parseE [45, 57, 50, 50, 51, 51, 55, 50, 48, 51, 54, 56, 53, 52, 55, 55, 53, 56, 48, 56] = 0 := by decide +kernel
theorem pLeast (w : World) (tp : TypeId) (p : Value) (hv : Hid (Vars tp p w)) : Calls Tryd.prog 5 #[.string ⟨#[45, 57, 50, 50, 51, 51, 55, 50, 48, 51, 54, 56, 53, 52, 55, 55, 53, 56, 48, 56]⟩] w fun e w' => e = .returned (.tuple #[.int .i64 (-9223372036854775808), .int .i64 0]) ∧ Below w.heap.size w w' ∧ Hid (Vars tp p w') :=
  parseV _ w (by decide) tp p hv (-9223372036854775808) 0 pLeastv pLeaste

theorem pOverv : Tx.parseV [57, 50, 50, 51, 51, 55, 50, 48, 51, 54, 56, 53, 52, 55, 55, 53, 56, 48, 56] = 0 := by decide +kernel
theorem pOvere : Tx.parseE [57, 50, 50, 51, 51, 55, 50, 48, 51, 54, 56, 53, 52, 55, 55, 53, 56, 48, 56] = 11 := by decide +kernel
theorem pOver (w : World) (tp : TypeId) (p : Value) (hv : Hid (Vars tp p w)) : Calls Tryd.prog 5 #[.string ⟨#[57, 50, 50, 51, 51, 55, 50, 48, 51, 54, 56, 53, 52, 55, 55, 53, 56, 48, 56]⟩] w fun e w' => e = .returned (.tuple #[.int .i64 (0), .int .i64 11]) ∧ Below w.heap.size w w' ∧ Hid (Vars tp p w') :=
  parseV _ w (by decide) tp p hv (0) 11 pOverv pOvere

theorem pPlusv : Tx.parseV [43, 49] = 0 := by decide +kernel
theorem pPluse : Tx.parseE [43, 49] = 10 := by decide +kernel
theorem pPlus (w : World) (tp : TypeId) (p : Value) (hv : Hid (Vars tp p w)) : Calls Tryd.prog 5 #[.string ⟨#[43, 49]⟩] w fun e w' => e = .returned (.tuple #[.int .i64 (0), .int .i64 10]) ∧ Below w.heap.size w w' ∧ Hid (Vars tp p w') :=
  parseV _ w (by decide) tp p hv (0) 10 pPlusv pPluse

theorem i0 : Lib.itoa 0 = [48] := by
  rw [Lib.itoa, if_neg (by decide), show (0 : Int).toNat = 0 from rfl, Lib.decDigits, dif_pos (by decide)]; rfl
theorem tNought (w : World) (tp : TypeId) (p : Value) (hv : Hid (Vars tp p w)) : Calls Tryd.prog 8 #[.int .i64 0] w fun e w' => e = .returned (.string ⟨#[48]⟩) ∧ Below w.heap.size w w' ∧ Hid (Vars tp p w') := by
  have h := textV 0 w tp p (by decide) (by decide) hv
  rw [i0] at h
  exact h
theorem f127 (w : World) : Calls Tryd.prog 6 #[.int .i64 127] w fun e w' => e = .returned (.tuple #[.int .i8 127, .bool true]) ∧ w' = w := fits8 127 w (by decide) (by decide)
theorem f128 (w : World) : Calls Tryd.prog 6 #[.int .i64 128] w fun e w' => e = .returned (.tuple #[.int .i8 0, .bool false]) ∧ w' = w := fits8 128 w (by decide) (by decide)

set_option maxHeartbeats 4000000 in
set_option maxRecDepth 100000 in
theorem names_walk (w : World) (ht : Tab w) (tp : TypeId) (p : Value) (hvar : w.var? Tryd.prog "strconv.ErrRange" = some #[.iface tp p]) :
    Calls Tryd.prog 3 #[] w fun e w' => e = .returned (.bool true) ∧ Below w.heap.size w w' := by
  have hV : Hid (Vars tp p w) := ⟨ht, hvar⟩
  clear ht hvar
  go_enter Tryd.func3, Tryd.ntmps3
  go_wp2_with (first
    | (go_at_call_of 5 (Value.string ⟨#[45, 57, 50, 50, 51, 51, 55, 50, 48, 51, 54, 56, 53, 52, 55, 55, 53, 56, 48, 56]⟩); refine (pLeast _ _ _ hV).mono ?_; rintro e w1 ⟨rfl, hb1, hV1⟩)
    | (go_at_call_of 5 (Value.string ⟨#[57, 50, 50, 51, 51, 55, 50, 48, 51, 54, 56, 53, 52, 55, 55, 53, 56, 48, 56]⟩); refine (pOver _ _ _ hV1).mono ?_; rintro e w2 ⟨rfl, hb2, hV2⟩)
    | (go_at_call_of 5 (Value.string ⟨#[43, 49]⟩); refine (pPlus _ _ _ hV2).mono ?_; rintro e w3 ⟨rfl, hb3, hV3⟩)
    | (go_at_call_of 6 (Value.int IntKind.i64 127); refine (f127 _).mono ?_; rintro e w' ⟨rfl, rfl⟩)
    | (go_at_call_of 6 (Value.int IntKind.i64 128); refine (f128 _).mono ?_; rintro e w' ⟨rfl, rfl⟩)
    | (go_at_call 7; refine (aliveV _ _ _ hV3).mono ?_; rintro e w4 ⟨rfl, hb4, hV4⟩)
    | (go_at_call 8; refine (tNought _ _ _ hV4).mono ?_; rintro e w5 ⟨rfl, hb5, hV5⟩))
  go_ret
  exact ⟨rfl, hb1.trans ((hb2.mono hb1.size).trans ((hb3.mono (Nat.le_trans hb1.size hb2.size)).trans ((hb4.mono (Nat.le_trans hb1.size (Nat.le_trans hb2.size hb3.size))).trans (hb5.mono (Nat.le_trans hb1.size (Nat.le_trans hb2.size (Nat.le_trans hb3.size hb4.size)))))))⟩
end Go.Proofs.YtnbfjoheljlkfaaDoor
