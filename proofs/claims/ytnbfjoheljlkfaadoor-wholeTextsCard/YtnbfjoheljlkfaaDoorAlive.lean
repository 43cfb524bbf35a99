/- What alive, the check inside the statements that ask no document's answer, answers: true. -/
import Derived.Test.YtnbfjoheljlkfaaDoorCalls
import Derived.Deep.RegionWith
namespace Go.Proofs.YtnbfjoheljlkfaaDoor
open Go.RowKit
set_option linter.unusedVariables false

theorem gPow : Tryd.prog.globalNamed "internal/strconv.uint64pow10" = some 2 := by kernel_rfl
abbrev Tab (w : World) : Prop := Lib.TabIs Tryd.prog w "internal/strconv.uint64pow10" .u64 Lib.pow10Tab
theorem tab_below {w w1 : World} (h : Hid (Tab w)) (hb : Below w.heap.size w w1) : Hid (Tab w1) := Joins.tab_stays gPow h hb (Nat.le_refl _)
theorem tab_drewN {w : World} (n : Nat) (h : Hid (Tab w)) : Hid (Tab (w.drewN n)) := h

theorem aMod (w : World) : Calls Tryd.prog 13 #[.int .i64 (-7), .int .i64 3] w fun e w' => e = .returned (.tuple #[.int .i64 2, .bool true]) ∧ w' = w := modI (-7) 3 w (by decide) (by decide) (by decide) (by decide)
theorem aDiv (w : World) : Calls Tryd.prog 14 #[.int .i64 (-7), .int .i64 3] w fun e w' => e = .returned (.tuple #[.int .i64 (-3), .bool true]) ∧ w' = w := divI (-7) 3 w (by decide) (by decide) (by decide) (by decide)
theorem aAdd1 (w : World) : Calls Tryd.prog 15 #[.int .i8 100, .int .i8 27] w fun e w' => e = .returned (.tuple #[.int .i8 127, .bool true]) ∧ w' = w := add8 100 27 w (by decide) (by decide) (by decide) (by decide)
theorem aAdd2 (w : World) : Calls Tryd.prog 15 #[.int .i8 100, .int .i8 28] w fun e w' => e = .returned (.tuple #[.int .i8 0, .bool false]) ∧ w' = w := add8 100 28 w (by decide) (by decide) (by decide) (by decide)
theorem aMul1 (w : World) : Calls Tryd.prog 16 #[.int .i8 16, .int .i8 (-8)] w fun e w' => e = .returned (.tuple #[.int .i8 (-128), .bool true]) ∧ w' = w := mul8 16 (-8) w (by decide) (by decide) (by decide) (by decide)
theorem aMul2 (w : World) : Calls Tryd.prog 16 #[.int .i8 (-128), .int .i8 (-1)] w fun e w' => e = .returned (.tuple #[.int .i8 0, .bool false]) ∧ w' = w := mul8 (-128) (-1) w (by decide) (by decide) (by decide) (by decide)
theorem gcd_12_18 : Nm.gcdZ 12 (-18) = 6 := by kernel_rfl
theorem aGcd (w : World) : Calls Tryd.prog 17 #[.int .i64 12, .int .i64 (-18)] w fun e w' => e = .returned (.tuple #[.int .i64 6, .bool true]) ∧ ∃ nq, w' = w.drewN nq := by
  have h := gcdI 12 (-18) w (by decide) (by decide) (by decide) (by decide)
  rw [gcd_12_18] at h
  exact h
theorem aNear (w : World) : Calls Tryd.prog 18 #[.int .i64 5, .int .i64 1, .int .i64 3] w fun e w' => e = .returned (.int .i64 3) ∧ w' = w := nearI 5 1 3 w
theorem p007v : Tx.parseV [48, 48, 55] = 7 := by decide
theorem p007e : Tx.parseE [48, 48, 55] = 0 := by decide
theorem aParse (w : World) : Calls Tryd.prog 5 #[.string ⟨#[48, 48, 55]⟩] w fun e w' => e = .returned (.tuple #[.int .i64 7, .int .i64 0]) ∧ Below w.heap.size w w' := by
  have h := parseC ⟨#[48, 48, 55]⟩ w (by decide) 0 .nilIface (fun h => absurd h (by decide))
  have e1 : Tx.parseV (ByteArray.mk #[48, 48, 55]).data.toList = 7 := p007v
  have e2 : Tx.parseE (ByteArray.mk #[48, 48, 55]).data.toList = 0 := p007e
  rw [e1, e2] at h
  exact h
theorem i40 : Lib.itoa (-40) = [45, 52, 48] := by
  rw [Lib.itoa, if_pos (by decide), show (-40 : Int).natAbs = 40 from rfl, Lib.decDigits, dif_neg (by decide), Lib.decDigits, dif_pos (by decide)]; rfl
theorem aText (w : World) (ht : Hid (Tab w)) : Calls Tryd.prog 8 #[.int .i64 (-40)] w fun e w' => e = .returned (.string ⟨#[45, 52, 48]⟩) ∧ Below w.heap.size w w' := by
  have h := textC (-40) w (by decide) (by decide) ht
  rw [i40] at h
  exact h

set_option maxHeartbeats 2000000 in
set_option maxRecDepth 100000 in
theorem aliveC (w : World) (ht : Hid (Tab w)) : Calls Tryd.prog 7 #[] w fun e w' => e = .returned (.bool true) ∧ Below w.heap.size w w' := by
  go_enter Tryd.func7, Tryd.ntmps7
  go_wp2_with (first
    | (go_at_call 13; refine (aMod _).mono ?_; rintro e w' ⟨rfl, rfl⟩)
    | (go_at_call 14; refine (aDiv _).mono ?_; rintro e w' ⟨rfl, rfl⟩)
    | (go_at_call_of 15 (Value.int IntKind.i8 27); refine (aAdd1 _).mono ?_; rintro e w' ⟨rfl, rfl⟩)
    | (go_at_call_of 15 (Value.int IntKind.i8 28); refine (aAdd2 _).mono ?_; rintro e w' ⟨rfl, rfl⟩)
    | (go_at_call_of 16 (Value.int IntKind.i8 16); refine (aMul1 _).mono ?_; rintro e w' ⟨rfl, rfl⟩)
    | (go_at_call 16; refine (aMul2 _).mono ?_; rintro e w' ⟨rfl, rfl⟩)
    | (go_at_call 17; refine (aGcd _).mono ?_; rintro e w' ⟨rfl, nq, rfl⟩)
    | (go_at_call 5; refine (aParse _).mono ?_; rintro e w1 ⟨rfl, hb1⟩)
    | (go_at_call 8; refine (aText _ (tab_below (tab_drewN _ ht) hb1)).mono ?_; rintro e w2 ⟨rfl, hb2⟩)
    | (go_at_call 18; refine (aNear _).mono ?_; rintro e w' ⟨rfl, rfl⟩))
  go_ret
  exact ⟨rfl, (below_drewN (Below.refl _ _) _).trans (hb1.trans (hb2.mono hb1.size))⟩

end Go.Proofs.YtnbfjoheljlkfaaDoor