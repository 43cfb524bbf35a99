/- What alive, the check inside the statements that ask no document's answer, answers: true. -/
import Derived.Test.YteegbhnfkcbnoabDoorP14
import Derived.Test.YteegbhnfkcbnoabDoorT7
namespace Go.Proofs.YteegbhnfkcbnoabDoor
open Go.RowKit
set_option linter.unusedVariables false
set_option linter.unusedSimpArgs false
set_option maxRecDepth 100000

abbrev sT : ByteArray := ⟨#[84, 51, 48, 44, 50, 48, 45, 53]⟩
abbrev sK : ByteArray := ⟨#[75, 51, 44, 52]⟩
theorem i30 : Lib.itoa 30 = [51, 48] := by
  rw [Lib.itoa, if_neg (by decide), show (30 : Int).toNat = 30 from rfl, Lib.decDigits, dif_neg (by decide), Lib.decDigits, dif_pos (by decide)]; rfl
theorem i20 : Lib.itoa 20 = [50, 48] := by
  rw [Lib.itoa, if_neg (by decide), show (20 : Int).toNat = 20 from rfl, Lib.decDigits, dif_neg (by decide), Lib.decDigits, dif_pos (by decide)]; rfl
theorem i5 : Lib.itoa (-5) = [45, 53] := by
  rw [Lib.itoa, if_pos (by decide), show (-5 : Int).natAbs = 5 from rfl, Lib.decDigits, dif_pos (by decide)]; rfl
theorem ck30 : Tp.chk 2 30 20 2 (-5) = 0 := by decide
theorem pt30 : pTxt 2 30 20 2 (-5) = sT := by
  unfold pTxt pTx ttL sgT
  rw [if_pos ck30, if_neg (by decide), if_neg (by decide), i30, i20, if_neg (by decide), if_pos (by decide), if_neg (by decide), if_pos (by decide), i5]
  rfl
theorem aParse (w : World) (tp : TypeId) (p : Value) (hE : Hid (En tp p w)) : Calls Tryd.prog 15 #[.string sT] w fun e w' => e = .returned (.tuple #[.agg #[.int .u8 2, .int .i64 30, .int .i64 20, .int .u8 2, .int .i64 (-5)], .int .i64 0, .int .i64 0]) ∧ w.grownBy w' none := by
  have h := parseT sT w (by decide) tp p hE
  rw [Tp.pT30] at h
  exact h
theorem aParseK (w : World) (tp : TypeId) (p : Value) (hE : Hid (En tp p w)) : Calls Tryd.prog 15 #[.string sK] w fun e w' => e = .returned (.tuple #[.agg #[.int .u8 0, .int .i64 0, .int .i64 0, .int .u8 0, .int .i64 0], .int .i64 4, .int .i64 44]) ∧ w.grownBy w' none := by
  have h := parseT sK w (by decide) tp p hE
  rw [Tp.pK34] at h
  exact h
theorem aPrint (w : World) (htab : Hid (Tab w)) (hT : Hid (Tf w)) : Calls Tryd.prog 16 #[.agg #[.int .u8 2, .int .i64 30, .int .i64 20, .int .u8 2, .int .i64 (-5)]] w fun e w' => e = .returned (.tuple #[.string sT, .int .i64 0]) ∧ w.grownBy w' none := by
  have h := printC 2 30 20 2 (-5) w (by decide) (by decide) (by decide) htab hT
  rw [pt30, ck30] at h
  exact h
theorem aHome (w : World) : Calls Tryd.prog 8 #[.agg #[.int .u8 2, .int .i64 30, .int .i64 20, .int .u8 2, .int .i64 (-5)]] w fun e w' => e = .returned (.tuple #[.agg #[.int .i64 (-15), .int .i64 (-10), .int .i64 30, .int .i64 20], .int .i64 0]) ∧ w.grownBy w' none := by
  have h := homeC 2 30 20 2 (-5) (by decide) w
  rw [ck30, show homeV 2 30 20 2 (-5) = #[.int .i64 (-15), .int .i64 (-10), .int .i64 30, .int .i64 20] from by unfold homeV; rw [if_pos ck30]; rfl] at h
  exact h
theorem aHas1 (w : World) : Calls Tryd.prog 12 #[.agg #[.int .u8 2, .int .i64 30, .int .i64 20, .int .u8 2, .int .i64 (-5)], .agg #[.int .i64 14, .int .i64 9]] w fun e w' => e = .returned (.tuple #[.bool true, .int .i64 0]) ∧ w.grownBy w' none := by
  have h := hasC 2 30 20 2 (-5) 14 9 (by decide) w
  rw [show hasV 2 30 20 2 (-5) 14 9 = true by decide, show hasE 2 30 20 2 (-5) 14 9 = 0 by decide] at h
  exact h
theorem aHas2 (w : World) : Calls Tryd.prog 12 #[.agg #[.int .u8 2, .int .i64 30, .int .i64 20, .int .u8 2, .int .i64 (-5)], .agg #[.int .i64 15, .int .i64 9]] w fun e w' => e = .returned (.tuple #[.bool false, .int .i64 0]) ∧ w.grownBy w' none := by
  have h := hasC 2 30 20 2 (-5) 15 9 (by decide) w
  rw [show hasV 2 30 20 2 (-5) 15 9 = false by decide, show hasE 2 30 20 2 (-5) 15 9 = 0 by decide] at h
  exact h

set_option maxHeartbeats 4000000 in
theorem aliveC (w : World) (tp : TypeId) (p : Value) (hE : Hid (En tp p w)) (ht : Hid (Tab w)) : Calls Tryd.prog 7 #[] w fun e w' => e = .returned (.bool true) ∧ w.grownBy w' none := by
  go_enter Tryd.func7, Tryd.ntmps7
  go_wp2_with (first | (go_at_call_of 15 (Value.string ⟨#[84, 51, 48, 44, 50, 48, 45, 53]⟩); (fail_if_success (guard_hyp g1)); refine (aParse _ tp p hE).mono ?_; rintro e w1 ⟨rfl, g1⟩; obtain ⟨W2, hW2, sz2, g2, B2⟩ := boxn w1 #[.int .u8 2, .int .i64 30, .int .i64 20, .int .u8 2, .int .i64 (-5)] 23; have G2 := gb_trans g1 g2; have b2_2_0 := B2.cell 0 (v := .int .u8 2) rfl; have b2_2_1 := B2.cell 1 (v := .int .i64 30) rfl; have b2_2_2 := B2.cell 2 (v := .int .i64 20) rfl; have b2_2_3 := B2.cell 3 (v := .int .u8 2) rfl; have b2_2_4 := B2.cell 4 (v := .int .i64 (-5)) rfl) | (go_at_call 16; (fail_if_success (guard_hyp g3)); refine (aPrint _ (tabK ht G2) (enK hE G2).out.2.2).mono ?_; rintro e w3 ⟨rfl, g3⟩; have G3 := gb_trans G2 g3; have B2x := B2.kept g3 (by simp); have b2_3_0 := B2x.cell 0 (v := .int .u8 2) rfl; have b2_3_1 := B2x.cell 1 (v := .int .i64 30) rfl; have b2_3_2 := B2x.cell 2 (v := .int .i64 20) rfl; have b2_3_3 := B2x.cell 3 (v := .int .u8 2) rfl; have b2_3_4 := B2x.cell 4 (v := .int .i64 (-5)) rfl) | (go_at_call 8; (fail_if_success (guard_hyp g4)); refine (aHome _).mono ?_; rintro e w4 ⟨rfl, g4⟩; have G4 := gb_trans G3 g4; have B2xx := B2x.kept g4 (by simp); obtain ⟨W5, hW5, sz5, g5, B5⟩ := boxn w4 #[.int .i64 (-15), .int .i64 (-10), .int .i64 30, .int .i64 20] 26; have G5 := gb_trans G4 g5; have B2xxx := B2xx.kept g5 (by simp); have b2_5_0 := B2xxx.cell 0 (v := .int .u8 2) rfl; have b2_5_1 := B2xxx.cell 1 (v := .int .i64 30) rfl; have b2_5_2 := B2xxx.cell 2 (v := .int .i64 20) rfl; have b2_5_3 := B2xxx.cell 3 (v := .int .u8 2) rfl; have b2_5_4 := B2xxx.cell 4 (v := .int .i64 (-5)) rfl; have b5_5_0 := B5.cell 0 (v := .int .i64 (-15)) rfl; have b5_5_1 := B5.cell 1 (v := .int .i64 (-10)) rfl; have b5_5_2 := B5.cell 2 (v := .int .i64 30) rfl; have b5_5_3 := B5.cell 3 (v := .int .i64 20) rfl) | (go_at_call_of 12 (Value.agg #[Value.int IntKind.i64 14, Value.int IntKind.i64 9]); (fail_if_success (guard_hyp g6)); refine (aHas1 _).mono ?_; rintro e w6 ⟨rfl, g6⟩; have G6 := gb_trans G5 g6; have B2xxxx := B2xxx.kept g6 (by simp); have B5x := B5.kept g6 (by simp); have b2_6_0 := B2xxxx.cell 0 (v := .int .u8 2) rfl; have b2_6_1 := B2xxxx.cell 1 (v := .int .i64 30) rfl; have b2_6_2 := B2xxxx.cell 2 (v := .int .i64 20) rfl; have b2_6_3 := B2xxxx.cell 3 (v := .int .u8 2) rfl; have b2_6_4 := B2xxxx.cell 4 (v := .int .i64 (-5)) rfl; have b5_6_0 := B5x.cell 0 (v := .int .i64 (-15)) rfl; have b5_6_1 := B5x.cell 1 (v := .int .i64 (-10)) rfl; have b5_6_2 := B5x.cell 2 (v := .int .i64 30) rfl; have b5_6_3 := B5x.cell 3 (v := .int .i64 20) rfl) | (go_at_call_of 12 (Value.agg #[Value.int IntKind.i64 15, Value.int IntKind.i64 9]); (fail_if_success (guard_hyp g7)); refine (aHas2 _).mono ?_; rintro e w7 ⟨rfl, g7⟩; have G7 := gb_trans G6 g7; have B2xxxxx := B2xxxx.kept g7 (by simp); have B5xx := B5x.kept g7 (by simp); have b2_7_0 := B2xxxxx.cell 0 (v := .int .u8 2) rfl; have b2_7_1 := B2xxxxx.cell 1 (v := .int .i64 30) rfl; have b2_7_2 := B2xxxxx.cell 2 (v := .int .i64 20) rfl; have b2_7_3 := B2xxxxx.cell 3 (v := .int .u8 2) rfl; have b2_7_4 := B2xxxxx.cell 4 (v := .int .i64 (-5)) rfl; have b5_7_0 := B5xx.cell 0 (v := .int .i64 (-15)) rfl; have b5_7_1 := B5xx.cell 1 (v := .int .i64 (-10)) rfl; have b5_7_2 := B5xx.cell 2 (v := .int .i64 30) rfl; have b5_7_3 := B5xx.cell 3 (v := .int .i64 20) rfl) | (go_at_call_of 15 (Value.string ⟨#[75, 51, 44, 52]⟩); (fail_if_success (guard_hyp g8)); refine (aParseK _ tp p (enK hE G7)).mono ?_; rintro e w8 ⟨rfl, g8⟩; have G8 := gb_trans G7 g8; have B2xxxxxx := B2xxxxx.kept g8 (by simp); have B5xxx := B5xx.kept g8 (by simp); have g9 : w8.grownBy (w8.alloc (.cells #[.int .u8 0, .int .i64 0, .int .i64 0, .int .u8 0, .int .i64 0] 23)) none := World.grownBy_alloc _ _ _; have G9 := gb_trans G8 g9; have B2xxxxxxx := B2xxxxxx.kept g9 (by simp); have B5xxxx := B5xxx.kept g9 (by simp); obtain ⟨W10, hW10, sz10, g10, B10⟩ := boxn (w8.alloc (.cells #[.int .u8 0, .int .i64 0, .int .i64 0, .int .u8 0, .int .i64 0] 23)) #[.int .u8 2, .int .i64 30, .int .i64 20, .int .u8 2, .int .i64 (-5)] 23; have G10 := gb_trans G9 g10; have B2xxxxxxxx := B2xxxxxxx.kept g10 (by simp); have B5xxxxx := B5xxxx.kept g10 (by simp); have b2_10_0 := B2xxxxxxxx.cell 0 (v := .int .u8 2) rfl; have b2_10_1 := B2xxxxxxxx.cell 1 (v := .int .i64 30) rfl; have b2_10_2 := B2xxxxxxxx.cell 2 (v := .int .i64 20) rfl; have b2_10_3 := B2xxxxxxxx.cell 3 (v := .int .u8 2) rfl; have b2_10_4 := B2xxxxxxxx.cell 4 (v := .int .i64 (-5)) rfl; have b5_10_0 := B5xxxxx.cell 0 (v := .int .i64 (-15)) rfl; have b5_10_1 := B5xxxxx.cell 1 (v := .int .i64 (-10)) rfl; have b5_10_2 := B5xxxxx.cell 2 (v := .int .i64 30) rfl; have b5_10_3 := B5xxxxx.cell 3 (v := .int .i64 20) rfl; have b10_10_0 : W10.cell? ⟨w8.heap.size + 1, 0, none⟩ = some (.int .u8 2) := (by simpa using B10.cell 0 (v := .int .u8 2) rfl); have b10_10_1 : W10.cell? ⟨w8.heap.size + 1, 1, none⟩ = some (.int .i64 30) := (by simpa using B10.cell 1 (v := .int .i64 30) rfl); have b10_10_2 : W10.cell? ⟨w8.heap.size + 1, 2, none⟩ = some (.int .i64 20) := (by simpa using B10.cell 2 (v := .int .i64 20) rfl); have b10_10_3 : W10.cell? ⟨w8.heap.size + 1, 3, none⟩ = some (.int .u8 2) := (by simpa using B10.cell 3 (v := .int .u8 2) rfl); have b10_10_4 : W10.cell? ⟨w8.heap.size + 1, 4, none⟩ = some (.int .i64 (-5)) := (by simpa using B10.cell 4 (v := .int .i64 (-5)) rfl)))
  all_goals first | go_ret | (go_quiet (fail); go_wp2; go_ret)
  all_goals exact ⟨rfl, by first | exact G10 | exact gb_drewN G10 _⟩
end Go.Proofs.YteegbhnfkcbnoabDoor
