/- What the smallest functions of package fold answer: tiles, remainders, odd numbers; and whole.Near. -/
import Derived.Test.YthjiiljglgmkpaaGreatDoorNums
import Derived.Test.YthjiiljglgmkpaaGreatDoorParts
import Derived.Test.YthjiiljglgmkpaaGreatDoorFo
import Derived.Test.YthjiiljglgmkpaaGreatDoorIx
import Derived.Laws.BitsLemmas
import Derived.Test.YthjiiljglgmkpaaGreatDoorTa
namespace Go.Proofs.YthjiiljglgmkpaaGreatDoor.Fd
open Go.RowKit
set_option linter.unusedVariables false
set_option linter.unusedSimpArgs false
set_option maxRecDepth 100000

theorem retI {a b : Int} (h : a = b) : Ending.returned (.int .i64 a) = .returned (.int .i64 b) := by rw [h]
theorem retB {a b : Bool} (h : a = b) : Ending.returned (.bool a) = .returned (.bool b) := by rw [h]
theorem and1 (n : Int) : bits .and .i64 n 1 = n % 2 := by
  have h1 : (BitVec.ofInt 64 1).toNat = 2 ^ 1 - 1 := by decide
  have key : (BitVec.ofInt 64 n &&& BitVec.ofInt 64 1).toNat = (n % ((2 ^ 64 : Nat) : Int)).toNat % 2 ^ 1 := by
    rw [BitVec.toNat_and, BitVec.toNat_ofInt, h1, Nat.and_two_pow_sub_one_eq_mod]
  show IntKind.i64.wrap ((BitVec.ofInt 64 n &&& BitVec.ofInt 64 1).toNat : Nat) = n % 2
  rw [key, IntKind.wrap_i64]
  omega
/-- Is a number odd? -/
def odB (n : Int) : Bool := decide (n % 2 = 1)
theorem isOddC (n : Int) (w : World) : Calls Tryz.prog 150 #[.int .i64 n] w fun e w' => e = .returned (.bool (odB n)) ∧ w' = w := by
  have h := and1 n
  by_cases q : n % 2 = 1
  all_goals
    go_enter Tryz.func150, Tryz.ntmps150
    go_wp2
    go_ret
    refine ⟨retB ?_, rfl⟩
    unfold odB
    simp [h, q]
  omega
theorem tileOfC (n l : Int) (h1 : -9223372036854775808 ≤ n) (h2 : n ≤ 9223372036854775807) (h3 : -9223372036854775808 ≤ l) (h4 : l ≤ 9223372036854775807) (w : World) : Calls Tryz.prog 137 #[.int .i64 n, .int .i64 l] w fun e w' => e = .returned (.int .i64 (Nm.divZ n l)) ∧ w' = w := by
  have hd := fun w => divI n l w h1 h2 h3 h4
  go_enter Tryz.func137, Tryz.ntmps137
  go_wp2_with (first | (go_at_call 143; refine (hd _).mono ?_; rintro e w' ⟨rfl, hw'⟩; subst w'))
  go_ret
  exact ⟨rfl, rfl⟩
theorem withinC (n l : Int) (h1 : -9223372036854775808 ≤ n) (h2 : n ≤ 9223372036854775807) (h3 : -9223372036854775808 ≤ l) (h4 : l ≤ 9223372036854775807) (w : World) : Calls Tryz.prog 153 #[.int .i64 n, .int .i64 l] w fun e w' => e = .returned (.int .i64 (Fo.wi n l)) ∧ w' = w := by
  have hd := fun w => modI n l w h1 h2 h3 h4
  by_cases q : l < 1
  · rw [Nm.posB_no q] at hd
    have HX : Hid (Fo.wi n l = n) := by unfold Hid Fo.wi; rw [if_pos q]
    go_enter Tryz.func153, Tryz.ntmps153
    go_wp2_with (first | (go_at_call 154; refine (hd _).mono ?_; rintro e w' ⟨rfl, hw'⟩; subst w'))
    go_ret
    exact ⟨retI HX.out.symm, rfl⟩
  · rw [Nm.posB_yes (by omega)] at hd
    have HX : Hid (Fo.wi n l = Nm.modZ n l) := by unfold Hid Fo.wi Nm.modZ; rw [if_neg q, if_neg q]
    go_enter Tryz.func153, Tryz.ntmps153
    go_wp2_with (first | (go_at_call 154; refine (hd _).mono ?_; rintro e w' ⟨rfl, hw'⟩; subst w'))
    go_ret
    exact ⟨retI HX.out.symm, rfl⟩
/-- Does a home number lie on the side or beside it? -/
def toB (n l : Int) : Bool := decide (l = 0) || (decide (-1 ≤ n) && decide (n ≤ l))
theorem touchesC (n l : Int) (w : World) : Calls Tryz.prog 138 #[.int .i64 n, .int .i64 l] w fun e w' => e = .returned (.bool (toB n l)) ∧ w' = w := by
  by_cases h0 : l = 0
  · subst h0
    go_enter Tryz.func138, Tryz.ntmps138
    go_wp2
    go_ret
    exact ⟨retB (by simp [toB]), rfl⟩
  · by_cases h1 : -1 ≤ n <;> by_cases h2 : n ≤ l
    all_goals
      go_enter Tryz.func138, Tryz.ntmps138
      go_wp2
      all_goals go_ret
      all_goals refine ⟨retB ?_, rfl⟩
      all_goals have e0 : (l == 0) = false := beq_eq_false_iff_ne.2 h0
      all_goals have e1 : decide (l = 0) = false := decide_eq_false h0
      all_goals unfold toB
      all_goals try rw [e0]
      all_goals rw [e1]
      all_goals first | (rw [decide_eq_true (by omega : -1 ≤ n), decide_eq_true (by omega : n ≤ l)]; done) | (rw [decide_eq_true (by omega : -1 ≤ n), decide_eq_false (by omega : ¬ n ≤ l)]; done) | (rw [decide_eq_false (by omega : ¬ -1 ≤ n)]; done) | (rw [decide_eq_true (by omega : -1 ≤ n), decide_eq_true (by omega : n ≤ l)]; rfl) | (rw [decide_eq_true (by omega : -1 ≤ n), decide_eq_false (by omega : ¬ n ≤ l)]; rfl) | (rw [decide_eq_false (by omega : ¬ -1 ≤ n)]; rfl)
/-- What a fault of the topology is told as, or of the place. -/
theorem nearC (v lo hi : Int) (w : World) : Calls Tryz.prog 151 #[.int .i64 v, .int .i64 lo, .int .i64 hi] w fun e w' => e = .returned (.int .i64 (Nm.nearZ v lo hi)) ∧ w' = w := by
  go_enter Tryz.func151, Tryz.ntmps151
  go_wp2
  all_goals go_ret
  all_goals refine ⟨retI ?_, rfl⟩
  all_goals simp only [Nm.nearZ]
  all_goals repeat' split
  all_goals omega
end Go.Proofs.YthjiiljglgmkpaaGreatDoor.Fd
namespace Go.Proofs.YthjiiljglgmkpaaGreatDoor.Fd
open Go.RowKit
set_option linter.unusedVariables false
set_option linter.unusedSimpArgs false
set_option maxRecDepth 100000

theorem underG : ∃ fs, Tryz.prog.underlying 198 = some (.struct fs) := by
  first | exact ⟨_, Tryz.underlying198⟩ | exact ⟨_, by kernel_rfl⟩
theorem infoG : (Tryz.prog.info? 198).map (·.size) = some 9 := by kernel_rfl
theorem underS : ∃ fs, Tryz.prog.underlying 200 = some (.struct fs) := by
  first | exact ⟨_, Tryz.underlying200⟩ | exact ⟨_, by kernel_rfl⟩
theorem infoS : (Tryz.prog.info? 200).map (·.size) = some 14 := by kernel_rfl
theorem bo9 {w : World} {g : Nat} {t : TypeId} {x0 x1 x2 x3 x4 x5 x6 x7 x8 u0 u1 u2 u3 u4 u5 u6 u7 u8 : Value} (h : Bo w g t #[x0, x1, x2, x3, x4, x5, x6, x7, x8]) : Bo (((((((((w.setCell ⟨g, 0, none⟩ u0).setCell ⟨g, 1, none⟩ u1).setCell ⟨g, 2, none⟩ u2).setCell ⟨g, 3, none⟩ u3).setCell ⟨g, 4, none⟩ u4).setCell ⟨g, 5, none⟩ u5).setCell ⟨g, 6, none⟩ u6).setCell ⟨g, 7, none⟩ u7).setCell ⟨g, 8, none⟩ u8) g t #[u0, u1, u2, u3, u4, u5, u6, u7, u8] := by
  simpa using (((((((((h.set 0 u0).set 1 u1).set 2 u2).set 3 u3).set 4 u4).set 5 u5).set 6 u6).set 7 u7).set 8 u8)
theorem gb9 {w w' : World} {g : Nat} {u0 u1 u2 u3 u4 u5 u6 u7 u8 : Value} (h : w.grownBy w' none) (hb : w.heap.size ≤ g) : w.grownBy (((((((((w'.setCell ⟨g, 0, none⟩ u0).setCell ⟨g, 1, none⟩ u1).setCell ⟨g, 2, none⟩ u2).setCell ⟨g, 3, none⟩ u3).setCell ⟨g, 4, none⟩ u4).setCell ⟨g, 5, none⟩ u5).setCell ⟨g, 6, none⟩ u6).setCell ⟨g, 7, none⟩ u7).setCell ⟨g, 8, none⟩ u8) none := (gb_new (gb_new (gb_new (gb_new (gb_new (gb_new (gb_new (gb_new (gb_new h hb _) hb _) hb _) hb _) hb _) hb _) hb _) hb _) hb _)
theorem bo14 {w : World} {g : Nat} {t : TypeId} {x0 x1 x2 x3 x4 x5 x6 x7 x8 x9 x10 x11 x12 x13 u0 u1 u2 u3 u4 u5 u6 u7 u8 u9 u10 u11 u12 u13 : Value} (h : Bo w g t #[x0, x1, x2, x3, x4, x5, x6, x7, x8, x9, x10, x11, x12, x13]) : Bo ((((((((((((((w.setCell ⟨g, 0, none⟩ u0).setCell ⟨g, 1, none⟩ u1).setCell ⟨g, 2, none⟩ u2).setCell ⟨g, 3, none⟩ u3).setCell ⟨g, 4, none⟩ u4).setCell ⟨g, 5, none⟩ u5).setCell ⟨g, 6, none⟩ u6).setCell ⟨g, 7, none⟩ u7).setCell ⟨g, 8, none⟩ u8).setCell ⟨g, 9, none⟩ u9).setCell ⟨g, 10, none⟩ u10).setCell ⟨g, 11, none⟩ u11).setCell ⟨g, 12, none⟩ u12).setCell ⟨g, 13, none⟩ u13) g t #[u0, u1, u2, u3, u4, u5, u6, u7, u8, u9, u10, u11, u12, u13] := by
  simpa using ((((((((((((((h.set 0 u0).set 1 u1).set 2 u2).set 3 u3).set 4 u4).set 5 u5).set 6 u6).set 7 u7).set 8 u8).set 9 u9).set 10 u10).set 11 u11).set 12 u12).set 13 u13)
theorem gb14 {w w' : World} {g : Nat} {u0 u1 u2 u3 u4 u5 u6 u7 u8 u9 u10 u11 u12 u13 : Value} (h : w.grownBy w' none) (hb : w.heap.size ≤ g) : w.grownBy ((((((((((((((w'.setCell ⟨g, 0, none⟩ u0).setCell ⟨g, 1, none⟩ u1).setCell ⟨g, 2, none⟩ u2).setCell ⟨g, 3, none⟩ u3).setCell ⟨g, 4, none⟩ u4).setCell ⟨g, 5, none⟩ u5).setCell ⟨g, 6, none⟩ u6).setCell ⟨g, 7, none⟩ u7).setCell ⟨g, 8, none⟩ u8).setCell ⟨g, 9, none⟩ u9).setCell ⟨g, 10, none⟩ u10).setCell ⟨g, 11, none⟩ u11).setCell ⟨g, 12, none⟩ u12).setCell ⟨g, 13, none⟩ u13) none := (gb_new (gb_new (gb_new (gb_new (gb_new (gb_new (gb_new (gb_new (gb_new (gb_new (gb_new (gb_new (gb_new (gb_new h hb _) hb _) hb _) hb _) hb _) hb _) hb _) hb _) hb _) hb _) hb _) hb _) hb _) hb _)

theorem homeE (k x y t z : Int) (ht : 0 ≤ t) (h : Tp.chk k x y t z = 0) (w : World) : Calls Tryz.prog 84 #[.agg #[.int .u8 k, .int .i64 x, .int .i64 y, .int .u8 t, .int .i64 z]] w fun e w' => e = .returned (.tuple #[.agg #[.int .i64 (To.fi x), .int .i64 (To.fi y), .int .i64 x, .int .i64 y], .int .i64 0]) ∧ w.grownBy w' none := by
  have := To.homeC k x y t z ht w
  unfold To.homeV at this
  rw [if_pos h, h] at this
  exact this
theorem homeX (k x y t z : Int) (ht : 0 ≤ t) (h : ¬ Tp.chk k x y t z = 0) (w : World) : Calls Tryz.prog 84 #[.agg #[.int .u8 k, .int .i64 x, .int .i64 y, .int .u8 t, .int .i64 z]] w fun e w' => e = .returned (.tuple #[.agg #[.int .i64 0, .int .i64 0, .int .i64 0, .int .i64 0], .int .i64 (Tp.chk k x y t z)]) ∧ w.grownBy w' none := by
  have := To.homeC k x y t z ht w
  unfold To.homeV at this
  rw [if_neg h] at this
  exact this

set_option maxHeartbeats 1000000 in
theorem gridNo (k x y t z : Int) (ht : 0 ≤ t) (h : ¬ Tp.chk k x y t z = 0) (w : World) : Calls Tryz.prog 135 #[.agg #[.int .u8 k, .int .i64 x, .int .i64 y, .int .u8 t, .int .i64 z]] w fun e w' => e = .returned (.tuple #[.agg #[.int .u8 0, .int .i64 0, .int .i64 0, .int .u8 0, .int .i64 0, .int .i64 0, .int .i64 0, .int .i64 0, .int .i64 0], .int .i64 9]) ∧ w.grownBy w' none := by
  obtain ⟨fs, hfs⟩ := underG
  have hh := homeX k x y t z ht h
  have hb : ((Tp.chk k x y t z) == 0) = false := beq_eq_false_iff_ne.2 h
  generalize Tp.chk k x y t z = er at *
  obtain ⟨W1, hW1, sz1, g1, B1⟩ := boxn w #[.int .u8 k, .int .i64 x, .int .i64 y, .int .u8 t, .int .i64 z] 30
  obtain ⟨W2, hW2, sz2, g2, B2⟩ := boxn W1 #[.int .u8 0, .int .i64 0, .int .i64 0, .int .u8 0, .int .i64 0, .int .i64 0, .int .i64 0, .int .i64 0, .int .i64 0] 198
  have G2 := gb_trans g1 g2
  have B1x := B1.kept g2 (by simp)
  have b1_2_0 := B1x.cell 0 (v := .int .u8 k) rfl
  have b1_2_1 := B1x.cell 1 (v := .int .i64 x) rfl
  have b1_2_2 := B1x.cell 2 (v := .int .i64 y) rfl
  have b1_2_3 := B1x.cell 3 (v := .int .u8 t) rfl
  have b1_2_4 := B1x.cell 4 (v := .int .i64 z) rfl
  have b2_2_0 := B2.cell 0 (v := .int .u8 0) rfl
  have b2_2_1 := B2.cell 1 (v := .int .i64 0) rfl
  have b2_2_2 := B2.cell 2 (v := .int .i64 0) rfl
  have b2_2_3 := B2.cell 3 (v := .int .u8 0) rfl
  have b2_2_4 := B2.cell 4 (v := .int .i64 0) rfl
  have b2_2_5 := B2.cell 5 (v := .int .i64 0) rfl
  have b2_2_6 := B2.cell 6 (v := .int .i64 0) rfl
  have b2_2_7 := B2.cell 7 (v := .int .i64 0) rfl
  have b2_2_8 := B2.cell 8 (v := .int .i64 0) rfl
  have zb2_2_0 := B2.frozen 0
  have zb2_2_1 := B2.frozen 1
  have zb2_2_2 := B2.frozen 2
  have zb2_2_3 := B2.frozen 3
  have zb2_2_4 := B2.frozen 4
  have zb2_2_5 := B2.frozen 5
  have zb2_2_6 := B2.frozen 6
  have zb2_2_7 := B2.frozen 7
  have zb2_2_8 := B2.frozen 8
  go_enter Tryz.func135, Tryz.ntmps135
  go_wp2_with (first | (go_at_call 84; (fail_if_success (guard_hyp g3)); refine (hh _).mono ?_; rintro e w3 ⟨rfl, g3⟩; have G3 := gb_trans G2 g3; have B1xx := B1x.kept g3 (by simp); have B2x := B2.kept g3 (by simp); obtain ⟨W4, hW4, sz4, g4, B4⟩ := boxn w3 #[.int .i64 0, .int .i64 0, .int .i64 0, .int .i64 0] 131; have G4 := gb_trans G3 g4; have B1xxx := B1xx.kept g4 (by simp); have B2xx := B2x.kept g4 (by simp); have sm4_0 := Bo.same B4 0 (v := .int .i64 0) rfl; have sm4_1 := Bo.same B4 1 (v := .int .i64 0) rfl; have sm4_2 := Bo.same B4 2 (v := .int .i64 0) rfl; have sm4_3 := Bo.same B4 3 (v := .int .i64 0) rfl; have fz4_0 := B4.frozen 0; have fz4_1 := B4.frozen 1; have fz4_2 := B4.frozen 2; have fz4_3 := B4.frozen 3; clear b1_2_0 b1_2_1 b1_2_2 b1_2_3 b1_2_4 b2_2_0 b2_2_1 b2_2_2 b2_2_3 b2_2_4 b2_2_5 b2_2_6 b2_2_7 b2_2_8 zb2_2_0 zb2_2_1 zb2_2_2 zb2_2_3 zb2_2_4 zb2_2_5 zb2_2_6 zb2_2_7 zb2_2_8; have b1_4_0 := B1xxx.cell 0 (v := .int .u8 k) rfl; have b1_4_1 := B1xxx.cell 1 (v := .int .i64 x) rfl; have b1_4_2 := B1xxx.cell 2 (v := .int .i64 y) rfl; have b1_4_3 := B1xxx.cell 3 (v := .int .u8 t) rfl; have b1_4_4 := B1xxx.cell 4 (v := .int .i64 z) rfl; have b2_4_0 := B2xx.cell 0 (v := .int .u8 0) rfl; have b2_4_1 := B2xx.cell 1 (v := .int .i64 0) rfl; have b2_4_2 := B2xx.cell 2 (v := .int .i64 0) rfl; have b2_4_3 := B2xx.cell 3 (v := .int .u8 0) rfl; have b2_4_4 := B2xx.cell 4 (v := .int .i64 0) rfl; have b2_4_5 := B2xx.cell 5 (v := .int .i64 0) rfl; have b2_4_6 := B2xx.cell 6 (v := .int .i64 0) rfl; have b2_4_7 := B2xx.cell 7 (v := .int .i64 0) rfl; have b2_4_8 := B2xx.cell 8 (v := .int .i64 0) rfl; have zb2_4_0 := B2xx.frozen 0; have zb2_4_1 := B2xx.frozen 1; have zb2_4_2 := B2xx.frozen 2; have zb2_4_3 := B2xx.frozen 3; have zb2_4_4 := B2xx.frozen 4; have zb2_4_5 := B2xx.frozen 5; have zb2_4_6 := B2xx.frozen 6; have zb2_4_7 := B2xx.frozen 7; have zb2_4_8 := B2xx.frozen 8; have b4_4_0 := B4.cell 0 (v := .int .i64 0) rfl; have b4_4_1 := B4.cell 1 (v := .int .i64 0) rfl; have b4_4_2 := B4.cell 2 (v := .int .i64 0) rfl; have b4_4_3 := B4.cell 3 (v := .int .i64 0) rfl))
  refine ret_c2 (g := W1.heap.size) (cs := #[.int .u8 0, .int .i64 0, .int .i64 0, .int .u8 0, .int .i64 0, .int .i64 0, .int .i64 0, .int .i64 0, .int .i64 0]) rfl hfs infoG rfl (bo9 B2xx) rfl ⟨rfl, gb9 G4 g1.size⟩

set_option maxHeartbeats 1000000 in
theorem gridYes (k x y t z : Int) (ht : 0 ≤ t) (h : Tp.chk k x y t z = 0) (w : World) : Calls Tryz.prog 135 #[.agg #[.int .u8 k, .int .i64 x, .int .i64 y, .int .u8 t, .int .i64 z]] w fun e w' => e = .returned (.tuple #[.agg #[.int .u8 k, .int .i64 x, .int .i64 y, .int .u8 t, .int .i64 z, .int .i64 (To.fi x), .int .i64 (To.fi y), .int .i64 x, .int .i64 y], .int .i64 0]) ∧ w.grownBy w' none := by
  obtain ⟨fs, hfs⟩ := underG
  have hh := homeE k x y t z ht h
  clear h
  obtain ⟨W1, hW1, sz1, g1, B1⟩ := boxn w #[.int .u8 k, .int .i64 x, .int .i64 y, .int .u8 t, .int .i64 z] 30
  obtain ⟨W2, hW2, sz2, g2, B2⟩ := boxn W1 #[.int .u8 0, .int .i64 0, .int .i64 0, .int .u8 0, .int .i64 0, .int .i64 0, .int .i64 0, .int .i64 0, .int .i64 0] 198
  have G2 := gb_trans g1 g2
  have B1x := B1.kept g2 (by simp)
  have b1_2_0 := B1x.cell 0 (v := .int .u8 k) rfl
  have b1_2_1 := B1x.cell 1 (v := .int .i64 x) rfl
  have b1_2_2 := B1x.cell 2 (v := .int .i64 y) rfl
  have b1_2_3 := B1x.cell 3 (v := .int .u8 t) rfl
  have b1_2_4 := B1x.cell 4 (v := .int .i64 z) rfl
  have b2_2_0 := B2.cell 0 (v := .int .u8 0) rfl
  have b2_2_1 := B2.cell 1 (v := .int .i64 0) rfl
  have b2_2_2 := B2.cell 2 (v := .int .i64 0) rfl
  have b2_2_3 := B2.cell 3 (v := .int .u8 0) rfl
  have b2_2_4 := B2.cell 4 (v := .int .i64 0) rfl
  have b2_2_5 := B2.cell 5 (v := .int .i64 0) rfl
  have b2_2_6 := B2.cell 6 (v := .int .i64 0) rfl
  have b2_2_7 := B2.cell 7 (v := .int .i64 0) rfl
  have b2_2_8 := B2.cell 8 (v := .int .i64 0) rfl
  have zb2_2_0 := B2.frozen 0
  have zb2_2_1 := B2.frozen 1
  have zb2_2_2 := B2.frozen 2
  have zb2_2_3 := B2.frozen 3
  have zb2_2_4 := B2.frozen 4
  have zb2_2_5 := B2.frozen 5
  have zb2_2_6 := B2.frozen 6
  have zb2_2_7 := B2.frozen 7
  have zb2_2_8 := B2.frozen 8
  go_enter Tryz.func135, Tryz.ntmps135
  go_wp2_with (first | (go_at_call 84; (fail_if_success (guard_hyp g3)); refine (hh _).mono ?_; rintro e w3 ⟨rfl, g3⟩; have G3 := gb_trans G2 g3; have B1xx := B1x.kept g3 (by simp); have B2x := B2.kept g3 (by simp); obtain ⟨W4, hW4, sz4, g4, B4⟩ := boxn w3 #[.int .i64 (To.fi x), .int .i64 (To.fi y), .int .i64 x, .int .i64 y] 131; have G4 := gb_trans G3 g4; have B1xxx := B1xx.kept g4 (by simp); have B2xx := B2x.kept g4 (by simp); clear b1_2_0 b1_2_1 b1_2_2 b1_2_3 b1_2_4 b2_2_0 b2_2_1 b2_2_2 b2_2_3 b2_2_4 b2_2_5 b2_2_6 b2_2_7 b2_2_8 zb2_2_0 zb2_2_1 zb2_2_2 zb2_2_3 zb2_2_4 zb2_2_5 zb2_2_6 zb2_2_7 zb2_2_8; have b1_4_0 := B1xxx.cell 0 (v := .int .u8 k) rfl; have b1_4_1 := B1xxx.cell 1 (v := .int .i64 x) rfl; have b1_4_2 := B1xxx.cell 2 (v := .int .i64 y) rfl; have b1_4_3 := B1xxx.cell 3 (v := .int .u8 t) rfl; have b1_4_4 := B1xxx.cell 4 (v := .int .i64 z) rfl; have b2_4_0 := B2xx.cell 0 (v := .int .u8 0) rfl; have b2_4_1 := B2xx.cell 1 (v := .int .i64 0) rfl; have b2_4_2 := B2xx.cell 2 (v := .int .i64 0) rfl; have b2_4_3 := B2xx.cell 3 (v := .int .u8 0) rfl; have b2_4_4 := B2xx.cell 4 (v := .int .i64 0) rfl; have b2_4_5 := B2xx.cell 5 (v := .int .i64 0) rfl; have b2_4_6 := B2xx.cell 6 (v := .int .i64 0) rfl; have b2_4_7 := B2xx.cell 7 (v := .int .i64 0) rfl; have b2_4_8 := B2xx.cell 8 (v := .int .i64 0) rfl; have zb2_4_0 := B2xx.frozen 0; have zb2_4_1 := B2xx.frozen 1; have zb2_4_2 := B2xx.frozen 2; have zb2_4_3 := B2xx.frozen 3; have zb2_4_4 := B2xx.frozen 4; have zb2_4_5 := B2xx.frozen 5; have zb2_4_6 := B2xx.frozen 6; have zb2_4_7 := B2xx.frozen 7; have zb2_4_8 := B2xx.frozen 8; have b4_4_0 := B4.cell 0 (v := .int .i64 (To.fi x)) rfl; have b4_4_1 := B4.cell 1 (v := .int .i64 (To.fi y)) rfl; have b4_4_2 := B4.cell 2 (v := .int .i64 x) rfl; have b4_4_3 := B4.cell 3 (v := .int .i64 y) rfl))
  refine ret_c2 (g := W1.heap.size) (cs := #[.int .u8 k, .int .i64 x, .int .i64 y, .int .u8 t, .int .i64 z, .int .i64 (To.fi x), .int .i64 (To.fi y), .int .i64 x, .int .i64 y]) rfl hfs infoG rfl (bo9 B2xx) rfl ⟨rfl, gb9 G4 g1.size⟩

set_option maxHeartbeats 1000000 in
theorem lookNo (k x y t z a b : Int) (ht : 0 ≤ t) (h : ¬ Tp.chk k x y t z = 0) (w : World) : Calls Tryz.prog 124 #[.agg #[.int .u8 k, .int .i64 x, .int .i64 y, .int .u8 t, .int .i64 z], .agg #[.int .i64 a, .int .i64 b]] w fun e w' => e = .returned (.tuple #[.agg #[.int .u8 0, .int .i64 0, .int .i64 0, .int .u8 0, .int .i64 0, .int .i64 0, .int .i64 0, .int .i64 0, .int .i64 0, .int .i64 0, .int .i64 0, .int .i64 0, .int .i64 0, .bool false], .int .i64 9]) ∧ w.grownBy w' none := by
  obtain ⟨fs, hfs⟩ := underS
  have hh := gridNo k x y t z ht h
  clear h
  obtain ⟨W1, hW1, sz1, g1, B1⟩ := boxn w #[.int .u8 k, .int .i64 x, .int .i64 y, .int .u8 t, .int .i64 z] 30
  obtain ⟨W2, hW2, sz2, g2, B2⟩ := boxn W1 #[.int .i64 a, .int .i64 b] 135
  have G2 := gb_trans g1 g2
  have B1x := B1.kept g2 (by simp)
  obtain ⟨W3, hW3, sz3, g3, B3⟩ := boxn W2 #[.int .u8 0, .int .i64 0, .int .i64 0, .int .u8 0, .int .i64 0, .int .i64 0, .int .i64 0, .int .i64 0, .int .i64 0, .int .i64 0, .int .i64 0, .int .i64 0, .int .i64 0, .bool false] 200
  have G3 := gb_trans G2 g3
  have B1xx := B1x.kept g3 (by simp)
  have B2x := B2.kept g3 (by simp)
  have b1_3_0 := B1xx.cell 0 (v := .int .u8 k) rfl
  have b1_3_1 := B1xx.cell 1 (v := .int .i64 x) rfl
  have b1_3_2 := B1xx.cell 2 (v := .int .i64 y) rfl
  have b1_3_3 := B1xx.cell 3 (v := .int .u8 t) rfl
  have b1_3_4 := B1xx.cell 4 (v := .int .i64 z) rfl
  have b2_3_0 := B2x.cell 0 (v := .int .i64 a) rfl
  have b2_3_1 := B2x.cell 1 (v := .int .i64 b) rfl
  have b3_3_0 := B3.cell 0 (v := .int .u8 0) rfl
  have b3_3_1 := B3.cell 1 (v := .int .i64 0) rfl
  have b3_3_2 := B3.cell 2 (v := .int .i64 0) rfl
  have b3_3_3 := B3.cell 3 (v := .int .u8 0) rfl
  have b3_3_4 := B3.cell 4 (v := .int .i64 0) rfl
  have b3_3_5 := B3.cell 5 (v := .int .i64 0) rfl
  have b3_3_6 := B3.cell 6 (v := .int .i64 0) rfl
  have b3_3_7 := B3.cell 7 (v := .int .i64 0) rfl
  have b3_3_8 := B3.cell 8 (v := .int .i64 0) rfl
  have b3_3_9 := B3.cell 9 (v := .int .i64 0) rfl
  have b3_3_10 := B3.cell 10 (v := .int .i64 0) rfl
  have b3_3_11 := B3.cell 11 (v := .int .i64 0) rfl
  have b3_3_12 := B3.cell 12 (v := .int .i64 0) rfl
  have b3_3_13 := B3.cell 13 (v := .bool false) rfl
  have zb3_3_0 := B3.frozen 0
  have zb3_3_1 := B3.frozen 1
  have zb3_3_2 := B3.frozen 2
  have zb3_3_3 := B3.frozen 3
  have zb3_3_4 := B3.frozen 4
  have zb3_3_5 := B3.frozen 5
  have zb3_3_6 := B3.frozen 6
  have zb3_3_7 := B3.frozen 7
  have zb3_3_8 := B3.frozen 8
  have zb3_3_9 := B3.frozen 9
  have zb3_3_10 := B3.frozen 10
  have zb3_3_11 := B3.frozen 11
  have zb3_3_12 := B3.frozen 12
  have zb3_3_13 := B3.frozen 13
  go_enter Tryz.func124, Tryz.ntmps124
  go_wp2_with (first | (go_at_call 135; (fail_if_success (guard_hyp g4)); refine (hh _).mono ?_; rintro e w4 ⟨rfl, g4⟩; have G4 := gb_trans G3 g4; have B1xxx := B1xx.kept g4 (by simp); have B2xx := B2x.kept g4 (by simp); have B3x := B3.kept g4 (by simp); obtain ⟨W5, hW5, sz5, g5, B5⟩ := boxn w4 #[.int .u8 0, .int .i64 0, .int .i64 0, .int .u8 0, .int .i64 0, .int .i64 0, .int .i64 0, .int .i64 0, .int .i64 0] 198; have G5 := gb_trans G4 g5; have B1xxxx := B1xxx.kept g5 (by simp); have B2xxx := B2xx.kept g5 (by simp); have B3xx := B3x.kept g5 (by simp); have sm5_0 := Bo.same B5 0 (v := .int .u8 0) rfl; have sm5_1 := Bo.same B5 1 (v := .int .i64 0) rfl; have sm5_2 := Bo.same B5 2 (v := .int .i64 0) rfl; have sm5_3 := Bo.same B5 3 (v := .int .u8 0) rfl; have sm5_4 := Bo.same B5 4 (v := .int .i64 0) rfl; have sm5_5 := Bo.same B5 5 (v := .int .i64 0) rfl; have sm5_6 := Bo.same B5 6 (v := .int .i64 0) rfl; have sm5_7 := Bo.same B5 7 (v := .int .i64 0) rfl; have sm5_8 := Bo.same B5 8 (v := .int .i64 0) rfl; have fz5_0 := B5.frozen 0; have fz5_1 := B5.frozen 1; have fz5_2 := B5.frozen 2; have fz5_3 := B5.frozen 3; have fz5_4 := B5.frozen 4; have fz5_5 := B5.frozen 5; have fz5_6 := B5.frozen 6; have fz5_7 := B5.frozen 7; have fz5_8 := B5.frozen 8; clear b1_3_0 b1_3_1 b1_3_2 b1_3_3 b1_3_4 b2_3_0 b2_3_1 b3_3_0 b3_3_1 b3_3_2 b3_3_3 b3_3_4 b3_3_5 b3_3_6 b3_3_7 b3_3_8 b3_3_9 b3_3_10 b3_3_11 b3_3_12 b3_3_13 zb3_3_0 zb3_3_1 zb3_3_2 zb3_3_3 zb3_3_4 zb3_3_5 zb3_3_6 zb3_3_7 zb3_3_8 zb3_3_9 zb3_3_10 zb3_3_11 zb3_3_12 zb3_3_13; have b1_5_0 := B1xxxx.cell 0 (v := .int .u8 k) rfl; have b1_5_1 := B1xxxx.cell 1 (v := .int .i64 x) rfl; have b1_5_2 := B1xxxx.cell 2 (v := .int .i64 y) rfl; have b1_5_3 := B1xxxx.cell 3 (v := .int .u8 t) rfl; have b1_5_4 := B1xxxx.cell 4 (v := .int .i64 z) rfl; have b2_5_0 := B2xxx.cell 0 (v := .int .i64 a) rfl; have b2_5_1 := B2xxx.cell 1 (v := .int .i64 b) rfl; have b3_5_0 := B3xx.cell 0 (v := .int .u8 0) rfl; have b3_5_1 := B3xx.cell 1 (v := .int .i64 0) rfl; have b3_5_2 := B3xx.cell 2 (v := .int .i64 0) rfl; have b3_5_3 := B3xx.cell 3 (v := .int .u8 0) rfl; have b3_5_4 := B3xx.cell 4 (v := .int .i64 0) rfl; have b3_5_5 := B3xx.cell 5 (v := .int .i64 0) rfl; have b3_5_6 := B3xx.cell 6 (v := .int .i64 0) rfl; have b3_5_7 := B3xx.cell 7 (v := .int .i64 0) rfl; have b3_5_8 := B3xx.cell 8 (v := .int .i64 0) rfl; have b3_5_9 := B3xx.cell 9 (v := .int .i64 0) rfl; have b3_5_10 := B3xx.cell 10 (v := .int .i64 0) rfl; have b3_5_11 := B3xx.cell 11 (v := .int .i64 0) rfl; have b3_5_12 := B3xx.cell 12 (v := .int .i64 0) rfl; have b3_5_13 := B3xx.cell 13 (v := .bool false) rfl; have zb3_5_0 := B3xx.frozen 0; have zb3_5_1 := B3xx.frozen 1; have zb3_5_2 := B3xx.frozen 2; have zb3_5_3 := B3xx.frozen 3; have zb3_5_4 := B3xx.frozen 4; have zb3_5_5 := B3xx.frozen 5; have zb3_5_6 := B3xx.frozen 6; have zb3_5_7 := B3xx.frozen 7; have zb3_5_8 := B3xx.frozen 8; have zb3_5_9 := B3xx.frozen 9; have zb3_5_10 := B3xx.frozen 10; have zb3_5_11 := B3xx.frozen 11; have zb3_5_12 := B3xx.frozen 12; have zb3_5_13 := B3xx.frozen 13; have b5_5_0 := B5.cell 0 (v := .int .u8 0) rfl; have b5_5_1 := B5.cell 1 (v := .int .i64 0) rfl; have b5_5_2 := B5.cell 2 (v := .int .i64 0) rfl; have b5_5_3 := B5.cell 3 (v := .int .u8 0) rfl; have b5_5_4 := B5.cell 4 (v := .int .i64 0) rfl; have b5_5_5 := B5.cell 5 (v := .int .i64 0) rfl; have b5_5_6 := B5.cell 6 (v := .int .i64 0) rfl; have b5_5_7 := B5.cell 7 (v := .int .i64 0) rfl; have b5_5_8 := B5.cell 8 (v := .int .i64 0) rfl))
  refine ret_c2 (g := W2.heap.size) (cs := #[.int .u8 0, .int .i64 0, .int .i64 0, .int .u8 0, .int .i64 0, .int .i64 0, .int .i64 0, .int .i64 0, .int .i64 0, .int .i64 0, .int .i64 0, .int .i64 0, .int .i64 0, .bool false]) rfl hfs infoS rfl (bo14 B3xx) rfl ⟨rfl, gb14 G5 G2.size⟩

set_option maxHeartbeats 1000000 in
theorem lookFar (k x y t z a b : Int) (ht : 0 ≤ t) (h : Tp.chk k x y t z = 0) (hf : (To.frB a || To.frB b) = true) (w : World) : Calls Tryz.prog 124 #[.agg #[.int .u8 k, .int .i64 x, .int .i64 y, .int .u8 t, .int .i64 z], .agg #[.int .i64 a, .int .i64 b]] w fun e w' => e = .returned (.tuple #[.agg #[.int .u8 0, .int .i64 0, .int .i64 0, .int .u8 0, .int .i64 0, .int .i64 0, .int .i64 0, .int .i64 0, .int .i64 0, .int .i64 0, .int .i64 0, .int .i64 0, .int .i64 0, .bool false], .int .i64 5]) ∧ w.grownBy w' none := by
  obtain ⟨fs, hfs⟩ := underS
  have hh := gridYes k x y t z ht h
  have hs := To.hasFar k x y t z a b ht h hf
  clear h hf
  obtain ⟨W1, hW1, sz1, g1, B1⟩ := boxn w #[.int .u8 k, .int .i64 x, .int .i64 y, .int .u8 t, .int .i64 z] 30
  obtain ⟨W2, hW2, sz2, g2, B2⟩ := boxn W1 #[.int .i64 a, .int .i64 b] 135
  have G2 := gb_trans g1 g2
  have B1x := B1.kept g2 (by simp)
  obtain ⟨W3, hW3, sz3, g3, B3⟩ := boxn W2 #[.int .u8 0, .int .i64 0, .int .i64 0, .int .u8 0, .int .i64 0, .int .i64 0, .int .i64 0, .int .i64 0, .int .i64 0, .int .i64 0, .int .i64 0, .int .i64 0, .int .i64 0, .bool false] 200
  have G3 := gb_trans G2 g3
  have B1xx := B1x.kept g3 (by simp)
  have B2x := B2.kept g3 (by simp)
  have b1_3_0 := B1xx.cell 0 (v := .int .u8 k) rfl
  have b1_3_1 := B1xx.cell 1 (v := .int .i64 x) rfl
  have b1_3_2 := B1xx.cell 2 (v := .int .i64 y) rfl
  have b1_3_3 := B1xx.cell 3 (v := .int .u8 t) rfl
  have b1_3_4 := B1xx.cell 4 (v := .int .i64 z) rfl
  have b2_3_0 := B2x.cell 0 (v := .int .i64 a) rfl
  have b2_3_1 := B2x.cell 1 (v := .int .i64 b) rfl
  have b3_3_0 := B3.cell 0 (v := .int .u8 0) rfl
  have b3_3_1 := B3.cell 1 (v := .int .i64 0) rfl
  have b3_3_2 := B3.cell 2 (v := .int .i64 0) rfl
  have b3_3_3 := B3.cell 3 (v := .int .u8 0) rfl
  have b3_3_4 := B3.cell 4 (v := .int .i64 0) rfl
  have b3_3_5 := B3.cell 5 (v := .int .i64 0) rfl
  have b3_3_6 := B3.cell 6 (v := .int .i64 0) rfl
  have b3_3_7 := B3.cell 7 (v := .int .i64 0) rfl
  have b3_3_8 := B3.cell 8 (v := .int .i64 0) rfl
  have b3_3_9 := B3.cell 9 (v := .int .i64 0) rfl
  have b3_3_10 := B3.cell 10 (v := .int .i64 0) rfl
  have b3_3_11 := B3.cell 11 (v := .int .i64 0) rfl
  have b3_3_12 := B3.cell 12 (v := .int .i64 0) rfl
  have b3_3_13 := B3.cell 13 (v := .bool false) rfl
  have zb3_3_0 := B3.frozen 0
  have zb3_3_1 := B3.frozen 1
  have zb3_3_2 := B3.frozen 2
  have zb3_3_3 := B3.frozen 3
  have zb3_3_4 := B3.frozen 4
  have zb3_3_5 := B3.frozen 5
  have zb3_3_6 := B3.frozen 6
  have zb3_3_7 := B3.frozen 7
  have zb3_3_8 := B3.frozen 8
  have zb3_3_9 := B3.frozen 9
  have zb3_3_10 := B3.frozen 10
  have zb3_3_11 := B3.frozen 11
  have zb3_3_12 := B3.frozen 12
  have zb3_3_13 := B3.frozen 13
  go_enter Tryz.func124, Tryz.ntmps124
  go_wp2_with (first | (go_at_call 135; (fail_if_success (guard_hyp g4)); refine (hh _).mono ?_; rintro e w4 ⟨rfl, g4⟩; have G4 := gb_trans G3 g4; have B1xxx := B1xx.kept g4 (by simp); have B2xx := B2x.kept g4 (by simp); have B3x := B3.kept g4 (by simp); obtain ⟨W5, hW5, sz5, g5, B5⟩ := boxn w4 #[.int .u8 k, .int .i64 x, .int .i64 y, .int .u8 t, .int .i64 z, .int .i64 (To.fi x), .int .i64 (To.fi y), .int .i64 x, .int .i64 y] 198; have G5 := gb_trans G4 g5; have B1xxxx := B1xxx.kept g5 (by simp); have B2xxx := B2xx.kept g5 (by simp); have B3xx := B3x.kept g5 (by simp); clear b1_3_0 b1_3_1 b1_3_2 b1_3_3 b1_3_4 b2_3_0 b2_3_1 b3_3_0 b3_3_1 b3_3_2 b3_3_3 b3_3_4 b3_3_5 b3_3_6 b3_3_7 b3_3_8 b3_3_9 b3_3_10 b3_3_11 b3_3_12 b3_3_13 zb3_3_0 zb3_3_1 zb3_3_2 zb3_3_3 zb3_3_4 zb3_3_5 zb3_3_6 zb3_3_7 zb3_3_8 zb3_3_9 zb3_3_10 zb3_3_11 zb3_3_12 zb3_3_13; have b1_5_0 := B1xxxx.cell 0 (v := .int .u8 k) rfl; have b1_5_1 := B1xxxx.cell 1 (v := .int .i64 x) rfl; have b1_5_2 := B1xxxx.cell 2 (v := .int .i64 y) rfl; have b1_5_3 := B1xxxx.cell 3 (v := .int .u8 t) rfl; have b1_5_4 := B1xxxx.cell 4 (v := .int .i64 z) rfl; have b2_5_0 := B2xxx.cell 0 (v := .int .i64 a) rfl; have b2_5_1 := B2xxx.cell 1 (v := .int .i64 b) rfl; have b3_5_0 := B3xx.cell 0 (v := .int .u8 0) rfl; have b3_5_1 := B3xx.cell 1 (v := .int .i64 0) rfl; have b3_5_2 := B3xx.cell 2 (v := .int .i64 0) rfl; have b3_5_3 := B3xx.cell 3 (v := .int .u8 0) rfl; have b3_5_4 := B3xx.cell 4 (v := .int .i64 0) rfl; have b3_5_5 := B3xx.cell 5 (v := .int .i64 0) rfl; have b3_5_6 := B3xx.cell 6 (v := .int .i64 0) rfl; have b3_5_7 := B3xx.cell 7 (v := .int .i64 0) rfl; have b3_5_8 := B3xx.cell 8 (v := .int .i64 0) rfl; have b3_5_9 := B3xx.cell 9 (v := .int .i64 0) rfl; have b3_5_10 := B3xx.cell 10 (v := .int .i64 0) rfl; have b3_5_11 := B3xx.cell 11 (v := .int .i64 0) rfl; have b3_5_12 := B3xx.cell 12 (v := .int .i64 0) rfl; have b3_5_13 := B3xx.cell 13 (v := .bool false) rfl; have zb3_5_0 := B3xx.frozen 0; have zb3_5_1 := B3xx.frozen 1; have zb3_5_2 := B3xx.frozen 2; have zb3_5_3 := B3xx.frozen 3; have zb3_5_4 := B3xx.frozen 4; have zb3_5_5 := B3xx.frozen 5; have zb3_5_6 := B3xx.frozen 6; have zb3_5_7 := B3xx.frozen 7; have zb3_5_8 := B3xx.frozen 8; have zb3_5_9 := B3xx.frozen 9; have zb3_5_10 := B3xx.frozen 10; have zb3_5_11 := B3xx.frozen 11; have zb3_5_12 := B3xx.frozen 12; have zb3_5_13 := B3xx.frozen 13; have b5_5_0 := B5.cell 0 (v := .int .u8 k) rfl; have b5_5_1 := B5.cell 1 (v := .int .i64 x) rfl; have b5_5_2 := B5.cell 2 (v := .int .i64 y) rfl; have b5_5_3 := B5.cell 3 (v := .int .u8 t) rfl; have b5_5_4 := B5.cell 4 (v := .int .i64 z) rfl; have b5_5_5 := B5.cell 5 (v := .int .i64 (To.fi x)) rfl; have b5_5_6 := B5.cell 6 (v := .int .i64 (To.fi y)) rfl; have b5_5_7 := B5.cell 7 (v := .int .i64 x) rfl; have b5_5_8 := B5.cell 8 (v := .int .i64 y) rfl) | (go_at_call 136; (fail_if_success (guard_hyp g6)); refine (hs _).mono ?_; rintro e w6 ⟨rfl, g6⟩; have G6 := gb_trans G5 g6; have B1xxxxx := B1xxxx.kept g6 (by simp); have B2xxxx := B2xxx.kept g6 (by simp); have B3xxx := B3xx.kept g6 (by simp); have B5x := B5.kept g6 (by simp); clear b1_5_0 b1_5_1 b1_5_2 b1_5_3 b1_5_4 b2_5_0 b2_5_1 b3_5_0 b3_5_1 b3_5_2 b3_5_3 b3_5_4 b3_5_5 b3_5_6 b3_5_7 b3_5_8 b3_5_9 b3_5_10 b3_5_11 b3_5_12 b3_5_13 zb3_5_0 zb3_5_1 zb3_5_2 zb3_5_3 zb3_5_4 zb3_5_5 zb3_5_6 zb3_5_7 zb3_5_8 zb3_5_9 zb3_5_10 zb3_5_11 zb3_5_12 zb3_5_13 b5_5_0 b5_5_1 b5_5_2 b5_5_3 b5_5_4 b5_5_5 b5_5_6 b5_5_7 b5_5_8; have b1_6_0 := B1xxxxx.cell 0 (v := .int .u8 k) rfl; have b1_6_1 := B1xxxxx.cell 1 (v := .int .i64 x) rfl; have b1_6_2 := B1xxxxx.cell 2 (v := .int .i64 y) rfl; have b1_6_3 := B1xxxxx.cell 3 (v := .int .u8 t) rfl; have b1_6_4 := B1xxxxx.cell 4 (v := .int .i64 z) rfl; have b2_6_0 := B2xxxx.cell 0 (v := .int .i64 a) rfl; have b2_6_1 := B2xxxx.cell 1 (v := .int .i64 b) rfl; have b3_6_0 := B3xxx.cell 0 (v := .int .u8 0) rfl; have b3_6_1 := B3xxx.cell 1 (v := .int .i64 0) rfl; have b3_6_2 := B3xxx.cell 2 (v := .int .i64 0) rfl; have b3_6_3 := B3xxx.cell 3 (v := .int .u8 0) rfl; have b3_6_4 := B3xxx.cell 4 (v := .int .i64 0) rfl; have b3_6_5 := B3xxx.cell 5 (v := .int .i64 0) rfl; have b3_6_6 := B3xxx.cell 6 (v := .int .i64 0) rfl; have b3_6_7 := B3xxx.cell 7 (v := .int .i64 0) rfl; have b3_6_8 := B3xxx.cell 8 (v := .int .i64 0) rfl; have b3_6_9 := B3xxx.cell 9 (v := .int .i64 0) rfl; have b3_6_10 := B3xxx.cell 10 (v := .int .i64 0) rfl; have b3_6_11 := B3xxx.cell 11 (v := .int .i64 0) rfl; have b3_6_12 := B3xxx.cell 12 (v := .int .i64 0) rfl; have b3_6_13 := B3xxx.cell 13 (v := .bool false) rfl; have zb3_6_0 := B3xxx.frozen 0; have zb3_6_1 := B3xxx.frozen 1; have zb3_6_2 := B3xxx.frozen 2; have zb3_6_3 := B3xxx.frozen 3; have zb3_6_4 := B3xxx.frozen 4; have zb3_6_5 := B3xxx.frozen 5; have zb3_6_6 := B3xxx.frozen 6; have zb3_6_7 := B3xxx.frozen 7; have zb3_6_8 := B3xxx.frozen 8; have zb3_6_9 := B3xxx.frozen 9; have zb3_6_10 := B3xxx.frozen 10; have zb3_6_11 := B3xxx.frozen 11; have zb3_6_12 := B3xxx.frozen 12; have zb3_6_13 := B3xxx.frozen 13; have b5_6_0 := B5x.cell 0 (v := .int .u8 k) rfl; have b5_6_1 := B5x.cell 1 (v := .int .i64 x) rfl; have b5_6_2 := B5x.cell 2 (v := .int .i64 y) rfl; have b5_6_3 := B5x.cell 3 (v := .int .u8 t) rfl; have b5_6_4 := B5x.cell 4 (v := .int .i64 z) rfl; have b5_6_5 := B5x.cell 5 (v := .int .i64 (To.fi x)) rfl; have b5_6_6 := B5x.cell 6 (v := .int .i64 (To.fi y)) rfl; have b5_6_7 := B5x.cell 7 (v := .int .i64 x) rfl; have b5_6_8 := B5x.cell 8 (v := .int .i64 y) rfl))
  refine ret_c2 (g := W2.heap.size) (cs := #[.int .u8 0, .int .i64 0, .int .i64 0, .int .u8 0, .int .i64 0, .int .i64 0, .int .i64 0, .int .i64 0, .int .i64 0, .int .i64 0, .int .i64 0, .int .i64 0, .int .i64 0, .bool false]) rfl hfs infoS rfl (bo14 B3xxx) rfl ⟨rfl, gb14 G6 G2.size⟩
end Go.Proofs.YthjiiljglgmkpaaGreatDoor.Fd
namespace Go.Proofs.YthjiiljglgmkpaaGreatDoor.Fd
open Go.RowKit
set_option linter.unusedVariables false
set_option linter.unusedSimpArgs false
set_option maxRecDepth 100000

set_option maxHeartbeats 2000000 in
theorem lookYes (k x y t z a b : Int) (ht : 0 ≤ t) (h : Tp.chk k x y t z = 0) (h1 : To.frB a = false) (h2 : To.frB b = false) (u v : Int) (hu : Hid (a - To.fi x = u)) (hv : Hid (b - To.fi y = v)) (w : World) : Calls Tryz.prog 124 #[.agg #[.int .u8 k, .int .i64 x, .int .i64 y, .int .u8 t, .int .i64 z], .agg #[.int .i64 a, .int .i64 b]] w fun e w' => e = .returned (.tuple #[.agg #[.int .u8 k, .int .i64 x, .int .i64 y, .int .u8 t, .int .i64 z, .int .i64 (To.fi x), .int .i64 (To.fi y), .int .i64 x, .int .i64 y, .int .i64 u, .int .i64 v, .int .i64 (Nm.divZ u x), .int .i64 (Nm.divZ v y), .bool (To.liB a x && To.liB b y)], .int .i64 0]) ∧ w.grownBy w' none := by
  obtain ⟨fs, hfs⟩ := underS
  have ok := Tp.ok_of h
  have hx := ok.wide
  have hy := ok.high
  have hh := gridYes k x y t z ht h
  have hs := To.hasYes k x y t z a b ht h h1 h2 hx hy
  have bx : -32768 ≤ To.fi x ∧ To.fi x ≤ 0 := by unfold To.fi; omega
  have by' : -32768 ≤ To.fi y ∧ To.fi y ≤ 0 := by unfold To.fi; omega
  have ba : -1099511627776 ≤ a ∧ a ≤ 1099511627776 := by unfold To.frB at h1; simp at h1; omega
  have bb : -1099511627776 ≤ b ∧ b ≤ 1099511627776 := by unfold To.frB at h2; simp at h2; omega
  have hwu : IntKind.i64.wrap (a - To.fi x) = u := by have := hu.out; rw [IntKind.wrap_i64]; omega
  have hwv : IntKind.i64.wrap (b - To.fi y) = v := by have := hv.out; rw [IntKind.wrap_i64]; omega
  have hd1 := tileOfC u x (by have := hu.out; omega) (by have := hu.out; omega) (by omega) (by omega)
  have hd2 := tileOfC v y (by have := hv.out; omega) (by have := hv.out; omega) (by omega) (by omega)
  generalize (To.liB a x && To.liB b y) = ins at *
  clear h ok hx hy h1 h2 bx by' ba bb
  obtain ⟨W1, hW1, sz1, g1, B1⟩ := boxn w #[.int .u8 k, .int .i64 x, .int .i64 y, .int .u8 t, .int .i64 z] 30
  obtain ⟨W2, hW2, sz2, g2, B2⟩ := boxn W1 #[.int .i64 a, .int .i64 b] 135
  have G2 := gb_trans g1 g2
  have B1x := B1.kept g2 (by simp)
  obtain ⟨W3, hW3, sz3, g3, B3⟩ := boxn W2 #[.int .u8 0, .int .i64 0, .int .i64 0, .int .u8 0, .int .i64 0, .int .i64 0, .int .i64 0, .int .i64 0, .int .i64 0, .int .i64 0, .int .i64 0, .int .i64 0, .int .i64 0, .bool false] 200
  have G3 := gb_trans G2 g3
  have B1xx := B1x.kept g3 (by simp)
  have B2x := B2.kept g3 (by simp)
  have b1_3_0 := B1xx.cell 0 (v := .int .u8 k) rfl
  have b1_3_1 := B1xx.cell 1 (v := .int .i64 x) rfl
  have b1_3_2 := B1xx.cell 2 (v := .int .i64 y) rfl
  have b1_3_3 := B1xx.cell 3 (v := .int .u8 t) rfl
  have b1_3_4 := B1xx.cell 4 (v := .int .i64 z) rfl
  have b2_3_0 := B2x.cell 0 (v := .int .i64 a) rfl
  have b2_3_1 := B2x.cell 1 (v := .int .i64 b) rfl
  have b3_3_0 := B3.cell 0 (v := .int .u8 0) rfl
  have b3_3_1 := B3.cell 1 (v := .int .i64 0) rfl
  have b3_3_2 := B3.cell 2 (v := .int .i64 0) rfl
  have b3_3_3 := B3.cell 3 (v := .int .u8 0) rfl
  have b3_3_4 := B3.cell 4 (v := .int .i64 0) rfl
  have b3_3_5 := B3.cell 5 (v := .int .i64 0) rfl
  have b3_3_6 := B3.cell 6 (v := .int .i64 0) rfl
  have b3_3_7 := B3.cell 7 (v := .int .i64 0) rfl
  have b3_3_8 := B3.cell 8 (v := .int .i64 0) rfl
  have b3_3_9 := B3.cell 9 (v := .int .i64 0) rfl
  have b3_3_10 := B3.cell 10 (v := .int .i64 0) rfl
  have b3_3_11 := B3.cell 11 (v := .int .i64 0) rfl
  have b3_3_12 := B3.cell 12 (v := .int .i64 0) rfl
  have b3_3_13 := B3.cell 13 (v := .bool false) rfl
  have zb3_3_0 := B3.frozen 0
  have zb3_3_1 := B3.frozen 1
  have zb3_3_2 := B3.frozen 2
  have zb3_3_3 := B3.frozen 3
  have zb3_3_4 := B3.frozen 4
  have zb3_3_5 := B3.frozen 5
  have zb3_3_6 := B3.frozen 6
  have zb3_3_7 := B3.frozen 7
  have zb3_3_8 := B3.frozen 8
  have zb3_3_9 := B3.frozen 9
  have zb3_3_10 := B3.frozen 10
  have zb3_3_11 := B3.frozen 11
  have zb3_3_12 := B3.frozen 12
  have zb3_3_13 := B3.frozen 13
  go_enter Tryz.func124, Tryz.ntmps124
  go_wp2_with (first | (go_at_call 135; (fail_if_success (guard_hyp g4)); refine (hh _).mono ?_; rintro e w4 ⟨rfl, g4⟩; have G4 := gb_trans G3 g4; have B1xxx := B1xx.kept g4 (by simp); have B2xx := B2x.kept g4 (by simp); have B3x := B3.kept g4 (by simp); obtain ⟨W5, hW5, sz5, g5, B5⟩ := boxn w4 #[.int .u8 k, .int .i64 x, .int .i64 y, .int .u8 t, .int .i64 z, .int .i64 (To.fi x), .int .i64 (To.fi y), .int .i64 x, .int .i64 y] 198; have G5 := gb_trans G4 g5; have B1xxxx := B1xxx.kept g5 (by simp); have B2xxx := B2xx.kept g5 (by simp); have B3xx := B3x.kept g5 (by simp); clear b1_3_0 b1_3_1 b1_3_2 b1_3_3 b1_3_4 b2_3_0 b2_3_1 b3_3_0 b3_3_1 b3_3_2 b3_3_3 b3_3_4 b3_3_5 b3_3_6 b3_3_7 b3_3_8 b3_3_9 b3_3_10 b3_3_11 b3_3_12 b3_3_13 zb3_3_0 zb3_3_1 zb3_3_2 zb3_3_3 zb3_3_4 zb3_3_5 zb3_3_6 zb3_3_7 zb3_3_8 zb3_3_9 zb3_3_10 zb3_3_11 zb3_3_12 zb3_3_13; have b1_5_0 := B1xxxx.cell 0 (v := .int .u8 k) rfl; have b1_5_1 := B1xxxx.cell 1 (v := .int .i64 x) rfl; have b1_5_2 := B1xxxx.cell 2 (v := .int .i64 y) rfl; have b1_5_3 := B1xxxx.cell 3 (v := .int .u8 t) rfl; have b1_5_4 := B1xxxx.cell 4 (v := .int .i64 z) rfl; have b2_5_0 := B2xxx.cell 0 (v := .int .i64 a) rfl; have b2_5_1 := B2xxx.cell 1 (v := .int .i64 b) rfl; have b3_5_0 := B3xx.cell 0 (v := .int .u8 0) rfl; have b3_5_1 := B3xx.cell 1 (v := .int .i64 0) rfl; have b3_5_2 := B3xx.cell 2 (v := .int .i64 0) rfl; have b3_5_3 := B3xx.cell 3 (v := .int .u8 0) rfl; have b3_5_4 := B3xx.cell 4 (v := .int .i64 0) rfl; have b3_5_5 := B3xx.cell 5 (v := .int .i64 0) rfl; have b3_5_6 := B3xx.cell 6 (v := .int .i64 0) rfl; have b3_5_7 := B3xx.cell 7 (v := .int .i64 0) rfl; have b3_5_8 := B3xx.cell 8 (v := .int .i64 0) rfl; have b3_5_9 := B3xx.cell 9 (v := .int .i64 0) rfl; have b3_5_10 := B3xx.cell 10 (v := .int .i64 0) rfl; have b3_5_11 := B3xx.cell 11 (v := .int .i64 0) rfl; have b3_5_12 := B3xx.cell 12 (v := .int .i64 0) rfl; have b3_5_13 := B3xx.cell 13 (v := .bool false) rfl; have zb3_5_0 := B3xx.frozen 0; have zb3_5_1 := B3xx.frozen 1; have zb3_5_2 := B3xx.frozen 2; have zb3_5_3 := B3xx.frozen 3; have zb3_5_4 := B3xx.frozen 4; have zb3_5_5 := B3xx.frozen 5; have zb3_5_6 := B3xx.frozen 6; have zb3_5_7 := B3xx.frozen 7; have zb3_5_8 := B3xx.frozen 8; have zb3_5_9 := B3xx.frozen 9; have zb3_5_10 := B3xx.frozen 10; have zb3_5_11 := B3xx.frozen 11; have zb3_5_12 := B3xx.frozen 12; have zb3_5_13 := B3xx.frozen 13; have b5_5_0 := B5.cell 0 (v := .int .u8 k) rfl; have b5_5_1 := B5.cell 1 (v := .int .i64 x) rfl; have b5_5_2 := B5.cell 2 (v := .int .i64 y) rfl; have b5_5_3 := B5.cell 3 (v := .int .u8 t) rfl; have b5_5_4 := B5.cell 4 (v := .int .i64 z) rfl; have b5_5_5 := B5.cell 5 (v := .int .i64 (To.fi x)) rfl; have b5_5_6 := B5.cell 6 (v := .int .i64 (To.fi y)) rfl; have b5_5_7 := B5.cell 7 (v := .int .i64 x) rfl; have b5_5_8 := B5.cell 8 (v := .int .i64 y) rfl) | (go_at_call 136; (fail_if_success (guard_hyp g6)); refine (hs _).mono ?_; rintro e w6 ⟨rfl, g6⟩; have G6 := gb_trans G5 g6; have B1xxxxx := B1xxxx.kept g6 (by simp); have B2xxxx := B2xxx.kept g6 (by simp); have B3xxx := B3xx.kept g6 (by simp); have B5x := B5.kept g6 (by simp); clear b1_5_0 b1_5_1 b1_5_2 b1_5_3 b1_5_4 b2_5_0 b2_5_1 b3_5_0 b3_5_1 b3_5_2 b3_5_3 b3_5_4 b3_5_5 b3_5_6 b3_5_7 b3_5_8 b3_5_9 b3_5_10 b3_5_11 b3_5_12 b3_5_13 zb3_5_0 zb3_5_1 zb3_5_2 zb3_5_3 zb3_5_4 zb3_5_5 zb3_5_6 zb3_5_7 zb3_5_8 zb3_5_9 zb3_5_10 zb3_5_11 zb3_5_12 zb3_5_13 b5_5_0 b5_5_1 b5_5_2 b5_5_3 b5_5_4 b5_5_5 b5_5_6 b5_5_7 b5_5_8; have b1_6_0 := B1xxxxx.cell 0 (v := .int .u8 k) rfl; have b1_6_1 := B1xxxxx.cell 1 (v := .int .i64 x) rfl; have b1_6_2 := B1xxxxx.cell 2 (v := .int .i64 y) rfl; have b1_6_3 := B1xxxxx.cell 3 (v := .int .u8 t) rfl; have b1_6_4 := B1xxxxx.cell 4 (v := .int .i64 z) rfl; have b2_6_0 := B2xxxx.cell 0 (v := .int .i64 a) rfl; have b2_6_1 := B2xxxx.cell 1 (v := .int .i64 b) rfl; have b3_6_0 := B3xxx.cell 0 (v := .int .u8 0) rfl; have b3_6_1 := B3xxx.cell 1 (v := .int .i64 0) rfl; have b3_6_2 := B3xxx.cell 2 (v := .int .i64 0) rfl; have b3_6_3 := B3xxx.cell 3 (v := .int .u8 0) rfl; have b3_6_4 := B3xxx.cell 4 (v := .int .i64 0) rfl; have b3_6_5 := B3xxx.cell 5 (v := .int .i64 0) rfl; have b3_6_6 := B3xxx.cell 6 (v := .int .i64 0) rfl; have b3_6_7 := B3xxx.cell 7 (v := .int .i64 0) rfl; have b3_6_8 := B3xxx.cell 8 (v := .int .i64 0) rfl; have b3_6_9 := B3xxx.cell 9 (v := .int .i64 0) rfl; have b3_6_10 := B3xxx.cell 10 (v := .int .i64 0) rfl; have b3_6_11 := B3xxx.cell 11 (v := .int .i64 0) rfl; have b3_6_12 := B3xxx.cell 12 (v := .int .i64 0) rfl; have b3_6_13 := B3xxx.cell 13 (v := .bool false) rfl; have zb3_6_0 := B3xxx.frozen 0; have zb3_6_1 := B3xxx.frozen 1; have zb3_6_2 := B3xxx.frozen 2; have zb3_6_3 := B3xxx.frozen 3; have zb3_6_4 := B3xxx.frozen 4; have zb3_6_5 := B3xxx.frozen 5; have zb3_6_6 := B3xxx.frozen 6; have zb3_6_7 := B3xxx.frozen 7; have zb3_6_8 := B3xxx.frozen 8; have zb3_6_9 := B3xxx.frozen 9; have zb3_6_10 := B3xxx.frozen 10; have zb3_6_11 := B3xxx.frozen 11; have zb3_6_12 := B3xxx.frozen 12; have zb3_6_13 := B3xxx.frozen 13; have b5_6_0 := B5x.cell 0 (v := .int .u8 k) rfl; have b5_6_1 := B5x.cell 1 (v := .int .i64 x) rfl; have b5_6_2 := B5x.cell 2 (v := .int .i64 y) rfl; have b5_6_3 := B5x.cell 3 (v := .int .u8 t) rfl; have b5_6_4 := B5x.cell 4 (v := .int .i64 z) rfl; have b5_6_5 := B5x.cell 5 (v := .int .i64 (To.fi x)) rfl; have b5_6_6 := B5x.cell 6 (v := .int .i64 (To.fi y)) rfl; have b5_6_7 := B5x.cell 7 (v := .int .i64 x) rfl; have b5_6_8 := B5x.cell 8 (v := .int .i64 y) rfl; obtain ⟨W7, hW7, sz7, g7, B7⟩ := boxn w6 #[.int .i64 u, .int .i64 v] 135; have G7 := gb_trans G6 g7; have B1xxxxxx := B1xxxxx.kept g7 (by simp); have B2xxxxx := B2xxxx.kept g7 (by simp); have B3xxxx := B3xxx.kept g7 (by simp); have B5xx := B5x.kept g7 (by simp); have b1_7_0 := B1xxxxxx.cell 0 (v := .int .u8 k) rfl; have b1_7_1 := B1xxxxxx.cell 1 (v := .int .i64 x) rfl; have b1_7_2 := B1xxxxxx.cell 2 (v := .int .i64 y) rfl; have b1_7_3 := B1xxxxxx.cell 3 (v := .int .u8 t) rfl; have b1_7_4 := B1xxxxxx.cell 4 (v := .int .i64 z) rfl; have b2_7_0 := B2xxxxx.cell 0 (v := .int .i64 a) rfl; have b2_7_1 := B2xxxxx.cell 1 (v := .int .i64 b) rfl; have b3_7_0 := B3xxxx.cell 0 (v := .int .u8 0) rfl; have b3_7_1 := B3xxxx.cell 1 (v := .int .i64 0) rfl; have b3_7_2 := B3xxxx.cell 2 (v := .int .i64 0) rfl; have b3_7_3 := B3xxxx.cell 3 (v := .int .u8 0) rfl; have b3_7_4 := B3xxxx.cell 4 (v := .int .i64 0) rfl; have b3_7_5 := B3xxxx.cell 5 (v := .int .i64 0) rfl; have b3_7_6 := B3xxxx.cell 6 (v := .int .i64 0) rfl; have b3_7_7 := B3xxxx.cell 7 (v := .int .i64 0) rfl; have b3_7_8 := B3xxxx.cell 8 (v := .int .i64 0) rfl; have b3_7_9 := B3xxxx.cell 9 (v := .int .i64 0) rfl; have b3_7_10 := B3xxxx.cell 10 (v := .int .i64 0) rfl; have b3_7_11 := B3xxxx.cell 11 (v := .int .i64 0) rfl; have b3_7_12 := B3xxxx.cell 12 (v := .int .i64 0) rfl; have b3_7_13 := B3xxxx.cell 13 (v := .bool false) rfl; have zb3_7_0 := B3xxxx.frozen 0; have zb3_7_1 := B3xxxx.frozen 1; have zb3_7_2 := B3xxxx.frozen 2; have zb3_7_3 := B3xxxx.frozen 3; have zb3_7_4 := B3xxxx.frozen 4; have zb3_7_5 := B3xxxx.frozen 5; have zb3_7_6 := B3xxxx.frozen 6; have zb3_7_7 := B3xxxx.frozen 7; have zb3_7_8 := B3xxxx.frozen 8; have zb3_7_9 := B3xxxx.frozen 9; have zb3_7_10 := B3xxxx.frozen 10; have zb3_7_11 := B3xxxx.frozen 11; have zb3_7_12 := B3xxxx.frozen 12; have zb3_7_13 := B3xxxx.frozen 13; have b5_7_0 := B5xx.cell 0 (v := .int .u8 k) rfl; have b5_7_1 := B5xx.cell 1 (v := .int .i64 x) rfl; have b5_7_2 := B5xx.cell 2 (v := .int .i64 y) rfl; have b5_7_3 := B5xx.cell 3 (v := .int .u8 t) rfl; have b5_7_4 := B5xx.cell 4 (v := .int .i64 z) rfl; have b5_7_5 := B5xx.cell 5 (v := .int .i64 (To.fi x)) rfl; have b5_7_6 := B5xx.cell 6 (v := .int .i64 (To.fi y)) rfl; have b5_7_7 := B5xx.cell 7 (v := .int .i64 x) rfl; have b5_7_8 := B5xx.cell 8 (v := .int .i64 y) rfl; have b7_7_0 := B7.cell 0 (v := .int .i64 u) rfl; have b7_7_1 := B7.cell 1 (v := .int .i64 v) rfl))
  have ap0 := Nat.ne_of_lt B1x.lt
  have aq0 := Nat.ne_of_gt B1x.lt
  have ap1 := Nat.ne_of_lt B2.lt
  have aq1 := Nat.ne_of_gt B2.lt
  have ap3 := Nat.ne_of_lt B3x.lt
  have aq3 := Nat.ne_of_gt B3x.lt
  have ap4 := Nat.ne_of_lt B3xxx.lt
  have aq4 := Nat.ne_of_gt B3xxx.lt
  go_region_held2 (fun w' => w'.cell? ⟨w.heap.size, 0, none⟩ = some (.int .u8 k) ∧ w'.cell? ⟨w.heap.size, 1, none⟩ = some (.int .i64 x) ∧ w'.cell? ⟨w.heap.size, 2, none⟩ = some (.int .i64 y) ∧ w'.cell? ⟨w.heap.size, 3, none⟩ = some (.int .u8 t) ∧ w'.cell? ⟨w.heap.size, 4, none⟩ = some (.int .i64 z) ∧ w'.cell? ⟨W1.heap.size, 0, none⟩ = some (.int .i64 a) ∧ w'.cell? ⟨W1.heap.size, 1, none⟩ = some (.int .i64 b) ∧ w'.cell? ⟨w4.heap.size, 0, none⟩ = some (.int .u8 k) ∧ w'.cell? ⟨w4.heap.size, 1, none⟩ = some (.int .i64 x) ∧ w'.cell? ⟨w4.heap.size, 2, none⟩ = some (.int .i64 y) ∧ w'.cell? ⟨w4.heap.size, 3, none⟩ = some (.int .u8 t) ∧ w'.cell? ⟨w4.heap.size, 4, none⟩ = some (.int .i64 z) ∧ w'.cell? ⟨w4.heap.size, 5, none⟩ = some (.int .i64 (To.fi x)) ∧ w'.cell? ⟨w4.heap.size, 6, none⟩ = some (.int .i64 (To.fi y)) ∧ w'.cell? ⟨w4.heap.size, 7, none⟩ = some (.int .i64 x) ∧ w'.cell? ⟨w4.heap.size, 8, none⟩ = some (.int .i64 y) ∧ w'.cell? ⟨w6.heap.size, 0, none⟩ = some (.int .i64 u) ∧ w'.cell? ⟨w6.heap.size, 1, none⟩ = some (.int .i64 v)) (go_keep) (first | (go_at_call 137; (fail_if_success (guard_hyp mk1)); refine (hd1 _).mono ?_; rintro e w' ⟨rfl, hw'⟩; subst w'; have mk1 : True := trivial) | (go_at_call 137; refine (hd2 _).mono ?_; rintro e w' ⟨rfl, hw'⟩; subst w'))
  all_goals go_wp2
  all_goals refine ret_c2 (g := W2.heap.size) (cs := #[.int .u8 k, .int .i64 x, .int .i64 y, .int .u8 t, .int .i64 z, .int .i64 (To.fi x), .int .i64 (To.fi y), .int .i64 x, .int .i64 y, .int .i64 u, .int .i64 v, .int .i64 (Nm.divZ u x), .int .i64 (Nm.divZ v y), .bool ins]) rfl hfs infoS rfl (bo14 B3xxxx).dr rfl ⟨rfl, gb_drew (gb14 G7 G2.size)⟩
end Go.Proofs.YthjiiljglgmkpaaGreatDoor.Fd
namespace Go.Proofs.YthjiiljglgmkpaaGreatDoor.Fd
open Go.RowKit
set_option linter.unusedVariables false
set_option linter.unusedSimpArgs false
set_option maxRecDepth 100000

theorem ret_pb {c d : Array Value} {p q : Bool} (h : c = d) (hp : p = q) : Ending.returned (.tuple #[.agg c, .bool p]) = .returned (.tuple #[.agg d, .bool q]) := by rw [h, hp]
/-- Such a place is no cell. -/
def loB (k : Int) (b : Bool) : Bool := !b && ((k == 1) || (k == 5))

theorem isNearC (k x y t z u v i j : Int) (b : Bool) (w : World) : Calls Tryz.prog 125 #[.agg #[.int .u8 k, .int .i64 x, .int .i64 y, .int .u8 t, .int .i64 z, .int .i64 (To.fi x), .int .i64 (To.fi y), .int .i64 x, .int .i64 y, .int .i64 u, .int .i64 v, .int .i64 i, .int .i64 j, .bool b]] w fun e w' => e = .returned (.bool (toB u x && toB v y)) ∧ w.grownBy w' none := by
  obtain ⟨W1, hW1, sz1, g1, B1⟩ := boxn w #[.int .u8 k, .int .i64 x, .int .i64 y, .int .u8 t, .int .i64 z, .int .i64 (To.fi x), .int .i64 (To.fi y), .int .i64 x, .int .i64 y, .int .i64 u, .int .i64 v, .int .i64 i, .int .i64 j, .bool b] 200
  have b1_1_0 := B1.cell 0 (v := .int .u8 k) rfl
  have b1_1_1 := B1.cell 1 (v := .int .i64 x) rfl
  have b1_1_2 := B1.cell 2 (v := .int .i64 y) rfl
  have b1_1_3 := B1.cell 3 (v := .int .u8 t) rfl
  have b1_1_4 := B1.cell 4 (v := .int .i64 z) rfl
  have b1_1_5 := B1.cell 5 (v := .int .i64 (To.fi x)) rfl
  have b1_1_6 := B1.cell 6 (v := .int .i64 (To.fi y)) rfl
  have b1_1_7 := B1.cell 7 (v := .int .i64 x) rfl
  have b1_1_8 := B1.cell 8 (v := .int .i64 y) rfl
  have b1_1_9 := B1.cell 9 (v := .int .i64 u) rfl
  have b1_1_10 := B1.cell 10 (v := .int .i64 v) rfl
  have b1_1_11 := B1.cell 11 (v := .int .i64 i) rfl
  have b1_1_12 := B1.cell 12 (v := .int .i64 j) rfl
  have b1_1_13 := B1.cell 13 (v := .bool b) rfl
  cases h1 : toB u x <;> cases h2 : toB v y
  all_goals
    go_enter Tryz.func125, Tryz.ntmps125
    go_wp2_with (first | (go_at_call 138; refine (touchesC _ _ _).mono ?_; rintro e w' ⟨rfl, hw'⟩; subst w'))
    all_goals go_ret
    all_goals exact ⟨rfl, g1⟩

theorem placeC (k x y t z p q P Q : Int) (hP : IntKind.i64.wrap (p + To.fi x) = P) (hQ : IntKind.i64.wrap (q + To.fi y) = Q) (w : World) : Calls Tryz.prog 152 #[.agg #[.int .u8 k, .int .i64 x, .int .i64 y, .int .u8 t, .int .i64 z, .int .i64 (To.fi x), .int .i64 (To.fi y), .int .i64 x, .int .i64 y], .int .i64 p, .int .i64 q] w fun e w' => e = .returned (.agg #[.int .i64 P, .int .i64 Q]) ∧ w.grownBy w' none := by
  obtain ⟨fs, hfs⟩ := underP
  obtain ⟨W1, hW1, sz1, g1, B1⟩ := boxn w #[.int .u8 k, .int .i64 x, .int .i64 y, .int .u8 t, .int .i64 z, .int .i64 (To.fi x), .int .i64 (To.fi y), .int .i64 x, .int .i64 y] 198
  obtain ⟨W2, hW2, sz2, g2, B2⟩ := boxn W1 #[.int .i64 0, .int .i64 0] 135
  have G2 := gb_trans g1 g2
  have B1x := B1.kept g2 (by simp)
  have b1_2_0 := B1x.cell 0 (v := .int .u8 k) rfl
  have b1_2_1 := B1x.cell 1 (v := .int .i64 x) rfl
  have b1_2_2 := B1x.cell 2 (v := .int .i64 y) rfl
  have b1_2_3 := B1x.cell 3 (v := .int .u8 t) rfl
  have b1_2_4 := B1x.cell 4 (v := .int .i64 z) rfl
  have b1_2_5 := B1x.cell 5 (v := .int .i64 (To.fi x)) rfl
  have b1_2_6 := B1x.cell 6 (v := .int .i64 (To.fi y)) rfl
  have b1_2_7 := B1x.cell 7 (v := .int .i64 x) rfl
  have b1_2_8 := B1x.cell 8 (v := .int .i64 y) rfl
  have b2_2_0 := B2.cell 0 (v := .int .i64 0) rfl
  have b2_2_1 := B2.cell 1 (v := .int .i64 0) rfl
  have zb2_2_0 := B2.frozen 0
  have zb2_2_1 := B2.frozen 1
  go_enter Tryz.func152, Tryz.ntmps152
  go_wp2
  refine ret_c1 (g := W1.heap.size) (cs := #[.int .i64 P, .int .i64 Q]) rfl hfs infoP rfl (bo2 B2) rfl ⟨rfl, gb2 G2 g1.size⟩

set_option maxHeartbeats 1000000 in
theorem foldedC (k x y t z u v i j : Int) (b : Bool) (p q : Int) (h1 : -9223372036854775808 ≤ p) (h2 : p ≤ 9223372036854775807) (h3 : -9223372036854775808 ≤ q) (h4 : q ≤ 9223372036854775807) (hx : 0 ≤ x ∧ x ≤ 65536) (hy : 0 ≤ y ∧ y ≤ 65536) (P Q : Int) (hP : IntKind.i64.wrap (Fo.wi p x + To.fi x) = P) (hQ : IntKind.i64.wrap (Fo.wi q y + To.fi y) = Q) (w : World) : Calls Tryz.prog 149 #[.agg #[.int .u8 k, .int .i64 x, .int .i64 y, .int .u8 t, .int .i64 z, .int .i64 (To.fi x), .int .i64 (To.fi y), .int .i64 x, .int .i64 y, .int .i64 u, .int .i64 v, .int .i64 i, .int .i64 j, .bool b], .int .i64 p, .int .i64 q] w fun e w' => e = .returned (.agg #[.int .i64 P, .int .i64 Q]) ∧ w.grownBy w' none := by
  obtain ⟨fs, hfs⟩ := underP
  have hw1 := withinC p x h1 h2 (by omega) (by omega)
  have hw2 := withinC q y h3 h4 (by omega) (by omega)
  have hp := placeC k x y t z _ _ P Q hP hQ
  clear h1 h2 h3 h4 hx hy hP hQ
  obtain ⟨W1, hW1, sz1, g1, B1⟩ := boxn w #[.int .u8 k, .int .i64 x, .int .i64 y, .int .u8 t, .int .i64 z, .int .i64 (To.fi x), .int .i64 (To.fi y), .int .i64 x, .int .i64 y, .int .i64 u, .int .i64 v, .int .i64 i, .int .i64 j, .bool b] 200
  obtain ⟨W2, hW2, sz2, g2, B2⟩ := boxn W1 #[.int .i64 0, .int .i64 0] 135
  have G2 := gb_trans g1 g2
  have B1x := B1.kept g2 (by simp)
  have b1_2_0 := B1x.cell 0 (v := .int .u8 k) rfl
  have b1_2_1 := B1x.cell 1 (v := .int .i64 x) rfl
  have b1_2_2 := B1x.cell 2 (v := .int .i64 y) rfl
  have b1_2_3 := B1x.cell 3 (v := .int .u8 t) rfl
  have b1_2_4 := B1x.cell 4 (v := .int .i64 z) rfl
  have b1_2_5 := B1x.cell 5 (v := .int .i64 (To.fi x)) rfl
  have b1_2_6 := B1x.cell 6 (v := .int .i64 (To.fi y)) rfl
  have b1_2_7 := B1x.cell 7 (v := .int .i64 x) rfl
  have b1_2_8 := B1x.cell 8 (v := .int .i64 y) rfl
  have b1_2_9 := B1x.cell 9 (v := .int .i64 u) rfl
  have b1_2_10 := B1x.cell 10 (v := .int .i64 v) rfl
  have b1_2_11 := B1x.cell 11 (v := .int .i64 i) rfl
  have b1_2_12 := B1x.cell 12 (v := .int .i64 j) rfl
  have b1_2_13 := B1x.cell 13 (v := .bool b) rfl
  have b2_2_0 := B2.cell 0 (v := .int .i64 0) rfl
  have b2_2_1 := B2.cell 1 (v := .int .i64 0) rfl
  have zb2_2_0 := B2.frozen 0
  have zb2_2_1 := B2.frozen 1
  go_enter Tryz.func149, Tryz.ntmps149
  go_wp2
  have ap0 := Nat.ne_of_lt B1.lt
  have aq0 := Nat.ne_of_gt B1.lt
  go_region_held2 (fun w' => w'.cell? ⟨w.heap.size, 0, none⟩ = some (.int .u8 k) ∧ w'.cell? ⟨w.heap.size, 1, none⟩ = some (.int .i64 x) ∧ w'.cell? ⟨w.heap.size, 2, none⟩ = some (.int .i64 y) ∧ w'.cell? ⟨w.heap.size, 3, none⟩ = some (.int .u8 t) ∧ w'.cell? ⟨w.heap.size, 4, none⟩ = some (.int .i64 z) ∧ w'.cell? ⟨w.heap.size, 5, none⟩ = some (.int .i64 (To.fi x)) ∧ w'.cell? ⟨w.heap.size, 6, none⟩ = some (.int .i64 (To.fi y)) ∧ w'.cell? ⟨w.heap.size, 7, none⟩ = some (.int .i64 x) ∧ w'.cell? ⟨w.heap.size, 8, none⟩ = some (.int .i64 y) ∧ w'.cell? ⟨w.heap.size, 9, none⟩ = some (.int .i64 u) ∧ w'.cell? ⟨w.heap.size, 10, none⟩ = some (.int .i64 v) ∧ w'.cell? ⟨w.heap.size, 11, none⟩ = some (.int .i64 i) ∧ w'.cell? ⟨w.heap.size, 12, none⟩ = some (.int .i64 j) ∧ w'.cell? ⟨w.heap.size, 13, none⟩ = some (.bool b)) (go_keep) (first | (go_at_call 153; (fail_if_success (guard_hyp mk1)); refine (hw1 _).mono ?_; rintro e w' ⟨rfl, hw'⟩; subst w'; have mk1 : True := trivial) | (go_at_call 153; refine (hw2 _).mono ?_; rintro e w' ⟨rfl, hw'⟩; subst w') | (go_at_call 152; refine (hp _).mono ?_; rintro e w9 ⟨rfl, g9⟩; have R9 := B2.dr.kept g9 (by simp); have G9 := gb_trans (gb_drew G2) g9; have S9 := B1x.dr.kept g9 (by simp); have l0 := S9.cell 0 (v := .int .u8 k) rfl; have l1 := S9.cell 1 (v := .int .i64 x) rfl; have l2 := S9.cell 2 (v := .int .i64 y) rfl; have l3 := S9.cell 3 (v := .int .u8 t) rfl; have l4 := S9.cell 4 (v := .int .i64 z) rfl; have l5 := S9.cell 5 (v := .int .i64 (To.fi x)) rfl; have l6 := S9.cell 6 (v := .int .i64 (To.fi y)) rfl; have l7 := S9.cell 7 (v := .int .i64 x) rfl; have l8 := S9.cell 8 (v := .int .i64 y) rfl; have l9 := S9.cell 9 (v := .int .i64 u) rfl; have l10 := S9.cell 10 (v := .int .i64 v) rfl; have l11 := S9.cell 11 (v := .int .i64 i) rfl; have l12 := S9.cell 12 (v := .int .i64 j) rfl; have l13 := S9.cell 13 (v := .bool b) rfl; have y0 := R9.cell 0 (v := .int .i64 0) rfl; have y1 := R9.cell 1 (v := .int .i64 0) rfl; have f0 := R9.frozen 0; have f1 := R9.frozen 1))
  all_goals go_wp2
  all_goals refine ret_c1 (g := W1.heap.size) (cs := #[.int .i64 P, .int .i64 Q]) rfl hfs infoP rfl (bo2 R9) rfl ⟨rfl, gb2 G9 g1.size⟩
end Go.Proofs.YthjiiljglgmkpaaGreatDoor.Fd
