/- The walk of GensBack. -/
import Derived.Test.YtlkdenanbofliaaGreatDoorGq
import Derived.Deep.RegionHeld2
namespace Go.Proofs.YtlkdenanbofliaaGreatDoor
open Go.RowKit
set_option linter.unusedVariables false
set_option linter.unusedSimpArgs false
set_option maxRecDepth 100000

/-- A printed text: where its letter stands, and the texts with another letter and without one. -/
structure Cut (S Z1 Z2 X1 X2 Y1 : ByteArray) (p : Nat) : Prop where
  p0 : 0 < p
  pl : p < S.size
  sz : S.size ≤ 50
  at1 : Sc.bt S p = 67
  no : ∀ j, p < j → j < S.size → ¬ Sc.bt S j = 67
  e1 : S.extract 0 p = X1
  e2 : S.extract (p + 1) S.size = X2
  y1 : X1 ++ (⟨#[103]⟩ : ByteArray) = Y1
  z1 : Y1 ++ X2 = Z1
  z2 : X1 ++ X2 = Z2
  s1 : X1.size ≤ 50
  s2 : X2.size ≤ 50
  s3 : Y1.size ≤ 51
theorem bo4a {w : World} {g : Nat} {t : TypeId} {x0 x1 x2 x3 u0 u1 u2 u3 : Value} (h : Bo w g t #[x0, x1, x2, x3]) : Bo ((((w.setCell ⟨g, 0, none⟩ u0).setCell ⟨g, 1, none⟩ u1).setCell ⟨g, 2, none⟩ u2).setCell ⟨g, 3, none⟩ u3) g t #[u0, u1, u2, u3] := (((h.set 0 u0).set 1 u1).set 2 u2).set 3 u3
theorem bo4b {w : World} {g b : Nat} {t : TypeId} {cs : Array Value} {u0 u1 u2 u3 : Value} (h : Bo w g t cs) (hb : b ≠ g) : Bo ((((w.setCell ⟨b, 0, none⟩ u0).setCell ⟨b, 1, none⟩ u1).setCell ⟨b, 2, none⟩ u2).setCell ⟨b, 3, none⟩ u3) g t cs := (((h.set2 hb).set2 hb).set2 hb).set2 hb
theorem gb4 {w w' : World} (h : w.grownBy w' none) {b : Nat} (hb : w.heap.size ≤ b) {u0 u1 u2 u3 : Value} : w.grownBy ((((w'.setCell ⟨b, 0, none⟩ u0).setCell ⟨b, 1, none⟩ u1).setCell ⟨b, 2, none⟩ u2).setCell ⟨b, 3, none⟩ u3) none := gb_new (gb_new (gb_new (gb_new h hb _) hb _) hb _) hb _
theorem cut_of {ho bo st n : Nat} (hc : Gn.ck ho bo st n = 0) : ∃ X1 X2 Y1, Cut ⟨(Gn.wr (Gn.tx ho bo st) [67] n).toArray⟩ ⟨(Gn.wr (Gn.tx ho bo st) [103] n).toArray⟩ ⟨(Gn.wr (Gn.tx ho bo st) [] n).toArray⟩ X1 X2 Y1 ((Gn.tx ho bo st).length + 1) := by
  have hl := Gn.tx_len hc
  have hi := Gn.ck_in hc
  have hd := Gn.dec_len n (by omega)
  have hD := Gn.dec_isD n
  generalize Gn.tx ho bo st = P at hl ⊢
  generalize hDe : Lib.decDigits n = D at hd hD
  have hw : Gn.wr P [67] n = (P ++ [47]) ++ (67 :: D) := by unfold Gn.wr; rw [hDe]; simp
  have hw2 : Gn.wr P [67] n = (P ++ [47, 67]) ++ D := by unfold Gn.wr; rw [hDe]; simp
  have hz : (ByteArray.mk (Gn.wr P [67] n).toArray).size = P.length + 2 + D.length := by rw [hw]; simp [ByteArray.size]; omega
  have hp : (P ++ [47]).length = P.length + 1 := by simp
  have hp2 : (P ++ [47, 67]).length = P.length + 2 := by simp
  refine ⟨⟨(P ++ [47]).toArray⟩, ⟨D.toArray⟩, ⟨(P ++ [47, 103]).toArray⟩, by omega, by omega, by omega, ?_, fun j h1 h2 => ?_, ?_, ?_, ?_, ?_, ?_, ?_, ?_, ?_⟩
  · rw [hw, ← hp]; exact Gn.bt_mid _ _ 67
  · have hj : j - (P.length + 2) < D.length := by omega
    have e : ((P ++ [47, 67]) ++ D)[j]? = some D[j - (P.length + 2)] := by
      rw [List.getElem?_append_right (by omega), hp2, List.getElem?_eq_getElem hj]
    rw [hw2, Lf.bt_mk _ _ _ e]
    have := hD _ (List.getElem_mem hj)
    omega
  · rw [hw, ← hp]; exact Gn.ext_left _ _
  · have := Gn.ext_right (P ++ [47, 67]) D
    rw [← hw2, hp2] at this
    rw [← this]
    congr 1
  · apply ByteArray.ext; simp
  · unfold Gn.wr; rw [hDe]; apply ByteArray.ext; simp
  · unfold Gn.wr; rw [hDe]; apply ByteArray.ext; simp
  · show (P ++ [47]).toArray.size ≤ 50; simp; omega
  · show D.toArray.size ≤ 50; simp; omega
  · show (P ++ [47, 103]).toArray.size ≤ 51; simp; omega
set_option maxHeartbeats 4000000 in
theorem backBe (ho bo st : Nat) (n : Int) (t : ByteArray) (w : World) (en : Hid (En w)) (E : Nat) (hE : ¬ (E : Int) = 0) (hP : ∀ w, Hid (En w) → Calls Tryz.prog 11 #[.agg #[.int .u8 ho, .int .u16 bo, .int .u16 st, .int .i64 n]] w fun e w' => e = .returned (.tuple #[.string ⟨#[]⟩, .int .i64 E]) ∧ w.grownBy w' none) (hk : ∀ w, Hid (Hv w) → Calls Tryz.prog 13 #[.agg #[.int .u8 ho, .int .u16 bo, .int .u16 st, .int .i64 n]] w fun e w' => e = .returned (.int .i64 E) ∧ w.grownBy w' none) (ta te : Nat) (hte : ¬ (te : Int) = 0) (hta : (ta : Int) ≤ (t.size : Int)) (hT : ∀ w, Hid (En w) → Calls Tryz.prog 10 #[.string t] w fun e w' => e = .returned (.tuple #[.agg #[.int .u8 0, .int .u16 0, .int .u16 0, .int .i64 0], .int .i64 ta, .int .i64 te]) ∧ w.grownBy w' none) : Calls Tryz.prog 6 #[.agg #[.int .u8 ho, .int .u16 bo, .int .u16 st, .int .i64 n], .string t] w fun e w' => e = .returned (.bool true) ∧ w.grownBy w' none := by
  have hv := enH en
  obtain ⟨W1, hW1, sz1, g1, B1⟩ := boxn w #[.int .u8 ho, .int .u16 bo, .int .u16 st, .int .i64 n] 27
  have hv1 := hvK hv g1
  have b1_1_0 := B1.cell 0 (v := .int .u8 ho) rfl
  have b1_1_1 := B1.cell 1 (v := .int .u16 bo) rfl
  have b1_1_2 := B1.cell 2 (v := .int .u16 st) rfl
  have b1_1_3 := B1.cell 3 (v := .int .i64 n) rfl
  go_enter Tryz.func6, Tryz.ntmps6
  go_wp2_with (first | (go_at_call 8; (fail_if_success (guard_hyp g2)); refine (awakeC _ (enK en g1)).mono ?_; rintro e w2 ⟨rfl, g2⟩; have G2 := gb_trans g1 g2; have hv2 := hvK hv G2; have B1x := B1.kept g2 (by simp); clear b1_1_0 b1_1_1 b1_1_2 b1_1_3; have b1_2_0 := B1x.cell 0 (v := .int .u8 ho) rfl; have b1_2_1 := B1x.cell 1 (v := .int .u16 bo) rfl; have b1_2_2 := B1x.cell 2 (v := .int .u16 st) rfl; have b1_2_3 := B1x.cell 3 (v := .int .i64 n) rfl) | (go_at_call 11; (fail_if_success (guard_hyp g3)); refine (hP _ (enK en G2)).mono ?_; rintro e w3 ⟨rfl, g3⟩; have G3 := gb_trans G2 g3; have hv3 := hvK hv G3; have B1xx := B1x.kept g3 (by simp); clear b1_2_0 b1_2_1 b1_2_2 b1_2_3; have b1_3_0 := B1xx.cell 0 (v := .int .u8 ho) rfl; have b1_3_1 := B1xx.cell 1 (v := .int .u16 bo) rfl; have b1_3_2 := B1xx.cell 2 (v := .int .u16 st) rfl; have b1_3_3 := B1xx.cell 3 (v := .int .i64 n) rfl) | (go_at_call 13; (fail_if_success (guard_hyp g4)); refine (hk _ hv3).mono ?_; rintro e w4 ⟨rfl, g4⟩; have G4 := gb_trans G3 g4; have hv4 := hvK hv G4; have B1xxx := B1xx.kept g4 (by simp); clear b1_3_0 b1_3_1 b1_3_2 b1_3_3; have b1_4_0 := B1xxx.cell 0 (v := .int .u8 ho) rfl; have b1_4_1 := B1xxx.cell 1 (v := .int .u16 bo) rfl; have b1_4_2 := B1xxx.cell 2 (v := .int .u16 st) rfl; have b1_4_3 := B1xxx.cell 3 (v := .int .i64 n) rfl) | (go_at_call 10; (fail_if_success (guard_hyp g5)); refine (hT _ (enK en G4)).mono ?_; rintro e w5 ⟨rfl, g5⟩; have G5 := gb_trans G4 g5; have hv5 := hvK hv G5; have B1xxxx := B1xxx.kept g5 (by simp); obtain ⟨W6, hW6, sz6, g6, B6⟩ := boxn w5 #[.int .u8 0, .int .u16 0, .int .u16 0, .int .i64 0] 27; have G6 := gb_trans G5 g6; have hv6 := hvK hv G6; have B1xxxxx := B1xxxx.kept g6 (by simp); have sm6_0 := Bo.same B6 0 (v := .int .u8 0) rfl; have sm6_1 := Bo.same B6 1 (v := .int .u16 0) rfl; have sm6_2 := Bo.same B6 2 (v := .int .u16 0) rfl; have sm6_3 := Bo.same B6 3 (v := .int .i64 0) rfl; have fz6_0 := B6.frozen 0; have fz6_1 := B6.frozen 1; have fz6_2 := B6.frozen 2; have fz6_3 := B6.frozen 3; clear b1_4_0 b1_4_1 b1_4_2 b1_4_3; have b1_6_0 := B1xxxxx.cell 0 (v := .int .u8 ho) rfl; have b1_6_1 := B1xxxxx.cell 1 (v := .int .u16 bo) rfl; have b1_6_2 := B1xxxxx.cell 2 (v := .int .u16 st) rfl; have b1_6_3 := B1xxxxx.cell 3 (v := .int .i64 n) rfl; have b6_6_0 := B6.cell 0 (v := .int .u8 0) rfl; have b6_6_1 := B6.cell 1 (v := .int .u16 0) rfl; have b6_6_2 := B6.cell 2 (v := .int .u16 0) rfl; have b6_6_3 := B6.cell 3 (v := .int .i64 0) rfl; obtain ⟨W7, hW7, sz7, g7, B7⟩ := boxn W6 #[.int .u8 0, .int .u16 0, .int .u16 0, .int .i64 0] 27; have G7 := gb_trans G6 g7; have hv7 := hvK hv G7; have B1xxxxxx := B1xxxxx.kept g7 (by simp); have B6x := B6.kept g7 (by simp); have sm7_0 := Bo.same B7 0 (v := .int .u8 0) rfl; have sm7_1 := Bo.same B7 1 (v := .int .u16 0) rfl; have sm7_2 := Bo.same B7 2 (v := .int .u16 0) rfl; have sm7_3 := Bo.same B7 3 (v := .int .i64 0) rfl; have fz7_0 := B7.frozen 0; have fz7_1 := B7.frozen 1; have fz7_2 := B7.frozen 2; have fz7_3 := B7.frozen 3; have b1_7_0 := B1xxxxxx.cell 0 (v := .int .u8 ho) rfl; have b1_7_1 := B1xxxxxx.cell 1 (v := .int .u16 bo) rfl; have b1_7_2 := B1xxxxxx.cell 2 (v := .int .u16 st) rfl; have b1_7_3 := B1xxxxxx.cell 3 (v := .int .i64 n) rfl; have b6_7_0 := B6x.cell 0 (v := .int .u8 0) rfl; have b6_7_1 := B6x.cell 1 (v := .int .u16 0) rfl; have b6_7_2 := B6x.cell 2 (v := .int .u16 0) rfl; have b6_7_3 := B6x.cell 3 (v := .int .i64 0) rfl; have b7_7_0 := B7.cell 0 (v := .int .u8 0) rfl; have b7_7_1 := B7.cell 1 (v := .int .u16 0) rfl; have b7_7_2 := B7.cell 2 (v := .int .u16 0) rfl; have b7_7_3 := B7.cell 3 (v := .int .i64 0) rfl))
  go_ret
  exact ⟨rfl, G7⟩
set_option maxHeartbeats 4000000 in
theorem backBk (ho bo st : Nat) (n : Int) (t : ByteArray) (w : World) (en : Hid (En w)) (E : Nat) (hE : ¬ (E : Int) = 0) (hP : ∀ w, Hid (En w) → Calls Tryz.prog 11 #[.agg #[.int .u8 ho, .int .u16 bo, .int .u16 st, .int .i64 n]] w fun e w' => e = .returned (.tuple #[.string ⟨#[]⟩, .int .i64 E]) ∧ w.grownBy w' none) (hk : ∀ w, Hid (Hv w) → Calls Tryz.prog 13 #[.agg #[.int .u8 ho, .int .u16 bo, .int .u16 st, .int .i64 n]] w fun e w' => e = .returned (.int .i64 E) ∧ w.grownBy w' none) (xh xb xs xn : Nat) (y : ByteArray) (hy : y.toList.isEmpty = false) (hT : ∀ w, Hid (En w) → Calls Tryz.prog 10 #[.string t] w fun e w' => e = .returned (.tuple #[.agg #[.int .u8 (xh : Nat), .int .u16 (xb : Nat), .int .u16 (xs : Nat), .int .i64 (xn : Nat)], .int .i64 0, .int .i64 0]) ∧ w.grownBy w' none) (hX : ∀ w, Hid (En w) → Calls Tryz.prog 11 #[.agg #[.int .u8 (xh : Nat), .int .u16 (xb : Nat), .int .u16 (xs : Nat), .int .i64 (xn : Nat)]] w fun e w' => e = .returned (.tuple #[.string y, .int .i64 0]) ∧ w.grownBy w' none) (hY : ∀ w, Hid (En w) → Calls Tryz.prog 10 #[.string y] w fun e w' => e = .returned (.tuple #[.agg #[.int .u8 (xh : Nat), .int .u16 (xb : Nat), .int .u16 (xs : Nat), .int .i64 (xn : Nat)], .int .i64 0, .int .i64 0]) ∧ w.grownBy w' none) : Calls Tryz.prog 6 #[.agg #[.int .u8 ho, .int .u16 bo, .int .u16 st, .int .i64 n], .string t] w fun e w' => e = .returned (.bool true) ∧ w.grownBy w' none := by
  have hv := enH en
  obtain ⟨W1, hW1, sz1, g1, B1⟩ := boxn w #[.int .u8 ho, .int .u16 bo, .int .u16 st, .int .i64 n] 27
  have hv1 := hvK hv g1
  have b1_1_0 := B1.cell 0 (v := .int .u8 ho) rfl
  have b1_1_1 := B1.cell 1 (v := .int .u16 bo) rfl
  have b1_1_2 := B1.cell 2 (v := .int .u16 st) rfl
  have b1_1_3 := B1.cell 3 (v := .int .i64 n) rfl
  go_enter Tryz.func6, Tryz.ntmps6
  go_wp2_with (first | (go_at_call 8; (fail_if_success (guard_hyp g2)); refine (awakeC _ (enK en g1)).mono ?_; rintro e w2 ⟨rfl, g2⟩; have G2 := gb_trans g1 g2; have hv2 := hvK hv G2; have B1x := B1.kept g2 (by simp); clear b1_1_0 b1_1_1 b1_1_2 b1_1_3; have b1_2_0 := B1x.cell 0 (v := .int .u8 ho) rfl; have b1_2_1 := B1x.cell 1 (v := .int .u16 bo) rfl; have b1_2_2 := B1x.cell 2 (v := .int .u16 st) rfl; have b1_2_3 := B1x.cell 3 (v := .int .i64 n) rfl) | (go_at_call 11; (fail_if_success (guard_hyp g3)); refine (hP _ (enK en G2)).mono ?_; rintro e w3 ⟨rfl, g3⟩; have G3 := gb_trans G2 g3; have hv3 := hvK hv G3; have B1xx := B1x.kept g3 (by simp); clear b1_2_0 b1_2_1 b1_2_2 b1_2_3; have b1_3_0 := B1xx.cell 0 (v := .int .u8 ho) rfl; have b1_3_1 := B1xx.cell 1 (v := .int .u16 bo) rfl; have b1_3_2 := B1xx.cell 2 (v := .int .u16 st) rfl; have b1_3_3 := B1xx.cell 3 (v := .int .i64 n) rfl) | (go_at_call 13; (fail_if_success (guard_hyp g4)); refine (hk _ hv3).mono ?_; rintro e w4 ⟨rfl, g4⟩; have G4 := gb_trans G3 g4; have hv4 := hvK hv G4; have B1xxx := B1xx.kept g4 (by simp); clear b1_3_0 b1_3_1 b1_3_2 b1_3_3; have b1_4_0 := B1xxx.cell 0 (v := .int .u8 ho) rfl; have b1_4_1 := B1xxx.cell 1 (v := .int .u16 bo) rfl; have b1_4_2 := B1xxx.cell 2 (v := .int .u16 st) rfl; have b1_4_3 := B1xxx.cell 3 (v := .int .i64 n) rfl) | (go_at_call 10; (fail_if_success (guard_hyp g5)); refine (hT _ (enK en G4)).mono ?_; rintro e w5 ⟨rfl, g5⟩; have G5 := gb_trans G4 g5; have hv5 := hvK hv G5; have B1xxxx := B1xxx.kept g5 (by simp); obtain ⟨W6, hW6, sz6, g6, B6⟩ := boxn w5 #[.int .u8 (xh : Nat), .int .u16 (xb : Nat), .int .u16 (xs : Nat), .int .i64 (xn : Nat)] 27; have G6 := gb_trans G5 g6; have hv6 := hvK hv G6; have B1xxxxx := B1xxxx.kept g6 (by simp); clear b1_4_0 b1_4_1 b1_4_2 b1_4_3; have b1_6_0 := B1xxxxx.cell 0 (v := .int .u8 ho) rfl; have b1_6_1 := B1xxxxx.cell 1 (v := .int .u16 bo) rfl; have b1_6_2 := B1xxxxx.cell 2 (v := .int .u16 st) rfl; have b1_6_3 := B1xxxxx.cell 3 (v := .int .i64 n) rfl; have b6_6_0 := B6.cell 0 (v := .int .u8 (xh : Nat)) rfl; have b6_6_1 := B6.cell 1 (v := .int .u16 (xb : Nat)) rfl; have b6_6_2 := B6.cell 2 (v := .int .u16 (xs : Nat)) rfl; have b6_6_3 := B6.cell 3 (v := .int .i64 (xn : Nat)) rfl) | (go_at_call 11; (fail_if_success (guard_hyp g7)); refine (hX _ (enK en G6)).mono ?_; rintro e w7 ⟨rfl, g7⟩; have G7 := gb_trans G6 g7; have hv7 := hvK hv G7; have B1xxxxxx := B1xxxxx.kept g7 (by simp); have B6x := B6.kept g7 (by simp); clear b1_6_0 b1_6_1 b1_6_2 b1_6_3 b6_6_0 b6_6_1 b6_6_2 b6_6_3; have b1_7_0 := B1xxxxxx.cell 0 (v := .int .u8 ho) rfl; have b1_7_1 := B1xxxxxx.cell 1 (v := .int .u16 bo) rfl; have b1_7_2 := B1xxxxxx.cell 2 (v := .int .u16 st) rfl; have b1_7_3 := B1xxxxxx.cell 3 (v := .int .i64 n) rfl; have b6_7_0 := B6x.cell 0 (v := .int .u8 (xh : Nat)) rfl; have b6_7_1 := B6x.cell 1 (v := .int .u16 (xb : Nat)) rfl; have b6_7_2 := B6x.cell 2 (v := .int .u16 (xs : Nat)) rfl; have b6_7_3 := B6x.cell 3 (v := .int .i64 (xn : Nat)) rfl) | (go_at_call 10; (fail_if_success (guard_hyp g8)); refine (hY _ (enK en G7)).mono ?_; rintro e w8 ⟨rfl, g8⟩; have G8 := gb_trans G7 g8; have hv8 := hvK hv G8; have B1xxxxxxx := B1xxxxxx.kept g8 (by simp); have B6xx := B6x.kept g8 (by simp); obtain ⟨W9, hW9, sz9, g9, B9⟩ := boxn w8 #[.int .u8 (xh : Nat), .int .u16 (xb : Nat), .int .u16 (xs : Nat), .int .i64 (xn : Nat)] 27; have G9 := gb_trans G8 g9; have hv9 := hvK hv G9; have B1xxxxxxxx := B1xxxxxxx.kept g9 (by simp); have B6xxx := B6xx.kept g9 (by simp); clear b1_7_0 b1_7_1 b1_7_2 b1_7_3 b6_7_0 b6_7_1 b6_7_2 b6_7_3; have b1_9_0 := B1xxxxxxxx.cell 0 (v := .int .u8 ho) rfl; have b1_9_1 := B1xxxxxxxx.cell 1 (v := .int .u16 bo) rfl; have b1_9_2 := B1xxxxxxxx.cell 2 (v := .int .u16 st) rfl; have b1_9_3 := B1xxxxxxxx.cell 3 (v := .int .i64 n) rfl; have b6_9_0 := B6xxx.cell 0 (v := .int .u8 (xh : Nat)) rfl; have b6_9_1 := B6xxx.cell 1 (v := .int .u16 (xb : Nat)) rfl; have b6_9_2 := B6xxx.cell 2 (v := .int .u16 (xs : Nat)) rfl; have b6_9_3 := B6xxx.cell 3 (v := .int .i64 (xn : Nat)) rfl; have b9_9_0 := B9.cell 0 (v := .int .u8 (xh : Nat)) rfl; have b9_9_1 := B9.cell 1 (v := .int .u16 (xb : Nat)) rfl; have b9_9_2 := B9.cell 2 (v := .int .u16 (xs : Nat)) rfl; have b9_9_3 := B9.cell 3 (v := .int .i64 (xn : Nat)) rfl))
  go_ret
  exact ⟨rfl, G9⟩
set_option maxHeartbeats 8000000 in
theorem backFe (ho bo st n : Nat) (t : ByteArray) (w : World) (en : Hid (En w)) (S Z1 Z2 X1 X2 Y1 : ByteArray) (p : Nat) (hcut : Cut S Z1 Z2 X1 X2 Y1 p) (hP : ∀ w, Hid (En w) → Calls Tryz.prog 11 #[.agg #[.int .u8 ho, .int .u16 bo, .int .u16 st, .int .i64 (n : Nat)]] w fun e w' => e = .returned (.tuple #[.string S, .int .i64 0]) ∧ w.grownBy w' none) (hA : ∀ w, Hid (En w) → Calls Tryz.prog 10 #[.string S] w fun e w' => e = .returned (.tuple #[.agg #[.int .u8 ho, .int .u16 bo, .int .u16 st, .int .i64 (n : Nat)], .int .i64 0, .int .i64 0]) ∧ w.grownBy w' none) (hB : ∀ w, Hid (En w) → Calls Tryz.prog 10 #[.string Z1] w fun e w' => e = .returned (.tuple #[.agg #[.int .u8 ho, .int .u16 bo, .int .u16 st, .int .i64 (n : Nat)], .int .i64 0, .int .i64 0]) ∧ w.grownBy w' none) (hC : ∀ w, Hid (En w) → Calls Tryz.prog 10 #[.string Z2] w fun e w' => e = .returned (.tuple #[.agg #[.int .u8 ho, .int .u16 bo, .int .u16 st, .int .i64 (n : Nat)], .int .i64 0, .int .i64 0]) ∧ w.grownBy w' none) (ta te : Nat) (hte : ¬ (te : Int) = 0) (hta : (ta : Int) ≤ (t.size : Int)) (hT : ∀ w, Hid (En w) → Calls Tryz.prog 10 #[.string t] w fun e w' => e = .returned (.tuple #[.agg #[.int .u8 0, .int .u16 0, .int .u16 0, .int .i64 0], .int .i64 ta, .int .i64 te]) ∧ w.grownBy w' none) : Calls Tryz.prog 6 #[.agg #[.int .u8 ho, .int .u16 bo, .int .u16 st, .int .i64 (n : Nat)], .string t] w fun e w' => e = .returned (.bool true) ∧ w.grownBy w' none := by
  have hv := enH en
  have p0 := hcut.p0
  have pl := hcut.pl
  have ssz := hcut.sz
  have hsz1 : IntKind.i64.wrap ((S.size : Int) - 1) = ((S.size - 1 : Nat) : Int) := by rw [IntKind.wrap_i64]; omega
  have e1 := hcut.e1
  have e2 := hcut.e2
  have y1 := hcut.y1
  have z1 := hcut.z1
  have z2 := hcut.z2
  have s1 := hcut.s1
  have s2 := hcut.s2
  have s3 := hcut.s3
  have a1 : ∀ w : World, (Op.stringOp .add X1 ⟨#[103]⟩).run Tryz.prog w = .ok (.string Y1) w := fun w => by rw [← y1]; exact run_string_add_sum w _ _ (by show _ + 1 ≤ _; omega)
  have a2 : ∀ w : World, (Op.stringOp .add Y1 X2).run Tryz.prog w = .ok (.string Z1) w := fun w => by rw [← z1]; exact run_string_add_sum w _ _ (by omega)
  have a3 : ∀ w : World, (Op.stringOp .add X1 X2).run Tryz.prog w = .ok (.string Z2) w := fun w => by rw [← z2]; exact run_string_add_sum w _ _ (by omega)
  have hat := hcut.at1
  have HNO : Hid (∀ j, p < j → j < S.size → ¬ Sc.bt S j = 67) := hcut.no
  clear hcut y1 z1 z2 s1 s2 s3
  obtain ⟨W1, hW1, sz1, g1, B1⟩ := boxn w #[.int .u8 ho, .int .u16 bo, .int .u16 st, .int .i64 (n : Nat)] 27
  have hv1 := hvK hv g1
  have b1_1_0 := B1.cell 0 (v := .int .u8 ho) rfl
  have b1_1_1 := B1.cell 1 (v := .int .u16 bo) rfl
  have b1_1_2 := B1.cell 2 (v := .int .u16 st) rfl
  have b1_1_3 := B1.cell 3 (v := .int .i64 (n : Nat)) rfl
  go_enter Tryz.func6, Tryz.ntmps6
  go_wp2_with (first | (go_at_call 8; (fail_if_success (guard_hyp g2)); refine (awakeC _ (enK en g1)).mono ?_; rintro e w2 ⟨rfl, g2⟩; have G2 := gb_trans g1 g2; have hv2 := hvK hv G2; have B1x := B1.kept g2 (by simp); clear b1_1_0 b1_1_1 b1_1_2 b1_1_3; have b1_2_0 := B1x.cell 0 (v := .int .u8 ho) rfl; have b1_2_1 := B1x.cell 1 (v := .int .u16 bo) rfl; have b1_2_2 := B1x.cell 2 (v := .int .u16 st) rfl; have b1_2_3 := B1x.cell 3 (v := .int .i64 (n : Nat)) rfl) | (go_at_call 11; (fail_if_success (guard_hyp g3)); refine (hP _ (enK en G2)).mono ?_; rintro e w3 ⟨rfl, g3⟩; have G3 := gb_trans G2 g3; have hv3 := hvK hv G3; have B1xx := B1x.kept g3 (by simp); clear b1_2_0 b1_2_1 b1_2_2 b1_2_3; have b1_3_0 := B1xx.cell 0 (v := .int .u8 ho) rfl; have b1_3_1 := B1xx.cell 1 (v := .int .u16 bo) rfl; have b1_3_2 := B1xx.cell 2 (v := .int .u16 st) rfl; have b1_3_3 := B1xx.cell 3 (v := .int .i64 (n : Nat)) rfl))
  go_loopw [8] (fun v wr => ∃ k : Nat, p ≤ k ∧ k < S.size ∧ v = .int .i64 k ∧ wr = w3) (fun v _ => (intOf v).toNat)
  case atStart => exact ⟨S.size - 1, by omega, by omega, by first | rfl | simp, rfl⟩
  case round =>
    obtain ⟨k, hk1, hk2, rfl, rfl⟩ := hrel
    have hk2' : (k : Int) < (S.size : Int) := by omega
    have hk0 : (0 : Int) < (k : Int) := by omega
    have hbt := Sc.bt_at hk2
    by_cases hkp : k = p
    · subst hkp
      have b1 : ((Sc.bt S k : Nat) : Int) = 67 := by omega
      have b1' : (((Sc.bt S k : Nat) : Int) == 67) = true := by simp; omega
      have hp1 : ¬ (k : Int) < 1 := by omega
      have hpw : IntKind.i64.wrap ((k : Int) + 1) = (k : Int) + 1 := by rw [IntKind.wrap_i64]; omega
      have hple : (k : Int) ≤ (S.size : Int) := by omega
      have hple2 : (k : Int) + 1 ≤ (S.size : Int) := by omega
      have hpn0 : (0 : Int) ≤ (k : Int) + 1 := by omega
      have hpn1 : ¬ (k : Int) + 1 < 0 := by omega
      have hpn2 : ((k : Int) + 1).toNat = k + 1 := by omega
      have hpn3 : (0 : Int) ≤ (k : Int) := by omega
      clear hat HNO
      go_wp2_with (first | (go_at_call 10; (fail_if_success (guard_hyp g4)); refine (hA _ (enK en G3)).mono ?_; rintro e w4 ⟨rfl, g4⟩; have G4 := gb_trans G3 g4; have hv4 := hvK hv G4; have B1xxx := B1xx.kept g4 (by simp); obtain ⟨W5, hW5, sz5, g5, B5⟩ := boxn w4 #[.int .u8 ho, .int .u16 bo, .int .u16 st, .int .i64 (n : Nat)] 27; have G5 := gb_trans G4 g5; have hv5 := hvK hv G5; have B1xxxx := B1xxx.kept g5 (by simp); clear b1_3_0 b1_3_1 b1_3_2 b1_3_3; have b1_5_0 := B1xxxx.cell 0 (v := .int .u8 ho) rfl; have b1_5_1 := B1xxxx.cell 1 (v := .int .u16 bo) rfl; have b1_5_2 := B1xxxx.cell 2 (v := .int .u16 st) rfl; have b1_5_3 := B1xxxx.cell 3 (v := .int .i64 (n : Nat)) rfl; have b5_5_0 := B5.cell 0 (v := .int .u8 ho) rfl; have b5_5_1 := B5.cell 1 (v := .int .u16 bo) rfl; have b5_5_2 := B5.cell 2 (v := .int .u16 st) rfl; have b5_5_3 := B5.cell 3 (v := .int .i64 (n : Nat)) rfl))
      obtain ⟨Wz6, hWz6, szz6, gz6, Bz6⟩ := boxn W5 #[.int .u8 0, .int .u16 0, .int .u16 0, .int .i64 0] 27
      have p06 := B1xxxx.cell 0 (v := .int .u8 ho) rfl
      have p16 := (B1xxxx.kept gz6 (by simp)).cell 0 (v := .int .u8 ho) rfl
      go_region_held2 (fun w' => w'.cell? ⟨w.heap.size, 0, none⟩ = some (.int .u8 ho)) (go_keep) (first | (go_at_call 10; refine (hB _ (enK en (gb_drew (gb_trans G5 gz6)))).mono ?_; rintro e w6 ⟨rfl, g6⟩; have G6 := gb_trans (gb_drew (gb_trans G5 gz6)) g6; have Bq6 := Bz6.dr.kept g6 (by simp); have B1xxxxk := (B1xxxx.kept gz6 (by simp)).dr.kept g6 (by simp); have B5k := (B5.kept gz6 (by simp)).dr.kept g6 (by simp); have qz6_0 := Bq6.cell 0 (v := .int .u8 0) rfl; have qz6_1 := Bq6.cell 1 (v := .int .u16 0) rfl; have qz6_2 := Bq6.cell 2 (v := .int .u16 0) rfl; have qz6_3 := Bq6.cell 3 (v := .int .i64 0) rfl; have qf6_0 := Bq6.frozen 0; have qf6_1 := Bq6.frozen 1; have qf6_2 := Bq6.frozen 2; have qf6_3 := Bq6.frozen 3; obtain ⟨W7, hW7⟩ : ∃ W, ((((w6.setCell ⟨W5.heap.size, 0, none⟩ (.int .u8 ho)).setCell ⟨W5.heap.size, 1, none⟩ (.int .u16 bo)).setCell ⟨W5.heap.size, 2, none⟩ (.int .u16 st)).setCell ⟨W5.heap.size, 3, none⟩ (.int .i64 (n : Nat))) = W := ⟨_, rfl⟩; have B7 : Bo W7 W5.heap.size 27 #[.int .u8 ho, .int .u16 bo, .int .u16 st, .int .i64 (n : Nat)] := hW7 ▸ bo4a Bq6; have B1xxxxy : Bo W7 _ _ _ := hW7 ▸ bo4b B1xxxxk (Nat.ne_of_gt B1xxxx.lt); have B5y : Bo W7 _ _ _ := hW7 ▸ bo4b B5k (Nat.ne_of_gt B5.lt); have G7 : w.grownBy W7 none := hW7 ▸ gb4 G6 G5.size; have p36 := B1xxxxk.cell 0 (v := .int .u8 ho) rfl; have p46 := B1xxxxy.cell 0 (v := .int .u8 ho) rfl) | (go_at_call 10; refine (hB _ (enK en (gb_drew G5))).mono ?_; rintro e w6 ⟨rfl, g6⟩; have G6 := gb_trans (gb_drew G5) g6; have B1xxxxk := B1xxxx.dr.kept g6 (by simp); have B5k := B5.dr.kept g6 (by simp); obtain ⟨W7, hW7, sz7, g7, B7⟩ := boxn w6 #[.int .u8 ho, .int .u16 bo, .int .u16 st, .int .i64 (n : Nat)] 27; have B1xxxxy := B1xxxxk.kept g7 (by simp); have B5y := B5k.kept g7 (by simp); have G7 := gb_trans G6 g7; have p36 := B1xxxxk.cell 0 (v := .int .u8 ho) rfl; have p46 := B1xxxxy.cell 0 (v := .int .u8 ho) rfl))
      all_goals clear p06 p16 p36 p46
      all_goals obtain ⟨Wz8, hWz8, szz8, gz8, Bz8⟩ := boxn W7 #[.int .u8 0, .int .u16 0, .int .u16 0, .int .i64 0] 27
      all_goals have p08 := B1xxxxy.cell 0 (v := .int .u8 ho) rfl
      all_goals have p18 := (B1xxxxy.kept gz8 (by simp)).cell 0 (v := .int .u8 ho) rfl
      all_goals go_wp2
      all_goals go_region_held2 (fun w' => w'.cell? ⟨w.heap.size, 0, none⟩ = some (.int .u8 ho)) (go_keep) (first | (go_at_call 10; refine (hC _ (enK en (gb_drew (gb_trans G7 gz8)))).mono ?_; rintro e w8 ⟨rfl, g8⟩; have G8 := gb_trans (gb_drew (gb_trans G7 gz8)) g8; have Bq8 := Bz8.dr.kept g8 (by simp); have B1xxxxyk := (B1xxxxy.kept gz8 (by simp)).dr.kept g8 (by simp); have B5yk := (B5y.kept gz8 (by simp)).dr.kept g8 (by simp); have B7k := (B7.kept gz8 (by simp)).dr.kept g8 (by simp); have qz8_0 := Bq8.cell 0 (v := .int .u8 0) rfl; have qz8_1 := Bq8.cell 1 (v := .int .u16 0) rfl; have qz8_2 := Bq8.cell 2 (v := .int .u16 0) rfl; have qz8_3 := Bq8.cell 3 (v := .int .i64 0) rfl; have qf8_0 := Bq8.frozen 0; have qf8_1 := Bq8.frozen 1; have qf8_2 := Bq8.frozen 2; have qf8_3 := Bq8.frozen 3; obtain ⟨W9, hW9⟩ : ∃ W, ((((w8.setCell ⟨W7.heap.size, 0, none⟩ (.int .u8 ho)).setCell ⟨W7.heap.size, 1, none⟩ (.int .u16 bo)).setCell ⟨W7.heap.size, 2, none⟩ (.int .u16 st)).setCell ⟨W7.heap.size, 3, none⟩ (.int .i64 (n : Nat))) = W := ⟨_, rfl⟩; have B9 : Bo W9 W7.heap.size 27 #[.int .u8 ho, .int .u16 bo, .int .u16 st, .int .i64 (n : Nat)] := hW9 ▸ bo4a Bq8; have B1xxxxyy : Bo W9 _ _ _ := hW9 ▸ bo4b B1xxxxyk (Nat.ne_of_gt B1xxxxy.lt); have B5yy : Bo W9 _ _ _ := hW9 ▸ bo4b B5yk (Nat.ne_of_gt B5y.lt); have B7y : Bo W9 _ _ _ := hW9 ▸ bo4b B7k (Nat.ne_of_gt B7.lt); have G9 : w.grownBy W9 none := hW9 ▸ gb4 G8 G7.size; have p38 := B1xxxxyk.cell 0 (v := .int .u8 ho) rfl; have p48 := B1xxxxyy.cell 0 (v := .int .u8 ho) rfl) | (go_at_call 10; refine (hC _ (enK en (gb_drew G7))).mono ?_; rintro e w8 ⟨rfl, g8⟩; have G8 := gb_trans (gb_drew G7) g8; have B1xxxxyk := B1xxxxy.dr.kept g8 (by simp); have B5yk := B5y.dr.kept g8 (by simp); have B7k := B7.dr.kept g8 (by simp); obtain ⟨W9, hW9, sz9, g9, B9⟩ := boxn w8 #[.int .u8 ho, .int .u16 bo, .int .u16 st, .int .i64 (n : Nat)] 27; have B1xxxxyy := B1xxxxyk.kept g9 (by simp); have B5yy := B5yk.kept g9 (by simp); have B7y := B7k.kept g9 (by simp); have G9 := gb_trans G8 g9; have p38 := B1xxxxyk.cell 0 (v := .int .u8 ho) rfl; have p48 := B1xxxxyy.cell 0 (v := .int .u8 ho) rfl))
      all_goals clear p08 p18 p38 p48
      all_goals have b1_9_0 := B1xxxxyy.cell 0 (v := .int .u8 ho) rfl
      all_goals have b1_9_1 := B1xxxxyy.cell 1 (v := .int .u16 bo) rfl
      all_goals have b1_9_2 := B1xxxxyy.cell 2 (v := .int .u16 st) rfl
      all_goals have b1_9_3 := B1xxxxyy.cell 3 (v := .int .i64 (n : Nat)) rfl
      all_goals have b5_9_0 := B5yy.cell 0 (v := .int .u8 ho) rfl
      all_goals have b5_9_1 := B5yy.cell 1 (v := .int .u16 bo) rfl
      all_goals have b5_9_2 := B5yy.cell 2 (v := .int .u16 st) rfl
      all_goals have b5_9_3 := B5yy.cell 3 (v := .int .i64 (n : Nat)) rfl
      all_goals have b7_9_0 := B7y.cell 0 (v := .int .u8 ho) rfl
      all_goals have b7_9_1 := B7y.cell 1 (v := .int .u16 bo) rfl
      all_goals have b7_9_2 := B7y.cell 2 (v := .int .u16 st) rfl
      all_goals have b7_9_3 := B7y.cell 3 (v := .int .i64 (n : Nat)) rfl
      all_goals have b9_9_0 := B9.cell 0 (v := .int .u8 ho) rfl
      all_goals have b9_9_1 := B9.cell 1 (v := .int .u16 bo) rfl
      all_goals have b9_9_2 := B9.cell 2 (v := .int .u16 st) rfl
      all_goals have b9_9_3 := B9.cell 3 (v := .int .i64 (n : Nat)) rfl
      all_goals go_wp2_with (first | (go_at_call 10; (fail_if_success (guard_hyp g10)); refine (hT _ (enK en G9)).mono ?_; rintro e w10 ⟨rfl, g10⟩; have G10 := gb_trans G9 g10; have hv10 := hvK hv G10; have B1xxxxyyx := B1xxxxyy.kept g10 (by simp); have B5yyx := B5yy.kept g10 (by simp); have B7yx := B7y.kept g10 (by simp); have B9x := B9.kept g10 (by simp); obtain ⟨W11, hW11, sz11, g11, B11⟩ := boxn w10 #[.int .u8 0, .int .u16 0, .int .u16 0, .int .i64 0] 27; have G11 := gb_trans G10 g11; have hv11 := hvK hv G11; have B1xxxxyyxx := B1xxxxyyx.kept g11 (by simp); have B5yyxx := B5yyx.kept g11 (by simp); have B7yxx := B7yx.kept g11 (by simp); have B9xx := B9x.kept g11 (by simp); have sm11_0 := Bo.same B11 0 (v := .int .u8 0) rfl; have sm11_1 := Bo.same B11 1 (v := .int .u16 0) rfl; have sm11_2 := Bo.same B11 2 (v := .int .u16 0) rfl; have sm11_3 := Bo.same B11 3 (v := .int .i64 0) rfl; have fz11_0 := B11.frozen 0; have fz11_1 := B11.frozen 1; have fz11_2 := B11.frozen 2; have fz11_3 := B11.frozen 3; clear b1_9_0 b1_9_1 b1_9_2 b1_9_3 b5_9_0 b5_9_1 b5_9_2 b5_9_3 b7_9_0 b7_9_1 b7_9_2 b7_9_3 b9_9_0 b9_9_1 b9_9_2 b9_9_3; have b1_11_0 := B1xxxxyyxx.cell 0 (v := .int .u8 ho) rfl; have b1_11_1 := B1xxxxyyxx.cell 1 (v := .int .u16 bo) rfl; have b1_11_2 := B1xxxxyyxx.cell 2 (v := .int .u16 st) rfl; have b1_11_3 := B1xxxxyyxx.cell 3 (v := .int .i64 (n : Nat)) rfl; have b5_11_0 := B5yyxx.cell 0 (v := .int .u8 ho) rfl; have b5_11_1 := B5yyxx.cell 1 (v := .int .u16 bo) rfl; have b5_11_2 := B5yyxx.cell 2 (v := .int .u16 st) rfl; have b5_11_3 := B5yyxx.cell 3 (v := .int .i64 (n : Nat)) rfl; have b7_11_0 := B7yxx.cell 0 (v := .int .u8 ho) rfl; have b7_11_1 := B7yxx.cell 1 (v := .int .u16 bo) rfl; have b7_11_2 := B7yxx.cell 2 (v := .int .u16 st) rfl; have b7_11_3 := B7yxx.cell 3 (v := .int .i64 (n : Nat)) rfl; have b9_11_0 := B9xx.cell 0 (v := .int .u8 ho) rfl; have b9_11_1 := B9xx.cell 1 (v := .int .u16 bo) rfl; have b9_11_2 := B9xx.cell 2 (v := .int .u16 st) rfl; have b9_11_3 := B9xx.cell 3 (v := .int .i64 (n : Nat)) rfl; have b11_11_0 := B11.cell 0 (v := .int .u8 0) rfl; have b11_11_1 := B11.cell 1 (v := .int .u16 0) rfl; have b11_11_2 := B11.cell 2 (v := .int .u16 0) rfl; have b11_11_3 := B11.cell 3 (v := .int .i64 0) rfl; obtain ⟨W12, hW12, sz12, g12, B12⟩ := boxn W11 #[.int .u8 0, .int .u16 0, .int .u16 0, .int .i64 0] 27; have G12 := gb_trans G11 g12; have hv12 := hvK hv G12; have B1xxxxyyxxx := B1xxxxyyxx.kept g12 (by simp); have B5yyxxx := B5yyxx.kept g12 (by simp); have B7yxxx := B7yxx.kept g12 (by simp); have B9xxx := B9xx.kept g12 (by simp); have B11x := B11.kept g12 (by simp); have sm12_0 := Bo.same B12 0 (v := .int .u8 0) rfl; have sm12_1 := Bo.same B12 1 (v := .int .u16 0) rfl; have sm12_2 := Bo.same B12 2 (v := .int .u16 0) rfl; have sm12_3 := Bo.same B12 3 (v := .int .i64 0) rfl; have fz12_0 := B12.frozen 0; have fz12_1 := B12.frozen 1; have fz12_2 := B12.frozen 2; have fz12_3 := B12.frozen 3; have b1_12_0 := B1xxxxyyxxx.cell 0 (v := .int .u8 ho) rfl; have b1_12_1 := B1xxxxyyxxx.cell 1 (v := .int .u16 bo) rfl; have b1_12_2 := B1xxxxyyxxx.cell 2 (v := .int .u16 st) rfl; have b1_12_3 := B1xxxxyyxxx.cell 3 (v := .int .i64 (n : Nat)) rfl; have b5_12_0 := B5yyxxx.cell 0 (v := .int .u8 ho) rfl; have b5_12_1 := B5yyxxx.cell 1 (v := .int .u16 bo) rfl; have b5_12_2 := B5yyxxx.cell 2 (v := .int .u16 st) rfl; have b5_12_3 := B5yyxxx.cell 3 (v := .int .i64 (n : Nat)) rfl; have b7_12_0 := B7yxxx.cell 0 (v := .int .u8 ho) rfl; have b7_12_1 := B7yxxx.cell 1 (v := .int .u16 bo) rfl; have b7_12_2 := B7yxxx.cell 2 (v := .int .u16 st) rfl; have b7_12_3 := B7yxxx.cell 3 (v := .int .i64 (n : Nat)) rfl; have b9_12_0 := B9xxx.cell 0 (v := .int .u8 ho) rfl; have b9_12_1 := B9xxx.cell 1 (v := .int .u16 bo) rfl; have b9_12_2 := B9xxx.cell 2 (v := .int .u16 st) rfl; have b9_12_3 := B9xxx.cell 3 (v := .int .i64 (n : Nat)) rfl; have b11_12_0 := B11x.cell 0 (v := .int .u8 0) rfl; have b11_12_1 := B11x.cell 1 (v := .int .u16 0) rfl; have b11_12_2 := B11x.cell 2 (v := .int .u16 0) rfl; have b11_12_3 := B11x.cell 3 (v := .int .i64 0) rfl; have b12_12_0 := B12.cell 0 (v := .int .u8 0) rfl; have b12_12_1 := B12.cell 1 (v := .int .u16 0) rfl; have b12_12_2 := B12.cell 2 (v := .int .u16 0) rfl; have b12_12_3 := B12.cell 3 (v := .int .i64 0) rfl))
      all_goals go_ret
      all_goals exact ⟨rfl, G12⟩
    · have hno := HNO.out k (by omega) hk2
      have b1 : ¬ ((Sc.bt S k : Nat) : Int) = 67 := by omega
      have b1' : (((Sc.bt S k : Nat) : Int) == 67) = false := by simp; omega
      have hkw : IntKind.i64.wrap ((k : Int) - 1) = ((k - 1 : Nat) : Int) := by rw [IntKind.wrap_i64]; omega
      clear hno
      go_wp2
      first
        | exact ⟨⟨k - 1, by omega, by omega, by first | rfl | simp, by first | rfl | trivial⟩, by simp [intOf]; omega⟩
        | (go_roundw; (case rel => exact ⟨k - 1, by omega, by omega, by first | rfl | go_num | simp, by first | rfl | trivial⟩); (case measure => (simp [intOf]; omega)))
set_option maxHeartbeats 8000000 in
theorem backFk (ho bo st n : Nat) (t : ByteArray) (w : World) (en : Hid (En w)) (S Z1 Z2 X1 X2 Y1 : ByteArray) (p : Nat) (hcut : Cut S Z1 Z2 X1 X2 Y1 p) (hP : ∀ w, Hid (En w) → Calls Tryz.prog 11 #[.agg #[.int .u8 ho, .int .u16 bo, .int .u16 st, .int .i64 (n : Nat)]] w fun e w' => e = .returned (.tuple #[.string S, .int .i64 0]) ∧ w.grownBy w' none) (hA : ∀ w, Hid (En w) → Calls Tryz.prog 10 #[.string S] w fun e w' => e = .returned (.tuple #[.agg #[.int .u8 ho, .int .u16 bo, .int .u16 st, .int .i64 (n : Nat)], .int .i64 0, .int .i64 0]) ∧ w.grownBy w' none) (hB : ∀ w, Hid (En w) → Calls Tryz.prog 10 #[.string Z1] w fun e w' => e = .returned (.tuple #[.agg #[.int .u8 ho, .int .u16 bo, .int .u16 st, .int .i64 (n : Nat)], .int .i64 0, .int .i64 0]) ∧ w.grownBy w' none) (hC : ∀ w, Hid (En w) → Calls Tryz.prog 10 #[.string Z2] w fun e w' => e = .returned (.tuple #[.agg #[.int .u8 ho, .int .u16 bo, .int .u16 st, .int .i64 (n : Nat)], .int .i64 0, .int .i64 0]) ∧ w.grownBy w' none) (xh xb xs xn : Nat) (y : ByteArray) (hy : y.toList.isEmpty = false) (hT : ∀ w, Hid (En w) → Calls Tryz.prog 10 #[.string t] w fun e w' => e = .returned (.tuple #[.agg #[.int .u8 (xh : Nat), .int .u16 (xb : Nat), .int .u16 (xs : Nat), .int .i64 (xn : Nat)], .int .i64 0, .int .i64 0]) ∧ w.grownBy w' none) (hX : ∀ w, Hid (En w) → Calls Tryz.prog 11 #[.agg #[.int .u8 (xh : Nat), .int .u16 (xb : Nat), .int .u16 (xs : Nat), .int .i64 (xn : Nat)]] w fun e w' => e = .returned (.tuple #[.string y, .int .i64 0]) ∧ w.grownBy w' none) (hY : ∀ w, Hid (En w) → Calls Tryz.prog 10 #[.string y] w fun e w' => e = .returned (.tuple #[.agg #[.int .u8 (xh : Nat), .int .u16 (xb : Nat), .int .u16 (xs : Nat), .int .i64 (xn : Nat)], .int .i64 0, .int .i64 0]) ∧ w.grownBy w' none) : Calls Tryz.prog 6 #[.agg #[.int .u8 ho, .int .u16 bo, .int .u16 st, .int .i64 (n : Nat)], .string t] w fun e w' => e = .returned (.bool true) ∧ w.grownBy w' none := by
  have hv := enH en
  have p0 := hcut.p0
  have pl := hcut.pl
  have ssz := hcut.sz
  have hsz1 : IntKind.i64.wrap ((S.size : Int) - 1) = ((S.size - 1 : Nat) : Int) := by rw [IntKind.wrap_i64]; omega
  have e1 := hcut.e1
  have e2 := hcut.e2
  have y1 := hcut.y1
  have z1 := hcut.z1
  have z2 := hcut.z2
  have s1 := hcut.s1
  have s2 := hcut.s2
  have s3 := hcut.s3
  have a1 : ∀ w : World, (Op.stringOp .add X1 ⟨#[103]⟩).run Tryz.prog w = .ok (.string Y1) w := fun w => by rw [← y1]; exact run_string_add_sum w _ _ (by show _ + 1 ≤ _; omega)
  have a2 : ∀ w : World, (Op.stringOp .add Y1 X2).run Tryz.prog w = .ok (.string Z1) w := fun w => by rw [← z1]; exact run_string_add_sum w _ _ (by omega)
  have a3 : ∀ w : World, (Op.stringOp .add X1 X2).run Tryz.prog w = .ok (.string Z2) w := fun w => by rw [← z2]; exact run_string_add_sum w _ _ (by omega)
  have hat := hcut.at1
  have HNO : Hid (∀ j, p < j → j < S.size → ¬ Sc.bt S j = 67) := hcut.no
  clear hcut y1 z1 z2 s1 s2 s3
  obtain ⟨W1, hW1, sz1, g1, B1⟩ := boxn w #[.int .u8 ho, .int .u16 bo, .int .u16 st, .int .i64 (n : Nat)] 27
  have hv1 := hvK hv g1
  have b1_1_0 := B1.cell 0 (v := .int .u8 ho) rfl
  have b1_1_1 := B1.cell 1 (v := .int .u16 bo) rfl
  have b1_1_2 := B1.cell 2 (v := .int .u16 st) rfl
  have b1_1_3 := B1.cell 3 (v := .int .i64 (n : Nat)) rfl
  go_enter Tryz.func6, Tryz.ntmps6
  go_wp2_with (first | (go_at_call 8; (fail_if_success (guard_hyp g2)); refine (awakeC _ (enK en g1)).mono ?_; rintro e w2 ⟨rfl, g2⟩; have G2 := gb_trans g1 g2; have hv2 := hvK hv G2; have B1x := B1.kept g2 (by simp); clear b1_1_0 b1_1_1 b1_1_2 b1_1_3; have b1_2_0 := B1x.cell 0 (v := .int .u8 ho) rfl; have b1_2_1 := B1x.cell 1 (v := .int .u16 bo) rfl; have b1_2_2 := B1x.cell 2 (v := .int .u16 st) rfl; have b1_2_3 := B1x.cell 3 (v := .int .i64 (n : Nat)) rfl) | (go_at_call 11; (fail_if_success (guard_hyp g3)); refine (hP _ (enK en G2)).mono ?_; rintro e w3 ⟨rfl, g3⟩; have G3 := gb_trans G2 g3; have hv3 := hvK hv G3; have B1xx := B1x.kept g3 (by simp); clear b1_2_0 b1_2_1 b1_2_2 b1_2_3; have b1_3_0 := B1xx.cell 0 (v := .int .u8 ho) rfl; have b1_3_1 := B1xx.cell 1 (v := .int .u16 bo) rfl; have b1_3_2 := B1xx.cell 2 (v := .int .u16 st) rfl; have b1_3_3 := B1xx.cell 3 (v := .int .i64 (n : Nat)) rfl))
  go_loopw [8] (fun v wr => ∃ k : Nat, p ≤ k ∧ k < S.size ∧ v = .int .i64 k ∧ wr = w3) (fun v _ => (intOf v).toNat)
  case atStart => exact ⟨S.size - 1, by omega, by omega, by first | rfl | simp, rfl⟩
  case round =>
    obtain ⟨k, hk1, hk2, rfl, rfl⟩ := hrel
    have hk2' : (k : Int) < (S.size : Int) := by omega
    have hk0 : (0 : Int) < (k : Int) := by omega
    have hbt := Sc.bt_at hk2
    by_cases hkp : k = p
    · subst hkp
      have b1 : ((Sc.bt S k : Nat) : Int) = 67 := by omega
      have b1' : (((Sc.bt S k : Nat) : Int) == 67) = true := by simp; omega
      have hp1 : ¬ (k : Int) < 1 := by omega
      have hpw : IntKind.i64.wrap ((k : Int) + 1) = (k : Int) + 1 := by rw [IntKind.wrap_i64]; omega
      have hple : (k : Int) ≤ (S.size : Int) := by omega
      have hple2 : (k : Int) + 1 ≤ (S.size : Int) := by omega
      have hpn0 : (0 : Int) ≤ (k : Int) + 1 := by omega
      have hpn1 : ¬ (k : Int) + 1 < 0 := by omega
      have hpn2 : ((k : Int) + 1).toNat = k + 1 := by omega
      have hpn3 : (0 : Int) ≤ (k : Int) := by omega
      clear hat HNO
      go_wp2_with (first | (go_at_call 10; (fail_if_success (guard_hyp g4)); refine (hA _ (enK en G3)).mono ?_; rintro e w4 ⟨rfl, g4⟩; have G4 := gb_trans G3 g4; have hv4 := hvK hv G4; have B1xxx := B1xx.kept g4 (by simp); obtain ⟨W5, hW5, sz5, g5, B5⟩ := boxn w4 #[.int .u8 ho, .int .u16 bo, .int .u16 st, .int .i64 (n : Nat)] 27; have G5 := gb_trans G4 g5; have hv5 := hvK hv G5; have B1xxxx := B1xxx.kept g5 (by simp); clear b1_3_0 b1_3_1 b1_3_2 b1_3_3; have b1_5_0 := B1xxxx.cell 0 (v := .int .u8 ho) rfl; have b1_5_1 := B1xxxx.cell 1 (v := .int .u16 bo) rfl; have b1_5_2 := B1xxxx.cell 2 (v := .int .u16 st) rfl; have b1_5_3 := B1xxxx.cell 3 (v := .int .i64 (n : Nat)) rfl; have b5_5_0 := B5.cell 0 (v := .int .u8 ho) rfl; have b5_5_1 := B5.cell 1 (v := .int .u16 bo) rfl; have b5_5_2 := B5.cell 2 (v := .int .u16 st) rfl; have b5_5_3 := B5.cell 3 (v := .int .i64 (n : Nat)) rfl))
      obtain ⟨Wz6, hWz6, szz6, gz6, Bz6⟩ := boxn W5 #[.int .u8 0, .int .u16 0, .int .u16 0, .int .i64 0] 27
      have p06 := B1xxxx.cell 0 (v := .int .u8 ho) rfl
      have p16 := (B1xxxx.kept gz6 (by simp)).cell 0 (v := .int .u8 ho) rfl
      go_region_held2 (fun w' => w'.cell? ⟨w.heap.size, 0, none⟩ = some (.int .u8 ho)) (go_keep) (first | (go_at_call 10; refine (hB _ (enK en (gb_drew (gb_trans G5 gz6)))).mono ?_; rintro e w6 ⟨rfl, g6⟩; have G6 := gb_trans (gb_drew (gb_trans G5 gz6)) g6; have Bq6 := Bz6.dr.kept g6 (by simp); have B1xxxxk := (B1xxxx.kept gz6 (by simp)).dr.kept g6 (by simp); have B5k := (B5.kept gz6 (by simp)).dr.kept g6 (by simp); have qz6_0 := Bq6.cell 0 (v := .int .u8 0) rfl; have qz6_1 := Bq6.cell 1 (v := .int .u16 0) rfl; have qz6_2 := Bq6.cell 2 (v := .int .u16 0) rfl; have qz6_3 := Bq6.cell 3 (v := .int .i64 0) rfl; have qf6_0 := Bq6.frozen 0; have qf6_1 := Bq6.frozen 1; have qf6_2 := Bq6.frozen 2; have qf6_3 := Bq6.frozen 3; obtain ⟨W7, hW7⟩ : ∃ W, ((((w6.setCell ⟨W5.heap.size, 0, none⟩ (.int .u8 ho)).setCell ⟨W5.heap.size, 1, none⟩ (.int .u16 bo)).setCell ⟨W5.heap.size, 2, none⟩ (.int .u16 st)).setCell ⟨W5.heap.size, 3, none⟩ (.int .i64 (n : Nat))) = W := ⟨_, rfl⟩; have B7 : Bo W7 W5.heap.size 27 #[.int .u8 ho, .int .u16 bo, .int .u16 st, .int .i64 (n : Nat)] := hW7 ▸ bo4a Bq6; have B1xxxxy : Bo W7 _ _ _ := hW7 ▸ bo4b B1xxxxk (Nat.ne_of_gt B1xxxx.lt); have B5y : Bo W7 _ _ _ := hW7 ▸ bo4b B5k (Nat.ne_of_gt B5.lt); have G7 : w.grownBy W7 none := hW7 ▸ gb4 G6 G5.size; have p36 := B1xxxxk.cell 0 (v := .int .u8 ho) rfl; have p46 := B1xxxxy.cell 0 (v := .int .u8 ho) rfl) | (go_at_call 10; refine (hB _ (enK en (gb_drew G5))).mono ?_; rintro e w6 ⟨rfl, g6⟩; have G6 := gb_trans (gb_drew G5) g6; have B1xxxxk := B1xxxx.dr.kept g6 (by simp); have B5k := B5.dr.kept g6 (by simp); obtain ⟨W7, hW7, sz7, g7, B7⟩ := boxn w6 #[.int .u8 ho, .int .u16 bo, .int .u16 st, .int .i64 (n : Nat)] 27; have B1xxxxy := B1xxxxk.kept g7 (by simp); have B5y := B5k.kept g7 (by simp); have G7 := gb_trans G6 g7; have p36 := B1xxxxk.cell 0 (v := .int .u8 ho) rfl; have p46 := B1xxxxy.cell 0 (v := .int .u8 ho) rfl))
      all_goals clear p06 p16 p36 p46
      all_goals obtain ⟨Wz8, hWz8, szz8, gz8, Bz8⟩ := boxn W7 #[.int .u8 0, .int .u16 0, .int .u16 0, .int .i64 0] 27
      all_goals have p08 := B1xxxxy.cell 0 (v := .int .u8 ho) rfl
      all_goals have p18 := (B1xxxxy.kept gz8 (by simp)).cell 0 (v := .int .u8 ho) rfl
      all_goals go_wp2
      all_goals go_region_held2 (fun w' => w'.cell? ⟨w.heap.size, 0, none⟩ = some (.int .u8 ho)) (go_keep) (first | (go_at_call 10; refine (hC _ (enK en (gb_drew (gb_trans G7 gz8)))).mono ?_; rintro e w8 ⟨rfl, g8⟩; have G8 := gb_trans (gb_drew (gb_trans G7 gz8)) g8; have Bq8 := Bz8.dr.kept g8 (by simp); have B1xxxxyk := (B1xxxxy.kept gz8 (by simp)).dr.kept g8 (by simp); have B5yk := (B5y.kept gz8 (by simp)).dr.kept g8 (by simp); have B7k := (B7.kept gz8 (by simp)).dr.kept g8 (by simp); have qz8_0 := Bq8.cell 0 (v := .int .u8 0) rfl; have qz8_1 := Bq8.cell 1 (v := .int .u16 0) rfl; have qz8_2 := Bq8.cell 2 (v := .int .u16 0) rfl; have qz8_3 := Bq8.cell 3 (v := .int .i64 0) rfl; have qf8_0 := Bq8.frozen 0; have qf8_1 := Bq8.frozen 1; have qf8_2 := Bq8.frozen 2; have qf8_3 := Bq8.frozen 3; obtain ⟨W9, hW9⟩ : ∃ W, ((((w8.setCell ⟨W7.heap.size, 0, none⟩ (.int .u8 ho)).setCell ⟨W7.heap.size, 1, none⟩ (.int .u16 bo)).setCell ⟨W7.heap.size, 2, none⟩ (.int .u16 st)).setCell ⟨W7.heap.size, 3, none⟩ (.int .i64 (n : Nat))) = W := ⟨_, rfl⟩; have B9 : Bo W9 W7.heap.size 27 #[.int .u8 ho, .int .u16 bo, .int .u16 st, .int .i64 (n : Nat)] := hW9 ▸ bo4a Bq8; have B1xxxxyy : Bo W9 _ _ _ := hW9 ▸ bo4b B1xxxxyk (Nat.ne_of_gt B1xxxxy.lt); have B5yy : Bo W9 _ _ _ := hW9 ▸ bo4b B5yk (Nat.ne_of_gt B5y.lt); have B7y : Bo W9 _ _ _ := hW9 ▸ bo4b B7k (Nat.ne_of_gt B7.lt); have G9 : w.grownBy W9 none := hW9 ▸ gb4 G8 G7.size; have p38 := B1xxxxyk.cell 0 (v := .int .u8 ho) rfl; have p48 := B1xxxxyy.cell 0 (v := .int .u8 ho) rfl) | (go_at_call 10; refine (hC _ (enK en (gb_drew G7))).mono ?_; rintro e w8 ⟨rfl, g8⟩; have G8 := gb_trans (gb_drew G7) g8; have B1xxxxyk := B1xxxxy.dr.kept g8 (by simp); have B5yk := B5y.dr.kept g8 (by simp); have B7k := B7.dr.kept g8 (by simp); obtain ⟨W9, hW9, sz9, g9, B9⟩ := boxn w8 #[.int .u8 ho, .int .u16 bo, .int .u16 st, .int .i64 (n : Nat)] 27; have B1xxxxyy := B1xxxxyk.kept g9 (by simp); have B5yy := B5yk.kept g9 (by simp); have B7y := B7k.kept g9 (by simp); have G9 := gb_trans G8 g9; have p38 := B1xxxxyk.cell 0 (v := .int .u8 ho) rfl; have p48 := B1xxxxyy.cell 0 (v := .int .u8 ho) rfl))
      all_goals clear p08 p18 p38 p48
      all_goals have b1_9_0 := B1xxxxyy.cell 0 (v := .int .u8 ho) rfl
      all_goals have b1_9_1 := B1xxxxyy.cell 1 (v := .int .u16 bo) rfl
      all_goals have b1_9_2 := B1xxxxyy.cell 2 (v := .int .u16 st) rfl
      all_goals have b1_9_3 := B1xxxxyy.cell 3 (v := .int .i64 (n : Nat)) rfl
      all_goals have b5_9_0 := B5yy.cell 0 (v := .int .u8 ho) rfl
      all_goals have b5_9_1 := B5yy.cell 1 (v := .int .u16 bo) rfl
      all_goals have b5_9_2 := B5yy.cell 2 (v := .int .u16 st) rfl
      all_goals have b5_9_3 := B5yy.cell 3 (v := .int .i64 (n : Nat)) rfl
      all_goals have b7_9_0 := B7y.cell 0 (v := .int .u8 ho) rfl
      all_goals have b7_9_1 := B7y.cell 1 (v := .int .u16 bo) rfl
      all_goals have b7_9_2 := B7y.cell 2 (v := .int .u16 st) rfl
      all_goals have b7_9_3 := B7y.cell 3 (v := .int .i64 (n : Nat)) rfl
      all_goals have b9_9_0 := B9.cell 0 (v := .int .u8 ho) rfl
      all_goals have b9_9_1 := B9.cell 1 (v := .int .u16 bo) rfl
      all_goals have b9_9_2 := B9.cell 2 (v := .int .u16 st) rfl
      all_goals have b9_9_3 := B9.cell 3 (v := .int .i64 (n : Nat)) rfl
      all_goals go_wp2_with (first | (go_at_call 10; (fail_if_success (guard_hyp g10)); refine (hT _ (enK en G9)).mono ?_; rintro e w10 ⟨rfl, g10⟩; have G10 := gb_trans G9 g10; have hv10 := hvK hv G10; have B1xxxxyyx := B1xxxxyy.kept g10 (by simp); have B5yyx := B5yy.kept g10 (by simp); have B7yx := B7y.kept g10 (by simp); have B9x := B9.kept g10 (by simp); obtain ⟨W11, hW11, sz11, g11, B11⟩ := boxn w10 #[.int .u8 (xh : Nat), .int .u16 (xb : Nat), .int .u16 (xs : Nat), .int .i64 (xn : Nat)] 27; have G11 := gb_trans G10 g11; have hv11 := hvK hv G11; have B1xxxxyyxx := B1xxxxyyx.kept g11 (by simp); have B5yyxx := B5yyx.kept g11 (by simp); have B7yxx := B7yx.kept g11 (by simp); have B9xx := B9x.kept g11 (by simp); clear b1_9_0 b1_9_1 b1_9_2 b1_9_3 b5_9_0 b5_9_1 b5_9_2 b5_9_3 b7_9_0 b7_9_1 b7_9_2 b7_9_3 b9_9_0 b9_9_1 b9_9_2 b9_9_3; have b1_11_0 := B1xxxxyyxx.cell 0 (v := .int .u8 ho) rfl; have b1_11_1 := B1xxxxyyxx.cell 1 (v := .int .u16 bo) rfl; have b1_11_2 := B1xxxxyyxx.cell 2 (v := .int .u16 st) rfl; have b1_11_3 := B1xxxxyyxx.cell 3 (v := .int .i64 (n : Nat)) rfl; have b5_11_0 := B5yyxx.cell 0 (v := .int .u8 ho) rfl; have b5_11_1 := B5yyxx.cell 1 (v := .int .u16 bo) rfl; have b5_11_2 := B5yyxx.cell 2 (v := .int .u16 st) rfl; have b5_11_3 := B5yyxx.cell 3 (v := .int .i64 (n : Nat)) rfl; have b7_11_0 := B7yxx.cell 0 (v := .int .u8 ho) rfl; have b7_11_1 := B7yxx.cell 1 (v := .int .u16 bo) rfl; have b7_11_2 := B7yxx.cell 2 (v := .int .u16 st) rfl; have b7_11_3 := B7yxx.cell 3 (v := .int .i64 (n : Nat)) rfl; have b9_11_0 := B9xx.cell 0 (v := .int .u8 ho) rfl; have b9_11_1 := B9xx.cell 1 (v := .int .u16 bo) rfl; have b9_11_2 := B9xx.cell 2 (v := .int .u16 st) rfl; have b9_11_3 := B9xx.cell 3 (v := .int .i64 (n : Nat)) rfl; have b11_11_0 := B11.cell 0 (v := .int .u8 (xh : Nat)) rfl; have b11_11_1 := B11.cell 1 (v := .int .u16 (xb : Nat)) rfl; have b11_11_2 := B11.cell 2 (v := .int .u16 (xs : Nat)) rfl; have b11_11_3 := B11.cell 3 (v := .int .i64 (xn : Nat)) rfl) | (go_at_call 11; (fail_if_success (guard_hyp g12)); refine (hX _ (enK en G11)).mono ?_; rintro e w12 ⟨rfl, g12⟩; have G12 := gb_trans G11 g12; have hv12 := hvK hv G12; have B1xxxxyyxxx := B1xxxxyyxx.kept g12 (by simp); have B5yyxxx := B5yyxx.kept g12 (by simp); have B7yxxx := B7yxx.kept g12 (by simp); have B9xxx := B9xx.kept g12 (by simp); have B11x := B11.kept g12 (by simp); clear b1_11_0 b1_11_1 b1_11_2 b1_11_3 b5_11_0 b5_11_1 b5_11_2 b5_11_3 b7_11_0 b7_11_1 b7_11_2 b7_11_3 b9_11_0 b9_11_1 b9_11_2 b9_11_3 b11_11_0 b11_11_1 b11_11_2 b11_11_3; have b1_12_0 := B1xxxxyyxxx.cell 0 (v := .int .u8 ho) rfl; have b1_12_1 := B1xxxxyyxxx.cell 1 (v := .int .u16 bo) rfl; have b1_12_2 := B1xxxxyyxxx.cell 2 (v := .int .u16 st) rfl; have b1_12_3 := B1xxxxyyxxx.cell 3 (v := .int .i64 (n : Nat)) rfl; have b5_12_0 := B5yyxxx.cell 0 (v := .int .u8 ho) rfl; have b5_12_1 := B5yyxxx.cell 1 (v := .int .u16 bo) rfl; have b5_12_2 := B5yyxxx.cell 2 (v := .int .u16 st) rfl; have b5_12_3 := B5yyxxx.cell 3 (v := .int .i64 (n : Nat)) rfl; have b7_12_0 := B7yxxx.cell 0 (v := .int .u8 ho) rfl; have b7_12_1 := B7yxxx.cell 1 (v := .int .u16 bo) rfl; have b7_12_2 := B7yxxx.cell 2 (v := .int .u16 st) rfl; have b7_12_3 := B7yxxx.cell 3 (v := .int .i64 (n : Nat)) rfl; have b9_12_0 := B9xxx.cell 0 (v := .int .u8 ho) rfl; have b9_12_1 := B9xxx.cell 1 (v := .int .u16 bo) rfl; have b9_12_2 := B9xxx.cell 2 (v := .int .u16 st) rfl; have b9_12_3 := B9xxx.cell 3 (v := .int .i64 (n : Nat)) rfl; have b11_12_0 := B11x.cell 0 (v := .int .u8 (xh : Nat)) rfl; have b11_12_1 := B11x.cell 1 (v := .int .u16 (xb : Nat)) rfl; have b11_12_2 := B11x.cell 2 (v := .int .u16 (xs : Nat)) rfl; have b11_12_3 := B11x.cell 3 (v := .int .i64 (xn : Nat)) rfl) | (go_at_call 10; (fail_if_success (guard_hyp g13)); refine (hY _ (enK en G12)).mono ?_; rintro e w13 ⟨rfl, g13⟩; have G13 := gb_trans G12 g13; have hv13 := hvK hv G13; have B1xxxxyyxxxx := B1xxxxyyxxx.kept g13 (by simp); have B5yyxxxx := B5yyxxx.kept g13 (by simp); have B7yxxxx := B7yxxx.kept g13 (by simp); have B9xxxx := B9xxx.kept g13 (by simp); have B11xx := B11x.kept g13 (by simp); obtain ⟨W14, hW14, sz14, g14, B14⟩ := boxn w13 #[.int .u8 (xh : Nat), .int .u16 (xb : Nat), .int .u16 (xs : Nat), .int .i64 (xn : Nat)] 27; have G14 := gb_trans G13 g14; have hv14 := hvK hv G14; have B1xxxxyyxxxxx := B1xxxxyyxxxx.kept g14 (by simp); have B5yyxxxxx := B5yyxxxx.kept g14 (by simp); have B7yxxxxx := B7yxxxx.kept g14 (by simp); have B9xxxxx := B9xxxx.kept g14 (by simp); have B11xxx := B11xx.kept g14 (by simp); clear b1_12_0 b1_12_1 b1_12_2 b1_12_3 b5_12_0 b5_12_1 b5_12_2 b5_12_3 b7_12_0 b7_12_1 b7_12_2 b7_12_3 b9_12_0 b9_12_1 b9_12_2 b9_12_3 b11_12_0 b11_12_1 b11_12_2 b11_12_3; have b1_14_0 := B1xxxxyyxxxxx.cell 0 (v := .int .u8 ho) rfl; have b1_14_1 := B1xxxxyyxxxxx.cell 1 (v := .int .u16 bo) rfl; have b1_14_2 := B1xxxxyyxxxxx.cell 2 (v := .int .u16 st) rfl; have b1_14_3 := B1xxxxyyxxxxx.cell 3 (v := .int .i64 (n : Nat)) rfl; have b5_14_0 := B5yyxxxxx.cell 0 (v := .int .u8 ho) rfl; have b5_14_1 := B5yyxxxxx.cell 1 (v := .int .u16 bo) rfl; have b5_14_2 := B5yyxxxxx.cell 2 (v := .int .u16 st) rfl; have b5_14_3 := B5yyxxxxx.cell 3 (v := .int .i64 (n : Nat)) rfl; have b7_14_0 := B7yxxxxx.cell 0 (v := .int .u8 ho) rfl; have b7_14_1 := B7yxxxxx.cell 1 (v := .int .u16 bo) rfl; have b7_14_2 := B7yxxxxx.cell 2 (v := .int .u16 st) rfl; have b7_14_3 := B7yxxxxx.cell 3 (v := .int .i64 (n : Nat)) rfl; have b9_14_0 := B9xxxxx.cell 0 (v := .int .u8 ho) rfl; have b9_14_1 := B9xxxxx.cell 1 (v := .int .u16 bo) rfl; have b9_14_2 := B9xxxxx.cell 2 (v := .int .u16 st) rfl; have b9_14_3 := B9xxxxx.cell 3 (v := .int .i64 (n : Nat)) rfl; have b11_14_0 := B11xxx.cell 0 (v := .int .u8 (xh : Nat)) rfl; have b11_14_1 := B11xxx.cell 1 (v := .int .u16 (xb : Nat)) rfl; have b11_14_2 := B11xxx.cell 2 (v := .int .u16 (xs : Nat)) rfl; have b11_14_3 := B11xxx.cell 3 (v := .int .i64 (xn : Nat)) rfl; have b14_14_0 := B14.cell 0 (v := .int .u8 (xh : Nat)) rfl; have b14_14_1 := B14.cell 1 (v := .int .u16 (xb : Nat)) rfl; have b14_14_2 := B14.cell 2 (v := .int .u16 (xs : Nat)) rfl; have b14_14_3 := B14.cell 3 (v := .int .i64 (xn : Nat)) rfl))
      all_goals go_ret
      all_goals exact ⟨rfl, G14⟩
    · have hno := HNO.out k (by omega) hk2
      have b1 : ¬ ((Sc.bt S k : Nat) : Int) = 67 := by omega
      have b1' : (((Sc.bt S k : Nat) : Int) == 67) = false := by simp; omega
      have hkw : IntKind.i64.wrap ((k : Int) - 1) = ((k - 1 : Nat) : Int) := by rw [IntKind.wrap_i64]; omega
      clear hno
      go_wp2
      first
        | exact ⟨⟨k - 1, by omega, by omega, by first | rfl | simp, by first | rfl | trivial⟩, by simp [intOf]; omega⟩
        | (go_roundw; (case rel => exact ⟨k - 1, by omega, by omega, by first | rfl | go_num | simp, by first | rfl | trivial⟩); (case measure => (simp [intOf]; omega)))

theorem back_nat (ho bo st : Nat) (n : Int) (hh : ho < 256) (hb : bo < 65536) (hs : st < 65536) (t : ByteArray) (w : World) (en : Hid (En w)) : Calls Tryz.prog 6 #[.agg #[.int .u8 ho, .int .u16 bo, .int .u16 st, .int .i64 n], .string t] w fun e w' => e = .returned (.bool true) ∧ w.grownBy w' none := by
  have hP := fun w en => gprintC ho bo st n hh hb hs w en
  have hk := fun w hv => gcheckC ho bo st n hh hb hs w hv
  have hT := fun w en => gparseC t w en
  have hle := Gn.parse_le t
  by_cases hte : (Gn.parseR t).er = 0
  · have hm := Gn.parse_may hte
    cases hr : Gn.parseR t with
    | mk xh xb xs xn xa xe =>
      rw [hr] at hT hm hte
      obtain rfl : xe = 0 := hte
      obtain ⟨hck, rfl, h1, h2, h3⟩ : Gn.ck xh xb xs xn = 0 ∧ xa = 0 ∧ xh < 256 ∧ xb < 65536 ∧ xs < 65536 := hm
      have hX := fun w en => gprintC xh xb xs xn h1 h2 h3 w en
      rw [hck, Gn.pr_wr hck] at hX
      have hY := fun w en => gparseC ⟨(Gn.wr (Gn.tx xh xb xs) [67] xn).toArray⟩ w en
      rw [show Gn.parseR ⟨(Gn.wr (Gn.tx xh xb xs) [67] xn).toArray⟩ = ⟨xh, xb, xs, xn, 0, 0⟩ from Gn.back_any hck [67] (Or.inr ⟨67, rfl, rfl⟩)] at hY
      have hne : (ByteArray.mk (Gn.wr (Gn.tx xh xb xs) [67] xn).toArray).toList.isEmpty = false := Nu.empty_no (by
        show ¬ (Gn.wr (Gn.tx xh xb xs) [67] xn).toArray.size = 0
        unfold Gn.wr; simp)
      by_cases hc : Gn.ck ho bo st n = 0
      · have hi := Gn.ck_in hc
        obtain ⟨n, rfl⟩ := Int.eq_ofNat_of_zero_le (a := n) (by omega)
        rw [hc, Gn.pr_wr hc] at hP
        obtain ⟨X1, X2, Y1, hcut⟩ := cut_of hc
        have hA := fun w en => gparseC ⟨(Gn.wr (Gn.tx ho bo st) [67] n).toArray⟩ w en
        rw [show Gn.parseR ⟨(Gn.wr (Gn.tx ho bo st) [67] n).toArray⟩ = ⟨ho, bo, st, n, 0, 0⟩ from Gn.back_any hc [67] (Or.inr ⟨67, rfl, rfl⟩)] at hA
        have hB := fun w en => gparseC ⟨(Gn.wr (Gn.tx ho bo st) [103] n).toArray⟩ w en
        rw [show Gn.parseR ⟨(Gn.wr (Gn.tx ho bo st) [103] n).toArray⟩ = ⟨ho, bo, st, n, 0, 0⟩ from Gn.back_any hc [103] (Or.inr ⟨103, rfl, rfl⟩)] at hB
        have hC := fun w en => gparseC ⟨(Gn.wr (Gn.tx ho bo st) [] n).toArray⟩ w en
        rw [show Gn.parseR ⟨(Gn.wr (Gn.tx ho bo st) [] n).toArray⟩ = ⟨ho, bo, st, n, 0, 0⟩ from Gn.back_any hc [] (Or.inl rfl)] at hC
        exact backFk ho bo st n t w en _ _ _ X1 X2 Y1 _ hcut hP hA hB hC xh xb xs xn _ hne hT hX hY
      · have hpr : Gn.pr ho bo st n = ⟨#[]⟩ := by unfold Gn.pr; rw [if_neg hc]
        rw [hpr] at hP
        exact backBk ho bo st n t w en _ (by omega) hP hk xh xb xs xn _ hne hT hX hY
  · have hz := hle.2 hte
    have hta := hle.1
    rw [hz.1, hz.2.1, hz.2.2.1, hz.2.2.2] at hT
    by_cases hc : Gn.ck ho bo st n = 0
    · have hi := Gn.ck_in hc
      obtain ⟨n, rfl⟩ := Int.eq_ofNat_of_zero_le (a := n) (by omega)
      rw [hc, Gn.pr_wr hc] at hP
      obtain ⟨X1, X2, Y1, hcut⟩ := cut_of hc
      have hA := fun w en => gparseC ⟨(Gn.wr (Gn.tx ho bo st) [67] n).toArray⟩ w en
      rw [show Gn.parseR ⟨(Gn.wr (Gn.tx ho bo st) [67] n).toArray⟩ = ⟨ho, bo, st, n, 0, 0⟩ from Gn.back_any hc [67] (Or.inr ⟨67, rfl, rfl⟩)] at hA
      have hB := fun w en => gparseC ⟨(Gn.wr (Gn.tx ho bo st) [103] n).toArray⟩ w en
      rw [show Gn.parseR ⟨(Gn.wr (Gn.tx ho bo st) [103] n).toArray⟩ = ⟨ho, bo, st, n, 0, 0⟩ from Gn.back_any hc [103] (Or.inr ⟨103, rfl, rfl⟩)] at hB
      have hC := fun w en => gparseC ⟨(Gn.wr (Gn.tx ho bo st) [] n).toArray⟩ w en
      rw [show Gn.parseR ⟨(Gn.wr (Gn.tx ho bo st) [] n).toArray⟩ = ⟨ho, bo, st, n, 0, 0⟩ from Gn.back_any hc [] (Or.inl rfl)] at hC
      exact backFe ho bo st n t w en _ _ _ X1 X2 Y1 _ hcut hP hA hB hC _ _ (by omega) (by omega) hT
    · have hpr : Gn.pr ho bo st n = ⟨#[]⟩ := by unfold Gn.pr; rw [if_neg hc]
      rw [hpr] at hP
      exact backBe ho bo st n t w en _ (by omega) hP hk _ _ (by omega) (by omega) hT
theorem back_walk (ho bo st n : Int) (t : ByteArray) (w : World) (h1 : 0 ≤ ho ∧ ho ≤ 255) (h2 : 0 ≤ bo ∧ bo ≤ 65535) (h3 : 0 ≤ st ∧ st ≤ 65535) (hn : -9223372036854775808 ≤ n ∧ n ≤ 9223372036854775807) (en : En w) : Calls Tryz.prog 6 #[.agg #[.int .u8 ho, .int .u16 bo, .int .u16 st, .int .i64 n], .string t] w fun e w' => e = .returned (.bool true) ∧ Below w.heap.size w w' := by
  obtain ⟨ho, rfl⟩ := Int.eq_ofNat_of_zero_le h1.1
  obtain ⟨bo, rfl⟩ := Int.eq_ofNat_of_zero_le h2.1
  obtain ⟨st, rfl⟩ := Int.eq_ofNat_of_zero_le h3.1
  exact (back_nat ho bo st n (by omega) (by omega) (by omega) t w en).mono fun e w' ⟨a, b⟩ => ⟨a, gb_below b⟩
end Go.Proofs.YtlkdenanbofliaaGreatDoor
