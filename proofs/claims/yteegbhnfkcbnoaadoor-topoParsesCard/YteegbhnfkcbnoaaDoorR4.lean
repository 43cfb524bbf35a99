/- What the document's takes answers: stars and signs. -/
import Derived.Test.YteegbhnfkcbnoaaDoorR3
import Derived.Deep.RegionHeld2
namespace Go.Proofs.YteegbhnfkcbnoaaDoor
open Go.RowKit
set_option linter.unusedVariables false
set_option linter.unusedSimpArgs false
set_option maxRecDepth 100000

theorem rDigitsV (s : ByteArray) (i a : Nat) (hs : s.size ≤ maxLen) (hi : i ≤ s.size) (ha : Hid (Tp.dg s i = a)) (w : World) : Calls Tryd.prog 55 #[.string s, .int .i64 i] w fun e w' => e = .returned (.int .i64 (a : Nat)) ∧ w' = w := by
  have h := rDigitsC s i hs hi w
  rw [ha.out] at h
  exact h

set_option maxHeartbeats 1000000 in
theorem rtakes_ue (s : ByteArray) (i : Nat) (hs : s.size ≤ maxLen) (hi : i ≤ s.size) (w : World) (a : Nat) (hd : Hid (Tp.dg s i = a)) (hn : ((a : Int) == (i : Int)) = false) (ha : a ≤ s.size) (hend : ¬ (a : Int) < (s.size : Int)) : Calls Tryd.prog 46 #[.string s, .int .i64 i, .bool true] w fun e w' => e = .returned (.tuple #[.agg #[.int .i64 i, .int .i64 (a : Nat), .int .i64 (-1), .int .i64 (-1), .int .i64 0, .int .i64 0], .int .i64 (a : Nat), .int .i64 0]) ∧ w.grownBy w' none := by
  obtain ⟨fs, hfs⟩ := under6
  obtain ⟨W1, hW1, sz1, g1, B1⟩ := boxn w #[.int .i64 0, .int .i64 0, .int .i64 0, .int .i64 0, .int .i64 0, .int .i64 0] 60
  obtain ⟨W2, hW2, sz2, g2, B2⟩ := boxn W1 #[.int .i64 i, .int .i64 0, .int .i64 (-1), .int .i64 (-1), .int .i64 0, .int .i64 0] 60
  have BR2 := B1.kept g2 (by simp)
  have G2 := gb_trans g1 g2
  have HN : Hid (W1.heap.size ≠ w.heap.size) := by have := sz1.out; unfold Hid; omega
  have z0 := B2.same 0 (v := .int .i64 i) rfl
  have z1 := B2.same 1 (v := .int .i64 0) rfl
  have z2 := B2.same 2 (v := .int .i64 (-1)) rfl
  have z3 := B2.same 3 (v := .int .i64 (-1)) rfl
  have z4 := B2.same 4 (v := .int .i64 0) rfl
  have z5 := B2.same 5 (v := .int .i64 0) rfl
  have a_0 := B2.cell 0 (v := .int .i64 i) rfl
  have a_1 := B2.cell 1 (v := .int .i64 0) rfl
  have a_2 := B2.cell 2 (v := .int .i64 (-1)) rfl
  have a_3 := B2.cell 3 (v := .int .i64 (-1)) rfl
  have a_4 := B2.cell 4 (v := .int .i64 0) rfl
  have a_5 := B2.cell 5 (v := .int .i64 0) rfl
  have b_0 := B2.frozen 0
  have b_1 := B2.frozen 1
  have b_2 := B2.frozen 2
  have b_3 := B2.frozen 3
  have b_4 := B2.frozen 4
  have b_5 := B2.frozen 5
  obtain ⟨W3, hW3⟩ : ∃ W3, W2.setCell ⟨W1.heap.size, 1, none⟩ (.int .i64 (a : Nat)) = W3 := ⟨_, rfl⟩
  have B3 : Bo W3 W1.heap.size 60 #[.int .i64 i, .int .i64 (a : Nat), .int .i64 (-1), .int .i64 (-1), .int .i64 0, .int .i64 0] := by
    rw [← hW3]
    have h9 := B2.set 1 (.int .i64 (a : Nat))
    simpa using h9
  have BR3 : Bo W3 w.heap.size 60 #[.int .i64 0, .int .i64 0, .int .i64 0, .int .i64 0, .int .i64 0, .int .i64 0] := by rw [← hW3]; exact BR2.set2 HN.out
  have G3 : w.grownBy W3 none := by rw [← hW3]; exact gb_new G2 g1.size _
  have c_0 := B3.cell 0 (v := .int .i64 i) rfl
  have c_1 := B3.cell 1 (v := .int .i64 (a : Nat)) rfl
  have c_2 := B3.cell 2 (v := .int .i64 (-1)) rfl
  have c_3 := B3.cell 3 (v := .int .i64 (-1)) rfl
  have c_4 := B3.cell 4 (v := .int .i64 0) rfl
  have c_5 := B3.cell 5 (v := .int .i64 0) rfl
  have q_0 := B3.frozen 0
  have q_1 := B3.frozen 1
  have q_2 := B3.frozen 2
  have q_3 := B3.frozen 3
  have q_4 := B3.frozen 4
  have q_5 := B3.frozen 5
  have d_0 := BR3.cell 0 (v := .int .i64 0) rfl
  have d_1 := BR3.cell 1 (v := .int .i64 0) rfl
  have d_2 := BR3.cell 2 (v := .int .i64 0) rfl
  have d_3 := BR3.cell 3 (v := .int .i64 0) rfl
  have d_4 := BR3.cell 4 (v := .int .i64 0) rfl
  have d_5 := BR3.cell 5 (v := .int .i64 0) rfl
  have f_0 := BR3.frozen 0
  have f_1 := BR3.frozen 1
  have f_2 := BR3.frozen 2
  have f_3 := BR3.frozen 3
  have f_4 := BR3.frozen 4
  have f_5 := BR3.frozen 5
  go_enter Tryd.func46, Tryd.ntmps46
  go_wp2_with (first | (go_at_call 55; (fail_if_success (guard_hyp hone)); refine (rDigitsV s i a hs hi hd _).mono ?_; rintro e w' ⟨rfl, hw'⟩; subst w'; have hone : True := True.intro))
  refine ret_c3 (g := w.heap.size) (cs := #[.int .i64 i, .int .i64 (a : Nat), .int .i64 (-1), .int .i64 (-1), .int .i64 0, .int .i64 0]) rfl hfs info6 rfl (bo6 BR3) rfl ⟨rfl, gb6 G3 (Nat.le_refl _)⟩

set_option maxHeartbeats 1000000 in
theorem rtakes_un (s : ByteArray) (i : Nat) (hs : s.size ≤ maxLen) (hi : i ≤ s.size) (w : World) (a : Nat) (hd : Hid (Tp.dg s i = a)) (hn : ((a : Int) == (i : Int)) = false) (ha : a ≤ s.size) (hlb : a < s.size) (n42 : ((Sc.bt s a : Int) == 42) = false) (n43 : ((Sc.bt s a : Int) == 43) = false) (n45 : ((Sc.bt s a : Int) == 45) = false) : Calls Tryd.prog 46 #[.string s, .int .i64 i, .bool true] w fun e w' => e = .returned (.tuple #[.agg #[.int .i64 i, .int .i64 (a : Nat), .int .i64 (-1), .int .i64 (-1), .int .i64 0, .int .i64 0], .int .i64 (a : Nat), .int .i64 0]) ∧ w.grownBy w' none := by
  obtain ⟨fs, hfs⟩ := under6
  have hbb := Sc.bt_at hlb
  have hlb' : (a : Int) < (s.size : Int) := by omega
  obtain ⟨W1, hW1, sz1, g1, B1⟩ := boxn w #[.int .i64 0, .int .i64 0, .int .i64 0, .int .i64 0, .int .i64 0, .int .i64 0] 60
  obtain ⟨W2, hW2, sz2, g2, B2⟩ := boxn W1 #[.int .i64 i, .int .i64 0, .int .i64 (-1), .int .i64 (-1), .int .i64 0, .int .i64 0] 60
  have BR2 := B1.kept g2 (by simp)
  have G2 := gb_trans g1 g2
  have HN : Hid (W1.heap.size ≠ w.heap.size) := by have := sz1.out; unfold Hid; omega
  have z0 := B2.same 0 (v := .int .i64 i) rfl
  have z1 := B2.same 1 (v := .int .i64 0) rfl
  have z2 := B2.same 2 (v := .int .i64 (-1)) rfl
  have z3 := B2.same 3 (v := .int .i64 (-1)) rfl
  have z4 := B2.same 4 (v := .int .i64 0) rfl
  have z5 := B2.same 5 (v := .int .i64 0) rfl
  have a_0 := B2.cell 0 (v := .int .i64 i) rfl
  have a_1 := B2.cell 1 (v := .int .i64 0) rfl
  have a_2 := B2.cell 2 (v := .int .i64 (-1)) rfl
  have a_3 := B2.cell 3 (v := .int .i64 (-1)) rfl
  have a_4 := B2.cell 4 (v := .int .i64 0) rfl
  have a_5 := B2.cell 5 (v := .int .i64 0) rfl
  have b_0 := B2.frozen 0
  have b_1 := B2.frozen 1
  have b_2 := B2.frozen 2
  have b_3 := B2.frozen 3
  have b_4 := B2.frozen 4
  have b_5 := B2.frozen 5
  obtain ⟨W3, hW3⟩ : ∃ W3, W2.setCell ⟨W1.heap.size, 1, none⟩ (.int .i64 (a : Nat)) = W3 := ⟨_, rfl⟩
  have B3 : Bo W3 W1.heap.size 60 #[.int .i64 i, .int .i64 (a : Nat), .int .i64 (-1), .int .i64 (-1), .int .i64 0, .int .i64 0] := by
    rw [← hW3]
    have h9 := B2.set 1 (.int .i64 (a : Nat))
    simpa using h9
  have BR3 : Bo W3 w.heap.size 60 #[.int .i64 0, .int .i64 0, .int .i64 0, .int .i64 0, .int .i64 0, .int .i64 0] := by rw [← hW3]; exact BR2.set2 HN.out
  have G3 : w.grownBy W3 none := by rw [← hW3]; exact gb_new G2 g1.size _
  have c_0 := B3.cell 0 (v := .int .i64 i) rfl
  have c_1 := B3.cell 1 (v := .int .i64 (a : Nat)) rfl
  have c_2 := B3.cell 2 (v := .int .i64 (-1)) rfl
  have c_3 := B3.cell 3 (v := .int .i64 (-1)) rfl
  have c_4 := B3.cell 4 (v := .int .i64 0) rfl
  have c_5 := B3.cell 5 (v := .int .i64 0) rfl
  have q_0 := B3.frozen 0
  have q_1 := B3.frozen 1
  have q_2 := B3.frozen 2
  have q_3 := B3.frozen 3
  have q_4 := B3.frozen 4
  have q_5 := B3.frozen 5
  have d_0 := BR3.cell 0 (v := .int .i64 0) rfl
  have d_1 := BR3.cell 1 (v := .int .i64 0) rfl
  have d_2 := BR3.cell 2 (v := .int .i64 0) rfl
  have d_3 := BR3.cell 3 (v := .int .i64 0) rfl
  have d_4 := BR3.cell 4 (v := .int .i64 0) rfl
  have d_5 := BR3.cell 5 (v := .int .i64 0) rfl
  have f_0 := BR3.frozen 0
  have f_1 := BR3.frozen 1
  have f_2 := BR3.frozen 2
  have f_3 := BR3.frozen 3
  have f_4 := BR3.frozen 4
  have f_5 := BR3.frozen 5
  go_enter Tryd.func46, Tryd.ntmps46
  go_wp2_with (first | (go_at_call 55; (fail_if_success (guard_hyp hone)); refine (rDigitsV s i a hs hi hd _).mono ?_; rintro e w' ⟨rfl, hw'⟩; subst w'; have hone : True := True.intro))
  refine ret_c3 (g := w.heap.size) (cs := #[.int .i64 i, .int .i64 (a : Nat), .int .i64 (-1), .int .i64 (-1), .int .i64 0, .int .i64 0]) rfl hfs info6 rfl (bo6 BR3) rfl ⟨rfl, gb6 G3 (Nat.le_refl _)⟩

set_option maxHeartbeats 1000000 in
theorem rtakes_u43n (s : ByteArray) (i : Nat) (hs : s.size ≤ maxLen) (hi : i ≤ s.size) (w : World) (a : Nat) (hd : Hid (Tp.dg s i = a)) (hn : ((a : Int) == (i : Int)) = false) (ha : a ≤ s.size) (hlb : a < s.size) (n42 : ((Sc.bt s a : Int) == 42) = false) (n43 : ((Sc.bt s a : Int) == 43) = true) (c : Nat) (hc : Hid (a + 1 = c)) (d : Nat) (hdd : Hid (Tp.dg s c = d)) (hcd : ((d : Int) == (c : Int)) = true) : Calls Tryd.prog 46 #[.string s, .int .i64 i, .bool true] w fun e w' => e = .returned (.tuple #[.agg #[.int .i64 i, .int .i64 (a : Nat), .int .i64 (-1), .int .i64 (a : Nat), .int .i64 (c : Nat), .int .i64 (d : Nat)], .int .i64 (c : Nat), .int .i64 43]) ∧ w.grownBy w' none := by
  obtain ⟨fs, hfs⟩ := under6
  have hbb := Sc.bt_at hlb
  have hlb' : (a : Int) < (s.size : Int) := by omega
  have hwc : IntKind.i64.wrap ((a : Int) + 1) = (c : Int) := by have := hc.out; unfold maxLen at hs; rw [IntKind.wrap_i64]; omega
  have hcs : c ≤ s.size := by have := hc.out; omega
  obtain ⟨W1, hW1, sz1, g1, B1⟩ := boxn w #[.int .i64 0, .int .i64 0, .int .i64 0, .int .i64 0, .int .i64 0, .int .i64 0] 60
  obtain ⟨W2, hW2, sz2, g2, B2⟩ := boxn W1 #[.int .i64 i, .int .i64 0, .int .i64 (-1), .int .i64 (-1), .int .i64 0, .int .i64 0] 60
  have BR2 := B1.kept g2 (by simp)
  have G2 := gb_trans g1 g2
  have HN : Hid (W1.heap.size ≠ w.heap.size) := by have := sz1.out; unfold Hid; omega
  have z0 := B2.same 0 (v := .int .i64 i) rfl
  have z1 := B2.same 1 (v := .int .i64 0) rfl
  have z2 := B2.same 2 (v := .int .i64 (-1)) rfl
  have z3 := B2.same 3 (v := .int .i64 (-1)) rfl
  have z4 := B2.same 4 (v := .int .i64 0) rfl
  have z5 := B2.same 5 (v := .int .i64 0) rfl
  have a_0 := B2.cell 0 (v := .int .i64 i) rfl
  have a_1 := B2.cell 1 (v := .int .i64 0) rfl
  have a_2 := B2.cell 2 (v := .int .i64 (-1)) rfl
  have a_3 := B2.cell 3 (v := .int .i64 (-1)) rfl
  have a_4 := B2.cell 4 (v := .int .i64 0) rfl
  have a_5 := B2.cell 5 (v := .int .i64 0) rfl
  have b_0 := B2.frozen 0
  have b_1 := B2.frozen 1
  have b_2 := B2.frozen 2
  have b_3 := B2.frozen 3
  have b_4 := B2.frozen 4
  have b_5 := B2.frozen 5
  obtain ⟨W3, hW3⟩ : ∃ W3, W2.setCell ⟨W1.heap.size, 1, none⟩ (.int .i64 (a : Nat)) = W3 := ⟨_, rfl⟩
  have B3 : Bo W3 W1.heap.size 60 #[.int .i64 i, .int .i64 (a : Nat), .int .i64 (-1), .int .i64 (-1), .int .i64 0, .int .i64 0] := by
    rw [← hW3]
    have h9 := B2.set 1 (.int .i64 (a : Nat))
    simpa using h9
  have BR3 : Bo W3 w.heap.size 60 #[.int .i64 0, .int .i64 0, .int .i64 0, .int .i64 0, .int .i64 0, .int .i64 0] := by rw [← hW3]; exact BR2.set2 HN.out
  have G3 : w.grownBy W3 none := by rw [← hW3]; exact gb_new G2 g1.size _
  have c_0 := B3.cell 0 (v := .int .i64 i) rfl
  have c_1 := B3.cell 1 (v := .int .i64 (a : Nat)) rfl
  have c_2 := B3.cell 2 (v := .int .i64 (-1)) rfl
  have c_3 := B3.cell 3 (v := .int .i64 (-1)) rfl
  have c_4 := B3.cell 4 (v := .int .i64 0) rfl
  have c_5 := B3.cell 5 (v := .int .i64 0) rfl
  have q_0 := B3.frozen 0
  have q_1 := B3.frozen 1
  have q_2 := B3.frozen 2
  have q_3 := B3.frozen 3
  have q_4 := B3.frozen 4
  have q_5 := B3.frozen 5
  obtain ⟨W4, hW4⟩ : ∃ W4, W3.setCell ⟨W1.heap.size, 3, none⟩ (.int .i64 (a : Nat)) = W4 := ⟨_, rfl⟩
  have B4 : Bo W4 W1.heap.size 60 #[.int .i64 i, .int .i64 (a : Nat), .int .i64 (-1), .int .i64 (a : Nat), .int .i64 0, .int .i64 0] := by
    rw [← hW4]
    have h9 := B3.set 3 (.int .i64 (a : Nat))
    simpa using h9
  have BR4 : Bo W4 w.heap.size 60 #[.int .i64 0, .int .i64 0, .int .i64 0, .int .i64 0, .int .i64 0, .int .i64 0] := by rw [← hW4]; exact BR3.set2 HN.out
  have G4 : w.grownBy W4 none := by rw [← hW4]; exact gb_new G3 g1.size _
  have c4_0 := B4.cell 0 (v := .int .i64 i) rfl
  have c4_1 := B4.cell 1 (v := .int .i64 (a : Nat)) rfl
  have c4_2 := B4.cell 2 (v := .int .i64 (-1)) rfl
  have c4_3 := B4.cell 3 (v := .int .i64 (a : Nat)) rfl
  have c4_4 := B4.cell 4 (v := .int .i64 0) rfl
  have c4_5 := B4.cell 5 (v := .int .i64 0) rfl
  have q4_0 := B4.frozen 0
  have q4_1 := B4.frozen 1
  have q4_2 := B4.frozen 2
  have q4_3 := B4.frozen 3
  have q4_4 := B4.frozen 4
  have q4_5 := B4.frozen 5
  obtain ⟨W5, hW5⟩ : ∃ W5, W4.setCell ⟨W1.heap.size, 4, none⟩ (.int .i64 (c : Nat)) = W5 := ⟨_, rfl⟩
  have B5 : Bo W5 W1.heap.size 60 #[.int .i64 i, .int .i64 (a : Nat), .int .i64 (-1), .int .i64 (a : Nat), .int .i64 (c : Nat), .int .i64 0] := by
    rw [← hW5]
    have h9 := B4.set 4 (.int .i64 (c : Nat))
    simpa using h9
  have BR5 : Bo W5 w.heap.size 60 #[.int .i64 0, .int .i64 0, .int .i64 0, .int .i64 0, .int .i64 0, .int .i64 0] := by rw [← hW5]; exact BR4.set2 HN.out
  have G5 : w.grownBy W5 none := by rw [← hW5]; exact gb_new G4 g1.size _
  have c5_0 := B5.cell 0 (v := .int .i64 i) rfl
  have c5_1 := B5.cell 1 (v := .int .i64 (a : Nat)) rfl
  have c5_2 := B5.cell 2 (v := .int .i64 (-1)) rfl
  have c5_3 := B5.cell 3 (v := .int .i64 (a : Nat)) rfl
  have c5_4 := B5.cell 4 (v := .int .i64 (c : Nat)) rfl
  have c5_5 := B5.cell 5 (v := .int .i64 0) rfl
  have q5_0 := B5.frozen 0
  have q5_1 := B5.frozen 1
  have q5_2 := B5.frozen 2
  have q5_3 := B5.frozen 3
  have q5_4 := B5.frozen 4
  have q5_5 := B5.frozen 5
  obtain ⟨W6, hW6⟩ : ∃ W6, W5.setCell ⟨W1.heap.size, 5, none⟩ (.int .i64 (d : Nat)) = W6 := ⟨_, rfl⟩
  have B6 : Bo W6 W1.heap.size 60 #[.int .i64 i, .int .i64 (a : Nat), .int .i64 (-1), .int .i64 (a : Nat), .int .i64 (c : Nat), .int .i64 (d : Nat)] := by
    rw [← hW6]
    have h9 := B5.set 5 (.int .i64 (d : Nat))
    simpa using h9
  have BR6 : Bo W6 w.heap.size 60 #[.int .i64 0, .int .i64 0, .int .i64 0, .int .i64 0, .int .i64 0, .int .i64 0] := by rw [← hW6]; exact BR5.set2 HN.out
  have G6 : w.grownBy W6 none := by rw [← hW6]; exact gb_new G5 g1.size _
  have c6_0 := B6.cell 0 (v := .int .i64 i) rfl
  have c6_1 := B6.cell 1 (v := .int .i64 (a : Nat)) rfl
  have c6_2 := B6.cell 2 (v := .int .i64 (-1)) rfl
  have c6_3 := B6.cell 3 (v := .int .i64 (a : Nat)) rfl
  have c6_4 := B6.cell 4 (v := .int .i64 (c : Nat)) rfl
  have c6_5 := B6.cell 5 (v := .int .i64 (d : Nat)) rfl
  have q6_0 := B6.frozen 0
  have q6_1 := B6.frozen 1
  have q6_2 := B6.frozen 2
  have q6_3 := B6.frozen 3
  have q6_4 := B6.frozen 4
  have q6_5 := B6.frozen 5
  have d_0 := BR6.cell 0 (v := .int .i64 0) rfl
  have d_1 := BR6.cell 1 (v := .int .i64 0) rfl
  have d_2 := BR6.cell 2 (v := .int .i64 0) rfl
  have d_3 := BR6.cell 3 (v := .int .i64 0) rfl
  have d_4 := BR6.cell 4 (v := .int .i64 0) rfl
  have d_5 := BR6.cell 5 (v := .int .i64 0) rfl
  have f_0 := BR6.frozen 0
  have f_1 := BR6.frozen 1
  have f_2 := BR6.frozen 2
  have f_3 := BR6.frozen 3
  have f_4 := BR6.frozen 4
  have f_5 := BR6.frozen 5
  go_enter Tryd.func46, Tryd.ntmps46
  go_wp2_with (first | (go_at_call 55; (fail_if_success (guard_hyp hone)); refine (rDigitsV s i a hs hi hd _).mono ?_; rintro e w' ⟨rfl, hw'⟩; subst w'; have hone : True := True.intro) | (go_at_call 55; refine (rDigitsV s c d hs hcs hdd _).mono ?_; rintro e w' ⟨rfl, hw'⟩; subst w'))
  have hne := HN.out
  have hne2 : ¬ w.heap.size = W1.heap.size := fun h => hne h.symm
  go_region_held2 (fun w' => w'.cell? ⟨W1.heap.size, 0, none⟩ = some (.int .i64 i) ∧ w'.cell? ⟨W1.heap.size, 1, none⟩ = some (.int .i64 (a : Nat)) ∧ w'.cell? ⟨W1.heap.size, 2, none⟩ = some (.int .i64 (-1)) ∧ w'.cell? ⟨W1.heap.size, 3, none⟩ = some (.int .i64 (a : Nat)) ∧ w'.cell? ⟨W1.heap.size, 4, none⟩ = some (.int .i64 (c : Nat)) ∧ w'.cell? ⟨W1.heap.size, 5, none⟩ = some (.int .i64 (d : Nat))) (go_keep) (fail)
  all_goals go_wp2
  all_goals refine ret_c3 (g := w.heap.size) (cs := #[.int .i64 i, .int .i64 (a : Nat), .int .i64 (-1), .int .i64 (a : Nat), .int .i64 (c : Nat), .int .i64 (d : Nat)]) rfl hfs info6 rfl (bo6 BR6).dr rfl ⟨rfl, gb_drew (gb6 G6 (Nat.le_refl _))⟩

set_option maxHeartbeats 1000000 in
theorem rtakes_u43y (s : ByteArray) (i : Nat) (hs : s.size ≤ maxLen) (hi : i ≤ s.size) (w : World) (a : Nat) (hd : Hid (Tp.dg s i = a)) (hn : ((a : Int) == (i : Int)) = false) (ha : a ≤ s.size) (hlb : a < s.size) (n42 : ((Sc.bt s a : Int) == 42) = false) (n43 : ((Sc.bt s a : Int) == 43) = true) (c : Nat) (hc : Hid (a + 1 = c)) (d : Nat) (hdd : Hid (Tp.dg s c = d)) (hcd : ((d : Int) == (c : Int)) = false) : Calls Tryd.prog 46 #[.string s, .int .i64 i, .bool true] w fun e w' => e = .returned (.tuple #[.agg #[.int .i64 i, .int .i64 (a : Nat), .int .i64 (-1), .int .i64 (a : Nat), .int .i64 (c : Nat), .int .i64 (d : Nat)], .int .i64 (d : Nat), .int .i64 0]) ∧ w.grownBy w' none := by
  obtain ⟨fs, hfs⟩ := under6
  have hbb := Sc.bt_at hlb
  have hlb' : (a : Int) < (s.size : Int) := by omega
  have hwc : IntKind.i64.wrap ((a : Int) + 1) = (c : Int) := by have := hc.out; unfold maxLen at hs; rw [IntKind.wrap_i64]; omega
  have hcs : c ≤ s.size := by have := hc.out; omega
  obtain ⟨W1, hW1, sz1, g1, B1⟩ := boxn w #[.int .i64 0, .int .i64 0, .int .i64 0, .int .i64 0, .int .i64 0, .int .i64 0] 60
  obtain ⟨W2, hW2, sz2, g2, B2⟩ := boxn W1 #[.int .i64 i, .int .i64 0, .int .i64 (-1), .int .i64 (-1), .int .i64 0, .int .i64 0] 60
  have BR2 := B1.kept g2 (by simp)
  have G2 := gb_trans g1 g2
  have HN : Hid (W1.heap.size ≠ w.heap.size) := by have := sz1.out; unfold Hid; omega
  have z0 := B2.same 0 (v := .int .i64 i) rfl
  have z1 := B2.same 1 (v := .int .i64 0) rfl
  have z2 := B2.same 2 (v := .int .i64 (-1)) rfl
  have z3 := B2.same 3 (v := .int .i64 (-1)) rfl
  have z4 := B2.same 4 (v := .int .i64 0) rfl
  have z5 := B2.same 5 (v := .int .i64 0) rfl
  have a_0 := B2.cell 0 (v := .int .i64 i) rfl
  have a_1 := B2.cell 1 (v := .int .i64 0) rfl
  have a_2 := B2.cell 2 (v := .int .i64 (-1)) rfl
  have a_3 := B2.cell 3 (v := .int .i64 (-1)) rfl
  have a_4 := B2.cell 4 (v := .int .i64 0) rfl
  have a_5 := B2.cell 5 (v := .int .i64 0) rfl
  have b_0 := B2.frozen 0
  have b_1 := B2.frozen 1
  have b_2 := B2.frozen 2
  have b_3 := B2.frozen 3
  have b_4 := B2.frozen 4
  have b_5 := B2.frozen 5
  obtain ⟨W3, hW3⟩ : ∃ W3, W2.setCell ⟨W1.heap.size, 1, none⟩ (.int .i64 (a : Nat)) = W3 := ⟨_, rfl⟩
  have B3 : Bo W3 W1.heap.size 60 #[.int .i64 i, .int .i64 (a : Nat), .int .i64 (-1), .int .i64 (-1), .int .i64 0, .int .i64 0] := by
    rw [← hW3]
    have h9 := B2.set 1 (.int .i64 (a : Nat))
    simpa using h9
  have BR3 : Bo W3 w.heap.size 60 #[.int .i64 0, .int .i64 0, .int .i64 0, .int .i64 0, .int .i64 0, .int .i64 0] := by rw [← hW3]; exact BR2.set2 HN.out
  have G3 : w.grownBy W3 none := by rw [← hW3]; exact gb_new G2 g1.size _
  have c_0 := B3.cell 0 (v := .int .i64 i) rfl
  have c_1 := B3.cell 1 (v := .int .i64 (a : Nat)) rfl
  have c_2 := B3.cell 2 (v := .int .i64 (-1)) rfl
  have c_3 := B3.cell 3 (v := .int .i64 (-1)) rfl
  have c_4 := B3.cell 4 (v := .int .i64 0) rfl
  have c_5 := B3.cell 5 (v := .int .i64 0) rfl
  have q_0 := B3.frozen 0
  have q_1 := B3.frozen 1
  have q_2 := B3.frozen 2
  have q_3 := B3.frozen 3
  have q_4 := B3.frozen 4
  have q_5 := B3.frozen 5
  obtain ⟨W4, hW4⟩ : ∃ W4, W3.setCell ⟨W1.heap.size, 3, none⟩ (.int .i64 (a : Nat)) = W4 := ⟨_, rfl⟩
  have B4 : Bo W4 W1.heap.size 60 #[.int .i64 i, .int .i64 (a : Nat), .int .i64 (-1), .int .i64 (a : Nat), .int .i64 0, .int .i64 0] := by
    rw [← hW4]
    have h9 := B3.set 3 (.int .i64 (a : Nat))
    simpa using h9
  have BR4 : Bo W4 w.heap.size 60 #[.int .i64 0, .int .i64 0, .int .i64 0, .int .i64 0, .int .i64 0, .int .i64 0] := by rw [← hW4]; exact BR3.set2 HN.out
  have G4 : w.grownBy W4 none := by rw [← hW4]; exact gb_new G3 g1.size _
  have c4_0 := B4.cell 0 (v := .int .i64 i) rfl
  have c4_1 := B4.cell 1 (v := .int .i64 (a : Nat)) rfl
  have c4_2 := B4.cell 2 (v := .int .i64 (-1)) rfl
  have c4_3 := B4.cell 3 (v := .int .i64 (a : Nat)) rfl
  have c4_4 := B4.cell 4 (v := .int .i64 0) rfl
  have c4_5 := B4.cell 5 (v := .int .i64 0) rfl
  have q4_0 := B4.frozen 0
  have q4_1 := B4.frozen 1
  have q4_2 := B4.frozen 2
  have q4_3 := B4.frozen 3
  have q4_4 := B4.frozen 4
  have q4_5 := B4.frozen 5
  obtain ⟨W5, hW5⟩ : ∃ W5, W4.setCell ⟨W1.heap.size, 4, none⟩ (.int .i64 (c : Nat)) = W5 := ⟨_, rfl⟩
  have B5 : Bo W5 W1.heap.size 60 #[.int .i64 i, .int .i64 (a : Nat), .int .i64 (-1), .int .i64 (a : Nat), .int .i64 (c : Nat), .int .i64 0] := by
    rw [← hW5]
    have h9 := B4.set 4 (.int .i64 (c : Nat))
    simpa using h9
  have BR5 : Bo W5 w.heap.size 60 #[.int .i64 0, .int .i64 0, .int .i64 0, .int .i64 0, .int .i64 0, .int .i64 0] := by rw [← hW5]; exact BR4.set2 HN.out
  have G5 : w.grownBy W5 none := by rw [← hW5]; exact gb_new G4 g1.size _
  have c5_0 := B5.cell 0 (v := .int .i64 i) rfl
  have c5_1 := B5.cell 1 (v := .int .i64 (a : Nat)) rfl
  have c5_2 := B5.cell 2 (v := .int .i64 (-1)) rfl
  have c5_3 := B5.cell 3 (v := .int .i64 (a : Nat)) rfl
  have c5_4 := B5.cell 4 (v := .int .i64 (c : Nat)) rfl
  have c5_5 := B5.cell 5 (v := .int .i64 0) rfl
  have q5_0 := B5.frozen 0
  have q5_1 := B5.frozen 1
  have q5_2 := B5.frozen 2
  have q5_3 := B5.frozen 3
  have q5_4 := B5.frozen 4
  have q5_5 := B5.frozen 5
  obtain ⟨W6, hW6⟩ : ∃ W6, W5.setCell ⟨W1.heap.size, 5, none⟩ (.int .i64 (d : Nat)) = W6 := ⟨_, rfl⟩
  have B6 : Bo W6 W1.heap.size 60 #[.int .i64 i, .int .i64 (a : Nat), .int .i64 (-1), .int .i64 (a : Nat), .int .i64 (c : Nat), .int .i64 (d : Nat)] := by
    rw [← hW6]
    have h9 := B5.set 5 (.int .i64 (d : Nat))
    simpa using h9
  have BR6 : Bo W6 w.heap.size 60 #[.int .i64 0, .int .i64 0, .int .i64 0, .int .i64 0, .int .i64 0, .int .i64 0] := by rw [← hW6]; exact BR5.set2 HN.out
  have G6 : w.grownBy W6 none := by rw [← hW6]; exact gb_new G5 g1.size _
  have c6_0 := B6.cell 0 (v := .int .i64 i) rfl
  have c6_1 := B6.cell 1 (v := .int .i64 (a : Nat)) rfl
  have c6_2 := B6.cell 2 (v := .int .i64 (-1)) rfl
  have c6_3 := B6.cell 3 (v := .int .i64 (a : Nat)) rfl
  have c6_4 := B6.cell 4 (v := .int .i64 (c : Nat)) rfl
  have c6_5 := B6.cell 5 (v := .int .i64 (d : Nat)) rfl
  have q6_0 := B6.frozen 0
  have q6_1 := B6.frozen 1
  have q6_2 := B6.frozen 2
  have q6_3 := B6.frozen 3
  have q6_4 := B6.frozen 4
  have q6_5 := B6.frozen 5
  have d_0 := BR6.cell 0 (v := .int .i64 0) rfl
  have d_1 := BR6.cell 1 (v := .int .i64 0) rfl
  have d_2 := BR6.cell 2 (v := .int .i64 0) rfl
  have d_3 := BR6.cell 3 (v := .int .i64 0) rfl
  have d_4 := BR6.cell 4 (v := .int .i64 0) rfl
  have d_5 := BR6.cell 5 (v := .int .i64 0) rfl
  have f_0 := BR6.frozen 0
  have f_1 := BR6.frozen 1
  have f_2 := BR6.frozen 2
  have f_3 := BR6.frozen 3
  have f_4 := BR6.frozen 4
  have f_5 := BR6.frozen 5
  go_enter Tryd.func46, Tryd.ntmps46
  go_wp2_with (first | (go_at_call 55; (fail_if_success (guard_hyp hone)); refine (rDigitsV s i a hs hi hd _).mono ?_; rintro e w' ⟨rfl, hw'⟩; subst w'; have hone : True := True.intro) | (go_at_call 55; refine (rDigitsV s c d hs hcs hdd _).mono ?_; rintro e w' ⟨rfl, hw'⟩; subst w'))
  refine ret_c3 (g := w.heap.size) (cs := #[.int .i64 i, .int .i64 (a : Nat), .int .i64 (-1), .int .i64 (a : Nat), .int .i64 (c : Nat), .int .i64 (d : Nat)]) rfl hfs info6 rfl (bo6 BR6) rfl ⟨rfl, gb6 G6 (Nat.le_refl _)⟩

set_option maxHeartbeats 1000000 in
theorem rtakes_u45n (s : ByteArray) (i : Nat) (hs : s.size ≤ maxLen) (hi : i ≤ s.size) (w : World) (a : Nat) (hd : Hid (Tp.dg s i = a)) (hn : ((a : Int) == (i : Int)) = false) (ha : a ≤ s.size) (hlb : a < s.size) (n42 : ((Sc.bt s a : Int) == 42) = false) (n43 : ((Sc.bt s a : Int) == 43) = false) (n45 : ((Sc.bt s a : Int) == 45) = true) (c : Nat) (hc : Hid (a + 1 = c)) (d : Nat) (hdd : Hid (Tp.dg s c = d)) (hcd : ((d : Int) == (c : Int)) = true) : Calls Tryd.prog 46 #[.string s, .int .i64 i, .bool true] w fun e w' => e = .returned (.tuple #[.agg #[.int .i64 i, .int .i64 (a : Nat), .int .i64 (-1), .int .i64 (a : Nat), .int .i64 (c : Nat), .int .i64 (d : Nat)], .int .i64 (c : Nat), .int .i64 43]) ∧ w.grownBy w' none := by
  obtain ⟨fs, hfs⟩ := under6
  have hbb := Sc.bt_at hlb
  have hlb' : (a : Int) < (s.size : Int) := by omega
  have hwc : IntKind.i64.wrap ((a : Int) + 1) = (c : Int) := by have := hc.out; unfold maxLen at hs; rw [IntKind.wrap_i64]; omega
  have hcs : c ≤ s.size := by have := hc.out; omega
  obtain ⟨W1, hW1, sz1, g1, B1⟩ := boxn w #[.int .i64 0, .int .i64 0, .int .i64 0, .int .i64 0, .int .i64 0, .int .i64 0] 60
  obtain ⟨W2, hW2, sz2, g2, B2⟩ := boxn W1 #[.int .i64 i, .int .i64 0, .int .i64 (-1), .int .i64 (-1), .int .i64 0, .int .i64 0] 60
  have BR2 := B1.kept g2 (by simp)
  have G2 := gb_trans g1 g2
  have HN : Hid (W1.heap.size ≠ w.heap.size) := by have := sz1.out; unfold Hid; omega
  have z0 := B2.same 0 (v := .int .i64 i) rfl
  have z1 := B2.same 1 (v := .int .i64 0) rfl
  have z2 := B2.same 2 (v := .int .i64 (-1)) rfl
  have z3 := B2.same 3 (v := .int .i64 (-1)) rfl
  have z4 := B2.same 4 (v := .int .i64 0) rfl
  have z5 := B2.same 5 (v := .int .i64 0) rfl
  have a_0 := B2.cell 0 (v := .int .i64 i) rfl
  have a_1 := B2.cell 1 (v := .int .i64 0) rfl
  have a_2 := B2.cell 2 (v := .int .i64 (-1)) rfl
  have a_3 := B2.cell 3 (v := .int .i64 (-1)) rfl
  have a_4 := B2.cell 4 (v := .int .i64 0) rfl
  have a_5 := B2.cell 5 (v := .int .i64 0) rfl
  have b_0 := B2.frozen 0
  have b_1 := B2.frozen 1
  have b_2 := B2.frozen 2
  have b_3 := B2.frozen 3
  have b_4 := B2.frozen 4
  have b_5 := B2.frozen 5
  obtain ⟨W3, hW3⟩ : ∃ W3, W2.setCell ⟨W1.heap.size, 1, none⟩ (.int .i64 (a : Nat)) = W3 := ⟨_, rfl⟩
  have B3 : Bo W3 W1.heap.size 60 #[.int .i64 i, .int .i64 (a : Nat), .int .i64 (-1), .int .i64 (-1), .int .i64 0, .int .i64 0] := by
    rw [← hW3]
    have h9 := B2.set 1 (.int .i64 (a : Nat))
    simpa using h9
  have BR3 : Bo W3 w.heap.size 60 #[.int .i64 0, .int .i64 0, .int .i64 0, .int .i64 0, .int .i64 0, .int .i64 0] := by rw [← hW3]; exact BR2.set2 HN.out
  have G3 : w.grownBy W3 none := by rw [← hW3]; exact gb_new G2 g1.size _
  have c_0 := B3.cell 0 (v := .int .i64 i) rfl
  have c_1 := B3.cell 1 (v := .int .i64 (a : Nat)) rfl
  have c_2 := B3.cell 2 (v := .int .i64 (-1)) rfl
  have c_3 := B3.cell 3 (v := .int .i64 (-1)) rfl
  have c_4 := B3.cell 4 (v := .int .i64 0) rfl
  have c_5 := B3.cell 5 (v := .int .i64 0) rfl
  have q_0 := B3.frozen 0
  have q_1 := B3.frozen 1
  have q_2 := B3.frozen 2
  have q_3 := B3.frozen 3
  have q_4 := B3.frozen 4
  have q_5 := B3.frozen 5
  obtain ⟨W4, hW4⟩ : ∃ W4, W3.setCell ⟨W1.heap.size, 3, none⟩ (.int .i64 (a : Nat)) = W4 := ⟨_, rfl⟩
  have B4 : Bo W4 W1.heap.size 60 #[.int .i64 i, .int .i64 (a : Nat), .int .i64 (-1), .int .i64 (a : Nat), .int .i64 0, .int .i64 0] := by
    rw [← hW4]
    have h9 := B3.set 3 (.int .i64 (a : Nat))
    simpa using h9
  have BR4 : Bo W4 w.heap.size 60 #[.int .i64 0, .int .i64 0, .int .i64 0, .int .i64 0, .int .i64 0, .int .i64 0] := by rw [← hW4]; exact BR3.set2 HN.out
  have G4 : w.grownBy W4 none := by rw [← hW4]; exact gb_new G3 g1.size _
  have c4_0 := B4.cell 0 (v := .int .i64 i) rfl
  have c4_1 := B4.cell 1 (v := .int .i64 (a : Nat)) rfl
  have c4_2 := B4.cell 2 (v := .int .i64 (-1)) rfl
  have c4_3 := B4.cell 3 (v := .int .i64 (a : Nat)) rfl
  have c4_4 := B4.cell 4 (v := .int .i64 0) rfl
  have c4_5 := B4.cell 5 (v := .int .i64 0) rfl
  have q4_0 := B4.frozen 0
  have q4_1 := B4.frozen 1
  have q4_2 := B4.frozen 2
  have q4_3 := B4.frozen 3
  have q4_4 := B4.frozen 4
  have q4_5 := B4.frozen 5
  obtain ⟨W5, hW5⟩ : ∃ W5, W4.setCell ⟨W1.heap.size, 4, none⟩ (.int .i64 (c : Nat)) = W5 := ⟨_, rfl⟩
  have B5 : Bo W5 W1.heap.size 60 #[.int .i64 i, .int .i64 (a : Nat), .int .i64 (-1), .int .i64 (a : Nat), .int .i64 (c : Nat), .int .i64 0] := by
    rw [← hW5]
    have h9 := B4.set 4 (.int .i64 (c : Nat))
    simpa using h9
  have BR5 : Bo W5 w.heap.size 60 #[.int .i64 0, .int .i64 0, .int .i64 0, .int .i64 0, .int .i64 0, .int .i64 0] := by rw [← hW5]; exact BR4.set2 HN.out
  have G5 : w.grownBy W5 none := by rw [← hW5]; exact gb_new G4 g1.size _
  have c5_0 := B5.cell 0 (v := .int .i64 i) rfl
  have c5_1 := B5.cell 1 (v := .int .i64 (a : Nat)) rfl
  have c5_2 := B5.cell 2 (v := .int .i64 (-1)) rfl
  have c5_3 := B5.cell 3 (v := .int .i64 (a : Nat)) rfl
  have c5_4 := B5.cell 4 (v := .int .i64 (c : Nat)) rfl
  have c5_5 := B5.cell 5 (v := .int .i64 0) rfl
  have q5_0 := B5.frozen 0
  have q5_1 := B5.frozen 1
  have q5_2 := B5.frozen 2
  have q5_3 := B5.frozen 3
  have q5_4 := B5.frozen 4
  have q5_5 := B5.frozen 5
  obtain ⟨W6, hW6⟩ : ∃ W6, W5.setCell ⟨W1.heap.size, 5, none⟩ (.int .i64 (d : Nat)) = W6 := ⟨_, rfl⟩
  have B6 : Bo W6 W1.heap.size 60 #[.int .i64 i, .int .i64 (a : Nat), .int .i64 (-1), .int .i64 (a : Nat), .int .i64 (c : Nat), .int .i64 (d : Nat)] := by
    rw [← hW6]
    have h9 := B5.set 5 (.int .i64 (d : Nat))
    simpa using h9
  have BR6 : Bo W6 w.heap.size 60 #[.int .i64 0, .int .i64 0, .int .i64 0, .int .i64 0, .int .i64 0, .int .i64 0] := by rw [← hW6]; exact BR5.set2 HN.out
  have G6 : w.grownBy W6 none := by rw [← hW6]; exact gb_new G5 g1.size _
  have c6_0 := B6.cell 0 (v := .int .i64 i) rfl
  have c6_1 := B6.cell 1 (v := .int .i64 (a : Nat)) rfl
  have c6_2 := B6.cell 2 (v := .int .i64 (-1)) rfl
  have c6_3 := B6.cell 3 (v := .int .i64 (a : Nat)) rfl
  have c6_4 := B6.cell 4 (v := .int .i64 (c : Nat)) rfl
  have c6_5 := B6.cell 5 (v := .int .i64 (d : Nat)) rfl
  have q6_0 := B6.frozen 0
  have q6_1 := B6.frozen 1
  have q6_2 := B6.frozen 2
  have q6_3 := B6.frozen 3
  have q6_4 := B6.frozen 4
  have q6_5 := B6.frozen 5
  have d_0 := BR6.cell 0 (v := .int .i64 0) rfl
  have d_1 := BR6.cell 1 (v := .int .i64 0) rfl
  have d_2 := BR6.cell 2 (v := .int .i64 0) rfl
  have d_3 := BR6.cell 3 (v := .int .i64 0) rfl
  have d_4 := BR6.cell 4 (v := .int .i64 0) rfl
  have d_5 := BR6.cell 5 (v := .int .i64 0) rfl
  have f_0 := BR6.frozen 0
  have f_1 := BR6.frozen 1
  have f_2 := BR6.frozen 2
  have f_3 := BR6.frozen 3
  have f_4 := BR6.frozen 4
  have f_5 := BR6.frozen 5
  go_enter Tryd.func46, Tryd.ntmps46
  go_wp2_with (first | (go_at_call 55; (fail_if_success (guard_hyp hone)); refine (rDigitsV s i a hs hi hd _).mono ?_; rintro e w' ⟨rfl, hw'⟩; subst w'; have hone : True := True.intro) | (go_at_call 55; refine (rDigitsV s c d hs hcs hdd _).mono ?_; rintro e w' ⟨rfl, hw'⟩; subst w'))
  have hne := HN.out
  have hne2 : ¬ w.heap.size = W1.heap.size := fun h => hne h.symm
  go_region_held2 (fun w' => w'.cell? ⟨W1.heap.size, 0, none⟩ = some (.int .i64 i) ∧ w'.cell? ⟨W1.heap.size, 1, none⟩ = some (.int .i64 (a : Nat)) ∧ w'.cell? ⟨W1.heap.size, 2, none⟩ = some (.int .i64 (-1)) ∧ w'.cell? ⟨W1.heap.size, 3, none⟩ = some (.int .i64 (a : Nat)) ∧ w'.cell? ⟨W1.heap.size, 4, none⟩ = some (.int .i64 (c : Nat)) ∧ w'.cell? ⟨W1.heap.size, 5, none⟩ = some (.int .i64 (d : Nat))) (go_keep) (fail)
  all_goals go_wp2
  all_goals refine ret_c3 (g := w.heap.size) (cs := #[.int .i64 i, .int .i64 (a : Nat), .int .i64 (-1), .int .i64 (a : Nat), .int .i64 (c : Nat), .int .i64 (d : Nat)]) rfl hfs info6 rfl (bo6 BR6).dr rfl ⟨rfl, gb_drew (gb6 G6 (Nat.le_refl _))⟩

set_option maxHeartbeats 1000000 in
theorem rtakes_u45y (s : ByteArray) (i : Nat) (hs : s.size ≤ maxLen) (hi : i ≤ s.size) (w : World) (a : Nat) (hd : Hid (Tp.dg s i = a)) (hn : ((a : Int) == (i : Int)) = false) (ha : a ≤ s.size) (hlb : a < s.size) (n42 : ((Sc.bt s a : Int) == 42) = false) (n43 : ((Sc.bt s a : Int) == 43) = false) (n45 : ((Sc.bt s a : Int) == 45) = true) (c : Nat) (hc : Hid (a + 1 = c)) (d : Nat) (hdd : Hid (Tp.dg s c = d)) (hcd : ((d : Int) == (c : Int)) = false) : Calls Tryd.prog 46 #[.string s, .int .i64 i, .bool true] w fun e w' => e = .returned (.tuple #[.agg #[.int .i64 i, .int .i64 (a : Nat), .int .i64 (-1), .int .i64 (a : Nat), .int .i64 (c : Nat), .int .i64 (d : Nat)], .int .i64 (d : Nat), .int .i64 0]) ∧ w.grownBy w' none := by
  obtain ⟨fs, hfs⟩ := under6
  have hbb := Sc.bt_at hlb
  have hlb' : (a : Int) < (s.size : Int) := by omega
  have hwc : IntKind.i64.wrap ((a : Int) + 1) = (c : Int) := by have := hc.out; unfold maxLen at hs; rw [IntKind.wrap_i64]; omega
  have hcs : c ≤ s.size := by have := hc.out; omega
  obtain ⟨W1, hW1, sz1, g1, B1⟩ := boxn w #[.int .i64 0, .int .i64 0, .int .i64 0, .int .i64 0, .int .i64 0, .int .i64 0] 60
  obtain ⟨W2, hW2, sz2, g2, B2⟩ := boxn W1 #[.int .i64 i, .int .i64 0, .int .i64 (-1), .int .i64 (-1), .int .i64 0, .int .i64 0] 60
  have BR2 := B1.kept g2 (by simp)
  have G2 := gb_trans g1 g2
  have HN : Hid (W1.heap.size ≠ w.heap.size) := by have := sz1.out; unfold Hid; omega
  have z0 := B2.same 0 (v := .int .i64 i) rfl
  have z1 := B2.same 1 (v := .int .i64 0) rfl
  have z2 := B2.same 2 (v := .int .i64 (-1)) rfl
  have z3 := B2.same 3 (v := .int .i64 (-1)) rfl
  have z4 := B2.same 4 (v := .int .i64 0) rfl
  have z5 := B2.same 5 (v := .int .i64 0) rfl
  have a_0 := B2.cell 0 (v := .int .i64 i) rfl
  have a_1 := B2.cell 1 (v := .int .i64 0) rfl
  have a_2 := B2.cell 2 (v := .int .i64 (-1)) rfl
  have a_3 := B2.cell 3 (v := .int .i64 (-1)) rfl
  have a_4 := B2.cell 4 (v := .int .i64 0) rfl
  have a_5 := B2.cell 5 (v := .int .i64 0) rfl
  have b_0 := B2.frozen 0
  have b_1 := B2.frozen 1
  have b_2 := B2.frozen 2
  have b_3 := B2.frozen 3
  have b_4 := B2.frozen 4
  have b_5 := B2.frozen 5
  obtain ⟨W3, hW3⟩ : ∃ W3, W2.setCell ⟨W1.heap.size, 1, none⟩ (.int .i64 (a : Nat)) = W3 := ⟨_, rfl⟩
  have B3 : Bo W3 W1.heap.size 60 #[.int .i64 i, .int .i64 (a : Nat), .int .i64 (-1), .int .i64 (-1), .int .i64 0, .int .i64 0] := by
    rw [← hW3]
    have h9 := B2.set 1 (.int .i64 (a : Nat))
    simpa using h9
  have BR3 : Bo W3 w.heap.size 60 #[.int .i64 0, .int .i64 0, .int .i64 0, .int .i64 0, .int .i64 0, .int .i64 0] := by rw [← hW3]; exact BR2.set2 HN.out
  have G3 : w.grownBy W3 none := by rw [← hW3]; exact gb_new G2 g1.size _
  have c_0 := B3.cell 0 (v := .int .i64 i) rfl
  have c_1 := B3.cell 1 (v := .int .i64 (a : Nat)) rfl
  have c_2 := B3.cell 2 (v := .int .i64 (-1)) rfl
  have c_3 := B3.cell 3 (v := .int .i64 (-1)) rfl
  have c_4 := B3.cell 4 (v := .int .i64 0) rfl
  have c_5 := B3.cell 5 (v := .int .i64 0) rfl
  have q_0 := B3.frozen 0
  have q_1 := B3.frozen 1
  have q_2 := B3.frozen 2
  have q_3 := B3.frozen 3
  have q_4 := B3.frozen 4
  have q_5 := B3.frozen 5
  obtain ⟨W4, hW4⟩ : ∃ W4, W3.setCell ⟨W1.heap.size, 3, none⟩ (.int .i64 (a : Nat)) = W4 := ⟨_, rfl⟩
  have B4 : Bo W4 W1.heap.size 60 #[.int .i64 i, .int .i64 (a : Nat), .int .i64 (-1), .int .i64 (a : Nat), .int .i64 0, .int .i64 0] := by
    rw [← hW4]
    have h9 := B3.set 3 (.int .i64 (a : Nat))
    simpa using h9
  have BR4 : Bo W4 w.heap.size 60 #[.int .i64 0, .int .i64 0, .int .i64 0, .int .i64 0, .int .i64 0, .int .i64 0] := by rw [← hW4]; exact BR3.set2 HN.out
  have G4 : w.grownBy W4 none := by rw [← hW4]; exact gb_new G3 g1.size _
  have c4_0 := B4.cell 0 (v := .int .i64 i) rfl
  have c4_1 := B4.cell 1 (v := .int .i64 (a : Nat)) rfl
  have c4_2 := B4.cell 2 (v := .int .i64 (-1)) rfl
  have c4_3 := B4.cell 3 (v := .int .i64 (a : Nat)) rfl
  have c4_4 := B4.cell 4 (v := .int .i64 0) rfl
  have c4_5 := B4.cell 5 (v := .int .i64 0) rfl
  have q4_0 := B4.frozen 0
  have q4_1 := B4.frozen 1
  have q4_2 := B4.frozen 2
  have q4_3 := B4.frozen 3
  have q4_4 := B4.frozen 4
  have q4_5 := B4.frozen 5
  obtain ⟨W5, hW5⟩ : ∃ W5, W4.setCell ⟨W1.heap.size, 4, none⟩ (.int .i64 (c : Nat)) = W5 := ⟨_, rfl⟩
  have B5 : Bo W5 W1.heap.size 60 #[.int .i64 i, .int .i64 (a : Nat), .int .i64 (-1), .int .i64 (a : Nat), .int .i64 (c : Nat), .int .i64 0] := by
    rw [← hW5]
    have h9 := B4.set 4 (.int .i64 (c : Nat))
    simpa using h9
  have BR5 : Bo W5 w.heap.size 60 #[.int .i64 0, .int .i64 0, .int .i64 0, .int .i64 0, .int .i64 0, .int .i64 0] := by rw [← hW5]; exact BR4.set2 HN.out
  have G5 : w.grownBy W5 none := by rw [← hW5]; exact gb_new G4 g1.size _
  have c5_0 := B5.cell 0 (v := .int .i64 i) rfl
  have c5_1 := B5.cell 1 (v := .int .i64 (a : Nat)) rfl
  have c5_2 := B5.cell 2 (v := .int .i64 (-1)) rfl
  have c5_3 := B5.cell 3 (v := .int .i64 (a : Nat)) rfl
  have c5_4 := B5.cell 4 (v := .int .i64 (c : Nat)) rfl
  have c5_5 := B5.cell 5 (v := .int .i64 0) rfl
  have q5_0 := B5.frozen 0
  have q5_1 := B5.frozen 1
  have q5_2 := B5.frozen 2
  have q5_3 := B5.frozen 3
  have q5_4 := B5.frozen 4
  have q5_5 := B5.frozen 5
  obtain ⟨W6, hW6⟩ : ∃ W6, W5.setCell ⟨W1.heap.size, 5, none⟩ (.int .i64 (d : Nat)) = W6 := ⟨_, rfl⟩
  have B6 : Bo W6 W1.heap.size 60 #[.int .i64 i, .int .i64 (a : Nat), .int .i64 (-1), .int .i64 (a : Nat), .int .i64 (c : Nat), .int .i64 (d : Nat)] := by
    rw [← hW6]
    have h9 := B5.set 5 (.int .i64 (d : Nat))
    simpa using h9
  have BR6 : Bo W6 w.heap.size 60 #[.int .i64 0, .int .i64 0, .int .i64 0, .int .i64 0, .int .i64 0, .int .i64 0] := by rw [← hW6]; exact BR5.set2 HN.out
  have G6 : w.grownBy W6 none := by rw [← hW6]; exact gb_new G5 g1.size _
  have c6_0 := B6.cell 0 (v := .int .i64 i) rfl
  have c6_1 := B6.cell 1 (v := .int .i64 (a : Nat)) rfl
  have c6_2 := B6.cell 2 (v := .int .i64 (-1)) rfl
  have c6_3 := B6.cell 3 (v := .int .i64 (a : Nat)) rfl
  have c6_4 := B6.cell 4 (v := .int .i64 (c : Nat)) rfl
  have c6_5 := B6.cell 5 (v := .int .i64 (d : Nat)) rfl
  have q6_0 := B6.frozen 0
  have q6_1 := B6.frozen 1
  have q6_2 := B6.frozen 2
  have q6_3 := B6.frozen 3
  have q6_4 := B6.frozen 4
  have q6_5 := B6.frozen 5
  have d_0 := BR6.cell 0 (v := .int .i64 0) rfl
  have d_1 := BR6.cell 1 (v := .int .i64 0) rfl
  have d_2 := BR6.cell 2 (v := .int .i64 0) rfl
  have d_3 := BR6.cell 3 (v := .int .i64 0) rfl
  have d_4 := BR6.cell 4 (v := .int .i64 0) rfl
  have d_5 := BR6.cell 5 (v := .int .i64 0) rfl
  have f_0 := BR6.frozen 0
  have f_1 := BR6.frozen 1
  have f_2 := BR6.frozen 2
  have f_3 := BR6.frozen 3
  have f_4 := BR6.frozen 4
  have f_5 := BR6.frozen 5
  go_enter Tryd.func46, Tryd.ntmps46
  go_wp2_with (first | (go_at_call 55; (fail_if_success (guard_hyp hone)); refine (rDigitsV s i a hs hi hd _).mono ?_; rintro e w' ⟨rfl, hw'⟩; subst w'; have hone : True := True.intro) | (go_at_call 55; refine (rDigitsV s c d hs hcs hdd _).mono ?_; rintro e w' ⟨rfl, hw'⟩; subst w'))
  refine ret_c3 (g := w.heap.size) (cs := #[.int .i64 i, .int .i64 (a : Nat), .int .i64 (-1), .int .i64 (a : Nat), .int .i64 (c : Nat), .int .i64 (d : Nat)]) rfl hfs info6 rfl (bo6 BR6) rfl ⟨rfl, gb6 G6 (Nat.le_refl _)⟩

set_option maxHeartbeats 1000000 in
theorem rtakes_se (s : ByteArray) (i : Nat) (hs : s.size ≤ maxLen) (hi : i ≤ s.size) (w : World) (a : Nat) (hd : Hid (Tp.dg s i = a)) (hn : ((a : Int) == (i : Int)) = false) (ha : a ≤ s.size) (hst : (Sc.bt s a : Int) = 42) (hla : a < s.size) (a2 : Nat) (ha2 : Hid (a + 1 = a2)) (hb2 : a2 ≤ s.size) (hend : ¬ (a2 : Int) < (s.size : Int)) : Calls Tryd.prog 46 #[.string s, .int .i64 i, .bool true] w fun e w' => e = .returned (.tuple #[.agg #[.int .i64 i, .int .i64 (a : Nat), .int .i64 (a : Nat), .int .i64 (-1), .int .i64 0, .int .i64 0], .int .i64 (a2 : Nat), .int .i64 0]) ∧ w.grownBy w' none := by
  obtain ⟨fs, hfs⟩ := under6
  have hba := Sc.bt_at hla
  have hla' : (a : Int) < (s.size : Int) := by omega
  have hq42 : ((Sc.bt s a : Int) == 42) = true := by simp [hst]
  have hw2 : IntKind.i64.wrap ((a : Int) + 1) = (a2 : Int) := by have := ha2.out; unfold maxLen at hs; rw [IntKind.wrap_i64]; omega
  clear hst
  obtain ⟨W1, hW1, sz1, g1, B1⟩ := boxn w #[.int .i64 0, .int .i64 0, .int .i64 0, .int .i64 0, .int .i64 0, .int .i64 0] 60
  obtain ⟨W2, hW2, sz2, g2, B2⟩ := boxn W1 #[.int .i64 i, .int .i64 0, .int .i64 (-1), .int .i64 (-1), .int .i64 0, .int .i64 0] 60
  have BR2 := B1.kept g2 (by simp)
  have G2 := gb_trans g1 g2
  have HN : Hid (W1.heap.size ≠ w.heap.size) := by have := sz1.out; unfold Hid; omega
  have z0 := B2.same 0 (v := .int .i64 i) rfl
  have z1 := B2.same 1 (v := .int .i64 0) rfl
  have z2 := B2.same 2 (v := .int .i64 (-1)) rfl
  have z3 := B2.same 3 (v := .int .i64 (-1)) rfl
  have z4 := B2.same 4 (v := .int .i64 0) rfl
  have z5 := B2.same 5 (v := .int .i64 0) rfl
  have a_0 := B2.cell 0 (v := .int .i64 i) rfl
  have a_1 := B2.cell 1 (v := .int .i64 0) rfl
  have a_2 := B2.cell 2 (v := .int .i64 (-1)) rfl
  have a_3 := B2.cell 3 (v := .int .i64 (-1)) rfl
  have a_4 := B2.cell 4 (v := .int .i64 0) rfl
  have a_5 := B2.cell 5 (v := .int .i64 0) rfl
  have b_0 := B2.frozen 0
  have b_1 := B2.frozen 1
  have b_2 := B2.frozen 2
  have b_3 := B2.frozen 3
  have b_4 := B2.frozen 4
  have b_5 := B2.frozen 5
  obtain ⟨W3, hW3⟩ : ∃ W3, W2.setCell ⟨W1.heap.size, 1, none⟩ (.int .i64 (a : Nat)) = W3 := ⟨_, rfl⟩
  have B3 : Bo W3 W1.heap.size 60 #[.int .i64 i, .int .i64 (a : Nat), .int .i64 (-1), .int .i64 (-1), .int .i64 0, .int .i64 0] := by
    rw [← hW3]
    have h9 := B2.set 1 (.int .i64 (a : Nat))
    simpa using h9
  have BR3 : Bo W3 w.heap.size 60 #[.int .i64 0, .int .i64 0, .int .i64 0, .int .i64 0, .int .i64 0, .int .i64 0] := by rw [← hW3]; exact BR2.set2 HN.out
  have G3 : w.grownBy W3 none := by rw [← hW3]; exact gb_new G2 g1.size _
  have c_0 := B3.cell 0 (v := .int .i64 i) rfl
  have c_1 := B3.cell 1 (v := .int .i64 (a : Nat)) rfl
  have c_2 := B3.cell 2 (v := .int .i64 (-1)) rfl
  have c_3 := B3.cell 3 (v := .int .i64 (-1)) rfl
  have c_4 := B3.cell 4 (v := .int .i64 0) rfl
  have c_5 := B3.cell 5 (v := .int .i64 0) rfl
  have q_0 := B3.frozen 0
  have q_1 := B3.frozen 1
  have q_2 := B3.frozen 2
  have q_3 := B3.frozen 3
  have q_4 := B3.frozen 4
  have q_5 := B3.frozen 5
  obtain ⟨W4, hW4⟩ : ∃ W4, W3.setCell ⟨W1.heap.size, 2, none⟩ (.int .i64 (a : Nat)) = W4 := ⟨_, rfl⟩
  have B4 : Bo W4 W1.heap.size 60 #[.int .i64 i, .int .i64 (a : Nat), .int .i64 (a : Nat), .int .i64 (-1), .int .i64 0, .int .i64 0] := by
    rw [← hW4]
    have h9 := B3.set 2 (.int .i64 (a : Nat))
    simpa using h9
  have BR4 : Bo W4 w.heap.size 60 #[.int .i64 0, .int .i64 0, .int .i64 0, .int .i64 0, .int .i64 0, .int .i64 0] := by rw [← hW4]; exact BR3.set2 HN.out
  have G4 : w.grownBy W4 none := by rw [← hW4]; exact gb_new G3 g1.size _
  have c4_0 := B4.cell 0 (v := .int .i64 i) rfl
  have c4_1 := B4.cell 1 (v := .int .i64 (a : Nat)) rfl
  have c4_2 := B4.cell 2 (v := .int .i64 (a : Nat)) rfl
  have c4_3 := B4.cell 3 (v := .int .i64 (-1)) rfl
  have c4_4 := B4.cell 4 (v := .int .i64 0) rfl
  have c4_5 := B4.cell 5 (v := .int .i64 0) rfl
  have q4_0 := B4.frozen 0
  have q4_1 := B4.frozen 1
  have q4_2 := B4.frozen 2
  have q4_3 := B4.frozen 3
  have q4_4 := B4.frozen 4
  have q4_5 := B4.frozen 5
  have d_0 := BR4.cell 0 (v := .int .i64 0) rfl
  have d_1 := BR4.cell 1 (v := .int .i64 0) rfl
  have d_2 := BR4.cell 2 (v := .int .i64 0) rfl
  have d_3 := BR4.cell 3 (v := .int .i64 0) rfl
  have d_4 := BR4.cell 4 (v := .int .i64 0) rfl
  have d_5 := BR4.cell 5 (v := .int .i64 0) rfl
  have f_0 := BR4.frozen 0
  have f_1 := BR4.frozen 1
  have f_2 := BR4.frozen 2
  have f_3 := BR4.frozen 3
  have f_4 := BR4.frozen 4
  have f_5 := BR4.frozen 5
  go_enter Tryd.func46, Tryd.ntmps46
  go_wp2_with (first | (go_at_call 55; (fail_if_success (guard_hyp hone)); refine (rDigitsV s i a hs hi hd _).mono ?_; rintro e w' ⟨rfl, hw'⟩; subst w'; have hone : True := True.intro))
  refine ret_c3 (g := w.heap.size) (cs := #[.int .i64 i, .int .i64 (a : Nat), .int .i64 (a : Nat), .int .i64 (-1), .int .i64 0, .int .i64 0]) rfl hfs info6 rfl (bo6 BR4) rfl ⟨rfl, gb6 G4 (Nat.le_refl _)⟩

set_option maxHeartbeats 1000000 in
theorem rtakes_sn (s : ByteArray) (i : Nat) (hs : s.size ≤ maxLen) (hi : i ≤ s.size) (w : World) (a : Nat) (hd : Hid (Tp.dg s i = a)) (hn : ((a : Int) == (i : Int)) = false) (ha : a ≤ s.size) (hst : (Sc.bt s a : Int) = 42) (hla : a < s.size) (a2 : Nat) (ha2 : Hid (a + 1 = a2)) (hb2 : a2 ≤ s.size) (hlb : a2 < s.size) (n43 : ((Sc.bt s a2 : Int) == 43) = false) (n45 : ((Sc.bt s a2 : Int) == 45) = false) : Calls Tryd.prog 46 #[.string s, .int .i64 i, .bool true] w fun e w' => e = .returned (.tuple #[.agg #[.int .i64 i, .int .i64 (a : Nat), .int .i64 (a : Nat), .int .i64 (-1), .int .i64 0, .int .i64 0], .int .i64 (a2 : Nat), .int .i64 0]) ∧ w.grownBy w' none := by
  obtain ⟨fs, hfs⟩ := under6
  have hba := Sc.bt_at hla
  have hla' : (a : Int) < (s.size : Int) := by omega
  have hq42 : ((Sc.bt s a : Int) == 42) = true := by simp [hst]
  have hw2 : IntKind.i64.wrap ((a : Int) + 1) = (a2 : Int) := by have := ha2.out; unfold maxLen at hs; rw [IntKind.wrap_i64]; omega
  clear hst
  have hbb := Sc.bt_at hlb
  have hlb' : (a2 : Int) < (s.size : Int) := by omega
  obtain ⟨W1, hW1, sz1, g1, B1⟩ := boxn w #[.int .i64 0, .int .i64 0, .int .i64 0, .int .i64 0, .int .i64 0, .int .i64 0] 60
  obtain ⟨W2, hW2, sz2, g2, B2⟩ := boxn W1 #[.int .i64 i, .int .i64 0, .int .i64 (-1), .int .i64 (-1), .int .i64 0, .int .i64 0] 60
  have BR2 := B1.kept g2 (by simp)
  have G2 := gb_trans g1 g2
  have HN : Hid (W1.heap.size ≠ w.heap.size) := by have := sz1.out; unfold Hid; omega
  have z0 := B2.same 0 (v := .int .i64 i) rfl
  have z1 := B2.same 1 (v := .int .i64 0) rfl
  have z2 := B2.same 2 (v := .int .i64 (-1)) rfl
  have z3 := B2.same 3 (v := .int .i64 (-1)) rfl
  have z4 := B2.same 4 (v := .int .i64 0) rfl
  have z5 := B2.same 5 (v := .int .i64 0) rfl
  have a_0 := B2.cell 0 (v := .int .i64 i) rfl
  have a_1 := B2.cell 1 (v := .int .i64 0) rfl
  have a_2 := B2.cell 2 (v := .int .i64 (-1)) rfl
  have a_3 := B2.cell 3 (v := .int .i64 (-1)) rfl
  have a_4 := B2.cell 4 (v := .int .i64 0) rfl
  have a_5 := B2.cell 5 (v := .int .i64 0) rfl
  have b_0 := B2.frozen 0
  have b_1 := B2.frozen 1
  have b_2 := B2.frozen 2
  have b_3 := B2.frozen 3
  have b_4 := B2.frozen 4
  have b_5 := B2.frozen 5
  obtain ⟨W3, hW3⟩ : ∃ W3, W2.setCell ⟨W1.heap.size, 1, none⟩ (.int .i64 (a : Nat)) = W3 := ⟨_, rfl⟩
  have B3 : Bo W3 W1.heap.size 60 #[.int .i64 i, .int .i64 (a : Nat), .int .i64 (-1), .int .i64 (-1), .int .i64 0, .int .i64 0] := by
    rw [← hW3]
    have h9 := B2.set 1 (.int .i64 (a : Nat))
    simpa using h9
  have BR3 : Bo W3 w.heap.size 60 #[.int .i64 0, .int .i64 0, .int .i64 0, .int .i64 0, .int .i64 0, .int .i64 0] := by rw [← hW3]; exact BR2.set2 HN.out
  have G3 : w.grownBy W3 none := by rw [← hW3]; exact gb_new G2 g1.size _
  have c_0 := B3.cell 0 (v := .int .i64 i) rfl
  have c_1 := B3.cell 1 (v := .int .i64 (a : Nat)) rfl
  have c_2 := B3.cell 2 (v := .int .i64 (-1)) rfl
  have c_3 := B3.cell 3 (v := .int .i64 (-1)) rfl
  have c_4 := B3.cell 4 (v := .int .i64 0) rfl
  have c_5 := B3.cell 5 (v := .int .i64 0) rfl
  have q_0 := B3.frozen 0
  have q_1 := B3.frozen 1
  have q_2 := B3.frozen 2
  have q_3 := B3.frozen 3
  have q_4 := B3.frozen 4
  have q_5 := B3.frozen 5
  obtain ⟨W4, hW4⟩ : ∃ W4, W3.setCell ⟨W1.heap.size, 2, none⟩ (.int .i64 (a : Nat)) = W4 := ⟨_, rfl⟩
  have B4 : Bo W4 W1.heap.size 60 #[.int .i64 i, .int .i64 (a : Nat), .int .i64 (a : Nat), .int .i64 (-1), .int .i64 0, .int .i64 0] := by
    rw [← hW4]
    have h9 := B3.set 2 (.int .i64 (a : Nat))
    simpa using h9
  have BR4 : Bo W4 w.heap.size 60 #[.int .i64 0, .int .i64 0, .int .i64 0, .int .i64 0, .int .i64 0, .int .i64 0] := by rw [← hW4]; exact BR3.set2 HN.out
  have G4 : w.grownBy W4 none := by rw [← hW4]; exact gb_new G3 g1.size _
  have c4_0 := B4.cell 0 (v := .int .i64 i) rfl
  have c4_1 := B4.cell 1 (v := .int .i64 (a : Nat)) rfl
  have c4_2 := B4.cell 2 (v := .int .i64 (a : Nat)) rfl
  have c4_3 := B4.cell 3 (v := .int .i64 (-1)) rfl
  have c4_4 := B4.cell 4 (v := .int .i64 0) rfl
  have c4_5 := B4.cell 5 (v := .int .i64 0) rfl
  have q4_0 := B4.frozen 0
  have q4_1 := B4.frozen 1
  have q4_2 := B4.frozen 2
  have q4_3 := B4.frozen 3
  have q4_4 := B4.frozen 4
  have q4_5 := B4.frozen 5
  have d_0 := BR4.cell 0 (v := .int .i64 0) rfl
  have d_1 := BR4.cell 1 (v := .int .i64 0) rfl
  have d_2 := BR4.cell 2 (v := .int .i64 0) rfl
  have d_3 := BR4.cell 3 (v := .int .i64 0) rfl
  have d_4 := BR4.cell 4 (v := .int .i64 0) rfl
  have d_5 := BR4.cell 5 (v := .int .i64 0) rfl
  have f_0 := BR4.frozen 0
  have f_1 := BR4.frozen 1
  have f_2 := BR4.frozen 2
  have f_3 := BR4.frozen 3
  have f_4 := BR4.frozen 4
  have f_5 := BR4.frozen 5
  go_enter Tryd.func46, Tryd.ntmps46
  go_wp2_with (first | (go_at_call 55; (fail_if_success (guard_hyp hone)); refine (rDigitsV s i a hs hi hd _).mono ?_; rintro e w' ⟨rfl, hw'⟩; subst w'; have hone : True := True.intro))
  refine ret_c3 (g := w.heap.size) (cs := #[.int .i64 i, .int .i64 (a : Nat), .int .i64 (a : Nat), .int .i64 (-1), .int .i64 0, .int .i64 0]) rfl hfs info6 rfl (bo6 BR4) rfl ⟨rfl, gb6 G4 (Nat.le_refl _)⟩

set_option maxHeartbeats 1000000 in
theorem rtakes_s43n (s : ByteArray) (i : Nat) (hs : s.size ≤ maxLen) (hi : i ≤ s.size) (w : World) (a : Nat) (hd : Hid (Tp.dg s i = a)) (hn : ((a : Int) == (i : Int)) = false) (ha : a ≤ s.size) (hst : (Sc.bt s a : Int) = 42) (hla : a < s.size) (a2 : Nat) (ha2 : Hid (a + 1 = a2)) (hb2 : a2 ≤ s.size) (hlb : a2 < s.size) (n43 : ((Sc.bt s a2 : Int) == 43) = true) (c : Nat) (hc : Hid (a2 + 1 = c)) (d : Nat) (hdd : Hid (Tp.dg s c = d)) (hcd : ((d : Int) == (c : Int)) = true) : Calls Tryd.prog 46 #[.string s, .int .i64 i, .bool true] w fun e w' => e = .returned (.tuple #[.agg #[.int .i64 i, .int .i64 (a : Nat), .int .i64 (a : Nat), .int .i64 (a2 : Nat), .int .i64 (c : Nat), .int .i64 (d : Nat)], .int .i64 (c : Nat), .int .i64 43]) ∧ w.grownBy w' none := by
  obtain ⟨fs, hfs⟩ := under6
  have hba := Sc.bt_at hla
  have hla' : (a : Int) < (s.size : Int) := by omega
  have hq42 : ((Sc.bt s a : Int) == 42) = true := by simp [hst]
  have hw2 : IntKind.i64.wrap ((a : Int) + 1) = (a2 : Int) := by have := ha2.out; unfold maxLen at hs; rw [IntKind.wrap_i64]; omega
  clear hst
  have hbb := Sc.bt_at hlb
  have hlb' : (a2 : Int) < (s.size : Int) := by omega
  have hwc : IntKind.i64.wrap ((a2 : Int) + 1) = (c : Int) := by have := hc.out; unfold maxLen at hs; rw [IntKind.wrap_i64]; omega
  have hcs : c ≤ s.size := by have := hc.out; omega
  obtain ⟨W1, hW1, sz1, g1, B1⟩ := boxn w #[.int .i64 0, .int .i64 0, .int .i64 0, .int .i64 0, .int .i64 0, .int .i64 0] 60
  obtain ⟨W2, hW2, sz2, g2, B2⟩ := boxn W1 #[.int .i64 i, .int .i64 0, .int .i64 (-1), .int .i64 (-1), .int .i64 0, .int .i64 0] 60
  have BR2 := B1.kept g2 (by simp)
  have G2 := gb_trans g1 g2
  have HN : Hid (W1.heap.size ≠ w.heap.size) := by have := sz1.out; unfold Hid; omega
  have z0 := B2.same 0 (v := .int .i64 i) rfl
  have z1 := B2.same 1 (v := .int .i64 0) rfl
  have z2 := B2.same 2 (v := .int .i64 (-1)) rfl
  have z3 := B2.same 3 (v := .int .i64 (-1)) rfl
  have z4 := B2.same 4 (v := .int .i64 0) rfl
  have z5 := B2.same 5 (v := .int .i64 0) rfl
  have a_0 := B2.cell 0 (v := .int .i64 i) rfl
  have a_1 := B2.cell 1 (v := .int .i64 0) rfl
  have a_2 := B2.cell 2 (v := .int .i64 (-1)) rfl
  have a_3 := B2.cell 3 (v := .int .i64 (-1)) rfl
  have a_4 := B2.cell 4 (v := .int .i64 0) rfl
  have a_5 := B2.cell 5 (v := .int .i64 0) rfl
  have b_0 := B2.frozen 0
  have b_1 := B2.frozen 1
  have b_2 := B2.frozen 2
  have b_3 := B2.frozen 3
  have b_4 := B2.frozen 4
  have b_5 := B2.frozen 5
  obtain ⟨W3, hW3⟩ : ∃ W3, W2.setCell ⟨W1.heap.size, 1, none⟩ (.int .i64 (a : Nat)) = W3 := ⟨_, rfl⟩
  have B3 : Bo W3 W1.heap.size 60 #[.int .i64 i, .int .i64 (a : Nat), .int .i64 (-1), .int .i64 (-1), .int .i64 0, .int .i64 0] := by
    rw [← hW3]
    have h9 := B2.set 1 (.int .i64 (a : Nat))
    simpa using h9
  have BR3 : Bo W3 w.heap.size 60 #[.int .i64 0, .int .i64 0, .int .i64 0, .int .i64 0, .int .i64 0, .int .i64 0] := by rw [← hW3]; exact BR2.set2 HN.out
  have G3 : w.grownBy W3 none := by rw [← hW3]; exact gb_new G2 g1.size _
  have c_0 := B3.cell 0 (v := .int .i64 i) rfl
  have c_1 := B3.cell 1 (v := .int .i64 (a : Nat)) rfl
  have c_2 := B3.cell 2 (v := .int .i64 (-1)) rfl
  have c_3 := B3.cell 3 (v := .int .i64 (-1)) rfl
  have c_4 := B3.cell 4 (v := .int .i64 0) rfl
  have c_5 := B3.cell 5 (v := .int .i64 0) rfl
  have q_0 := B3.frozen 0
  have q_1 := B3.frozen 1
  have q_2 := B3.frozen 2
  have q_3 := B3.frozen 3
  have q_4 := B3.frozen 4
  have q_5 := B3.frozen 5
  obtain ⟨W4, hW4⟩ : ∃ W4, W3.setCell ⟨W1.heap.size, 2, none⟩ (.int .i64 (a : Nat)) = W4 := ⟨_, rfl⟩
  have B4 : Bo W4 W1.heap.size 60 #[.int .i64 i, .int .i64 (a : Nat), .int .i64 (a : Nat), .int .i64 (-1), .int .i64 0, .int .i64 0] := by
    rw [← hW4]
    have h9 := B3.set 2 (.int .i64 (a : Nat))
    simpa using h9
  have BR4 : Bo W4 w.heap.size 60 #[.int .i64 0, .int .i64 0, .int .i64 0, .int .i64 0, .int .i64 0, .int .i64 0] := by rw [← hW4]; exact BR3.set2 HN.out
  have G4 : w.grownBy W4 none := by rw [← hW4]; exact gb_new G3 g1.size _
  have c4_0 := B4.cell 0 (v := .int .i64 i) rfl
  have c4_1 := B4.cell 1 (v := .int .i64 (a : Nat)) rfl
  have c4_2 := B4.cell 2 (v := .int .i64 (a : Nat)) rfl
  have c4_3 := B4.cell 3 (v := .int .i64 (-1)) rfl
  have c4_4 := B4.cell 4 (v := .int .i64 0) rfl
  have c4_5 := B4.cell 5 (v := .int .i64 0) rfl
  have q4_0 := B4.frozen 0
  have q4_1 := B4.frozen 1
  have q4_2 := B4.frozen 2
  have q4_3 := B4.frozen 3
  have q4_4 := B4.frozen 4
  have q4_5 := B4.frozen 5
  obtain ⟨W5, hW5⟩ : ∃ W5, W4.setCell ⟨W1.heap.size, 3, none⟩ (.int .i64 (a2 : Nat)) = W5 := ⟨_, rfl⟩
  have B5 : Bo W5 W1.heap.size 60 #[.int .i64 i, .int .i64 (a : Nat), .int .i64 (a : Nat), .int .i64 (a2 : Nat), .int .i64 0, .int .i64 0] := by
    rw [← hW5]
    have h9 := B4.set 3 (.int .i64 (a2 : Nat))
    simpa using h9
  have BR5 : Bo W5 w.heap.size 60 #[.int .i64 0, .int .i64 0, .int .i64 0, .int .i64 0, .int .i64 0, .int .i64 0] := by rw [← hW5]; exact BR4.set2 HN.out
  have G5 : w.grownBy W5 none := by rw [← hW5]; exact gb_new G4 g1.size _
  have c5_0 := B5.cell 0 (v := .int .i64 i) rfl
  have c5_1 := B5.cell 1 (v := .int .i64 (a : Nat)) rfl
  have c5_2 := B5.cell 2 (v := .int .i64 (a : Nat)) rfl
  have c5_3 := B5.cell 3 (v := .int .i64 (a2 : Nat)) rfl
  have c5_4 := B5.cell 4 (v := .int .i64 0) rfl
  have c5_5 := B5.cell 5 (v := .int .i64 0) rfl
  have q5_0 := B5.frozen 0
  have q5_1 := B5.frozen 1
  have q5_2 := B5.frozen 2
  have q5_3 := B5.frozen 3
  have q5_4 := B5.frozen 4
  have q5_5 := B5.frozen 5
  obtain ⟨W6, hW6⟩ : ∃ W6, W5.setCell ⟨W1.heap.size, 4, none⟩ (.int .i64 (c : Nat)) = W6 := ⟨_, rfl⟩
  have B6 : Bo W6 W1.heap.size 60 #[.int .i64 i, .int .i64 (a : Nat), .int .i64 (a : Nat), .int .i64 (a2 : Nat), .int .i64 (c : Nat), .int .i64 0] := by
    rw [← hW6]
    have h9 := B5.set 4 (.int .i64 (c : Nat))
    simpa using h9
  have BR6 : Bo W6 w.heap.size 60 #[.int .i64 0, .int .i64 0, .int .i64 0, .int .i64 0, .int .i64 0, .int .i64 0] := by rw [← hW6]; exact BR5.set2 HN.out
  have G6 : w.grownBy W6 none := by rw [← hW6]; exact gb_new G5 g1.size _
  have c6_0 := B6.cell 0 (v := .int .i64 i) rfl
  have c6_1 := B6.cell 1 (v := .int .i64 (a : Nat)) rfl
  have c6_2 := B6.cell 2 (v := .int .i64 (a : Nat)) rfl
  have c6_3 := B6.cell 3 (v := .int .i64 (a2 : Nat)) rfl
  have c6_4 := B6.cell 4 (v := .int .i64 (c : Nat)) rfl
  have c6_5 := B6.cell 5 (v := .int .i64 0) rfl
  have q6_0 := B6.frozen 0
  have q6_1 := B6.frozen 1
  have q6_2 := B6.frozen 2
  have q6_3 := B6.frozen 3
  have q6_4 := B6.frozen 4
  have q6_5 := B6.frozen 5
  obtain ⟨W7, hW7⟩ : ∃ W7, W6.setCell ⟨W1.heap.size, 5, none⟩ (.int .i64 (d : Nat)) = W7 := ⟨_, rfl⟩
  have B7 : Bo W7 W1.heap.size 60 #[.int .i64 i, .int .i64 (a : Nat), .int .i64 (a : Nat), .int .i64 (a2 : Nat), .int .i64 (c : Nat), .int .i64 (d : Nat)] := by
    rw [← hW7]
    have h9 := B6.set 5 (.int .i64 (d : Nat))
    simpa using h9
  have BR7 : Bo W7 w.heap.size 60 #[.int .i64 0, .int .i64 0, .int .i64 0, .int .i64 0, .int .i64 0, .int .i64 0] := by rw [← hW7]; exact BR6.set2 HN.out
  have G7 : w.grownBy W7 none := by rw [← hW7]; exact gb_new G6 g1.size _
  have c7_0 := B7.cell 0 (v := .int .i64 i) rfl
  have c7_1 := B7.cell 1 (v := .int .i64 (a : Nat)) rfl
  have c7_2 := B7.cell 2 (v := .int .i64 (a : Nat)) rfl
  have c7_3 := B7.cell 3 (v := .int .i64 (a2 : Nat)) rfl
  have c7_4 := B7.cell 4 (v := .int .i64 (c : Nat)) rfl
  have c7_5 := B7.cell 5 (v := .int .i64 (d : Nat)) rfl
  have q7_0 := B7.frozen 0
  have q7_1 := B7.frozen 1
  have q7_2 := B7.frozen 2
  have q7_3 := B7.frozen 3
  have q7_4 := B7.frozen 4
  have q7_5 := B7.frozen 5
  have d_0 := BR7.cell 0 (v := .int .i64 0) rfl
  have d_1 := BR7.cell 1 (v := .int .i64 0) rfl
  have d_2 := BR7.cell 2 (v := .int .i64 0) rfl
  have d_3 := BR7.cell 3 (v := .int .i64 0) rfl
  have d_4 := BR7.cell 4 (v := .int .i64 0) rfl
  have d_5 := BR7.cell 5 (v := .int .i64 0) rfl
  have f_0 := BR7.frozen 0
  have f_1 := BR7.frozen 1
  have f_2 := BR7.frozen 2
  have f_3 := BR7.frozen 3
  have f_4 := BR7.frozen 4
  have f_5 := BR7.frozen 5
  go_enter Tryd.func46, Tryd.ntmps46
  go_wp2_with (first | (go_at_call 55; (fail_if_success (guard_hyp hone)); refine (rDigitsV s i a hs hi hd _).mono ?_; rintro e w' ⟨rfl, hw'⟩; subst w'; have hone : True := True.intro) | (go_at_call 55; refine (rDigitsV s c d hs hcs hdd _).mono ?_; rintro e w' ⟨rfl, hw'⟩; subst w'))
  have hne := HN.out
  have hne2 : ¬ w.heap.size = W1.heap.size := fun h => hne h.symm
  go_region_held2 (fun w' => w'.cell? ⟨W1.heap.size, 0, none⟩ = some (.int .i64 i) ∧ w'.cell? ⟨W1.heap.size, 1, none⟩ = some (.int .i64 (a : Nat)) ∧ w'.cell? ⟨W1.heap.size, 2, none⟩ = some (.int .i64 (a : Nat)) ∧ w'.cell? ⟨W1.heap.size, 3, none⟩ = some (.int .i64 (a2 : Nat)) ∧ w'.cell? ⟨W1.heap.size, 4, none⟩ = some (.int .i64 (c : Nat)) ∧ w'.cell? ⟨W1.heap.size, 5, none⟩ = some (.int .i64 (d : Nat))) (go_keep) (fail)
  all_goals go_wp2
  all_goals refine ret_c3 (g := w.heap.size) (cs := #[.int .i64 i, .int .i64 (a : Nat), .int .i64 (a : Nat), .int .i64 (a2 : Nat), .int .i64 (c : Nat), .int .i64 (d : Nat)]) rfl hfs info6 rfl (bo6 BR7).dr rfl ⟨rfl, gb_drew (gb6 G7 (Nat.le_refl _))⟩

set_option maxHeartbeats 1000000 in
theorem rtakes_s43y (s : ByteArray) (i : Nat) (hs : s.size ≤ maxLen) (hi : i ≤ s.size) (w : World) (a : Nat) (hd : Hid (Tp.dg s i = a)) (hn : ((a : Int) == (i : Int)) = false) (ha : a ≤ s.size) (hst : (Sc.bt s a : Int) = 42) (hla : a < s.size) (a2 : Nat) (ha2 : Hid (a + 1 = a2)) (hb2 : a2 ≤ s.size) (hlb : a2 < s.size) (n43 : ((Sc.bt s a2 : Int) == 43) = true) (c : Nat) (hc : Hid (a2 + 1 = c)) (d : Nat) (hdd : Hid (Tp.dg s c = d)) (hcd : ((d : Int) == (c : Int)) = false) : Calls Tryd.prog 46 #[.string s, .int .i64 i, .bool true] w fun e w' => e = .returned (.tuple #[.agg #[.int .i64 i, .int .i64 (a : Nat), .int .i64 (a : Nat), .int .i64 (a2 : Nat), .int .i64 (c : Nat), .int .i64 (d : Nat)], .int .i64 (d : Nat), .int .i64 0]) ∧ w.grownBy w' none := by
  obtain ⟨fs, hfs⟩ := under6
  have hba := Sc.bt_at hla
  have hla' : (a : Int) < (s.size : Int) := by omega
  have hq42 : ((Sc.bt s a : Int) == 42) = true := by simp [hst]
  have hw2 : IntKind.i64.wrap ((a : Int) + 1) = (a2 : Int) := by have := ha2.out; unfold maxLen at hs; rw [IntKind.wrap_i64]; omega
  clear hst
  have hbb := Sc.bt_at hlb
  have hlb' : (a2 : Int) < (s.size : Int) := by omega
  have hwc : IntKind.i64.wrap ((a2 : Int) + 1) = (c : Int) := by have := hc.out; unfold maxLen at hs; rw [IntKind.wrap_i64]; omega
  have hcs : c ≤ s.size := by have := hc.out; omega
  obtain ⟨W1, hW1, sz1, g1, B1⟩ := boxn w #[.int .i64 0, .int .i64 0, .int .i64 0, .int .i64 0, .int .i64 0, .int .i64 0] 60
  obtain ⟨W2, hW2, sz2, g2, B2⟩ := boxn W1 #[.int .i64 i, .int .i64 0, .int .i64 (-1), .int .i64 (-1), .int .i64 0, .int .i64 0] 60
  have BR2 := B1.kept g2 (by simp)
  have G2 := gb_trans g1 g2
  have HN : Hid (W1.heap.size ≠ w.heap.size) := by have := sz1.out; unfold Hid; omega
  have z0 := B2.same 0 (v := .int .i64 i) rfl
  have z1 := B2.same 1 (v := .int .i64 0) rfl
  have z2 := B2.same 2 (v := .int .i64 (-1)) rfl
  have z3 := B2.same 3 (v := .int .i64 (-1)) rfl
  have z4 := B2.same 4 (v := .int .i64 0) rfl
  have z5 := B2.same 5 (v := .int .i64 0) rfl
  have a_0 := B2.cell 0 (v := .int .i64 i) rfl
  have a_1 := B2.cell 1 (v := .int .i64 0) rfl
  have a_2 := B2.cell 2 (v := .int .i64 (-1)) rfl
  have a_3 := B2.cell 3 (v := .int .i64 (-1)) rfl
  have a_4 := B2.cell 4 (v := .int .i64 0) rfl
  have a_5 := B2.cell 5 (v := .int .i64 0) rfl
  have b_0 := B2.frozen 0
  have b_1 := B2.frozen 1
  have b_2 := B2.frozen 2
  have b_3 := B2.frozen 3
  have b_4 := B2.frozen 4
  have b_5 := B2.frozen 5
  obtain ⟨W3, hW3⟩ : ∃ W3, W2.setCell ⟨W1.heap.size, 1, none⟩ (.int .i64 (a : Nat)) = W3 := ⟨_, rfl⟩
  have B3 : Bo W3 W1.heap.size 60 #[.int .i64 i, .int .i64 (a : Nat), .int .i64 (-1), .int .i64 (-1), .int .i64 0, .int .i64 0] := by
    rw [← hW3]
    have h9 := B2.set 1 (.int .i64 (a : Nat))
    simpa using h9
  have BR3 : Bo W3 w.heap.size 60 #[.int .i64 0, .int .i64 0, .int .i64 0, .int .i64 0, .int .i64 0, .int .i64 0] := by rw [← hW3]; exact BR2.set2 HN.out
  have G3 : w.grownBy W3 none := by rw [← hW3]; exact gb_new G2 g1.size _
  have c_0 := B3.cell 0 (v := .int .i64 i) rfl
  have c_1 := B3.cell 1 (v := .int .i64 (a : Nat)) rfl
  have c_2 := B3.cell 2 (v := .int .i64 (-1)) rfl
  have c_3 := B3.cell 3 (v := .int .i64 (-1)) rfl
  have c_4 := B3.cell 4 (v := .int .i64 0) rfl
  have c_5 := B3.cell 5 (v := .int .i64 0) rfl
  have q_0 := B3.frozen 0
  have q_1 := B3.frozen 1
  have q_2 := B3.frozen 2
  have q_3 := B3.frozen 3
  have q_4 := B3.frozen 4
  have q_5 := B3.frozen 5
  obtain ⟨W4, hW4⟩ : ∃ W4, W3.setCell ⟨W1.heap.size, 2, none⟩ (.int .i64 (a : Nat)) = W4 := ⟨_, rfl⟩
  have B4 : Bo W4 W1.heap.size 60 #[.int .i64 i, .int .i64 (a : Nat), .int .i64 (a : Nat), .int .i64 (-1), .int .i64 0, .int .i64 0] := by
    rw [← hW4]
    have h9 := B3.set 2 (.int .i64 (a : Nat))
    simpa using h9
  have BR4 : Bo W4 w.heap.size 60 #[.int .i64 0, .int .i64 0, .int .i64 0, .int .i64 0, .int .i64 0, .int .i64 0] := by rw [← hW4]; exact BR3.set2 HN.out
  have G4 : w.grownBy W4 none := by rw [← hW4]; exact gb_new G3 g1.size _
  have c4_0 := B4.cell 0 (v := .int .i64 i) rfl
  have c4_1 := B4.cell 1 (v := .int .i64 (a : Nat)) rfl
  have c4_2 := B4.cell 2 (v := .int .i64 (a : Nat)) rfl
  have c4_3 := B4.cell 3 (v := .int .i64 (-1)) rfl
  have c4_4 := B4.cell 4 (v := .int .i64 0) rfl
  have c4_5 := B4.cell 5 (v := .int .i64 0) rfl
  have q4_0 := B4.frozen 0
  have q4_1 := B4.frozen 1
  have q4_2 := B4.frozen 2
  have q4_3 := B4.frozen 3
  have q4_4 := B4.frozen 4
  have q4_5 := B4.frozen 5
  obtain ⟨W5, hW5⟩ : ∃ W5, W4.setCell ⟨W1.heap.size, 3, none⟩ (.int .i64 (a2 : Nat)) = W5 := ⟨_, rfl⟩
  have B5 : Bo W5 W1.heap.size 60 #[.int .i64 i, .int .i64 (a : Nat), .int .i64 (a : Nat), .int .i64 (a2 : Nat), .int .i64 0, .int .i64 0] := by
    rw [← hW5]
    have h9 := B4.set 3 (.int .i64 (a2 : Nat))
    simpa using h9
  have BR5 : Bo W5 w.heap.size 60 #[.int .i64 0, .int .i64 0, .int .i64 0, .int .i64 0, .int .i64 0, .int .i64 0] := by rw [← hW5]; exact BR4.set2 HN.out
  have G5 : w.grownBy W5 none := by rw [← hW5]; exact gb_new G4 g1.size _
  have c5_0 := B5.cell 0 (v := .int .i64 i) rfl
  have c5_1 := B5.cell 1 (v := .int .i64 (a : Nat)) rfl
  have c5_2 := B5.cell 2 (v := .int .i64 (a : Nat)) rfl
  have c5_3 := B5.cell 3 (v := .int .i64 (a2 : Nat)) rfl
  have c5_4 := B5.cell 4 (v := .int .i64 0) rfl
  have c5_5 := B5.cell 5 (v := .int .i64 0) rfl
  have q5_0 := B5.frozen 0
  have q5_1 := B5.frozen 1
  have q5_2 := B5.frozen 2
  have q5_3 := B5.frozen 3
  have q5_4 := B5.frozen 4
  have q5_5 := B5.frozen 5
  obtain ⟨W6, hW6⟩ : ∃ W6, W5.setCell ⟨W1.heap.size, 4, none⟩ (.int .i64 (c : Nat)) = W6 := ⟨_, rfl⟩
  have B6 : Bo W6 W1.heap.size 60 #[.int .i64 i, .int .i64 (a : Nat), .int .i64 (a : Nat), .int .i64 (a2 : Nat), .int .i64 (c : Nat), .int .i64 0] := by
    rw [← hW6]
    have h9 := B5.set 4 (.int .i64 (c : Nat))
    simpa using h9
  have BR6 : Bo W6 w.heap.size 60 #[.int .i64 0, .int .i64 0, .int .i64 0, .int .i64 0, .int .i64 0, .int .i64 0] := by rw [← hW6]; exact BR5.set2 HN.out
  have G6 : w.grownBy W6 none := by rw [← hW6]; exact gb_new G5 g1.size _
  have c6_0 := B6.cell 0 (v := .int .i64 i) rfl
  have c6_1 := B6.cell 1 (v := .int .i64 (a : Nat)) rfl
  have c6_2 := B6.cell 2 (v := .int .i64 (a : Nat)) rfl
  have c6_3 := B6.cell 3 (v := .int .i64 (a2 : Nat)) rfl
  have c6_4 := B6.cell 4 (v := .int .i64 (c : Nat)) rfl
  have c6_5 := B6.cell 5 (v := .int .i64 0) rfl
  have q6_0 := B6.frozen 0
  have q6_1 := B6.frozen 1
  have q6_2 := B6.frozen 2
  have q6_3 := B6.frozen 3
  have q6_4 := B6.frozen 4
  have q6_5 := B6.frozen 5
  obtain ⟨W7, hW7⟩ : ∃ W7, W6.setCell ⟨W1.heap.size, 5, none⟩ (.int .i64 (d : Nat)) = W7 := ⟨_, rfl⟩
  have B7 : Bo W7 W1.heap.size 60 #[.int .i64 i, .int .i64 (a : Nat), .int .i64 (a : Nat), .int .i64 (a2 : Nat), .int .i64 (c : Nat), .int .i64 (d : Nat)] := by
    rw [← hW7]
    have h9 := B6.set 5 (.int .i64 (d : Nat))
    simpa using h9
  have BR7 : Bo W7 w.heap.size 60 #[.int .i64 0, .int .i64 0, .int .i64 0, .int .i64 0, .int .i64 0, .int .i64 0] := by rw [← hW7]; exact BR6.set2 HN.out
  have G7 : w.grownBy W7 none := by rw [← hW7]; exact gb_new G6 g1.size _
  have c7_0 := B7.cell 0 (v := .int .i64 i) rfl
  have c7_1 := B7.cell 1 (v := .int .i64 (a : Nat)) rfl
  have c7_2 := B7.cell 2 (v := .int .i64 (a : Nat)) rfl
  have c7_3 := B7.cell 3 (v := .int .i64 (a2 : Nat)) rfl
  have c7_4 := B7.cell 4 (v := .int .i64 (c : Nat)) rfl
  have c7_5 := B7.cell 5 (v := .int .i64 (d : Nat)) rfl
  have q7_0 := B7.frozen 0
  have q7_1 := B7.frozen 1
  have q7_2 := B7.frozen 2
  have q7_3 := B7.frozen 3
  have q7_4 := B7.frozen 4
  have q7_5 := B7.frozen 5
  have d_0 := BR7.cell 0 (v := .int .i64 0) rfl
  have d_1 := BR7.cell 1 (v := .int .i64 0) rfl
  have d_2 := BR7.cell 2 (v := .int .i64 0) rfl
  have d_3 := BR7.cell 3 (v := .int .i64 0) rfl
  have d_4 := BR7.cell 4 (v := .int .i64 0) rfl
  have d_5 := BR7.cell 5 (v := .int .i64 0) rfl
  have f_0 := BR7.frozen 0
  have f_1 := BR7.frozen 1
  have f_2 := BR7.frozen 2
  have f_3 := BR7.frozen 3
  have f_4 := BR7.frozen 4
  have f_5 := BR7.frozen 5
  go_enter Tryd.func46, Tryd.ntmps46
  go_wp2_with (first | (go_at_call 55; (fail_if_success (guard_hyp hone)); refine (rDigitsV s i a hs hi hd _).mono ?_; rintro e w' ⟨rfl, hw'⟩; subst w'; have hone : True := True.intro) | (go_at_call 55; refine (rDigitsV s c d hs hcs hdd _).mono ?_; rintro e w' ⟨rfl, hw'⟩; subst w'))
  refine ret_c3 (g := w.heap.size) (cs := #[.int .i64 i, .int .i64 (a : Nat), .int .i64 (a : Nat), .int .i64 (a2 : Nat), .int .i64 (c : Nat), .int .i64 (d : Nat)]) rfl hfs info6 rfl (bo6 BR7) rfl ⟨rfl, gb6 G7 (Nat.le_refl _)⟩

set_option maxHeartbeats 1000000 in
theorem rtakes_s45n (s : ByteArray) (i : Nat) (hs : s.size ≤ maxLen) (hi : i ≤ s.size) (w : World) (a : Nat) (hd : Hid (Tp.dg s i = a)) (hn : ((a : Int) == (i : Int)) = false) (ha : a ≤ s.size) (hst : (Sc.bt s a : Int) = 42) (hla : a < s.size) (a2 : Nat) (ha2 : Hid (a + 1 = a2)) (hb2 : a2 ≤ s.size) (hlb : a2 < s.size) (n43 : ((Sc.bt s a2 : Int) == 43) = false) (n45 : ((Sc.bt s a2 : Int) == 45) = true) (c : Nat) (hc : Hid (a2 + 1 = c)) (d : Nat) (hdd : Hid (Tp.dg s c = d)) (hcd : ((d : Int) == (c : Int)) = true) : Calls Tryd.prog 46 #[.string s, .int .i64 i, .bool true] w fun e w' => e = .returned (.tuple #[.agg #[.int .i64 i, .int .i64 (a : Nat), .int .i64 (a : Nat), .int .i64 (a2 : Nat), .int .i64 (c : Nat), .int .i64 (d : Nat)], .int .i64 (c : Nat), .int .i64 43]) ∧ w.grownBy w' none := by
  obtain ⟨fs, hfs⟩ := under6
  have hba := Sc.bt_at hla
  have hla' : (a : Int) < (s.size : Int) := by omega
  have hq42 : ((Sc.bt s a : Int) == 42) = true := by simp [hst]
  have hw2 : IntKind.i64.wrap ((a : Int) + 1) = (a2 : Int) := by have := ha2.out; unfold maxLen at hs; rw [IntKind.wrap_i64]; omega
  clear hst
  have hbb := Sc.bt_at hlb
  have hlb' : (a2 : Int) < (s.size : Int) := by omega
  have hwc : IntKind.i64.wrap ((a2 : Int) + 1) = (c : Int) := by have := hc.out; unfold maxLen at hs; rw [IntKind.wrap_i64]; omega
  have hcs : c ≤ s.size := by have := hc.out; omega
  obtain ⟨W1, hW1, sz1, g1, B1⟩ := boxn w #[.int .i64 0, .int .i64 0, .int .i64 0, .int .i64 0, .int .i64 0, .int .i64 0] 60
  obtain ⟨W2, hW2, sz2, g2, B2⟩ := boxn W1 #[.int .i64 i, .int .i64 0, .int .i64 (-1), .int .i64 (-1), .int .i64 0, .int .i64 0] 60
  have BR2 := B1.kept g2 (by simp)
  have G2 := gb_trans g1 g2
  have HN : Hid (W1.heap.size ≠ w.heap.size) := by have := sz1.out; unfold Hid; omega
  have z0 := B2.same 0 (v := .int .i64 i) rfl
  have z1 := B2.same 1 (v := .int .i64 0) rfl
  have z2 := B2.same 2 (v := .int .i64 (-1)) rfl
  have z3 := B2.same 3 (v := .int .i64 (-1)) rfl
  have z4 := B2.same 4 (v := .int .i64 0) rfl
  have z5 := B2.same 5 (v := .int .i64 0) rfl
  have a_0 := B2.cell 0 (v := .int .i64 i) rfl
  have a_1 := B2.cell 1 (v := .int .i64 0) rfl
  have a_2 := B2.cell 2 (v := .int .i64 (-1)) rfl
  have a_3 := B2.cell 3 (v := .int .i64 (-1)) rfl
  have a_4 := B2.cell 4 (v := .int .i64 0) rfl
  have a_5 := B2.cell 5 (v := .int .i64 0) rfl
  have b_0 := B2.frozen 0
  have b_1 := B2.frozen 1
  have b_2 := B2.frozen 2
  have b_3 := B2.frozen 3
  have b_4 := B2.frozen 4
  have b_5 := B2.frozen 5
  obtain ⟨W3, hW3⟩ : ∃ W3, W2.setCell ⟨W1.heap.size, 1, none⟩ (.int .i64 (a : Nat)) = W3 := ⟨_, rfl⟩
  have B3 : Bo W3 W1.heap.size 60 #[.int .i64 i, .int .i64 (a : Nat), .int .i64 (-1), .int .i64 (-1), .int .i64 0, .int .i64 0] := by
    rw [← hW3]
    have h9 := B2.set 1 (.int .i64 (a : Nat))
    simpa using h9
  have BR3 : Bo W3 w.heap.size 60 #[.int .i64 0, .int .i64 0, .int .i64 0, .int .i64 0, .int .i64 0, .int .i64 0] := by rw [← hW3]; exact BR2.set2 HN.out
  have G3 : w.grownBy W3 none := by rw [← hW3]; exact gb_new G2 g1.size _
  have c_0 := B3.cell 0 (v := .int .i64 i) rfl
  have c_1 := B3.cell 1 (v := .int .i64 (a : Nat)) rfl
  have c_2 := B3.cell 2 (v := .int .i64 (-1)) rfl
  have c_3 := B3.cell 3 (v := .int .i64 (-1)) rfl
  have c_4 := B3.cell 4 (v := .int .i64 0) rfl
  have c_5 := B3.cell 5 (v := .int .i64 0) rfl
  have q_0 := B3.frozen 0
  have q_1 := B3.frozen 1
  have q_2 := B3.frozen 2
  have q_3 := B3.frozen 3
  have q_4 := B3.frozen 4
  have q_5 := B3.frozen 5
  obtain ⟨W4, hW4⟩ : ∃ W4, W3.setCell ⟨W1.heap.size, 2, none⟩ (.int .i64 (a : Nat)) = W4 := ⟨_, rfl⟩
  have B4 : Bo W4 W1.heap.size 60 #[.int .i64 i, .int .i64 (a : Nat), .int .i64 (a : Nat), .int .i64 (-1), .int .i64 0, .int .i64 0] := by
    rw [← hW4]
    have h9 := B3.set 2 (.int .i64 (a : Nat))
    simpa using h9
  have BR4 : Bo W4 w.heap.size 60 #[.int .i64 0, .int .i64 0, .int .i64 0, .int .i64 0, .int .i64 0, .int .i64 0] := by rw [← hW4]; exact BR3.set2 HN.out
  have G4 : w.grownBy W4 none := by rw [← hW4]; exact gb_new G3 g1.size _
  have c4_0 := B4.cell 0 (v := .int .i64 i) rfl
  have c4_1 := B4.cell 1 (v := .int .i64 (a : Nat)) rfl
  have c4_2 := B4.cell 2 (v := .int .i64 (a : Nat)) rfl
  have c4_3 := B4.cell 3 (v := .int .i64 (-1)) rfl
  have c4_4 := B4.cell 4 (v := .int .i64 0) rfl
  have c4_5 := B4.cell 5 (v := .int .i64 0) rfl
  have q4_0 := B4.frozen 0
  have q4_1 := B4.frozen 1
  have q4_2 := B4.frozen 2
  have q4_3 := B4.frozen 3
  have q4_4 := B4.frozen 4
  have q4_5 := B4.frozen 5
  obtain ⟨W5, hW5⟩ : ∃ W5, W4.setCell ⟨W1.heap.size, 3, none⟩ (.int .i64 (a2 : Nat)) = W5 := ⟨_, rfl⟩
  have B5 : Bo W5 W1.heap.size 60 #[.int .i64 i, .int .i64 (a : Nat), .int .i64 (a : Nat), .int .i64 (a2 : Nat), .int .i64 0, .int .i64 0] := by
    rw [← hW5]
    have h9 := B4.set 3 (.int .i64 (a2 : Nat))
    simpa using h9
  have BR5 : Bo W5 w.heap.size 60 #[.int .i64 0, .int .i64 0, .int .i64 0, .int .i64 0, .int .i64 0, .int .i64 0] := by rw [← hW5]; exact BR4.set2 HN.out
  have G5 : w.grownBy W5 none := by rw [← hW5]; exact gb_new G4 g1.size _
  have c5_0 := B5.cell 0 (v := .int .i64 i) rfl
  have c5_1 := B5.cell 1 (v := .int .i64 (a : Nat)) rfl
  have c5_2 := B5.cell 2 (v := .int .i64 (a : Nat)) rfl
  have c5_3 := B5.cell 3 (v := .int .i64 (a2 : Nat)) rfl
  have c5_4 := B5.cell 4 (v := .int .i64 0) rfl
  have c5_5 := B5.cell 5 (v := .int .i64 0) rfl
  have q5_0 := B5.frozen 0
  have q5_1 := B5.frozen 1
  have q5_2 := B5.frozen 2
  have q5_3 := B5.frozen 3
  have q5_4 := B5.frozen 4
  have q5_5 := B5.frozen 5
  obtain ⟨W6, hW6⟩ : ∃ W6, W5.setCell ⟨W1.heap.size, 4, none⟩ (.int .i64 (c : Nat)) = W6 := ⟨_, rfl⟩
  have B6 : Bo W6 W1.heap.size 60 #[.int .i64 i, .int .i64 (a : Nat), .int .i64 (a : Nat), .int .i64 (a2 : Nat), .int .i64 (c : Nat), .int .i64 0] := by
    rw [← hW6]
    have h9 := B5.set 4 (.int .i64 (c : Nat))
    simpa using h9
  have BR6 : Bo W6 w.heap.size 60 #[.int .i64 0, .int .i64 0, .int .i64 0, .int .i64 0, .int .i64 0, .int .i64 0] := by rw [← hW6]; exact BR5.set2 HN.out
  have G6 : w.grownBy W6 none := by rw [← hW6]; exact gb_new G5 g1.size _
  have c6_0 := B6.cell 0 (v := .int .i64 i) rfl
  have c6_1 := B6.cell 1 (v := .int .i64 (a : Nat)) rfl
  have c6_2 := B6.cell 2 (v := .int .i64 (a : Nat)) rfl
  have c6_3 := B6.cell 3 (v := .int .i64 (a2 : Nat)) rfl
  have c6_4 := B6.cell 4 (v := .int .i64 (c : Nat)) rfl
  have c6_5 := B6.cell 5 (v := .int .i64 0) rfl
  have q6_0 := B6.frozen 0
  have q6_1 := B6.frozen 1
  have q6_2 := B6.frozen 2
  have q6_3 := B6.frozen 3
  have q6_4 := B6.frozen 4
  have q6_5 := B6.frozen 5
  obtain ⟨W7, hW7⟩ : ∃ W7, W6.setCell ⟨W1.heap.size, 5, none⟩ (.int .i64 (d : Nat)) = W7 := ⟨_, rfl⟩
  have B7 : Bo W7 W1.heap.size 60 #[.int .i64 i, .int .i64 (a : Nat), .int .i64 (a : Nat), .int .i64 (a2 : Nat), .int .i64 (c : Nat), .int .i64 (d : Nat)] := by
    rw [← hW7]
    have h9 := B6.set 5 (.int .i64 (d : Nat))
    simpa using h9
  have BR7 : Bo W7 w.heap.size 60 #[.int .i64 0, .int .i64 0, .int .i64 0, .int .i64 0, .int .i64 0, .int .i64 0] := by rw [← hW7]; exact BR6.set2 HN.out
  have G7 : w.grownBy W7 none := by rw [← hW7]; exact gb_new G6 g1.size _
  have c7_0 := B7.cell 0 (v := .int .i64 i) rfl
  have c7_1 := B7.cell 1 (v := .int .i64 (a : Nat)) rfl
  have c7_2 := B7.cell 2 (v := .int .i64 (a : Nat)) rfl
  have c7_3 := B7.cell 3 (v := .int .i64 (a2 : Nat)) rfl
  have c7_4 := B7.cell 4 (v := .int .i64 (c : Nat)) rfl
  have c7_5 := B7.cell 5 (v := .int .i64 (d : Nat)) rfl
  have q7_0 := B7.frozen 0
  have q7_1 := B7.frozen 1
  have q7_2 := B7.frozen 2
  have q7_3 := B7.frozen 3
  have q7_4 := B7.frozen 4
  have q7_5 := B7.frozen 5
  have d_0 := BR7.cell 0 (v := .int .i64 0) rfl
  have d_1 := BR7.cell 1 (v := .int .i64 0) rfl
  have d_2 := BR7.cell 2 (v := .int .i64 0) rfl
  have d_3 := BR7.cell 3 (v := .int .i64 0) rfl
  have d_4 := BR7.cell 4 (v := .int .i64 0) rfl
  have d_5 := BR7.cell 5 (v := .int .i64 0) rfl
  have f_0 := BR7.frozen 0
  have f_1 := BR7.frozen 1
  have f_2 := BR7.frozen 2
  have f_3 := BR7.frozen 3
  have f_4 := BR7.frozen 4
  have f_5 := BR7.frozen 5
  go_enter Tryd.func46, Tryd.ntmps46
  go_wp2_with (first | (go_at_call 55; (fail_if_success (guard_hyp hone)); refine (rDigitsV s i a hs hi hd _).mono ?_; rintro e w' ⟨rfl, hw'⟩; subst w'; have hone : True := True.intro) | (go_at_call 55; refine (rDigitsV s c d hs hcs hdd _).mono ?_; rintro e w' ⟨rfl, hw'⟩; subst w'))
  have hne := HN.out
  have hne2 : ¬ w.heap.size = W1.heap.size := fun h => hne h.symm
  go_region_held2 (fun w' => w'.cell? ⟨W1.heap.size, 0, none⟩ = some (.int .i64 i) ∧ w'.cell? ⟨W1.heap.size, 1, none⟩ = some (.int .i64 (a : Nat)) ∧ w'.cell? ⟨W1.heap.size, 2, none⟩ = some (.int .i64 (a : Nat)) ∧ w'.cell? ⟨W1.heap.size, 3, none⟩ = some (.int .i64 (a2 : Nat)) ∧ w'.cell? ⟨W1.heap.size, 4, none⟩ = some (.int .i64 (c : Nat)) ∧ w'.cell? ⟨W1.heap.size, 5, none⟩ = some (.int .i64 (d : Nat))) (go_keep) (fail)
  all_goals go_wp2
  all_goals refine ret_c3 (g := w.heap.size) (cs := #[.int .i64 i, .int .i64 (a : Nat), .int .i64 (a : Nat), .int .i64 (a2 : Nat), .int .i64 (c : Nat), .int .i64 (d : Nat)]) rfl hfs info6 rfl (bo6 BR7).dr rfl ⟨rfl, gb_drew (gb6 G7 (Nat.le_refl _))⟩

set_option maxHeartbeats 1000000 in
theorem rtakes_s45y (s : ByteArray) (i : Nat) (hs : s.size ≤ maxLen) (hi : i ≤ s.size) (w : World) (a : Nat) (hd : Hid (Tp.dg s i = a)) (hn : ((a : Int) == (i : Int)) = false) (ha : a ≤ s.size) (hst : (Sc.bt s a : Int) = 42) (hla : a < s.size) (a2 : Nat) (ha2 : Hid (a + 1 = a2)) (hb2 : a2 ≤ s.size) (hlb : a2 < s.size) (n43 : ((Sc.bt s a2 : Int) == 43) = false) (n45 : ((Sc.bt s a2 : Int) == 45) = true) (c : Nat) (hc : Hid (a2 + 1 = c)) (d : Nat) (hdd : Hid (Tp.dg s c = d)) (hcd : ((d : Int) == (c : Int)) = false) : Calls Tryd.prog 46 #[.string s, .int .i64 i, .bool true] w fun e w' => e = .returned (.tuple #[.agg #[.int .i64 i, .int .i64 (a : Nat), .int .i64 (a : Nat), .int .i64 (a2 : Nat), .int .i64 (c : Nat), .int .i64 (d : Nat)], .int .i64 (d : Nat), .int .i64 0]) ∧ w.grownBy w' none := by
  obtain ⟨fs, hfs⟩ := under6
  have hba := Sc.bt_at hla
  have hla' : (a : Int) < (s.size : Int) := by omega
  have hq42 : ((Sc.bt s a : Int) == 42) = true := by simp [hst]
  have hw2 : IntKind.i64.wrap ((a : Int) + 1) = (a2 : Int) := by have := ha2.out; unfold maxLen at hs; rw [IntKind.wrap_i64]; omega
  clear hst
  have hbb := Sc.bt_at hlb
  have hlb' : (a2 : Int) < (s.size : Int) := by omega
  have hwc : IntKind.i64.wrap ((a2 : Int) + 1) = (c : Int) := by have := hc.out; unfold maxLen at hs; rw [IntKind.wrap_i64]; omega
  have hcs : c ≤ s.size := by have := hc.out; omega
  obtain ⟨W1, hW1, sz1, g1, B1⟩ := boxn w #[.int .i64 0, .int .i64 0, .int .i64 0, .int .i64 0, .int .i64 0, .int .i64 0] 60
  obtain ⟨W2, hW2, sz2, g2, B2⟩ := boxn W1 #[.int .i64 i, .int .i64 0, .int .i64 (-1), .int .i64 (-1), .int .i64 0, .int .i64 0] 60
  have BR2 := B1.kept g2 (by simp)
  have G2 := gb_trans g1 g2
  have HN : Hid (W1.heap.size ≠ w.heap.size) := by have := sz1.out; unfold Hid; omega
  have z0 := B2.same 0 (v := .int .i64 i) rfl
  have z1 := B2.same 1 (v := .int .i64 0) rfl
  have z2 := B2.same 2 (v := .int .i64 (-1)) rfl
  have z3 := B2.same 3 (v := .int .i64 (-1)) rfl
  have z4 := B2.same 4 (v := .int .i64 0) rfl
  have z5 := B2.same 5 (v := .int .i64 0) rfl
  have a_0 := B2.cell 0 (v := .int .i64 i) rfl
  have a_1 := B2.cell 1 (v := .int .i64 0) rfl
  have a_2 := B2.cell 2 (v := .int .i64 (-1)) rfl
  have a_3 := B2.cell 3 (v := .int .i64 (-1)) rfl
  have a_4 := B2.cell 4 (v := .int .i64 0) rfl
  have a_5 := B2.cell 5 (v := .int .i64 0) rfl
  have b_0 := B2.frozen 0
  have b_1 := B2.frozen 1
  have b_2 := B2.frozen 2
  have b_3 := B2.frozen 3
  have b_4 := B2.frozen 4
  have b_5 := B2.frozen 5
  obtain ⟨W3, hW3⟩ : ∃ W3, W2.setCell ⟨W1.heap.size, 1, none⟩ (.int .i64 (a : Nat)) = W3 := ⟨_, rfl⟩
  have B3 : Bo W3 W1.heap.size 60 #[.int .i64 i, .int .i64 (a : Nat), .int .i64 (-1), .int .i64 (-1), .int .i64 0, .int .i64 0] := by
    rw [← hW3]
    have h9 := B2.set 1 (.int .i64 (a : Nat))
    simpa using h9
  have BR3 : Bo W3 w.heap.size 60 #[.int .i64 0, .int .i64 0, .int .i64 0, .int .i64 0, .int .i64 0, .int .i64 0] := by rw [← hW3]; exact BR2.set2 HN.out
  have G3 : w.grownBy W3 none := by rw [← hW3]; exact gb_new G2 g1.size _
  have c_0 := B3.cell 0 (v := .int .i64 i) rfl
  have c_1 := B3.cell 1 (v := .int .i64 (a : Nat)) rfl
  have c_2 := B3.cell 2 (v := .int .i64 (-1)) rfl
  have c_3 := B3.cell 3 (v := .int .i64 (-1)) rfl
  have c_4 := B3.cell 4 (v := .int .i64 0) rfl
  have c_5 := B3.cell 5 (v := .int .i64 0) rfl
  have q_0 := B3.frozen 0
  have q_1 := B3.frozen 1
  have q_2 := B3.frozen 2
  have q_3 := B3.frozen 3
  have q_4 := B3.frozen 4
  have q_5 := B3.frozen 5
  obtain ⟨W4, hW4⟩ : ∃ W4, W3.setCell ⟨W1.heap.size, 2, none⟩ (.int .i64 (a : Nat)) = W4 := ⟨_, rfl⟩
  have B4 : Bo W4 W1.heap.size 60 #[.int .i64 i, .int .i64 (a : Nat), .int .i64 (a : Nat), .int .i64 (-1), .int .i64 0, .int .i64 0] := by
    rw [← hW4]
    have h9 := B3.set 2 (.int .i64 (a : Nat))
    simpa using h9
  have BR4 : Bo W4 w.heap.size 60 #[.int .i64 0, .int .i64 0, .int .i64 0, .int .i64 0, .int .i64 0, .int .i64 0] := by rw [← hW4]; exact BR3.set2 HN.out
  have G4 : w.grownBy W4 none := by rw [← hW4]; exact gb_new G3 g1.size _
  have c4_0 := B4.cell 0 (v := .int .i64 i) rfl
  have c4_1 := B4.cell 1 (v := .int .i64 (a : Nat)) rfl
  have c4_2 := B4.cell 2 (v := .int .i64 (a : Nat)) rfl
  have c4_3 := B4.cell 3 (v := .int .i64 (-1)) rfl
  have c4_4 := B4.cell 4 (v := .int .i64 0) rfl
  have c4_5 := B4.cell 5 (v := .int .i64 0) rfl
  have q4_0 := B4.frozen 0
  have q4_1 := B4.frozen 1
  have q4_2 := B4.frozen 2
  have q4_3 := B4.frozen 3
  have q4_4 := B4.frozen 4
  have q4_5 := B4.frozen 5
  obtain ⟨W5, hW5⟩ : ∃ W5, W4.setCell ⟨W1.heap.size, 3, none⟩ (.int .i64 (a2 : Nat)) = W5 := ⟨_, rfl⟩
  have B5 : Bo W5 W1.heap.size 60 #[.int .i64 i, .int .i64 (a : Nat), .int .i64 (a : Nat), .int .i64 (a2 : Nat), .int .i64 0, .int .i64 0] := by
    rw [← hW5]
    have h9 := B4.set 3 (.int .i64 (a2 : Nat))
    simpa using h9
  have BR5 : Bo W5 w.heap.size 60 #[.int .i64 0, .int .i64 0, .int .i64 0, .int .i64 0, .int .i64 0, .int .i64 0] := by rw [← hW5]; exact BR4.set2 HN.out
  have G5 : w.grownBy W5 none := by rw [← hW5]; exact gb_new G4 g1.size _
  have c5_0 := B5.cell 0 (v := .int .i64 i) rfl
  have c5_1 := B5.cell 1 (v := .int .i64 (a : Nat)) rfl
  have c5_2 := B5.cell 2 (v := .int .i64 (a : Nat)) rfl
  have c5_3 := B5.cell 3 (v := .int .i64 (a2 : Nat)) rfl
  have c5_4 := B5.cell 4 (v := .int .i64 0) rfl
  have c5_5 := B5.cell 5 (v := .int .i64 0) rfl
  have q5_0 := B5.frozen 0
  have q5_1 := B5.frozen 1
  have q5_2 := B5.frozen 2
  have q5_3 := B5.frozen 3
  have q5_4 := B5.frozen 4
  have q5_5 := B5.frozen 5
  obtain ⟨W6, hW6⟩ : ∃ W6, W5.setCell ⟨W1.heap.size, 4, none⟩ (.int .i64 (c : Nat)) = W6 := ⟨_, rfl⟩
  have B6 : Bo W6 W1.heap.size 60 #[.int .i64 i, .int .i64 (a : Nat), .int .i64 (a : Nat), .int .i64 (a2 : Nat), .int .i64 (c : Nat), .int .i64 0] := by
    rw [← hW6]
    have h9 := B5.set 4 (.int .i64 (c : Nat))
    simpa using h9
  have BR6 : Bo W6 w.heap.size 60 #[.int .i64 0, .int .i64 0, .int .i64 0, .int .i64 0, .int .i64 0, .int .i64 0] := by rw [← hW6]; exact BR5.set2 HN.out
  have G6 : w.grownBy W6 none := by rw [← hW6]; exact gb_new G5 g1.size _
  have c6_0 := B6.cell 0 (v := .int .i64 i) rfl
  have c6_1 := B6.cell 1 (v := .int .i64 (a : Nat)) rfl
  have c6_2 := B6.cell 2 (v := .int .i64 (a : Nat)) rfl
  have c6_3 := B6.cell 3 (v := .int .i64 (a2 : Nat)) rfl
  have c6_4 := B6.cell 4 (v := .int .i64 (c : Nat)) rfl
  have c6_5 := B6.cell 5 (v := .int .i64 0) rfl
  have q6_0 := B6.frozen 0
  have q6_1 := B6.frozen 1
  have q6_2 := B6.frozen 2
  have q6_3 := B6.frozen 3
  have q6_4 := B6.frozen 4
  have q6_5 := B6.frozen 5
  obtain ⟨W7, hW7⟩ : ∃ W7, W6.setCell ⟨W1.heap.size, 5, none⟩ (.int .i64 (d : Nat)) = W7 := ⟨_, rfl⟩
  have B7 : Bo W7 W1.heap.size 60 #[.int .i64 i, .int .i64 (a : Nat), .int .i64 (a : Nat), .int .i64 (a2 : Nat), .int .i64 (c : Nat), .int .i64 (d : Nat)] := by
    rw [← hW7]
    have h9 := B6.set 5 (.int .i64 (d : Nat))
    simpa using h9
  have BR7 : Bo W7 w.heap.size 60 #[.int .i64 0, .int .i64 0, .int .i64 0, .int .i64 0, .int .i64 0, .int .i64 0] := by rw [← hW7]; exact BR6.set2 HN.out
  have G7 : w.grownBy W7 none := by rw [← hW7]; exact gb_new G6 g1.size _
  have c7_0 := B7.cell 0 (v := .int .i64 i) rfl
  have c7_1 := B7.cell 1 (v := .int .i64 (a : Nat)) rfl
  have c7_2 := B7.cell 2 (v := .int .i64 (a : Nat)) rfl
  have c7_3 := B7.cell 3 (v := .int .i64 (a2 : Nat)) rfl
  have c7_4 := B7.cell 4 (v := .int .i64 (c : Nat)) rfl
  have c7_5 := B7.cell 5 (v := .int .i64 (d : Nat)) rfl
  have q7_0 := B7.frozen 0
  have q7_1 := B7.frozen 1
  have q7_2 := B7.frozen 2
  have q7_3 := B7.frozen 3
  have q7_4 := B7.frozen 4
  have q7_5 := B7.frozen 5
  have d_0 := BR7.cell 0 (v := .int .i64 0) rfl
  have d_1 := BR7.cell 1 (v := .int .i64 0) rfl
  have d_2 := BR7.cell 2 (v := .int .i64 0) rfl
  have d_3 := BR7.cell 3 (v := .int .i64 0) rfl
  have d_4 := BR7.cell 4 (v := .int .i64 0) rfl
  have d_5 := BR7.cell 5 (v := .int .i64 0) rfl
  have f_0 := BR7.frozen 0
  have f_1 := BR7.frozen 1
  have f_2 := BR7.frozen 2
  have f_3 := BR7.frozen 3
  have f_4 := BR7.frozen 4
  have f_5 := BR7.frozen 5
  go_enter Tryd.func46, Tryd.ntmps46
  go_wp2_with (first | (go_at_call 55; (fail_if_success (guard_hyp hone)); refine (rDigitsV s i a hs hi hd _).mono ?_; rintro e w' ⟨rfl, hw'⟩; subst w'; have hone : True := True.intro) | (go_at_call 55; refine (rDigitsV s c d hs hcs hdd _).mono ?_; rintro e w' ⟨rfl, hw'⟩; subst w'))
  refine ret_c3 (g := w.heap.size) (cs := #[.int .i64 i, .int .i64 (a : Nat), .int .i64 (a : Nat), .int .i64 (a2 : Nat), .int .i64 (c : Nat), .int .i64 (d : Nat)]) rfl hfs info6 rfl (bo6 BR7) rfl ⟨rfl, gb6 G7 (Nat.le_refl _)⟩
end Go.Proofs.YteegbhnfkcbnoaaDoor
