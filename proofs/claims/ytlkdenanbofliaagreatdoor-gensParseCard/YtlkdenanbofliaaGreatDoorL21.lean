/- What Parse of the document answers: the faults up to the second list. -/
import Derived.Test.YtlkdenanbofliaaGreatDoorL20
import Derived.Test.YtlkdenanbofliaaGreatDoorL15
namespace Go.Proofs.YtlkdenanbofliaaGreatDoor
open Go.RowKit
set_option linter.unusedVariables false
set_option linter.unusedSimpArgs false
set_option maxRecDepth 100000

set_option maxHeartbeats 2000000 in
theorem pdLong (s : ByteArray) (hs : (1048576 : Int) < (s.size : Int)) (w : World) : Calls Tryz.prog 20 #[.string s] w fun e w' => e = .returned (.tuple #[.agg #[.int .u8 0, .int .u16 0, .int .u16 0], .int .i64 0, .int .i64 3]) ∧ w.grownBy w' none := by
  obtain ⟨fs, hfs'⟩ := underLf
  have hfs : Hid (Tryz.prog.underlying 25 = some (.struct fs)) := hfs'
  clear hfs'
  obtain ⟨W1, hW1, sz1, g1, B1⟩ := boxn w #[.int .u8 0, .int .u16 0, .int .u16 0] 25
  go_enter Tryz.func20, Tryz.ntmps20
  go_wp2_with (first | (refine wpList_st (op := ⟨_, .store 25 _ _, _, _, _, _⟩) rfl 25 _ _ rfl w.heap.size #[.int .u8 0, .int .u16 0, .int .u16 0] rfl rfl B1 infoLf rfl (by simp [Value.oneCell']) ?_; intro W99 hW99 B99))
  refine ret_c3 (g := w.heap.size) (cs := #[.int .u8 0, .int .u16 0, .int .u16 0]) rfl hfs.out infoLf rfl B99 rfl ⟨rfl, hW99 ▸ gb_row2 g1 (Nat.le_refl _)⟩

set_option maxHeartbeats 2000000 in
theorem pdB (s : ByteArray) (hs : ¬ (1048576 : Int) < (s.size : Int)) (h66 : ∀ w, Calls Tryz.prog 37 #[.string s, .int .i64 0, .int .u8 66] w fun e w' => e = .returned (.bool false) ∧ w' = w) (w : World) : Calls Tryz.prog 20 #[.string s] w fun e w' => e = .returned (.tuple #[.agg #[.int .u8 0, .int .u16 0, .int .u16 0], .int .i64 0, .int .i64 80]) ∧ w.grownBy w' none := by
  obtain ⟨fs, hfs'⟩ := underLf
  have hfs : Hid (Tryz.prog.underlying 25 = some (.struct fs)) := hfs'
  clear hfs'
  obtain ⟨W1, hW1, sz1, g1, B1⟩ := boxn w #[.int .u8 0, .int .u16 0, .int .u16 0] 25
  go_enter Tryz.func20, Tryz.ntmps20
  go_wp2_with (first | (go_at_call 37; (fail_if_success (guard_hyp mk1)); refine (h66 _).mono ?_; rintro e w' ⟨rfl, hw'⟩; subst w'; have mk1 : True := trivial) | (refine wpList_st (op := ⟨_, .store 25 _ _, _, _, _, _⟩) rfl 25 _ _ rfl w.heap.size #[.int .u8 0, .int .u16 0, .int .u16 0] rfl rfl B1 infoLf rfl (by simp [Value.oneCell']) ?_; intro W99 hW99 B99))
  refine ret_c3 (g := w.heap.size) (cs := #[.int .u8 0, .int .u16 0, .int .u16 0]) rfl hfs.out infoLf rfl B99 rfl ⟨rfl, hW99 ▸ gb_row2 g1 (Nat.le_refl _)⟩

set_option maxHeartbeats 2000000 in
theorem pdT1 (s : ByteArray) (hs : ¬ (1048576 : Int) < (s.size : Int)) (h66 : ∀ w, Calls Tryz.prog 37 #[.string s, .int .i64 0, .int .u8 66] w fun e w' => e = .returned (.bool true) ∧ w' = w) (a1 v1 : Nat) (hl1 : ∀ w, Calls Tryz.prog 38 #[.string s, .int .i64 1] w fun e w' => e = .returned (.tuple #[.agg (bl (fun j => v1.testBit j)), .int .i64 a1, .int .i64 a1]) ∧ w.grownBy w' none) (w : World) : Calls Tryz.prog 20 #[.string s] w fun e w' => e = .returned (.tuple #[.agg #[.int .u8 0, .int .u16 0, .int .u16 0], .int .i64 a1, .int .i64 81]) ∧ w.grownBy w' none := by
  obtain ⟨fs, hfs'⟩ := underLf
  have hfs : Hid (Tryz.prog.underlying 25 = some (.struct fs)) := hfs'
  clear hfs'
  obtain ⟨W1, hW1, sz1, g1, B1⟩ := boxn w #[.int .u8 0, .int .u16 0, .int .u16 0] 25
  go_enter Tryz.func20, Tryz.ntmps20
  go_wp2_with (first | (go_at_call 37; (fail_if_success (guard_hyp mk1)); refine (h66 _).mono ?_; rintro e w' ⟨rfl, hw'⟩; subst w'; have mk1 : True := trivial) | (go_at_call 38; (fail_if_success (guard_hyp g3)); refine (hl1 _).mono ?_; rintro e w3 ⟨rfl, g3⟩; have B13 := B1.kept g3 (by simp); have G3 := gb_trans g1 g3; obtain ⟨W4, hW4, sz4, g4, B4⟩ := boxn w3 #[.bool false, .bool false, .bool false, .bool false, .bool false, .bool false, .bool false, .bool false, .bool false, .bool false] 68; have B14 := B13.kept g4 (by simp); have G4 := gb_trans G3 g4; have N31 : Hid (w3.heap.size ≠ w.heap.size) := (by have := B13.lt; unfold Hid; omega)) | (refine wpList_st (op := ⟨_, .store 68 _ _, _, _, _, _⟩) rfl 68 _ _ rfl w3.heap.size (bl (fun j => v1.testBit j)) rfl rfl B4 infoBl rfl (bl_one _) ?_; intro W5 hW5 B5; have B15 : Bo W5 w.heap.size 25 #[.int .u8 0, .int .u16 0, .int .u16 0] := hW5 ▸ B14.row2 N31.out; have G5 : w.grownBy W5 none := hW5 ▸ gb_row2 G4 G3.size) | (refine wpList_st (op := ⟨_, .store 25 _ _, _, _, _, _⟩) rfl 25 _ _ rfl w.heap.size #[.int .u8 0, .int .u16 0, .int .u16 0] rfl rfl B15 infoLf rfl (by simp [Value.oneCell']) ?_; intro W99 hW99 B99))
  refine ret_c3 (g := w.heap.size) (cs := #[.int .u8 0, .int .u16 0, .int .u16 0]) rfl hfs.out infoLf rfl B99 rfl ⟨rfl, hW99 ▸ gb_row2 G5 (Nat.le_refl _)⟩

set_option maxHeartbeats 2000000 in
theorem pdS1 (s : ByteArray) (hs : ¬ (1048576 : Int) < (s.size : Int)) (h66 : ∀ w, Calls Tryz.prog 37 #[.string s, .int .i64 0, .int .u8 66] w fun e w' => e = .returned (.bool true) ∧ w' = w) (a1 v1 : Nat) (hl1 : ∀ w, Calls Tryz.prog 38 #[.string s, .int .i64 1] w fun e w' => e = .returned (.tuple #[.agg (bl (fun j => v1.testBit j)), .int .i64 a1, .int .i64 (-1)]) ∧ w.grownBy w' none) (ha : (s.size : Int) ≤ (a1 : Int)) (w : World) : Calls Tryz.prog 20 #[.string s] w fun e w' => e = .returned (.tuple #[.agg #[.int .u8 0, .int .u16 0, .int .u16 0], .int .i64 a1, .int .i64 80]) ∧ w.grownBy w' none := by
  obtain ⟨fs, hfs'⟩ := underLf
  have hfs : Hid (Tryz.prog.underlying 25 = some (.struct fs)) := hfs'
  clear hfs'
  obtain ⟨W1, hW1, sz1, g1, B1⟩ := boxn w #[.int .u8 0, .int .u16 0, .int .u16 0] 25
  go_enter Tryz.func20, Tryz.ntmps20
  go_wp2_with (first | (go_at_call 37; (fail_if_success (guard_hyp mk1)); refine (h66 _).mono ?_; rintro e w' ⟨rfl, hw'⟩; subst w'; have mk1 : True := trivial) | (go_at_call 38; (fail_if_success (guard_hyp g3)); refine (hl1 _).mono ?_; rintro e w3 ⟨rfl, g3⟩; have B13 := B1.kept g3 (by simp); have G3 := gb_trans g1 g3; obtain ⟨W4, hW4, sz4, g4, B4⟩ := boxn w3 #[.bool false, .bool false, .bool false, .bool false, .bool false, .bool false, .bool false, .bool false, .bool false, .bool false] 68; have B14 := B13.kept g4 (by simp); have G4 := gb_trans G3 g4; have N31 : Hid (w3.heap.size ≠ w.heap.size) := (by have := B13.lt; unfold Hid; omega)) | (refine wpList_st (op := ⟨_, .store 68 _ _, _, _, _, _⟩) rfl 68 _ _ rfl w3.heap.size (bl (fun j => v1.testBit j)) rfl rfl B4 infoBl rfl (bl_one _) ?_; intro W5 hW5 B5; have B15 : Bo W5 w.heap.size 25 #[.int .u8 0, .int .u16 0, .int .u16 0] := hW5 ▸ B14.row2 N31.out; have G5 : w.grownBy W5 none := hW5 ▸ gb_row2 G4 G3.size) | (refine wpList_st (op := ⟨_, .store 25 _ _, _, _, _, _⟩) rfl 25 _ _ rfl w.heap.size #[.int .u8 0, .int .u16 0, .int .u16 0] rfl rfl B15 infoLf rfl (by simp [Value.oneCell']) ?_; intro W99 hW99 B99))
  refine ret_c3 (g := w.heap.size) (cs := #[.int .u8 0, .int .u16 0, .int .u16 0]) rfl hfs.out infoLf rfl B99 rfl ⟨rfl, hW99 ▸ gb_row2 G5 (Nat.le_refl _)⟩

set_option maxHeartbeats 2000000 in
theorem pdS2 (s : ByteArray) (hs : ¬ (1048576 : Int) < (s.size : Int)) (h66 : ∀ w, Calls Tryz.prog 37 #[.string s, .int .i64 0, .int .u8 66] w fun e w' => e = .returned (.bool true) ∧ w' = w) (a1 v1 : Nat) (hl1 : ∀ w, Calls Tryz.prog 38 #[.string s, .int .i64 1] w fun e w' => e = .returned (.tuple #[.agg (bl (fun j => v1.testBit j)), .int .i64 a1, .int .i64 (-1)]) ∧ w.grownBy w' none) (ha : a1 < s.size) (ha1 : ¬ (s.size : Int) ≤ (a1 : Int)) (hc : ¬ ((Sc.bt s a1 : Nat) : Int) = 47) (w : World) : Calls Tryz.prog 20 #[.string s] w fun e w' => e = .returned (.tuple #[.agg #[.int .u8 0, .int .u16 0, .int .u16 0], .int .i64 a1, .int .i64 80]) ∧ w.grownBy w' none := by
  have hbt := Sc.bt_at ha
  have ha2 : (a1 : Int) < (s.size : Int) := by omega
  have ha3 : decide (s.size ≤ a1) = false := by simp; omega
  have hc2 : (((Sc.bt s a1 : Nat) : Int) != 47) = true := by simp; omega
  have hc3 : ¬ Sc.bt s a1 = 47 := by omega
  obtain ⟨fs, hfs'⟩ := underLf
  have hfs : Hid (Tryz.prog.underlying 25 = some (.struct fs)) := hfs'
  clear hfs'
  obtain ⟨W1, hW1, sz1, g1, B1⟩ := boxn w #[.int .u8 0, .int .u16 0, .int .u16 0] 25
  go_enter Tryz.func20, Tryz.ntmps20
  go_wp2_with (first | (go_at_call 37; (fail_if_success (guard_hyp mk1)); refine (h66 _).mono ?_; rintro e w' ⟨rfl, hw'⟩; subst w'; have mk1 : True := trivial) | (go_at_call 38; (fail_if_success (guard_hyp g3)); refine (hl1 _).mono ?_; rintro e w3 ⟨rfl, g3⟩; have B13 := B1.kept g3 (by simp); have G3 := gb_trans g1 g3; obtain ⟨W4, hW4, sz4, g4, B4⟩ := boxn w3 #[.bool false, .bool false, .bool false, .bool false, .bool false, .bool false, .bool false, .bool false, .bool false, .bool false] 68; have B14 := B13.kept g4 (by simp); have G4 := gb_trans G3 g4; have N31 : Hid (w3.heap.size ≠ w.heap.size) := (by have := B13.lt; unfold Hid; omega)) | (refine wpList_st (op := ⟨_, .store 68 _ _, _, _, _, _⟩) rfl 68 _ _ rfl w3.heap.size (bl (fun j => v1.testBit j)) rfl rfl B4 infoBl rfl (bl_one _) ?_; intro W5 hW5 B5; have B15 : Bo W5 w.heap.size 25 #[.int .u8 0, .int .u16 0, .int .u16 0] := hW5 ▸ B14.row2 N31.out; have G5 : w.grownBy W5 none := hW5 ▸ gb_row2 G4 G3.size) | (refine wpList_st (op := ⟨_, .store 25 _ _, _, _, _, _⟩) rfl 25 _ _ rfl w.heap.size #[.int .u8 0, .int .u16 0, .int .u16 0] rfl rfl B15 infoLf rfl (by simp [Value.oneCell']) ?_; intro W99 hW99 B99))
  refine ret_c3 (g := w.heap.size) (cs := #[.int .u8 0, .int .u16 0, .int .u16 0]) rfl hfs.out infoLf rfl B99 rfl ⟨rfl, hW99 ▸ gb_row2 G5 (Nat.le_refl _)⟩

set_option maxHeartbeats 2000000 in
theorem pdS3 (s : ByteArray) (hs : ¬ (1048576 : Int) < (s.size : Int)) (h66 : ∀ w, Calls Tryz.prog 37 #[.string s, .int .i64 0, .int .u8 66] w fun e w' => e = .returned (.bool true) ∧ w' = w) (a1 v1 : Nat) (hl1 : ∀ w, Calls Tryz.prog 38 #[.string s, .int .i64 1] w fun e w' => e = .returned (.tuple #[.agg (bl (fun j => v1.testBit j)), .int .i64 a1, .int .i64 (-1)]) ∧ w.grownBy w' none) (ha : a1 < s.size) (ha1 : ¬ (s.size : Int) ≤ (a1 : Int)) (hc : ((Sc.bt s a1 : Nat) : Int) = 47)(h83 : ∀ w, Calls Tryz.prog 37 #[.string s, .int .i64 ((a1 : Int) + 1), .int .u8 83] w fun e w' => e = .returned (.bool false) ∧ w' = w) (w : World) : Calls Tryz.prog 20 #[.string s] w fun e w' => e = .returned (.tuple #[.agg #[.int .u8 0, .int .u16 0, .int .u16 0], .int .i64 ((a1 : Int) + 1), .int .i64 80]) ∧ w.grownBy w' none := by
  have hbt := Sc.bt_at ha
  have ha2 : (a1 : Int) < (s.size : Int) := by omega
  have ha3 : decide (s.size ≤ a1) = false := by simp; omega
  have hc2 : (((Sc.bt s a1 : Nat) : Int) != 47) = false := by simp; omega
  have hw1 : IntKind.i64.wrap ((a1 : Int) + 1) = (a1 : Int) + 1 := by rw [IntKind.wrap_i64]; omega
  obtain ⟨fs, hfs'⟩ := underLf
  have hfs : Hid (Tryz.prog.underlying 25 = some (.struct fs)) := hfs'
  clear hfs'
  obtain ⟨W1, hW1, sz1, g1, B1⟩ := boxn w #[.int .u8 0, .int .u16 0, .int .u16 0] 25
  go_enter Tryz.func20, Tryz.ntmps20
  go_wp2_with (first | (go_at_call 37; (fail_if_success (guard_hyp mk1)); refine (h66 _).mono ?_; rintro e w' ⟨rfl, hw'⟩; subst w'; have mk1 : True := trivial) | (go_at_call 38; (fail_if_success (guard_hyp g3)); refine (hl1 _).mono ?_; rintro e w3 ⟨rfl, g3⟩; have B13 := B1.kept g3 (by simp); have G3 := gb_trans g1 g3; obtain ⟨W4, hW4, sz4, g4, B4⟩ := boxn w3 #[.bool false, .bool false, .bool false, .bool false, .bool false, .bool false, .bool false, .bool false, .bool false, .bool false] 68; have B14 := B13.kept g4 (by simp); have G4 := gb_trans G3 g4; have N31 : Hid (w3.heap.size ≠ w.heap.size) := (by have := B13.lt; unfold Hid; omega)) | (refine wpList_st (op := ⟨_, .store 68 _ _, _, _, _, _⟩) rfl 68 _ _ rfl w3.heap.size (bl (fun j => v1.testBit j)) rfl rfl B4 infoBl rfl (bl_one _) ?_; intro W5 hW5 B5; have B15 : Bo W5 w.heap.size 25 #[.int .u8 0, .int .u16 0, .int .u16 0] := hW5 ▸ B14.row2 N31.out; have G5 : w.grownBy W5 none := hW5 ▸ gb_row2 G4 G3.size) | (go_at_call 37; (fail_if_success (guard_hyp mk2)); refine (h83 _).mono ?_; rintro e w' ⟨rfl, hw'⟩; subst w'; have mk2 : True := trivial) | (refine wpList_st (op := ⟨_, .store 25 _ _, _, _, _, _⟩) rfl 25 _ _ rfl w.heap.size #[.int .u8 0, .int .u16 0, .int .u16 0] rfl rfl B15 infoLf rfl (by simp [Value.oneCell']) ?_; intro W99 hW99 B99))
  refine ret_c3 (g := w.heap.size) (cs := #[.int .u8 0, .int .u16 0, .int .u16 0]) rfl hfs.out infoLf rfl B99 rfl ⟨rfl, hW99 ▸ gb_row2 G5 (Nat.le_refl _)⟩

set_option maxHeartbeats 2000000 in
theorem pdT2 (s : ByteArray) (hs : ¬ (1048576 : Int) < (s.size : Int)) (h66 : ∀ w, Calls Tryz.prog 37 #[.string s, .int .i64 0, .int .u8 66] w fun e w' => e = .returned (.bool true) ∧ w' = w) (a1 v1 : Nat) (hl1 : ∀ w, Calls Tryz.prog 38 #[.string s, .int .i64 1] w fun e w' => e = .returned (.tuple #[.agg (bl (fun j => v1.testBit j)), .int .i64 a1, .int .i64 (-1)]) ∧ w.grownBy w' none) (ha : a1 < s.size) (ha1 : ¬ (s.size : Int) ≤ (a1 : Int)) (hc : ((Sc.bt s a1 : Nat) : Int) = 47)(h83 : ∀ w, Calls Tryz.prog 37 #[.string s, .int .i64 ((a1 : Int) + 1), .int .u8 83] w fun e w' => e = .returned (.bool true) ∧ w' = w) (a2 v2 : Nat) (hl2 : ∀ w, Calls Tryz.prog 38 #[.string s, .int .i64 ((a1 : Int) + 1 + 1)] w fun e w' => e = .returned (.tuple #[.agg (bl (fun j => v2.testBit j)), .int .i64 a2, .int .i64 a2]) ∧ w.grownBy w' none) (w : World) : Calls Tryz.prog 20 #[.string s] w fun e w' => e = .returned (.tuple #[.agg #[.int .u8 0, .int .u16 0, .int .u16 0], .int .i64 a2, .int .i64 81]) ∧ w.grownBy w' none := by
  have hbt := Sc.bt_at ha
  have ha2 : (a1 : Int) < (s.size : Int) := by omega
  have ha3 : decide (s.size ≤ a1) = false := by simp; omega
  have hc2 : (((Sc.bt s a1 : Nat) : Int) != 47) = false := by simp; omega
  have hw1 : IntKind.i64.wrap ((a1 : Int) + 1) = (a1 : Int) + 1 := by rw [IntKind.wrap_i64]; omega
  have hw2 : IntKind.i64.wrap ((a1 : Int) + 1 + 1) = (a1 : Int) + 1 + 1 := by rw [IntKind.wrap_i64]; omega
  obtain ⟨fs, hfs'⟩ := underLf
  have hfs : Hid (Tryz.prog.underlying 25 = some (.struct fs)) := hfs'
  clear hfs'
  obtain ⟨W1, hW1, sz1, g1, B1⟩ := boxn w #[.int .u8 0, .int .u16 0, .int .u16 0] 25
  go_enter Tryz.func20, Tryz.ntmps20
  go_wp2_with (first | (go_at_call 37; (fail_if_success (guard_hyp mk1)); refine (h66 _).mono ?_; rintro e w' ⟨rfl, hw'⟩; subst w'; have mk1 : True := trivial) | (go_at_call 38; (fail_if_success (guard_hyp g3)); refine (hl1 _).mono ?_; rintro e w3 ⟨rfl, g3⟩; have B13 := B1.kept g3 (by simp); have G3 := gb_trans g1 g3; obtain ⟨W4, hW4, sz4, g4, B4⟩ := boxn w3 #[.bool false, .bool false, .bool false, .bool false, .bool false, .bool false, .bool false, .bool false, .bool false, .bool false] 68; have B14 := B13.kept g4 (by simp); have G4 := gb_trans G3 g4; have N31 : Hid (w3.heap.size ≠ w.heap.size) := (by have := B13.lt; unfold Hid; omega)) | (refine wpList_st (op := ⟨_, .store 68 _ _, _, _, _, _⟩) rfl 68 _ _ rfl w3.heap.size (bl (fun j => v1.testBit j)) rfl rfl B4 infoBl rfl (bl_one _) ?_; intro W5 hW5 B5; have B15 : Bo W5 w.heap.size 25 #[.int .u8 0, .int .u16 0, .int .u16 0] := hW5 ▸ B14.row2 N31.out; have G5 : w.grownBy W5 none := hW5 ▸ gb_row2 G4 G3.size) | (go_at_call 37; (fail_if_success (guard_hyp mk2)); refine (h83 _).mono ?_; rintro e w' ⟨rfl, hw'⟩; subst w'; have mk2 : True := trivial) | (go_at_call 38; (fail_if_success (guard_hyp g6)); refine (hl2 _).mono ?_; rintro e w6 ⟨rfl, g6⟩; have B16 := B15.kept g6 (by simp); have B56 := B5.kept g6 (by simp); have G6 := gb_trans G5 g6; obtain ⟨W7, hW7, sz7, g7, B7⟩ := boxn w6 #[.bool false, .bool false, .bool false, .bool false, .bool false, .bool false, .bool false, .bool false, .bool false, .bool false] 68; have B17 := B16.kept g7 (by simp); have B57 := B56.kept g7 (by simp); have G7 := gb_trans G6 g7; have N61 : Hid (w6.heap.size ≠ w.heap.size) := (by have := B16.lt; unfold Hid; omega); have N63 : Hid (w6.heap.size ≠ w3.heap.size) := (by have := B56.lt; unfold Hid; omega)) | (refine wpList_st (op := ⟨_, .store 68 _ _, _, _, _, _⟩) rfl 68 _ _ rfl w6.heap.size (bl (fun j => v2.testBit j)) rfl rfl B7 infoBl rfl (bl_one _) ?_; intro W8 hW8 B8; have B18 : Bo W8 w.heap.size 25 #[.int .u8 0, .int .u16 0, .int .u16 0] := hW8 ▸ B17.row2 N61.out; have B58 : Bo W8 w3.heap.size 68 (bl (fun j => v1.testBit j)) := hW8 ▸ B57.row2 N63.out; have G8 : w.grownBy W8 none := hW8 ▸ gb_row2 G7 G6.size) | (refine wpList_st (op := ⟨_, .store 25 _ _, _, _, _, _⟩) rfl 25 _ _ rfl w.heap.size #[.int .u8 0, .int .u16 0, .int .u16 0] rfl rfl B18 infoLf rfl (by simp [Value.oneCell']) ?_; intro W99 hW99 B99))
  refine ret_c3 (g := w.heap.size) (cs := #[.int .u8 0, .int .u16 0, .int .u16 0]) rfl hfs.out infoLf rfl B99 rfl ⟨rfl, hW99 ▸ gb_row2 G8 (Nat.le_refl _)⟩
end Go.Proofs.YtlkdenanbofliaaGreatDoor
