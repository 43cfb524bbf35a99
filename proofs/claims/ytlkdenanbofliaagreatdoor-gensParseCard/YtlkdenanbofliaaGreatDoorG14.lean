/- What Parse of the document answers, outcome by outcome. -/
import Derived.Test.YtlkdenanbofliaaGreatDoorG12
import Derived.Test.YtlkdenanbofliaaGreatDoorG6
namespace Go.Proofs.YtlkdenanbofliaaGreatDoor
open Go.RowKit
set_option linter.unusedVariables false
set_option linter.unusedSimpArgs false
set_option maxRecDepth 100000

set_option maxHeartbeats 1000000 in
theorem gpdLong (s : ByteArray) (w : World) (hs : (1048576 : Int) < s.size) : Calls Tryz.prog 9 #[.string s] w fun e w' => e = .returned (.tuple #[.agg #[.int .u8 0, .int .u16 0, .int .u16 0, .int .i64 0], .int .i64 0, .int .i64 3]) ∧ w.grownBy w' none := by
  obtain ⟨fs, hfs'⟩ := underGs
  have hfs : Hid (Tryz.prog.underlying 27 = some (.struct fs)) := hfs'
  clear hfs'
  obtain ⟨W1, hW1, sz1, g1, R1⟩ := boxn w #[.int .u8 0, .int .u16 0, .int .u16 0, .int .i64 0] 27
  go_enter Tryz.func9, Tryz.ntmps9
  go_wp2_with (first | (refine wpList_st (op := ⟨_, .store 27 _ _, _, _, _, _⟩) rfl 27 _ _ rfl w.heap.size #[.int .u8 0, .int .u16 0, .int .u16 0, .int .i64 0] rfl rfl R1 infoGs rfl (by simp [Value.oneCell']) ?_; intro W9 hW9 B9))
  refine ret_c3 (g := w.heap.size) (cs := #[.int .u8 0, .int .u16 0, .int .u16 0, .int .i64 0]) rfl hfs.out infoGs rfl B9 rfl ⟨rfl, hW9 ▸ gb_row2 g1 (Nat.le_refl _)⟩

set_option maxHeartbeats 2000000 in
theorem gpdB1 (s : ByteArray) (w : World) (hs : ¬ (1048576 : Int) < s.size) (q : Nat) (hq : q ≤ s.size) (h0 : 0 < s.size) (hB : Sc.bt s 0 = 66) (ho bo st a er : Nat) (her : er < 256) (he : ¬ ((er : Nat) : Int) = 0) (hsl : ∀ w, Calls Tryz.prog 19 #[.string s] w fun e w' => e = .returned (.int .i64 q) ∧ w.grownBy w' none) (hx : ∀ w, Calls Tryz.prog 20 #[.string (s.extract 0 q)] w fun e w' => e = .returned (.tuple #[.agg #[.int .u8 ho, .int .u16 bo, .int .u16 st], .int .i64 a, .int .i64 er]) ∧ w.grownBy w' none) : Calls Tryz.prog 9 #[.string s] w fun e w' => e = .returned (.tuple #[.agg #[.int .u8 0, .int .u16 0, .int .u16 0, .int .i64 0], .int .i64 a, .int .i64 er]) ∧ w.grownBy w' none := by
  have hq' : (q : Int) ≤ (s.size : Int) := by omega
  have hqw : IntKind.i64.wrap ((q : Int) + 1) = (q : Int) + 1 := by rw [IntKind.wrap_i64]; omega
  have hwe : IntKind.i64.wrap (er : Int) = (er : Int) := by rw [IntKind.wrap_i64]; omega
  have hbt := Sc.bt_at h0
  have hem : s.toList.isEmpty = false := Nu.empty_no (by omega)
  have h0' : (0 : Int) < (s.size : Int) := by omega
  have b1 : ((Sc.bt s 0 : Nat) : Int) = 66 := by omega
  have b1' : (((Sc.bt s 0 : Nat) : Int) == 66) = true := by simp; omega
  clear hB
  obtain ⟨fs, hfs'⟩ := underGs
  have hfs : Hid (Tryz.prog.underlying 27 = some (.struct fs)) := hfs'
  clear hfs'
  obtain ⟨W1, hW1, sz1, g1, R1⟩ := boxn w #[.int .u8 0, .int .u16 0, .int .u16 0, .int .i64 0] 27
  go_enter Tryz.func9, Tryz.ntmps9
  go_wp2_with (first | (go_at_call 19; refine (hsl _).mono ?_; rintro e w2 ⟨rfl, g2⟩; have R2 := R1.kept g2 (by simp); have G2 := gb_trans g1 g2; obtain ⟨W3, hW3, sz3, g3, L3⟩ := boxn w2 #[.int .u8 0, .int .u16 0, .int .u16 0] 25; have R3 := R2.kept g3 (by simp); have G3 := gb_trans G2 g3; have HN : Hid (w2.heap.size ≠ w.heap.size) := by (have h1 := sz1.out; have h2 := g2.size; unfold Hid; omega)) | (go_at_call 20; refine (hx _).mono ?_; rintro e w4 ⟨rfl, g4⟩; have R4 := R3.kept g4 (by simp); have L4 := L3.kept g4 (by simp); have G4 := gb_trans G3 g4; obtain ⟨W5, hW5, sz5, g5, X5⟩ := boxn w4 #[.int .u8 ho, .int .u16 bo, .int .u16 st] 25; have R5 := R4.kept g5 (by simp); have L5 := L4.kept g5 (by simp); have G5 := gb_trans G4 g5; have x0 := X5.cell 0 (v := .int .u8 ho) rfl; have x1 := X5.cell 1 (v := .int .u16 bo) rfl; have x2 := X5.cell 2 (v := .int .u16 st) rfl) | ((fail_if_success (guard_hyp L6)); refine wpList_st (op := ⟨_, .store 25 _ _, _, _, _, _⟩) rfl 25 _ _ rfl w2.heap.size #[.int .u8 ho, .int .u16 bo, .int .u16 st] rfl rfl L5 infoLf rfl (by simp [Value.oneCell']) ?_; intro W6 hW6 L6; have R6 : Bo W6 w.heap.size 27 #[.int .u8 0, .int .u16 0, .int .u16 0, .int .i64 0] := hW6 ▸ R5.row2 HN.out; have G6 : w.grownBy W6 none := hW6 ▸ gb_rowset G5 G2.size; have l0 := L6.cell 0 (v := .int .u8 ho) rfl; have l1 := L6.cell 1 (v := .int .u16 bo) rfl; have l2 := L6.cell 2 (v := .int .u16 st) rfl) | (refine wpList_st (op := ⟨_, .store 27 _ _, _, _, _, _⟩) rfl 27 _ _ rfl w.heap.size #[.int .u8 0, .int .u16 0, .int .u16 0, .int .i64 0] rfl rfl R6 infoGs rfl (by simp [Value.oneCell']) ?_; intro W9 hW9 B9))
  refine ret_c3 (g := w.heap.size) (cs := #[.int .u8 0, .int .u16 0, .int .u16 0, .int .i64 0]) rfl hfs.out infoGs rfl B9 rfl ⟨rfl, hW9 ▸ gb_row2 G6 (Nat.le_refl _)⟩
set_option maxHeartbeats 2000000 in
theorem gpdB2 (s : ByteArray) (w : World) (hs : ¬ (1048576 : Int) < s.size) (q : Nat) (hq : q ≤ s.size) (h0 : 0 < s.size) (hB : Sc.bt s 0 = 66) (ho bo st a : Nat) (hqe : q = s.size) (hsl : ∀ w, Calls Tryz.prog 19 #[.string s] w fun e w' => e = .returned (.int .i64 q) ∧ w.grownBy w' none) (hx : ∀ w, Calls Tryz.prog 20 #[.string (s.extract 0 q)] w fun e w' => e = .returned (.tuple #[.agg #[.int .u8 ho, .int .u16 bo, .int .u16 st], .int .i64 a, .int .i64 0]) ∧ w.grownBy w' none) : Calls Tryz.prog 9 #[.string s] w fun e w' => e = .returned (.tuple #[.agg #[.int .u8 0, .int .u16 0, .int .u16 0, .int .i64 0], .int .i64 q, .int .i64 90]) ∧ w.grownBy w' none := by
  have hq' : (q : Int) ≤ (s.size : Int) := by omega
  have hqw : IntKind.i64.wrap ((q : Int) + 1) = (q : Int) + 1 := by rw [IntKind.wrap_i64]; omega
  have e1 : ((q : Int) == (s.size : Int)) = true := by simp; omega
  clear hqe
  have hbt := Sc.bt_at h0
  have hem : s.toList.isEmpty = false := Nu.empty_no (by omega)
  have h0' : (0 : Int) < (s.size : Int) := by omega
  have b1 : ((Sc.bt s 0 : Nat) : Int) = 66 := by omega
  have b1' : (((Sc.bt s 0 : Nat) : Int) == 66) = true := by simp; omega
  clear hB
  obtain ⟨fs, hfs'⟩ := underGs
  have hfs : Hid (Tryz.prog.underlying 27 = some (.struct fs)) := hfs'
  clear hfs'
  obtain ⟨W1, hW1, sz1, g1, R1⟩ := boxn w #[.int .u8 0, .int .u16 0, .int .u16 0, .int .i64 0] 27
  go_enter Tryz.func9, Tryz.ntmps9
  go_wp2_with (first | (go_at_call 19; refine (hsl _).mono ?_; rintro e w2 ⟨rfl, g2⟩; have R2 := R1.kept g2 (by simp); have G2 := gb_trans g1 g2; obtain ⟨W3, hW3, sz3, g3, L3⟩ := boxn w2 #[.int .u8 0, .int .u16 0, .int .u16 0] 25; have R3 := R2.kept g3 (by simp); have G3 := gb_trans G2 g3; have HN : Hid (w2.heap.size ≠ w.heap.size) := by (have h1 := sz1.out; have h2 := g2.size; unfold Hid; omega)) | (go_at_call 20; refine (hx _).mono ?_; rintro e w4 ⟨rfl, g4⟩; have R4 := R3.kept g4 (by simp); have L4 := L3.kept g4 (by simp); have G4 := gb_trans G3 g4; obtain ⟨W5, hW5, sz5, g5, X5⟩ := boxn w4 #[.int .u8 ho, .int .u16 bo, .int .u16 st] 25; have R5 := R4.kept g5 (by simp); have L5 := L4.kept g5 (by simp); have G5 := gb_trans G4 g5; have x0 := X5.cell 0 (v := .int .u8 ho) rfl; have x1 := X5.cell 1 (v := .int .u16 bo) rfl; have x2 := X5.cell 2 (v := .int .u16 st) rfl) | ((fail_if_success (guard_hyp L6)); refine wpList_st (op := ⟨_, .store 25 _ _, _, _, _, _⟩) rfl 25 _ _ rfl w2.heap.size #[.int .u8 ho, .int .u16 bo, .int .u16 st] rfl rfl L5 infoLf rfl (by simp [Value.oneCell']) ?_; intro W6 hW6 L6; have R6 : Bo W6 w.heap.size 27 #[.int .u8 0, .int .u16 0, .int .u16 0, .int .i64 0] := hW6 ▸ R5.row2 HN.out; have G6 : w.grownBy W6 none := hW6 ▸ gb_rowset G5 G2.size; have l0 := L6.cell 0 (v := .int .u8 ho) rfl; have l1 := L6.cell 1 (v := .int .u16 bo) rfl; have l2 := L6.cell 2 (v := .int .u16 st) rfl) | (refine wpList_st (op := ⟨_, .store 27 _ _, _, _, _, _⟩) rfl 27 _ _ rfl w.heap.size #[.int .u8 0, .int .u16 0, .int .u16 0, .int .i64 0] rfl rfl R6 infoGs rfl (by simp [Value.oneCell']) ?_; intro W9 hW9 B9))
  refine ret_c3 (g := w.heap.size) (cs := #[.int .u8 0, .int .u16 0, .int .u16 0, .int .i64 0]) rfl hfs.out infoGs rfl B9 rfl ⟨rfl, hW9 ▸ gb_row2 G6 (Nat.le_refl _)⟩
set_option maxHeartbeats 2000000 in
theorem gpdB3 (s : ByteArray) (w : World) (hs : ¬ (1048576 : Int) < s.size) (q : Nat) (hq : q ≤ s.size) (h0 : 0 < s.size) (hB : Sc.bt s 0 = 66) (ho bo st a n b : Nat) (hqe : ¬ q = s.size) (hsl : ∀ w, Calls Tryz.prog 19 #[.string s] w fun e w' => e = .returned (.int .i64 q) ∧ w.grownBy w' none) (hx : ∀ w, Calls Tryz.prog 20 #[.string (s.extract 0 q)] w fun e w' => e = .returned (.tuple #[.agg #[.int .u8 ho, .int .u16 bo, .int .u16 st], .int .i64 a, .int .i64 0]) ∧ w.grownBy w' none) (hst : ∀ w, Calls Tryz.prog 22 #[.string s, .int .i64 ((q : Int) + 1)] w fun e w' => e = .returned (.tuple #[.int .i64 n, .int .i64 b, .bool false]) ∧ w.grownBy w' none) : Calls Tryz.prog 9 #[.string s] w fun e w' => e = .returned (.tuple #[.agg #[.int .u8 0, .int .u16 0, .int .u16 0, .int .i64 0], .int .i64 b, .int .i64 90]) ∧ w.grownBy w' none := by
  have hq' : (q : Int) ≤ (s.size : Int) := by omega
  have hqw : IntKind.i64.wrap ((q : Int) + 1) = (q : Int) + 1 := by rw [IntKind.wrap_i64]; omega
  have e1 : ((q : Int) == (s.size : Int)) = false := by simp; omega
  have e1' : ¬ (q : Int) = (s.size : Int) := by omega
  have hbt := Sc.bt_at h0
  have hem : s.toList.isEmpty = false := Nu.empty_no (by omega)
  have h0' : (0 : Int) < (s.size : Int) := by omega
  have b1 : ((Sc.bt s 0 : Nat) : Int) = 66 := by omega
  have b1' : (((Sc.bt s 0 : Nat) : Int) == 66) = true := by simp; omega
  clear hB
  obtain ⟨fs, hfs'⟩ := underGs
  have hfs : Hid (Tryz.prog.underlying 27 = some (.struct fs)) := hfs'
  clear hfs'
  obtain ⟨W1, hW1, sz1, g1, R1⟩ := boxn w #[.int .u8 0, .int .u16 0, .int .u16 0, .int .i64 0] 27
  go_enter Tryz.func9, Tryz.ntmps9
  go_wp2_with (first | (go_at_call 19; refine (hsl _).mono ?_; rintro e w2 ⟨rfl, g2⟩; have R2 := R1.kept g2 (by simp); have G2 := gb_trans g1 g2; obtain ⟨W3, hW3, sz3, g3, L3⟩ := boxn w2 #[.int .u8 0, .int .u16 0, .int .u16 0] 25; have R3 := R2.kept g3 (by simp); have G3 := gb_trans G2 g3; have HN : Hid (w2.heap.size ≠ w.heap.size) := by (have h1 := sz1.out; have h2 := g2.size; unfold Hid; omega)) | (go_at_call 20; refine (hx _).mono ?_; rintro e w4 ⟨rfl, g4⟩; have R4 := R3.kept g4 (by simp); have L4 := L3.kept g4 (by simp); have G4 := gb_trans G3 g4; obtain ⟨W5, hW5, sz5, g5, X5⟩ := boxn w4 #[.int .u8 ho, .int .u16 bo, .int .u16 st] 25; have R5 := R4.kept g5 (by simp); have L5 := L4.kept g5 (by simp); have G5 := gb_trans G4 g5; have x0 := X5.cell 0 (v := .int .u8 ho) rfl; have x1 := X5.cell 1 (v := .int .u16 bo) rfl; have x2 := X5.cell 2 (v := .int .u16 st) rfl) | ((fail_if_success (guard_hyp L6)); refine wpList_st (op := ⟨_, .store 25 _ _, _, _, _, _⟩) rfl 25 _ _ rfl w2.heap.size #[.int .u8 ho, .int .u16 bo, .int .u16 st] rfl rfl L5 infoLf rfl (by simp [Value.oneCell']) ?_; intro W6 hW6 L6; have R6 : Bo W6 w.heap.size 27 #[.int .u8 0, .int .u16 0, .int .u16 0, .int .i64 0] := hW6 ▸ R5.row2 HN.out; have G6 : w.grownBy W6 none := hW6 ▸ gb_rowset G5 G2.size; have l0 := L6.cell 0 (v := .int .u8 ho) rfl; have l1 := L6.cell 1 (v := .int .u16 bo) rfl; have l2 := L6.cell 2 (v := .int .u16 st) rfl) | (go_at_call 22; refine (hst _).mono ?_; rintro e w7 ⟨rfl, g7⟩; have R7 := R6.kept g7 (by simp); have L7 := L6.kept g7 (by simp); have G7 := gb_trans G6 g7; have m0 := L7.cell 0 (v := .int .u8 ho) rfl; have m1 := L7.cell 1 (v := .int .u16 bo) rfl; have m2 := L7.cell 2 (v := .int .u16 st) rfl) | (refine wpList_st (op := ⟨_, .store 27 _ _, _, _, _, _⟩) rfl 27 _ _ rfl w.heap.size #[.int .u8 0, .int .u16 0, .int .u16 0, .int .i64 0] rfl rfl R7 infoGs rfl (by simp [Value.oneCell']) ?_; intro W9 hW9 B9))
  refine ret_c3 (g := w.heap.size) (cs := #[.int .u8 0, .int .u16 0, .int .u16 0, .int .i64 0]) rfl hfs.out infoGs rfl B9 rfl ⟨rfl, hW9 ▸ gb_row2 G7 (Nat.le_refl _)⟩
set_option maxHeartbeats 2000000 in
theorem gpdB4 (s : ByteArray) (w : World) (hs : ¬ (1048576 : Int) < s.size) (q : Nat) (hq : q ≤ s.size) (h0 : 0 < s.size) (hB : Sc.bt s 0 = 66) (ho bo st a n b : Nat) (hqe : ¬ q = s.size) (hsl : ∀ w, Calls Tryz.prog 19 #[.string s] w fun e w' => e = .returned (.int .i64 q) ∧ w.grownBy w' none) (hx : ∀ w, Calls Tryz.prog 20 #[.string (s.extract 0 q)] w fun e w' => e = .returned (.tuple #[.agg #[.int .u8 ho, .int .u16 bo, .int .u16 st], .int .i64 a, .int .i64 0]) ∧ w.grownBy w' none) (hst : ∀ w, Calls Tryz.prog 22 #[.string s, .int .i64 ((q : Int) + 1)] w fun e w' => e = .returned (.tuple #[.int .i64 n, .int .i64 b, .bool true]) ∧ w.grownBy w' none) : Calls Tryz.prog 9 #[.string s] w fun e w' => e = .returned (.tuple #[.agg #[.int .u8 ho, .int .u16 bo, .int .u16 st, .int .i64 n], .int .i64 0, .int .i64 0]) ∧ w.grownBy w' none := by
  have hq' : (q : Int) ≤ (s.size : Int) := by omega
  have hqw : IntKind.i64.wrap ((q : Int) + 1) = (q : Int) + 1 := by rw [IntKind.wrap_i64]; omega
  have e1 : ((q : Int) == (s.size : Int)) = false := by simp; omega
  have e1' : ¬ (q : Int) = (s.size : Int) := by omega
  have hbt := Sc.bt_at h0
  have hem : s.toList.isEmpty = false := Nu.empty_no (by omega)
  have h0' : (0 : Int) < (s.size : Int) := by omega
  have b1 : ((Sc.bt s 0 : Nat) : Int) = 66 := by omega
  have b1' : (((Sc.bt s 0 : Nat) : Int) == 66) = true := by simp; omega
  clear hB
  obtain ⟨fs, hfs'⟩ := underGs
  have hfs : Hid (Tryz.prog.underlying 27 = some (.struct fs)) := hfs'
  clear hfs'
  obtain ⟨W1, hW1, sz1, g1, R1⟩ := boxn w #[.int .u8 0, .int .u16 0, .int .u16 0, .int .i64 0] 27
  go_enter Tryz.func9, Tryz.ntmps9
  go_wp2_with (first | (go_at_call 19; refine (hsl _).mono ?_; rintro e w2 ⟨rfl, g2⟩; have R2 := R1.kept g2 (by simp); have G2 := gb_trans g1 g2; obtain ⟨W3, hW3, sz3, g3, L3⟩ := boxn w2 #[.int .u8 0, .int .u16 0, .int .u16 0] 25; have R3 := R2.kept g3 (by simp); have G3 := gb_trans G2 g3; have HN : Hid (w2.heap.size ≠ w.heap.size) := by (have h1 := sz1.out; have h2 := g2.size; unfold Hid; omega)) | (go_at_call 20; refine (hx _).mono ?_; rintro e w4 ⟨rfl, g4⟩; have R4 := R3.kept g4 (by simp); have L4 := L3.kept g4 (by simp); have G4 := gb_trans G3 g4; obtain ⟨W5, hW5, sz5, g5, X5⟩ := boxn w4 #[.int .u8 ho, .int .u16 bo, .int .u16 st] 25; have R5 := R4.kept g5 (by simp); have L5 := L4.kept g5 (by simp); have G5 := gb_trans G4 g5; have x0 := X5.cell 0 (v := .int .u8 ho) rfl; have x1 := X5.cell 1 (v := .int .u16 bo) rfl; have x2 := X5.cell 2 (v := .int .u16 st) rfl) | ((fail_if_success (guard_hyp L6)); refine wpList_st (op := ⟨_, .store 25 _ _, _, _, _, _⟩) rfl 25 _ _ rfl w2.heap.size #[.int .u8 ho, .int .u16 bo, .int .u16 st] rfl rfl L5 infoLf rfl (by simp [Value.oneCell']) ?_; intro W6 hW6 L6; have R6 : Bo W6 w.heap.size 27 #[.int .u8 0, .int .u16 0, .int .u16 0, .int .i64 0] := hW6 ▸ R5.row2 HN.out; have G6 : w.grownBy W6 none := hW6 ▸ gb_rowset G5 G2.size; have l0 := L6.cell 0 (v := .int .u8 ho) rfl; have l1 := L6.cell 1 (v := .int .u16 bo) rfl; have l2 := L6.cell 2 (v := .int .u16 st) rfl) | (go_at_call 22; refine (hst _).mono ?_; rintro e w7 ⟨rfl, g7⟩; have R7 := R6.kept g7 (by simp); have L7 := L6.kept g7 (by simp); have G7 := gb_trans G6 g7; have m0 := L7.cell 0 (v := .int .u8 ho) rfl; have m1 := L7.cell 1 (v := .int .u16 bo) rfl; have m2 := L7.cell 2 (v := .int .u16 st) rfl) | (refine wpList_st (op := ⟨_, .store 27 _ _, _, _, _, _⟩) rfl 27 _ _ rfl w.heap.size #[.int .u8 ho, .int .u16 bo, .int .u16 st, .int .i64 n] rfl rfl R7 infoGs rfl (by simp [Value.oneCell']) ?_; intro W9 hW9 B9))
  refine ret_c3 (g := w.heap.size) (cs := #[.int .u8 ho, .int .u16 bo, .int .u16 st, .int .i64 n]) rfl hfs.out infoGs rfl B9 rfl ⟨rfl, hW9 ▸ gb_row2 G7 (Nat.le_refl _)⟩

set_option maxHeartbeats 2000000 in
theorem gpdb1 (s : ByteArray) (w : World) (hs : ¬ (1048576 : Int) < s.size) (q : Nat) (hq : q ≤ s.size) (h0 : 0 < s.size) (hB : Sc.bt s 0 = 98) (ho bo st a er : Nat) (her : er < 256) (he : ¬ ((er : Nat) : Int) = 0) (hsl : ∀ w, Calls Tryz.prog 19 #[.string s] w fun e w' => e = .returned (.int .i64 q) ∧ w.grownBy w' none) (hx : ∀ w, Calls Tryz.prog 20 #[.string (s.extract 0 q)] w fun e w' => e = .returned (.tuple #[.agg #[.int .u8 ho, .int .u16 bo, .int .u16 st], .int .i64 a, .int .i64 er]) ∧ w.grownBy w' none) : Calls Tryz.prog 9 #[.string s] w fun e w' => e = .returned (.tuple #[.agg #[.int .u8 0, .int .u16 0, .int .u16 0, .int .i64 0], .int .i64 a, .int .i64 er]) ∧ w.grownBy w' none := by
  have hq' : (q : Int) ≤ (s.size : Int) := by omega
  have hqw : IntKind.i64.wrap ((q : Int) + 1) = (q : Int) + 1 := by rw [IntKind.wrap_i64]; omega
  have hwe : IntKind.i64.wrap (er : Int) = (er : Int) := by rw [IntKind.wrap_i64]; omega
  have hbt := Sc.bt_at h0
  have hem : s.toList.isEmpty = false := Nu.empty_no (by omega)
  have h0' : (0 : Int) < (s.size : Int) := by omega
  have b1 : ((Sc.bt s 0 : Nat) : Int) = 98 := by omega
  have b0' : (((Sc.bt s 0 : Nat) : Int) == 66) = false := by simp; omega
  have b1' : (((Sc.bt s 0 : Nat) : Int) == 98) = true := by simp; omega
  clear hB
  obtain ⟨fs, hfs'⟩ := underGs
  have hfs : Hid (Tryz.prog.underlying 27 = some (.struct fs)) := hfs'
  clear hfs'
  obtain ⟨W1, hW1, sz1, g1, R1⟩ := boxn w #[.int .u8 0, .int .u16 0, .int .u16 0, .int .i64 0] 27
  go_enter Tryz.func9, Tryz.ntmps9
  go_wp2_with (first | (go_at_call 19; refine (hsl _).mono ?_; rintro e w2 ⟨rfl, g2⟩; have R2 := R1.kept g2 (by simp); have G2 := gb_trans g1 g2; obtain ⟨W3, hW3, sz3, g3, L3⟩ := boxn w2 #[.int .u8 0, .int .u16 0, .int .u16 0] 25; have R3 := R2.kept g3 (by simp); have G3 := gb_trans G2 g3; have HN : Hid (w2.heap.size ≠ w.heap.size) := by (have h1 := sz1.out; have h2 := g2.size; unfold Hid; omega)) | (go_at_call 20; refine (hx _).mono ?_; rintro e w4 ⟨rfl, g4⟩; have R4 := R3.kept g4 (by simp); have L4 := L3.kept g4 (by simp); have G4 := gb_trans G3 g4; obtain ⟨W5, hW5, sz5, g5, X5⟩ := boxn w4 #[.int .u8 ho, .int .u16 bo, .int .u16 st] 25; have R5 := R4.kept g5 (by simp); have L5 := L4.kept g5 (by simp); have G5 := gb_trans G4 g5; have x0 := X5.cell 0 (v := .int .u8 ho) rfl; have x1 := X5.cell 1 (v := .int .u16 bo) rfl; have x2 := X5.cell 2 (v := .int .u16 st) rfl) | ((fail_if_success (guard_hyp L6)); refine wpList_st (op := ⟨_, .store 25 _ _, _, _, _, _⟩) rfl 25 _ _ rfl w2.heap.size #[.int .u8 ho, .int .u16 bo, .int .u16 st] rfl rfl L5 infoLf rfl (by simp [Value.oneCell']) ?_; intro W6 hW6 L6; have R6 : Bo W6 w.heap.size 27 #[.int .u8 0, .int .u16 0, .int .u16 0, .int .i64 0] := hW6 ▸ R5.row2 HN.out; have G6 : w.grownBy W6 none := hW6 ▸ gb_rowset G5 G2.size; have l0 := L6.cell 0 (v := .int .u8 ho) rfl; have l1 := L6.cell 1 (v := .int .u16 bo) rfl; have l2 := L6.cell 2 (v := .int .u16 st) rfl) | (refine wpList_st (op := ⟨_, .store 27 _ _, _, _, _, _⟩) rfl 27 _ _ rfl w.heap.size #[.int .u8 0, .int .u16 0, .int .u16 0, .int .i64 0] rfl rfl R6 infoGs rfl (by simp [Value.oneCell']) ?_; intro W9 hW9 B9))
  refine ret_c3 (g := w.heap.size) (cs := #[.int .u8 0, .int .u16 0, .int .u16 0, .int .i64 0]) rfl hfs.out infoGs rfl B9 rfl ⟨rfl, hW9 ▸ gb_row2 G6 (Nat.le_refl _)⟩
set_option maxHeartbeats 2000000 in
theorem gpdb2 (s : ByteArray) (w : World) (hs : ¬ (1048576 : Int) < s.size) (q : Nat) (hq : q ≤ s.size) (h0 : 0 < s.size) (hB : Sc.bt s 0 = 98) (ho bo st a : Nat) (hqe : q = s.size) (hsl : ∀ w, Calls Tryz.prog 19 #[.string s] w fun e w' => e = .returned (.int .i64 q) ∧ w.grownBy w' none) (hx : ∀ w, Calls Tryz.prog 20 #[.string (s.extract 0 q)] w fun e w' => e = .returned (.tuple #[.agg #[.int .u8 ho, .int .u16 bo, .int .u16 st], .int .i64 a, .int .i64 0]) ∧ w.grownBy w' none) : Calls Tryz.prog 9 #[.string s] w fun e w' => e = .returned (.tuple #[.agg #[.int .u8 0, .int .u16 0, .int .u16 0, .int .i64 0], .int .i64 q, .int .i64 90]) ∧ w.grownBy w' none := by
  have hq' : (q : Int) ≤ (s.size : Int) := by omega
  have hqw : IntKind.i64.wrap ((q : Int) + 1) = (q : Int) + 1 := by rw [IntKind.wrap_i64]; omega
  have e1 : ((q : Int) == (s.size : Int)) = true := by simp; omega
  clear hqe
  have hbt := Sc.bt_at h0
  have hem : s.toList.isEmpty = false := Nu.empty_no (by omega)
  have h0' : (0 : Int) < (s.size : Int) := by omega
  have b1 : ((Sc.bt s 0 : Nat) : Int) = 98 := by omega
  have b0' : (((Sc.bt s 0 : Nat) : Int) == 66) = false := by simp; omega
  have b1' : (((Sc.bt s 0 : Nat) : Int) == 98) = true := by simp; omega
  clear hB
  obtain ⟨fs, hfs'⟩ := underGs
  have hfs : Hid (Tryz.prog.underlying 27 = some (.struct fs)) := hfs'
  clear hfs'
  obtain ⟨W1, hW1, sz1, g1, R1⟩ := boxn w #[.int .u8 0, .int .u16 0, .int .u16 0, .int .i64 0] 27
  go_enter Tryz.func9, Tryz.ntmps9
  go_wp2_with (first | (go_at_call 19; refine (hsl _).mono ?_; rintro e w2 ⟨rfl, g2⟩; have R2 := R1.kept g2 (by simp); have G2 := gb_trans g1 g2; obtain ⟨W3, hW3, sz3, g3, L3⟩ := boxn w2 #[.int .u8 0, .int .u16 0, .int .u16 0] 25; have R3 := R2.kept g3 (by simp); have G3 := gb_trans G2 g3; have HN : Hid (w2.heap.size ≠ w.heap.size) := by (have h1 := sz1.out; have h2 := g2.size; unfold Hid; omega)) | (go_at_call 20; refine (hx _).mono ?_; rintro e w4 ⟨rfl, g4⟩; have R4 := R3.kept g4 (by simp); have L4 := L3.kept g4 (by simp); have G4 := gb_trans G3 g4; obtain ⟨W5, hW5, sz5, g5, X5⟩ := boxn w4 #[.int .u8 ho, .int .u16 bo, .int .u16 st] 25; have R5 := R4.kept g5 (by simp); have L5 := L4.kept g5 (by simp); have G5 := gb_trans G4 g5; have x0 := X5.cell 0 (v := .int .u8 ho) rfl; have x1 := X5.cell 1 (v := .int .u16 bo) rfl; have x2 := X5.cell 2 (v := .int .u16 st) rfl) | ((fail_if_success (guard_hyp L6)); refine wpList_st (op := ⟨_, .store 25 _ _, _, _, _, _⟩) rfl 25 _ _ rfl w2.heap.size #[.int .u8 ho, .int .u16 bo, .int .u16 st] rfl rfl L5 infoLf rfl (by simp [Value.oneCell']) ?_; intro W6 hW6 L6; have R6 : Bo W6 w.heap.size 27 #[.int .u8 0, .int .u16 0, .int .u16 0, .int .i64 0] := hW6 ▸ R5.row2 HN.out; have G6 : w.grownBy W6 none := hW6 ▸ gb_rowset G5 G2.size; have l0 := L6.cell 0 (v := .int .u8 ho) rfl; have l1 := L6.cell 1 (v := .int .u16 bo) rfl; have l2 := L6.cell 2 (v := .int .u16 st) rfl) | (refine wpList_st (op := ⟨_, .store 27 _ _, _, _, _, _⟩) rfl 27 _ _ rfl w.heap.size #[.int .u8 0, .int .u16 0, .int .u16 0, .int .i64 0] rfl rfl R6 infoGs rfl (by simp [Value.oneCell']) ?_; intro W9 hW9 B9))
  refine ret_c3 (g := w.heap.size) (cs := #[.int .u8 0, .int .u16 0, .int .u16 0, .int .i64 0]) rfl hfs.out infoGs rfl B9 rfl ⟨rfl, hW9 ▸ gb_row2 G6 (Nat.le_refl _)⟩
set_option maxHeartbeats 2000000 in
theorem gpdb3 (s : ByteArray) (w : World) (hs : ¬ (1048576 : Int) < s.size) (q : Nat) (hq : q ≤ s.size) (h0 : 0 < s.size) (hB : Sc.bt s 0 = 98) (ho bo st a n b : Nat) (hqe : ¬ q = s.size) (hsl : ∀ w, Calls Tryz.prog 19 #[.string s] w fun e w' => e = .returned (.int .i64 q) ∧ w.grownBy w' none) (hx : ∀ w, Calls Tryz.prog 20 #[.string (s.extract 0 q)] w fun e w' => e = .returned (.tuple #[.agg #[.int .u8 ho, .int .u16 bo, .int .u16 st], .int .i64 a, .int .i64 0]) ∧ w.grownBy w' none) (hst : ∀ w, Calls Tryz.prog 22 #[.string s, .int .i64 ((q : Int) + 1)] w fun e w' => e = .returned (.tuple #[.int .i64 n, .int .i64 b, .bool false]) ∧ w.grownBy w' none) : Calls Tryz.prog 9 #[.string s] w fun e w' => e = .returned (.tuple #[.agg #[.int .u8 0, .int .u16 0, .int .u16 0, .int .i64 0], .int .i64 b, .int .i64 90]) ∧ w.grownBy w' none := by
  have hq' : (q : Int) ≤ (s.size : Int) := by omega
  have hqw : IntKind.i64.wrap ((q : Int) + 1) = (q : Int) + 1 := by rw [IntKind.wrap_i64]; omega
  have e1 : ((q : Int) == (s.size : Int)) = false := by simp; omega
  have e1' : ¬ (q : Int) = (s.size : Int) := by omega
  have hbt := Sc.bt_at h0
  have hem : s.toList.isEmpty = false := Nu.empty_no (by omega)
  have h0' : (0 : Int) < (s.size : Int) := by omega
  have b1 : ((Sc.bt s 0 : Nat) : Int) = 98 := by omega
  have b0' : (((Sc.bt s 0 : Nat) : Int) == 66) = false := by simp; omega
  have b1' : (((Sc.bt s 0 : Nat) : Int) == 98) = true := by simp; omega
  clear hB
  obtain ⟨fs, hfs'⟩ := underGs
  have hfs : Hid (Tryz.prog.underlying 27 = some (.struct fs)) := hfs'
  clear hfs'
  obtain ⟨W1, hW1, sz1, g1, R1⟩ := boxn w #[.int .u8 0, .int .u16 0, .int .u16 0, .int .i64 0] 27
  go_enter Tryz.func9, Tryz.ntmps9
  go_wp2_with (first | (go_at_call 19; refine (hsl _).mono ?_; rintro e w2 ⟨rfl, g2⟩; have R2 := R1.kept g2 (by simp); have G2 := gb_trans g1 g2; obtain ⟨W3, hW3, sz3, g3, L3⟩ := boxn w2 #[.int .u8 0, .int .u16 0, .int .u16 0] 25; have R3 := R2.kept g3 (by simp); have G3 := gb_trans G2 g3; have HN : Hid (w2.heap.size ≠ w.heap.size) := by (have h1 := sz1.out; have h2 := g2.size; unfold Hid; omega)) | (go_at_call 20; refine (hx _).mono ?_; rintro e w4 ⟨rfl, g4⟩; have R4 := R3.kept g4 (by simp); have L4 := L3.kept g4 (by simp); have G4 := gb_trans G3 g4; obtain ⟨W5, hW5, sz5, g5, X5⟩ := boxn w4 #[.int .u8 ho, .int .u16 bo, .int .u16 st] 25; have R5 := R4.kept g5 (by simp); have L5 := L4.kept g5 (by simp); have G5 := gb_trans G4 g5; have x0 := X5.cell 0 (v := .int .u8 ho) rfl; have x1 := X5.cell 1 (v := .int .u16 bo) rfl; have x2 := X5.cell 2 (v := .int .u16 st) rfl) | ((fail_if_success (guard_hyp L6)); refine wpList_st (op := ⟨_, .store 25 _ _, _, _, _, _⟩) rfl 25 _ _ rfl w2.heap.size #[.int .u8 ho, .int .u16 bo, .int .u16 st] rfl rfl L5 infoLf rfl (by simp [Value.oneCell']) ?_; intro W6 hW6 L6; have R6 : Bo W6 w.heap.size 27 #[.int .u8 0, .int .u16 0, .int .u16 0, .int .i64 0] := hW6 ▸ R5.row2 HN.out; have G6 : w.grownBy W6 none := hW6 ▸ gb_rowset G5 G2.size; have l0 := L6.cell 0 (v := .int .u8 ho) rfl; have l1 := L6.cell 1 (v := .int .u16 bo) rfl; have l2 := L6.cell 2 (v := .int .u16 st) rfl) | (go_at_call 22; refine (hst _).mono ?_; rintro e w7 ⟨rfl, g7⟩; have R7 := R6.kept g7 (by simp); have L7 := L6.kept g7 (by simp); have G7 := gb_trans G6 g7; have m0 := L7.cell 0 (v := .int .u8 ho) rfl; have m1 := L7.cell 1 (v := .int .u16 bo) rfl; have m2 := L7.cell 2 (v := .int .u16 st) rfl) | (refine wpList_st (op := ⟨_, .store 27 _ _, _, _, _, _⟩) rfl 27 _ _ rfl w.heap.size #[.int .u8 0, .int .u16 0, .int .u16 0, .int .i64 0] rfl rfl R7 infoGs rfl (by simp [Value.oneCell']) ?_; intro W9 hW9 B9))
  refine ret_c3 (g := w.heap.size) (cs := #[.int .u8 0, .int .u16 0, .int .u16 0, .int .i64 0]) rfl hfs.out infoGs rfl B9 rfl ⟨rfl, hW9 ▸ gb_row2 G7 (Nat.le_refl _)⟩
set_option maxHeartbeats 2000000 in
theorem gpdb4 (s : ByteArray) (w : World) (hs : ¬ (1048576 : Int) < s.size) (q : Nat) (hq : q ≤ s.size) (h0 : 0 < s.size) (hB : Sc.bt s 0 = 98) (ho bo st a n b : Nat) (hqe : ¬ q = s.size) (hsl : ∀ w, Calls Tryz.prog 19 #[.string s] w fun e w' => e = .returned (.int .i64 q) ∧ w.grownBy w' none) (hx : ∀ w, Calls Tryz.prog 20 #[.string (s.extract 0 q)] w fun e w' => e = .returned (.tuple #[.agg #[.int .u8 ho, .int .u16 bo, .int .u16 st], .int .i64 a, .int .i64 0]) ∧ w.grownBy w' none) (hst : ∀ w, Calls Tryz.prog 22 #[.string s, .int .i64 ((q : Int) + 1)] w fun e w' => e = .returned (.tuple #[.int .i64 n, .int .i64 b, .bool true]) ∧ w.grownBy w' none) : Calls Tryz.prog 9 #[.string s] w fun e w' => e = .returned (.tuple #[.agg #[.int .u8 ho, .int .u16 bo, .int .u16 st, .int .i64 n], .int .i64 0, .int .i64 0]) ∧ w.grownBy w' none := by
  have hq' : (q : Int) ≤ (s.size : Int) := by omega
  have hqw : IntKind.i64.wrap ((q : Int) + 1) = (q : Int) + 1 := by rw [IntKind.wrap_i64]; omega
  have e1 : ((q : Int) == (s.size : Int)) = false := by simp; omega
  have e1' : ¬ (q : Int) = (s.size : Int) := by omega
  have hbt := Sc.bt_at h0
  have hem : s.toList.isEmpty = false := Nu.empty_no (by omega)
  have h0' : (0 : Int) < (s.size : Int) := by omega
  have b1 : ((Sc.bt s 0 : Nat) : Int) = 98 := by omega
  have b0' : (((Sc.bt s 0 : Nat) : Int) == 66) = false := by simp; omega
  have b1' : (((Sc.bt s 0 : Nat) : Int) == 98) = true := by simp; omega
  clear hB
  obtain ⟨fs, hfs'⟩ := underGs
  have hfs : Hid (Tryz.prog.underlying 27 = some (.struct fs)) := hfs'
  clear hfs'
  obtain ⟨W1, hW1, sz1, g1, R1⟩ := boxn w #[.int .u8 0, .int .u16 0, .int .u16 0, .int .i64 0] 27
  go_enter Tryz.func9, Tryz.ntmps9
  go_wp2_with (first | (go_at_call 19; refine (hsl _).mono ?_; rintro e w2 ⟨rfl, g2⟩; have R2 := R1.kept g2 (by simp); have G2 := gb_trans g1 g2; obtain ⟨W3, hW3, sz3, g3, L3⟩ := boxn w2 #[.int .u8 0, .int .u16 0, .int .u16 0] 25; have R3 := R2.kept g3 (by simp); have G3 := gb_trans G2 g3; have HN : Hid (w2.heap.size ≠ w.heap.size) := by (have h1 := sz1.out; have h2 := g2.size; unfold Hid; omega)) | (go_at_call 20; refine (hx _).mono ?_; rintro e w4 ⟨rfl, g4⟩; have R4 := R3.kept g4 (by simp); have L4 := L3.kept g4 (by simp); have G4 := gb_trans G3 g4; obtain ⟨W5, hW5, sz5, g5, X5⟩ := boxn w4 #[.int .u8 ho, .int .u16 bo, .int .u16 st] 25; have R5 := R4.kept g5 (by simp); have L5 := L4.kept g5 (by simp); have G5 := gb_trans G4 g5; have x0 := X5.cell 0 (v := .int .u8 ho) rfl; have x1 := X5.cell 1 (v := .int .u16 bo) rfl; have x2 := X5.cell 2 (v := .int .u16 st) rfl) | ((fail_if_success (guard_hyp L6)); refine wpList_st (op := ⟨_, .store 25 _ _, _, _, _, _⟩) rfl 25 _ _ rfl w2.heap.size #[.int .u8 ho, .int .u16 bo, .int .u16 st] rfl rfl L5 infoLf rfl (by simp [Value.oneCell']) ?_; intro W6 hW6 L6; have R6 : Bo W6 w.heap.size 27 #[.int .u8 0, .int .u16 0, .int .u16 0, .int .i64 0] := hW6 ▸ R5.row2 HN.out; have G6 : w.grownBy W6 none := hW6 ▸ gb_rowset G5 G2.size; have l0 := L6.cell 0 (v := .int .u8 ho) rfl; have l1 := L6.cell 1 (v := .int .u16 bo) rfl; have l2 := L6.cell 2 (v := .int .u16 st) rfl) | (go_at_call 22; refine (hst _).mono ?_; rintro e w7 ⟨rfl, g7⟩; have R7 := R6.kept g7 (by simp); have L7 := L6.kept g7 (by simp); have G7 := gb_trans G6 g7; have m0 := L7.cell 0 (v := .int .u8 ho) rfl; have m1 := L7.cell 1 (v := .int .u16 bo) rfl; have m2 := L7.cell 2 (v := .int .u16 st) rfl) | (refine wpList_st (op := ⟨_, .store 27 _ _, _, _, _, _⟩) rfl 27 _ _ rfl w.heap.size #[.int .u8 ho, .int .u16 bo, .int .u16 st, .int .i64 n] rfl rfl R7 infoGs rfl (by simp [Value.oneCell']) ?_; intro W9 hW9 B9))
  refine ret_c3 (g := w.heap.size) (cs := #[.int .u8 ho, .int .u16 bo, .int .u16 st, .int .i64 n]) rfl hfs.out infoGs rfl B9 rfl ⟨rfl, hW9 ▸ gb_row2 G7 (Nat.le_refl _)⟩

set_option maxHeartbeats 2000000 in
theorem gpdN1 (s : ByteArray) (w : World) (hs : ¬ (1048576 : Int) < s.size) (q : Nat) (hq : q ≤ s.size) (h0 : 0 < s.size) (hB : ¬ Sc.bt s 0 = 66) (hb : ¬ Sc.bt s 0 = 98) (ho bo st a er : Nat) (her : er < 256) (he : ¬ ((er : Nat) : Int) = 0) (hsl : ∀ w, Calls Tryz.prog 19 #[.string s] w fun e w' => e = .returned (.int .i64 q) ∧ w.grownBy w' none) (hx : ∀ w, Calls Tryz.prog 21 #[.string s] w fun e w' => e = .returned (.tuple #[.agg #[.int .u8 ho, .int .u16 bo, .int .u16 st], .int .i64 a, .int .i64 er]) ∧ w.grownBy w' none) : Calls Tryz.prog 9 #[.string s] w fun e w' => e = .returned (.tuple #[.agg #[.int .u8 0, .int .u16 0, .int .u16 0, .int .i64 0], .int .i64 a, .int .i64 er]) ∧ w.grownBy w' none := by
  have hq' : (q : Int) ≤ (s.size : Int) := by omega
  have hqw : IntKind.i64.wrap ((q : Int) + 1) = (q : Int) + 1 := by rw [IntKind.wrap_i64]; omega
  have hwe : IntKind.i64.wrap (er : Int) = (er : Int) := by rw [IntKind.wrap_i64]; omega
  have hbt := Sc.bt_at h0
  have hem : s.toList.isEmpty = false := Nu.empty_no (by omega)
  have h0' : (0 : Int) < (s.size : Int) := by omega
  have b0 : ¬ ((Sc.bt s 0 : Nat) : Int) = 66 := by omega
  have b1 : ¬ ((Sc.bt s 0 : Nat) : Int) = 98 := by omega
  have b0' : (((Sc.bt s 0 : Nat) : Int) == 66) = false := by simp; omega
  have b1' : (((Sc.bt s 0 : Nat) : Int) == 98) = false := by simp; omega
  clear hB hb
  obtain ⟨fs, hfs'⟩ := underGs
  have hfs : Hid (Tryz.prog.underlying 27 = some (.struct fs)) := hfs'
  clear hfs'
  obtain ⟨W1, hW1, sz1, g1, R1⟩ := boxn w #[.int .u8 0, .int .u16 0, .int .u16 0, .int .i64 0] 27
  go_enter Tryz.func9, Tryz.ntmps9
  go_wp2_with (first | (go_at_call 19; refine (hsl _).mono ?_; rintro e w2 ⟨rfl, g2⟩; have R2 := R1.kept g2 (by simp); have G2 := gb_trans g1 g2; obtain ⟨W3, hW3, sz3, g3, L3⟩ := boxn w2 #[.int .u8 0, .int .u16 0, .int .u16 0] 25; have R3 := R2.kept g3 (by simp); have G3 := gb_trans G2 g3; have HN : Hid (w2.heap.size ≠ w.heap.size) := by (have h1 := sz1.out; have h2 := g2.size; unfold Hid; omega)) | (go_at_call 21; refine (hx _).mono ?_; rintro e w4 ⟨rfl, g4⟩; have R5 := R3.kept g4 (by simp); have L5 := L3.kept g4 (by simp); have G5 := gb_trans G3 g4) | ((fail_if_success (guard_hyp L6)); refine wpList_st (op := ⟨_, .store 25 _ _, _, _, _, _⟩) rfl 25 _ _ rfl w2.heap.size #[.int .u8 ho, .int .u16 bo, .int .u16 st] rfl rfl L5 infoLf rfl (by simp [Value.oneCell']) ?_; intro W6 hW6 L6; have R6 : Bo W6 w.heap.size 27 #[.int .u8 0, .int .u16 0, .int .u16 0, .int .i64 0] := hW6 ▸ R5.row2 HN.out; have G6 : w.grownBy W6 none := hW6 ▸ gb_rowset G5 G2.size; have l0 := L6.cell 0 (v := .int .u8 ho) rfl; have l1 := L6.cell 1 (v := .int .u16 bo) rfl; have l2 := L6.cell 2 (v := .int .u16 st) rfl) | (refine wpList_st (op := ⟨_, .store 27 _ _, _, _, _, _⟩) rfl 27 _ _ rfl w.heap.size #[.int .u8 0, .int .u16 0, .int .u16 0, .int .i64 0] rfl rfl R6 infoGs rfl (by simp [Value.oneCell']) ?_; intro W9 hW9 B9))
  refine ret_c3 (g := w.heap.size) (cs := #[.int .u8 0, .int .u16 0, .int .u16 0, .int .i64 0]) rfl hfs.out infoGs rfl B9 rfl ⟨rfl, hW9 ▸ gb_row2 G6 (Nat.le_refl _)⟩
set_option maxHeartbeats 2000000 in
theorem gpdN2 (s : ByteArray) (w : World) (hs : ¬ (1048576 : Int) < s.size) (q : Nat) (hq : q ≤ s.size) (h0 : 0 < s.size) (hB : ¬ Sc.bt s 0 = 66) (hb : ¬ Sc.bt s 0 = 98) (ho bo st a : Nat) (hqe : q = s.size) (hsl : ∀ w, Calls Tryz.prog 19 #[.string s] w fun e w' => e = .returned (.int .i64 q) ∧ w.grownBy w' none) (hx : ∀ w, Calls Tryz.prog 21 #[.string s] w fun e w' => e = .returned (.tuple #[.agg #[.int .u8 ho, .int .u16 bo, .int .u16 st], .int .i64 a, .int .i64 0]) ∧ w.grownBy w' none) : Calls Tryz.prog 9 #[.string s] w fun e w' => e = .returned (.tuple #[.agg #[.int .u8 0, .int .u16 0, .int .u16 0, .int .i64 0], .int .i64 q, .int .i64 90]) ∧ w.grownBy w' none := by
  have hq' : (q : Int) ≤ (s.size : Int) := by omega
  have hqw : IntKind.i64.wrap ((q : Int) + 1) = (q : Int) + 1 := by rw [IntKind.wrap_i64]; omega
  have e1 : ((q : Int) == (s.size : Int)) = true := by simp; omega
  clear hqe
  have hbt := Sc.bt_at h0
  have hem : s.toList.isEmpty = false := Nu.empty_no (by omega)
  have h0' : (0 : Int) < (s.size : Int) := by omega
  have b0 : ¬ ((Sc.bt s 0 : Nat) : Int) = 66 := by omega
  have b1 : ¬ ((Sc.bt s 0 : Nat) : Int) = 98 := by omega
  have b0' : (((Sc.bt s 0 : Nat) : Int) == 66) = false := by simp; omega
  have b1' : (((Sc.bt s 0 : Nat) : Int) == 98) = false := by simp; omega
  clear hB hb
  obtain ⟨fs, hfs'⟩ := underGs
  have hfs : Hid (Tryz.prog.underlying 27 = some (.struct fs)) := hfs'
  clear hfs'
  obtain ⟨W1, hW1, sz1, g1, R1⟩ := boxn w #[.int .u8 0, .int .u16 0, .int .u16 0, .int .i64 0] 27
  go_enter Tryz.func9, Tryz.ntmps9
  go_wp2_with (first | (go_at_call 19; refine (hsl _).mono ?_; rintro e w2 ⟨rfl, g2⟩; have R2 := R1.kept g2 (by simp); have G2 := gb_trans g1 g2; obtain ⟨W3, hW3, sz3, g3, L3⟩ := boxn w2 #[.int .u8 0, .int .u16 0, .int .u16 0] 25; have R3 := R2.kept g3 (by simp); have G3 := gb_trans G2 g3; have HN : Hid (w2.heap.size ≠ w.heap.size) := by (have h1 := sz1.out; have h2 := g2.size; unfold Hid; omega)) | (go_at_call 21; refine (hx _).mono ?_; rintro e w4 ⟨rfl, g4⟩; have R5 := R3.kept g4 (by simp); have L5 := L3.kept g4 (by simp); have G5 := gb_trans G3 g4) | ((fail_if_success (guard_hyp L6)); refine wpList_st (op := ⟨_, .store 25 _ _, _, _, _, _⟩) rfl 25 _ _ rfl w2.heap.size #[.int .u8 ho, .int .u16 bo, .int .u16 st] rfl rfl L5 infoLf rfl (by simp [Value.oneCell']) ?_; intro W6 hW6 L6; have R6 : Bo W6 w.heap.size 27 #[.int .u8 0, .int .u16 0, .int .u16 0, .int .i64 0] := hW6 ▸ R5.row2 HN.out; have G6 : w.grownBy W6 none := hW6 ▸ gb_rowset G5 G2.size; have l0 := L6.cell 0 (v := .int .u8 ho) rfl; have l1 := L6.cell 1 (v := .int .u16 bo) rfl; have l2 := L6.cell 2 (v := .int .u16 st) rfl) | (refine wpList_st (op := ⟨_, .store 27 _ _, _, _, _, _⟩) rfl 27 _ _ rfl w.heap.size #[.int .u8 0, .int .u16 0, .int .u16 0, .int .i64 0] rfl rfl R6 infoGs rfl (by simp [Value.oneCell']) ?_; intro W9 hW9 B9))
  refine ret_c3 (g := w.heap.size) (cs := #[.int .u8 0, .int .u16 0, .int .u16 0, .int .i64 0]) rfl hfs.out infoGs rfl B9 rfl ⟨rfl, hW9 ▸ gb_row2 G6 (Nat.le_refl _)⟩
set_option maxHeartbeats 2000000 in
theorem gpdN3 (s : ByteArray) (w : World) (hs : ¬ (1048576 : Int) < s.size) (q : Nat) (hq : q ≤ s.size) (h0 : 0 < s.size) (hB : ¬ Sc.bt s 0 = 66) (hb : ¬ Sc.bt s 0 = 98) (ho bo st a n b : Nat) (hqe : ¬ q = s.size) (hsl : ∀ w, Calls Tryz.prog 19 #[.string s] w fun e w' => e = .returned (.int .i64 q) ∧ w.grownBy w' none) (hx : ∀ w, Calls Tryz.prog 21 #[.string s] w fun e w' => e = .returned (.tuple #[.agg #[.int .u8 ho, .int .u16 bo, .int .u16 st], .int .i64 a, .int .i64 0]) ∧ w.grownBy w' none) (hst : ∀ w, Calls Tryz.prog 22 #[.string s, .int .i64 ((q : Int) + 1)] w fun e w' => e = .returned (.tuple #[.int .i64 n, .int .i64 b, .bool false]) ∧ w.grownBy w' none) : Calls Tryz.prog 9 #[.string s] w fun e w' => e = .returned (.tuple #[.agg #[.int .u8 0, .int .u16 0, .int .u16 0, .int .i64 0], .int .i64 b, .int .i64 90]) ∧ w.grownBy w' none := by
  have hq' : (q : Int) ≤ (s.size : Int) := by omega
  have hqw : IntKind.i64.wrap ((q : Int) + 1) = (q : Int) + 1 := by rw [IntKind.wrap_i64]; omega
  have e1 : ((q : Int) == (s.size : Int)) = false := by simp; omega
  have e1' : ¬ (q : Int) = (s.size : Int) := by omega
  have hbt := Sc.bt_at h0
  have hem : s.toList.isEmpty = false := Nu.empty_no (by omega)
  have h0' : (0 : Int) < (s.size : Int) := by omega
  have b0 : ¬ ((Sc.bt s 0 : Nat) : Int) = 66 := by omega
  have b1 : ¬ ((Sc.bt s 0 : Nat) : Int) = 98 := by omega
  have b0' : (((Sc.bt s 0 : Nat) : Int) == 66) = false := by simp; omega
  have b1' : (((Sc.bt s 0 : Nat) : Int) == 98) = false := by simp; omega
  clear hB hb
  obtain ⟨fs, hfs'⟩ := underGs
  have hfs : Hid (Tryz.prog.underlying 27 = some (.struct fs)) := hfs'
  clear hfs'
  obtain ⟨W1, hW1, sz1, g1, R1⟩ := boxn w #[.int .u8 0, .int .u16 0, .int .u16 0, .int .i64 0] 27
  go_enter Tryz.func9, Tryz.ntmps9
  go_wp2_with (first | (go_at_call 19; refine (hsl _).mono ?_; rintro e w2 ⟨rfl, g2⟩; have R2 := R1.kept g2 (by simp); have G2 := gb_trans g1 g2; obtain ⟨W3, hW3, sz3, g3, L3⟩ := boxn w2 #[.int .u8 0, .int .u16 0, .int .u16 0] 25; have R3 := R2.kept g3 (by simp); have G3 := gb_trans G2 g3; have HN : Hid (w2.heap.size ≠ w.heap.size) := by (have h1 := sz1.out; have h2 := g2.size; unfold Hid; omega)) | (go_at_call 21; refine (hx _).mono ?_; rintro e w4 ⟨rfl, g4⟩; have R5 := R3.kept g4 (by simp); have L5 := L3.kept g4 (by simp); have G5 := gb_trans G3 g4) | ((fail_if_success (guard_hyp L6)); refine wpList_st (op := ⟨_, .store 25 _ _, _, _, _, _⟩) rfl 25 _ _ rfl w2.heap.size #[.int .u8 ho, .int .u16 bo, .int .u16 st] rfl rfl L5 infoLf rfl (by simp [Value.oneCell']) ?_; intro W6 hW6 L6; have R6 : Bo W6 w.heap.size 27 #[.int .u8 0, .int .u16 0, .int .u16 0, .int .i64 0] := hW6 ▸ R5.row2 HN.out; have G6 : w.grownBy W6 none := hW6 ▸ gb_rowset G5 G2.size; have l0 := L6.cell 0 (v := .int .u8 ho) rfl; have l1 := L6.cell 1 (v := .int .u16 bo) rfl; have l2 := L6.cell 2 (v := .int .u16 st) rfl) | (go_at_call 22; refine (hst _).mono ?_; rintro e w7 ⟨rfl, g7⟩; have R7 := R6.kept g7 (by simp); have L7 := L6.kept g7 (by simp); have G7 := gb_trans G6 g7; have m0 := L7.cell 0 (v := .int .u8 ho) rfl; have m1 := L7.cell 1 (v := .int .u16 bo) rfl; have m2 := L7.cell 2 (v := .int .u16 st) rfl) | (refine wpList_st (op := ⟨_, .store 27 _ _, _, _, _, _⟩) rfl 27 _ _ rfl w.heap.size #[.int .u8 0, .int .u16 0, .int .u16 0, .int .i64 0] rfl rfl R7 infoGs rfl (by simp [Value.oneCell']) ?_; intro W9 hW9 B9))
  refine ret_c3 (g := w.heap.size) (cs := #[.int .u8 0, .int .u16 0, .int .u16 0, .int .i64 0]) rfl hfs.out infoGs rfl B9 rfl ⟨rfl, hW9 ▸ gb_row2 G7 (Nat.le_refl _)⟩
set_option maxHeartbeats 2000000 in
theorem gpdN4 (s : ByteArray) (w : World) (hs : ¬ (1048576 : Int) < s.size) (q : Nat) (hq : q ≤ s.size) (h0 : 0 < s.size) (hB : ¬ Sc.bt s 0 = 66) (hb : ¬ Sc.bt s 0 = 98) (ho bo st a n b : Nat) (hqe : ¬ q = s.size) (hsl : ∀ w, Calls Tryz.prog 19 #[.string s] w fun e w' => e = .returned (.int .i64 q) ∧ w.grownBy w' none) (hx : ∀ w, Calls Tryz.prog 21 #[.string s] w fun e w' => e = .returned (.tuple #[.agg #[.int .u8 ho, .int .u16 bo, .int .u16 st], .int .i64 a, .int .i64 0]) ∧ w.grownBy w' none) (hst : ∀ w, Calls Tryz.prog 22 #[.string s, .int .i64 ((q : Int) + 1)] w fun e w' => e = .returned (.tuple #[.int .i64 n, .int .i64 b, .bool true]) ∧ w.grownBy w' none) : Calls Tryz.prog 9 #[.string s] w fun e w' => e = .returned (.tuple #[.agg #[.int .u8 ho, .int .u16 bo, .int .u16 st, .int .i64 n], .int .i64 0, .int .i64 0]) ∧ w.grownBy w' none := by
  have hq' : (q : Int) ≤ (s.size : Int) := by omega
  have hqw : IntKind.i64.wrap ((q : Int) + 1) = (q : Int) + 1 := by rw [IntKind.wrap_i64]; omega
  have e1 : ((q : Int) == (s.size : Int)) = false := by simp; omega
  have e1' : ¬ (q : Int) = (s.size : Int) := by omega
  have hbt := Sc.bt_at h0
  have hem : s.toList.isEmpty = false := Nu.empty_no (by omega)
  have h0' : (0 : Int) < (s.size : Int) := by omega
  have b0 : ¬ ((Sc.bt s 0 : Nat) : Int) = 66 := by omega
  have b1 : ¬ ((Sc.bt s 0 : Nat) : Int) = 98 := by omega
  have b0' : (((Sc.bt s 0 : Nat) : Int) == 66) = false := by simp; omega
  have b1' : (((Sc.bt s 0 : Nat) : Int) == 98) = false := by simp; omega
  clear hB hb
  obtain ⟨fs, hfs'⟩ := underGs
  have hfs : Hid (Tryz.prog.underlying 27 = some (.struct fs)) := hfs'
  clear hfs'
  obtain ⟨W1, hW1, sz1, g1, R1⟩ := boxn w #[.int .u8 0, .int .u16 0, .int .u16 0, .int .i64 0] 27
  go_enter Tryz.func9, Tryz.ntmps9
  go_wp2_with (first | (go_at_call 19; refine (hsl _).mono ?_; rintro e w2 ⟨rfl, g2⟩; have R2 := R1.kept g2 (by simp); have G2 := gb_trans g1 g2; obtain ⟨W3, hW3, sz3, g3, L3⟩ := boxn w2 #[.int .u8 0, .int .u16 0, .int .u16 0] 25; have R3 := R2.kept g3 (by simp); have G3 := gb_trans G2 g3; have HN : Hid (w2.heap.size ≠ w.heap.size) := by (have h1 := sz1.out; have h2 := g2.size; unfold Hid; omega)) | (go_at_call 21; refine (hx _).mono ?_; rintro e w4 ⟨rfl, g4⟩; have R5 := R3.kept g4 (by simp); have L5 := L3.kept g4 (by simp); have G5 := gb_trans G3 g4) | ((fail_if_success (guard_hyp L6)); refine wpList_st (op := ⟨_, .store 25 _ _, _, _, _, _⟩) rfl 25 _ _ rfl w2.heap.size #[.int .u8 ho, .int .u16 bo, .int .u16 st] rfl rfl L5 infoLf rfl (by simp [Value.oneCell']) ?_; intro W6 hW6 L6; have R6 : Bo W6 w.heap.size 27 #[.int .u8 0, .int .u16 0, .int .u16 0, .int .i64 0] := hW6 ▸ R5.row2 HN.out; have G6 : w.grownBy W6 none := hW6 ▸ gb_rowset G5 G2.size; have l0 := L6.cell 0 (v := .int .u8 ho) rfl; have l1 := L6.cell 1 (v := .int .u16 bo) rfl; have l2 := L6.cell 2 (v := .int .u16 st) rfl) | (go_at_call 22; refine (hst _).mono ?_; rintro e w7 ⟨rfl, g7⟩; have R7 := R6.kept g7 (by simp); have L7 := L6.kept g7 (by simp); have G7 := gb_trans G6 g7; have m0 := L7.cell 0 (v := .int .u8 ho) rfl; have m1 := L7.cell 1 (v := .int .u16 bo) rfl; have m2 := L7.cell 2 (v := .int .u16 st) rfl) | (refine wpList_st (op := ⟨_, .store 27 _ _, _, _, _, _⟩) rfl 27 _ _ rfl w.heap.size #[.int .u8 ho, .int .u16 bo, .int .u16 st, .int .i64 n] rfl rfl R7 infoGs rfl (by simp [Value.oneCell']) ?_; intro W9 hW9 B9))
  refine ret_c3 (g := w.heap.size) (cs := #[.int .u8 ho, .int .u16 bo, .int .u16 st, .int .i64 n]) rfl hfs.out infoGs rfl B9 rfl ⟨rfl, hW9 ▸ gb_row2 G7 (Nat.le_refl _)⟩

set_option maxHeartbeats 2000000 in
theorem gpdE1 (s : ByteArray) (w : World) (hs : ¬ (1048576 : Int) < s.size) (q : Nat) (hq : q ≤ s.size) (he0 : s = ⟨#[]⟩) (ho bo st a er : Nat) (her : er < 256) (he : ¬ ((er : Nat) : Int) = 0) (hsl : ∀ w, Calls Tryz.prog 19 #[.string s] w fun e w' => e = .returned (.int .i64 q) ∧ w.grownBy w' none) (hx : ∀ w, Calls Tryz.prog 21 #[.string s] w fun e w' => e = .returned (.tuple #[.agg #[.int .u8 ho, .int .u16 bo, .int .u16 st], .int .i64 a, .int .i64 er]) ∧ w.grownBy w' none) : Calls Tryz.prog 9 #[.string s] w fun e w' => e = .returned (.tuple #[.agg #[.int .u8 0, .int .u16 0, .int .u16 0, .int .i64 0], .int .i64 a, .int .i64 er]) ∧ w.grownBy w' none := by
  have hq' : (q : Int) ≤ (s.size : Int) := by omega
  have hqw : IntKind.i64.wrap ((q : Int) + 1) = (q : Int) + 1 := by rw [IntKind.wrap_i64]; omega
  have hwe : IntKind.i64.wrap (er : Int) = (er : Int) := by rw [IntKind.wrap_i64]; omega
  subst he0
  obtain ⟨fs, hfs'⟩ := underGs
  have hfs : Hid (Tryz.prog.underlying 27 = some (.struct fs)) := hfs'
  clear hfs'
  obtain ⟨W1, hW1, sz1, g1, R1⟩ := boxn w #[.int .u8 0, .int .u16 0, .int .u16 0, .int .i64 0] 27
  go_enter Tryz.func9, Tryz.ntmps9
  go_wp2_with (first | (go_at_call 19; refine (hsl _).mono ?_; rintro e w2 ⟨rfl, g2⟩; have R2 := R1.kept g2 (by simp); have G2 := gb_trans g1 g2; obtain ⟨W3, hW3, sz3, g3, L3⟩ := boxn w2 #[.int .u8 0, .int .u16 0, .int .u16 0] 25; have R3 := R2.kept g3 (by simp); have G3 := gb_trans G2 g3; have HN : Hid (w2.heap.size ≠ w.heap.size) := by (have h1 := sz1.out; have h2 := g2.size; unfold Hid; omega)) | (go_at_call 21; refine (hx _).mono ?_; rintro e w4 ⟨rfl, g4⟩; have R5 := R3.kept g4 (by simp); have L5 := L3.kept g4 (by simp); have G5 := gb_trans G3 g4) | ((fail_if_success (guard_hyp L6)); refine wpList_st (op := ⟨_, .store 25 _ _, _, _, _, _⟩) rfl 25 _ _ rfl w2.heap.size #[.int .u8 ho, .int .u16 bo, .int .u16 st] rfl rfl L5 infoLf rfl (by simp [Value.oneCell']) ?_; intro W6 hW6 L6; have R6 : Bo W6 w.heap.size 27 #[.int .u8 0, .int .u16 0, .int .u16 0, .int .i64 0] := hW6 ▸ R5.row2 HN.out; have G6 : w.grownBy W6 none := hW6 ▸ gb_rowset G5 G2.size; have l0 := L6.cell 0 (v := .int .u8 ho) rfl; have l1 := L6.cell 1 (v := .int .u16 bo) rfl; have l2 := L6.cell 2 (v := .int .u16 st) rfl) | (refine wpList_st (op := ⟨_, .store 27 _ _, _, _, _, _⟩) rfl 27 _ _ rfl w.heap.size #[.int .u8 0, .int .u16 0, .int .u16 0, .int .i64 0] rfl rfl R6 infoGs rfl (by simp [Value.oneCell']) ?_; intro W9 hW9 B9))
  refine ret_c3 (g := w.heap.size) (cs := #[.int .u8 0, .int .u16 0, .int .u16 0, .int .i64 0]) rfl hfs.out infoGs rfl B9 rfl ⟨rfl, hW9 ▸ gb_row2 G6 (Nat.le_refl _)⟩
end Go.Proofs.YtlkdenanbofliaaGreatDoor
