/- What Parse of package gens answers. -/
import Derived.Test.YtlkdenanbofliaaGreatDoorG2
import Derived.Test.YtlkdenanbofliaaGreatDoorG5
namespace Go.Proofs.YtlkdenanbofliaaGreatDoor
open Go.RowKit
set_option linter.unusedVariables false
set_option linter.unusedSimpArgs false
set_option maxRecDepth 100000

theorem infoGs : (Tryz.prog.info? 27).map (·.size) = some 4 := by kernel_rfl
theorem underGs : ∃ fs, Tryz.prog.underlying 27 = some (.struct fs) := ⟨_, Tryz.underlying27⟩
set_option maxHeartbeats 1000000 in
theorem gparseLong (s : ByteArray) (w : World) (hs : (1048576 : Int) < s.size) : Calls Tryz.prog 10 #[.string s] w fun e w' => e = .returned (.tuple #[.agg #[.int .u8 0, .int .u16 0, .int .u16 0, .int .i64 0], .int .i64 0, .int .i64 3]) ∧ w.grownBy w' none := by
  obtain ⟨fs, hfs'⟩ := underGs
  have hfs : Hid (Tryz.prog.underlying 27 = some (.struct fs)) := hfs'
  clear hfs'
  obtain ⟨W1, hW1, sz1, g1, B1⟩ := boxn w #[.int .u8 0, .int .u16 0, .int .u16 0, .int .i64 0] 27
  go_enter Tryz.func10, Tryz.ntmps10
  go_wp2_with (first | (refine wpList_st (op := ⟨_, .store 27 _ _, _, _, _, _⟩) rfl 27 _ _ rfl w.heap.size #[.int .u8 0, .int .u16 0, .int .u16 0, .int .i64 0] rfl rfl B1 infoGs rfl (by simp [Value.oneCell']) ?_; intro W9 hW9 B9))
  refine ret_c3 (g := w.heap.size) (cs := #[.int .u8 0, .int .u16 0, .int .u16 0, .int .i64 0]) rfl hfs.out infoGs rfl B9 rfl ⟨rfl, hW9 ▸ gb_row2 g1 (by omega)⟩

set_option maxHeartbeats 2000000 in
theorem gparseB1 (s : ByteArray) (w : World) (en : Hid (En w)) (hs : ¬ (1048576 : Int) < s.size) (ho bo st a er : Nat) (he : ¬ ((er : Nat) : Int) = 0) (hp1 : ∀ w, Calls Tryz.prog 24 #[.string s, .string ⟨#[66]⟩] w fun e w' => e = .returned (.bool true) ∧ w' = w) (hrd : ∀ w, Hid (En w) → Calls Tryz.prog 25 #[.string s] w fun e w' => e = .returned (.tuple #[.agg #[.int .u8 ho, .int .u16 bo, .int .u16 st], .int .i64 a, .int .i64 er]) ∧ w.grownBy w' none) : Calls Tryz.prog 10 #[.string s] w fun e w' => e = .returned (.tuple #[.agg #[.int .u8 0, .int .u16 0, .int .u16 0, .int .i64 0], .int .i64 a, .int .i64 er]) ∧ w.grownBy w' none := by
  obtain ⟨fs, hfs'⟩ := underGs
  have hfs : Hid (Tryz.prog.underlying 27 = some (.struct fs)) := hfs'
  clear hfs'
  obtain ⟨W1, hW1, sz1, g1, B1⟩ := boxn w #[.int .u8 0, .int .u16 0, .int .u16 0, .int .i64 0] 27
  have en1 := enK en g1
  go_enter Tryz.func10, Tryz.ntmps10
  go_wp2_with (first | (go_at_call 24; refine (hp1 _).mono ?_; rintro e w2 ⟨rfl, hw2⟩; subst w2) | (go_at_call 25; refine (hrd _ en1).mono ?_; rintro e w3 ⟨rfl, g3⟩; have B3 := B1.kept g3 (by simp); have G3 := gb_trans g1 g3; obtain ⟨W4, hW4, sz4, g4, C4⟩ := boxn w3 #[.int .u8 ho, .int .u16 bo, .int .u16 st] 25; have B4 := B3.kept g4 (by simp); have G4 := gb_trans G3 g4; have en4 := enK en G4; have p0 := C4.cell 0 (v := .int .u8 ho) rfl; have p1 := C4.cell 1 (v := .int .u16 bo) rfl; have p2 := C4.cell 2 (v := .int .u16 st) rfl) | (refine wpList_st (op := ⟨_, .store 27 _ _, _, _, _, _⟩) rfl 27 _ _ rfl w.heap.size #[.int .u8 0, .int .u16 0, .int .u16 0, .int .i64 0] rfl rfl B4 infoGs rfl (by simp [Value.oneCell']) ?_; intro W9 hW9 B9))
  refine ret_c3 (g := w.heap.size) (cs := #[.int .u8 0, .int .u16 0, .int .u16 0, .int .i64 0]) rfl hfs.out infoGs rfl B9 rfl ⟨rfl, hW9 ▸ gb_row2 G4 (by omega)⟩
set_option maxHeartbeats 2000000 in
theorem gparseB2 (s : ByteArray) (w : World) (en : Hid (En w)) (hs : ¬ (1048576 : Int) < s.size) (ho bo st a n b er : Nat) (he : ¬ ((er : Nat) : Int) = 0) (hp1 : ∀ w, Calls Tryz.prog 24 #[.string s, .string ⟨#[66]⟩] w fun e w' => e = .returned (.bool true) ∧ w' = w) (hrd : ∀ w, Hid (En w) → Calls Tryz.prog 25 #[.string s] w fun e w' => e = .returned (.tuple #[.agg #[.int .u8 ho, .int .u16 bo, .int .u16 st], .int .i64 a, .int .i64 0]) ∧ w.grownBy w' none) (hst : ∀ w, Hid (En w) → Calls Tryz.prog 26 #[.string s, .int .i64 a] w fun e w' => e = .returned (.tuple #[.int .i64 n, .int .i64 b, .int .i64 er]) ∧ w.grownBy w' none) : Calls Tryz.prog 10 #[.string s] w fun e w' => e = .returned (.tuple #[.agg #[.int .u8 0, .int .u16 0, .int .u16 0, .int .i64 0], .int .i64 b, .int .i64 er]) ∧ w.grownBy w' none := by
  obtain ⟨fs, hfs'⟩ := underGs
  have hfs : Hid (Tryz.prog.underlying 27 = some (.struct fs)) := hfs'
  clear hfs'
  obtain ⟨W1, hW1, sz1, g1, B1⟩ := boxn w #[.int .u8 0, .int .u16 0, .int .u16 0, .int .i64 0] 27
  have en1 := enK en g1
  go_enter Tryz.func10, Tryz.ntmps10
  go_wp2_with (first | (go_at_call 24; refine (hp1 _).mono ?_; rintro e w2 ⟨rfl, hw2⟩; subst w2) | (go_at_call 25; refine (hrd _ en1).mono ?_; rintro e w3 ⟨rfl, g3⟩; have B3 := B1.kept g3 (by simp); have G3 := gb_trans g1 g3; obtain ⟨W4, hW4, sz4, g4, C4⟩ := boxn w3 #[.int .u8 ho, .int .u16 bo, .int .u16 st] 25; have B4 := B3.kept g4 (by simp); have G4 := gb_trans G3 g4; have en4 := enK en G4; have p0 := C4.cell 0 (v := .int .u8 ho) rfl; have p1 := C4.cell 1 (v := .int .u16 bo) rfl; have p2 := C4.cell 2 (v := .int .u16 st) rfl) | (go_at_call 26; refine (hst _ en4).mono ?_; rintro e w5 ⟨rfl, g5⟩; have B5 := B4.kept g5 (by simp); have C5 := C4.kept g5 (by simp); have G5 := gb_trans G4 g5; have q0 := C5.cell 0 (v := .int .u8 ho) rfl; have q1 := C5.cell 1 (v := .int .u16 bo) rfl; have q2 := C5.cell 2 (v := .int .u16 st) rfl) | (refine wpList_st (op := ⟨_, .store 27 _ _, _, _, _, _⟩) rfl 27 _ _ rfl w.heap.size #[.int .u8 0, .int .u16 0, .int .u16 0, .int .i64 0] rfl rfl B5 infoGs rfl (by simp [Value.oneCell']) ?_; intro W9 hW9 B9))
  refine ret_c3 (g := w.heap.size) (cs := #[.int .u8 0, .int .u16 0, .int .u16 0, .int .i64 0]) rfl hfs.out infoGs rfl B9 rfl ⟨rfl, hW9 ▸ gb_row2 G5 (by omega)⟩
set_option maxHeartbeats 2000000 in
theorem gparseB3 (s : ByteArray) (w : World) (en : Hid (En w)) (hs : ¬ (1048576 : Int) < s.size) (ho bo st a n b : Nat) (hp1 : ∀ w, Calls Tryz.prog 24 #[.string s, .string ⟨#[66]⟩] w fun e w' => e = .returned (.bool true) ∧ w' = w) (hrd : ∀ w, Hid (En w) → Calls Tryz.prog 25 #[.string s] w fun e w' => e = .returned (.tuple #[.agg #[.int .u8 ho, .int .u16 bo, .int .u16 st], .int .i64 a, .int .i64 0]) ∧ w.grownBy w' none) (hst : ∀ w, Hid (En w) → Calls Tryz.prog 26 #[.string s, .int .i64 a] w fun e w' => e = .returned (.tuple #[.int .i64 n, .int .i64 b, .int .i64 0]) ∧ w.grownBy w' none) : Calls Tryz.prog 10 #[.string s] w fun e w' => e = .returned (.tuple #[.agg #[.int .u8 ho, .int .u16 bo, .int .u16 st, .int .i64 n], .int .i64 0, .int .i64 0]) ∧ w.grownBy w' none := by
  obtain ⟨fs, hfs'⟩ := underGs
  have hfs : Hid (Tryz.prog.underlying 27 = some (.struct fs)) := hfs'
  clear hfs'
  obtain ⟨W1, hW1, sz1, g1, B1⟩ := boxn w #[.int .u8 0, .int .u16 0, .int .u16 0, .int .i64 0] 27
  have en1 := enK en g1
  go_enter Tryz.func10, Tryz.ntmps10
  go_wp2_with (first | (go_at_call 24; refine (hp1 _).mono ?_; rintro e w2 ⟨rfl, hw2⟩; subst w2) | (go_at_call 25; refine (hrd _ en1).mono ?_; rintro e w3 ⟨rfl, g3⟩; have B3 := B1.kept g3 (by simp); have G3 := gb_trans g1 g3; obtain ⟨W4, hW4, sz4, g4, C4⟩ := boxn w3 #[.int .u8 ho, .int .u16 bo, .int .u16 st] 25; have B4 := B3.kept g4 (by simp); have G4 := gb_trans G3 g4; have en4 := enK en G4; have p0 := C4.cell 0 (v := .int .u8 ho) rfl; have p1 := C4.cell 1 (v := .int .u16 bo) rfl; have p2 := C4.cell 2 (v := .int .u16 st) rfl) | (go_at_call 26; refine (hst _ en4).mono ?_; rintro e w5 ⟨rfl, g5⟩; have B5 := B4.kept g5 (by simp); have C5 := C4.kept g5 (by simp); have G5 := gb_trans G4 g5; have q0 := C5.cell 0 (v := .int .u8 ho) rfl; have q1 := C5.cell 1 (v := .int .u16 bo) rfl; have q2 := C5.cell 2 (v := .int .u16 st) rfl) | (refine wpList_st (op := ⟨_, .store 27 _ _, _, _, _, _⟩) rfl 27 _ _ rfl w.heap.size #[.int .u8 ho, .int .u16 bo, .int .u16 st, .int .i64 n] rfl rfl B5 infoGs rfl (by simp [Value.oneCell']) ?_; intro W9 hW9 B9))
  refine ret_c3 (g := w.heap.size) (cs := #[.int .u8 ho, .int .u16 bo, .int .u16 st, .int .i64 n]) rfl hfs.out infoGs rfl B9 rfl ⟨rfl, hW9 ▸ gb_row2 G5 (by omega)⟩

set_option maxHeartbeats 2000000 in
theorem gparseb1 (s : ByteArray) (w : World) (en : Hid (En w)) (hs : ¬ (1048576 : Int) < s.size) (ho bo st a er : Nat) (he : ¬ ((er : Nat) : Int) = 0) (hp1 : ∀ w, Calls Tryz.prog 24 #[.string s, .string ⟨#[66]⟩] w fun e w' => e = .returned (.bool false) ∧ w' = w) (hp2 : ∀ w, Calls Tryz.prog 24 #[.string s, .string ⟨#[98]⟩] w fun e w' => e = .returned (.bool true) ∧ w' = w) (hrd : ∀ w, Hid (En w) → Calls Tryz.prog 25 #[.string s] w fun e w' => e = .returned (.tuple #[.agg #[.int .u8 ho, .int .u16 bo, .int .u16 st], .int .i64 a, .int .i64 er]) ∧ w.grownBy w' none) : Calls Tryz.prog 10 #[.string s] w fun e w' => e = .returned (.tuple #[.agg #[.int .u8 0, .int .u16 0, .int .u16 0, .int .i64 0], .int .i64 a, .int .i64 er]) ∧ w.grownBy w' none := by
  obtain ⟨fs, hfs'⟩ := underGs
  have hfs : Hid (Tryz.prog.underlying 27 = some (.struct fs)) := hfs'
  clear hfs'
  obtain ⟨W1, hW1, sz1, g1, B1⟩ := boxn w #[.int .u8 0, .int .u16 0, .int .u16 0, .int .i64 0] 27
  have en1 := enK en g1
  go_enter Tryz.func10, Tryz.ntmps10
  go_wp2_with (first | (go_at_call 24; (fail_if_success (guard_hyp mk1)); refine (hp1 _).mono ?_; rintro e w2 ⟨rfl, hw2⟩; subst w2; have mk1 : True := trivial) | (go_at_call 24; refine (hp2 _).mono ?_; rintro e w2 ⟨rfl, hw2⟩; subst w2) | (go_at_call 25; refine (hrd _ en1).mono ?_; rintro e w3 ⟨rfl, g3⟩; have B3 := B1.kept g3 (by simp); have G3 := gb_trans g1 g3; obtain ⟨W4, hW4, sz4, g4, C4⟩ := boxn w3 #[.int .u8 ho, .int .u16 bo, .int .u16 st] 25; have B4 := B3.kept g4 (by simp); have G4 := gb_trans G3 g4; have en4 := enK en G4; have p0 := C4.cell 0 (v := .int .u8 ho) rfl; have p1 := C4.cell 1 (v := .int .u16 bo) rfl; have p2 := C4.cell 2 (v := .int .u16 st) rfl) | (refine wpList_st (op := ⟨_, .store 27 _ _, _, _, _, _⟩) rfl 27 _ _ rfl w.heap.size #[.int .u8 0, .int .u16 0, .int .u16 0, .int .i64 0] rfl rfl B4 infoGs rfl (by simp [Value.oneCell']) ?_; intro W9 hW9 B9))
  refine ret_c3 (g := w.heap.size) (cs := #[.int .u8 0, .int .u16 0, .int .u16 0, .int .i64 0]) rfl hfs.out infoGs rfl B9 rfl ⟨rfl, hW9 ▸ gb_row2 G4 (by omega)⟩
set_option maxHeartbeats 2000000 in
theorem gparseb2 (s : ByteArray) (w : World) (en : Hid (En w)) (hs : ¬ (1048576 : Int) < s.size) (ho bo st a n b er : Nat) (he : ¬ ((er : Nat) : Int) = 0) (hp1 : ∀ w, Calls Tryz.prog 24 #[.string s, .string ⟨#[66]⟩] w fun e w' => e = .returned (.bool false) ∧ w' = w) (hp2 : ∀ w, Calls Tryz.prog 24 #[.string s, .string ⟨#[98]⟩] w fun e w' => e = .returned (.bool true) ∧ w' = w) (hrd : ∀ w, Hid (En w) → Calls Tryz.prog 25 #[.string s] w fun e w' => e = .returned (.tuple #[.agg #[.int .u8 ho, .int .u16 bo, .int .u16 st], .int .i64 a, .int .i64 0]) ∧ w.grownBy w' none) (hst : ∀ w, Hid (En w) → Calls Tryz.prog 26 #[.string s, .int .i64 a] w fun e w' => e = .returned (.tuple #[.int .i64 n, .int .i64 b, .int .i64 er]) ∧ w.grownBy w' none) : Calls Tryz.prog 10 #[.string s] w fun e w' => e = .returned (.tuple #[.agg #[.int .u8 0, .int .u16 0, .int .u16 0, .int .i64 0], .int .i64 b, .int .i64 er]) ∧ w.grownBy w' none := by
  obtain ⟨fs, hfs'⟩ := underGs
  have hfs : Hid (Tryz.prog.underlying 27 = some (.struct fs)) := hfs'
  clear hfs'
  obtain ⟨W1, hW1, sz1, g1, B1⟩ := boxn w #[.int .u8 0, .int .u16 0, .int .u16 0, .int .i64 0] 27
  have en1 := enK en g1
  go_enter Tryz.func10, Tryz.ntmps10
  go_wp2_with (first | (go_at_call 24; (fail_if_success (guard_hyp mk1)); refine (hp1 _).mono ?_; rintro e w2 ⟨rfl, hw2⟩; subst w2; have mk1 : True := trivial) | (go_at_call 24; refine (hp2 _).mono ?_; rintro e w2 ⟨rfl, hw2⟩; subst w2) | (go_at_call 25; refine (hrd _ en1).mono ?_; rintro e w3 ⟨rfl, g3⟩; have B3 := B1.kept g3 (by simp); have G3 := gb_trans g1 g3; obtain ⟨W4, hW4, sz4, g4, C4⟩ := boxn w3 #[.int .u8 ho, .int .u16 bo, .int .u16 st] 25; have B4 := B3.kept g4 (by simp); have G4 := gb_trans G3 g4; have en4 := enK en G4; have p0 := C4.cell 0 (v := .int .u8 ho) rfl; have p1 := C4.cell 1 (v := .int .u16 bo) rfl; have p2 := C4.cell 2 (v := .int .u16 st) rfl) | (go_at_call 26; refine (hst _ en4).mono ?_; rintro e w5 ⟨rfl, g5⟩; have B5 := B4.kept g5 (by simp); have C5 := C4.kept g5 (by simp); have G5 := gb_trans G4 g5; have q0 := C5.cell 0 (v := .int .u8 ho) rfl; have q1 := C5.cell 1 (v := .int .u16 bo) rfl; have q2 := C5.cell 2 (v := .int .u16 st) rfl) | (refine wpList_st (op := ⟨_, .store 27 _ _, _, _, _, _⟩) rfl 27 _ _ rfl w.heap.size #[.int .u8 0, .int .u16 0, .int .u16 0, .int .i64 0] rfl rfl B5 infoGs rfl (by simp [Value.oneCell']) ?_; intro W9 hW9 B9))
  refine ret_c3 (g := w.heap.size) (cs := #[.int .u8 0, .int .u16 0, .int .u16 0, .int .i64 0]) rfl hfs.out infoGs rfl B9 rfl ⟨rfl, hW9 ▸ gb_row2 G5 (by omega)⟩
set_option maxHeartbeats 2000000 in
theorem gparseb3 (s : ByteArray) (w : World) (en : Hid (En w)) (hs : ¬ (1048576 : Int) < s.size) (ho bo st a n b : Nat) (hp1 : ∀ w, Calls Tryz.prog 24 #[.string s, .string ⟨#[66]⟩] w fun e w' => e = .returned (.bool false) ∧ w' = w) (hp2 : ∀ w, Calls Tryz.prog 24 #[.string s, .string ⟨#[98]⟩] w fun e w' => e = .returned (.bool true) ∧ w' = w) (hrd : ∀ w, Hid (En w) → Calls Tryz.prog 25 #[.string s] w fun e w' => e = .returned (.tuple #[.agg #[.int .u8 ho, .int .u16 bo, .int .u16 st], .int .i64 a, .int .i64 0]) ∧ w.grownBy w' none) (hst : ∀ w, Hid (En w) → Calls Tryz.prog 26 #[.string s, .int .i64 a] w fun e w' => e = .returned (.tuple #[.int .i64 n, .int .i64 b, .int .i64 0]) ∧ w.grownBy w' none) : Calls Tryz.prog 10 #[.string s] w fun e w' => e = .returned (.tuple #[.agg #[.int .u8 ho, .int .u16 bo, .int .u16 st, .int .i64 n], .int .i64 0, .int .i64 0]) ∧ w.grownBy w' none := by
  obtain ⟨fs, hfs'⟩ := underGs
  have hfs : Hid (Tryz.prog.underlying 27 = some (.struct fs)) := hfs'
  clear hfs'
  obtain ⟨W1, hW1, sz1, g1, B1⟩ := boxn w #[.int .u8 0, .int .u16 0, .int .u16 0, .int .i64 0] 27
  have en1 := enK en g1
  go_enter Tryz.func10, Tryz.ntmps10
  go_wp2_with (first | (go_at_call 24; (fail_if_success (guard_hyp mk1)); refine (hp1 _).mono ?_; rintro e w2 ⟨rfl, hw2⟩; subst w2; have mk1 : True := trivial) | (go_at_call 24; refine (hp2 _).mono ?_; rintro e w2 ⟨rfl, hw2⟩; subst w2) | (go_at_call 25; refine (hrd _ en1).mono ?_; rintro e w3 ⟨rfl, g3⟩; have B3 := B1.kept g3 (by simp); have G3 := gb_trans g1 g3; obtain ⟨W4, hW4, sz4, g4, C4⟩ := boxn w3 #[.int .u8 ho, .int .u16 bo, .int .u16 st] 25; have B4 := B3.kept g4 (by simp); have G4 := gb_trans G3 g4; have en4 := enK en G4; have p0 := C4.cell 0 (v := .int .u8 ho) rfl; have p1 := C4.cell 1 (v := .int .u16 bo) rfl; have p2 := C4.cell 2 (v := .int .u16 st) rfl) | (go_at_call 26; refine (hst _ en4).mono ?_; rintro e w5 ⟨rfl, g5⟩; have B5 := B4.kept g5 (by simp); have C5 := C4.kept g5 (by simp); have G5 := gb_trans G4 g5; have q0 := C5.cell 0 (v := .int .u8 ho) rfl; have q1 := C5.cell 1 (v := .int .u16 bo) rfl; have q2 := C5.cell 2 (v := .int .u16 st) rfl) | (refine wpList_st (op := ⟨_, .store 27 _ _, _, _, _, _⟩) rfl 27 _ _ rfl w.heap.size #[.int .u8 ho, .int .u16 bo, .int .u16 st, .int .i64 n] rfl rfl B5 infoGs rfl (by simp [Value.oneCell']) ?_; intro W9 hW9 B9))
  refine ret_c3 (g := w.heap.size) (cs := #[.int .u8 ho, .int .u16 bo, .int .u16 st, .int .i64 n]) rfl hfs.out infoGs rfl B9 rfl ⟨rfl, hW9 ▸ gb_row2 G5 (by omega)⟩

set_option maxHeartbeats 2000000 in
theorem gparseN1 (s : ByteArray) (w : World) (en : Hid (En w)) (hs : ¬ (1048576 : Int) < s.size) (ho bo st a er : Nat) (he : ¬ ((er : Nat) : Int) = 0) (hp1 : ∀ w, Calls Tryz.prog 24 #[.string s, .string ⟨#[66]⟩] w fun e w' => e = .returned (.bool false) ∧ w' = w) (hp2 : ∀ w, Calls Tryz.prog 24 #[.string s, .string ⟨#[98]⟩] w fun e w' => e = .returned (.bool false) ∧ w' = w) (hrd : ∀ w, Hid (En w) → Calls Tryz.prog 23 #[.string s] w fun e w' => e = .returned (.tuple #[.agg #[.int .u8 ho, .int .u16 bo, .int .u16 st], .int .i64 a, .int .i64 er]) ∧ w.grownBy w' none) : Calls Tryz.prog 10 #[.string s] w fun e w' => e = .returned (.tuple #[.agg #[.int .u8 0, .int .u16 0, .int .u16 0, .int .i64 0], .int .i64 a, .int .i64 er]) ∧ w.grownBy w' none := by
  obtain ⟨fs, hfs'⟩ := underGs
  have hfs : Hid (Tryz.prog.underlying 27 = some (.struct fs)) := hfs'
  clear hfs'
  obtain ⟨W1, hW1, sz1, g1, B1⟩ := boxn w #[.int .u8 0, .int .u16 0, .int .u16 0, .int .i64 0] 27
  have en1 := enK en g1
  go_enter Tryz.func10, Tryz.ntmps10
  go_wp2_with (first | (go_at_call 24; (fail_if_success (guard_hyp mk1)); refine (hp1 _).mono ?_; rintro e w2 ⟨rfl, hw2⟩; subst w2; have mk1 : True := trivial) | (go_at_call 24; refine (hp2 _).mono ?_; rintro e w2 ⟨rfl, hw2⟩; subst w2) | (go_at_call 23; refine (hrd _ en1).mono ?_; rintro e w3 ⟨rfl, g3⟩; have B3 := B1.kept g3 (by simp); have G3 := gb_trans g1 g3; obtain ⟨W4, hW4, sz4, g4, C4⟩ := boxn w3 #[.int .u8 ho, .int .u16 bo, .int .u16 st] 25; have B4 := B3.kept g4 (by simp); have G4 := gb_trans G3 g4; have en4 := enK en G4; have p0 := C4.cell 0 (v := .int .u8 ho) rfl; have p1 := C4.cell 1 (v := .int .u16 bo) rfl; have p2 := C4.cell 2 (v := .int .u16 st) rfl) | (refine wpList_st (op := ⟨_, .store 27 _ _, _, _, _, _⟩) rfl 27 _ _ rfl w.heap.size #[.int .u8 0, .int .u16 0, .int .u16 0, .int .i64 0] rfl rfl B4 infoGs rfl (by simp [Value.oneCell']) ?_; intro W9 hW9 B9))
  refine ret_c3 (g := w.heap.size) (cs := #[.int .u8 0, .int .u16 0, .int .u16 0, .int .i64 0]) rfl hfs.out infoGs rfl B9 rfl ⟨rfl, hW9 ▸ gb_row2 G4 (by omega)⟩
set_option maxHeartbeats 2000000 in
theorem gparseN2 (s : ByteArray) (w : World) (en : Hid (En w)) (hs : ¬ (1048576 : Int) < s.size) (ho bo st a n b er : Nat) (he : ¬ ((er : Nat) : Int) = 0) (hp1 : ∀ w, Calls Tryz.prog 24 #[.string s, .string ⟨#[66]⟩] w fun e w' => e = .returned (.bool false) ∧ w' = w) (hp2 : ∀ w, Calls Tryz.prog 24 #[.string s, .string ⟨#[98]⟩] w fun e w' => e = .returned (.bool false) ∧ w' = w) (hrd : ∀ w, Hid (En w) → Calls Tryz.prog 23 #[.string s] w fun e w' => e = .returned (.tuple #[.agg #[.int .u8 ho, .int .u16 bo, .int .u16 st], .int .i64 a, .int .i64 0]) ∧ w.grownBy w' none) (hst : ∀ w, Hid (En w) → Calls Tryz.prog 26 #[.string s, .int .i64 a] w fun e w' => e = .returned (.tuple #[.int .i64 n, .int .i64 b, .int .i64 er]) ∧ w.grownBy w' none) : Calls Tryz.prog 10 #[.string s] w fun e w' => e = .returned (.tuple #[.agg #[.int .u8 0, .int .u16 0, .int .u16 0, .int .i64 0], .int .i64 b, .int .i64 er]) ∧ w.grownBy w' none := by
  obtain ⟨fs, hfs'⟩ := underGs
  have hfs : Hid (Tryz.prog.underlying 27 = some (.struct fs)) := hfs'
  clear hfs'
  obtain ⟨W1, hW1, sz1, g1, B1⟩ := boxn w #[.int .u8 0, .int .u16 0, .int .u16 0, .int .i64 0] 27
  have en1 := enK en g1
  go_enter Tryz.func10, Tryz.ntmps10
  go_wp2_with (first | (go_at_call 24; (fail_if_success (guard_hyp mk1)); refine (hp1 _).mono ?_; rintro e w2 ⟨rfl, hw2⟩; subst w2; have mk1 : True := trivial) | (go_at_call 24; refine (hp2 _).mono ?_; rintro e w2 ⟨rfl, hw2⟩; subst w2) | (go_at_call 23; refine (hrd _ en1).mono ?_; rintro e w3 ⟨rfl, g3⟩; have B3 := B1.kept g3 (by simp); have G3 := gb_trans g1 g3; obtain ⟨W4, hW4, sz4, g4, C4⟩ := boxn w3 #[.int .u8 ho, .int .u16 bo, .int .u16 st] 25; have B4 := B3.kept g4 (by simp); have G4 := gb_trans G3 g4; have en4 := enK en G4; have p0 := C4.cell 0 (v := .int .u8 ho) rfl; have p1 := C4.cell 1 (v := .int .u16 bo) rfl; have p2 := C4.cell 2 (v := .int .u16 st) rfl) | (go_at_call 26; refine (hst _ en4).mono ?_; rintro e w5 ⟨rfl, g5⟩; have B5 := B4.kept g5 (by simp); have C5 := C4.kept g5 (by simp); have G5 := gb_trans G4 g5; have q0 := C5.cell 0 (v := .int .u8 ho) rfl; have q1 := C5.cell 1 (v := .int .u16 bo) rfl; have q2 := C5.cell 2 (v := .int .u16 st) rfl) | (refine wpList_st (op := ⟨_, .store 27 _ _, _, _, _, _⟩) rfl 27 _ _ rfl w.heap.size #[.int .u8 0, .int .u16 0, .int .u16 0, .int .i64 0] rfl rfl B5 infoGs rfl (by simp [Value.oneCell']) ?_; intro W9 hW9 B9))
  refine ret_c3 (g := w.heap.size) (cs := #[.int .u8 0, .int .u16 0, .int .u16 0, .int .i64 0]) rfl hfs.out infoGs rfl B9 rfl ⟨rfl, hW9 ▸ gb_row2 G5 (by omega)⟩
set_option maxHeartbeats 2000000 in
theorem gparseN3 (s : ByteArray) (w : World) (en : Hid (En w)) (hs : ¬ (1048576 : Int) < s.size) (ho bo st a n b : Nat) (hp1 : ∀ w, Calls Tryz.prog 24 #[.string s, .string ⟨#[66]⟩] w fun e w' => e = .returned (.bool false) ∧ w' = w) (hp2 : ∀ w, Calls Tryz.prog 24 #[.string s, .string ⟨#[98]⟩] w fun e w' => e = .returned (.bool false) ∧ w' = w) (hrd : ∀ w, Hid (En w) → Calls Tryz.prog 23 #[.string s] w fun e w' => e = .returned (.tuple #[.agg #[.int .u8 ho, .int .u16 bo, .int .u16 st], .int .i64 a, .int .i64 0]) ∧ w.grownBy w' none) (hst : ∀ w, Hid (En w) → Calls Tryz.prog 26 #[.string s, .int .i64 a] w fun e w' => e = .returned (.tuple #[.int .i64 n, .int .i64 b, .int .i64 0]) ∧ w.grownBy w' none) : Calls Tryz.prog 10 #[.string s] w fun e w' => e = .returned (.tuple #[.agg #[.int .u8 ho, .int .u16 bo, .int .u16 st, .int .i64 n], .int .i64 0, .int .i64 0]) ∧ w.grownBy w' none := by
  obtain ⟨fs, hfs'⟩ := underGs
  have hfs : Hid (Tryz.prog.underlying 27 = some (.struct fs)) := hfs'
  clear hfs'
  obtain ⟨W1, hW1, sz1, g1, B1⟩ := boxn w #[.int .u8 0, .int .u16 0, .int .u16 0, .int .i64 0] 27
  have en1 := enK en g1
  go_enter Tryz.func10, Tryz.ntmps10
  go_wp2_with (first | (go_at_call 24; (fail_if_success (guard_hyp mk1)); refine (hp1 _).mono ?_; rintro e w2 ⟨rfl, hw2⟩; subst w2; have mk1 : True := trivial) | (go_at_call 24; refine (hp2 _).mono ?_; rintro e w2 ⟨rfl, hw2⟩; subst w2) | (go_at_call 23; refine (hrd _ en1).mono ?_; rintro e w3 ⟨rfl, g3⟩; have B3 := B1.kept g3 (by simp); have G3 := gb_trans g1 g3; obtain ⟨W4, hW4, sz4, g4, C4⟩ := boxn w3 #[.int .u8 ho, .int .u16 bo, .int .u16 st] 25; have B4 := B3.kept g4 (by simp); have G4 := gb_trans G3 g4; have en4 := enK en G4; have p0 := C4.cell 0 (v := .int .u8 ho) rfl; have p1 := C4.cell 1 (v := .int .u16 bo) rfl; have p2 := C4.cell 2 (v := .int .u16 st) rfl) | (go_at_call 26; refine (hst _ en4).mono ?_; rintro e w5 ⟨rfl, g5⟩; have B5 := B4.kept g5 (by simp); have C5 := C4.kept g5 (by simp); have G5 := gb_trans G4 g5; have q0 := C5.cell 0 (v := .int .u8 ho) rfl; have q1 := C5.cell 1 (v := .int .u16 bo) rfl; have q2 := C5.cell 2 (v := .int .u16 st) rfl) | (refine wpList_st (op := ⟨_, .store 27 _ _, _, _, _, _⟩) rfl 27 _ _ rfl w.heap.size #[.int .u8 ho, .int .u16 bo, .int .u16 st, .int .i64 n] rfl rfl B5 infoGs rfl (by simp [Value.oneCell']) ?_; intro W9 hW9 B9))
  refine ret_c3 (g := w.heap.size) (cs := #[.int .u8 ho, .int .u16 bo, .int .u16 st, .int .i64 n]) rfl hfs.out infoGs rfl B9 rfl ⟨rfl, hW9 ▸ gb_row2 G5 (by omega)⟩

theorem gparseC (s : ByteArray) (w : World) (en : Hid (En w)) : Calls Tryz.prog 10 #[.string s] w fun e w' => e = .returned (.tuple #[.agg #[.int .u8 (Gn.parseR s).ho, .int .u16 (Gn.parseR s).bo, .int .u16 (Gn.parseR s).st, .int .i64 (Gn.parseR s).n], .int .i64 (Gn.parseR s).a, .int .i64 (Gn.parseR s).er]) ∧ w.grownBy w' none := by
  unfold Gn.parseR
  by_cases hl : 1048576 < s.size
  · rw [if_pos hl]
    exact gparseLong s w (by omega)
  · rw [if_neg hl]
    have hs : s.size ≤ 1048576 := by omega
    have hs' : ¬ (1048576 : Int) < s.size := by omega
    have hp1 : ∀ w, Calls Tryz.prog 24 #[.string s, .string ⟨#[66]⟩] w fun e w' => e = .returned (.bool (Sc.bt s 0 == 66)) ∧ w' = w := fun w => by
      have h := Tryz.strings_HasPrefix s ⟨#[66]⟩ w
      rw [show Lib.hasPrefix s.data.toList (ByteArray.mk #[66]).data.toList = (Sc.bt s 0 == 66) from Gn.pre_is s 66 (by decide)] at h
      exact h
    have hp2 : ∀ w, Calls Tryz.prog 24 #[.string s, .string ⟨#[98]⟩] w fun e w' => e = .returned (.bool (Sc.bt s 0 == 98)) ∧ w' = w := fun w => by
      have h := Tryz.strings_HasPrefix s ⟨#[98]⟩ w
      rw [show Lib.hasPrefix s.data.toList (ByteArray.mk #[98]).data.toList = (Sc.bt s 0 == 98) from Gn.pre_is s 98 (by decide)] at h
      exact h
    have hL := fun w en => readLetteredC s w en hs
    have hN := fun w => readListsC s w hs
    have hla := Gn.read_le s
    unfold Gn.readR at hla ⊢
    unfold Gn.isB at hla ⊢
    cases h1 : (Sc.bt s 0 == 66) with
    | true =>
      rw [h1] at hp1 hla
      simp only [Bool.true_or, if_true] at hla ⊢
      cases hr : Gn.lettR s with
      | mk ho bo st a er =>
        rw [hr] at hL hla
        unfold Gn.parse1
        by_cases he : er = 0
        · subst he
          simp only [if_true]
          have hst := fun w en => readStatesC s a w en hs (hla rfl)
          cases ht : Gn.stR s a with
          | mk n b er =>
            rw [ht] at hst
            unfold Gn.parse2
            by_cases he : er = 0
            · subst he
              simp only [if_true]
              exact gparseB3 s w en hs' ho bo st a n b hp1 hL hst
            · simp only [he, if_false]
              exact gparseB2 s w en hs' ho bo st a n b er (by omega) hp1 hL hst
        · simp only [he, if_false]
          exact gparseB1 s w en hs' ho bo st a er (by omega) hp1 hL
    | false =>
      rw [h1] at hp1 hla
      cases h2 : (Sc.bt s 0 == 98) with
      | true =>
        rw [h2] at hp2 hla
        simp only [Bool.or_true, if_true] at hla ⊢
        cases hr : Gn.lettR s with
        | mk ho bo st a er =>
          rw [hr] at hL hla
          unfold Gn.parse1
          by_cases he : er = 0
          · subst he
            simp only [if_true]
            have hst := fun w en => readStatesC s a w en hs (hla rfl)
            cases ht : Gn.stR s a with
            | mk n b er =>
              rw [ht] at hst
              unfold Gn.parse2
              by_cases he : er = 0
              · subst he
                simp only [if_true]
                exact gparseb3 s w en hs' ho bo st a n b hp1 hp2 hL hst
              · simp only [he, if_false]
                exact gparseb2 s w en hs' ho bo st a n b er (by omega) hp1 hp2 hL hst
          · simp only [he, if_false]
            exact gparseb1 s w en hs' ho bo st a er (by omega) hp1 hp2 hL
      | false =>
        rw [h2] at hp2 hla
        simp only [Bool.or_false, Bool.false_eq_true, if_false] at hla ⊢
        cases hr : Gn.listsR s with
        | mk ho bo st a er =>
          rw [hr] at hN hla
          unfold Gn.parse1
          by_cases he : er = 0
          · subst he
            simp only [if_true]
            have hst := fun w en => readStatesC s a w en hs (hla rfl)
            cases ht : Gn.stR s a with
            | mk n b er =>
              rw [ht] at hst
              unfold Gn.parse2
              by_cases he : er = 0
              · subst he
                simp only [if_true]
                exact gparseN3 s w en hs' ho bo st a n b hp1 hp2 (fun w _ => hN w) hst
              · simp only [he, if_false]
                exact gparseN2 s w en hs' ho bo st a n b er (by omega) hp1 hp2 (fun w _ => hN w) hst
          · simp only [he, if_false]
            exact gparseN1 s w en hs' ho bo st a er (by omega) hp1 hp2 (fun w _ => hN w)
end Go.Proofs.YtlkdenanbofliaaGreatDoor
