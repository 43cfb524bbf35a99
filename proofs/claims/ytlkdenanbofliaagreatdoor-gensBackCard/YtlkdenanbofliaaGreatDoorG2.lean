/- What readLists of package gens answers. -/
import Derived.Test.YtlkdenanbofliaaGreatDoorG1
import Derived.Test.YtlkdenanbofliaaGreatDoorGm
import Derived.Test.YtlkdenanbofliaaGreatDoorL7
namespace Go.Proofs.YtlkdenanbofliaaGreatDoor
open Go.RowKit
set_option linter.unusedVariables false
set_option linter.unusedSimpArgs false
set_option maxRecDepth 100000

set_option maxHeartbeats 2000000 in
theorem listsA (s : ByteArray) (w : World) (hs : s.size ≤ 1048576) (v a er : Nat) (hr : Hid (Gn.tl s 0 = ⟨v, a, er⟩)) (he : Hid (¬ ((er : Nat) : Int) = 0)) : Calls Tryz.prog 23 #[.string s] w fun e w' => e = .returned (.tuple #[.agg #[.int .u8 0, .int .u16 0, .int .u16 0], .int .i64 a, .int .i64 er]) ∧ w.grownBy w' none := by
  obtain ⟨fs, hfs'⟩ := underLf
  have hfs : Hid (Tryz.prog.underlying 25 = some (.struct fs)) := hfs'
  clear hfs'
  obtain ⟨W1, hW1, sz1, g1, B1⟩ := boxn w #[.int .u8 0, .int .u16 0, .int .u16 0] 25
  obtain ⟨W2, hW2, sz2, g2, C2⟩ := boxn W1 #[.int .u16 0, .int .u16 0] 73
  have B2 := B1.kept g2 (by simp)
  have G2 := gb_trans g1 g2
  have HM1 : Hid (w.heap.size ≠ W2.heap.size) := by have := sz1.out; have := sz2.out; unfold Hid; omega
  have HM2 : Hid (W1.heap.size ≠ W2.heap.size) := by have := sz2.out; unfold Hid; omega
  have HM3 : Hid (W1.heap.size ≠ w.heap.size) := by have := sz1.out; unfold Hid; omega
  have ht1 := fun b w h => takeListC b s 0 w h (Nat.zero_le _) hs
  rw [hr.out] at ht1
  have E1 := he.out
  clear hr
  go_enter Tryz.func23, Tryz.ntmps23
  go_wp2_with (first | (go_at_call 42; refine (newC s _).mono ?_; rintro e w3 ⟨rfl, h3, g3⟩; have B3 := B2.kept g3 (by simp); have C3 := C2.kept g3 (by simp); have G3 := gb_trans G2 g3))
  refine wp_loop_rounds 3 ?_
  rw [rounds_succ]
  go_wp2_with (first | (go_at_call 43; (fail_if_success (guard_hyp g4)); refine (ht1 _ _ h3).mono ?_; rintro e w4 ⟨rfl, h4, g4⟩; have B4 := B3.kept g4 (by simpa using HM1.out); have C4 := C3.kept g4 (by simpa using HM2.out); have G4 := gb_own2 G3 (Nat.le_trans g1.size g2.size) g4; have c40 := C4.cell 0 (v := .int .u16 0) rfl; have f40 := C4.frozen 0; obtain ⟨V4, hV4⟩ : ∃ V, w4.setCell ⟨W1.heap.size, 0, none⟩ (.int .u16 v) = V := ⟨_, rfl⟩; have h4v : Cu V4 W2.heap.size s _ := hV4 ▸ cu_set HM2.out h4; have B4v : Bo V4 w.heap.size 25 #[.int .u8 0, .int .u16 0, .int .u16 0] := hV4 ▸ B4.set2 HM3.out; have C4v : Bo V4 W1.heap.size 73 #[.int .u16 v, .int .u16 0] := hV4 ▸ C4.set 0 _; have G4v : w.grownBy V4 none := hV4 ▸ gb_new G4 g1.size (.int .u16 v)) | (go_at_call 44; refine (atC _ s _ V4 h4v).mono ?_; rintro e wa ⟨rfl, hwa⟩; subst wa) | (refine wpList_st (op := ⟨_, .store 25 _ _, _, _, _, _⟩) rfl 25 _ _ rfl w.heap.size #[.int .u8 0, .int .u16 0, .int .u16 0] rfl rfl B4v infoLf rfl (by simp [Value.oneCell']) ?_; intro W9 hW9 B9))
  refine ret_c3 (g := w.heap.size) (cs := #[.int .u8 0, .int .u16 0, .int .u16 0]) rfl hfs.out infoLf rfl B9 rfl ⟨rfl, hW9 ▸ gb_row2 G4v (by omega)⟩
set_option maxHeartbeats 2000000 in
theorem listsB (s : ByteArray) (w : World) (hs : s.size ≤ 1048576) (v a u b er : Nat) (hr : Hid (Gn.tl s 0 = ⟨v, a, 0⟩)) (hq : Hid (Gn.tl s a = ⟨u, b, er⟩)) (ha : a ≤ s.size) (he : Hid (¬ ((er : Nat) : Int) = 0)) : Calls Tryz.prog 23 #[.string s] w fun e w' => e = .returned (.tuple #[.agg #[.int .u8 0, .int .u16 0, .int .u16 0], .int .i64 b, .int .i64 er]) ∧ w.grownBy w' none := by
  obtain ⟨fs, hfs'⟩ := underLf
  have hfs : Hid (Tryz.prog.underlying 25 = some (.struct fs)) := hfs'
  clear hfs'
  obtain ⟨W1, hW1, sz1, g1, B1⟩ := boxn w #[.int .u8 0, .int .u16 0, .int .u16 0] 25
  obtain ⟨W2, hW2, sz2, g2, C2⟩ := boxn W1 #[.int .u16 0, .int .u16 0] 73
  have B2 := B1.kept g2 (by simp)
  have G2 := gb_trans g1 g2
  have HM1 : Hid (w.heap.size ≠ W2.heap.size) := by have := sz1.out; have := sz2.out; unfold Hid; omega
  have HM2 : Hid (W1.heap.size ≠ W2.heap.size) := by have := sz2.out; unfold Hid; omega
  have HM3 : Hid (W1.heap.size ≠ w.heap.size) := by have := sz1.out; unfold Hid; omega
  have ht1 := fun b w h => takeListC b s 0 w h (Nat.zero_le _) hs
  rw [hr.out] at ht1
  have ht2 := fun b w h => takeListC b s a w h ha hs
  rw [hq.out] at ht2
  have E1 := he.out
  clear hr hq
  go_enter Tryz.func23, Tryz.ntmps23
  go_wp2_with (first | (go_at_call 42; refine (newC s _).mono ?_; rintro e w3 ⟨rfl, h3, g3⟩; have B3 := B2.kept g3 (by simp); have C3 := C2.kept g3 (by simp); have G3 := gb_trans G2 g3))
  refine wp_loop_rounds 3 ?_
  rw [rounds_succ]
  go_wp2_with (first | (go_at_call 43; (fail_if_success (guard_hyp g4)); refine (ht1 _ _ h3).mono ?_; rintro e w4 ⟨rfl, h4, g4⟩; have B4 := B3.kept g4 (by simpa using HM1.out); have C4 := C3.kept g4 (by simpa using HM2.out); have G4 := gb_own2 G3 (Nat.le_trans g1.size g2.size) g4; have c40 := C4.cell 0 (v := .int .u16 0) rfl; have f40 := C4.frozen 0; obtain ⟨V4, hV4⟩ : ∃ V, w4.setCell ⟨W1.heap.size, 0, none⟩ (.int .u16 v) = V := ⟨_, rfl⟩; have h4v : Cu V4 W2.heap.size s _ := hV4 ▸ cu_set HM2.out h4; have B4v : Bo V4 w.heap.size 25 #[.int .u8 0, .int .u16 0, .int .u16 0] := hV4 ▸ B4.set2 HM3.out; have C4v : Bo V4 W1.heap.size 73 #[.int .u16 v, .int .u16 0] := hV4 ▸ C4.set 0 _; have G4v : w.grownBy V4 none := hV4 ▸ gb_new G4 g1.size (.int .u16 v)))
  rw [rounds_succ]
  go_wp2_with (first | (go_at_call 43; (fail_if_success (guard_hyp g5)); refine (ht2 _ _ h4v).mono ?_; rintro e w5 ⟨rfl, h5, g5⟩; have B5 := B4v.kept g5 (by simpa using HM1.out); have C5 := C4v.kept g5 (by simpa using HM2.out); have G5 := gb_own2 G4v (Nat.le_trans g1.size g2.size) g5; have c50 := C5.cell 1 (v := .int .u16 0) rfl; have f50 := C5.frozen 1; obtain ⟨V5, hV5⟩ : ∃ V, w5.setCell ⟨W1.heap.size, 1, none⟩ (.int .u16 u) = V := ⟨_, rfl⟩; have h5v : Cu V5 W2.heap.size s _ := hV5 ▸ cu_set HM2.out h5; have B5v : Bo V5 w.heap.size 25 #[.int .u8 0, .int .u16 0, .int .u16 0] := hV5 ▸ B5.set2 HM3.out; have C5v : Bo V5 W1.heap.size 73 #[.int .u16 v, .int .u16 u] := hV5 ▸ C5.set 1 _; have G5v : w.grownBy V5 none := hV5 ▸ gb_new G5 g1.size (.int .u16 u)) | (go_at_call 44; refine (atC _ s _ V5 h5v).mono ?_; rintro e wa ⟨rfl, hwa⟩; subst wa) | (refine wpList_st (op := ⟨_, .store 25 _ _, _, _, _, _⟩) rfl 25 _ _ rfl w.heap.size #[.int .u8 0, .int .u16 0, .int .u16 0] rfl rfl B5v infoLf rfl (by simp [Value.oneCell']) ?_; intro W9 hW9 B9))
  refine ret_c3 (g := w.heap.size) (cs := #[.int .u8 0, .int .u16 0, .int .u16 0]) rfl hfs.out infoLf rfl B9 rfl ⟨rfl, hW9 ▸ gb_row2 G5v (by omega)⟩
set_option maxHeartbeats 2000000 in
theorem listsC (s : ByteArray) (w : World) (hs : s.size ≤ 1048576) (v a u b : Nat) (hr : Hid (Gn.tl s 0 = ⟨v, a, 0⟩)) (hq : Hid (Gn.tl s a = ⟨u, b + 1, 0⟩)) (ha : a ≤ s.size) (hb : b < s.size) (n : Int) (hn : Hid (Lib.indexByte (s.extract 0 b).data.toList 57 = n)) (h0 : 0 ≤ n) : Calls Tryz.prog 23 #[.string s] w fun e w' => e = .returned (.tuple #[.agg #[.int .u8 0, .int .u16 0, .int .u16 0], .int .i64 n, .int .i64 82]) ∧ w.grownBy w' none := by
  obtain ⟨fs, hfs'⟩ := underLf
  have hfs : Hid (Tryz.prog.underlying 25 = some (.struct fs)) := hfs'
  clear hfs'
  obtain ⟨W1, hW1, sz1, g1, B1⟩ := boxn w #[.int .u8 0, .int .u16 0, .int .u16 0] 25
  obtain ⟨W2, hW2, sz2, g2, C2⟩ := boxn W1 #[.int .u16 0, .int .u16 0] 73
  have B2 := B1.kept g2 (by simp)
  have G2 := gb_trans g1 g2
  have HM1 : Hid (w.heap.size ≠ W2.heap.size) := by have := sz1.out; have := sz2.out; unfold Hid; omega
  have HM2 : Hid (W1.heap.size ≠ W2.heap.size) := by have := sz2.out; unfold Hid; omega
  have HM3 : Hid (W1.heap.size ≠ w.heap.size) := by have := sz1.out; unfold Hid; omega
  have ht1 := fun b w h => takeListC b s 0 w h (Nat.zero_le _) hs
  rw [hr.out] at ht1
  have ht2 := fun b w h => takeListC b s a w h ha hs
  rw [hq.out] at ht2
  have hi : ∀ w, Calls Tryz.prog 45 #[.string (s.extract 0 b), .int .u8 57] w fun e w' => e = .returned (.int .i64 n) ∧ w' = w := fun w => by
    have := Tryz.strings_IndexByte (s.extract 0 b) 57 w
    rw [show (57 : Int).toNat.toUInt8 = 57 from rfl, hn.out] at this
    exact this
  have hb1 : IntKind.i64.wrap (((b : Int) + 1) - 1) = (b : Int) := by rw [IntKind.wrap_i64]; omega
  have hb2 : (b : Int) ≤ (s.size : Int) := by omega
  have hb3 : b ≤ s.size := by omega
  clear hr hq hn
  go_enter Tryz.func23, Tryz.ntmps23
  go_wp2_with (first | (go_at_call 42; refine (newC s _).mono ?_; rintro e w3 ⟨rfl, h3, g3⟩; have B3 := B2.kept g3 (by simp); have C3 := C2.kept g3 (by simp); have G3 := gb_trans G2 g3))
  refine wp_loop_rounds 3 ?_
  rw [rounds_succ]
  go_wp2_with (first | (go_at_call 43; (fail_if_success (guard_hyp g4)); refine (ht1 _ _ h3).mono ?_; rintro e w4 ⟨rfl, h4, g4⟩; have B4 := B3.kept g4 (by simpa using HM1.out); have C4 := C3.kept g4 (by simpa using HM2.out); have G4 := gb_own2 G3 (Nat.le_trans g1.size g2.size) g4; have c40 := C4.cell 0 (v := .int .u16 0) rfl; have f40 := C4.frozen 0; obtain ⟨V4, hV4⟩ : ∃ V, w4.setCell ⟨W1.heap.size, 0, none⟩ (.int .u16 v) = V := ⟨_, rfl⟩; have h4v : Cu V4 W2.heap.size s _ := hV4 ▸ cu_set HM2.out h4; have B4v : Bo V4 w.heap.size 25 #[.int .u8 0, .int .u16 0, .int .u16 0] := hV4 ▸ B4.set2 HM3.out; have C4v : Bo V4 W1.heap.size 73 #[.int .u16 v, .int .u16 0] := hV4 ▸ C4.set 0 _; have G4v : w.grownBy V4 none := hV4 ▸ gb_new G4 g1.size (.int .u16 v)))
  rw [rounds_succ]
  go_wp2_with (first | (go_at_call 43; (fail_if_success (guard_hyp g5)); refine (ht2 _ _ h4v).mono ?_; rintro e w5 ⟨rfl, h5, g5⟩; have B5 := B4v.kept g5 (by simpa using HM1.out); have C5 := C4v.kept g5 (by simpa using HM2.out); have G5 := gb_own2 G4v (Nat.le_trans g1.size g2.size) g5; have c50 := C5.cell 1 (v := .int .u16 0) rfl; have f50 := C5.frozen 1; obtain ⟨V5, hV5⟩ : ∃ V, w5.setCell ⟨W1.heap.size, 1, none⟩ (.int .u16 u) = V := ⟨_, rfl⟩; have h5v : Cu V5 W2.heap.size s _ := hV5 ▸ cu_set HM2.out h5; have B5v : Bo V5 w.heap.size 25 #[.int .u8 0, .int .u16 0, .int .u16 0] := hV5 ▸ B5.set2 HM3.out; have C5v : Bo V5 W1.heap.size 73 #[.int .u16 v, .int .u16 u] := hV5 ▸ C5.set 1 _; have G5v : w.grownBy V5 none := hV5 ▸ gb_new G5 g1.size (.int .u16 u)))
  rw [rounds_succ]
  go_wp2_with (first | (go_at_call 44; refine (atC _ s _ V5 h5v).mono ?_; rintro e wa ⟨rfl, hwa⟩; subst wa) | (go_at_call 45; refine (hi _).mono ?_; rintro e wb ⟨rfl, hwb⟩; subst wb) | (refine wpList_st (op := ⟨_, .store 25 _ _, _, _, _, _⟩) rfl 25 _ _ rfl w.heap.size #[.int .u8 0, .int .u16 0, .int .u16 0] rfl rfl B5v infoLf rfl (by simp [Value.oneCell']) ?_; intro W9 hW9 B9))
  refine ret_c3 (g := w.heap.size) (cs := #[.int .u8 0, .int .u16 0, .int .u16 0]) rfl hfs.out infoLf rfl B9 rfl ⟨rfl, hW9 ▸ gb_row2 G5v (by omega)⟩
set_option maxHeartbeats 2000000 in
theorem listsD (s : ByteArray) (w : World) (hs : s.size ≤ 1048576) (v a u b : Nat) (hr : Hid (Gn.tl s 0 = ⟨v, a, 0⟩)) (hq : Hid (Gn.tl s a = ⟨u, b + 1, 0⟩)) (ha : a ≤ s.size) (hb : b < s.size) (n : Int) (hn : Hid (Lib.indexByte (s.extract 0 b).data.toList 57 = n)) (h0 : ¬ 0 ≤ n) : Calls Tryz.prog 23 #[.string s] w fun e w' => e = .returned (.tuple #[.agg #[.int .u8 1, .int .u16 u, .int .u16 v], .int .i64 b, .int .i64 0]) ∧ w.grownBy w' none := by
  obtain ⟨fs, hfs'⟩ := underLf
  have hfs : Hid (Tryz.prog.underlying 25 = some (.struct fs)) := hfs'
  clear hfs'
  obtain ⟨W1, hW1, sz1, g1, B1⟩ := boxn w #[.int .u8 0, .int .u16 0, .int .u16 0] 25
  obtain ⟨W2, hW2, sz2, g2, C2⟩ := boxn W1 #[.int .u16 0, .int .u16 0] 73
  have B2 := B1.kept g2 (by simp)
  have G2 := gb_trans g1 g2
  have HM1 : Hid (w.heap.size ≠ W2.heap.size) := by have := sz1.out; have := sz2.out; unfold Hid; omega
  have HM2 : Hid (W1.heap.size ≠ W2.heap.size) := by have := sz2.out; unfold Hid; omega
  have HM3 : Hid (W1.heap.size ≠ w.heap.size) := by have := sz1.out; unfold Hid; omega
  have ht1 := fun b w h => takeListC b s 0 w h (Nat.zero_le _) hs
  rw [hr.out] at ht1
  have ht2 := fun b w h => takeListC b s a w h ha hs
  rw [hq.out] at ht2
  have hi : ∀ w, Calls Tryz.prog 45 #[.string (s.extract 0 b), .int .u8 57] w fun e w' => e = .returned (.int .i64 n) ∧ w' = w := fun w => by
    have := Tryz.strings_IndexByte (s.extract 0 b) 57 w
    rw [show (57 : Int).toNat.toUInt8 = 57 from rfl, hn.out] at this
    exact this
  have hb1 : IntKind.i64.wrap (((b : Int) + 1) - 1) = (b : Int) := by rw [IntKind.wrap_i64]; omega
  have hb2 : (b : Int) ≤ (s.size : Int) := by omega
  have hb3 : b ≤ s.size := by omega
  clear hr hq hn
  go_enter Tryz.func23, Tryz.ntmps23
  go_wp2_with (first | (go_at_call 42; refine (newC s _).mono ?_; rintro e w3 ⟨rfl, h3, g3⟩; have B3 := B2.kept g3 (by simp); have C3 := C2.kept g3 (by simp); have G3 := gb_trans G2 g3))
  refine wp_loop_rounds 3 ?_
  rw [rounds_succ]
  go_wp2_with (first | (go_at_call 43; (fail_if_success (guard_hyp g4)); refine (ht1 _ _ h3).mono ?_; rintro e w4 ⟨rfl, h4, g4⟩; have B4 := B3.kept g4 (by simpa using HM1.out); have C4 := C3.kept g4 (by simpa using HM2.out); have G4 := gb_own2 G3 (Nat.le_trans g1.size g2.size) g4; have c40 := C4.cell 0 (v := .int .u16 0) rfl; have f40 := C4.frozen 0; obtain ⟨V4, hV4⟩ : ∃ V, w4.setCell ⟨W1.heap.size, 0, none⟩ (.int .u16 v) = V := ⟨_, rfl⟩; have h4v : Cu V4 W2.heap.size s _ := hV4 ▸ cu_set HM2.out h4; have B4v : Bo V4 w.heap.size 25 #[.int .u8 0, .int .u16 0, .int .u16 0] := hV4 ▸ B4.set2 HM3.out; have C4v : Bo V4 W1.heap.size 73 #[.int .u16 v, .int .u16 0] := hV4 ▸ C4.set 0 _; have G4v : w.grownBy V4 none := hV4 ▸ gb_new G4 g1.size (.int .u16 v)))
  rw [rounds_succ]
  go_wp2_with (first | (go_at_call 43; (fail_if_success (guard_hyp g5)); refine (ht2 _ _ h4v).mono ?_; rintro e w5 ⟨rfl, h5, g5⟩; have B5 := B4v.kept g5 (by simpa using HM1.out); have C5 := C4v.kept g5 (by simpa using HM2.out); have G5 := gb_own2 G4v (Nat.le_trans g1.size g2.size) g5; have c50 := C5.cell 1 (v := .int .u16 0) rfl; have f50 := C5.frozen 1; obtain ⟨V5, hV5⟩ : ∃ V, w5.setCell ⟨W1.heap.size, 1, none⟩ (.int .u16 u) = V := ⟨_, rfl⟩; have h5v : Cu V5 W2.heap.size s _ := hV5 ▸ cu_set HM2.out h5; have B5v : Bo V5 w.heap.size 25 #[.int .u8 0, .int .u16 0, .int .u16 0] := hV5 ▸ B5.set2 HM3.out; have C5v : Bo V5 W1.heap.size 73 #[.int .u16 v, .int .u16 u] := hV5 ▸ C5.set 1 _; have G5v : w.grownBy V5 none := hV5 ▸ gb_new G5 g1.size (.int .u16 u)))
  have d0 := C5v.cell 0 (v := .int .u16 v) rfl
  have d1 := C5v.cell 1 (v := .int .u16 u) rfl
  rw [rounds_succ]
  go_wp2_with (first | (go_at_call 44; refine (atC _ s _ V5 h5v).mono ?_; rintro e wa ⟨rfl, hwa⟩; subst wa) | (go_at_call 45; refine (hi _).mono ?_; rintro e wb ⟨rfl, hwb⟩; subst wb) | (refine wpList_st (op := ⟨_, .store 25 _ _, _, _, _, _⟩) rfl 25 _ _ rfl w.heap.size #[.int .u8 1, .int .u16 u, .int .u16 v] rfl rfl B5v infoLf rfl (by simp [Value.oneCell']) ?_; intro W9 hW9 B9))
  refine ret_c3 (g := w.heap.size) (cs := #[.int .u8 1, .int .u16 u, .int .u16 v]) rfl hfs.out infoLf rfl B9 rfl ⟨rfl, hW9 ▸ gb_row2 G5v (by omega)⟩
/-- readLists of every text. -/
theorem readListsC (s : ByteArray) (w : World) (hs : s.size ≤ 1048576) : Calls Tryz.prog 23 #[.string s] w fun e w' => e = .returned (.tuple #[.agg #[.int .u8 (Gn.listsR s).ho, .int .u16 (Gn.listsR s).bo, .int .u16 (Gn.listsR s).st], .int .i64 (Gn.listsR s).a, .int .i64 (Gn.listsR s).er]) ∧ w.grownBy w' none := by
  have d1 := Gn.tl_is (s := s) (i := 0) (Nat.zero_le _)
  unfold Gn.listsR
  cases hr : Gn.tl s 0 with
  | mk v a er =>
    rw [hr] at d1
    unfold Gn.lists1
    by_cases he : er = 0
    · subst he
      have d2 := Gn.tl_is (s := s) (i := a) d1.le
      simp only [if_true]
      cases hq : Gn.tl s a with
      | mk u b er2 =>
        rw [hq] at d2
        unfold Gn.lists2
        by_cases he2 : er2 = 0
        · subst he2
          have hgt : a < b := d2.gt rfl
          have hle : b ≤ s.size := d2.le
          obtain ⟨c, rfl⟩ : ∃ c, b = c + 1 := ⟨b - 1, by omega⟩
          simp only [if_true, Nat.add_sub_cancel]
          have hn := Gn.nine_is (s := s) (e := c) (by omega)
          by_cases h9 : Gn.nn s c < c
          · rw [if_pos h9] at hn ⊢
            exact listsC s w hs v a u c hr hq d1.le (by omega) _ hn (by omega)
          · rw [if_neg h9] at hn ⊢
            exact listsD s w hs v a u c hr hq d1.le (by omega) _ hn (by omega)
        · simp only []
          rw [if_neg he2]
          exact listsB s w hs v a u b er2 hr hq d1.le (by unfold Hid; omega)
    · simp only []
      rw [if_neg he]
      exact listsA s w hs v a er hr (by unfold Hid; omega)
end Go.Proofs.YtlkdenanbofliaaGreatDoor
