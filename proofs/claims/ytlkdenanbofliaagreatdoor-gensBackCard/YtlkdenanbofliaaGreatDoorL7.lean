/- What Parse of package life answers. -/
import Derived.Test.YtlkdenanbofliaaGreatDoorL6
namespace Go.Proofs.YtlkdenanbofliaaGreatDoor
open Go.RowKit
set_option linter.unusedVariables false
set_option linter.unusedSimpArgs false
set_option maxRecDepth 100000

theorem tooGreatC (h : Nat) (h1 : 1 ≤ h) (h3 : h ≤ 3) (s : ByteArray) (w : World) (hv : Hid (Hv w)) (hs : s.size ≤ 1048576) (ha : ∀ j, Sc.bt s j < 128) : Calls Tryz.prog 68 #[.string s, .int .u8 h] w fun e w' => e = .returned (.tuple #[.int .i64 (Lf.great s h), .bool (decide (0 ≤ Lf.great s h))]) ∧ w.grownBy w' none := by
  match h, h1, h3 with
  | 1, _, _ => exact tooGreat1 s w hv hs ha
  | 2, _, _ => exact tooGreat2 s w hv hs ha
  | 3, _, _ => exact tooGreat3 s w hv hs ha
/-- A call's own block may have been written. -/
theorem gb_own2 {a w w' : World} {r : Option Nat} {b : Nat} (h : a.grownBy w r) (hb : a.heap.size ≤ b) (k : w.grownBy w' (some b)) : a.grownBy w' r :=
  ⟨k.os.trans h.os, k.tape.trans h.tape, k.output.trans h.output, Nat.le_trans h.size k.size, fun i hi hne => (k.block i (Nat.lt_of_lt_of_le hi h.size) (fun e => by cases e; omega)).trans (h.block i hi hne)⟩
set_option maxHeartbeats 1000000 in
theorem parseLong (s : ByteArray) (w : World) (hs : (1048576 : Int) < s.size) : Calls Tryz.prog 48 #[.string s] w fun e w' => e = .returned (.tuple #[.agg #[.int .u8 0, .int .u16 0, .int .u16 0], .int .i64 0, .int .i64 3]) ∧ w.grownBy w' none := by
  obtain ⟨fs, hfs'⟩ := underLf
  have hfs : Hid (Tryz.prog.underlying 25 = some (.struct fs)) := hfs'
  clear hfs'
  obtain ⟨W1, hW1, sz1, g1, B1⟩ := boxn w #[.int .u8 0, .int .u16 0, .int .u16 0] 25
  go_enter Tryz.func48, Tryz.ntmps48
  go_wp2_with (first | (refine wpList_st (op := ⟨_, .store 25 _ _, _, _, _, _⟩) rfl 25 _ _ rfl w.heap.size #[.int .u8 0, .int .u16 0, .int .u16 0] rfl rfl B1 infoLf rfl (by simp [Value.oneCell']) ?_; intro W9 hW9 B9))
  refine ret_c3 (g := w.heap.size) (cs := #[.int .u8 0, .int .u16 0, .int .u16 0]) rfl hfs.out infoLf rfl B9 rfl ⟨rfl, hW9 ▸ gb_row2 g1 (by omega)⟩
set_option maxHeartbeats 2000000 in
theorem parseBad (s : ByteArray) (w : World) (hs : ¬ (1048576 : Int) < s.size) (r : Lf.PR) (hr : Hid (Lf.readR s = r)) (he : Hid (¬ ((r.er : Nat) : Int) = 0)) : Calls Tryz.prog 48 #[.string s] w fun e w' => e = .returned (.tuple #[.agg #[.int .u8 0, .int .u16 0, .int .u16 0], .int .i64 r.a, .int .i64 r.er]) ∧ w.grownBy w' none := by
  obtain ⟨fs, hfs'⟩ := underLf
  have hfs : Hid (Tryz.prog.underlying 25 = some (.struct fs)) := hfs'
  clear hfs'
  obtain ⟨W1, hW1, sz1, g1, B1⟩ := boxn w #[.int .u8 0, .int .u16 0, .int .u16 0] 25
  have hR := fun b w h => readC b s w h (by omega)
  rw [hr.out] at hR
  have E1 := he.out
  clear hr
  go_enter Tryz.func48, Tryz.ntmps48
  go_wp2_with (first | (go_at_call 42; refine (newC s W1).mono ?_; rintro e w2 ⟨rfl, h2, g2⟩; have B12 := B1.kept g2 (by simp); have G2 := gb_trans g1 g2) | (go_at_call 67; refine (hR _ _ h2).mono ?_; rintro e w3 ⟨rfl, h3, g3⟩; have B13 := B12.kept g3 (by have := sz1.out; simp; omega); have G3 := gb_own2 G2 g1.size g3; obtain ⟨W4, hW4, sz4, g4, B4⟩ := boxn w3 #[.int .u8 r.ho, .int .u16 r.bo, .int .u16 r.st] 25; have h4 := h3.kept g4 (by simp); have B14 := B13.kept g4 (by simp); have G4 := gb_trans G3 g4) | (go_at_call 44; refine (atC _ s r.a W4 h4).mono ?_; rintro e w5 ⟨rfl, hw5⟩; subst w5) | (refine wpList_st (op := ⟨_, .store 25 _ _, _, _, _, _⟩) rfl 25 _ _ rfl w.heap.size #[.int .u8 0, .int .u16 0, .int .u16 0] rfl rfl B14 infoLf rfl (by simp [Value.oneCell']) ?_; intro W9 hW9 B9))
  refine ret_c3 (g := w.heap.size) (cs := #[.int .u8 0, .int .u16 0, .int .u16 0]) rfl hfs.out infoLf rfl B9 rfl ⟨rfl, hW9 ▸ gb_row2 G4 (by omega)⟩
set_option maxHeartbeats 2000000 in
theorem parseGreat (s : ByteArray) (w : World) (hv : Hid (Hv w)) (hs : ¬ (1048576 : Int) < s.size) (ho bo st a : Nat) (hr : Hid (Lf.readR s = ⟨ho, bo, st, a, 0⟩)) (q : Int) (hq0 : Hid (Lf.great s ho = q)) (hq : 0 ≤ q) : Calls Tryz.prog 48 #[.string s] w fun e w' => e = .returned (.tuple #[.agg #[.int .u8 0, .int .u16 0, .int .u16 0], .int .i64 q, .int .i64 82]) ∧ w.grownBy w' none := by
  obtain ⟨fs, hfs'⟩ := underLf
  have hfs : Hid (Tryz.prog.underlying 25 = some (.struct fs)) := hfs'
  clear hfs'
  obtain ⟨W1, hW1, sz1, g1, B1⟩ := boxn w #[.int .u8 0, .int .u16 0, .int .u16 0] 25
  have hR := fun b w h => readC b s w h (by omega)
  have hI := Lf.read_is s
  rw [hr.out] at hR hI
  have h13 := hI.ho rfl
  have hal := hI.al rfl
  have hT := fun w hv => tooGreatC ho h13.1 h13.2 s w hv (by omega) hal
  rw [hq0.out] at hT
  clear hr hI hal h13 hq0
  go_enter Tryz.func48, Tryz.ntmps48
  go_wp2_with (first | (go_at_call 42; refine (newC s W1).mono ?_; rintro e w2 ⟨rfl, h2, g2⟩; have B12 := B1.kept g2 (by simp); have G2 := gb_trans g1 g2) | (go_at_call 67; refine (hR _ _ h2).mono ?_; rintro e w3 ⟨rfl, h3, g3⟩; have B13 := B12.kept g3 (by have := sz1.out; simp; omega); have G3 := gb_own2 G2 g1.size g3; obtain ⟨W4, hW4, sz4, g4, B4⟩ := boxn w3 #[.int .u8 ho, .int .u16 bo, .int .u16 st] 25; have h4 := h3.kept g4 (by simp); have B14 := B13.kept g4 (by simp); have G4 := gb_trans G3 g4; have hv4 := hvK hv G4; have p0 := B4.cell 0 (v := .int .u8 ho) rfl; have p1 := B4.cell 1 (v := .int .u16 bo) rfl; have p2 := B4.cell 2 (v := .int .u16 st) rfl) | (go_at_call 68; refine (hT _ hv4).mono ?_; rintro e w6 ⟨rfl, g6⟩; have B16 := B14.kept g6 (by simp); have B46 := B4.kept g6 (by simp); have q0 := B46.cell 0 (v := .int .u8 ho) rfl; have q1 := B46.cell 1 (v := .int .u16 bo) rfl; have q2 := B46.cell 2 (v := .int .u16 st) rfl; have G6 := gb_trans G4 g6) | (refine wpList_st (op := ⟨_, .store 25 _ _, _, _, _, _⟩) rfl 25 _ _ rfl w.heap.size #[.int .u8 0, .int .u16 0, .int .u16 0] rfl rfl B16 infoLf rfl (by simp [Value.oneCell']) ?_; intro W9 hW9 B9))
  refine ret_c3 (g := w.heap.size) (cs := #[.int .u8 0, .int .u16 0, .int .u16 0]) rfl hfs.out infoLf rfl B9 rfl ⟨rfl, hW9 ▸ gb_row2 G6 (by omega)⟩
set_option maxHeartbeats 2000000 in
theorem parseFine (s : ByteArray) (w : World) (hv : Hid (Hv w)) (hs : ¬ (1048576 : Int) < s.size) (ho bo st a : Nat) (hr : Hid (Lf.readR s = ⟨ho, bo, st, a, 0⟩)) (q : Int) (hq0 : Hid (Lf.great s ho = q)) (hq : ¬ 0 ≤ q) : Calls Tryz.prog 48 #[.string s] w fun e w' => e = .returned (.tuple #[.agg #[.int .u8 ho, .int .u16 bo, .int .u16 st], .int .i64 0, .int .i64 0]) ∧ w.grownBy w' none := by
  obtain ⟨fs, hfs'⟩ := underLf
  have hfs : Hid (Tryz.prog.underlying 25 = some (.struct fs)) := hfs'
  clear hfs'
  obtain ⟨W1, hW1, sz1, g1, B1⟩ := boxn w #[.int .u8 0, .int .u16 0, .int .u16 0] 25
  have hR := fun b w h => readC b s w h (by omega)
  have hI := Lf.read_is s
  rw [hr.out] at hR hI
  have h13 := hI.ho rfl
  have hal := hI.al rfl
  have hT := fun w hv => tooGreatC ho h13.1 h13.2 s w hv (by omega) hal
  rw [hq0.out] at hT
  clear hr hI hal h13 hq0
  go_enter Tryz.func48, Tryz.ntmps48
  go_wp2_with (first | (go_at_call 42; refine (newC s W1).mono ?_; rintro e w2 ⟨rfl, h2, g2⟩; have B12 := B1.kept g2 (by simp); have G2 := gb_trans g1 g2) | (go_at_call 67; refine (hR _ _ h2).mono ?_; rintro e w3 ⟨rfl, h3, g3⟩; have B13 := B12.kept g3 (by have := sz1.out; simp; omega); have G3 := gb_own2 G2 g1.size g3; obtain ⟨W4, hW4, sz4, g4, B4⟩ := boxn w3 #[.int .u8 ho, .int .u16 bo, .int .u16 st] 25; have h4 := h3.kept g4 (by simp); have B14 := B13.kept g4 (by simp); have G4 := gb_trans G3 g4; have hv4 := hvK hv G4; have p0 := B4.cell 0 (v := .int .u8 ho) rfl; have p1 := B4.cell 1 (v := .int .u16 bo) rfl; have p2 := B4.cell 2 (v := .int .u16 st) rfl) | (go_at_call 68; refine (hT _ hv4).mono ?_; rintro e w6 ⟨rfl, g6⟩; have B16 := B14.kept g6 (by simp); have B46 := B4.kept g6 (by simp); have q0 := B46.cell 0 (v := .int .u8 ho) rfl; have q1 := B46.cell 1 (v := .int .u16 bo) rfl; have q2 := B46.cell 2 (v := .int .u16 st) rfl; have G6 := gb_trans G4 g6) | (refine wpList_st (op := ⟨_, .store 25 _ _, _, _, _, _⟩) rfl 25 _ _ rfl w.heap.size #[.int .u8 ho, .int .u16 bo, .int .u16 st] rfl rfl B16 infoLf rfl (by simp [Value.oneCell']) ?_; intro W9 hW9 B9))
  refine ret_c3 (g := w.heap.size) (cs := #[.int .u8 ho, .int .u16 bo, .int .u16 st]) rfl hfs.out infoLf rfl B9 rfl ⟨rfl, hW9 ▸ gb_row2 G6 (by omega)⟩
theorem parseC (s : ByteArray) (w : World) (hv : Hid (Hv w)) : Calls Tryz.prog 48 #[.string s] w fun e w' => e = .returned (.tuple #[.agg #[.int .u8 (Lf.parseR s).ho, .int .u16 (Lf.parseR s).bo, .int .u16 (Lf.parseR s).st], .int .i64 (Lf.parseR s).a, .int .i64 (Lf.parseR s).er]) ∧ w.grownBy w' none := by
  unfold Lf.parseR
  by_cases hs : 1048576 < s.size
  · rw [if_pos hs]
    exact parseLong s w (by omega)
  · rw [if_neg hs]
    unfold Lf.parse2
    by_cases he : (Lf.readR s).er = 0
    · rw [if_pos he]
      cases hr : Lf.readR s with
      | mk ho bo st a er =>
        rw [hr] at he
        obtain rfl : er = 0 := he
        simp only []
        by_cases hq : 0 ≤ Lf.great s ho
        · rw [if_pos hq]
          have := parseGreat s w hv (by omega) ho bo st a hr _ rfl hq
          have e1 : (((Lf.great s ho).toNat : Nat) : Int) = Lf.great s ho := by omega
          unfold Lf.bad
          simp only []
          rw [e1]
          exact this
        · rw [if_neg hq]
          exact parseFine s w hv (by omega) ho bo st a hr _ rfl hq
    · rw [if_neg he]
      have hz := (Lf.read_is s).zero he
      rw [hz.1, hz.2.1, hz.2.2]
      exact parseBad s w (by omega) _ rfl (by unfold Hid; omega)
end Go.Proofs.YtlkdenanbofliaaGreatDoor
