/- The statements' alike. -/
import Derived.Test.YteaionmjbkildacDoorQs
import Derived.BigRegion
namespace Go.Proofs.YteaionmjbkildacDoor
open Go.RowKit
set_option linter.unusedVariables false
set_option linter.unusedSimpArgs false
set_option maxRecDepth 100000

set_option maxHeartbeats 2000000 in
/-- Of as many nodes. -/
theorem alikeN (S I R : Int) (n qa oa qb ob ca cb : Nat) (hn : n ≤ 65536) (ta tb : Nat → TN) (hka : ∀ j, j < n → (ta j).kn ≤ 4398046510976) (w : World) (hA : Tn w qa oa n ta) (hBn : Tn w qb ob n tb) (B : Bool) (hB : B = true ↔ ∀ j, j < n → TnE (ta j) (tb j)) :
    Calls Tryd.prog 7 #[.agg #[.int .i64 S, .int .i64 I, .slice (some ⟨qa, oa, none⟩) n ca, .int .i64 R], .agg #[.int .i64 S, .int .i64 I, .slice (some ⟨qb, ob, none⟩) n cb, .int .i64 R]] w fun e w' => e = .returned (.bool B) ∧ w.grownBy w' none := by
  obtain ⟨W1, hW1, sz1, g1, B1⟩ := boxn w #[.int .i64 S, .int .i64 I, .slice (some ⟨qa, oa, none⟩) n ca, .int .i64 R] 24
  obtain ⟨W2, hW2, sz2, g2, B2⟩ := boxn W1 #[.int .i64 S, .int .i64 I, .slice (some ⟨qb, ob, none⟩) n cb, .int .i64 R] 24
  have G2 := gb_trans g1 g2
  have B12 := B1.kept g2 (by simp)
  have a0 := B12.cell 0 (v := .int .i64 S) rfl
  have a1 := B12.cell 1 (v := .int .i64 I) rfl
  have a2 := B12.cell 2 (v := .slice (some ⟨qa, oa, none⟩) n ca) rfl
  have a3 := B12.cell 3 (v := .int .i64 R) rfl
  have b0 := B2.cell 0 (v := .int .i64 S) rfl
  have b1 := B2.cell 1 (v := .int .i64 I) rfl
  have b2 := B2.cell 2 (v := .slice (some ⟨qb, ob, none⟩) n cb) rfl
  have b3 := B2.cell 3 (v := .int .i64 R) rfl
  have e1 : (S != S) = false := by simp
  have e2 : (I != I) = false := by simp
  have e3 : (R != R) = false := by simp
  have e4 : ((n : Int) != (n : Int)) = false := by simp
  have HBB : Hid (B = true ↔ ∀ j, j < n → TnE (ta j) (tb j)) := hB
  have HA : Hid (Tn w qa oa n ta) := hA
  have HBn : Hid (Tn w qb ob n tb) := hBn
  have HK : Hid (∀ j, j < n → (ta j).kn ≤ 4398046510976) := hka
  have HG : Hid (w.grownBy W2 none) := G2
  have HP : Hid (Bo W2 w.heap.size 24 #[.int .i64 S, .int .i64 I, .slice (some ⟨qa, oa, none⟩) n ca, .int .i64 R]) := B12
  have HQ : Hid (Bo W2 W1.heap.size 24 #[.int .i64 S, .int .i64 I, .slice (some ⟨qb, ob, none⟩) n cb, .int .i64 R]) := B2
  clear hA hBn hB hka B1 B2 B12 g1 g2 G2 sz1 sz2
  go_enter Tryd.func7, Tryd.ntmps7
  go_wp2
  clear a0 a1 a2 a3 b0 b1 b2 b3 e1 e2 e3 e4
  go_loopw [5] (fun i wr => ∃ j : Nat, j ≤ n ∧ i = .int .i64 (j : Nat) ∧ Hid (W2.grownBy wr none) ∧ Hid (∀ k, k < j → TnE (ta k) (tb k))) (fun i _ => n - (intOf i).toNat)
  case atStart => exact ⟨0, Nat.zero_le _, rfl, World.grownBy.refl _ _, fun k hk => absurd hk (Nat.not_lt_zero _)⟩
  case round =>
    obtain ⟨j, hj, rfl, gj, hk⟩ := hrel
    have Pj := HP.out.kept gj.out (by simp)
    have Qj := HQ.out.kept gj.out (by simp)
    have p2 := Pj.cell 2 (v := .slice (some ⟨qa, oa, none⟩) n ca) rfl
    have q2 := Qj.cell 2 (v := .slice (some ⟨qb, ob, none⟩) n cb) rfl
    by_cases hlt : j < n
    · have hlt' : (j : Int) < (n : Int) := by omega
      have GJ := gb_trans HG.out gj.out
      obtain ⟨x0, x1, x2⟩ := (HA.out.kept GJ) j hlt
      obtain ⟨y0, y1, y2⟩ := (HBn.out.kept GJ) j hlt
      have hka := HK.out j hlt
      obtain ⟨x, hx⟩ : ∃ x, ta j = x := ⟨_, rfl⟩
      obtain ⟨y, hy⟩ : ∃ y, tb j = y := ⟨_, rfl⟩
      have HX : Hid (ta j = x ∧ tb j = y) := ⟨hx, hy⟩
      rw [hx] at x0 x1 x2 hka
      rw [hy] at y0 y1 y2
      clear hx hy
      obtain ⟨W3, hW3, sz3, g3, B3⟩ := boxn wr #[.int .u8 0, .slice none 0 0] 48
      obtain ⟨W4, hW4, sz4, g4, B4⟩ := boxn W3 #[.int .u8 0, .slice none 0 0] 48
      have G4 := gb_trans g3 g4
      have HX2 : Hid (In wr x.kp x.kn x.kf) := x2
      have HY2 : Hid (In wr y.kp y.kn y.kf) := y2
      have Hgj : Hid (w.grownBy wr none) := GJ
      have HG4 : Hid (wr.grownBy W4 none) := G4
      have B34 := B3.kept g4 (by simp)
      have gd0 : wr.grownBy wr.drew none := gb_drew (World.grownBy.refl _ _)
      have gd3 : wr.grownBy W3.drew none := gb_drew g3
      have gd4 : wr.grownBy W4.drew none := gb_drew G4
      have p20 := gd0.cell p2 (by simp)
      have q20 := gd0.cell q2 (by simp)
      have x00 := gd0.cell x0 (by simp)
      have x10 := gd0.cell x1 (by simp)
      have y00 := gd0.cell y0 (by simp)
      have y10 := gd0.cell y1 (by simp)
      have p21 := gd3.cell p2 (by simp)
      have q21 := gd3.cell q2 (by simp)
      have x01 := gd3.cell x0 (by simp)
      have x11 := gd3.cell x1 (by simp)
      have y01 := gd3.cell y0 (by simp)
      have y11 := gd3.cell y1 (by simp)
      have p22 := gd4.cell p2 (by simp)
      have q22 := gd4.cell q2 (by simp)
      have x02 := gd4.cell x0 (by simp)
      have x12 := gd4.cell x1 (by simp)
      have y02 := gd4.cell y0 (by simp)
      have y12 := gd4.cell y1 (by simp)
      have m0 := B34.cell 0 (v := .int .u8 0) rfl
      have m1 := B34.cell 1 (v := .slice none 0 0) rfl
      have m2 := B34.frozen 0
      have m3 := B34.frozen 1
      have k0 := B4.cell 0 (v := .int .u8 0) rfl
      have k1 := B4.cell 1 (v := .slice none 0 0) rfl
      have k2 := B4.frozen 0
      have k3 := B4.frozen 1
      have md0 := B34.dr.cell 0 (v := .int .u8 0) rfl
      have md1 := B34.dr.cell 1 (v := .slice none 0 0) rfl
      have kd0 := B4.dr.cell 0 (v := .int .u8 0) rfl
      have kd1 := B4.dr.cell 1 (v := .slice none 0 0) rfl
      have nq1 : wr.heap.size ≠ W3.heap.size := by have := sz3.out; omega
      have nq2 := nq1.symm
      have l1 : qa < wr.heap.size := cell_lt x0
      have l2 : qb < wr.heap.size := cell_lt y0
      have l3 : w.heap.size < wr.heap.size := cell_lt p2
      have l4 : W1.heap.size < wr.heap.size := cell_lt q2
      have l5 : wr.heap.size < W3.heap.size := by have := sz3.out; omega
      have na1 : qa ≠ wr.heap.size := by omega
      have na2 : qa ≠ W3.heap.size := by omega
      have na3 : qb ≠ wr.heap.size := by omega
      have na4 : qb ≠ W3.heap.size := by omega
      have na5 : w.heap.size ≠ wr.heap.size := by omega
      have na6 : w.heap.size ≠ W3.heap.size := by omega
      have na7 : W1.heap.size ≠ wr.heap.size := by omega
      have na8 : W1.heap.size ≠ W3.heap.size := by omega
      obtain ⟨XA, hXA⟩ : ∃ Z, (W4.setCell ⟨wr.heap.size, 0, none⟩ (.int .u8 (x.st : Nat))).setCell ⟨wr.heap.size, 1, none⟩ (.slice x.kp x.kn x.kc) = Z := ⟨_, rfl⟩
      have sXA : W4.grownBy XA (some wr.heap.size) := hXA ▸ gb_set (gb_set (World.grownBy.refl W4 (some wr.heap.size)) 0 _) 1 _
      have GXA : wr.grownBy XA none := gb_past HG4.out sXA (by omega)
      have DXA : wr.grownBy XA.drew none := gb_drew GXA
      have OXA : Bo XA wr.heap.size 48 #[.int .u8 (x.st : Nat), .slice x.kp x.kn x.kc] := hXA ▸ (B34.set 0 _).set 1 _
      have EXA : Bo XA W3.heap.size 48 #[.int .u8 0, .slice none 0 0] := B4.kept sXA (by simp; exact nq2)
      have p2XA := GXA.cell p2 (by simp)
      have p2XAd := DXA.cell p2 (by simp)
      have q2XA := GXA.cell q2 (by simp)
      have q2XAd := DXA.cell q2 (by simp)
      have x0XA := GXA.cell x0 (by simp)
      have x0XAd := DXA.cell x0 (by simp)
      have x1XA := GXA.cell x1 (by simp)
      have x1XAd := DXA.cell x1 (by simp)
      have y0XA := GXA.cell y0 (by simp)
      have y0XAd := DXA.cell y0 (by simp)
      have y1XA := GXA.cell y1 (by simp)
      have y1XAd := DXA.cell y1 (by simp)
      have t0XA := EXA.cell 0 (v := .int .u8 0) rfl
      have t1XA := EXA.cell 1 (v := .slice none 0 0) rfl
      have t2XA := EXA.frozen 0
      have t3XA := EXA.frozen 1
      have t0XAd := EXA.dr.cell 0 (v := .int .u8 0) rfl
      have t1XAd := EXA.dr.cell 1 (v := .slice none 0 0) rfl
      have t2XAd := EXA.dr.frozen 0
      have t3XAd := EXA.dr.frozen 1
      obtain ⟨XB, hXB⟩ : ∃ Z, (W4.setCell ⟨W3.heap.size, 0, none⟩ (.int .u8 (x.st : Nat))).setCell ⟨W3.heap.size, 1, none⟩ (.slice x.kp x.kn x.kc) = Z := ⟨_, rfl⟩
      have sXB : W4.grownBy XB (some W3.heap.size) := hXB ▸ gb_set (gb_set (World.grownBy.refl W4 (some W3.heap.size)) 0 _) 1 _
      have GXB : wr.grownBy XB none := gb_past HG4.out sXB (by omega)
      have DXB : wr.grownBy XB.drew none := gb_drew GXB
      have OXB : Bo XB W3.heap.size 48 #[.int .u8 (x.st : Nat), .slice x.kp x.kn x.kc] := hXB ▸ (B4.set 0 _).set 1 _
      have EXB : Bo XB wr.heap.size 48 #[.int .u8 0, .slice none 0 0] := B34.kept sXB (by simp; exact nq1)
      have p2XB := GXB.cell p2 (by simp)
      have p2XBd := DXB.cell p2 (by simp)
      have q2XB := GXB.cell q2 (by simp)
      have q2XBd := DXB.cell q2 (by simp)
      have x0XB := GXB.cell x0 (by simp)
      have x0XBd := DXB.cell x0 (by simp)
      have x1XB := GXB.cell x1 (by simp)
      have x1XBd := DXB.cell x1 (by simp)
      have y0XB := GXB.cell y0 (by simp)
      have y0XBd := DXB.cell y0 (by simp)
      have y1XB := GXB.cell y1 (by simp)
      have y1XBd := DXB.cell y1 (by simp)
      have t0XB := EXB.cell 0 (v := .int .u8 0) rfl
      have t1XB := EXB.cell 1 (v := .slice none 0 0) rfl
      have t2XB := EXB.frozen 0
      have t3XB := EXB.frozen 1
      have t0XBd := EXB.dr.cell 0 (v := .int .u8 0) rfl
      have t1XBd := EXB.dr.cell 1 (v := .slice none 0 0) rfl
      have t2XBd := EXB.dr.frozen 0
      have t3XBd := EXB.dr.frozen 1
      obtain ⟨YA, hYA⟩ : ∃ Z, (W4.setCell ⟨wr.heap.size, 0, none⟩ (.int .u8 (y.st : Nat))).setCell ⟨wr.heap.size, 1, none⟩ (.slice y.kp y.kn y.kc) = Z := ⟨_, rfl⟩
      have sYA : W4.grownBy YA (some wr.heap.size) := hYA ▸ gb_set (gb_set (World.grownBy.refl W4 (some wr.heap.size)) 0 _) 1 _
      have GYA : wr.grownBy YA none := gb_past HG4.out sYA (by omega)
      have DYA : wr.grownBy YA.drew none := gb_drew GYA
      have OYA : Bo YA wr.heap.size 48 #[.int .u8 (y.st : Nat), .slice y.kp y.kn y.kc] := hYA ▸ (B34.set 0 _).set 1 _
      have EYA : Bo YA W3.heap.size 48 #[.int .u8 0, .slice none 0 0] := B4.kept sYA (by simp; exact nq2)
      have p2YA := GYA.cell p2 (by simp)
      have p2YAd := DYA.cell p2 (by simp)
      have q2YA := GYA.cell q2 (by simp)
      have q2YAd := DYA.cell q2 (by simp)
      have x0YA := GYA.cell x0 (by simp)
      have x0YAd := DYA.cell x0 (by simp)
      have x1YA := GYA.cell x1 (by simp)
      have x1YAd := DYA.cell x1 (by simp)
      have y0YA := GYA.cell y0 (by simp)
      have y0YAd := DYA.cell y0 (by simp)
      have y1YA := GYA.cell y1 (by simp)
      have y1YAd := DYA.cell y1 (by simp)
      have t0YA := EYA.cell 0 (v := .int .u8 0) rfl
      have t1YA := EYA.cell 1 (v := .slice none 0 0) rfl
      have t2YA := EYA.frozen 0
      have t3YA := EYA.frozen 1
      have t0YAd := EYA.dr.cell 0 (v := .int .u8 0) rfl
      have t1YAd := EYA.dr.cell 1 (v := .slice none 0 0) rfl
      have t2YAd := EYA.dr.frozen 0
      have t3YAd := EYA.dr.frozen 1
      obtain ⟨YB, hYB⟩ : ∃ Z, (W4.setCell ⟨W3.heap.size, 0, none⟩ (.int .u8 (y.st : Nat))).setCell ⟨W3.heap.size, 1, none⟩ (.slice y.kp y.kn y.kc) = Z := ⟨_, rfl⟩
      have sYB : W4.grownBy YB (some W3.heap.size) := hYB ▸ gb_set (gb_set (World.grownBy.refl W4 (some W3.heap.size)) 0 _) 1 _
      have GYB : wr.grownBy YB none := gb_past HG4.out sYB (by omega)
      have DYB : wr.grownBy YB.drew none := gb_drew GYB
      have OYB : Bo YB W3.heap.size 48 #[.int .u8 (y.st : Nat), .slice y.kp y.kn y.kc] := hYB ▸ (B4.set 0 _).set 1 _
      have EYB : Bo YB wr.heap.size 48 #[.int .u8 0, .slice none 0 0] := B34.kept sYB (by simp; exact nq1)
      have p2YB := GYB.cell p2 (by simp)
      have p2YBd := DYB.cell p2 (by simp)
      have q2YB := GYB.cell q2 (by simp)
      have q2YBd := DYB.cell q2 (by simp)
      have x0YB := GYB.cell x0 (by simp)
      have x0YBd := DYB.cell x0 (by simp)
      have x1YB := GYB.cell x1 (by simp)
      have x1YBd := DYB.cell x1 (by simp)
      have y0YB := GYB.cell y0 (by simp)
      have y0YBd := DYB.cell y0 (by simp)
      have y1YB := GYB.cell y1 (by simp)
      have y1YBd := DYB.cell y1 (by simp)
      have t0YB := EYB.cell 0 (v := .int .u8 0) rfl
      have t1YB := EYB.cell 1 (v := .slice none 0 0) rfl
      have t2YB := EYB.frozen 0
      have t3YB := EYB.frozen 1
      have t0YBd := EYB.dr.cell 0 (v := .int .u8 0) rfl
      have t1YBd := EYB.dr.cell 1 (v := .slice none 0 0) rfl
      have t2YBd := EYB.dr.frozen 0
      have t3YBd := EYB.dr.frozen 1
      obtain ⟨ZXA, hZXA⟩ : ∃ Z, (XA.setCell ⟨W3.heap.size, 0, none⟩ (.int .u8 (y.st : Nat))).setCell ⟨W3.heap.size, 1, none⟩ (.slice y.kp y.kn y.kc) = Z := ⟨_, rfl⟩
      have sZXA : XA.grownBy ZXA (some W3.heap.size) := hZXA ▸ gb_set (gb_set (World.grownBy.refl XA (some W3.heap.size)) 0 _) 1 _
      have GZXA : Hid (wr.grownBy ZXA none) := gb_past GXA sZXA (by omega)
      have OZXA : Hid (Bo ZXA W3.heap.size 48 #[.int .u8 (y.st : Nat), .slice y.kp y.kn y.kc]) := hZXA ▸ (EXA.set 0 _).set 1 _
      have EZXA : Hid (Bo ZXA wr.heap.size 48 #[.int .u8 (x.st : Nat), .slice x.kp x.kn x.kc]) := OXA.kept sZXA (by simp; exact nq1)
      obtain ⟨ZXB, hZXB⟩ : ∃ Z, (XB.setCell ⟨wr.heap.size, 0, none⟩ (.int .u8 (y.st : Nat))).setCell ⟨wr.heap.size, 1, none⟩ (.slice y.kp y.kn y.kc) = Z := ⟨_, rfl⟩
      have sZXB : XB.grownBy ZXB (some wr.heap.size) := hZXB ▸ gb_set (gb_set (World.grownBy.refl XB (some wr.heap.size)) 0 _) 1 _
      have GZXB : Hid (wr.grownBy ZXB none) := gb_past GXB sZXB (by omega)
      have OZXB : Hid (Bo ZXB wr.heap.size 48 #[.int .u8 (y.st : Nat), .slice y.kp y.kn y.kc]) := hZXB ▸ (EXB.set 0 _).set 1 _
      have EZXB : Hid (Bo ZXB W3.heap.size 48 #[.int .u8 (x.st : Nat), .slice x.kp x.kn x.kc]) := OXB.kept sZXB (by simp; exact nq2)
      obtain ⟨ZYA, hZYA⟩ : ∃ Z, (YA.setCell ⟨W3.heap.size, 0, none⟩ (.int .u8 (x.st : Nat))).setCell ⟨W3.heap.size, 1, none⟩ (.slice x.kp x.kn x.kc) = Z := ⟨_, rfl⟩
      have sZYA : YA.grownBy ZYA (some W3.heap.size) := hZYA ▸ gb_set (gb_set (World.grownBy.refl YA (some W3.heap.size)) 0 _) 1 _
      have GZYA : Hid (wr.grownBy ZYA none) := gb_past GYA sZYA (by omega)
      have OZYA : Hid (Bo ZYA W3.heap.size 48 #[.int .u8 (x.st : Nat), .slice x.kp x.kn x.kc]) := hZYA ▸ (EYA.set 0 _).set 1 _
      have EZYA : Hid (Bo ZYA wr.heap.size 48 #[.int .u8 (y.st : Nat), .slice y.kp y.kn y.kc]) := OYA.kept sZYA (by simp; exact nq1)
      obtain ⟨ZYB, hZYB⟩ : ∃ Z, (YB.setCell ⟨wr.heap.size, 0, none⟩ (.int .u8 (x.st : Nat))).setCell ⟨wr.heap.size, 1, none⟩ (.slice x.kp x.kn x.kc) = Z := ⟨_, rfl⟩
      have sZYB : YB.grownBy ZYB (some wr.heap.size) := hZYB ▸ gb_set (gb_set (World.grownBy.refl YB (some wr.heap.size)) 0 _) 1 _
      have GZYB : Hid (wr.grownBy ZYB none) := gb_past GYB sZYB (by omega)
      have OZYB : Hid (Bo ZYB wr.heap.size 48 #[.int .u8 (x.st : Nat), .slice x.kp x.kn x.kc]) := hZYB ▸ (EYB.set 0 _).set 1 _
      have EZYB : Hid (Bo ZYB W3.heap.size 48 #[.int .u8 (y.st : Nat), .slice y.kp y.kn y.kc]) := OYB.kept sZYB (by simp; exact nq2)
      clear x2 y2 GJ G4 sz3 sz4
      go_wp2
      go_region
      all_goals first
        | (refine (show Exit.then _ _ Exit.normal _ ZXA.drew from ?_)
           have BX := EZXA.out.dr
           have BY := OZXA.out.dr
           have GZ : wr.grownBy ZXA.drew none := gb_drew GZXA.out
           have xx0 := BX.cell 0 (v := .int .u8 (x.st : Nat)) rfl
           have xx1 := BX.cell 1 (v := .slice x.kp x.kn x.kc) rfl
           have yy0 := BY.cell 0 (v := .int .u8 (y.st : Nat)) rfl
           have yy1 := BY.cell 1 (v := .slice y.kp y.kn y.kc) rfl
           obtain ⟨V, hV⟩ : ∃ V, ZXA.drew = V := ⟨_, rfl⟩
           rw [hV] at BX BY GZ xx0 xx1 yy0 yy1 ⊢
           have HGV : Hid (w.grownBy V none) := gb_trans Hgj.out GZ
           have HGZ : Hid (wr.grownBy V none) := GZ
           have HBX : Hid (Bo V wr.heap.size 48 #[.int .u8 (x.st : Nat), .slice x.kp x.kn x.kc]) := BX
           have HBY : Hid (Bo V W3.heap.size 48 #[.int .u8 (y.st : Nat), .slice y.kp y.kn y.kc]) := BY
           clear hV BX BY GZ
           try clear hXA; try clear sXA; try clear GXA; try clear DXA; try clear OXA; try clear EXA; try clear p2XA; try clear p2XAd; try clear q2XA; try clear q2XAd; try clear x0XA; try clear x0XAd; try clear x1XA; try clear x1XAd; try clear y0XA; try clear y0XAd; try clear y1XA; try clear y1XAd; try clear t0XA; try clear t0XAd; try clear t1XA; try clear t1XAd; try clear t2XA; try clear t2XAd; try clear t3XA; try clear t3XAd; try clear hXB; try clear sXB; try clear GXB; try clear DXB; try clear OXB; try clear EXB; try clear p2XB; try clear p2XBd; try clear q2XB; try clear q2XBd; try clear x0XB; try clear x0XBd; try clear x1XB; try clear x1XBd; try clear y0XB; try clear y0XBd; try clear y1XB; try clear y1XBd; try clear t0XB; try clear t0XBd; try clear t1XB; try clear t1XBd; try clear t2XB; try clear t2XBd; try clear t3XB; try clear t3XBd; try clear hYA; try clear sYA; try clear GYA; try clear DYA; try clear OYA; try clear EYA; try clear p2YA; try clear p2YAd; try clear q2YA; try clear q2YAd; try clear x0YA; try clear x0YAd; try clear x1YA; try clear x1YAd; try clear y0YA; try clear y0YAd; try clear y1YA; try clear y1YAd; try clear t0YA; try clear t0YAd; try clear t1YA; try clear t1YAd; try clear t2YA; try clear t2YAd; try clear t3YA; try clear t3YAd; try clear hYB; try clear sYB; try clear GYB; try clear DYB; try clear OYB; try clear EYB; try clear p2YB; try clear p2YBd; try clear q2YB; try clear q2YBd; try clear x0YB; try clear x0YBd; try clear x1YB; try clear x1YBd; try clear y0YB; try clear y0YBd; try clear y1YB; try clear y1YBd; try clear t0YB; try clear t0YBd; try clear t1YB; try clear t1YBd; try clear t2YB; try clear t2YBd; try clear t3YB; try clear t3YBd; try clear hZXA; try clear hZXB; try clear hZYA; try clear hZYB; try clear sZXA; try clear sZXB; try clear sZYA; try clear sZYB; try clear p2gd0; try clear q2gd0; try clear x0gd0; try clear x1gd0; try clear y0gd0; try clear y1gd0; try clear p2gd3; try clear q2gd3; try clear x0gd3; try clear x1gd3; try clear y0gd3; try clear y1gd3; try clear p2gd4; try clear q2gd4; try clear x0gd4; try clear x1gd4; try clear y0gd4; try clear y1gd4; try clear m0; try clear m1; try clear m2; try clear m3; try clear k0; try clear k1; try clear k2; try clear k3; try clear md0; try clear md1; try clear kd0; try clear kd1
           by_cases hs : x.st = y.st
           · have hse : ((x.st : Int) != (y.st : Int)) = false := by simp; omega
             by_cases hkk : x.kn = y.kn
             · have hke : ((x.kn : Int) != (y.kn : Int)) = false := by simp; omega
               go_wp2
               go_loopw [8] (fun i wr2 => ∃ k : Nat, k ≤ x.kn ∧ i = .int .i64 (k : Nat) ∧ Hid (V.grownBy wr2 none) ∧ Hid (∀ m, m < k → x.kf m = y.kf m)) (fun i _ => x.kn - (intOf i).toNat)
               case atStart => exact ⟨0, Nat.zero_le _, rfl, World.grownBy.refl _ _, fun m hm => absurd hm (Nat.not_lt_zero _)⟩
               case round =>
                 obtain ⟨k, hk1, rfl, gk, hkk2⟩ := hrel
                 have BXk := HBX.out.kept gk.out (by simp)
                 have BYk := HBY.out.kept gk.out (by simp)
                 have bxk := BXk.cell 1 (v := .slice x.kp x.kn x.kc) rfl
                 have byk := BYk.cell 1 (v := .slice y.kp y.kn y.kc) rfl
                 by_cases hlk : k < x.kn
                 · have hlk' : (k : Int) < (x.kn : Int) := by omega
                   have hlk2 : (k : Int) < (y.kn : Int) := by omega
                   obtain ⟨pa, hpa, ca1⟩ := (HX2.out.kept (gb_trans HGZ.out gk.out) (by simp)) k hlk
                   obtain ⟨pb, hpb, cb1⟩ := (HY2.out.kept (gb_trans HGZ.out gk.out) (by simp)) k (by omega)
                   rw [hpa] at bxk
                   rw [hpb] at byk
                   by_cases he : x.kf k = y.kf k
                   · have HE : Hid (x.kf k = y.kf k) := he
                     obtain ⟨v, hv⟩ : ∃ v, y.kf k = v := ⟨_, rfl⟩
                     rw [he, hv] at ca1
                     rw [hv] at cb1
                     have ya : (v != v) = false := by simp
                     clear he hv hpa hpb hkk hs
                     go_wp2
                     go_quiet (fail)
                     go_wp2
                     go_roundw
                     case rel =>
                       refine ⟨k + 1, hlk, by go_num, gb_drewN gk.out _, fun m hm => ?_⟩
                       rcases Nat.lt_or_ge m k with h | h
                       · exact hkk2.out m h
                       · obtain rfl : m = k := by omega
                         exact HE.out
                     case measure => simp [intOf]; omega
                   · have hBf : B = false := by
                       cases B with
                       | false => rfl
                       | true => exact absurd (by have := HBB.out.1 rfl j hlt; rw [HX.out.1, HX.out.2] at this; exact this) (fun h : TnE x y => he (h.2.2 k hlk))
                     subst hBf
                     have hne2 : binOp .neq 3 (.int .i64 (x.kf k)) (.int .i64 (y.kf k)) = pure (.bool true) := by rw [binOp_neq, show ((x.kf k) != (y.kf k)) = true by simpa using he]
                     obtain ⟨u, hu⟩ : ∃ u, x.kf k = u := ⟨_, rfl⟩
                     obtain ⟨v, hv⟩ : ∃ v, y.kf k = v := ⟨_, rfl⟩
                     rw [hu] at ca1 hne2
                     rw [hv] at cb1 hne2
                     clear he hu hv hpa hpb hkk hs
                     go_wp2
                     go_quiet (fail)
                     go_wp2
                     go_ret
                     exact ⟨rfl, gb_drewN (gb_trans HGV.out gk.out) _⟩
                 · obtain rfl : k = x.kn := by omega
                   have hlk' : ¬ (x.kn : Int) < (x.kn : Int) := by omega
                   have HT : Hid (TnE x y) := ⟨hs, hkk, hkk2.out⟩
                   clear hs hkk
                   go_wp2
                   go_roundw
                   case rel =>
                     refine ⟨j + 1, hlt, by go_num, gb_trans gj.out (gb_trans HGZ.out gk.out), fun m hm => ?_⟩
                     rcases Nat.lt_or_ge m j with h | h
                     · exact hk.out m h
                     · obtain rfl : m = j := by omega
                       rw [HX.out.1, HX.out.2]
                       exact HT.out
                   case measure => simp [intOf]; omega
             · have hBf : B = false := by
                 cases B with
                 | false => rfl
                 | true => exact absurd (by have := HBB.out.1 rfl j hlt; rw [HX.out.1, HX.out.2] at this; exact this) (fun h : TnE x y => hkk h.2.1)
               subst hBf
               go_wp2
               go_ret
               exact ⟨rfl, HGV.out⟩
           · have hBf : B = false := by
               cases B with
               | false => rfl
               | true => exact absurd (by have := HBB.out.1 rfl j hlt; rw [HX.out.1, HX.out.2] at this; exact this) (fun h : TnE x y => hs h.1)
             subst hBf
             go_wp2
             go_ret
             exact ⟨rfl, HGV.out⟩)
        | (refine (show Exit.then _ _ Exit.normal _ ZXB.drew from ?_)
           have BX := EZXB.out.dr
           have BY := OZXB.out.dr
           have GZ : wr.grownBy ZXB.drew none := gb_drew GZXB.out
           have xx0 := BX.cell 0 (v := .int .u8 (x.st : Nat)) rfl
           have xx1 := BX.cell 1 (v := .slice x.kp x.kn x.kc) rfl
           have yy0 := BY.cell 0 (v := .int .u8 (y.st : Nat)) rfl
           have yy1 := BY.cell 1 (v := .slice y.kp y.kn y.kc) rfl
           obtain ⟨V, hV⟩ : ∃ V, ZXB.drew = V := ⟨_, rfl⟩
           rw [hV] at BX BY GZ xx0 xx1 yy0 yy1 ⊢
           have HGV : Hid (w.grownBy V none) := gb_trans Hgj.out GZ
           have HGZ : Hid (wr.grownBy V none) := GZ
           have HBX : Hid (Bo V W3.heap.size 48 #[.int .u8 (x.st : Nat), .slice x.kp x.kn x.kc]) := BX
           have HBY : Hid (Bo V wr.heap.size 48 #[.int .u8 (y.st : Nat), .slice y.kp y.kn y.kc]) := BY
           clear hV BX BY GZ
           try clear hXA; try clear sXA; try clear GXA; try clear DXA; try clear OXA; try clear EXA; try clear p2XA; try clear p2XAd; try clear q2XA; try clear q2XAd; try clear x0XA; try clear x0XAd; try clear x1XA; try clear x1XAd; try clear y0XA; try clear y0XAd; try clear y1XA; try clear y1XAd; try clear t0XA; try clear t0XAd; try clear t1XA; try clear t1XAd; try clear t2XA; try clear t2XAd; try clear t3XA; try clear t3XAd; try clear hXB; try clear sXB; try clear GXB; try clear DXB; try clear OXB; try clear EXB; try clear p2XB; try clear p2XBd; try clear q2XB; try clear q2XBd; try clear x0XB; try clear x0XBd; try clear x1XB; try clear x1XBd; try clear y0XB; try clear y0XBd; try clear y1XB; try clear y1XBd; try clear t0XB; try clear t0XBd; try clear t1XB; try clear t1XBd; try clear t2XB; try clear t2XBd; try clear t3XB; try clear t3XBd; try clear hYA; try clear sYA; try clear GYA; try clear DYA; try clear OYA; try clear EYA; try clear p2YA; try clear p2YAd; try clear q2YA; try clear q2YAd; try clear x0YA; try clear x0YAd; try clear x1YA; try clear x1YAd; try clear y0YA; try clear y0YAd; try clear y1YA; try clear y1YAd; try clear t0YA; try clear t0YAd; try clear t1YA; try clear t1YAd; try clear t2YA; try clear t2YAd; try clear t3YA; try clear t3YAd; try clear hYB; try clear sYB; try clear GYB; try clear DYB; try clear OYB; try clear EYB; try clear p2YB; try clear p2YBd; try clear q2YB; try clear q2YBd; try clear x0YB; try clear x0YBd; try clear x1YB; try clear x1YBd; try clear y0YB; try clear y0YBd; try clear y1YB; try clear y1YBd; try clear t0YB; try clear t0YBd; try clear t1YB; try clear t1YBd; try clear t2YB; try clear t2YBd; try clear t3YB; try clear t3YBd; try clear hZXA; try clear hZXB; try clear hZYA; try clear hZYB; try clear sZXA; try clear sZXB; try clear sZYA; try clear sZYB; try clear p2gd0; try clear q2gd0; try clear x0gd0; try clear x1gd0; try clear y0gd0; try clear y1gd0; try clear p2gd3; try clear q2gd3; try clear x0gd3; try clear x1gd3; try clear y0gd3; try clear y1gd3; try clear p2gd4; try clear q2gd4; try clear x0gd4; try clear x1gd4; try clear y0gd4; try clear y1gd4; try clear m0; try clear m1; try clear m2; try clear m3; try clear k0; try clear k1; try clear k2; try clear k3; try clear md0; try clear md1; try clear kd0; try clear kd1
           by_cases hs : x.st = y.st
           · have hse : ((x.st : Int) != (y.st : Int)) = false := by simp; omega
             by_cases hkk : x.kn = y.kn
             · have hke : ((x.kn : Int) != (y.kn : Int)) = false := by simp; omega
               go_wp2
               go_loopw [8] (fun i wr2 => ∃ k : Nat, k ≤ x.kn ∧ i = .int .i64 (k : Nat) ∧ Hid (V.grownBy wr2 none) ∧ Hid (∀ m, m < k → x.kf m = y.kf m)) (fun i _ => x.kn - (intOf i).toNat)
               case atStart => exact ⟨0, Nat.zero_le _, rfl, World.grownBy.refl _ _, fun m hm => absurd hm (Nat.not_lt_zero _)⟩
               case round =>
                 obtain ⟨k, hk1, rfl, gk, hkk2⟩ := hrel
                 have BXk := HBX.out.kept gk.out (by simp)
                 have BYk := HBY.out.kept gk.out (by simp)
                 have bxk := BXk.cell 1 (v := .slice x.kp x.kn x.kc) rfl
                 have byk := BYk.cell 1 (v := .slice y.kp y.kn y.kc) rfl
                 by_cases hlk : k < x.kn
                 · have hlk' : (k : Int) < (x.kn : Int) := by omega
                   have hlk2 : (k : Int) < (y.kn : Int) := by omega
                   obtain ⟨pa, hpa, ca1⟩ := (HX2.out.kept (gb_trans HGZ.out gk.out) (by simp)) k hlk
                   obtain ⟨pb, hpb, cb1⟩ := (HY2.out.kept (gb_trans HGZ.out gk.out) (by simp)) k (by omega)
                   rw [hpa] at bxk
                   rw [hpb] at byk
                   by_cases he : x.kf k = y.kf k
                   · have HE : Hid (x.kf k = y.kf k) := he
                     obtain ⟨v, hv⟩ : ∃ v, y.kf k = v := ⟨_, rfl⟩
                     rw [he, hv] at ca1
                     rw [hv] at cb1
                     have ya : (v != v) = false := by simp
                     clear he hv hpa hpb hkk hs
                     go_wp2
                     go_quiet (fail)
                     go_wp2
                     go_roundw
                     case rel =>
                       refine ⟨k + 1, hlk, by go_num, gb_drewN gk.out _, fun m hm => ?_⟩
                       rcases Nat.lt_or_ge m k with h | h
                       · exact hkk2.out m h
                       · obtain rfl : m = k := by omega
                         exact HE.out
                     case measure => simp [intOf]; omega
                   · have hBf : B = false := by
                       cases B with
                       | false => rfl
                       | true => exact absurd (by have := HBB.out.1 rfl j hlt; rw [HX.out.1, HX.out.2] at this; exact this) (fun h : TnE x y => he (h.2.2 k hlk))
                     subst hBf
                     have hne2 : binOp .neq 3 (.int .i64 (x.kf k)) (.int .i64 (y.kf k)) = pure (.bool true) := by rw [binOp_neq, show ((x.kf k) != (y.kf k)) = true by simpa using he]
                     obtain ⟨u, hu⟩ : ∃ u, x.kf k = u := ⟨_, rfl⟩
                     obtain ⟨v, hv⟩ : ∃ v, y.kf k = v := ⟨_, rfl⟩
                     rw [hu] at ca1 hne2
                     rw [hv] at cb1 hne2
                     clear he hu hv hpa hpb hkk hs
                     go_wp2
                     go_quiet (fail)
                     go_wp2
                     go_ret
                     exact ⟨rfl, gb_drewN (gb_trans HGV.out gk.out) _⟩
                 · obtain rfl : k = x.kn := by omega
                   have hlk' : ¬ (x.kn : Int) < (x.kn : Int) := by omega
                   have HT : Hid (TnE x y) := ⟨hs, hkk, hkk2.out⟩
                   clear hs hkk
                   go_wp2
                   go_roundw
                   case rel =>
                     refine ⟨j + 1, hlt, by go_num, gb_trans gj.out (gb_trans HGZ.out gk.out), fun m hm => ?_⟩
                     rcases Nat.lt_or_ge m j with h | h
                     · exact hk.out m h
                     · obtain rfl : m = j := by omega
                       rw [HX.out.1, HX.out.2]
                       exact HT.out
                   case measure => simp [intOf]; omega
             · have hBf : B = false := by
                 cases B with
                 | false => rfl
                 | true => exact absurd (by have := HBB.out.1 rfl j hlt; rw [HX.out.1, HX.out.2] at this; exact this) (fun h : TnE x y => hkk h.2.1)
               subst hBf
               go_wp2
               go_ret
               exact ⟨rfl, HGV.out⟩
           · have hBf : B = false := by
               cases B with
               | false => rfl
               | true => exact absurd (by have := HBB.out.1 rfl j hlt; rw [HX.out.1, HX.out.2] at this; exact this) (fun h : TnE x y => hs h.1)
             subst hBf
             go_wp2
             go_ret
             exact ⟨rfl, HGV.out⟩)
        | (refine (show Exit.then _ _ Exit.normal _ ZYA.drew from ?_)
           have BX := OZYA.out.dr
           have BY := EZYA.out.dr
           have GZ : wr.grownBy ZYA.drew none := gb_drew GZYA.out
           have xx0 := BX.cell 0 (v := .int .u8 (x.st : Nat)) rfl
           have xx1 := BX.cell 1 (v := .slice x.kp x.kn x.kc) rfl
           have yy0 := BY.cell 0 (v := .int .u8 (y.st : Nat)) rfl
           have yy1 := BY.cell 1 (v := .slice y.kp y.kn y.kc) rfl
           obtain ⟨V, hV⟩ : ∃ V, ZYA.drew = V := ⟨_, rfl⟩
           rw [hV] at BX BY GZ xx0 xx1 yy0 yy1 ⊢
           have HGV : Hid (w.grownBy V none) := gb_trans Hgj.out GZ
           have HGZ : Hid (wr.grownBy V none) := GZ
           have HBX : Hid (Bo V W3.heap.size 48 #[.int .u8 (x.st : Nat), .slice x.kp x.kn x.kc]) := BX
           have HBY : Hid (Bo V wr.heap.size 48 #[.int .u8 (y.st : Nat), .slice y.kp y.kn y.kc]) := BY
           clear hV BX BY GZ
           try clear hXA; try clear sXA; try clear GXA; try clear DXA; try clear OXA; try clear EXA; try clear p2XA; try clear p2XAd; try clear q2XA; try clear q2XAd; try clear x0XA; try clear x0XAd; try clear x1XA; try clear x1XAd; try clear y0XA; try clear y0XAd; try clear y1XA; try clear y1XAd; try clear t0XA; try clear t0XAd; try clear t1XA; try clear t1XAd; try clear t2XA; try clear t2XAd; try clear t3XA; try clear t3XAd; try clear hXB; try clear sXB; try clear GXB; try clear DXB; try clear OXB; try clear EXB; try clear p2XB; try clear p2XBd; try clear q2XB; try clear q2XBd; try clear x0XB; try clear x0XBd; try clear x1XB; try clear x1XBd; try clear y0XB; try clear y0XBd; try clear y1XB; try clear y1XBd; try clear t0XB; try clear t0XBd; try clear t1XB; try clear t1XBd; try clear t2XB; try clear t2XBd; try clear t3XB; try clear t3XBd; try clear hYA; try clear sYA; try clear GYA; try clear DYA; try clear OYA; try clear EYA; try clear p2YA; try clear p2YAd; try clear q2YA; try clear q2YAd; try clear x0YA; try clear x0YAd; try clear x1YA; try clear x1YAd; try clear y0YA; try clear y0YAd; try clear y1YA; try clear y1YAd; try clear t0YA; try clear t0YAd; try clear t1YA; try clear t1YAd; try clear t2YA; try clear t2YAd; try clear t3YA; try clear t3YAd; try clear hYB; try clear sYB; try clear GYB; try clear DYB; try clear OYB; try clear EYB; try clear p2YB; try clear p2YBd; try clear q2YB; try clear q2YBd; try clear x0YB; try clear x0YBd; try clear x1YB; try clear x1YBd; try clear y0YB; try clear y0YBd; try clear y1YB; try clear y1YBd; try clear t0YB; try clear t0YBd; try clear t1YB; try clear t1YBd; try clear t2YB; try clear t2YBd; try clear t3YB; try clear t3YBd; try clear hZXA; try clear hZXB; try clear hZYA; try clear hZYB; try clear sZXA; try clear sZXB; try clear sZYA; try clear sZYB; try clear p2gd0; try clear q2gd0; try clear x0gd0; try clear x1gd0; try clear y0gd0; try clear y1gd0; try clear p2gd3; try clear q2gd3; try clear x0gd3; try clear x1gd3; try clear y0gd3; try clear y1gd3; try clear p2gd4; try clear q2gd4; try clear x0gd4; try clear x1gd4; try clear y0gd4; try clear y1gd4; try clear m0; try clear m1; try clear m2; try clear m3; try clear k0; try clear k1; try clear k2; try clear k3; try clear md0; try clear md1; try clear kd0; try clear kd1
           by_cases hs : x.st = y.st
           · have hse : ((x.st : Int) != (y.st : Int)) = false := by simp; omega
             by_cases hkk : x.kn = y.kn
             · have hke : ((x.kn : Int) != (y.kn : Int)) = false := by simp; omega
               go_wp2
               go_loopw [8] (fun i wr2 => ∃ k : Nat, k ≤ x.kn ∧ i = .int .i64 (k : Nat) ∧ Hid (V.grownBy wr2 none) ∧ Hid (∀ m, m < k → x.kf m = y.kf m)) (fun i _ => x.kn - (intOf i).toNat)
               case atStart => exact ⟨0, Nat.zero_le _, rfl, World.grownBy.refl _ _, fun m hm => absurd hm (Nat.not_lt_zero _)⟩
               case round =>
                 obtain ⟨k, hk1, rfl, gk, hkk2⟩ := hrel
                 have BXk := HBX.out.kept gk.out (by simp)
                 have BYk := HBY.out.kept gk.out (by simp)
                 have bxk := BXk.cell 1 (v := .slice x.kp x.kn x.kc) rfl
                 have byk := BYk.cell 1 (v := .slice y.kp y.kn y.kc) rfl
                 by_cases hlk : k < x.kn
                 · have hlk' : (k : Int) < (x.kn : Int) := by omega
                   have hlk2 : (k : Int) < (y.kn : Int) := by omega
                   obtain ⟨pa, hpa, ca1⟩ := (HX2.out.kept (gb_trans HGZ.out gk.out) (by simp)) k hlk
                   obtain ⟨pb, hpb, cb1⟩ := (HY2.out.kept (gb_trans HGZ.out gk.out) (by simp)) k (by omega)
                   rw [hpa] at bxk
                   rw [hpb] at byk
                   by_cases he : x.kf k = y.kf k
                   · have HE : Hid (x.kf k = y.kf k) := he
                     obtain ⟨v, hv⟩ : ∃ v, y.kf k = v := ⟨_, rfl⟩
                     rw [he, hv] at ca1
                     rw [hv] at cb1
                     have ya : (v != v) = false := by simp
                     clear he hv hpa hpb hkk hs
                     go_wp2
                     go_quiet (fail)
                     go_wp2
                     go_roundw
                     case rel =>
                       refine ⟨k + 1, hlk, by go_num, gb_drewN gk.out _, fun m hm => ?_⟩
                       rcases Nat.lt_or_ge m k with h | h
                       · exact hkk2.out m h
                       · obtain rfl : m = k := by omega
                         exact HE.out
                     case measure => simp [intOf]; omega
                   · have hBf : B = false := by
                       cases B with
                       | false => rfl
                       | true => exact absurd (by have := HBB.out.1 rfl j hlt; rw [HX.out.1, HX.out.2] at this; exact this) (fun h : TnE x y => he (h.2.2 k hlk))
                     subst hBf
                     have hne2 : binOp .neq 3 (.int .i64 (x.kf k)) (.int .i64 (y.kf k)) = pure (.bool true) := by rw [binOp_neq, show ((x.kf k) != (y.kf k)) = true by simpa using he]
                     obtain ⟨u, hu⟩ : ∃ u, x.kf k = u := ⟨_, rfl⟩
                     obtain ⟨v, hv⟩ : ∃ v, y.kf k = v := ⟨_, rfl⟩
                     rw [hu] at ca1 hne2
                     rw [hv] at cb1 hne2
                     clear he hu hv hpa hpb hkk hs
                     go_wp2
                     go_quiet (fail)
                     go_wp2
                     go_ret
                     exact ⟨rfl, gb_drewN (gb_trans HGV.out gk.out) _⟩
                 · obtain rfl : k = x.kn := by omega
                   have hlk' : ¬ (x.kn : Int) < (x.kn : Int) := by omega
                   have HT : Hid (TnE x y) := ⟨hs, hkk, hkk2.out⟩
                   clear hs hkk
                   go_wp2
                   go_roundw
                   case rel =>
                     refine ⟨j + 1, hlt, by go_num, gb_trans gj.out (gb_trans HGZ.out gk.out), fun m hm => ?_⟩
                     rcases Nat.lt_or_ge m j with h | h
                     · exact hk.out m h
                     · obtain rfl : m = j := by omega
                       rw [HX.out.1, HX.out.2]
                       exact HT.out
                   case measure => simp [intOf]; omega
             · have hBf : B = false := by
                 cases B with
                 | false => rfl
                 | true => exact absurd (by have := HBB.out.1 rfl j hlt; rw [HX.out.1, HX.out.2] at this; exact this) (fun h : TnE x y => hkk h.2.1)
               subst hBf
               go_wp2
               go_ret
               exact ⟨rfl, HGV.out⟩
           · have hBf : B = false := by
               cases B with
               | false => rfl
               | true => exact absurd (by have := HBB.out.1 rfl j hlt; rw [HX.out.1, HX.out.2] at this; exact this) (fun h : TnE x y => hs h.1)
             subst hBf
             go_wp2
             go_ret
             exact ⟨rfl, HGV.out⟩)
        | (refine (show Exit.then _ _ Exit.normal _ ZYB.drew from ?_)
           have BX := OZYB.out.dr
           have BY := EZYB.out.dr
           have GZ : wr.grownBy ZYB.drew none := gb_drew GZYB.out
           have xx0 := BX.cell 0 (v := .int .u8 (x.st : Nat)) rfl
           have xx1 := BX.cell 1 (v := .slice x.kp x.kn x.kc) rfl
           have yy0 := BY.cell 0 (v := .int .u8 (y.st : Nat)) rfl
           have yy1 := BY.cell 1 (v := .slice y.kp y.kn y.kc) rfl
           obtain ⟨V, hV⟩ : ∃ V, ZYB.drew = V := ⟨_, rfl⟩
           rw [hV] at BX BY GZ xx0 xx1 yy0 yy1 ⊢
           have HGV : Hid (w.grownBy V none) := gb_trans Hgj.out GZ
           have HGZ : Hid (wr.grownBy V none) := GZ
           have HBX : Hid (Bo V wr.heap.size 48 #[.int .u8 (x.st : Nat), .slice x.kp x.kn x.kc]) := BX
           have HBY : Hid (Bo V W3.heap.size 48 #[.int .u8 (y.st : Nat), .slice y.kp y.kn y.kc]) := BY
           clear hV BX BY GZ
           try clear hXA; try clear sXA; try clear GXA; try clear DXA; try clear OXA; try clear EXA; try clear p2XA; try clear p2XAd; try clear q2XA; try clear q2XAd; try clear x0XA; try clear x0XAd; try clear x1XA; try clear x1XAd; try clear y0XA; try clear y0XAd; try clear y1XA; try clear y1XAd; try clear t0XA; try clear t0XAd; try clear t1XA; try clear t1XAd; try clear t2XA; try clear t2XAd; try clear t3XA; try clear t3XAd; try clear hXB; try clear sXB; try clear GXB; try clear DXB; try clear OXB; try clear EXB; try clear p2XB; try clear p2XBd; try clear q2XB; try clear q2XBd; try clear x0XB; try clear x0XBd; try clear x1XB; try clear x1XBd; try clear y0XB; try clear y0XBd; try clear y1XB; try clear y1XBd; try clear t0XB; try clear t0XBd; try clear t1XB; try clear t1XBd; try clear t2XB; try clear t2XBd; try clear t3XB; try clear t3XBd; try clear hYA; try clear sYA; try clear GYA; try clear DYA; try clear OYA; try clear EYA; try clear p2YA; try clear p2YAd; try clear q2YA; try clear q2YAd; try clear x0YA; try clear x0YAd; try clear x1YA; try clear x1YAd; try clear y0YA; try clear y0YAd; try clear y1YA; try clear y1YAd; try clear t0YA; try clear t0YAd; try clear t1YA; try clear t1YAd; try clear t2YA; try clear t2YAd; try clear t3YA; try clear t3YAd; try clear hYB; try clear sYB; try clear GYB; try clear DYB; try clear OYB; try clear EYB; try clear p2YB; try clear p2YBd; try clear q2YB; try clear q2YBd; try clear x0YB; try clear x0YBd; try clear x1YB; try clear x1YBd; try clear y0YB; try clear y0YBd; try clear y1YB; try clear y1YBd; try clear t0YB; try clear t0YBd; try clear t1YB; try clear t1YBd; try clear t2YB; try clear t2YBd; try clear t3YB; try clear t3YBd; try clear hZXA; try clear hZXB; try clear hZYA; try clear hZYB; try clear sZXA; try clear sZXB; try clear sZYA; try clear sZYB; try clear p2gd0; try clear q2gd0; try clear x0gd0; try clear x1gd0; try clear y0gd0; try clear y1gd0; try clear p2gd3; try clear q2gd3; try clear x0gd3; try clear x1gd3; try clear y0gd3; try clear y1gd3; try clear p2gd4; try clear q2gd4; try clear x0gd4; try clear x1gd4; try clear y0gd4; try clear y1gd4; try clear m0; try clear m1; try clear m2; try clear m3; try clear k0; try clear k1; try clear k2; try clear k3; try clear md0; try clear md1; try clear kd0; try clear kd1
           by_cases hs : x.st = y.st
           · have hse : ((x.st : Int) != (y.st : Int)) = false := by simp; omega
             by_cases hkk : x.kn = y.kn
             · have hke : ((x.kn : Int) != (y.kn : Int)) = false := by simp; omega
               go_wp2
               go_loopw [8] (fun i wr2 => ∃ k : Nat, k ≤ x.kn ∧ i = .int .i64 (k : Nat) ∧ Hid (V.grownBy wr2 none) ∧ Hid (∀ m, m < k → x.kf m = y.kf m)) (fun i _ => x.kn - (intOf i).toNat)
               case atStart => exact ⟨0, Nat.zero_le _, rfl, World.grownBy.refl _ _, fun m hm => absurd hm (Nat.not_lt_zero _)⟩
               case round =>
                 obtain ⟨k, hk1, rfl, gk, hkk2⟩ := hrel
                 have BXk := HBX.out.kept gk.out (by simp)
                 have BYk := HBY.out.kept gk.out (by simp)
                 have bxk := BXk.cell 1 (v := .slice x.kp x.kn x.kc) rfl
                 have byk := BYk.cell 1 (v := .slice y.kp y.kn y.kc) rfl
                 by_cases hlk : k < x.kn
                 · have hlk' : (k : Int) < (x.kn : Int) := by omega
                   have hlk2 : (k : Int) < (y.kn : Int) := by omega
                   obtain ⟨pa, hpa, ca1⟩ := (HX2.out.kept (gb_trans HGZ.out gk.out) (by simp)) k hlk
                   obtain ⟨pb, hpb, cb1⟩ := (HY2.out.kept (gb_trans HGZ.out gk.out) (by simp)) k (by omega)
                   rw [hpa] at bxk
                   rw [hpb] at byk
                   by_cases he : x.kf k = y.kf k
                   · have HE : Hid (x.kf k = y.kf k) := he
                     obtain ⟨v, hv⟩ : ∃ v, y.kf k = v := ⟨_, rfl⟩
                     rw [he, hv] at ca1
                     rw [hv] at cb1
                     have ya : (v != v) = false := by simp
                     clear he hv hpa hpb hkk hs
                     go_wp2
                     go_quiet (fail)
                     go_wp2
                     go_roundw
                     case rel =>
                       refine ⟨k + 1, hlk, by go_num, gb_drewN gk.out _, fun m hm => ?_⟩
                       rcases Nat.lt_or_ge m k with h | h
                       · exact hkk2.out m h
                       · obtain rfl : m = k := by omega
                         exact HE.out
                     case measure => simp [intOf]; omega
                   · have hBf : B = false := by
                       cases B with
                       | false => rfl
                       | true => exact absurd (by have := HBB.out.1 rfl j hlt; rw [HX.out.1, HX.out.2] at this; exact this) (fun h : TnE x y => he (h.2.2 k hlk))
                     subst hBf
                     have hne2 : binOp .neq 3 (.int .i64 (x.kf k)) (.int .i64 (y.kf k)) = pure (.bool true) := by rw [binOp_neq, show ((x.kf k) != (y.kf k)) = true by simpa using he]
                     obtain ⟨u, hu⟩ : ∃ u, x.kf k = u := ⟨_, rfl⟩
                     obtain ⟨v, hv⟩ : ∃ v, y.kf k = v := ⟨_, rfl⟩
                     rw [hu] at ca1 hne2
                     rw [hv] at cb1 hne2
                     clear he hu hv hpa hpb hkk hs
                     go_wp2
                     go_quiet (fail)
                     go_wp2
                     go_ret
                     exact ⟨rfl, gb_drewN (gb_trans HGV.out gk.out) _⟩
                 · obtain rfl : k = x.kn := by omega
                   have hlk' : ¬ (x.kn : Int) < (x.kn : Int) := by omega
                   have HT : Hid (TnE x y) := ⟨hs, hkk, hkk2.out⟩
                   clear hs hkk
                   go_wp2
                   go_roundw
                   case rel =>
                     refine ⟨j + 1, hlt, by go_num, gb_trans gj.out (gb_trans HGZ.out gk.out), fun m hm => ?_⟩
                     rcases Nat.lt_or_ge m j with h | h
                     · exact hk.out m h
                     · obtain rfl : m = j := by omega
                       rw [HX.out.1, HX.out.2]
                       exact HT.out
                   case measure => simp [intOf]; omega
             · have hBf : B = false := by
                 cases B with
                 | false => rfl
                 | true => exact absurd (by have := HBB.out.1 rfl j hlt; rw [HX.out.1, HX.out.2] at this; exact this) (fun h : TnE x y => hkk h.2.1)
               subst hBf
               go_wp2
               go_ret
               exact ⟨rfl, HGV.out⟩
           · have hBf : B = false := by
               cases B with
               | false => rfl
               | true => exact absurd (by have := HBB.out.1 rfl j hlt; rw [HX.out.1, HX.out.2] at this; exact this) (fun h : TnE x y => hs h.1)
             subst hBf
             go_wp2
             go_ret
             exact ⟨rfl, HGV.out⟩)
    · obtain rfl : j = n := by omega
      have hlt' : ¬ (j : Int) < (j : Int) := by omega
      obtain rfl : B = true := HBB.out.2 hk.out
      go_wp2
      go_ret
      exact ⟨rfl, gb_trans HG.out gj.out⟩
end Go.Proofs.YteaionmjbkildacDoor
