/- How the edges of a Torus are glued, as the program tells it. -/
import Derived.BigRegion
import Derived.Test.YtgiiaokkmnjckabF10
namespace Go.Proofs.Ytgiiaokkmnjckab
open Go.RowKit
open Fl
set_option linter.unusedVariables false
set_option linter.unusedSimpArgs false
set_option maxRecDepth 100000

theorem bo4a {w : World} {g : Nat} {t : TypeId} {x0 x1 x2 x3 u0 u1 u2 u3 : Value} (h : Bo w g t #[x0, x1, x2, x3]) : Bo ((((w.setCell ⟨g, 0, none⟩ u0).setCell ⟨g, 1, none⟩ u1).setCell ⟨g, 2, none⟩ u2).setCell ⟨g, 3, none⟩ u3) g t #[u0, u1, u2, u3] := (((h.set 0 u0).set 1 u1).set 2 u2).set 3 u3
theorem bo4b {w : World} {g b : Nat} {t : TypeId} {cs : Array Value} {u0 u1 u2 u3 : Value} (h : Bo w g t cs) (hb : b ≠ g) : Bo ((((w.setCell ⟨b, 0, none⟩ u0).setCell ⟨b, 1, none⟩ u1).setCell ⟨b, 2, none⟩ u2).setCell ⟨b, 3, none⟩ u3) g t cs := (((h.set2 hb).set2 hb).set2 hb).set2 hb
theorem gb4 {w w' : World} (h : w.grownBy w' none) {b : Nat} (hb : w.heap.size ≤ b) {u0 u1 u2 u3 : Value} : w.grownBy ((((w'.setCell ⟨b, 0, none⟩ u0).setCell ⟨b, 1, none⟩ u1).setCell ⟨b, 2, none⟩ u2).setCell ⟨b, 3, none⟩ u3) none := gb_new (gb_new (gb_new (gb_new h hb _) hb _) hb _) hb _

set_option maxHeartbeats 20000000 in
theorem torusC (k x y t z : Int) (p q : Bool) (hp : decide (0 < x) = p) (hq : decide (0 < y) = q) (Y1 X2 : Int) (ht : ((t == 1) = true ∧ Hid (Y1 = 0) ∧ Hid (X2 = z)) ∨ ((t == 1) = false ∧ (t == 2) = true ∧ Hid (Y1 = z) ∧ Hid (X2 = 0)) ∨ ((t == 1) = false ∧ (t == 2) = false ∧ Hid (Y1 = 0) ∧ Hid (X2 = 0))) (w : World) : Calls Try.prog 54 #[.agg #[.int .u8 k, .int .i64 x, .int .i64 y, .int .u8 t, .int .i64 z, .int .i64 (To.fi x), .int .i64 (To.fi y), .int .i64 x, .int .i64 y]] w fun e w' => e = .returned (.agg #[.bool p, .int .i64 0, .int .i64 x, .int .i64 Y1, .bool q, .int .i64 0, .int .i64 X2, .int .i64 y]) ∧ w.grownBy w' none := by
  obtain ⟨n, el, hu⟩ := underE
  obtain ⟨W1, hW1, sz1, g1, B1⟩ := boxn w #[.int .u8 k, .int .i64 x, .int .i64 y, .int .u8 t, .int .i64 z, .int .i64 (To.fi x), .int .i64 (To.fi y), .int .i64 x, .int .i64 y] 63
  obtain ⟨W2, hW2, sz2, g2, B2⟩ := boxn W1 #[.bool false, .int .i64 0, .int .i64 0, .int .i64 0, .bool false, .int .i64 0, .int .i64 0, .int .i64 0] 76
  have G2 := gb_trans g1 g2
  have B1x := B1.kept g2 (by simp)
  have b1_1 := B1x.cell 1 (v := .int .i64 x) rfl
  have b1_2 := B1x.cell 2 (v := .int .i64 y) rfl
  obtain ⟨W3, hW3, sz3, g3, B3⟩ := boxn W2 #[.bool false, .int .i64 0, .int .i64 0, .int .i64 0] 75
  obtain ⟨W4, hW4, sz4, g4, B4⟩ := boxn W3 #[.bool false, .int .i64 0, .int .i64 0, .int .i64 0] 75
  have G3 := gb_trans G2 g3
  have G4 := gb_trans G3 g4
  have P3 := B1x.kept g3 (by simp)
  have P4 := P3.kept g4 (by simp)
  have R4 := (B2.kept g3 (by simp)).kept g4 (by simp)
  have D4 := B3.kept g4 (by simp)
  have P3_1 := P3.cell 1 (v := .int .i64 x) rfl
  have P3_2 := P3.cell 2 (v := .int .i64 y) rfl
  have P4_1 := P4.cell 1 (v := .int .i64 x) rfl
  have P4_2 := P4.cell 2 (v := .int .i64 y) rfl
  have d4_0 := D4.cell 0 (v := .bool false) rfl
  have d4_1 := D4.cell 1 (v := .int .i64 0) rfl
  have d4_2 := D4.cell 2 (v := .int .i64 0) rfl
  have d4_3 := D4.cell 3 (v := .int .i64 0) rfl
  have e4_0 := B4.cell 0 (v := .bool false) rfl
  have e4_1 := B4.cell 1 (v := .int .i64 0) rfl
  have e4_2 := B4.cell 2 (v := .int .i64 0) rfl
  have e4_3 := B4.cell 3 (v := .int .i64 0) rfl
  have fd0 := D4.frozen 0
  have fd1 := D4.frozen 1
  have fd2 := D4.frozen 2
  have fd3 := D4.frozen 3
  have fe0 := B4.frozen 0
  have fe1 := B4.frozen 1
  have fe2 := B4.frozen 2
  have fe3 := B4.frozen 3
  have n0 : w.heap.size ≠ W1.heap.size := Nat.ne_of_lt B1.lt
  have n1 : w.heap.size ≠ W2.heap.size := Nat.ne_of_lt B1x.lt
  have n2 : w.heap.size ≠ W3.heap.size := Nat.ne_of_lt P3.lt
  have n3 : W1.heap.size ≠ W2.heap.size := Nat.ne_of_lt B2.lt
  have n4 : W1.heap.size ≠ W3.heap.size := Nat.ne_of_lt (B2.kept g3 (by simp)).lt
  have n5 : W2.heap.size ≠ W3.heap.size := Nat.ne_of_lt B3.lt
  have m0 := n0.symm
  have m1 := n1.symm
  have m2 := n2.symm
  have m3 := n3.symm
  have m4 := n4.symm
  have m5 := n5.symm
  go_enter Try.func54, Try.ntmps54
  go_wp2
  go_region
  · obtain ⟨W5, hW5⟩ : ∃ W, ((((((((W4.setCell ⟨W2.heap.size, 0, none⟩ (.bool p)).setCell ⟨W2.heap.size, 1, none⟩ (.int .i64 0)).setCell ⟨W2.heap.size, 2, none⟩ (.int .i64 x)).setCell ⟨W2.heap.size, 3, none⟩ (.int .i64 0)).setCell ⟨W3.heap.size, 0, none⟩ (.bool q)).setCell ⟨W3.heap.size, 1, none⟩ (.int .i64 0)).setCell ⟨W3.heap.size, 2, none⟩ (.int .i64 0)).setCell ⟨W3.heap.size, 3, none⟩ (.int .i64 y)) = W := ⟨_, rfl⟩
    have P5 : Bo W5 w.heap.size 63 #[.int .u8 k, .int .i64 x, .int .i64 y, .int .u8 t, .int .i64 z, .int .i64 (To.fi x), .int .i64 (To.fi y), .int .i64 x, .int .i64 y] := hW5 ▸ bo4b (bo4b P4 m1) m2
    have R5 : Bo W5 W1.heap.size 76 #[.bool false, .int .i64 0, .int .i64 0, .int .i64 0, .bool false, .int .i64 0, .int .i64 0, .int .i64 0] := hW5 ▸ bo4b (bo4b R4 m3) m4
    have S5 : Bo W5 W2.heap.size 75 #[.bool p, .int .i64 0, .int .i64 x, .int .i64 0] := hW5 ▸ bo4b (bo4a D4) m5
    have T5 : Bo W5 W3.heap.size 75 #[.bool q, .int .i64 0, .int .i64 0, .int .i64 y] := hW5 ▸ bo4a (bo4b B4 n5)
    have G5 : w.grownBy W5 none := hW5 ▸ gb4 (gb4 G4 G2.size) G3.size
    clear b1_1 b1_2 P3_1 P3_2 P4_1 P4_2 d4_0 e4_0 fd0 fe0 d4_1 e4_1 fd1 fe1 d4_2 e4_2 fd2 fe2 d4_3 e4_3 fd3 fe3
    have pp5_0 := P5.cell 0 (v := .int .u8 k) rfl
    have pp5_1 := P5.cell 1 (v := .int .i64 x) rfl
    have pp5_2 := P5.cell 2 (v := .int .i64 y) rfl
    have pp5_3 := P5.cell 3 (v := .int .u8 t) rfl
    have pp5_4 := P5.cell 4 (v := .int .i64 z) rfl
    have pp5_5 := P5.cell 5 (v := .int .i64 (To.fi x)) rfl
    have pp5_6 := P5.cell 6 (v := .int .i64 (To.fi y)) rfl
    have pp5_7 := P5.cell 7 (v := .int .i64 x) rfl
    have pp5_8 := P5.cell 8 (v := .int .i64 y) rfl
    have rr5_0 := R5.cell 0 (v := .bool false) rfl
    have rr5_1 := R5.cell 1 (v := .int .i64 0) rfl
    have rr5_2 := R5.cell 2 (v := .int .i64 0) rfl
    have rr5_3 := R5.cell 3 (v := .int .i64 0) rfl
    have rr5_4 := R5.cell 4 (v := .bool false) rfl
    have rr5_5 := R5.cell 5 (v := .int .i64 0) rfl
    have rr5_6 := R5.cell 6 (v := .int .i64 0) rfl
    have rr5_7 := R5.cell 7 (v := .int .i64 0) rfl
    have ss5_0 := S5.cell 0 (v := .bool p) rfl
    have ss5_1 := S5.cell 1 (v := .int .i64 0) rfl
    have ss5_2 := S5.cell 2 (v := .int .i64 x) rfl
    have ss5_3 := S5.cell 3 (v := .int .i64 0) rfl
    have tt5_0 := T5.cell 0 (v := .bool q) rfl
    have tt5_1 := T5.cell 1 (v := .int .i64 0) rfl
    have tt5_2 := T5.cell 2 (v := .int .i64 0) rfl
    have tt5_3 := T5.cell 3 (v := .int .i64 y) rfl
    have fs5_0 := S5.frozen 0
    have fs5_1 := S5.frozen 1
    have fs5_2 := S5.frozen 2
    have fs5_3 := S5.frozen 3
    have ft5_0 := T5.frozen 0
    have ft5_1 := T5.frozen 1
    have ft5_2 := T5.frozen 2
    have ft5_3 := T5.frozen 3
    have fr5_0 := R5.frozen 0
    have fr5_1 := R5.frozen 1
    have fr5_2 := R5.frozen 2
    have fr5_3 := R5.frozen 3
    have fr5_4 := R5.frozen 4
    have fr5_5 := R5.frozen 5
    have fr5_6 := R5.frozen 6
    have fr5_7 := R5.frozen 7
    rcases ht with ⟨h1, e1, e2⟩ | ⟨h1, h2, e1, e2⟩ | ⟨h1, h2, e1, e2⟩
    · obtain ⟨W6, hW6⟩ : ∃ W, W5.setCell ⟨W3.heap.size, 2, none⟩ (.int .i64 z) = W := ⟨_, rfl⟩
      have R6 : Bo W6 W1.heap.size 76 #[.bool false, .int .i64 0, .int .i64 0, .int .i64 0, .bool false, .int .i64 0, .int .i64 0, .int .i64 0] := hW6 ▸ R5.set2 m4
      have T6 : Bo W6 W3.heap.size 75 #[.bool q, .int .i64 0, .int .i64 z, .int .i64 y] := hW6 ▸ T5.set 2 _
      have S6 : Bo W6 W2.heap.size 75 #[.bool p, .int .i64 0, .int .i64 x, .int .i64 0] := hW6 ▸ S5.set2 m5
      have G6 : w.grownBy W6 none := hW6 ▸ gb_new G5 G3.size _
      have rr6_0 := R6.cell 0 (v := .bool false) rfl
      have rr6_1 := R6.cell 1 (v := .int .i64 0) rfl
      have rr6_2 := R6.cell 2 (v := .int .i64 0) rfl
      have rr6_3 := R6.cell 3 (v := .int .i64 0) rfl
      have rr6_4 := R6.cell 4 (v := .bool false) rfl
      have rr6_5 := R6.cell 5 (v := .int .i64 0) rfl
      have rr6_6 := R6.cell 6 (v := .int .i64 0) rfl
      have rr6_7 := R6.cell 7 (v := .int .i64 0) rfl
      have ss6_0 := S6.cell 0 (v := .bool p) rfl
      have ss6_1 := S6.cell 1 (v := .int .i64 0) rfl
      have ss6_2 := S6.cell 2 (v := .int .i64 x) rfl
      have ss6_3 := S6.cell 3 (v := .int .i64 0) rfl
      have tt6_0 := T6.cell 0 (v := .bool q) rfl
      have tt6_1 := T6.cell 1 (v := .int .i64 0) rfl
      have tt6_2 := T6.cell 2 (v := .int .i64 z) rfl
      have tt6_3 := T6.cell 3 (v := .int .i64 y) rfl
      have fr6_0 := R6.frozen 0
      have fr6_1 := R6.frozen 1
      have fr6_2 := R6.frozen 2
      have fr6_3 := R6.frozen 3
      have fr6_4 := R6.frozen 4
      have fr6_5 := R6.frozen 5
      have fr6_6 := R6.frozen 6
      have fr6_7 := R6.frozen 7
      go_wp2
      refine ret_a1 (g := W1.heap.size) (cs := #[.bool p, .int .i64 0, .int .i64 x, .int .i64 0, .bool q, .int .i64 0, .int .i64 z, .int .i64 y]) rfl hu infoE rfl (bo8 R6).dr rfl ⟨?_, gb_drew (gb8 G6 g1.size)⟩
      rw [e1.out, e2.out]
    · obtain ⟨W6, hW6⟩ : ∃ W, W5.setCell ⟨W2.heap.size, 3, none⟩ (.int .i64 z) = W := ⟨_, rfl⟩
      have R6 : Bo W6 W1.heap.size 76 #[.bool false, .int .i64 0, .int .i64 0, .int .i64 0, .bool false, .int .i64 0, .int .i64 0, .int .i64 0] := hW6 ▸ R5.set2 m3
      have S6 : Bo W6 W2.heap.size 75 #[.bool p, .int .i64 0, .int .i64 x, .int .i64 z] := hW6 ▸ S5.set 3 _
      have T6 : Bo W6 W3.heap.size 75 #[.bool q, .int .i64 0, .int .i64 0, .int .i64 y] := hW6 ▸ T5.set2 n5
      have G6 : w.grownBy W6 none := hW6 ▸ gb_new G5 G2.size _
      have rr6_0 := R6.cell 0 (v := .bool false) rfl
      have rr6_1 := R6.cell 1 (v := .int .i64 0) rfl
      have rr6_2 := R6.cell 2 (v := .int .i64 0) rfl
      have rr6_3 := R6.cell 3 (v := .int .i64 0) rfl
      have rr6_4 := R6.cell 4 (v := .bool false) rfl
      have rr6_5 := R6.cell 5 (v := .int .i64 0) rfl
      have rr6_6 := R6.cell 6 (v := .int .i64 0) rfl
      have rr6_7 := R6.cell 7 (v := .int .i64 0) rfl
      have ss6_0 := S6.cell 0 (v := .bool p) rfl
      have ss6_1 := S6.cell 1 (v := .int .i64 0) rfl
      have ss6_2 := S6.cell 2 (v := .int .i64 x) rfl
      have ss6_3 := S6.cell 3 (v := .int .i64 z) rfl
      have tt6_0 := T6.cell 0 (v := .bool q) rfl
      have tt6_1 := T6.cell 1 (v := .int .i64 0) rfl
      have tt6_2 := T6.cell 2 (v := .int .i64 0) rfl
      have tt6_3 := T6.cell 3 (v := .int .i64 y) rfl
      have fr6_0 := R6.frozen 0
      have fr6_1 := R6.frozen 1
      have fr6_2 := R6.frozen 2
      have fr6_3 := R6.frozen 3
      have fr6_4 := R6.frozen 4
      have fr6_5 := R6.frozen 5
      have fr6_6 := R6.frozen 6
      have fr6_7 := R6.frozen 7
      go_wp2
      refine ret_a1 (g := W1.heap.size) (cs := #[.bool p, .int .i64 0, .int .i64 x, .int .i64 z, .bool q, .int .i64 0, .int .i64 0, .int .i64 y]) rfl hu infoE rfl (bo8 R6).dr rfl ⟨?_, gb_drew (gb8 G6 g1.size)⟩
      rw [e1.out, e2.out]
    · go_wp2
      refine ret_a1 (g := W1.heap.size) (cs := #[.bool p, .int .i64 0, .int .i64 x, .int .i64 0, .bool q, .int .i64 0, .int .i64 0, .int .i64 y]) rfl hu infoE rfl (bo8 R5).dr rfl ⟨?_, gb_drew (gb8 G5 g1.size)⟩
      rw [e1.out, e2.out]
  · obtain ⟨W5, hW5⟩ : ∃ W, ((((((((W4.setCell ⟨W3.heap.size, 0, none⟩ (.bool p)).setCell ⟨W3.heap.size, 1, none⟩ (.int .i64 0)).setCell ⟨W3.heap.size, 2, none⟩ (.int .i64 x)).setCell ⟨W3.heap.size, 3, none⟩ (.int .i64 0)).setCell ⟨W2.heap.size, 0, none⟩ (.bool q)).setCell ⟨W2.heap.size, 1, none⟩ (.int .i64 0)).setCell ⟨W2.heap.size, 2, none⟩ (.int .i64 0)).setCell ⟨W2.heap.size, 3, none⟩ (.int .i64 y)) = W := ⟨_, rfl⟩
    have P5 : Bo W5 w.heap.size 63 #[.int .u8 k, .int .i64 x, .int .i64 y, .int .u8 t, .int .i64 z, .int .i64 (To.fi x), .int .i64 (To.fi y), .int .i64 x, .int .i64 y] := hW5 ▸ bo4b (bo4b P4 m2) m1
    have R5 : Bo W5 W1.heap.size 76 #[.bool false, .int .i64 0, .int .i64 0, .int .i64 0, .bool false, .int .i64 0, .int .i64 0, .int .i64 0] := hW5 ▸ bo4b (bo4b R4 m4) m3
    have S5 : Bo W5 W3.heap.size 75 #[.bool p, .int .i64 0, .int .i64 x, .int .i64 0] := hW5 ▸ bo4b (bo4a B4) n5
    have T5 : Bo W5 W2.heap.size 75 #[.bool q, .int .i64 0, .int .i64 0, .int .i64 y] := hW5 ▸ bo4a (bo4b D4 m5)
    have G5 : w.grownBy W5 none := hW5 ▸ gb4 (gb4 G4 G3.size) G2.size
    clear b1_1 b1_2 P3_1 P3_2 P4_1 P4_2 d4_0 e4_0 fd0 fe0 d4_1 e4_1 fd1 fe1 d4_2 e4_2 fd2 fe2 d4_3 e4_3 fd3 fe3
    have pp5_0 := P5.cell 0 (v := .int .u8 k) rfl
    have pp5_1 := P5.cell 1 (v := .int .i64 x) rfl
    have pp5_2 := P5.cell 2 (v := .int .i64 y) rfl
    have pp5_3 := P5.cell 3 (v := .int .u8 t) rfl
    have pp5_4 := P5.cell 4 (v := .int .i64 z) rfl
    have pp5_5 := P5.cell 5 (v := .int .i64 (To.fi x)) rfl
    have pp5_6 := P5.cell 6 (v := .int .i64 (To.fi y)) rfl
    have pp5_7 := P5.cell 7 (v := .int .i64 x) rfl
    have pp5_8 := P5.cell 8 (v := .int .i64 y) rfl
    have rr5_0 := R5.cell 0 (v := .bool false) rfl
    have rr5_1 := R5.cell 1 (v := .int .i64 0) rfl
    have rr5_2 := R5.cell 2 (v := .int .i64 0) rfl
    have rr5_3 := R5.cell 3 (v := .int .i64 0) rfl
    have rr5_4 := R5.cell 4 (v := .bool false) rfl
    have rr5_5 := R5.cell 5 (v := .int .i64 0) rfl
    have rr5_6 := R5.cell 6 (v := .int .i64 0) rfl
    have rr5_7 := R5.cell 7 (v := .int .i64 0) rfl
    have ss5_0 := S5.cell 0 (v := .bool p) rfl
    have ss5_1 := S5.cell 1 (v := .int .i64 0) rfl
    have ss5_2 := S5.cell 2 (v := .int .i64 x) rfl
    have ss5_3 := S5.cell 3 (v := .int .i64 0) rfl
    have tt5_0 := T5.cell 0 (v := .bool q) rfl
    have tt5_1 := T5.cell 1 (v := .int .i64 0) rfl
    have tt5_2 := T5.cell 2 (v := .int .i64 0) rfl
    have tt5_3 := T5.cell 3 (v := .int .i64 y) rfl
    have fs5_0 := S5.frozen 0
    have fs5_1 := S5.frozen 1
    have fs5_2 := S5.frozen 2
    have fs5_3 := S5.frozen 3
    have ft5_0 := T5.frozen 0
    have ft5_1 := T5.frozen 1
    have ft5_2 := T5.frozen 2
    have ft5_3 := T5.frozen 3
    have fr5_0 := R5.frozen 0
    have fr5_1 := R5.frozen 1
    have fr5_2 := R5.frozen 2
    have fr5_3 := R5.frozen 3
    have fr5_4 := R5.frozen 4
    have fr5_5 := R5.frozen 5
    have fr5_6 := R5.frozen 6
    have fr5_7 := R5.frozen 7
    rcases ht with ⟨h1, e1, e2⟩ | ⟨h1, h2, e1, e2⟩ | ⟨h1, h2, e1, e2⟩
    · obtain ⟨W6, hW6⟩ : ∃ W, W5.setCell ⟨W2.heap.size, 2, none⟩ (.int .i64 z) = W := ⟨_, rfl⟩
      have R6 : Bo W6 W1.heap.size 76 #[.bool false, .int .i64 0, .int .i64 0, .int .i64 0, .bool false, .int .i64 0, .int .i64 0, .int .i64 0] := hW6 ▸ R5.set2 m3
      have T6 : Bo W6 W2.heap.size 75 #[.bool q, .int .i64 0, .int .i64 z, .int .i64 y] := hW6 ▸ T5.set 2 _
      have S6 : Bo W6 W3.heap.size 75 #[.bool p, .int .i64 0, .int .i64 x, .int .i64 0] := hW6 ▸ S5.set2 n5
      have G6 : w.grownBy W6 none := hW6 ▸ gb_new G5 G2.size _
      have rr6_0 := R6.cell 0 (v := .bool false) rfl
      have rr6_1 := R6.cell 1 (v := .int .i64 0) rfl
      have rr6_2 := R6.cell 2 (v := .int .i64 0) rfl
      have rr6_3 := R6.cell 3 (v := .int .i64 0) rfl
      have rr6_4 := R6.cell 4 (v := .bool false) rfl
      have rr6_5 := R6.cell 5 (v := .int .i64 0) rfl
      have rr6_6 := R6.cell 6 (v := .int .i64 0) rfl
      have rr6_7 := R6.cell 7 (v := .int .i64 0) rfl
      have ss6_0 := S6.cell 0 (v := .bool p) rfl
      have ss6_1 := S6.cell 1 (v := .int .i64 0) rfl
      have ss6_2 := S6.cell 2 (v := .int .i64 x) rfl
      have ss6_3 := S6.cell 3 (v := .int .i64 0) rfl
      have tt6_0 := T6.cell 0 (v := .bool q) rfl
      have tt6_1 := T6.cell 1 (v := .int .i64 0) rfl
      have tt6_2 := T6.cell 2 (v := .int .i64 z) rfl
      have tt6_3 := T6.cell 3 (v := .int .i64 y) rfl
      have fr6_0 := R6.frozen 0
      have fr6_1 := R6.frozen 1
      have fr6_2 := R6.frozen 2
      have fr6_3 := R6.frozen 3
      have fr6_4 := R6.frozen 4
      have fr6_5 := R6.frozen 5
      have fr6_6 := R6.frozen 6
      have fr6_7 := R6.frozen 7
      go_wp2
      refine ret_a1 (g := W1.heap.size) (cs := #[.bool p, .int .i64 0, .int .i64 x, .int .i64 0, .bool q, .int .i64 0, .int .i64 z, .int .i64 y]) rfl hu infoE rfl (bo8 R6).dr rfl ⟨?_, gb_drew (gb8 G6 g1.size)⟩
      rw [e1.out, e2.out]
    · obtain ⟨W6, hW6⟩ : ∃ W, W5.setCell ⟨W3.heap.size, 3, none⟩ (.int .i64 z) = W := ⟨_, rfl⟩
      have R6 : Bo W6 W1.heap.size 76 #[.bool false, .int .i64 0, .int .i64 0, .int .i64 0, .bool false, .int .i64 0, .int .i64 0, .int .i64 0] := hW6 ▸ R5.set2 m4
      have S6 : Bo W6 W3.heap.size 75 #[.bool p, .int .i64 0, .int .i64 x, .int .i64 z] := hW6 ▸ S5.set 3 _
      have T6 : Bo W6 W2.heap.size 75 #[.bool q, .int .i64 0, .int .i64 0, .int .i64 y] := hW6 ▸ T5.set2 m5
      have G6 : w.grownBy W6 none := hW6 ▸ gb_new G5 G3.size _
      have rr6_0 := R6.cell 0 (v := .bool false) rfl
      have rr6_1 := R6.cell 1 (v := .int .i64 0) rfl
      have rr6_2 := R6.cell 2 (v := .int .i64 0) rfl
      have rr6_3 := R6.cell 3 (v := .int .i64 0) rfl
      have rr6_4 := R6.cell 4 (v := .bool false) rfl
      have rr6_5 := R6.cell 5 (v := .int .i64 0) rfl
      have rr6_6 := R6.cell 6 (v := .int .i64 0) rfl
      have rr6_7 := R6.cell 7 (v := .int .i64 0) rfl
      have ss6_0 := S6.cell 0 (v := .bool p) rfl
      have ss6_1 := S6.cell 1 (v := .int .i64 0) rfl
      have ss6_2 := S6.cell 2 (v := .int .i64 x) rfl
      have ss6_3 := S6.cell 3 (v := .int .i64 z) rfl
      have tt6_0 := T6.cell 0 (v := .bool q) rfl
      have tt6_1 := T6.cell 1 (v := .int .i64 0) rfl
      have tt6_2 := T6.cell 2 (v := .int .i64 0) rfl
      have tt6_3 := T6.cell 3 (v := .int .i64 y) rfl
      have fr6_0 := R6.frozen 0
      have fr6_1 := R6.frozen 1
      have fr6_2 := R6.frozen 2
      have fr6_3 := R6.frozen 3
      have fr6_4 := R6.frozen 4
      have fr6_5 := R6.frozen 5
      have fr6_6 := R6.frozen 6
      have fr6_7 := R6.frozen 7
      go_wp2
      refine ret_a1 (g := W1.heap.size) (cs := #[.bool p, .int .i64 0, .int .i64 x, .int .i64 z, .bool q, .int .i64 0, .int .i64 0, .int .i64 y]) rfl hu infoE rfl (bo8 R6).dr rfl ⟨?_, gb_drew (gb8 G6 g1.size)⟩
      rw [e1.out, e2.out]
    · go_wp2
      refine ret_a1 (g := W1.heap.size) (cs := #[.bool p, .int .i64 0, .int .i64 x, .int .i64 0, .bool q, .int .i64 0, .int .i64 0, .int .i64 y]) rfl hu infoE rfl (bo8 R5).dr rfl ⟨?_, gb_drew (gb8 G5 g1.size)⟩
      rw [e1.out, e2.out]
end Go.Proofs.Ytgiiaokkmnjckab
