/- The document's Check, At, Offsets, Around of layer 14. -/
import Derived.Test.YtjndljjpbkfmiaaGreatDoorK9
import Derived.Test.YtjndljjpbkfmiaaGreatDoorZ15
import Derived.Maps.AppendAt
namespace Go.Proofs.YtjndljjpbkfmiaaGreatDoor
open Go.RowKit
set_option linter.unusedVariables false
set_option linter.unusedSimpArgs false
set_option maxRecDepth 100000

set_option maxHeartbeats 1000000 in
theorem refCheckF (x y : Int) (sp : Option Addr) (n c : Nat) (w : World) : Calls Tryz.prog 25 #[.agg #[.int .i64 x, .int .i64 y, .slice sp n c]] w fun e w' => e = .returned (.int .i64 (fmE x y n)) ∧ w.grownBy w' none := by
  obtain ⟨W1, hW1, sz1, g1, B1⟩ := boxn w #[.int .i64 x, .int .i64 y, .slice sp n c] 33
  have b1_0 := B1.cell 0 (v := .int .i64 x) rfl
  have b1_1 := B1.cell 1 (v := .int .i64 y) rfl
  have b1_2 := B1.cell 2 (v := .slice sp n c) rfl
  by_cases h1 : x < 1
  · rw [show fmE x y n = 140 from if_neg (fun t => by omega)]
    go_enter Tryz.func25, Tryz.ntmps25
    go_wp2
    go_ret
    exact ⟨rfl, g1⟩
  · by_cases h2 : 65536 < x
    · rw [show fmE x y n = 140 from if_neg (fun t => by omega)]
      go_enter Tryz.func25, Tryz.ntmps25
      go_wp2
      go_ret
      exact ⟨rfl, g1⟩
    · by_cases h3 : y < 1
      · rw [show fmE x y n = 140 from if_neg (fun t => by omega)]
        go_enter Tryz.func25, Tryz.ntmps25
        go_wp2
        go_ret
        exact ⟨rfl, g1⟩
      · by_cases h4 : 65536 < y
        · rw [show fmE x y n = 140 from if_neg (fun t => by omega)]
          go_enter Tryz.func25, Tryz.ntmps25
          go_wp2
          go_ret
          exact ⟨rfl, g1⟩
        · have H1 : 1 ≤ x ∧ x ≤ 65536 := by omega
          have H2 : 1 ≤ y ∧ y ≤ 65536 := by omega
          obtain ⟨a, rfl⟩ := Int.eq_ofNat_of_zero_le (show 0 ≤ x by omega)
          obtain ⟨b, rfl⟩ := Int.eq_ofNat_of_zero_le (show 0 ≤ y by omega)
          have m1 : a * b ≤ 65536 * 65536 := Nat.mul_le_mul (by omega) (by omega)
          have m2 : (a + 2) * (b + 2) ≤ 65538 * 65538 := Nat.mul_le_mul (by omega) (by omega)
          have e1 : (a : Int) * (b : Int) = ((a * b : Nat) : Int) := by simp
          have e2 : ((a : Int) + 2) * ((b : Int) + 2) = (((a + 2) * (b + 2) : Nat) : Int) := by simp
          obtain ⟨p, hp⟩ : ∃ p, a * b = p := ⟨_, rfl⟩
          obtain ⟨q, hq⟩ : ∃ q, (a + 2) * (b + 2) = q := ⟨_, rfl⟩
          rw [hp] at m1 e1
          rw [hq] at m2 e2
          have w1 : IntKind.i64.wrap ((a : Int) * (b : Int)) = (p : Int) := by rw [e1, IntKind.wrap_i64]; omega
          have w2 : IntKind.i64.wrap (((a : Int) + 2) * ((b : Int) + 2)) = (q : Int) := by rw [e2, IntKind.wrap_i64]; omega
          have HE : Hid (fmE a b n = if (p : Int) ≤ 1048576 ∧ (n : Int) = q then 0 else 140) := by
            unfold Hid fmE
            rw [e1, e2]
            by_cases hh : (p : Int) ≤ 1048576 ∧ (n : Int) = q
            · rw [if_pos ⟨H1, H2, hh.1, hh.2⟩, if_pos hh]
            · rw [if_neg (fun t => hh ⟨t.2.2.1, t.2.2.2⟩), if_neg hh]
          clear hp hq e1 e2
          by_cases h5 : 1048576 < (p : Int)
          · rw [show fmE a b n = 140 by rw [HE.out, if_neg (by omega)]]
            go_enter Tryz.func25, Tryz.ntmps25
            go_wp2
            go_ret
            exact ⟨rfl, g1⟩
          · have h5' : decide (1048576 < (p : Int)) = false := decide_eq_false h5
            by_cases h6 : n = q
            · rw [show fmE a b n = 0 by rw [HE.out, if_pos (by omega)]]
              subst h6
              clear h5
              go_enter Tryz.func25, Tryz.ntmps25
              go_wp2
              go_ret
              exact ⟨rfl, g1⟩
            · rw [show fmE a b n = 140 by rw [HE.out, if_neg (by omega)]]
              have h6' : ((n : Int) != (q : Int)) = true := by simp; omega
              clear h5
              go_enter Tryz.func25, Tryz.ntmps25
              go_wp2
              go_ret
              exact ⟨rfl, g1⟩
theorem refOff1 (w : World) : Calls Tryz.prog 53 #[.int .u8 1] w fun e w' => ∃ b, e = .returned (.tuple #[.slice (some ⟨b, 0, none⟩) 8 8, .int .i64 0]) ∧ (∀ i, i < 8 → w'.cell? ⟨b, i * 2, none⟩ = some (.int .i64 (ofP 1 i).1) ∧ w'.cell? ⟨b, i * 2 + 1, none⟩ = some (.int .i64 (ofP 1 i).2)) ∧ w.heap.size ≤ b ∧ w.grownBy w' none := by
  go_enter Tryz.func53, Tryz.ntmps53
  go_wp2
  go_ret2
  refine ⟨w.heap.size, rfl, fun i hi => ?_, Nat.le_refl _, World.grownBy_alloc _ _ none⟩
  have B := Bo.new w 60 #[.int .i64 0, .int .i64 (-1), .int .i64 1, .int .i64 (-1), .int .i64 1, .int .i64 0, .int .i64 1, .int .i64 1, .int .i64 0, .int .i64 1, .int .i64 (-1), .int .i64 1, .int .i64 (-1), .int .i64 0, .int .i64 (-1), .int .i64 (-1)]
  match i, hi with
  | 0, _ => exact ⟨B.cell 0 rfl, B.cell 1 rfl⟩
  | 1, _ => exact ⟨B.cell 2 rfl, B.cell 3 rfl⟩
  | 2, _ => exact ⟨B.cell 4 rfl, B.cell 5 rfl⟩
  | 3, _ => exact ⟨B.cell 6 rfl, B.cell 7 rfl⟩
  | 4, _ => exact ⟨B.cell 8 rfl, B.cell 9 rfl⟩
  | 5, _ => exact ⟨B.cell 10 rfl, B.cell 11 rfl⟩
  | 6, _ => exact ⟨B.cell 12 rfl, B.cell 13 rfl⟩
  | 7, _ => exact ⟨B.cell 14 rfl, B.cell 15 rfl⟩
theorem refOff2 (w : World) : Calls Tryz.prog 53 #[.int .u8 2] w fun e w' => ∃ b, e = .returned (.tuple #[.slice (some ⟨b, 0, none⟩) 4 4, .int .i64 0]) ∧ (∀ i, i < 4 → w'.cell? ⟨b, i * 2, none⟩ = some (.int .i64 (ofP 2 i).1) ∧ w'.cell? ⟨b, i * 2 + 1, none⟩ = some (.int .i64 (ofP 2 i).2)) ∧ w.heap.size ≤ b ∧ w.grownBy w' none := by
  go_enter Tryz.func53, Tryz.ntmps53
  go_wp2
  go_ret2
  refine ⟨w.heap.size, rfl, fun i hi => ?_, Nat.le_refl _, World.grownBy_alloc _ _ none⟩
  have B := Bo.new w 60 #[.int .i64 0, .int .i64 (-1), .int .i64 1, .int .i64 0, .int .i64 0, .int .i64 1, .int .i64 (-1), .int .i64 0]
  match i, hi with
  | 0, _ => exact ⟨B.cell 0 rfl, B.cell 1 rfl⟩
  | 1, _ => exact ⟨B.cell 2 rfl, B.cell 3 rfl⟩
  | 2, _ => exact ⟨B.cell 4 rfl, B.cell 5 rfl⟩
  | 3, _ => exact ⟨B.cell 6 rfl, B.cell 7 rfl⟩
theorem refOff3 (w : World) : Calls Tryz.prog 53 #[.int .u8 3] w fun e w' => ∃ b, e = .returned (.tuple #[.slice (some ⟨b, 0, none⟩) 6 6, .int .i64 0]) ∧ (∀ i, i < 6 → w'.cell? ⟨b, i * 2, none⟩ = some (.int .i64 (ofP 3 i).1) ∧ w'.cell? ⟨b, i * 2 + 1, none⟩ = some (.int .i64 (ofP 3 i).2)) ∧ w.heap.size ≤ b ∧ w.grownBy w' none := by
  go_enter Tryz.func53, Tryz.ntmps53
  go_wp2
  go_ret2
  refine ⟨w.heap.size, rfl, fun i hi => ?_, Nat.le_refl _, World.grownBy_alloc _ _ none⟩
  have B := Bo.new w 60 #[.int .i64 0, .int .i64 (-1), .int .i64 1, .int .i64 0, .int .i64 1, .int .i64 1, .int .i64 0, .int .i64 1, .int .i64 (-1), .int .i64 0, .int .i64 (-1), .int .i64 (-1)]
  match i, hi with
  | 0, _ => exact ⟨B.cell 0 rfl, B.cell 1 rfl⟩
  | 1, _ => exact ⟨B.cell 2 rfl, B.cell 3 rfl⟩
  | 2, _ => exact ⟨B.cell 4 rfl, B.cell 5 rfl⟩
  | 3, _ => exact ⟨B.cell 6 rfl, B.cell 7 rfl⟩
  | 4, _ => exact ⟨B.cell 8 rfl, B.cell 9 rfl⟩
  | 5, _ => exact ⟨B.cell 10 rfl, B.cell 11 rfl⟩

theorem refOffN (h : Nat) (hn : ¬ (1 ≤ h ∧ h ≤ 3)) (w : World) : Calls Tryz.prog 53 #[.int .u8 (h : Nat)] w fun e w' => e = .returned (.tuple #[.slice none 0 0, .int .i64 70]) ∧ w.grownBy w' none := by
  have q1 : ((h : Int) == 1) = false := by simp; omega
  have q2 : ((h : Int) == 2) = false := by simp; omega
  have q3 : ((h : Int) == 3) = false := by simp; omega
  go_enter Tryz.func53, Tryz.ntmps53
  go_wp2
  go_ret2
  exact ⟨rfl, World.grownBy.refl _ _⟩
theorem refOffY (h : Nat) (h1 : 1 ≤ h) (h3 : h ≤ 3) (w : World) : Calls Tryz.prog 53 #[.int .u8 (h : Nat)] w fun e w' => ∃ b, e = .returned (.tuple #[.slice (some ⟨b, 0, none⟩) (ofN h) (ofN h), .int .i64 0]) ∧ (∀ i, i < ofN h → w'.cell? ⟨b, i * 2, none⟩ = some (.int .i64 (ofP h i).1) ∧ w'.cell? ⟨b, i * 2 + 1, none⟩ = some (.int .i64 (ofP h i).2)) ∧ w.heap.size ≤ b ∧ w.grownBy w' none := by
  obtain rfl | rfl | rfl : h = 1 ∨ h = 2 ∨ h = 3 := by omega
  · exact refOff1 w
  · exact refOff2 w
  · exact refOff3 w
/-- The state of a place in a frame. -/
theorem refAtC {C R : Nat} (hC : C ≤ 65536) (sp : Option Addr) (n c : Nat) (f : Nat → Nat) (u v : Int) (hu : -1 ≤ u ∧ u ≤ 65536) (hv : -1 ≤ v ∧ v ≤ 65536) (hi : ixN C u v < n) (w : World) (hb : By w sp n f) :
    Calls Tryz.prog 54 #[.agg #[.int .i64 (C : Nat), .int .i64 (R : Nat), .slice sp n c], .int .i64 u, .int .i64 v] w fun e w' => e = .returned (.int .u8 (f (ixN C u v) : Nat)) ∧ w.grownBy w' none := by
  obtain ⟨a, ha⟩ := hb.some (by omega)
  subst ha
  obtain ⟨W1, hW1, sz1, g1, B1⟩ := boxn w #[.int .i64 (C : Nat), .int .i64 (R : Nat), .slice (some a) n c] 33
  have b1_0 := B1.cell 0 (v := .int .i64 (C : Nat)) rfl
  have b1_1 := B1.cell 1 (v := .int .i64 (R : Nat)) rfl
  have b1_2 := B1.cell 2 (v := .slice (some a) n c) rfl
  have hbc := (hb.kept g1 (by simp)).at hi
  have hm := ix_mul hC hv.1 hv.2
  have HX : Hid (((ixN C u v : Nat) : Int) = (v + 1) * (C + 2) + u + 1) := ix_int hu.1 hv.1
  have hw : IntKind.i64.wrap ((v + 1) * ((C : Int) + 2)) = (v + 1) * ((C : Int) + 2) := by rw [IntKind.wrap_i64]; omega
  obtain ⟨P, hP⟩ : ∃ P, (v + 1) * ((C : Int) + 2) = P := ⟨_, rfl⟩
  rw [hP] at hm hw
  have hX : ((ixN C u v : Nat) : Int) = P + u + 1 := by rw [HX.out, ← hP]
  clear HX
  obtain ⟨ip, hip⟩ : ∃ ip, ixN C u v = ip := ⟨_, rfl⟩
  rw [hip] at hX hi hbc ⊢
  have hX' : P + u + 1 = (ip : Int) := hX.symm
  have hz0 : (0 : Int) ≤ (ip : Int) := by omega
  have hz1 : (ip : Int) < (n : Int) := by omega
  have hwp : IntKind.i64.wrap (P + u) = P + u := by rw [IntKind.wrap_i64]; omega
  have hwq : IntKind.i64.wrap (P + u + 1) = (ip : Int) := by rw [IntKind.wrap_i64]; omega
  have hwr : IntKind.i64.wrap (v + 1) = v + 1 := by rw [IntKind.wrap_i64]; omega
  clear hX hip
  go_enter Tryz.func54, Tryz.ntmps54
  go_wp2
  go_ret
  exact ⟨rfl, g1⟩
end Go.Proofs.YtjndljjpbkfmiaaGreatDoor
