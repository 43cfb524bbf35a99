/- The document's Check, At, Offsets, Around of layer 14. -/
import Derived.Test.YtjndljjpbkfmiaaGreatDoorKz
import Derived.Test.YtjndljjpbkfmiaaGreatDoorZq
import Derived.Maps.AppendAt
import Derived.Test.YtjndljjpbkfmiaaGreatDoorK4u
import Derived.Deep.AppendLies
import Derived.Deep.RegionHeldLaw
namespace Go.Proofs.YtjndljjpbkfmiaaGreatDoor
open Go.RowKit
set_option linter.unusedVariables false
set_option linter.unusedSimpArgs false
set_option maxRecDepth 100000

set_option maxHeartbeats 1000000 in
theorem refCheckF (x y : Int) (sp : Option Addr) (n c : Nat) (w : World) : Calls Tryz.prog 25 #[.agg #[.int .i64 x, .int .i64 y, .slice sp n c]] w fun e w' => e = .returned (.int .i64 (fmE x y n)) ∧ w.grownBy w' none := by
  obtain ⟨W1, hW1, sz1, g1, B1⟩ := boxn w #[.int .i64 x, .int .i64 y, .slice sp n c] 33
  have b1_0 := B1.cell 0 (v := .int .i64 x) rfl
  have b1_1 := B1.cell 1 (v := .int .i64 y) rfl
  have b1_2 := B1.cell 2 (v := .slice sp n c) rfl
  by_cases h1 : x < 1
  · rw [show fmE x y n = 140 from if_neg (fun t => by omega)]
    go_enter Tryz.func25, Tryz.ntmps25
    go_wp2
    go_ret
    exact ⟨rfl, g1⟩
  · by_cases h2 : 65536 < x
    · rw [show fmE x y n = 140 from if_neg (fun t => by omega)]
      go_enter Tryz.func25, Tryz.ntmps25
      go_wp2
      go_ret
      exact ⟨rfl, g1⟩
    · by_cases h3 : y < 1
      · rw [show fmE x y n = 140 from if_neg (fun t => by omega)]
        go_enter Tryz.func25, Tryz.ntmps25
        go_wp2
        go_ret
        exact ⟨rfl, g1⟩
      · by_cases h4 : 65536 < y
        · rw [show fmE x y n = 140 from if_neg (fun t => by omega)]
          go_enter Tryz.func25, Tryz.ntmps25
          go_wp2
          go_ret
          exact ⟨rfl, g1⟩
        · have H1 : 1 ≤ x ∧ x ≤ 65536 := by omega
          have H2 : 1 ≤ y ∧ y ≤ 65536 := by omega
          obtain ⟨a, rfl⟩ := Int.eq_ofNat_of_zero_le (show 0 ≤ x by omega)
          obtain ⟨b, rfl⟩ := Int.eq_ofNat_of_zero_le (show 0 ≤ y by omega)
          have m1 : a * b ≤ 65536 * 65536 := Nat.mul_le_mul (by omega) (by omega)
          have m2 : (a + 2) * (b + 2) ≤ 65538 * 65538 := Nat.mul_le_mul (by omega) (by omega)
          have e1 : (a : Int) * (b : Int) = ((a * b : Nat) : Int) := by simp
          have e2 : ((a : Int) + 2) * ((b : Int) + 2) = (((a + 2) * (b + 2) : Nat) : Int) := by simp
          obtain ⟨p, hp⟩ : ∃ p, a * b = p := ⟨_, rfl⟩
          obtain ⟨q, hq⟩ : ∃ q, (a + 2) * (b + 2) = q := ⟨_, rfl⟩
          rw [hp] at m1 e1
          rw [hq] at m2 e2
          have w1 : IntKind.i64.wrap ((a : Int) * (b : Int)) = (p : Int) := by rw [e1, IntKind.wrap_i64]; omega
          have w2 : IntKind.i64.wrap (((a : Int) + 2) * ((b : Int) + 2)) = (q : Int) := by rw [e2, IntKind.wrap_i64]; omega
          have HE : Hid (fmE a b n = if (p : Int) ≤ 1048576 ∧ (n : Int) = q then 0 else 140) := by
            unfold Hid fmE
            rw [e1, e2]
            by_cases hh : (p : Int) ≤ 1048576 ∧ (n : Int) = q
            · rw [if_pos ⟨H1, H2, hh.1, hh.2⟩, if_pos hh]
            · rw [if_neg (fun t => hh ⟨t.2.2.1, t.2.2.2⟩), if_neg hh]
          clear hp hq e1 e2
          by_cases h5 : 1048576 < (p : Int)
          · rw [show fmE a b n = 140 by rw [HE.out, if_neg (by omega)]]
            go_enter Tryz.func25, Tryz.ntmps25
            go_wp2
            go_ret
            exact ⟨rfl, g1⟩
          · have h5' : decide (1048576 < (p : Int)) = false := decide_eq_false h5
            by_cases h6 : n = q
            · rw [show fmE a b n = 0 by rw [HE.out, if_pos (by omega)]]
              subst h6
              clear h5
              go_enter Tryz.func25, Tryz.ntmps25
              go_wp2
              go_ret
              exact ⟨rfl, g1⟩
            · rw [show fmE a b n = 140 by rw [HE.out, if_neg (by omega)]]
              have h6' : ((n : Int) != (q : Int)) = true := by simp; omega
              clear h5
              go_enter Tryz.func25, Tryz.ntmps25
              go_wp2
              go_ret
              exact ⟨rfl, g1⟩
theorem refOff1 (w : World) : Calls Tryz.prog 53 #[.int .u8 1] w fun e w' => ∃ b, e = .returned (.tuple #[.slice (some ⟨b, 0, none⟩) 8 8, .int .i64 0]) ∧ (∀ i, i < 8 → w'.cell? ⟨b, i * 2, none⟩ = some (.int .i64 (ofP 1 i).1) ∧ w'.cell? ⟨b, i * 2 + 1, none⟩ = some (.int .i64 (ofP 1 i).2)) ∧ w.heap.size ≤ b ∧ w.grownBy w' none := by
  go_enter Tryz.func53, Tryz.ntmps53
  go_wp2
  go_ret2
  refine ⟨w.heap.size, rfl, fun i hi => ?_, Nat.le_refl _, World.grownBy_alloc _ _ none⟩
  have B := Bo.new w 60 #[.int .i64 0, .int .i64 (-1), .int .i64 1, .int .i64 (-1), .int .i64 1, .int .i64 0, .int .i64 1, .int .i64 1, .int .i64 0, .int .i64 1, .int .i64 (-1), .int .i64 1, .int .i64 (-1), .int .i64 0, .int .i64 (-1), .int .i64 (-1)]
  match i, hi with
  | 0, _ => exact ⟨B.cell 0 rfl, B.cell 1 rfl⟩
  | 1, _ => exact ⟨B.cell 2 rfl, B.cell 3 rfl⟩
  | 2, _ => exact ⟨B.cell 4 rfl, B.cell 5 rfl⟩
  | 3, _ => exact ⟨B.cell 6 rfl, B.cell 7 rfl⟩
  | 4, _ => exact ⟨B.cell 8 rfl, B.cell 9 rfl⟩
  | 5, _ => exact ⟨B.cell 10 rfl, B.cell 11 rfl⟩
  | 6, _ => exact ⟨B.cell 12 rfl, B.cell 13 rfl⟩
  | 7, _ => exact ⟨B.cell 14 rfl, B.cell 15 rfl⟩
theorem refOff2 (w : World) : Calls Tryz.prog 53 #[.int .u8 2] w fun e w' => ∃ b, e = .returned (.tuple #[.slice (some ⟨b, 0, none⟩) 4 4, .int .i64 0]) ∧ (∀ i, i < 4 → w'.cell? ⟨b, i * 2, none⟩ = some (.int .i64 (ofP 2 i).1) ∧ w'.cell? ⟨b, i * 2 + 1, none⟩ = some (.int .i64 (ofP 2 i).2)) ∧ w.heap.size ≤ b ∧ w.grownBy w' none := by
  go_enter Tryz.func53, Tryz.ntmps53
  go_wp2
  go_ret2
  refine ⟨w.heap.size, rfl, fun i hi => ?_, Nat.le_refl _, World.grownBy_alloc _ _ none⟩
  have B := Bo.new w 60 #[.int .i64 0, .int .i64 (-1), .int .i64 1, .int .i64 0, .int .i64 0, .int .i64 1, .int .i64 (-1), .int .i64 0]
  match i, hi with
  | 0, _ => exact ⟨B.cell 0 rfl, B.cell 1 rfl⟩
  | 1, _ => exact ⟨B.cell 2 rfl, B.cell 3 rfl⟩
  | 2, _ => exact ⟨B.cell 4 rfl, B.cell 5 rfl⟩
  | 3, _ => exact ⟨B.cell 6 rfl, B.cell 7 rfl⟩
theorem refOff3 (w : World) : Calls Tryz.prog 53 #[.int .u8 3] w fun e w' => ∃ b, e = .returned (.tuple #[.slice (some ⟨b, 0, none⟩) 6 6, .int .i64 0]) ∧ (∀ i, i < 6 → w'.cell? ⟨b, i * 2, none⟩ = some (.int .i64 (ofP 3 i).1) ∧ w'.cell? ⟨b, i * 2 + 1, none⟩ = some (.int .i64 (ofP 3 i).2)) ∧ w.heap.size ≤ b ∧ w.grownBy w' none := by
  go_enter Tryz.func53, Tryz.ntmps53
  go_wp2
  go_ret2
  refine ⟨w.heap.size, rfl, fun i hi => ?_, Nat.le_refl _, World.grownBy_alloc _ _ none⟩
  have B := Bo.new w 60 #[.int .i64 0, .int .i64 (-1), .int .i64 1, .int .i64 0, .int .i64 1, .int .i64 1, .int .i64 0, .int .i64 1, .int .i64 (-1), .int .i64 0, .int .i64 (-1), .int .i64 (-1)]
  match i, hi with
  | 0, _ => exact ⟨B.cell 0 rfl, B.cell 1 rfl⟩
  | 1, _ => exact ⟨B.cell 2 rfl, B.cell 3 rfl⟩
  | 2, _ => exact ⟨B.cell 4 rfl, B.cell 5 rfl⟩
  | 3, _ => exact ⟨B.cell 6 rfl, B.cell 7 rfl⟩
  | 4, _ => exact ⟨B.cell 8 rfl, B.cell 9 rfl⟩
  | 5, _ => exact ⟨B.cell 10 rfl, B.cell 11 rfl⟩

theorem refOffN (h : Nat) (hn : ¬ (1 ≤ h ∧ h ≤ 3)) (w : World) : Calls Tryz.prog 53 #[.int .u8 (h : Nat)] w fun e w' => e = .returned (.tuple #[.slice none 0 0, .int .i64 70]) ∧ w.grownBy w' none := by
  have q1 : ((h : Int) == 1) = false := by simp; omega
  have q2 : ((h : Int) == 2) = false := by simp; omega
  have q3 : ((h : Int) == 3) = false := by simp; omega
  go_enter Tryz.func53, Tryz.ntmps53
  go_wp2
  go_ret2
  exact ⟨rfl, World.grownBy.refl _ _⟩
theorem refOffY (h : Nat) (h1 : 1 ≤ h) (h3 : h ≤ 3) (w : World) : Calls Tryz.prog 53 #[.int .u8 (h : Nat)] w fun e w' => ∃ b, e = .returned (.tuple #[.slice (some ⟨b, 0, none⟩) (ofN h) (ofN h), .int .i64 0]) ∧ (∀ i, i < ofN h → w'.cell? ⟨b, i * 2, none⟩ = some (.int .i64 (ofP h i).1) ∧ w'.cell? ⟨b, i * 2 + 1, none⟩ = some (.int .i64 (ofP h i).2)) ∧ w.heap.size ≤ b ∧ w.grownBy w' none := by
  obtain rfl | rfl | rfl : h = 1 ∨ h = 2 ∨ h = 3 := by omega
  · exact refOff1 w
  · exact refOff2 w
  · exact refOff3 w
/-- The state of a place in a frame. -/
theorem refAtC {C R : Nat} (hC : C ≤ 65536) (sp : Option Addr) (n c : Nat) (f : Nat → Nat) (u v : Int) (hu : -1 ≤ u ∧ u ≤ 65536) (hv : -1 ≤ v ∧ v ≤ 65536) (hi : ixN C u v < n) (w : World) (hb : By w sp n f) :
    Calls Tryz.prog 54 #[.agg #[.int .i64 (C : Nat), .int .i64 (R : Nat), .slice sp n c], .int .i64 u, .int .i64 v] w fun e w' => e = .returned (.int .u8 (f (ixN C u v) : Nat)) ∧ w.grownBy w' none := by
  obtain ⟨a, ha⟩ := hb.some (by omega)
  subst ha
  obtain ⟨W1, hW1, sz1, g1, B1⟩ := boxn w #[.int .i64 (C : Nat), .int .i64 (R : Nat), .slice (some a) n c] 33
  have b1_0 := B1.cell 0 (v := .int .i64 (C : Nat)) rfl
  have b1_1 := B1.cell 1 (v := .int .i64 (R : Nat)) rfl
  have b1_2 := B1.cell 2 (v := .slice (some a) n c) rfl
  have hbc := (hb.kept g1 (by simp)).at hi
  have hm := ix_mul hC hv.1 hv.2
  have HX : Hid (((ixN C u v : Nat) : Int) = (v + 1) * (C + 2) + u + 1) := ix_int hu.1 hv.1
  have hw : IntKind.i64.wrap ((v + 1) * ((C : Int) + 2)) = (v + 1) * ((C : Int) + 2) := by rw [IntKind.wrap_i64]; omega
  obtain ⟨P, hP⟩ : ∃ P, (v + 1) * ((C : Int) + 2) = P := ⟨_, rfl⟩
  rw [hP] at hm hw
  have hX : ((ixN C u v : Nat) : Int) = P + u + 1 := by rw [HX.out, ← hP]
  clear HX
  obtain ⟨ip, hip⟩ : ∃ ip, ixN C u v = ip := ⟨_, rfl⟩
  rw [hip] at hX hi hbc ⊢
  have hX' : P + u + 1 = (ip : Int) := hX.symm
  have hz0 : (0 : Int) ≤ (ip : Int) := by omega
  have hz1 : (ip : Int) < (n : Int) := by omega
  have hwp : IntKind.i64.wrap (P + u) = P + u := by rw [IntKind.wrap_i64]; omega
  have hwq : IntKind.i64.wrap (P + u + 1) = (ip : Int) := by rw [IntKind.wrap_i64]; omega
  have hwr : IntKind.i64.wrap (v + 1) = v + 1 := by rw [IntKind.wrap_i64]; omega
  clear hX hip
  go_enter Tryz.func54, Tryz.ntmps54
  go_wp2
  go_ret
  exact ⟨rfl, g1⟩
end Go.Proofs.YtjndljjpbkfmiaaGreatDoor
namespace Go.Proofs.YtjndljjpbkfmiaaGreatDoor
open Go.RowKit
set_option linter.unusedVariables false
set_option linter.unusedSimpArgs false
set_option maxRecDepth 100000

set_option maxHeartbeats 1000000 in
theorem around1 (x y u v : Int) (h : Nat) (sp : Option Addr) (n c : Nat) (hE : fmE x y n = 140) (w : World) : Calls Tryz.prog 24 #[.agg #[.int .i64 x, .int .i64 y, .slice sp n c], .int .u8 (h : Nat), .int .i64 u, .int .i64 v] w fun e w' => e = .returned (.tuple #[.slice none 0 0, .int .i64 140]) ∧ w.grownBy w' none := by
  obtain ⟨W1, hW1, sz1, g1, B1⟩ := boxn w #[.int .i64 x, .int .i64 y, .slice sp n c] 33
  have b1_0 := B1.cell 0 (v := .int .i64 x) rfl
  have b1_1 := B1.cell 1 (v := .int .i64 y) rfl
  have b1_2 := B1.cell 2 (v := .slice sp n c) rfl
  have hc := checkF x y sp n c W1
  rw [hE] at hc
  go_enter Tryz.func24, Tryz.ntmps24
  go_wp2_with (go_at_call 23; refine hc.mono ?_; rintro e V1 ⟨rfl, g2⟩)
  go_ret2
  exact ⟨rfl, gb_trans g1 g2⟩
set_option maxHeartbeats 1000000 in
theorem around2 (x y u v : Int) (h : Nat) (h255 : h ≤ 255) (hn : ¬ (1 ≤ h ∧ h ≤ 3)) (sp : Option Addr) (n c : Nat) (hE : fmE x y n = 0) (w : World) : Calls Tryz.prog 24 #[.agg #[.int .i64 x, .int .i64 y, .slice sp n c], .int .u8 (h : Nat), .int .i64 u, .int .i64 v] w fun e w' => e = .returned (.tuple #[.slice none 0 0, .int .i64 70]) ∧ w.grownBy w' none := by
  obtain ⟨W1, hW1, sz1, g1, B1⟩ := boxn w #[.int .i64 x, .int .i64 y, .slice sp n c] 33
  have b1_0 := B1.cell 0 (v := .int .i64 x) rfl
  have b1_1 := B1.cell 1 (v := .int .i64 y) rfl
  have b1_2 := B1.cell 2 (v := .slice sp n c) rfl
  have hc := checkF x y sp n c W1
  rw [hE] at hc
  by_cases h0 : h < 1
  · have q1 : (h : Int) < 1 := by omega
    go_enter Tryz.func24, Tryz.ntmps24
    go_wp2_with (go_at_call 23; refine hc.mono ?_; rintro e V1 ⟨rfl, g2⟩)
    go_ret2
    exact ⟨rfl, gb_trans g1 g2⟩
  · have q1 : ¬ (h : Int) < 1 := by omega
    have q2 : (4 : Int) ≤ (h : Int) := by omega
    go_enter Tryz.func24, Tryz.ntmps24
    go_wp2_with (go_at_call 23; refine hc.mono ?_; rintro e V1 ⟨rfl, g2⟩)
    go_ret2
    exact ⟨rfl, gb_trans g1 g2⟩
set_option maxHeartbeats 1000000 in
theorem around3 (x y u v : Int) (h : Nat) (h1 : 1 ≤ h) (h3 : h ≤ 3) (sp : Option Addr) (n c : Nat) (hE : fmE x y n = 0) (hp : ¬ (0 ≤ u ∧ u < x ∧ 0 ≤ v ∧ v < y)) (w : World) : Calls Tryz.prog 24 #[.agg #[.int .i64 x, .int .i64 y, .slice sp n c], .int .u8 (h : Nat), .int .i64 u, .int .i64 v] w fun e w' => e = .returned (.tuple #[.slice none 0 0, .int .i64 130]) ∧ w.grownBy w' none := by
  obtain ⟨W1, hW1, sz1, g1, B1⟩ := boxn w #[.int .i64 x, .int .i64 y, .slice sp n c] 33
  have b1_0 := B1.cell 0 (v := .int .i64 x) rfl
  have b1_1 := B1.cell 1 (v := .int .i64 y) rfl
  have b1_2 := B1.cell 2 (v := .slice sp n c) rfl
  have hc := checkF x y sp n c W1
  rw [hE] at hc
  have q1 : ¬ (h : Int) < 1 := by omega
  have q2 : ¬ (4 : Int) ≤ (h : Int) := by omega
  by_cases p0 : u < 0
  · clear hp
    go_enter Tryz.func24, Tryz.ntmps24
    go_wp2_with (first | (go_at_call 23; refine hc.mono ?_; rintro e V1 ⟨rfl, g2⟩; have B2 := B1.kept g2 (by simp); have b2_0 := B2.cell 0 (v := .int .i64 x) rfl; have b2_1 := B2.cell 1 (v := .int .i64 y) rfl; have b2_2 := B2.cell 2 (v := .slice sp n c) rfl))
    go_ret2
    exact ⟨rfl, gb_trans g1 g2⟩
  · have d0 : decide (u < 0) = false := decide_eq_false p0
    by_cases p1 : x ≤ u
    · clear hp
      go_enter Tryz.func24, Tryz.ntmps24
      go_wp2_with (first | (go_at_call 23; refine hc.mono ?_; rintro e V1 ⟨rfl, g2⟩; have B2 := B1.kept g2 (by simp); have b2_0 := B2.cell 0 (v := .int .i64 x) rfl; have b2_1 := B2.cell 1 (v := .int .i64 y) rfl; have b2_2 := B2.cell 2 (v := .slice sp n c) rfl))
      go_ret2
      exact ⟨rfl, gb_trans g1 g2⟩
    · have d1 : decide (x ≤ u) = false := decide_eq_false p1
      by_cases p2 : v < 0
      · clear hp
        go_enter Tryz.func24, Tryz.ntmps24
        go_wp2_with (first | (go_at_call 23; refine hc.mono ?_; rintro e V1 ⟨rfl, g2⟩; have B2 := B1.kept g2 (by simp); have b2_0 := B2.cell 0 (v := .int .i64 x) rfl; have b2_1 := B2.cell 1 (v := .int .i64 y) rfl; have b2_2 := B2.cell 2 (v := .slice sp n c) rfl))
        go_ret2
        exact ⟨rfl, gb_trans g1 g2⟩
      · have d2 : decide (v < 0) = false := decide_eq_false p2
        by_cases p3 : y ≤ v
        · clear hp
          go_enter Tryz.func24, Tryz.ntmps24
          go_wp2_with (first | (go_at_call 23; refine hc.mono ?_; rintro e V1 ⟨rfl, g2⟩; have B2 := B1.kept g2 (by simp); have b2_0 := B2.cell 0 (v := .int .i64 x) rfl; have b2_1 := B2.cell 1 (v := .int .i64 y) rfl; have b2_2 := B2.cell 2 (v := .slice sp n c) rfl))
          go_ret2
          exact ⟨rfl, gb_trans g1 g2⟩
        · have d3 : decide (y ≤ v) = false := decide_eq_false p3
          exact absurd (by omega) hp

set_option maxHeartbeats 1000000 in
theorem refAround1 (x y u v : Int) (h : Nat) (sp : Option Addr) (n c : Nat) (hE : fmE x y n = 140) (w : World) : Calls Tryz.prog 22 #[.agg #[.int .i64 x, .int .i64 y, .slice sp n c], .int .u8 (h : Nat), .int .i64 u, .int .i64 v] w fun e w' => e = .returned (.tuple #[.slice none 0 0, .int .i64 140]) ∧ w.grownBy w' none := by
  obtain ⟨W1, hW1, sz1, g1, B1⟩ := boxn w #[.int .i64 x, .int .i64 y, .slice sp n c] 33
  have b1_0 := B1.cell 0 (v := .int .i64 x) rfl
  have b1_1 := B1.cell 1 (v := .int .i64 y) rfl
  have b1_2 := B1.cell 2 (v := .slice sp n c) rfl
  have hc := refCheckF x y sp n c W1
  rw [hE] at hc
  go_enter Tryz.func22, Tryz.ntmps22
  go_wp2_with (go_at_call 25; refine hc.mono ?_; rintro e V1 ⟨rfl, g2⟩)
  go_ret2
  exact ⟨rfl, gb_trans g1 g2⟩
set_option maxHeartbeats 1000000 in
theorem refAround2 (x y u v : Int) (h : Nat) (h255 : h ≤ 255) (hn : ¬ (1 ≤ h ∧ h ≤ 3)) (sp : Option Addr) (n c : Nat) (hE : fmE x y n = 0) (w : World) : Calls Tryz.prog 22 #[.agg #[.int .i64 x, .int .i64 y, .slice sp n c], .int .u8 (h : Nat), .int .i64 u, .int .i64 v] w fun e w' => e = .returned (.tuple #[.slice none 0 0, .int .i64 70]) ∧ w.grownBy w' none := by
  obtain ⟨W1, hW1, sz1, g1, B1⟩ := boxn w #[.int .i64 x, .int .i64 y, .slice sp n c] 33
  have b1_0 := B1.cell 0 (v := .int .i64 x) rfl
  have b1_1 := B1.cell 1 (v := .int .i64 y) rfl
  have b1_2 := B1.cell 2 (v := .slice sp n c) rfl
  have hc := refCheckF x y sp n c W1
  rw [hE] at hc
  have ho := fun w => refOffN h hn w
  go_enter Tryz.func22, Tryz.ntmps22
  go_wp2_with (first | (go_at_call 25; refine hc.mono ?_; rintro e V1 ⟨rfl, g2⟩) | (go_at_call 53; refine (ho V1).mono ?_; rintro e V2 ⟨rfl, g3⟩))
  go_ret2
  exact ⟨rfl, gb_trans g1 (gb_trans g2 g3)⟩
set_option maxHeartbeats 1000000 in
theorem refAround3 (x y u v : Int) (h : Nat) (h1 : 1 ≤ h) (h3 : h ≤ 3) (sp : Option Addr) (n c : Nat) (hE : fmE x y n = 0) (hp : ¬ (0 ≤ u ∧ u < x ∧ 0 ≤ v ∧ v < y)) (w : World) : Calls Tryz.prog 22 #[.agg #[.int .i64 x, .int .i64 y, .slice sp n c], .int .u8 (h : Nat), .int .i64 u, .int .i64 v] w fun e w' => e = .returned (.tuple #[.slice none 0 0, .int .i64 130]) ∧ w.grownBy w' none := by
  obtain ⟨W1, hW1, sz1, g1, B1⟩ := boxn w #[.int .i64 x, .int .i64 y, .slice sp n c] 33
  have b1_0 := B1.cell 0 (v := .int .i64 x) rfl
  have b1_1 := B1.cell 1 (v := .int .i64 y) rfl
  have b1_2 := B1.cell 2 (v := .slice sp n c) rfl
  have hc := refCheckF x y sp n c W1
  rw [hE] at hc
  have ho := fun w => refOffY h h1 h3 w
  by_cases p0 : u < 0
  · clear hp
    go_enter Tryz.func22, Tryz.ntmps22
    go_wp2_with (first | (go_at_call 25; refine hc.mono ?_; rintro e V1 ⟨rfl, g2⟩; have B2 := B1.kept g2 (by simp); have b2_0 := B2.cell 0 (v := .int .i64 x) rfl; have b2_1 := B2.cell 1 (v := .int .i64 y) rfl; have b2_2 := B2.cell 2 (v := .slice sp n c) rfl) | (go_at_call 53; refine (ho V1).mono ?_; rintro e V2 ⟨b, rfl, _, _, g3⟩; have B3 := B2.kept g3 (by simp); have b3_0 := B3.cell 0 (v := .int .i64 x) rfl; have b3_1 := B3.cell 1 (v := .int .i64 y) rfl; have b3_2 := B3.cell 2 (v := .slice sp n c) rfl))
    go_ret2
    exact ⟨rfl, gb_trans g1 (gb_trans g2 g3)⟩
  · have d0 : decide (u < 0) = false := decide_eq_false p0
    by_cases p1 : x ≤ u
    · clear hp
      go_enter Tryz.func22, Tryz.ntmps22
      go_wp2_with (first | (go_at_call 25; refine hc.mono ?_; rintro e V1 ⟨rfl, g2⟩; have B2 := B1.kept g2 (by simp); have b2_0 := B2.cell 0 (v := .int .i64 x) rfl; have b2_1 := B2.cell 1 (v := .int .i64 y) rfl; have b2_2 := B2.cell 2 (v := .slice sp n c) rfl) | (go_at_call 53; refine (ho V1).mono ?_; rintro e V2 ⟨b, rfl, _, _, g3⟩; have B3 := B2.kept g3 (by simp); have b3_0 := B3.cell 0 (v := .int .i64 x) rfl; have b3_1 := B3.cell 1 (v := .int .i64 y) rfl; have b3_2 := B3.cell 2 (v := .slice sp n c) rfl))
      go_ret2
      exact ⟨rfl, gb_trans g1 (gb_trans g2 g3)⟩
    · have d1 : decide (x ≤ u) = false := decide_eq_false p1
      by_cases p2 : v < 0
      · clear hp
        go_enter Tryz.func22, Tryz.ntmps22
        go_wp2_with (first | (go_at_call 25; refine hc.mono ?_; rintro e V1 ⟨rfl, g2⟩; have B2 := B1.kept g2 (by simp); have b2_0 := B2.cell 0 (v := .int .i64 x) rfl; have b2_1 := B2.cell 1 (v := .int .i64 y) rfl; have b2_2 := B2.cell 2 (v := .slice sp n c) rfl) | (go_at_call 53; refine (ho V1).mono ?_; rintro e V2 ⟨b, rfl, _, _, g3⟩; have B3 := B2.kept g3 (by simp); have b3_0 := B3.cell 0 (v := .int .i64 x) rfl; have b3_1 := B3.cell 1 (v := .int .i64 y) rfl; have b3_2 := B3.cell 2 (v := .slice sp n c) rfl))
        go_ret2
        exact ⟨rfl, gb_trans g1 (gb_trans g2 g3)⟩
      · have d2 : decide (v < 0) = false := decide_eq_false p2
        by_cases p3 : y ≤ v
        · clear hp
          go_enter Tryz.func22, Tryz.ntmps22
          go_wp2_with (first | (go_at_call 25; refine hc.mono ?_; rintro e V1 ⟨rfl, g2⟩; have B2 := B1.kept g2 (by simp); have b2_0 := B2.cell 0 (v := .int .i64 x) rfl; have b2_1 := B2.cell 1 (v := .int .i64 y) rfl; have b2_2 := B2.cell 2 (v := .slice sp n c) rfl) | (go_at_call 53; refine (ho V1).mono ?_; rintro e V2 ⟨b, rfl, _, _, g3⟩; have B3 := B2.kept g3 (by simp); have b3_0 := B3.cell 0 (v := .int .i64 x) rfl; have b3_1 := B3.cell 1 (v := .int .i64 y) rfl; have b3_2 := B3.cell 2 (v := .slice sp n c) rfl))
          go_ret2
          exact ⟨rfl, gb_trans g1 (gb_trans g2 g3)⟩
        · have d3 : decide (y ≤ v) = false := decide_eq_false p3
          exact absurd (by omega) hp

theorem new1 (w : World) (v : Value) : ∀ (l : Nat) (u : Value), [v][l]? = some u → (w.alloc (.cells #[v] 5)).cell? ((⟨w.heap.size, 0, none⟩ : Addr).add l) = some u := fun l u h => by
  match l, h with
  | 0, h =>
    cases h
    exact (Bo.new w 5 #[v]).cell 0 rfl
theorem own_mono {w : World} {base base' : Nat} {e : TypeId} {size : Nat} {v : Value} {n : Nat} {xs : List Value} (h : w.ownsRow base e size v n xs) (hb : base' ≤ base) : w.ownsRow base' e size v n xs :=
  ⟨h.1, h.2.imp id fun ⟨g, cap, cur, h1, h2, h3⟩ => ⟨g, cap, cur, h1, Nat.le_trans hb h2, h3⟩⟩
theorem bysV_succ (f : Nat → Nat) (m : Nat) : bysV f (m + 1) = bysV f m ++ [.int .u8 (f m : Nat)] := by simp [bysV, List.range_succ]
set_option maxHeartbeats 1000000 in
theorem refAroundY {C R : Nat} (hC : 1 ≤ C ∧ C ≤ 65536) (hR : 1 ≤ R ∧ R ≤ 65536) (sp : Option Addr) (n c : Nat) (hn : n = (C + 2) * (R + 2)) (hE : fmE C R n = 0) (f : Nat → Nat) (h x y : Nat) (h1 : 1 ≤ h) (h3 : h ≤ 3) (hx : x < C) (hy : y < R) (w : World) (hb : By w sp n f) :
    Calls Tryz.prog 22 #[.agg #[.int .i64 (C : Nat), .int .i64 (R : Nat), .slice sp n c], .int .u8 (h : Nat), .int .i64 (x : Nat), .int .i64 (y : Nat)] w fun e w' => ∃ v, e = .returned (.tuple #[v, .int .i64 0]) ∧ w'.ownsRow w.heap.size 5 1 v (ofN h) (bysV (fun i => f (ixN C (x + (ofP h i).1) (y + (ofP h i).2))) (ofN h)) ∧ w.grownBy w' none := by
  obtain ⟨a, ha⟩ := hb.some (by rw [hn]; exact Nat.mul_pos (by omega) (by omega))
  subst ha
  obtain ⟨i8, HI8⟩ : ∃ i, Hid (Tryz.prog.info? 5 = some i ∧ i.zero = some (.int .u8 0) ∧ i.size = 1 ∧ i.bytes = 1) := by
    obtain ⟨i, h1, h2, h3, h4⟩ := info_parts info8
    exact ⟨i, h1, h2, h3, h4⟩
  obtain ⟨W1, hW1, sz1, g1, B1⟩ := boxn w #[.int .i64 (C : Nat), .int .i64 (R : Nat), .slice (some a) n c] 33
  have b1_0 := B1.cell 0 (v := .int .i64 (C : Nat)) rfl
  have b1_1 := B1.cell 1 (v := .int .i64 (R : Nat)) rfl
  have b1_2 := B1.cell 2 (v := .slice (some a) n c) rfl
  have hc := refCheckF C R (some a) n c W1
  rw [hE] at hc
  have ho := fun w => refOffY h h1 h3 w
  have hh3 : decide ((x : Int) < 0) = false := decide_eq_false (by omega)
  have hh4 : decide ((y : Int) < 0) = false := decide_eq_false (by omega)
  have hx' : decide (C ≤ x) = false := decide_eq_false (by omega)
  have hy' : decide (R ≤ y) = false := decide_eq_false (by omega)
  have hle := ofN_le h
  obtain ⟨m, hm⟩ : ∃ m, ofN h = m := ⟨_, rfl⟩
  rw [hm] at hle ho ⊢
  have HN : Hid (n = (C + 2) * (R + 2)) := hn
  clear hn
  obtain ⟨F, hF⟩ : ∃ F : Nat → Nat, (fun i => f (ixN C (x + (ofP h i).1) (y + (ofP h i).2))) = F := ⟨_, rfl⟩
  rw [hF]
  have HF : Hid (∀ i, F i = f (ixN C (x + (ofP h i).1) (y + (ofP h i).2))) := by intro i; rw [← hF]
  clear hF
  go_enter Tryz.func22, Tryz.ntmps22
  go_wp2_with (first | (go_at_call 25; refine hc.mono ?_; rintro e V1 ⟨rfl, g2⟩; have B2 := B1.kept g2 (by simp); have b2_0 := B2.cell 0 (v := .int .i64 (C : Nat)) rfl; have b2_1 := B2.cell 1 (v := .int .i64 (R : Nat)) rfl; have b2_2 := B2.cell 2 (v := .slice (some a) n c) rfl) | (go_at_call 53; refine (ho V1).mono ?_; rintro e V2 ⟨ob, rfl, hob, lob, g3⟩; have B3 := B2.kept g3 (by simp); have b3_0 := B3.cell 0 (v := .int .i64 (C : Nat)) rfl; have b3_1 := B3.cell 1 (v := .int .i64 (R : Nat)) rfl; have b3_2 := B3.cell 2 (v := .slice (some a) n c) rfl))
  have G3 := gb_trans g1 (gb_trans g2 g3)
  go_loopw [14, 13] (fun i o wr => ∃ (q : Nat) (ov : Value), ov = o ∧ q ≤ m ∧ i = .int .i64 (q : Nat) ∧ wr.ownsRow V2.heap.size 5 1 ov q (bysV F q) ∧ V2.grownBy wr none) (fun i _ _ => m - (intOf i).toNat)
  case atStart => exact ⟨0, _, rfl, Nat.zero_le _, rfl, World.ownsRow_nil _ _ _ _, World.grownBy.refl _ _⟩
  case round =>
    obtain ⟨q, ov, rfl, hq, rfl, hown, gw⟩ := hrel
    by_cases hlt : q < m
    · have hi1 : (q : Int) < (m : Int) := by omega
      have hq0 : (0 : Int) ≤ (q : Int) := by omega
      have bd := ofP_bd h q
      have hixn := ix_lt (C := C) (R := R) (u := x + (ofP h q).1) (v := y + (ofP h q).2) (by omega) (by omega)
      rw [← HN.out] at hixn
      have Gw := gb_trans G3 gw
      have hbw := hb.kept Gw (by simp)
      have k1 := gw.cell (hob q hlt).1 (by simp)
      have k2 := gw.cell (hob q hlt).2 (by simp)
      have hat := fun (X : World) (hX : wr.grownBy X none) => refAtC (R := R) hC.2 (some a) n c f (x + (ofP h q).1) (y + (ofP h q).2) (by omega) (by omega) hixn X (hbw.kept hX (by simp))
      rw [← HF.out q] at hat
      obtain ⟨px, hpx⟩ : ∃ v, (ofP h q).1 = v := ⟨_, rfl⟩
      obtain ⟨py, hpy⟩ : ∃ v, (ofP h q).2 = v := ⟨_, rfl⟩
      rw [hpx] at k1 hat bd
      rw [hpy] at k2 hat bd
      clear hpx hpy hixn
      have y2 : IntKind.i64.wrap ((x : Int) + px) = (x : Int) + px := by rw [IntKind.wrap_i64]; omega
      have y3 : IntKind.i64.wrap ((y : Int) + py) = (y : Int) + py := by rw [IntKind.wrap_i64]; omega
      have B5 := B3.kept gw (by simp)
      have b5_0 := B5.cell 0 (v := .int .i64 (C : Nat)) rfl
      have b5_1 := B5.cell 1 (v := .int .i64 (R : Nat)) rfl
      have b5_2 := B5.cell 2 (v := .slice (some a) n c) rfl
      have hatd := hat wr.drew (gb_drew (World.grownBy.refl _ _))
      have k1d : wr.drew.cell? ⟨ob, q * 2, none⟩ = some (.int .i64 px) := k1
      have k2d : wr.drew.cell? ⟨ob, q * 2 + 1, none⟩ = some (.int .i64 py) := k2
      have B5d := B5.dr
      have lobk : ob < V2.heap.size := cell_lt (hob q hlt).1
      have lbk : w.heap.size < V2.heap.size := B3.lt
      have hownd : wr.drew.ownsRow V2.heap.size 5 1 ov q (bysV F q) := hown
      have hsz : V2.heap.size ≤ wr.heap.size := gw.size
      obtain ⟨fq, hfq⟩ : ∃ v, F q = v := ⟨_, rfl⟩
      rw [hfq] at hatd
      have HFQ : Hid (F q = fq) := hfq
      clear hfq hat
      go_wp2
      go_region_held_law (fun w' => w'.cell? ⟨ob, q * 2, none⟩ = some (.int .i64 px) ∧ w'.cell? ⟨ob, q * 2 + 1, none⟩ = some (.int .i64 py) ∧ w'.cell? ⟨w.heap.size, 0, none⟩ = some (.int .i64 (C : Nat)) ∧ w'.cell? ⟨w.heap.size, 1, none⟩ = some (.int .i64 (R : Nat)) ∧ w'.cell? ⟨w.heap.size, 2, none⟩ = some (.slice (some a) n c)) (go_keep) (first | (go_at_call 54; refine hatd.mono ?_; rintro e X1 ⟨rfl, gX⟩; have z1 := gX.cell k1d (by simp); have z2 := gX.cell k2d (by simp); have BX := B5d.kept gX (by simp); have bX_0 := BX.cell 0 (v := .int .i64 (C : Nat)) rfl; have bX_1 := BX.cell 1 (v := .int .i64 (R : Nat)) rfl; have bX_2 := BX.cell 2 (v := .slice (some a) n c) rfl; obtain ⟨X2, hX2⟩ : ∃ X2, X1.alloc (.cells #[.int .u8 (fq : Nat)] 5) = X2 := ⟨_, rfl⟩; have gX2 : X1.grownBy X2 none := (by rw [← hX2]; exact World.grownBy_alloc _ _ _); have z3 := gX2.cell z1 (by simp); have z4 := gX2.cell z2 (by simp); have BX2 := BX.kept gX2 (by simp); have bY_0 := BX2.cell 0 (v := .int .i64 (C : Nat)) rfl; have bY_1 := BX2.cell 1 (v := .int .i64 (R : Nat)) rfl; have bY_2 := BX2.cell 2 (v := .slice (some a) n c) rfl; have nX : ∀ l u, [Value.int .u8 (fq : Nat)][l]? = some u → X2.cell? ((⟨X1.heap.size, 0, none⟩ : Addr).add l) = some u := (by rw [← hX2]; exact new1 X1 _); have own2 := (hownd.kept gX (Classical.em _)).kept gX2 (Classical.em _); have sX : V2.heap.size ≤ X2.heap.size := Nat.le_trans hsz (Nat.le_trans gX.size gX2.size)) | (refine step_append_lies _ rfl (.tmp 51) (.tmp 68) 24 rfl V2.heap.size 5 i8 (.int .u8 0) 1 1 under8S HI8.out.1 HI8.out.2.1 HI8.out.2.2.1 HI8.out.2.2.2 rfl (by decide) _ q (bysV F q) rfl own2 ⟨X1.heap.size, 0, none⟩ 1 1 [.int .u8 (fq : Nat)] rfl rfl nX (by intro u hu; simp at hu; subst hu; rfl) (by decide) (by unfold maxLen; omega) (by omega) sX _ rfl ?_; intro g6 c6 w' own' g' at' lt'; have z5 := g'.cell z3 (fun e => Nat.not_le_of_lt lobk (own2.lt ob e.symm).1); have z6 := g'.cell z4 (fun e => Nat.not_le_of_lt lobk (own2.lt ob e.symm).1); have BX3 := BX2.kept g' (fun e => Nat.not_le_of_lt lbk (own2.lt w.heap.size e.symm).1); have bZ_0 := BX3.cell 0 (v := .int .i64 (C : Nat)) rfl; have bZ_1 := BX3.cell 1 (v := .int .i64 (R : Nat)) rfl; have bZ_2 := BX3.cell 2 (v := .slice (some a) n c) rfl))
      go_wp2
      go_roundw
      case rel =>
        refine ⟨q + 1, _, rfl, hlt, by go_num, ?_, ?_⟩
        · rw [bysV_succ, HFQ.out]; exact own'
        · exact gb_beyond (gb_trans (gb_trans (gb_drew gw) gX) gX2) g' (fun i e => (own2.lt _ e).1)
      case measure => simp [intOf]; omega
    · obtain rfl : q = m := by omega
      go_wp2
      go_ret2
      exact ⟨ov, rfl, own_mono hown G3.size, gb_trans G3 gw⟩
end Go.Proofs.YtjndljjpbkfmiaaGreatDoor
namespace Go.Proofs.YtjndljjpbkfmiaaGreatDoor
open Go.RowKit
set_option linter.unusedVariables false
set_option linter.unusedSimpArgs false
set_option maxRecDepth 100000

/-- A row of bytes of one's own, as it lies. -/
theorem row_own {w : World} {base d m cap : Nat} {f : Nat → Nat} {F : Nat → Value} (hb : base ≤ d) (hc : m ≤ cap) (hx : cap ≤ maxLen) (h : w.rowIs d 5 cap F) (hF : ∀ k, k < m → F k = .int .u8 (f k : Nat)) : w.ownsRow base 5 1 (.slice (some ⟨d, 0, none⟩) m cap) m (bysV f m) := by
  obtain ⟨c, h1, h2, h3⟩ := h
  refine ⟨by rw [bysV_len, Nat.mul_one], .inr ⟨d, cap, c, rfl, hb, h1, hc, hx, by rw [h2, Nat.mul_one], ?_⟩⟩
  rw [Nat.mul_one]
  apply List.ext_getElem?
  intro i
  by_cases hi : i < m
  · rw [List.getElem?_take_of_lt hi]
    have := h3 i (by omega)
    rw [hF i hi] at this
    simp only [bysV, List.getElem?_map, List.getElem?_range hi, Option.map_some]
    simpa using this
  · rw [List.getElem?_eq_none (by simp; omega), List.getElem?_eq_none (by rw [bysV_len]; omega)]
theorem own_rows {w : World} {base m : Nat} {v : Value} {f : Nat → Nat} (h : w.ownsRow base 5 1 v m (bysV f m)) : (v = .slice none 0 0 ∧ m = 0) ∨ ∃ d cap F, v = .slice (some ⟨d, 0, none⟩) m cap ∧ base ≤ d ∧ m ≤ cap ∧ cap ≤ maxLen ∧ w.rowIs d 5 cap F ∧ ∀ k, k < m → F k = .int .u8 (f k : Nat) := by
  rcases h.2 with h0 | ⟨g, cap, cur, h1, h2, h3, h4, h5, h6, h7⟩
  · exact .inl h0
  · refine .inr ⟨g, cap, fun k => cur[k]?.getD (.int .u8 0), h1, h2, h4, h5, ⟨cur, h3, by omega, fun i hi => ?_⟩, fun k hk => ?_⟩
    · show cur[i]? = some (cur[i]?.getD (.int .u8 0))
      rw [Array.getElem?_eq_getElem (show i < cur.size by omega)]; rfl
    · have e := congrArg (fun l => l[k]?) h7
      simp only [Nat.mul_one] at e
      rw [List.getElem?_take_of_lt hk] at e
      simp only [bysV, List.getElem?_map, List.getElem?_range hk, Option.map_some] at e
      have e2 : cur[k]? = some (.int .u8 (f k : Nat)) := by simpa using e
      show cur[k]?.getD (.int .u8 0) = _
      rw [e2]; rfl
theorem own_by {w : World} {base m : Nat} {v : Value} {f : Nat → Nat} (h : w.ownsRow base 5 1 v m (bysV f m)) : ∃ p c, v = .slice p m c ∧ By w p m f ∧ (∀ a, p = some a → v.ownBlock = some a.block) ∧ m ≤ c := by
  rcases own_rows h with ⟨rfl, rfl⟩ | ⟨d, cap, F, rfl, h1, h2, h3, h4, h5⟩
  · exact ⟨none, 0, rfl, fun k hk => absurd hk (Nat.not_lt_zero _), fun a e => (by cases e), Nat.le_refl _⟩
  · refine ⟨_, cap, rfl, fun k hk => ⟨_, rfl, ?_⟩, fun a e => (by cases e; rfl), h2⟩
    rw [add_mid, Nat.zero_add, ← h5 k hk]
    exact h4.cell (by omega)
/-- **What both Arounds answer.** -/
theorem aroundAll (x y u v : Int) (h : Nat) (h255 : h ≤ 255) (n : Nat) (f : Nat → Nat) (h256 : ∀ i, f i < 256) : ∃ (m : Nat) (F : Nat → Nat) (E : Int), m ≤ 8 ∧ (∀ i, F i < 256) ∧
    (∀ sp c w, By w sp n f → Tab w → Calls Tryz.prog 24 #[.agg #[.int .i64 x, .int .i64 y, .slice sp n c], .int .u8 (h : Nat), .int .i64 u, .int .i64 v] w fun e w' => ∃ r, e = .returned (.tuple #[r, .int .i64 E]) ∧ w'.ownsRow w.heap.size 5 1 r m (bysV F m) ∧ w.grownBy w' none) ∧
    (∀ sp c w, By w sp n f → Calls Tryz.prog 22 #[.agg #[.int .i64 x, .int .i64 y, .slice sp n c], .int .u8 (h : Nat), .int .i64 u, .int .i64 v] w fun e w' => ∃ r, e = .returned (.tuple #[r, .int .i64 E]) ∧ w'.ownsRow w.heap.size 5 1 r m (bysV F m) ∧ w.grownBy w' none) := by
  have nilC : ∀ (E : Int) (P Q : Prop → Prop), True := fun _ _ _ => trivial
  have err : ∀ E : Int, (∀ sp c w, Calls Tryz.prog 24 #[.agg #[.int .i64 x, .int .i64 y, .slice sp n c], .int .u8 (h : Nat), .int .i64 u, .int .i64 v] w fun e w' => e = .returned (.tuple #[.slice none 0 0, .int .i64 E]) ∧ w.grownBy w' none) → (∀ sp c w, Calls Tryz.prog 22 #[.agg #[.int .i64 x, .int .i64 y, .slice sp n c], .int .u8 (h : Nat), .int .i64 u, .int .i64 v] w fun e w' => e = .returned (.tuple #[.slice none 0 0, .int .i64 E]) ∧ w.grownBy w' none) → _ := fun E hp hd => (⟨0, fun _ => 0, E, by decide, fun _ => (by decide : (0 : Nat) < 256),
    fun sp c w _ _ => (hp sp c w).mono fun e w' ⟨h1, h2⟩ => ⟨_, h1, World.ownsRow_nil _ _ _ _, h2⟩,
    fun sp c w _ => (hd sp c w).mono fun e w' ⟨h1, h2⟩ => ⟨_, h1, World.ownsRow_nil _ _ _ _, h2⟩⟩ : ∃ (m : Nat) (F : Nat → Nat) (E : Int), m ≤ 8 ∧ (∀ i, F i < 256) ∧
    (∀ sp c w, By w sp n f → Tab w → Calls Tryz.prog 24 #[.agg #[.int .i64 x, .int .i64 y, .slice sp n c], .int .u8 (h : Nat), .int .i64 u, .int .i64 v] w fun e w' => ∃ r, e = .returned (.tuple #[r, .int .i64 E]) ∧ w'.ownsRow w.heap.size 5 1 r m (bysV F m) ∧ w.grownBy w' none) ∧
    (∀ sp c w, By w sp n f → Calls Tryz.prog 22 #[.agg #[.int .i64 x, .int .i64 y, .slice sp n c], .int .u8 (h : Nat), .int .i64 u, .int .i64 v] w fun e w' => ∃ r, e = .returned (.tuple #[r, .int .i64 E]) ∧ w'.ownsRow w.heap.size 5 1 r m (bysV F m) ∧ w.grownBy w' none))
  have hfm : fmE x y n = 0 ∨ fmE x y n = 140 := by unfold fmE; split <;> simp
  rcases hfm with hE | hE
  · by_cases hh : 1 ≤ h ∧ h ≤ 3
    · by_cases hp : 0 ≤ u ∧ u < x ∧ 0 ≤ v ∧ v < y
      · have hf : (1 ≤ x ∧ x ≤ 65536) ∧ (1 ≤ y ∧ y ≤ 65536) ∧ x * y ≤ 1048576 ∧ (n : Int) = (x + 2) * (y + 2) := by
          unfold fmE at hE
          split at hE
          · assumption
          · cases hE
        obtain ⟨f1, f2, f3, f4⟩ := hf
        obtain ⟨C, rfl⟩ := Int.eq_ofNat_of_zero_le (show 0 ≤ x by omega)
        obtain ⟨R, rfl⟩ := Int.eq_ofNat_of_zero_le (show 0 ≤ y by omega)
        obtain ⟨a, rfl⟩ := Int.eq_ofNat_of_zero_le (show 0 ≤ u by omega)
        obtain ⟨b, rfl⟩ := Int.eq_ofNat_of_zero_le (show 0 ≤ v by omega)
        have hn : n = (C + 2) * (R + 2) := by
          have : (n : Int) = (((C + 2) * (R + 2) : Nat) : Int) := by rw [f4]; simp
          exact Int.ofNat.inj this
        have hall : C * R ≤ 1048576 := by
          rw [← Int.natCast_mul] at f3; omega
        refine ⟨ofN h, fun i => f (ixN C (a + (ofP h i).1) (b + (ofP h i).2)), 0, ofN_le h, fun i => h256 _, fun sp c w hb hT => ?_, fun sp c w hb => refAroundY (by omega) (by omega) sp n c hn hE f h a b hh.1 hh.2 (by omega) (by omega) w hb⟩
        rw [hn] at hb ⊢
        refine (aroundY (by omega) (by omega) hall sp c f h a b hh.1 hh.2 (by omega) (by omega) w hb hT).mono ?_
        rintro e w' ⟨d, rfl, h1, h2, h3⟩
        have := ofN_le h
        exact ⟨_, rfl, row_own h2 (Nat.le_refl _) (by unfold maxLen; omega) h1 (fun k _ => rfl), h3⟩
      · exact err 130 (fun sp c w => around3 x y u v h hh.1 hh.2 sp n c hE hp w) (fun sp c w => refAround3 x y u v h hh.1 hh.2 sp n c hE hp w)
    · exact err 70 (fun sp c w => around2 x y u v h h255 hh sp n c hE w) (fun sp c w => refAround2 x y u v h h255 hh sp n c hE w)
  · exact err 140 (fun sp c w => around1 x y u v h sp n c hE w) (fun sp c w => refAround1 x y u v h sp n c hE w)
set_option maxHeartbeats 1000000 in
theorem fullC (base m mk : Nat) (f : Nat → Nat) (v : Value) (hm : m ≤ 140737488351232) (w : World) (h : w.ownsRow base 5 1 v m (bysV f m)) : Calls Tryz.prog 14 #[v, .int .u8 (mk : Nat)] w fun e w' => e = .returned (.tuple #[]) ∧ w'.ownsRow base 5 1 v m (bysV (fun _ => mk) m) ∧ w.grownBy w' v.ownBlock := by
  rcases own_rows h with ⟨rfl, rfl⟩ | ⟨d, cap, F, rfl, h1, h2, h3, h4, h5⟩
  · go_enter Tryz.func14, Tryz.ntmps14
    go_wp2
    refine wp_loop_rounds 1 ?_
    rw [rounds_succ]
    go_wp2
    go_end0
    exact ⟨rfl, World.ownsRow_nil _ _ _ _, World.grownBy.refl _ _⟩
  · go_enter Tryz.func14, Tryz.ntmps14
    go_wp2
    go_loopw [4] (fun i wr => ∃ (q : Nat) (F' : Nat → Value), q ≤ m ∧ i = .int .i64 (q : Nat) ∧ wr.rowIs d 5 cap F' ∧ (∀ k, k < q → F' k = .int .u8 (mk : Nat)) ∧ w.grownBy wr (some d)) (fun i _ => m - (intOf i).toNat)
    case atStart => exact ⟨0, F, Nat.zero_le _, rfl, h4, fun k hk => absurd hk (Nat.not_lt_zero _), World.grownBy.refl _ _⟩
    case round =>
      obtain ⟨q, F', hq, rfl, hr, hF, gw⟩ := hrel
      by_cases hlt : q < m
      · have hi1 : (q : Int) < (m : Int) := by omega
        have hc := hr.cell (i := q) (by omega)
        have hf := hr.frozen q
        go_wp2
        go_roundw
        case rel =>
          refine ⟨q + 1, _, hlt, by go_num, hr.set q _, fun k hk => ?_, gb_set gw _ _⟩
          by_cases e : k = q
          · rw [if_pos e]
          · rw [if_neg e]; exact hF k (by omega)
        case measure => simp [intOf]; omega
      · obtain rfl : q = m := by omega
        go_wp2
        go_end0
        exact ⟨rfl, row_own h1 h2 h3 hr hF, gw⟩
set_option maxHeartbeats 1000000 in
theorem longC (base m mk : Nat) (v : Value) (hm : m ≤ 1048576) (w : World) (hbase : base ≤ w.heap.size) (h : w.ownsRow base 5 1 v m (bysV (fun _ => mk) m)) : Calls Tryz.prog 15 #[v, .int .u8 (mk : Nat)] w fun e w' => ∃ r, e = .returned r ∧ w'.ownsRow base 5 1 r (m + 40) (bysV (fun _ => mk) (m + 40)) ∧ w.grownBy w' v.ownBlock := by
  obtain ⟨i8, HI8⟩ : ∃ i, Hid (Tryz.prog.info? 5 = some i ∧ i.zero = some (.int .u8 0) ∧ i.size = 1 ∧ i.bytes = 1) := by
    obtain ⟨i, h1, h2, h3, h4⟩ := info_parts info8
    exact ⟨i, h1, h2, h3, h4⟩
  go_enter Tryz.func15, Tryz.ntmps15
  go_wp2
  go_loopw [5, 0] (fun i o wr => ∃ (q : Nat) (ov : Value), ov = o ∧ q ≤ 40 ∧ i = .int .i64 (q : Nat) ∧ wr.ownsRow base 5 1 ov (m + q) (bysV (fun _ => mk) (m + q)) ∧ w.grownBy wr v.ownBlock ∧ (ov.ownBlock = v.ownBlock ∨ ∀ b, ov.ownBlock = some b → w.heap.size ≤ b)) (fun i _ _ => 40 - (intOf i).toNat)
  case atStart => exact ⟨0, _, rfl, Nat.zero_le _, rfl, h, World.grownBy.refl _ _, .inl rfl⟩
  case round =>
    obtain ⟨q, ov, rfl, hq, rfl, hown, gw, hor⟩ := hrel
    by_cases hlt : q < 40
    · have hi1 : (q : Int) < 40 := by omega
      obtain ⟨X2, hX2⟩ : ∃ X2, wr.alloc (.cells #[.int .u8 (mk : Nat)] 5) = X2 := ⟨_, rfl⟩
      have gX2 : wr.grownBy X2 none := by rw [← hX2]; exact World.grownBy_alloc _ _ _
      have nX : ∀ l u, [Value.int .u8 (mk : Nat)][l]? = some u → X2.cell? ((⟨wr.heap.size, 0, none⟩ : Addr).add l) = some u := by rw [← hX2]; exact new1 wr _
      have own2 := hown.kept gX2 (Classical.em _)
      have sX : base ≤ X2.heap.size := Nat.le_trans hbase (Nat.le_trans gw.size gX2.size)
      have sW : w.heap.size ≤ X2.heap.size := Nat.le_trans gw.size gX2.size
      go_wp2_with (at_builtin; refine wpList_append_own_at _ rfl _ _ 24 rfl base 5 i8 (.int .u8 0) 1 1 under8S HI8.out.1 HI8.out.2.1 HI8.out.2.2.1 HI8.out.2.2.2 rfl (by decide) _ _ _ rfl own2 ⟨wr.heap.size, 0, none⟩ 1 1 [.int .u8 (mk : Nat)] rfl rfl nX (by intro u hu; simp at hu; subst hu; rfl) (by unfold maxLen; omega) (by omega) sX ?_; intro v' w' own' g' hnil' hat')
      go_roundw
      case rel =>
        refine ⟨q + 1, v', rfl, hlt, by go_num, ?_, ?_, ?_⟩
        · have e : bysV (fun _ => mk) (m + (q + 1)) = bysV (fun _ => mk) (m + q) ++ [.int .u8 (mk : Nat)] := bysV_succ _ _
          rw [e]; exact own'
        · refine ⟨(g'.os.trans gX2.os).trans gw.os, (g'.tape.trans gX2.tape).trans gw.tape, (g'.output.trans gX2.output).trans gw.output, Nat.le_trans gw.size (Nat.le_trans gX2.size g'.size), fun i hi hne => ?_⟩
          have hi2 : i < wr.heap.size := Nat.lt_of_lt_of_le hi gw.size
          have hi3 : i < X2.heap.size := Nat.lt_of_lt_of_le hi2 gX2.size
          have hn2 : some i ≠ ov.ownBlock := fun e => by
            rcases hor with h1 | h1
            · exact hne (e.trans h1)
            · have := h1 i e.symm; omega
          exact ((g'.block i hi3 hn2).trans (gX2.block i hi2 (by simp))).trans (gw.block i hi hne)
        · rcases hat' with h1 | h1
          · rcases hor with h2 | h2
            · exact .inl (h1.trans h2)
            · exact .inr (fun b e => h2 b (h1 ▸ e))
          · exact .inr (fun b e => by rw [h1] at e; cases e; exact sW)
      case measure => simp [intOf]; omega
    · obtain rfl : q = 40 := by omega
      go_wp2
      go_ret
      exact ⟨ov, rfl, hown, gw⟩
set_option maxHeartbeats 1000000 in
theorem onlyC (p : Option Addr) (n c mk : Nat) (hn : n ≤ 140737488351232) (w : World) (h : By w p n (fun _ => mk)) : Calls Tryz.prog 16 #[.slice p n c, .int .u8 (mk : Nat)] w fun e w' => e = .returned (.bool true) ∧ w.grownBy w' none := by
  go_enter Tryz.func16, Tryz.ntmps16
  go_wp2
  go_loopw [5] (fun i wr => ∃ q : Nat, q ≤ n ∧ i = .int .i64 (q : Nat) ∧ w.grownBy wr none) (fun i _ => n - (intOf i).toNat)
  case atStart => exact ⟨0, Nat.zero_le _, rfl, World.grownBy.refl _ _⟩
  case round =>
    obtain ⟨q, hq, rfl, gw⟩ := hrel
    by_cases hlt : q < n
    · obtain ⟨a, rfl⟩ := h.some (by omega)
      have hi1 : (q : Int) < (n : Int) := by omega
      have hc := (h.kept gw (by simp)).at hlt
      go_wp2
      go_roundw
      case rel => exact ⟨q + 1, hlt, by go_num, gw⟩
      case measure => simp [intOf]; omega
    · obtain rfl : q = n := by omega
      go_wp2
      go_ret
      exact ⟨rfl, gw⟩
end Go.Proofs.YtjndljjpbkfmiaaGreatDoor
namespace Go.Proofs.YtjndljjpbkfmiaaGreatDoor
open Go.RowKit
set_option linter.unusedVariables false
set_option linter.unusedSimpArgs false
set_option maxRecDepth 100000

theorem new2 (w : World) (v v' : Value) : ∀ (l : Nat) (q : Value), [v, v'][l]? = some q → (w.alloc (.cells #[v, v'] 5)).cell? ((⟨w.heap.size, 0, none⟩ : Addr).add l) = some q := fun l q h => by
  match l, h with
  | 0, h =>
    cases h
    exact (Bo.new w 5 #[v, v']).cell 0 rfl
  | 1, h =>
    cases h
    exact (Bo.new w 5 #[v, v']).cell 1 rfl
theorem own_two {w : World} {base n : Nat} {v : Value} {xs : List Value} (h : w.ownsRow base 5 1 v (n + 2) xs) : ∃ g cap, v = .slice (some ⟨g, 0, none⟩) (n + 2) cap := by
  rcases h.2 with ⟨_, h0⟩ | ⟨g, cap, _, h1, _⟩
  · omega
  · exact ⟨g, cap, h1⟩
/-- The cells with two marks behind them. -/
def twoF (f : Nat → Nat) (n k : Nat) : Nat := if k < n then f k else if k = n then 201 else 202
theorem two_bys (f : Nat → Nat) (n : Nat) : bysV f n ++ [.int .u8 201, .int .u8 202] = bysV (twoF f n) (n + 2) := by
  rw [show n + 2 = n + 1 + 1 from rfl, bysV_succ, bysV_succ, List.append_assoc]
  have e : bysV f n = bysV (twoF f n) n := by
    unfold bysV
    refine List.map_congr_left fun i hi => ?_
    unfold twoF
    rw [if_pos (List.mem_range.1 hi)]
  have e1 : twoF f n n = 201 := by unfold twoF; rw [if_neg (by omega), if_pos rfl]
  have e2 : twoF f n (n + 1) = 202 := by unfold twoF; rw [if_neg (by omega), if_neg (by omega)]
  rw [e, e1, e2]; rfl
theorem two_at1 {w : World} {cb n : Nat} {f : Nat → Nat} (h : By w (some ⟨cb, 0, none⟩) (n + 2) (twoF f n)) : w.cell? ⟨cb, n, none⟩ = some (.int .u8 201) := by
  have := h.at (k := n) (by omega)
  rw [add_mid, Nat.zero_add, show twoF f n n = 201 by unfold twoF; rw [if_neg (by omega), if_pos rfl]] at this
  exact this
theorem two_at2 {w : World} {cb n : Nat} {f : Nat → Nat} (h : By w (some ⟨cb, 0, none⟩) (n + 2) (twoF f n)) : w.cell? ⟨cb, n + 1, none⟩ = some (.int .u8 202) := by
  have := h.at (k := n + 1) (by omega)
  rw [add_mid, Nat.zero_add, show twoF f n (n + 1) = 202 by unfold twoF; rw [if_neg (by omega), if_neg (by omega)]] at this
  exact this
theorem own_cut {w : World} {base cb cap n : Nat} {f : Nat → Nat} (h : w.ownsRow base 5 1 (.slice (some ⟨cb, 0, none⟩) (n + 2) cap) (n + 2) (bysV (twoF f n) (n + 2))) : w.ownsRow base 5 1 (.slice (some ⟨cb, 0, none⟩) n cap) n (bysV f n) := by
  rcases own_rows h with ⟨e, _⟩ | ⟨d, cp, G, e, h1, h2, h3, h4, h5⟩
  · cases e
  · cases e
    refine row_own h1 (by omega) h3 h4 (fun k hk => ?_)
    rw [h5 k (by omega), show twoF f n k = f k from if_pos hk]
/-- Two frames that hold the same. -/
theorem sameF (x y : Int) (n c c2 : Nat) (sp sp2 : Option Addr) (f : Nat → Nat) (h256 : ∀ k, f k < 256) (w : World) (h1 : By w sp n f) (h2 : By w sp2 n f) : Calls Tryz.prog 12 #[.agg #[.int .i64 x, .int .i64 y, .slice sp n c], .agg #[.int .i64 x, .int .i64 y, .slice sp2 n c2]] w fun e w' => e = .returned (.bool true) ∧ w.grownBy w' none := by
  obtain ⟨W1, hW1, sz1, g1, B1⟩ := boxn w #[.int .i64 x, .int .i64 y, .slice sp n c] 33
  obtain ⟨W2, hW2, sz2, g2, B2⟩ := boxn W1 #[.int .i64 x, .int .i64 y, .slice sp2 n c2] 33
  have A2 := B1.kept g2 (by simp)
  have G2 := gb_trans g1 g2
  have a0 := A2.cell 0 (v := .int .i64 x) rfl
  have a1 := A2.cell 1 (v := .int .i64 y) rfl
  have a2 := A2.cell 2 (v := .slice sp n c) rfl
  have k0 := B2.cell 0 (v := .int .i64 x) rfl
  have k1 := B2.cell 1 (v := .int .i64 y) rfl
  have k2 := B2.cell 2 (v := .slice sp2 n c2) rfl
  have q1 := by_str c (h1.kept G2 (by simp)) h256
  have q2 := by_str c2 (h2.kept G2 (by simp)) h256
  go_enter Tryz.func12, Tryz.ntmps12
  go_wp2
  go_ret
  exact ⟨rfl, G2⟩
set_option maxHeartbeats 2000000 in
theorem arounds_walk (x y : Int) (sp : Option Addr) (n c : Nat) (f : Nat → Nat) (h : Nat) (u v : Int) (hn : n ≤ 140737488351232) (hnil : sp = none → n = 0 ∧ c = 0) (h256 : ∀ k, f k < 256) (h255 : h ≤ 255) (w : World) (hb : By w sp n f) (hT : Tab w) :
    Calls Tryz.prog 5 #[.agg #[.int .i64 x, .int .i64 y, .slice sp n c], .int .u8 (h : Nat), .int .i64 u, .int .i64 v] w fun e w' => e = .returned (.bool true) ∧ Below w.heap.size w w' := by
  obtain ⟨i8, HI8⟩ : ∃ i, Hid (Tryz.prog.info? 5 = some i ∧ i.zero = some (.int .u8 0) ∧ i.size = 1 ∧ i.bytes = 1) := by
    obtain ⟨i, h1, h2, h3, h4⟩ := info_parts info8
    exact ⟨i, h1, h2, h3, h4⟩
  obtain ⟨m, F, E, hm, hF, hpr, hdo⟩ := aroundAll x y u v h h255 n f h256
  obtain ⟨W1, hW1, sz1, g1, B1⟩ := boxn w #[.int .i64 x, .int .i64 y, .slice sp n c] 33
  have b1_0 := B1.cell 0 (v := .int .i64 x) rfl
  have b1_1 := B1.cell 1 (v := .int .i64 y) rfl
  have b1_2 := B1.cell 2 (v := .slice sp n c) rfl
  go_enter Tryz.func5, Tryz.ntmps5
  go_wp2_with (first | (go_at_call 7; refine (aliveC _ (hT.kept g1)).mono ?_; rintro e V1 ⟨rfl, g2⟩; have B2 := B1.kept g2 (by simp); have b2_0 := B2.cell 0 (v := .int .i64 x) rfl; have b2_1 := B2.cell 1 (v := .int .i64 y) rfl; have b2_2 := B2.cell 2 (v := .slice sp n c) rfl; have G2 := gb_trans g1 g2; have hb2 := hb.kept G2 (by simp)) | ((fail_if_success (guard_hyp own1)); at_builtin; refine app_by V1 rfl _ _ rfl rfl sp n c f rfl hb2 hnil hn ?_; intro v1 V2 own1 g3; have B3 := B2.kept g3 (by simp); have b3_0 := B3.cell 0 (v := .int .i64 x) rfl; have b3_1 := B3.cell 1 (v := .int .i64 y) rfl; have b3_2 := B3.cell 2 (v := .slice sp n c) rfl; obtain ⟨X2, hX2⟩ : ∃ X2, V2.alloc (.cells #[.int .u8 201, .int .u8 202] 5) = X2 := ⟨_, rfl⟩; have gX2 : V2.grownBy X2 none := (by rw [← hX2]; exact World.grownBy_alloc _ _ _); have nX : ∀ l u, [Value.int .u8 201, .int .u8 202][l]? = some u → X2.cell? ((⟨V2.heap.size, 0, none⟩ : Addr).add l) = some u := (by rw [← hX2]; exact new2 V2 _ _); have own2 := own1.kept gX2 (Classical.em _); have sX : V1.heap.size ≤ X2.heap.size := Nat.le_trans g3.size gX2.size; have B4 := B3.kept gX2 (by simp); have lB := B2.lt) | (guard_hyp own1; at_builtin; refine wpList_append_own_at _ rfl _ _ 24 rfl V1.heap.size 5 i8 (.int .u8 0) 1 1 under8S HI8.out.1 HI8.out.2.1 HI8.out.2.2.1 HI8.out.2.2.2 rfl (by decide) _ _ _ rfl own2 ⟨V2.heap.size, 0, none⟩ 2 2 [.int .u8 201, .int .u8 202] rfl rfl nX (by intro q hq; simp at hq; rcases hq with rfl | rfl <;> rfl) (by unfold maxLen; omega) (by omega) sX ?_; intro v2 V4 own4 g5 hnil4 hat4; obtain ⟨cb, cap, rfl⟩ := own_two own4; have B5 := B4.kept g5 (fun e => Nat.not_le_of_lt lB (own2.lt w.heap.size e.symm).1); have b5_0 := B5.cell 0 (v := .int .i64 x) rfl; have b5_1 := B5.cell 1 (v := .int .i64 y) rfl; have b5_2 := B5.cell 2 (v := .slice sp n c) rfl))
  rw [two_bys] at own4
  obtain ⟨hc4, hrow4⟩ : n + 2 ≤ cap ∧ By V4 (some ⟨cb, 0, none⟩) (n + 2) (twoF f n) := by
    obtain ⟨p, c', e, h1, _, h2⟩ := own_by own4
    cases e
    exact ⟨h2, h1⟩
  have lcb := own4.lt cb rfl
  have hby4 : By V4 (some ⟨cb, 0, none⟩) n f := fun k hk => by
    have := hrow4 k (by omega)
    rwa [show twoF f n k = f k from if_pos hk] at this
  have hz0 : (0 : Int) ≤ (n : Int) := by omega
  have hz1 : (n : Int) ≤ (cap : Int) := by omega
  have g4 : V2.grownBy V4 v1.ownBlock := by
    refine ⟨g5.os.trans gX2.os, g5.tape.trans gX2.tape, g5.output.trans gX2.output, Nat.le_trans gX2.size g5.size, fun i hi hne => (g5.block i (Nat.lt_of_lt_of_le hi gX2.size) hne).trans (gX2.block i hi (by simp))⟩
  have G4 : w.grownBy V4 none := gb_beyond (gb_trans G2 g3) g4 (fun i e => by have := (own1.lt i e).1; have := G2.size; omega)
  obtain ⟨V5, hV5, sz5, g6, B6⟩ := boxn V4 #[.int .i64 x, .int .i64 y, .slice (some ⟨cb, 0, none⟩) n cap] 33
  have X5 := B5.kept g6 (by simp)
  have x5_0 := X5.cell 0 (v := .int .i64 x) rfl
  have x5_1 := X5.cell 1 (v := .int .i64 y) rfl
  have x5_2 := X5.cell 2 (v := .slice sp n c) rfl
  go_region_held2 (fun w' => w'.cell? ⟨w.heap.size, 0, none⟩ = some (.int .i64 x) ∧ w'.cell? ⟨w.heap.size, 1, none⟩ = some (.int .i64 y) ∧ w'.cell? ⟨w.heap.size, 2, none⟩ = some (.slice sp n c)) (go_keep) (fail)
  obtain ⟨V6, hV6⟩ : ∃ V6, V5.drew = V6 := ⟨_, rfl⟩
  rw [hV6]
  have g46 : V4.grownBy V6 none := hV6 ▸ gb_drew g6
  have G6 := gb_trans G4 g46
  have X6 : Bo V6 w.heap.size 33 #[.int .i64 x, .int .i64 y, .slice sp n c] := B5.kept g46 (by simp)
  have O6 : Bo V6 V4.heap.size 33 #[.int .i64 x, .int .i64 y, .slice (some ⟨cb, 0, none⟩) n cap] := hV6 ▸ B6.dr
  have hb6 := hb.kept G6 (by simp)
  have hc6 := hby4.kept g46 (by simp)
  have hr6 := hrow4.kept g46 (by simp)
  have T6 := hT.kept G6
  have own6 := own4.kept g46 (Classical.em _)
  have x6_0 := X6.cell 0 (v := .int .i64 x) rfl
  have x6_1 := X6.cell 1 (v := .int .i64 y) rfl
  have x6_2 := X6.cell 2 (v := .slice sp n c) rfl
  have o6_0 := O6.cell 0 (v := .int .i64 x) rfl
  have o6_1 := O6.cell 1 (v := .int .i64 y) rfl
  have o6_2 := O6.cell 2 (v := .slice (some ⟨cb, 0, none⟩) n cap) rfl
  clear hV5 hV6
  go_wp2_with (first | (go_at_call 22; refine (hdo sp c V6 hb6).mono ?_; rintro e V7 ⟨rw, rfl, ownw, g7⟩; obtain ⟨pw, cw, rfl, byw, blw, _⟩ := own_by ownw; have O7 := O6.kept g7 (by simp); have o7_0 := O7.cell 0 (v := .int .i64 x) rfl; have o7_1 := O7.cell 1 (v := .int .i64 y) rfl; have o7_2 := O7.cell 2 (v := .slice (some ⟨cb, 0, none⟩) n cap) rfl) | ((fail_if_success (guard_hyp g8)); go_at_call 23; refine (checkF x y (some ⟨cb, 0, none⟩) n cap V7).mono ?_; rintro e V8 ⟨rfl, g8⟩; have g78 := gb_trans g7 g8; have O8 := O7.kept g8 (by simp); have o8_0 := O8.cell 0 (v := .int .i64 x) rfl; have o8_1 := O8.cell 1 (v := .int .i64 y) rfl; have o8_2 := O8.cell 2 (v := .slice (some ⟨cb, 0, none⟩) n cap) rfl; have T8' := T6.kept g78; have hc8 := hc6.kept g78 (by simp)) | ((fail_if_success (guard_hyp g9)); go_at_call 24; refine (hpr (some ⟨cb, 0, none⟩) cap V8 hc8 T8').mono ?_; rintro e V9 ⟨ra, rfl, owna, g9⟩; obtain ⟨pa, ca, rfl, bya, bla, _⟩ := own_by owna; have O9 := O8.kept g9 (by simp); have o9_0 := O9.cell 0 (v := .int .i64 x) rfl; have o9_1 := O9.cell 1 (v := .int .i64 y) rfl; have o9_2 := O9.cell 2 (v := .slice (some ⟨cb, 0, none⟩) n cap) rfl; have T9 := T8'.kept g9; have hc9 := hc8.kept g9 (by simp)) | (guard_hyp g9; go_at_call 24; refine (hpr (some ⟨cb, 0, none⟩) cap V9 hc9 T9).mono ?_; rintro e V10 ⟨rb, rfl, ownb, g10⟩; obtain ⟨pb, cb', rfl, byb, blb, _⟩ := own_by ownb; have O10 := O9.kept g10 (by simp); have o10_0 := O10.cell 0 (v := .int .i64 x) rfl; have o10_1 := O10.cell 1 (v := .int .i64 y) rfl; have o10_2 := O10.cell 2 (v := .slice (some ⟨cb, 0, none⟩) n cap) rfl; have g610 := gb_trans g78 (gb_trans g9 g10); have X10 := X6.kept g610 (by simp); have x10_0 := X10.cell 0 (v := .int .i64 x) rfl; have x10_1 := X10.cell 1 (v := .int .i64 y) rfl; have x10_2 := X10.cell 2 (v := .slice sp n c) rfl; have hb10 := hb6.kept g610 (by simp); have hc10 := hc9.kept g10 (by simp)) | (go_at_call 12; refine (sameF x y n cap c (some ⟨cb, 0, none⟩) sp f h256 V10 hc10 hb10).mono ?_; rintro e V11 ⟨rfl, g11⟩; have O11 := O10.kept g11 (by simp); have X11 := X10.kept g11 (by simp); have o11_0 := O11.cell 0 (v := .int .i64 x) rfl; have o11_1 := O11.cell 1 (v := .int .i64 y) rfl; have o11_2 := O11.cell 2 (v := .slice (some ⟨cb, 0, none⟩) n cap) rfl; have x11_0 := X11.cell 0 (v := .int .i64 x) rfl; have x11_1 := X11.cell 1 (v := .int .i64 y) rfl; have x11_2 := X11.cell 2 (v := .slice sp n c) rfl; have hr11 := hr6.kept (gb_trans g610 g11) (by simp); have q201 : V11.cell? ⟨cb, n, none⟩ = some (.int .u8 201) := two_at1 hr11; have q202 : V11.cell? ⟨cb, n + 1, none⟩ = some (.int .u8 202) := two_at2 hr11) | (guard_hyp g11; go_at_call 25; refine (refCheckF x y sp n c V11).mono ?_; rintro e V12 ⟨rfl, g12⟩; have g1012 := gb_trans g11 g12; have bb12 := byb.kept g1012 (by simp); have ba12 := bya.kept (gb_trans g10 g1012) (by simp); have bw12 := byw.kept (gb_trans g8 (gb_trans g9 (gb_trans g10 g1012))) (by simp); have sa := by_str ca ba12 hF; have sb := by_str cb' bb12 hF; have sw := by_str cw bw12 hF; have owna12 := owna.kept (gb_trans g10 g1012) (Classical.em _); have O12 := O11.kept g12 (by simp); have own12 := own6.kept (gb_trans g610 g1012) (Classical.em _)) | ((fail_if_success (guard_hyp owna13)); go_at_call 14; refine (fullC V8.heap.size m 251 F _ (by omega) V12 owna12).mono ?_; rintro e V13 ⟨rfl, owna13, g13⟩; have z8 : V6.heap.size ≤ V8.heap.size := g78.size; have z6 : V4.heap.size < V6.heap.size := O6.lt; have z13 : V8.heap.size ≤ V13.heap.size := Nat.le_trans g9.size (Nat.le_trans g10.size (Nat.le_trans g1012.size g13.size)); have nea : ∀ i, i < V8.heap.size → some i ≠ (Value.slice pa m ca).ownBlock := (fun i hi e => Nat.not_le_of_lt hi (owna.lt i e.symm).1); have ltc : cb < V8.heap.size := Nat.lt_of_lt_of_le lcb.2 (Nat.le_trans (Nat.le_of_lt z6) z8); have O13 := O12.kept g13 (nea _ (Nat.lt_of_lt_of_le z6 z8)); have own13 := own12.kept g13 (.inr (fun e => nea cb ltc e))) | (go_at_call 15; refine (longC V8.heap.size m 251 _ (by omega) V13 z13 owna13).mono ?_; rintro e V14 ⟨rc, rfl, ownc, g14⟩; obtain ⟨pc, cc, rfl, byc, blc, _⟩ := own_by ownc; have O14 := O13.kept g14 (nea _ (Nat.lt_of_lt_of_le z6 z8)); have o14_0 := O14.cell 0 (v := .int .i64 x) rfl; have o14_1 := O14.cell 1 (v := .int .i64 y) rfl; have o14_2 := O14.cell 2 (v := .slice (some ⟨cb, 0, none⟩) n cap) rfl; have own14 := own13.kept g14 (.inr (fun e => nea cb ltc e))) | (guard_hyp owna13; go_at_call 14; refine (fullC V1.heap.size n 252 f (.slice (some ⟨cb, 0, none⟩) n cap) hn V14 (own_cut own14)).mono ?_; rintro e V15 ⟨rfl, _, g15⟩; have neb : ∀ a, pb = some a → some a.block ≠ (Value.slice pa m ca).ownBlock := (fun a e e2 => Nat.not_le_of_lt (owna.lt a.block e2.symm).2 (ownb.lt a.block (blb a e)).1); have new : ∀ a, pw = some a → some a.block ≠ (Value.slice pa m ca).ownBlock := (fun a e => nea _ (Nat.lt_of_lt_of_le (ownw.lt a.block (blw a e)).2 g8.size)); have cbb : ∀ a, pb = some a → some a.block ≠ (Value.slice (some ⟨cb, 0, none⟩) n cap).ownBlock := (fun a e e2 => by cases e2; exact Nat.not_le_of_lt (Nat.lt_of_lt_of_le ltc g9.size) (ownb.lt _ (blb a e)).1); have cbw : ∀ a, pw = some a → some a.block ≠ (Value.slice (some ⟨cb, 0, none⟩) n cap).ownBlock := (fun a e e2 => by cases e2; exact Nat.not_le_of_lt (Nat.lt_trans lcb.2 z6) (ownw.lt _ (blw a e)).1); have cbc : ∀ a, pc = some a → some a.block ≠ (Value.slice (some ⟨cb, 0, none⟩) n cap).ownBlock := (fun a e e2 => by cases e2; exact Nat.not_le_of_lt ltc (ownc.lt _ (blc a e)).1); have bb15 := ((bb12.kept g13 neb).kept g14 neb).kept g15 cbb; have bw15 := ((bw12.kept g13 new).kept g14 new).kept g15 cbw; have bc15 := byc.kept g15 cbc; have tb := by_str cb' bb15 hF; have tw := by_str cw bw15 hF) | (go_at_call 16; refine (onlyC pc (m + 40) cc 251 (by omega) V15 bc15).mono ?_; rintro e V16 ⟨rfl, g16⟩))
  go_ret
  have G12 := gb_trans G6 (gb_trans g610 g1012)
  have G13 := gb_beyond G12 g13 (fun i e => by have := (owna.lt i e).1; have := G6.size; omega)
  have G14 := gb_beyond G13 g14 (fun i e => by have := (owna.lt i e).1; have := G6.size; omega)
  have G15 := gb_beyond G14 g15 (fun i e => (Option.some.inj (show some cb = some i from e)) ▸ Nat.le_trans G2.size lcb.1)
  exact ⟨rfl, gb_below (gb_trans G15 g16)⟩
end Go.Proofs.YtjndljjpbkfmiaaGreatDoor
