/- checkGrid of package ring. -/
import Derived.Test.YthjiiljglgmkpaaGreatDoorKb
import Derived.Test.YthjiiljglgmkpaaGreatDoorZa
import Derived.Test.YthjiiljglgmkpaaGreatDoorWa
namespace Go.Proofs.YthjiiljglgmkpaaGreatDoor
open Go.RowKit
set_option linter.unusedVariables false
set_option linter.unusedSimpArgs false
set_option maxRecDepth 100000

/-- A field, by what its calls answer: M holds of a world in which it lies. -/
structure FdM (M : World → Prop) (n0 b C R S : Nat) (g : Nat → Nat) : Prop where
  kept : ∀ X Y q, M X → X.grownBy Y q → (∀ i, q = some i → n0 ≤ i) → M Y
  wide : ∀ X, M X → Calls Tryz.prog 42 #[.pointer (some ⟨b, 0, none⟩)] X fun e Y => e = .returned (.int .i64 (C : Nat)) ∧ X.grownBy Y none
  high : ∀ X, M X → Calls Tryz.prog 43 #[.pointer (some ⟨b, 0, none⟩)] X fun e Y => e = .returned (.int .i64 (R : Nat)) ∧ X.grownBy Y none
  states : ∀ X, M X → Calls Tryz.prog 44 #[.pointer (some ⟨b, 0, none⟩)] X fun e Y => e = .returned (.int .i64 (S : Nat)) ∧ X.grownBy Y none
  line : ∀ y, y < R → ∀ X, M X → Calls Tryz.prog 35 #[.pointer (some ⟨b, 0, none⟩), .int .i64 (y : Nat)] X fun e Y => ∃ d, e = .returned (.tuple #[.slice (some ⟨d, 0, none⟩) C C, .int .i64 0]) ∧ Y.rowIs d 5 C (fun x => .int .u8 (g (y * C + x) : Nat)) ∧ X.heap.size ≤ d ∧ X.grownBy Y none
theorem FdM.grown {M : World → Prop} {n0 b C R S : Nat} {g : Nat → Nat} (F : FdM M n0 b C R S g) {X Y : World} (h : M X) (hg : X.grownBy Y none) : M Y := F.kept X Y none h hg (fun i e => by cases e)
/-- What checkGrid answers. -/
def cgE (k x y t z : Int) (C R : Nat) : Int := if ¬ Tp.chk k x y t z = 0 then 9 else if x = 0 ∨ y = 0 then 42 else if ¬ (x = C ∧ y = R) then 21 else 0
set_option maxHeartbeats 1000000 in
theorem checkGridN (k x y t z : Int) (p : Option Addr) (w : World) (hp : Nf w p) : Calls Tryz.prog 57 #[.agg #[.int .u8 k, .int .i64 x, .int .i64 y, .int .u8 t, .int .i64 z], .pointer p] w fun e w' => e = .returned (.int .i64 1) ∧ w.grownBy w' none := by
  obtain ⟨W1, hW1, sz1, g1, B1⟩ := boxn w #[.int .u8 k, .int .i64 x, .int .i64 y, .int .u8 t, .int .i64 z] 30
  have hp1 : Nf W1 p := by
    rcases hp with h | ⟨b, h1, h2⟩
    · exact .inl h
    · exact .inr ⟨b, h1, h2.kept g1 (by simp)⟩
  go_enter Tryz.func57, Tryz.ntmps57
  go_wp2_with (go_at_call 42; refine (noneW p W1 hp1).mono ?_; rintro e w' ⟨rfl, hw'⟩; subst w')
  go_ret
  exact ⟨rfl, g1⟩
set_option maxHeartbeats 1000000 in
theorem checkGridC {M : World → Prop} {n0 b C R S : Nat} {g : Nat → Nat} (F : FdM M n0 b C R S g) (hC : 0 < C) (k x y t z : Int) (ht : 0 ≤ t) (w : World) (hM : M w) : Calls Tryz.prog 57 #[.agg #[.int .u8 k, .int .i64 x, .int .i64 y, .int .u8 t, .int .i64 z], .pointer (some ⟨b, 0, none⟩)] w fun e w' => e = .returned (.int .i64 (cgE k x y t z C R)) ∧ w.grownBy w' none := by
  have hw := fun X hX => F.wide X hX
  have hh := fun X hX => F.high X hX
  have he := fun w => To.endlC k x y t z ht w
  have hC0 : ((C : Int) == 0) = false := by simp; omega
  obtain ⟨W1, hW1, sz1, g1, B1⟩ := boxn w #[.int .u8 k, .int .i64 x, .int .i64 y, .int .u8 t, .int .i64 z] 30
  have m1 := F.grown hM g1
  have b1_0 := B1.cell 0 (v := .int .u8 k) rfl
  have b1_1 := B1.cell 1 (v := .int .i64 x) rfl
  have b1_2 := B1.cell 2 (v := .int .i64 y) rfl
  have b1_3 := B1.cell 3 (v := .int .u8 t) rfl
  have b1_4 := B1.cell 4 (v := .int .i64 z) rfl
  obtain ⟨E, hE⟩ : ∃ E, Tp.chk k x y t z = E := ⟨_, rfl⟩
  unfold To.enB at he
  rw [hE] at he
  by_cases h1 : E = 0
  · subst h1
    simp only [decide_true, Bool.true_and] at he
    have hc0 : ¬ ¬ Tp.chk k x y t z = 0 := by rw [hE]; simp
    by_cases hx0 : x = 0
    · have hX : cgE k x y t z C R = 42 := by unfold cgE; rw [if_neg hc0, if_pos (.inl hx0)]
      rw [hX]
      rw [decide_eq_true hx0] at he
      clear hX hc0 hE hx0
      go_enter Tryz.func57, Tryz.ntmps57
      go_wp2_with (first | ((fail_if_success (guard_hyp g2)); go_at_call 42; refine (hw _ m1).mono ?_; rintro e V1 ⟨rfl, g2⟩; have m2 := F.grown m1 g2; have B2 := B1.kept g2 (by simp); have b2_0 := B2.cell 0 (v := .int .u8 k) rfl; have b2_1 := B2.cell 1 (v := .int .i64 x) rfl; have b2_2 := B2.cell 2 (v := .int .i64 y) rfl; have b2_3 := B2.cell 3 (v := .int .u8 t) rfl; have b2_4 := B2.cell 4 (v := .int .i64 z) rfl) | (go_at_call 82; refine (he V1).mono ?_; rintro e V2 ⟨rfl, g3⟩; have m3 := F.grown m2 g3; have B3 := B2.kept g3 (by simp); have b3_0 := B3.cell 0 (v := .int .u8 k) rfl; have b3_1 := B3.cell 1 (v := .int .i64 x) rfl; have b3_2 := B3.cell 2 (v := .int .i64 y) rfl; have b3_3 := B3.cell 3 (v := .int .u8 t) rfl; have b3_4 := B3.cell 4 (v := .int .i64 z) rfl))
      go_ret
      exact ⟨rfl, gb_trans g1 (gb_trans g2 g3)⟩
    · by_cases hy0 : y = 0
      · have hX : cgE k x y t z C R = 42 := by unfold cgE; rw [if_neg hc0, if_pos (.inr hy0)]
        rw [hX]
        rw [decide_eq_false hx0, decide_eq_true hy0] at he
        clear hX hc0 hE hx0 hy0
        go_enter Tryz.func57, Tryz.ntmps57
        go_wp2_with (first | ((fail_if_success (guard_hyp g2)); go_at_call 42; refine (hw _ m1).mono ?_; rintro e V1 ⟨rfl, g2⟩; have m2 := F.grown m1 g2; have B2 := B1.kept g2 (by simp); have b2_0 := B2.cell 0 (v := .int .u8 k) rfl; have b2_1 := B2.cell 1 (v := .int .i64 x) rfl; have b2_2 := B2.cell 2 (v := .int .i64 y) rfl; have b2_3 := B2.cell 3 (v := .int .u8 t) rfl; have b2_4 := B2.cell 4 (v := .int .i64 z) rfl) | (go_at_call 82; refine (he V1).mono ?_; rintro e V2 ⟨rfl, g3⟩; have m3 := F.grown m2 g3; have B3 := B2.kept g3 (by simp); have b3_0 := B3.cell 0 (v := .int .u8 k) rfl; have b3_1 := B3.cell 1 (v := .int .i64 x) rfl; have b3_2 := B3.cell 2 (v := .int .i64 y) rfl; have b3_3 := B3.cell 3 (v := .int .u8 t) rfl; have b3_4 := B3.cell 4 (v := .int .i64 z) rfl))
        go_ret
        exact ⟨rfl, gb_trans g1 (gb_trans g2 g3)⟩
      · have hN : ¬ (x = 0 ∨ y = 0) := by omega
        rw [decide_eq_false hx0, decide_eq_false hy0] at he
        by_cases hxC : x = C
        · by_cases hyR : y = R
          · have hX : cgE k x y t z C R = 0 := by unfold cgE; rw [if_neg hc0, if_neg hN, if_neg (by omega)]
            rw [hX]
            have qx : (x != (C : Int)) = false := by simp [hxC]
            have qy : (y != (R : Int)) = false := by simp [hyR]
            clear hX hc0 hE hx0 hy0 hN hxC hyR
            go_enter Tryz.func57, Tryz.ntmps57
            go_wp2_with (first | ((fail_if_success (guard_hyp g2)); go_at_call 42; refine (hw _ m1).mono ?_; rintro e V1 ⟨rfl, g2⟩; have m2 := F.grown m1 g2; have B2 := B1.kept g2 (by simp); have b2_0 := B2.cell 0 (v := .int .u8 k) rfl; have b2_1 := B2.cell 1 (v := .int .i64 x) rfl; have b2_2 := B2.cell 2 (v := .int .i64 y) rfl; have b2_3 := B2.cell 3 (v := .int .u8 t) rfl; have b2_4 := B2.cell 4 (v := .int .i64 z) rfl) | (go_at_call 82; refine (he V1).mono ?_; rintro e V2 ⟨rfl, g3⟩; have m3 := F.grown m2 g3; have B3 := B2.kept g3 (by simp); have b3_0 := B3.cell 0 (v := .int .u8 k) rfl; have b3_1 := B3.cell 1 (v := .int .i64 x) rfl; have b3_2 := B3.cell 2 (v := .int .i64 y) rfl; have b3_3 := B3.cell 3 (v := .int .u8 t) rfl; have b3_4 := B3.cell 4 (v := .int .i64 z) rfl))
            have m3d : M V2.drew := F.grown m3 (gb_drew (World.grownBy.refl _ _))
            have B3d := B3.dr
            go_region_held2 (fun w' => w'.cell? ⟨w.heap.size, 1, none⟩ = some (.int .i64 x) ∧ w'.cell? ⟨w.heap.size, 2, none⟩ = some (.int .i64 y)) (go_keep) (first | (go_at_call 42; refine (hw _ m3d).mono ?_; rintro e V4 ⟨rfl, g4⟩; have m4 := F.grown m3d g4; have B4 := B3d.kept g4 (by simp); have b4_0 := B4.cell 0 (v := .int .u8 k) rfl; have b4_1 := B4.cell 1 (v := .int .i64 x) rfl; have b4_2 := B4.cell 2 (v := .int .i64 y) rfl; have b4_3 := B4.cell 3 (v := .int .u8 t) rfl; have b4_4 := B4.cell 4 (v := .int .i64 z) rfl) | (go_at_call 43; refine (hh _ m4).mono ?_; rintro e V5 ⟨rfl, g5⟩; have B5 := B4.kept g5 (by simp); have b5_0 := B5.cell 0 (v := .int .u8 k) rfl; have b5_1 := B5.cell 1 (v := .int .i64 x) rfl; have b5_2 := B5.cell 2 (v := .int .i64 y) rfl; have b5_3 := B5.cell 3 (v := .int .u8 t) rfl; have b5_4 := B5.cell 4 (v := .int .i64 z) rfl))
            all_goals go_wp2
            all_goals go_ret
            all_goals exact ⟨rfl, gb_trans g1 (gb_trans g2 (gb_trans (gb_drew g3) (gb_trans g4 g5)))⟩
          · have hX : cgE k x y t z C R = 21 := by unfold cgE; rw [if_neg hc0, if_neg hN, if_pos (by omega)]
            rw [hX]
            have qx : (x != (C : Int)) = false := by simp [hxC]
            have qy : (y != (R : Int)) = true := by simp; omega
            clear hX hc0 hE hx0 hy0 hN hxC hyR
            go_enter Tryz.func57, Tryz.ntmps57
            go_wp2_with (first | ((fail_if_success (guard_hyp g2)); go_at_call 42; refine (hw _ m1).mono ?_; rintro e V1 ⟨rfl, g2⟩; have m2 := F.grown m1 g2; have B2 := B1.kept g2 (by simp); have b2_0 := B2.cell 0 (v := .int .u8 k) rfl; have b2_1 := B2.cell 1 (v := .int .i64 x) rfl; have b2_2 := B2.cell 2 (v := .int .i64 y) rfl; have b2_3 := B2.cell 3 (v := .int .u8 t) rfl; have b2_4 := B2.cell 4 (v := .int .i64 z) rfl) | (go_at_call 82; refine (he V1).mono ?_; rintro e V2 ⟨rfl, g3⟩; have m3 := F.grown m2 g3; have B3 := B2.kept g3 (by simp); have b3_0 := B3.cell 0 (v := .int .u8 k) rfl; have b3_1 := B3.cell 1 (v := .int .i64 x) rfl; have b3_2 := B3.cell 2 (v := .int .i64 y) rfl; have b3_3 := B3.cell 3 (v := .int .u8 t) rfl; have b3_4 := B3.cell 4 (v := .int .i64 z) rfl))
            have m3d : M V2.drew := F.grown m3 (gb_drew (World.grownBy.refl _ _))
            have B3d := B3.dr
            go_region_held2 (fun w' => w'.cell? ⟨w.heap.size, 1, none⟩ = some (.int .i64 x) ∧ w'.cell? ⟨w.heap.size, 2, none⟩ = some (.int .i64 y)) (go_keep) (first | (go_at_call 42; refine (hw _ m3d).mono ?_; rintro e V4 ⟨rfl, g4⟩; have m4 := F.grown m3d g4; have B4 := B3d.kept g4 (by simp); have b4_0 := B4.cell 0 (v := .int .u8 k) rfl; have b4_1 := B4.cell 1 (v := .int .i64 x) rfl; have b4_2 := B4.cell 2 (v := .int .i64 y) rfl; have b4_3 := B4.cell 3 (v := .int .u8 t) rfl; have b4_4 := B4.cell 4 (v := .int .i64 z) rfl) | (go_at_call 43; refine (hh _ m4).mono ?_; rintro e V5 ⟨rfl, g5⟩; have B5 := B4.kept g5 (by simp); have b5_0 := B5.cell 0 (v := .int .u8 k) rfl; have b5_1 := B5.cell 1 (v := .int .i64 x) rfl; have b5_2 := B5.cell 2 (v := .int .i64 y) rfl; have b5_3 := B5.cell 3 (v := .int .u8 t) rfl; have b5_4 := B5.cell 4 (v := .int .i64 z) rfl))
            all_goals go_wp2
            all_goals go_ret
            all_goals exact ⟨rfl, gb_trans g1 (gb_trans g2 (gb_trans (gb_drew g3) (gb_trans g4 g5)))⟩
        · have hX : cgE k x y t z C R = 21 := by unfold cgE; rw [if_neg hc0, if_neg hN, if_pos (by omega)]
          rw [hX]
          have qx : (x != (C : Int)) = true := by simp; omega
          have qx2 : binOp .neq 3 (.int .i64 x) (.int .i64 (C : Nat)) = pure (.bool true) := by rw [binOp_neq, qx]
          clear hX hc0 hE hx0 hy0 hN hxC qx
          go_enter Tryz.func57, Tryz.ntmps57
          go_wp2_with (first | ((fail_if_success (guard_hyp g2)); go_at_call 42; refine (hw _ m1).mono ?_; rintro e V1 ⟨rfl, g2⟩; have m2 := F.grown m1 g2; have B2 := B1.kept g2 (by simp); have b2_0 := B2.cell 0 (v := .int .u8 k) rfl; have b2_1 := B2.cell 1 (v := .int .i64 x) rfl; have b2_2 := B2.cell 2 (v := .int .i64 y) rfl; have b2_3 := B2.cell 3 (v := .int .u8 t) rfl; have b2_4 := B2.cell 4 (v := .int .i64 z) rfl) | (go_at_call 82; refine (he V1).mono ?_; rintro e V2 ⟨rfl, g3⟩; have m3 := F.grown m2 g3; have B3 := B2.kept g3 (by simp); have b3_0 := B3.cell 0 (v := .int .u8 k) rfl; have b3_1 := B3.cell 1 (v := .int .i64 x) rfl; have b3_2 := B3.cell 2 (v := .int .i64 y) rfl; have b3_3 := B3.cell 3 (v := .int .u8 t) rfl; have b3_4 := B3.cell 4 (v := .int .i64 z) rfl))
          have m3d : M V2.drew := F.grown m3 (gb_drew (World.grownBy.refl _ _))
          have B3d := B3.dr
          (first | go_region_with (first | (go_at_call 42; refine (hw _ m3d).mono ?_; rintro e V4 ⟨rfl, g4⟩; have m4 := F.grown m3d g4; have B4 := B3d.kept g4 (by simp); have b4_0 := B4.cell 0 (v := .int .u8 k) rfl; have b4_1 := B4.cell 1 (v := .int .i64 x) rfl; have b4_2 := B4.cell 2 (v := .int .i64 y) rfl; have b4_3 := B4.cell 3 (v := .int .u8 t) rfl; have b4_4 := B4.cell 4 (v := .int .i64 z) rfl) | (go_at_call 43; refine (hh _ m4).mono ?_; rintro e V5 ⟨rfl, g5⟩; have B5 := B4.kept g5 (by simp); have b5_0 := B5.cell 0 (v := .int .u8 k) rfl; have b5_1 := B5.cell 1 (v := .int .i64 x) rfl; have b5_2 := B5.cell 2 (v := .int .i64 y) rfl; have b5_3 := B5.cell 3 (v := .int .u8 t) rfl; have b5_4 := B5.cell 4 (v := .int .i64 z) rfl)) | fail)
          all_goals go_wp2
          all_goals go_ret
          all_goals exact ⟨rfl, gb_trans g1 (gb_trans g2 (gb_trans (gb_drew g3) g4))⟩
  · have hX : cgE k x y t z C R = 9 := if_pos (by rw [hE]; exact h1)
    rw [hX]
    have h1' : (E == 0) = false := by simpa using h1
    have h1'' : decide (E = 0) = false := decide_eq_false h1
    rw [h1''] at he
    simp only [Bool.false_and] at he
    clear h1 h1'' hE hX
    go_enter Tryz.func57, Tryz.ntmps57
    go_wp2_with (first | (go_at_call 42; refine (hw _ m1).mono ?_; rintro e V1 ⟨rfl, g2⟩; have B2 := B1.kept g2 (by simp); have b2_0 := B2.cell 0 (v := .int .u8 k) rfl; have b2_1 := B2.cell 1 (v := .int .i64 x) rfl; have b2_2 := B2.cell 2 (v := .int .i64 y) rfl; have b2_3 := B2.cell 3 (v := .int .u8 t) rfl; have b2_4 := B2.cell 4 (v := .int .i64 z) rfl) | (go_at_call 82; refine (he V1).mono ?_; rintro e V2 ⟨rfl, g3⟩))
    go_ret
    exact ⟨rfl, gb_trans g1 (gb_trans g2 g3)⟩
end Go.Proofs.YthjiiljglgmkpaaGreatDoor
namespace Go.Proofs.YthjiiljglgmkpaaGreatDoor
open Go.RowKit
set_option linter.unusedVariables false
set_option linter.unusedSimpArgs false
set_option maxRecDepth 100000

theorem bo3 {w : World} {g : Nat} {t : TypeId} {x y z u v p : Value} (h : Bo w g t #[x, y, z]) : Bo (((w.setCell ⟨g, 0, none⟩ u).setCell ⟨g, 1, none⟩ v).setCell ⟨g, 2, none⟩ p) g t #[u, v, p] := by simpa using ((h.set 0 u).set 1 v).set 2 p
theorem gb3 {w w' : World} (h : w.grownBy w' none) {b : Nat} (hb : w.heap.size ≤ b) {u v p : Value} : w.grownBy (((w'.setCell ⟨b, 0, none⟩ u).setCell ⟨b, 1, none⟩ v).setCell ⟨b, 2, none⟩ p) none := gb_new (gb_new (gb_new h hb _) hb _) hb _
/-- The states of a row. -/
theorem statesC {M : World → Prop} {n0 b C R S : Nat} {g : Nat → Nat} (F : FdM M n0 b C R S g) (y : Nat) (hy : y < R) (w : World) (hM : M w) : Calls Tryz.prog 87 #[.pointer (some ⟨b, 0, none⟩), .int .i64 (y : Nat)] w fun e w' => ∃ d, e = .returned (.slice (some ⟨d, 0, none⟩) C C) ∧ w'.rowIs d 5 C (fun x => .int .u8 (g (y * C + x) : Nat)) ∧ w.heap.size ≤ d ∧ w.grownBy w' none := by
  have hl := F.line y hy w hM
  go_enter Tryz.func87, Tryz.ntmps87
  go_wp2_with (go_at_call 35; refine hl.mono ?_; rintro e V1 ⟨d, rfl, h1, h2, h3⟩)
  go_ret
  exact ⟨d, rfl, h1, h2, h3⟩
end Go.Proofs.YthjiiljglgmkpaaGreatDoor
namespace Go.Proofs.YthjiiljglgmkpaaGreatDoor
open Go.RowKit
set_option linter.unusedVariables false
set_option linter.unusedSimpArgs false
set_option maxRecDepth 100000

theorem cg_gr {k t z : Int} {C R : Nat} (G : Gr k t z C R) : cgE k C R t z C R = 0 := by
  have := G.r0
  have := G.c0
  unfold cgE
  rw [if_neg (by rw [G.chk]; simp), if_neg (by omega), if_neg (by simp)]
/-- Which cells of a row live. -/
theorem livingR {M : World → Prop} {n0 b C R S : Nat} {g : Nat → Nat} (F : FdM M n0 b C R S g) (hC : C ≤ 65536) (h256 : ∀ i, g i < 256) (y : Nat) (hy : y < R) (w : World) (hM : M w) : Calls Tryz.prog 60 #[.pointer (some ⟨b, 0, none⟩), .int .i64 (y : Nat)] w fun e w' => ∃ d, e = .returned (.slice (some ⟨d, 0, none⟩) C C) ∧ w'.rowIs d 4 C (fun x => .bool (lvB (g (y * C + x)))) ∧ w.heap.size ≤ d ∧ w.grownBy w' none := by
  have hs := statesC F y hy w hM
  have hmk := run_make_row' (P := Tryz.prog) 112 4 (.bool false) 1 underbS' infob' rfl .i64 .i64 C (by omega) (by omega)
  go_enter Tryz.func60, Tryz.ntmps60
  go_wp2_with (go_at_call 87; refine hs.mono ?_; rintro e V1 ⟨d, rfl, h1, h2, h3⟩; obtain ⟨V2, hV2, sz2, g2, B2⟩ := boxn V1 (madeCells #[.bool false] C) 4; have hr2 := World.rowIs_made V1 (.bool false) C 4; rw [hV2] at hr2)
  have lt1 : d < V1.heap.size := by
    obtain ⟨c, hc, _⟩ := h1
    exact (Array.getElem?_eq_some_iff.1 hc).1
  go_loopw [17] (fun i wr => ∃ q : Nat, q ≤ C ∧ i = .int .i64 (q : Nat) ∧ wr.rowIs V1.heap.size 4 C (fun x => if x < q then .bool (lvB (g (y * C + x))) else .bool false) ∧ V2.grownBy wr (some V1.heap.size)) (fun i _ => C - (intOf i).toNat)
  case atStart => exact ⟨0, Nat.zero_le _, rfl, hr2.congr (fun x _ => by rw [if_neg (by omega)]), World.grownBy.refl _ _⟩
  case round =>
    obtain ⟨q, hq, rfl, hrow, gw⟩ := hrel
    by_cases hlt : q < C
    · have hi1 : (q : Int) < (C : Int) := by omega
      have hln := rowIs_kept (rowIs_kept h1 g2 (by simp)) gw (by simp; omega)
      have hc := hln.cell hlt
      have hd := hrow.cell hlt
      have hf := hrow.frozen q
      have hlv : (((g (y * C + q) : Nat) : Int) != 0) = lvB (g (y * C + q)) := by
        unfold lvB
        by_cases h0 : g (y * C + q) = 0
        · simp [h0]
        · have : ((g (y * C + q) : Nat) : Int) ≠ 0 := by omega
          simp [h0]
      go_wp2
      go_roundw
      case rel =>
        refine ⟨q + 1, hlt, by go_num, (hrow.set q _).congr (fun x _ => ?_), gb_set gw _ _⟩
        by_cases hx : x = q
        · subst hx
          rw [if_pos rfl, if_pos (by omega)]
        · rw [if_neg hx]
          by_cases h4 : x < q
          · rw [if_pos h4, if_pos (by omega)]
          · rw [if_neg h4, if_neg (by omega)]
      case measure => simp [intOf]; omega
    · obtain rfl : q = C := by omega
      go_wp2
      go_ret
      exact ⟨V1.heap.size, rfl, hrow.congr (fun x hx => by rw [if_pos hx]), h3.size, gb_past (gb_trans h3 g2) gw h3.size⟩
theorem rows1C {M : World → Prop} {n0 b C R S : Nat} {g : Nat → Nat} (F : FdM M n0 b C R S g) (hC : C ≤ 65536) (h256 : ∀ i, g i < 256) (bf : Nat) (y : Nat) (hy : y < R) (w : World) (hM : M w) (hb : Bo w bf 22 #[.pointer (some ⟨b, 0, none⟩)]) : Calls Tryz.prog 59 #[.int .i64 (y : Nat), .pointer (some ⟨bf, 0, none⟩)] w fun e w' => ∃ d, e = .returned (.slice (some ⟨d, 0, none⟩) C C) ∧ w'.rowIs d 4 C (fun x => .bool (lvB (g (y * C + x)))) ∧ w.heap.size ≤ d ∧ w.grownBy w' none := by
  have hs := livingR F hC h256 y hy w hM
  have h0 := hb.cell 0 (v := .pointer (some ⟨b, 0, none⟩)) rfl
  go_enter Tryz.func59, Tryz.ntmps59
  go_wp2_with (go_at_call 60; refine hs.mono ?_; rintro e V1 ⟨d, rfl, h1, h2, h3⟩)
  go_ret
  exact ⟨d, rfl, h1, h2, h3⟩
set_option maxHeartbeats 1000000 in
theorem rowsX (k x y t z E : Int) (p : Option Addr) (w : World) (hE : (E == 0) = false) (hc : ∀ w', w.grownBy w' none → Calls Tryz.prog 57 #[.agg #[.int .u8 k, .int .i64 x, .int .i64 y, .int .u8 t, .int .i64 z], .pointer p] w' fun e w2 => e = .returned (.int .i64 E) ∧ w'.grownBy w2 none) :
    Calls Tryz.prog 28 #[.agg #[.int .u8 k, .int .i64 x, .int .i64 y, .int .u8 t, .int .i64 z], .pointer p] w fun e w' => e = .returned (.tuple #[.slice none 0 0, .int .i64 E]) ∧ w.grownBy w' none := by
  obtain ⟨W1, hW1, sz1, g1, B1⟩ := boxn w #[.int .u8 k, .int .i64 x, .int .i64 y, .int .u8 t, .int .i64 z] 30
  obtain ⟨W2, hW2, sz2, g2, B2⟩ := boxn W1 #[.pointer p] 22
  have G2 := gb_trans g1 g2
  have T2 := B1.kept g2 (by simp)
  have F2 := B2
  have t2_0 := T2.cell 0 (v := .int .u8 k) rfl
  have t2_1 := T2.cell 1 (v := .int .i64 x) rfl
  have t2_2 := T2.cell 2 (v := .int .i64 y) rfl
  have t2_3 := T2.cell 3 (v := .int .u8 t) rfl
  have t2_4 := T2.cell 4 (v := .int .i64 z) rfl
  have f2 := F2.cell 0 (v := .pointer p) rfl
  have hc2 := hc W2 G2
  go_enter Tryz.func28, Tryz.ntmps28
  go_wp2_with (go_at_call 57; refine hc2.mono ?_; rintro e V1 ⟨rfl, g4⟩)
  go_ret2
  exact ⟨rfl, gb_trans G2 g4⟩
set_option maxHeartbeats 1000000 in
theorem rowsP {k t z : Int} {C R : Nat} (G : Gr k t z C R) {M : World → Prop} {n0 b S : Nat} {g : Nat → Nat} (F : FdM M n0 b C R S g) (hS : 2 < S) (w : World) (hM : M w) :
    Calls Tryz.prog 28 #[.agg #[.int .u8 k, .int .i64 (C : Nat), .int .i64 (R : Nat), .int .u8 t, .int .i64 z], .pointer (some ⟨b, 0, none⟩)] w fun e w' => e = .returned (.tuple #[.slice none 0 0, .int .i64 132]) ∧ w.grownBy w' none := by
  have hc0 := G.c0
  have hcg := cg_gr G
  obtain ⟨W1, hW1, sz1, g1, B1⟩ := boxn w #[.int .u8 k, .int .i64 (C : Nat), .int .i64 (R : Nat), .int .u8 t, .int .i64 z] 30
  obtain ⟨W2, hW2, sz2, g2, B2⟩ := boxn W1 #[.pointer (some ⟨b, 0, none⟩)] 22
  have G2 := gb_trans g1 g2
  have T2 := B1.kept g2 (by simp)
  have F2 := B2
  have t2_0 := T2.cell 0 (v := .int .u8 k) rfl
  have t2_1 := T2.cell 1 (v := .int .i64 (C : Nat)) rfl
  have t2_2 := T2.cell 2 (v := .int .i64 (R : Nat)) rfl
  have t2_3 := T2.cell 3 (v := .int .u8 t) rfl
  have t2_4 := T2.cell 4 (v := .int .i64 z) rfl
  have f2 := F2.cell 0 (v := .pointer (some ⟨b, 0, none⟩)) rfl
  have M2 := F.grown hM G2
  have hc2 := checkGridC F hc0 k C R t z G.t0 W2 M2
  rw [hcg] at hc2
  have hS' : (2 : Int) < (S : Int) := by omega
  go_enter Tryz.func28, Tryz.ntmps28
  go_wp2_with (first | (go_at_call 57; refine hc2.mono ?_; rintro e V1 ⟨rfl, g4⟩; have F4 := F2.kept g4 (by simp); have f4 := F4.cell 0 (v := .pointer (some ⟨b, 0, none⟩)) rfl; have M4 := F.grown M2 g4) | (go_at_call 44; refine (F.states V1 M4).mono ?_; rintro e V2 ⟨rfl, g5⟩))
  go_ret2
  exact ⟨rfl, gb_trans G2 (gb_trans g4 g5)⟩
end Go.Proofs.YthjiiljglgmkpaaGreatDoor
namespace Go.Proofs.YthjiiljglgmkpaaGreatDoor
open Go.RowKit
set_option linter.unusedVariables false
set_option linter.unusedSimpArgs false
set_option maxRecDepth 100000

/-- How many words hold so many bits. -/
def nwN (m : Nat) : Nat := (m + 63) / 64
theorem underRS : Tryz.prog.underlying 67 = some (.slice 33) := by first | exact Tryz.underlying67 | kernel_rfl
theorem infoRW : (Tryz.prog.info? 33).map (fun i => (i.zero, i.size, i.bytes)) = some (some (.agg #[.int .i64 0, .slice none 0 0]), 2, 32) := by kernel_rfl
/-- The cells of a list of rows, of which the first q are laid. -/
def rwC (m : Nat) (wb : Nat → Nat) (q c : Nat) : Value := if c / 2 < q then (if c % 2 = 0 then .int .i64 (m : Nat) else .slice (some ⟨wb (c / 2), 0, none⟩) (nwN m) (nwN m)) else (if c % 2 = 0 then .int .i64 0 else .slice none 0 0)
theorem rwC_step (m : Nat) (wb : Nat → Nat) (q b' c : Nat) : (if c = q * 2 + 1 then (.slice (some ⟨b', 0, none⟩) (nwN m) (nwN m) : Value) else if c = q * 2 then .int .i64 (m : Nat) else rwC m wb q c) = rwC m (fun j => if j = q then b' else wb j) (q + 1) c := by
  unfold rwC
  dsimp only
  by_cases h1 : c = q * 2 + 1
  · rw [if_pos h1, if_pos (show c / 2 < q + 1 by omega), if_neg (show ¬ c % 2 = 0 by omega), if_pos (show c / 2 = q by omega)]
  · rw [if_neg h1]
    by_cases h2 : c = q * 2
    · rw [if_pos h2, if_pos (show c / 2 < q + 1 by omega), if_pos (show c % 2 = 0 by omega)]
    · rw [if_neg h2]
      by_cases h3 : c / 2 < q
      · rw [if_pos h3, if_pos (show c / 2 < q + 1 by omega), if_neg (show ¬ c / 2 = q by omega)]
      · rw [if_neg h3, if_neg (show ¬ c / 2 < q + 1 by omega)]
theorem make2 (n : Nat) (hn : n ≤ 65538) (w : World) : (Instr.makeSlice 67 (.int .i64 (n : Int)) (.int .i64 (n : Int))).run Tryz.prog w = .ok (.slice (some ⟨w.heap.size, 0, none⟩) n n) (w.alloc (.cells (madeCells #[.int .i64 0, .slice none 0 0] (n * 2)) 33)) := by
  obtain ⟨i, hi, hzz⟩ := Option.map_eq_some_iff.1 infoRW
  simp only [Prod.mk.injEq] at hzz
  obtain ⟨hz, hs, hb⟩ := hzz
  have hr := run_make (P := Tryz.prog) w 67 33 i _ underRS hi hz .i64 .i64 n n (by omega) (Int.le_refl _) (by rw [hb]; omega) (by omega)
  simp only [Int.toNat_natCast, hs] at hr
  exact hr
theorem made2 (w : World) (n m : Nat) (wb : Nat → Nat) : (w.alloc (.cells (madeCells #[.int .i64 0, .slice none 0 0] (n * 2)) 33)).rowIs w.heap.size 33 (2 * n) (rwC m wb 0) := by
  refine ⟨_, heap_alloc_new _ _, by rw [size_madeCells]; omega, fun i hi => ?_⟩
  unfold rwC
  rw [if_neg (by omega)]
  have h1 : i < n * 2 := by omega
  rcases Nat.mod_two_eq_zero_or_one i with h | h
  · simp [madeCells, h1, h]
  · simp [madeCells, h1, h]
set_option maxHeartbeats 1000000 in
theorem rowsY {k t z : Int} {C R : Nat} (G : Gr k t z C R) (hall : C * R ≤ 1048576) {M : World → Prop} {n0 b S : Nat} {g : Nat → Nat} (F : FdM M n0 b C R S g) (h256 : ∀ i, g i < 256) (hS : S ≤ 2) (w : World) (hn0 : n0 ≤ w.heap.size) (hM : M w) :
    Calls Tryz.prog 28 #[.agg #[.int .u8 k, .int .i64 (C : Nat), .int .i64 (R : Nat), .int .u8 t, .int .i64 z], .pointer (some ⟨b, 0, none⟩)] w fun e w' => ∃ rb wb, e = .returned (.tuple #[.slice (some ⟨rb, 0, none⟩) (R + 2) (R + 2), .int .i64 0]) ∧ w'.rowIs rb 33 (2 * (R + 2)) (rwC (C + 2) wb (R + 2)) ∧ w.heap.size ≤ rb ∧ (∀ i, i < R + 2 → w.heap.size ≤ wb i ∧ wb i ≠ rb ∧ Row w' 37 (wb i) (nwN (C + 2)) (fun j => decide (j < C + 2) && lvB (frV k t z C R g (i * (C + 2) + j)))) ∧ (∀ i j, i < R + 2 → j < R + 2 → wb i = wb j → i = j) ∧ w.grownBy w' none := by
  have hc0 := G.c0
  have c1 := G.c1
  have r1 := G.r1
  have hcg := cg_gr G
  obtain ⟨W1, hW1, sz1, g1, B1⟩ := boxn w #[.int .u8 k, .int .i64 (C : Nat), .int .i64 (R : Nat), .int .u8 t, .int .i64 z] 30
  obtain ⟨W2, hW2, sz2, g2, B2⟩ := boxn W1 #[.pointer (some ⟨b, 0, none⟩)] 22
  have G2 := gb_trans g1 g2
  have T2 := B1.kept g2 (by simp)
  have F2 := B2
  have t2_0 := T2.cell 0 (v := .int .u8 k) rfl
  have t2_1 := T2.cell 1 (v := .int .i64 (C : Nat)) rfl
  have t2_2 := T2.cell 2 (v := .int .i64 (R : Nat)) rfl
  have t2_3 := T2.cell 3 (v := .int .u8 t) rfl
  have t2_4 := T2.cell 4 (v := .int .i64 z) rfl
  have f2 := F2.cell 0 (v := .pointer (some ⟨b, 0, none⟩)) rfl
  have M2 := F.grown hM G2
  have hc2 := checkGridC F hc0 k C R t z G.t0 W2 M2
  rw [hcg] at hc2
  have hmk := fun w => make2 (R + 2) (by omega) w
  have eR : ((R + 2 : Nat) : Int) = (R : Int) + 2 := by omega
  simp only [eR] at hmk
  clear eR
  have hS' : decide ((2 : Int) < (S : Int)) = false := decide_eq_false (by omega)
  go_enter Tryz.func28, Tryz.ntmps28
  go_wp2_with (first | (go_at_call 57; refine hc2.mono ?_; rintro e V1 ⟨rfl, g4⟩; have F4 := F2.kept g4 (by simp); have T4 := T2.kept g4 (by simp); have f4 := F4.cell 0 (v := .pointer (some ⟨b, 0, none⟩)) rfl; have M4 := F.grown M2 g4) | (go_at_call 44; refine (F.states V1 M4).mono ?_; rintro e V2 ⟨rfl, g5⟩; have F5 := F4.kept g5 (by simp); have T5 := T4.kept g5 (by simp); have M5 := F.grown M4 g5; have t5_0 := T5.cell 0 (v := .int .u8 k) rfl; have t5_1 := T5.cell 1 (v := .int .i64 (C : Nat)) rfl; have t5_2 := T5.cell 2 (v := .int .i64 (R : Nat)) rfl; have t5_3 := T5.cell 3 (v := .int .u8 t) rfl; have t5_4 := T5.cell 4 (v := .int .i64 z) rfl; have hfr := framed_b G g W1.heap.size (fun X => M X ∧ Bo X W1.heap.size 22 #[.pointer (some ⟨b, 0, none⟩)]) V2 ⟨M5, F5⟩ (fun X Y q h hg hq => ⟨F.kept X Y q h.1 hg (fun i e => by have := hq i e; have := g4.size; have := g5.size; have := G2.size; omega), h.2.kept hg (fun e => by have := hq _ e.symm; have := F5.lt; omega)⟩) (fun y hy X h => rows1C F c1 h256 W1.heap.size y hy X h.1 h.2)) | (go_at_call 58; refine hfr.mono ?_; rintro e V3 ⟨d, rfl, r5, ld, g6⟩; have T6 := T5.kept g6 (by simp); have t6_0 := T6.cell 0 (v := .int .u8 k) rfl; have t6_1 := T6.cell 1 (v := .int .i64 (C : Nat)) rfl; have t6_2 := T6.cell 2 (v := .int .i64 (R : Nat)) rfl; have t6_3 := T6.cell 3 (v := .int .u8 t) rfl; have t6_4 := T6.cell 4 (v := .int .i64 z) rfl; obtain ⟨V4, hV4, sz4, g7, BV4⟩ := boxn V3 (madeCells #[.int .i64 0, .slice none 0 0] ((R + 2) * 2)) 33; have T7 := T6.kept g7 (by simp)))
  have lw : w.heap.size ≤ V3.heap.size := by have := G2.size; have := g4.size; have := g5.size; have := g6.size; omega
  have G7 := gb_trans G2 (gb_trans g4 (gb_trans g5 (gb_trans g6 g7)))
  have ldlt : d < V3.heap.size := by
    obtain ⟨c, hc, _⟩ := r5
    exact (Array.getElem?_eq_some_iff.1 hc).1
  have lT := T6.lt
  have r7 := rowIs_kept r5 g7 (by simp)
  have hm0 := made2 V3 (R + 2) (C + 2) (fun _ => 0)
  rw [hV4] at hm0
  have lV : V3.heap.size < V4.heap.size := BV4.lt
  obtain ⟨m, hm⟩ : ∃ m, C + 2 = m := ⟨_, rfl⟩
  have hmI : (C : Int) + 2 = (m : Int) := by omega
  have hmb : m ≤ 65538 := by omega
  go_loopw [28] (fun i wr => ∃ (q : Nat) (wb : Nat → Nat), q ≤ R + 2 ∧ i = .int .i64 (q : Nat) ∧ wr.rowIs V3.heap.size 33 (2 * (R + 2)) (rwC (C + 2) wb q) ∧ (∀ i, i < q → V4.heap.size ≤ wb i ∧ Row wr 37 (wb i) (nwN (C + 2)) (fun j => decide (j < C + 2) && lvB (frV k t z C R g (i * (C + 2) + j)))) ∧ (∀ i j, i < q → j < q → wb i = wb j → i = j) ∧ V4.grownBy wr (some V3.heap.size)) (fun i _ => R + 2 - (intOf i).toNat)
  case atStart => exact ⟨0, fun _ => 0, Nat.zero_le _, rfl, hm0, fun i hi => absurd hi (Nat.not_lt_zero _), fun i j hi => absurd hi (Nat.not_lt_zero _), World.grownBy.refl _ _⟩
  case round =>
    obtain ⟨q, wb, hq, rfl, hrow, hws, hinj, gw⟩ := hrel
    have Tq := T7.kept gw (by simp; omega)
    have tq_0 := Tq.cell 0 (v := .int .u8 k) rfl
    have tq_1 := Tq.cell 1 (v := .int .i64 (C : Nat)) rfl
    have tq_2 := Tq.cell 2 (v := .int .i64 (R : Nat)) rfl
    have tq_3 := Tq.cell 3 (v := .int .u8 t) rfl
    have tq_4 := Tq.cell 4 (v := .int .i64 z) rfl
    by_cases hlt : q < R + 2
    · have hi1 : (q : Int) < (R : Int) + 2 := by omega
      have hmul : q * m + m ≤ (C + 2) * (R + 2) := by
        have h1 := Nat.mul_le_mul_right m (show q + 1 ≤ R + 2 from hlt)
        rw [Nat.succ_mul] at h1
        rw [hm, Nat.mul_comm m]
        exact h1
      have hnb : (C + 2) * (R + 2) ≤ 65538 * 65538 := Nat.mul_le_mul (by omega) (by omega)
      obtain ⟨n, hn⟩ : ∃ n, (C + 2) * (R + 2) = n := ⟨_, rfl⟩
      obtain ⟨lo, hlo⟩ : ∃ lo, q * m = lo := ⟨_, rfl⟩
      have w1 : IntKind.i64.wrap ((q : Int) * (m : Int)) = (lo : Int) := by
        rw [← Int.natCast_mul, hlo, IntKind.wrap_i64]; omega
      have w2 : IntKind.i64.wrap (((q : Int) + 1) * (m : Int)) = (lo : Int) + (m : Int) := by
        have e : ((q : Int) + 1) * (m : Int) = ((q * m + m : Nat) : Int) := by rw [Int.add_mul, Int.one_mul, Int.natCast_add, Int.natCast_mul]
        rw [e, hlo, IntKind.wrap_i64]; omega
      rw [hlo, hn] at hmul
      rw [hn] at hnb
      have b1 : (0 : Int) ≤ (lo : Int) := by omega
      have b2 : (lo : Int) ≤ (lo : Int) + (m : Int) := by omega
      have b3 : (lo : Int) + (m : Int) ≤ (n : Int) := by omega
      have hrq := rowIs_kept r7 gw (by simp; omega)
      have hof := fun (X : World) (hX : wr.grownBy X none) cap => Wo.ofC m cap (some ⟨d, lo, none⟩) (fun j => lvB (frV k t z C R g (lo + j))) hmb X (fun j hj => ⟨_, rfl, by rw [add_mid]; exact hX.cell (hrq.cell (by rw [hn]; omega)) (by simp)⟩)
      rw [hn]
      go_wp2_with (go_at_call 61; refine (hof wr (World.grownBy.refl _ _) _).mono ?_; rintro e X1 ⟨b', rfl, hR, gX, lX⟩; have rX := rowIs_kept hrow gX (by simp); have z0 := rX.cell (i := q * 2) (by omega); have z1 := rX.cell (i := q * 2 + 1) (by omega); have y0 := rX.frozen (q * 2); have y1 := rX.frozen (q * 2 + 1))
      go_roundw
      case rel =>
        have gs := gw.size
        have hb' : b' ≠ V3.heap.size := by omega
        refine ⟨q + 1, fun j => if j = q then b' else wb j, hlt, by go_num, ((rX.set (q * 2) _).set (q * 2 + 1) _).congr (fun c hc => ?_), fun i hi => ?_, fun i j hi hj he => ?_, gb_set (gb_set (gb_none gw gX) _ _) _ _⟩
        · have := rwC_step (C + 2) wb q b' c
          rw [← this]
          unfold nwN
          rw [hm]
        · dsimp only
          by_cases h1 : i = q
          · subst h1
            rw [if_pos rfl]
            refine ⟨by omega, Row.congr (n := nwN (C + 2)) (World.rowIs.setOther (World.rowIs.setOther ?_ hb' _) hb' _) (fun j _ => ?_) (p := fun j => decide (j < m) && lvB (frV k t z C R g (lo + j)))⟩
            · have := hR
              unfold Row at this
              rw [← hm] at this ⊢
              exact this
            · rw [← hm] at hlo ⊢
              rw [← hlo]
          · rw [if_neg h1]
            obtain ⟨h2, h3⟩ := hws i (by omega)
            have h4 : wb i ≠ V3.heap.size := by omega
            exact ⟨h2, World.rowIs.setOther (World.rowIs.setOther (h3.kept gX (by simp)) h4 _) h4 _⟩
        · dsimp only at he
          have hbw : ∀ i, i < q → wb i < wr.heap.size := fun i hi => by
            obtain ⟨c, hc, _⟩ := (hws i hi).2
            exact (Array.getElem?_eq_some_iff.1 hc).1
          by_cases h1 : i = q
          · by_cases h2 : j = q
            · omega
            · rw [if_pos h1, if_neg h2] at he
              have := hbw j (by omega)
              omega
          · by_cases h2 : j = q
            · rw [if_neg h1, if_pos h2] at he
              have := hbw i (by omega)
              omega
            · rw [if_neg h1, if_neg h2] at he
              exact hinj i j (by omega) (by omega) he
      case measure => simp [intOf]; omega
    · obtain rfl : q = R + 2 := by omega
      go_wp2
      go_ret2
      exact ⟨V3.heap.size, wb, rfl, hrow, lw, fun i hi => ⟨by have := (hws i hi).1; omega, by have := (hws i hi).1; omega, (hws i hi).2⟩, hinj, gb_past G7 gw lw⟩
end Go.Proofs.YthjiiljglgmkpaaGreatDoor
