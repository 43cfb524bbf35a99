/- checkGrid of package ring. -/
import Derived.Test.YtjndljjpbkfmiaaGreatDoorK4u
import Derived.Test.YtjndljjpbkfmiaaGreatDoorZ1
namespace Go.Proofs.YtjndljjpbkfmiaaGreatDoor
open Go.RowKit
set_option linter.unusedVariables false
set_option linter.unusedSimpArgs false
set_option maxRecDepth 100000

/-- A field, by what its calls answer: M holds of a world in which it lies. -/
structure FdM (M : World → Prop) (n0 b C R S : Nat) (g : Nat → Nat) : Prop where
  kept : ∀ X Y q, M X → X.grownBy Y q → (∀ i, q = some i → n0 ≤ i) → M Y
  wide : ∀ X, M X → Calls Tryz.prog 41 #[.pointer (some ⟨b, 0, none⟩)] X fun e Y => e = .returned (.int .i64 (C : Nat)) ∧ X.grownBy Y none
  high : ∀ X, M X → Calls Tryz.prog 42 #[.pointer (some ⟨b, 0, none⟩)] X fun e Y => e = .returned (.int .i64 (R : Nat)) ∧ X.grownBy Y none
  states : ∀ X, M X → Calls Tryz.prog 43 #[.pointer (some ⟨b, 0, none⟩)] X fun e Y => e = .returned (.int .i64 (S : Nat)) ∧ X.grownBy Y none
  line : ∀ y, y < R → ∀ X, M X → Calls Tryz.prog 40 #[.pointer (some ⟨b, 0, none⟩), .int .i64 (y : Nat)] X fun e Y => ∃ d, e = .returned (.tuple #[.slice (some ⟨d, 0, none⟩) C C, .int .i64 0]) ∧ Y.rowIs d 5 C (fun x => .int .u8 (g (y * C + x) : Nat)) ∧ X.heap.size ≤ d ∧ X.grownBy Y none
theorem FdM.grown {M : World → Prop} {n0 b C R S : Nat} {g : Nat → Nat} (F : FdM M n0 b C R S g) {X Y : World} (h : M X) (hg : X.grownBy Y none) : M Y := F.kept X Y none h hg (fun i e => by cases e)
/-- What checkGrid answers. -/
def cgE (k x y t z : Int) (C R : Nat) : Int := if ¬ Tp.chk k x y t z = 0 then 9 else if x = 0 ∨ y = 0 then 42 else if ¬ (x = C ∧ y = R) then 21 else 0
set_option maxHeartbeats 1000000 in
theorem checkGridN (k x y t z : Int) (p : Option Addr) (w : World) (hp : Nf w p) : Calls Tryz.prog 36 #[.agg #[.int .u8 k, .int .i64 x, .int .i64 y, .int .u8 t, .int .i64 z], .pointer p] w fun e w' => e = .returned (.int .i64 1) ∧ w.grownBy w' none := by
  obtain ⟨W1, hW1, sz1, g1, B1⟩ := boxn w #[.int .u8 k, .int .i64 x, .int .i64 y, .int .u8 t, .int .i64 z] 23
  have hp1 : Nf W1 p := by
    rcases hp with h | ⟨b, h1, h2⟩
    · exact .inl h
    · exact .inr ⟨b, h1, h2.kept g1 (by simp)⟩
  go_enter Tryz.func36, Tryz.ntmps36
  go_wp2_with (go_at_call 41; refine (noneW p W1 hp1).mono ?_; rintro e w' ⟨rfl, hw'⟩; subst w')
  go_ret
  exact ⟨rfl, g1⟩
set_option maxHeartbeats 1000000 in
theorem checkGridC {M : World → Prop} {n0 b C R S : Nat} {g : Nat → Nat} (F : FdM M n0 b C R S g) (hC : 0 < C) (k x y t z : Int) (ht : 0 ≤ t) (w : World) (hM : M w) : Calls Tryz.prog 36 #[.agg #[.int .u8 k, .int .i64 x, .int .i64 y, .int .u8 t, .int .i64 z], .pointer (some ⟨b, 0, none⟩)] w fun e w' => e = .returned (.int .i64 (cgE k x y t z C R)) ∧ w.grownBy w' none := by
  have hw := fun X hX => F.wide X hX
  have hh := fun X hX => F.high X hX
  have he := fun w => To.endlC k x y t z ht w
  have hC0 : ((C : Int) == 0) = false := by simp; omega
  obtain ⟨W1, hW1, sz1, g1, B1⟩ := boxn w #[.int .u8 k, .int .i64 x, .int .i64 y, .int .u8 t, .int .i64 z] 23
  have m1 := F.grown hM g1
  have b1_0 := B1.cell 0 (v := .int .u8 k) rfl
  have b1_1 := B1.cell 1 (v := .int .i64 x) rfl
  have b1_2 := B1.cell 2 (v := .int .i64 y) rfl
  have b1_3 := B1.cell 3 (v := .int .u8 t) rfl
  have b1_4 := B1.cell 4 (v := .int .i64 z) rfl
  obtain ⟨E, hE⟩ : ∃ E, Tp.chk k x y t z = E := ⟨_, rfl⟩
  unfold To.enB at he
  rw [hE] at he
  by_cases h1 : E = 0
  · subst h1
    simp only [decide_true, Bool.true_and] at he
    have hc0 : ¬ ¬ Tp.chk k x y t z = 0 := by rw [hE]; simp
    by_cases hx0 : x = 0
    · have hX : cgE k x y t z C R = 42 := by unfold cgE; rw [if_neg hc0, if_pos (.inl hx0)]
      rw [hX]
      rw [decide_eq_true hx0] at he
      clear hX hc0 hE hx0
      go_enter Tryz.func36, Tryz.ntmps36
      go_wp2_with (first | ((fail_if_success (guard_hyp g2)); go_at_call 41; refine (hw _ m1).mono ?_; rintro e V1 ⟨rfl, g2⟩; have m2 := F.grown m1 g2; have B2 := B1.kept g2 (by simp); have b2_0 := B2.cell 0 (v := .int .u8 k) rfl; have b2_1 := B2.cell 1 (v := .int .i64 x) rfl; have b2_2 := B2.cell 2 (v := .int .i64 y) rfl; have b2_3 := B2.cell 3 (v := .int .u8 t) rfl; have b2_4 := B2.cell 4 (v := .int .i64 z) rfl) | (go_at_call 67; refine (he V1).mono ?_; rintro e V2 ⟨rfl, g3⟩; have m3 := F.grown m2 g3; have B3 := B2.kept g3 (by simp); have b3_0 := B3.cell 0 (v := .int .u8 k) rfl; have b3_1 := B3.cell 1 (v := .int .i64 x) rfl; have b3_2 := B3.cell 2 (v := .int .i64 y) rfl; have b3_3 := B3.cell 3 (v := .int .u8 t) rfl; have b3_4 := B3.cell 4 (v := .int .i64 z) rfl))
      go_ret
      exact ⟨rfl, gb_trans g1 (gb_trans g2 g3)⟩
    · by_cases hy0 : y = 0
      · have hX : cgE k x y t z C R = 42 := by unfold cgE; rw [if_neg hc0, if_pos (.inr hy0)]
        rw [hX]
        rw [decide_eq_false hx0, decide_eq_true hy0] at he
        clear hX hc0 hE hx0 hy0
        go_enter Tryz.func36, Tryz.ntmps36
        go_wp2_with (first | ((fail_if_success (guard_hyp g2)); go_at_call 41; refine (hw _ m1).mono ?_; rintro e V1 ⟨rfl, g2⟩; have m2 := F.grown m1 g2; have B2 := B1.kept g2 (by simp); have b2_0 := B2.cell 0 (v := .int .u8 k) rfl; have b2_1 := B2.cell 1 (v := .int .i64 x) rfl; have b2_2 := B2.cell 2 (v := .int .i64 y) rfl; have b2_3 := B2.cell 3 (v := .int .u8 t) rfl; have b2_4 := B2.cell 4 (v := .int .i64 z) rfl) | (go_at_call 67; refine (he V1).mono ?_; rintro e V2 ⟨rfl, g3⟩; have m3 := F.grown m2 g3; have B3 := B2.kept g3 (by simp); have b3_0 := B3.cell 0 (v := .int .u8 k) rfl; have b3_1 := B3.cell 1 (v := .int .i64 x) rfl; have b3_2 := B3.cell 2 (v := .int .i64 y) rfl; have b3_3 := B3.cell 3 (v := .int .u8 t) rfl; have b3_4 := B3.cell 4 (v := .int .i64 z) rfl))
        go_ret
        exact ⟨rfl, gb_trans g1 (gb_trans g2 g3)⟩
      · have hN : ¬ (x = 0 ∨ y = 0) := by omega
        rw [decide_eq_false hx0, decide_eq_false hy0] at he
        by_cases hxC : x = C
        · by_cases hyR : y = R
          · have hX : cgE k x y t z C R = 0 := by unfold cgE; rw [if_neg hc0, if_neg hN, if_neg (by omega)]
            rw [hX]
            have qx : (x != (C : Int)) = false := by simp [hxC]
            have qy : (y != (R : Int)) = false := by simp [hyR]
            clear hX hc0 hE hx0 hy0 hN hxC hyR
            go_enter Tryz.func36, Tryz.ntmps36
            go_wp2_with (first | ((fail_if_success (guard_hyp g2)); go_at_call 41; refine (hw _ m1).mono ?_; rintro e V1 ⟨rfl, g2⟩; have m2 := F.grown m1 g2; have B2 := B1.kept g2 (by simp); have b2_0 := B2.cell 0 (v := .int .u8 k) rfl; have b2_1 := B2.cell 1 (v := .int .i64 x) rfl; have b2_2 := B2.cell 2 (v := .int .i64 y) rfl; have b2_3 := B2.cell 3 (v := .int .u8 t) rfl; have b2_4 := B2.cell 4 (v := .int .i64 z) rfl) | (go_at_call 67; refine (he V1).mono ?_; rintro e V2 ⟨rfl, g3⟩; have m3 := F.grown m2 g3; have B3 := B2.kept g3 (by simp); have b3_0 := B3.cell 0 (v := .int .u8 k) rfl; have b3_1 := B3.cell 1 (v := .int .i64 x) rfl; have b3_2 := B3.cell 2 (v := .int .i64 y) rfl; have b3_3 := B3.cell 3 (v := .int .u8 t) rfl; have b3_4 := B3.cell 4 (v := .int .i64 z) rfl))
            have m3d : M V2.drew := F.grown m3 (gb_drew (World.grownBy.refl _ _))
            have B3d := B3.dr
            go_region_held2 (fun w' => w'.cell? ⟨w.heap.size, 1, none⟩ = some (.int .i64 x) ∧ w'.cell? ⟨w.heap.size, 2, none⟩ = some (.int .i64 y)) (go_keep) (first | (go_at_call 41; refine (hw _ m3d).mono ?_; rintro e V4 ⟨rfl, g4⟩; have m4 := F.grown m3d g4; have B4 := B3d.kept g4 (by simp); have b4_0 := B4.cell 0 (v := .int .u8 k) rfl; have b4_1 := B4.cell 1 (v := .int .i64 x) rfl; have b4_2 := B4.cell 2 (v := .int .i64 y) rfl; have b4_3 := B4.cell 3 (v := .int .u8 t) rfl; have b4_4 := B4.cell 4 (v := .int .i64 z) rfl) | (go_at_call 42; refine (hh _ m4).mono ?_; rintro e V5 ⟨rfl, g5⟩; have B5 := B4.kept g5 (by simp); have b5_0 := B5.cell 0 (v := .int .u8 k) rfl; have b5_1 := B5.cell 1 (v := .int .i64 x) rfl; have b5_2 := B5.cell 2 (v := .int .i64 y) rfl; have b5_3 := B5.cell 3 (v := .int .u8 t) rfl; have b5_4 := B5.cell 4 (v := .int .i64 z) rfl))
            all_goals go_wp2
            all_goals go_ret
            all_goals exact ⟨rfl, gb_trans g1 (gb_trans g2 (gb_trans (gb_drew g3) (gb_trans g4 g5)))⟩
          · have hX : cgE k x y t z C R = 21 := by unfold cgE; rw [if_neg hc0, if_neg hN, if_pos (by omega)]
            rw [hX]
            have qx : (x != (C : Int)) = false := by simp [hxC]
            have qy : (y != (R : Int)) = true := by simp; omega
            clear hX hc0 hE hx0 hy0 hN hxC hyR
            go_enter Tryz.func36, Tryz.ntmps36
            go_wp2_with (first | ((fail_if_success (guard_hyp g2)); go_at_call 41; refine (hw _ m1).mono ?_; rintro e V1 ⟨rfl, g2⟩; have m2 := F.grown m1 g2; have B2 := B1.kept g2 (by simp); have b2_0 := B2.cell 0 (v := .int .u8 k) rfl; have b2_1 := B2.cell 1 (v := .int .i64 x) rfl; have b2_2 := B2.cell 2 (v := .int .i64 y) rfl; have b2_3 := B2.cell 3 (v := .int .u8 t) rfl; have b2_4 := B2.cell 4 (v := .int .i64 z) rfl) | (go_at_call 67; refine (he V1).mono ?_; rintro e V2 ⟨rfl, g3⟩; have m3 := F.grown m2 g3; have B3 := B2.kept g3 (by simp); have b3_0 := B3.cell 0 (v := .int .u8 k) rfl; have b3_1 := B3.cell 1 (v := .int .i64 x) rfl; have b3_2 := B3.cell 2 (v := .int .i64 y) rfl; have b3_3 := B3.cell 3 (v := .int .u8 t) rfl; have b3_4 := B3.cell 4 (v := .int .i64 z) rfl))
            have m3d : M V2.drew := F.grown m3 (gb_drew (World.grownBy.refl _ _))
            have B3d := B3.dr
            go_region_held2 (fun w' => w'.cell? ⟨w.heap.size, 1, none⟩ = some (.int .i64 x) ∧ w'.cell? ⟨w.heap.size, 2, none⟩ = some (.int .i64 y)) (go_keep) (first | (go_at_call 41; refine (hw _ m3d).mono ?_; rintro e V4 ⟨rfl, g4⟩; have m4 := F.grown m3d g4; have B4 := B3d.kept g4 (by simp); have b4_0 := B4.cell 0 (v := .int .u8 k) rfl; have b4_1 := B4.cell 1 (v := .int .i64 x) rfl; have b4_2 := B4.cell 2 (v := .int .i64 y) rfl; have b4_3 := B4.cell 3 (v := .int .u8 t) rfl; have b4_4 := B4.cell 4 (v := .int .i64 z) rfl) | (go_at_call 42; refine (hh _ m4).mono ?_; rintro e V5 ⟨rfl, g5⟩; have B5 := B4.kept g5 (by simp); have b5_0 := B5.cell 0 (v := .int .u8 k) rfl; have b5_1 := B5.cell 1 (v := .int .i64 x) rfl; have b5_2 := B5.cell 2 (v := .int .i64 y) rfl; have b5_3 := B5.cell 3 (v := .int .u8 t) rfl; have b5_4 := B5.cell 4 (v := .int .i64 z) rfl))
            all_goals go_wp2
            all_goals go_ret
            all_goals exact ⟨rfl, gb_trans g1 (gb_trans g2 (gb_trans (gb_drew g3) (gb_trans g4 g5)))⟩
        · have hX : cgE k x y t z C R = 21 := by unfold cgE; rw [if_neg hc0, if_neg hN, if_pos (by omega)]
          rw [hX]
          have qx : (x != (C : Int)) = true := by simp; omega
          have qx2 : binOp .neq 3 (.int .i64 x) (.int .i64 (C : Nat)) = pure (.bool true) := by rw [binOp_neq, qx]
          clear hX hc0 hE hx0 hy0 hN hxC qx
          go_enter Tryz.func36, Tryz.ntmps36
          go_wp2_with (first | ((fail_if_success (guard_hyp g2)); go_at_call 41; refine (hw _ m1).mono ?_; rintro e V1 ⟨rfl, g2⟩; have m2 := F.grown m1 g2; have B2 := B1.kept g2 (by simp); have b2_0 := B2.cell 0 (v := .int .u8 k) rfl; have b2_1 := B2.cell 1 (v := .int .i64 x) rfl; have b2_2 := B2.cell 2 (v := .int .i64 y) rfl; have b2_3 := B2.cell 3 (v := .int .u8 t) rfl; have b2_4 := B2.cell 4 (v := .int .i64 z) rfl) | (go_at_call 67; refine (he V1).mono ?_; rintro e V2 ⟨rfl, g3⟩; have m3 := F.grown m2 g3; have B3 := B2.kept g3 (by simp); have b3_0 := B3.cell 0 (v := .int .u8 k) rfl; have b3_1 := B3.cell 1 (v := .int .i64 x) rfl; have b3_2 := B3.cell 2 (v := .int .i64 y) rfl; have b3_3 := B3.cell 3 (v := .int .u8 t) rfl; have b3_4 := B3.cell 4 (v := .int .i64 z) rfl))
          have m3d : M V2.drew := F.grown m3 (gb_drew (World.grownBy.refl _ _))
          have B3d := B3.dr
          (first | go_region_with (first | (go_at_call 41; refine (hw _ m3d).mono ?_; rintro e V4 ⟨rfl, g4⟩; have m4 := F.grown m3d g4; have B4 := B3d.kept g4 (by simp); have b4_0 := B4.cell 0 (v := .int .u8 k) rfl; have b4_1 := B4.cell 1 (v := .int .i64 x) rfl; have b4_2 := B4.cell 2 (v := .int .i64 y) rfl; have b4_3 := B4.cell 3 (v := .int .u8 t) rfl; have b4_4 := B4.cell 4 (v := .int .i64 z) rfl) | (go_at_call 42; refine (hh _ m4).mono ?_; rintro e V5 ⟨rfl, g5⟩; have B5 := B4.kept g5 (by simp); have b5_0 := B5.cell 0 (v := .int .u8 k) rfl; have b5_1 := B5.cell 1 (v := .int .i64 x) rfl; have b5_2 := B5.cell 2 (v := .int .i64 y) rfl; have b5_3 := B5.cell 3 (v := .int .u8 t) rfl; have b5_4 := B5.cell 4 (v := .int .i64 z) rfl)) | fail)
          all_goals go_wp2
          all_goals go_ret
          all_goals exact ⟨rfl, gb_trans g1 (gb_trans g2 (gb_trans (gb_drew g3) g4))⟩
  · have hX : cgE k x y t z C R = 9 := if_pos (by rw [hE]; exact h1)
    rw [hX]
    have h1' : (E == 0) = false := by simpa using h1
    have h1'' : decide (E = 0) = false := decide_eq_false h1
    rw [h1''] at he
    simp only [Bool.false_and] at he
    clear h1 h1'' hE hX
    go_enter Tryz.func36, Tryz.ntmps36
    go_wp2_with (first | (go_at_call 41; refine (hw _ m1).mono ?_; rintro e V1 ⟨rfl, g2⟩; have B2 := B1.kept g2 (by simp); have b2_0 := B2.cell 0 (v := .int .u8 k) rfl; have b2_1 := B2.cell 1 (v := .int .i64 x) rfl; have b2_2 := B2.cell 2 (v := .int .i64 y) rfl; have b2_3 := B2.cell 3 (v := .int .u8 t) rfl; have b2_4 := B2.cell 4 (v := .int .i64 z) rfl) | (go_at_call 67; refine (he V1).mono ?_; rintro e V2 ⟨rfl, g3⟩))
    go_ret
    exact ⟨rfl, gb_trans g1 (gb_trans g2 g3)⟩
end Go.Proofs.YtjndljjpbkfmiaaGreatDoor
