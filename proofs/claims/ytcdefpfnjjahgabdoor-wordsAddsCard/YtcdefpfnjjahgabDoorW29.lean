/- WordsThere: Down of Up is the row; Turned twice is the row; Turned of Up is Down of Turned. -/
import Derived.Test.YtcdefpfnjjahgabDoorW7
import Derived.Test.YtcdefpfnjjahgabDoorW14
import Derived.Test.YtcdefpfnjjahgabDoorW25
import Derived.Test.YtcdefpfnjjahgabDoorW28
namespace Go.Proofs.YtcdefpfnjjahgabDoor
open Go.RowKit
set_option linter.unusedVariables false
set_option linter.unusedSimpArgs false

theorem box22 (w : World) (x y x' y' : Value) (t : TypeId) : ∃ V, (w.alloc (.cells #[x, y] t)).alloc (.cells #[x', y'] t) = V ∧ Bx V w.heap.size t x y ∧ Bx V (w.heap.size + 1) t x' y' ∧ w.grownBy V none := by
  refine ⟨_, rfl, (Bx.new w t x y).kept (World.grownBy_alloc _ _ none) (by simp), ?_, gb_alloc (World.grownBy_alloc _ _ _) _⟩
  have h := Bx.new (w.alloc (.cells #[x, y] t)) t x' y'
  have e : (w.alloc (.cells #[x, y] t)).heap.size = w.heap.size + 1 := by simp
  rw [e] at h
  exact h

theorem there0 (m : Nat) (i : Bool) (p : Nat → Bool) (tP : ∀ j, m ≤ j → p j = false) (j : Nat) : downQ m (upOut m i p) (upQ m i p) j = p j := by
  unfold downQ upQ upOut
  by_cases hj : j < m
  · by_cases h1 : j = m - 1
    · have h0 : ¬ m = 0 := by omega
      simp [hj, h1, h0]; omega
    · have h2 : j + 1 < m := by omega
      simp [hj, h1, h2]
  · rw [tP j (by omega)]; simp [hj]
theorem there1 (m : Nat) (p : Nat → Bool) (tP : ∀ j, m ≤ j → p j = false) (j : Nat) : turnQ m (turnQ m p) j = p j := by
  unfold turnQ
  by_cases hj : j < m
  · have e1 : m - 1 - j < m := by omega
    have e2 : m - 1 - (m - 1 - j) = j := by omega
    simp [hj, e1, e2]
  · rw [tP j (by omega)]; simp [hj]
theorem there2 (m : Nat) (i : Bool) (p : Nat → Bool) (j : Nat) : turnQ m (upQ m i p) j = downQ m i (turnQ m p) j := by
  unfold turnQ downQ upQ
  by_cases hj : j < m
  · by_cases h1 : j = m - 1
    · have e0 : m - 1 - j = 0 := by omega
      have e1 : 0 < m := by omega
      simp [hj, h1, e1]
    · have e1 : m - 1 - j < m := by omega
      have e2 : ¬ m - 1 - j = 0 := by omega
      have e3 : m - 1 - j - 1 = m - 1 - (j + 1) := by omega
      have e4 : j + 1 < m := by omega
      simp only [hj, h1, e1, e2, e3, e4, decide_true, Bool.true_and, if_false]
  · simp [hj]
theorem there3 (m : Nat) (i : Bool) (p : Nat → Bool) : downOut m (upOut m i p) (upQ m i p) = i := by
  unfold downOut upOut upQ
  by_cases h0 : m = 0
  · simp [h0]
  · have : 0 < m := by omega
    simp [h0, this]
theorem there4 (m : Nat) (i : Bool) (p : Nat → Bool) : downOut m i (turnQ m p) = upOut m i p := by
  unfold downOut upOut turnQ
  by_cases h0 : m = 0
  · simp [h0]
  · have : 0 < m := by omega
    simp [h0, this]

set_option maxRecDepth 100000 in
set_option maxHeartbeats 4000000 in
theorem walkThere (la ca : Nat) (sa : Option Addr) (fa : Nat → Bool) (i : Bool) (hla : la ≤ ca ∧ ca ≤ 9223372036854775807) (w : World) (ha : Bd w sa la fa) (hT : Tab64 w) :
    Calls Tryd.prog 3 #[.slice sa la ca, .bool i] w fun e w' => e = .returned (.bool true) ∧ Below w.heap.size w w' := by
  have hG0 : 0 < w.heap.size := cell_lt (hT 0 (by decide))
  obtain ⟨m, hm⟩ : ∃ m, m = min la (min la 65538) := ⟨_, rfl⟩
  have hpair := fun w ha hb => pairC la la ca ca m sa sa fa fa hm (by omega) (by omega) (by omega) (by omega) w ha hb
  have ml : m ≤ 65538 := by omega
  clear hm
  obtain ⟨c, hc⟩ : ∃ c, c = (m + 63) / 64 := ⟨_, rfl⟩
  rw [← hc] at hpair
  obtain ⟨P, hP⟩ : ∃ P : Nat → Bool, P = fun i => decide (i < m) && fa i := ⟨_, rfl⟩
  rw [← hP] at hpair
  have tP : ∀ i, m ≤ i → P i = false := fun i hi => by rw [hP]; show (decide (i < m) && fa i) = false; rw [decide_eq_false (by omega)]; rfl
  clear hP
  have t0 := there0 m i P tP
  have t3 := there3 m i P
  have t4 := there4 m i P
  obtain ⟨o, ho⟩ : ∃ o, upOut m i P = o := ⟨_, rfl⟩
  rw [ho] at t0 t3 t4
  have MR : MayBe m c P := ⟨ml, hc, fun j hj => by exact tP j hj⟩
  have MU : MayBe m c (upQ m i P) := ⟨ml, hc, fun j hj => by unfold upQ; rw [decide_eq_false (by omega)]; rfl⟩
  have MD : MayBe m c (downQ m o (upQ m i P)) := ⟨ml, hc, fun j hj => by unfold downQ; rw [decide_eq_false (by omega)]; rfl⟩
  have MT : MayBe m c (turnQ m P) := ⟨ml, hc, fun j hj => by unfold turnQ; rw [decide_eq_false (by omega)]; rfl⟩
  have MTT : MayBe m c (turnQ m (turnQ m P)) := ⟨ml, hc, fun j hj => by unfold turnQ; rw [decide_eq_false (by omega)]; rfl⟩
  have MTU : MayBe m c (turnQ m (upQ m i P)) := ⟨ml, hc, fun j hj => by unfold turnQ; rw [decide_eq_false (by omega)]; rfl⟩
  have MDT : MayBe m c (downQ m i (turnQ m P)) := ⟨ml, hc, fun j hj => by unfold downQ; rw [decide_eq_false (by omega)]; rfl⟩
  have E0 : Hid (∀ j, j < 64 * c → (downQ m o (upQ m i P)) j = P j) := fun j _ => t0 j
  have E1 : Hid (∀ j, j < 64 * c → (turnQ m (turnQ m P)) j = P j) := fun j _ => there1 m P tP j
  have E2 : Hid (∀ j, j < 64 * c → (turnQ m (upQ m i P)) j = (downQ m i (turnQ m P)) j) := fun j _ => there2 m i P j
  have hup := fun cap sp w h => upC m c cap sp P MR i w h
  rw [ho] at hup
  have hdn := fun cap sp w h => downC m c cap sp (upQ m i P) MU o w h
  rw [t3] at hdn
  have hdt := fun cap sp w h => downC m c cap sp (turnQ m P) MT i w h
  rw [t4] at hdt
  have htn := fun cap sp w h hT => turnedC m c cap sp P MR w h hT
  have htt := fun cap sp w h hT => turnedC m c cap sp (turnQ m P) MT w h hT
  have htu := fun cap sp w h hT => turnedC m c cap sp (upQ m i P) MU w h hT
  clear hc tP t0 t3 t4 ho
  go_enter Tryd.func3, Tryd.ntmps3
  go_wp2_with (first | (go_at_call 5; refine (aliveC w).mono ?_; rintro e w1 ⟨rfl, g1⟩) | (go_at_call 6; refine (hpair w1 (ha.kept g1 (by simp)) (ha.kept g1 (by simp))).mono ?_; rintro e w2 ⟨bR, bS, rfl, hrR, hrS, g2, l2, l2'⟩; obtain ⟨V0, hV0, B0R, B0S, gv0⟩ := box22 w2 (.int .i64 m) (.slice (some ⟨bR, 0, none⟩) c c) (.int .i64 m) (.slice (some ⟨bS, 0, none⟩) c c) 26; have G0 : w.grownBy V0 none := gb_trans g1 (gb_trans g2 gv0); have R0R := hrR.kept gv0 (by simp); have x0R0 := B0R.cell0; have x0R1 := B0R.cell1) | (go_at_call 7; guard_hyp V0; (fail_if_success (guard_hyp V1)); refine (hup c (some ⟨bR, 0, none⟩) V0 R0R.wd).mono ?_; rintro e y0 ⟨bU, rfl, qU, h0, _⟩; obtain ⟨V1, hV1, _, _, _, gv1, B1U⟩ := box2 y0 (.int .i64 m) (.slice (some ⟨bU, 0, none⟩) c c) 26; have e0 := gb_trans h0 gv1; have G1 := gb_trans G0 e0; have R1U := Row.kept qU gv1 (by simp); have B1R := B0R.kept e0 (by simp); have R1R := R0R.kept e0 (by simp); have x1U0 := B1U.cell0; have x1U1 := B1U.cell1; clear x0R0 x0R1 hV0 gv1 h0 e0 qU B0R R0R) | (go_at_call 8; guard_hyp V1; (fail_if_success (guard_hyp V2)); refine (hdn c (some ⟨bU, 0, none⟩) V1 R1U.wd).mono ?_; rintro e y1 ⟨bD, rfl, qD, h1, _⟩; obtain ⟨V2, hV2, _, _, _, gv2, B2D⟩ := box2 y1 (.int .i64 m) (.slice (some ⟨bD, 0, none⟩) c c) 26; have e1 := gb_trans h1 gv2; have G2 := gb_trans G1 e1; have R2D := Row.kept qD gv2 (by simp); have B2R := B1R.kept e1 (by simp); have R2R := R1R.kept e1 (by simp); have B2U := B1U.kept e1 (by simp); have R2U := R1U.kept e1 (by simp); have x2R0 := B2R.cell0; have x2R1 := B2R.cell1; clear x1U0 x1U1 hV1 gv2 h1 e1 qD B1R R1R B1U R1U) | (go_at_call 9; guard_hyp V2; (fail_if_success (guard_hyp V3)); refine (htn c (some ⟨bR, 0, none⟩) V2 R2R.wd (hT.below (gb_below G2) hG0)).mono ?_; rintro e y2 ⟨bT, rfl, qT, h2, _⟩; obtain ⟨V3, hV3, _, _, _, gv3, B3T⟩ := box2 y2 (.int .i64 m) (.slice (some ⟨bT, 0, none⟩) c c) 26; have e2 := gb_trans h2 gv3; have G3 := gb_trans G2 e2; have R3T := Row.kept qT gv3 (by simp); have B3R := B2R.kept e2 (by simp); have R3R := R2R.kept e2 (by simp); have B3U := B2U.kept e2 (by simp); have R3U := R2U.kept e2 (by simp); have B3D := B2D.kept e2 (by simp); have R3D := R2D.kept e2 (by simp); have x3T0 := B3T.cell0; have x3T1 := B3T.cell1; clear x2R0 x2R1 hV2 gv3 h2 e2 qT B2R R2R B2U R2U B2D R2D) | (go_at_call 9; guard_hyp V3; (fail_if_success (guard_hyp V4)); refine (htt c (some ⟨bT, 0, none⟩) V3 R3T.wd (hT.below (gb_below G3) hG0)).mono ?_; rintro e y3 ⟨bTT, rfl, qTT, h3, _⟩; obtain ⟨V4, hV4, _, _, _, gv4, B4TT⟩ := box2 y3 (.int .i64 m) (.slice (some ⟨bTT, 0, none⟩) c c) 26; have e3 := gb_trans h3 gv4; have G4 := gb_trans G3 e3; have R4TT := Row.kept qTT gv4 (by simp); have B4R := B3R.kept e3 (by simp); have R4R := R3R.kept e3 (by simp); have B4U := B3U.kept e3 (by simp); have R4U := R3U.kept e3 (by simp); have B4D := B3D.kept e3 (by simp); have R4D := R3D.kept e3 (by simp); have B4T := B3T.kept e3 (by simp); have R4T := R3T.kept e3 (by simp); have x4U0 := B4U.cell0; have x4U1 := B4U.cell1; clear x3T0 x3T1 hV3 gv4 h3 e3 qTT B3R R3R B3U R3U B3D R3D B3T R3T) | (go_at_call 9; guard_hyp V4; (fail_if_success (guard_hyp V5)); refine (htu c (some ⟨bU, 0, none⟩) V4 R4U.wd (hT.below (gb_below G4) hG0)).mono ?_; rintro e y4 ⟨bTU, rfl, qTU, h4, _⟩; obtain ⟨V5, hV5, _, _, _, gv5, B5TU⟩ := box2 y4 (.int .i64 m) (.slice (some ⟨bTU, 0, none⟩) c c) 26; have e4 := gb_trans h4 gv5; have G5 := gb_trans G4 e4; have R5TU := Row.kept qTU gv5 (by simp); have B5R := B4R.kept e4 (by simp); have R5R := R4R.kept e4 (by simp); have B5D := B4D.kept e4 (by simp); have R5D := R4D.kept e4 (by simp); have B5T := B4T.kept e4 (by simp); have R5T := R4T.kept e4 (by simp); have B5TT := B4TT.kept e4 (by simp); have R5TT := R4TT.kept e4 (by simp); have x5T0 := B5T.cell0; have x5T1 := B5T.cell1; clear x4U0 x4U1 hV4 gv5 h4 e4 qTU B4R R4R B4U R4U B4D R4D B4T R4T B4TT R4TT) | (go_at_call 8; guard_hyp V5; (fail_if_success (guard_hyp V6)); refine (hdt c (some ⟨bT, 0, none⟩) V5 R5T.wd).mono ?_; rintro e y5 ⟨bDT, rfl, qDT, h5, _⟩; obtain ⟨V6, hV6, _, _, _, gv6, B6DT⟩ := box2 y5 (.int .i64 m) (.slice (some ⟨bDT, 0, none⟩) c c) 26; have e5 := gb_trans h5 gv6; have G6 := gb_trans G5 e5; have R6DT := Row.kept qDT gv6 (by simp); have B6R := B5R.kept e5 (by simp); have R6R := R5R.kept e5 (by simp); have B6D := B5D.kept e5 (by simp); have R6D := R5D.kept e5 (by simp); have B6TT := B5TT.kept e5 (by simp); have R6TT := R5TT.kept e5 (by simp); have B6TU := B5TU.kept e5 (by simp); have R6TU := R5TU.kept e5 (by simp); have x6D0 := B6D.cell0; have x6D1 := B6D.cell1; have x6R0 := B6R.cell0; have x6R1 := B6R.cell1; clear x5T0 x5T1 hV5 gv6 h5 e5 qDT B5R R5R B5D R5D B5T R5T B5TT R5TT B5TU R5TU) | (go_at_call 10; guard_hyp V6; (fail_if_success (guard_hyp V7)); refine (equalYes m c c c (some ⟨bD, 0, none⟩) (some ⟨bR, 0, none⟩) (downQ m o (upQ m i P)) P MD MR E0.out V6 R6D.wd R6R.wd).mono ?_; rintro e V7 ⟨rfl, h6⟩; have G7 := gb_trans G6 h6; have B7R := B6R.kept h6 (by simp); have R7R := R6R.kept h6 (by simp); have B7TT := B6TT.kept h6 (by simp); have R7TT := R6TT.kept h6 (by simp); have B7TU := B6TU.kept h6 (by simp); have R7TU := R6TU.kept h6 (by simp); have B7DT := B6DT.kept h6 (by simp); have R7DT := R6DT.kept h6 (by simp); have x7TT0 := B7TT.cell0; have x7TT1 := B7TT.cell1; have x7R0 := B7R.cell0; have x7R1 := B7R.cell1; clear x6D0 x6D1 x6R0 x6R1 B6R R6R B6D R6D B6TT R6TT B6TU R6TU B6DT R6DT) | (go_at_call 10; guard_hyp V7; (fail_if_success (guard_hyp V8)); refine (equalYes m c c c (some ⟨bTT, 0, none⟩) (some ⟨bR, 0, none⟩) (turnQ m (turnQ m P)) P MTT MR E1.out V7 R7TT.wd R7R.wd).mono ?_; rintro e V8 ⟨rfl, h7⟩; have G8 := gb_trans G7 h7; have B8TU := B7TU.kept h7 (by simp); have R8TU := R7TU.kept h7 (by simp); have B8DT := B7DT.kept h7 (by simp); have R8DT := R7DT.kept h7 (by simp); have x8TU0 := B8TU.cell0; have x8TU1 := B8TU.cell1; have x8DT0 := B8DT.cell0; have x8DT1 := B8DT.cell1; clear x7TT0 x7TT1 x7R0 x7R1 B7R R7R B7TT R7TT B7TU R7TU B7DT R7DT) | (go_at_call 10; guard_hyp V8; (fail_if_success (guard_hyp V9)); refine (equalYes m c c c (some ⟨bTU, 0, none⟩) (some ⟨bDT, 0, none⟩) (turnQ m (upQ m i P)) (downQ m i (turnQ m P)) MTU MDT E2.out V8 R8TU.wd R8DT.wd).mono ?_; rintro e V9 ⟨rfl, h8⟩; have G9 := gb_trans G8 h8; clear x8TU0 x8TU1 x8DT0 x8DT1 B8TU R8TU B8DT R8DT))
  go_ret
  exact ⟨by simp, gb_below G9⟩

end Go.Proofs.YtcdefpfnjjahgabDoor
