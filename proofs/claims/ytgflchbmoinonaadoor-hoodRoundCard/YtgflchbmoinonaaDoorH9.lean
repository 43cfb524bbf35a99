/- The walk of HoodRound. -/
import Derived.Test.YtgflchbmoinonaaDoorH8
import Derived.Deep.RegionHeld2
namespace Go.Proofs.YtgflchbmoinonaaDoor
open Go.RowKit
open Fl
set_option linter.unusedVariables false
set_option linter.unusedSimpArgs false
set_option maxRecDepth 100000

def ki (h i : Nat) : Nat := (fiF 1 (px h i) (py h i) 8 0).getD 0
def la (h i : Nat) : Int := if i = 0 then -1 else ki h (i - 1)
theorem ki_is : ∀ h, h < 4 → 1 ≤ h → ∀ i, i < 8 → i < sn h → fiF 1 (px h i) (py h i) 8 0 = some (ki h i) ∧ la h i < ki h i := by decide
theorem one_is : ∀ h, h < 4 → 1 ≤ h → ∀ i, i < 8 → i < sn h → fiF h (px h i) (py h i) (sn h) 0 = some i ∧ (fiF h (-px h i) (-py h i) (sn h) 0).isSome = true := by decide
theorem step_x : ∀ h, h < 4 → 1 ≤ h → ∀ i, i < 8 → i < sn h → -1 ≤ px h i ∧ px h i ≤ 1 := by decide
theorem step_y : ∀ h, h < 4 → 1 ≤ h → ∀ i, i < 8 → i < sn h → -1 ≤ py h i ∧ py h i ≤ 1 := by decide
theorem step_0 : ∀ h, h < 4 → 1 ≤ h → ∀ i, i < 8 → i < sn h → (px h i == 0 && py h i == 0) = false := by decide
set_option maxHeartbeats 2000000 in
theorem roundY (h : Nat) (h1 : 1 ≤ h) (h3 : h ≤ 3) (w : World) (hv : Hid (Hv w)) : Calls Tryd.prog 8 #[.int .u8 h] w fun e w' => e = .returned (.bool true) ∧ w.grownBy w' none := by
  have hO := offsetsYes h h1 h3
  have hS := sizeYes h h1 h3
  have hM := offsetsYes 1 (by decide) (by decide)
  have h8 := sn_le h h1 h3
  have e8 : sn 1 = 8 := rfl
  go_enter Tryd.func8, Tryd.ntmps8
  go_wp2_with (first | (go_at_call 12; refine (aliveC _ hv).mono ?_; rintro e w1 ⟨rfl, g1⟩; have hv1 := hvK hv g1) | (go_at_call 16; (fail_if_success (guard_hyp g2)); refine (hO _ hv1).mono ?_; rintro e w2 ⟨b2, rfl, B2, l2, g2⟩; have hv2 := hvK hv1 g2; have G2 := gb_trans g1 g2) | (go_at_call 9; refine (hS _ hv2).mono ?_; rintro e w3 ⟨rfl, g3⟩; have hv3 := hvK hv2 g3; have G3 := gb_trans G2 g3; have B3 := B2.kept g3 (by simp)) | (go_at_call 16; guard_hyp g2; refine (hM _ hv3).mono ?_; rintro e w4 ⟨b4, rfl, C4, l4, g4⟩; have B4 := B3.kept g4 (by simp); have G4 := gb_trans G3 g4))
  go_loopw [10, 11] (fun vl v wr => ∃ i : Nat, i ≤ sn h ∧ v = .int .i64 i ∧ vl = .int .i64 (la h i) ∧ w4.grownBy wr none) (fun _ v _ => sn h - (intOf v).toNat)
  case atStart => exact ⟨0, Nat.zero_le _, rfl, rfl, World.grownBy.refl _ _⟩
  case round =>
    obtain ⟨i, hi, rfl, rfl, hg⟩ := hrel
    have Bl := B4.kept hg (by simp)
    have Cm := C4.kept hg (by simp)
    by_cases hlt : i < sn h
    · have hlt' : (i : Int) < ((sn h : Nat) : Int) := by omega
      have hi8 : i < 8 := by omega
      have c0 := Bl.cell (i * 2) (ho_at h i hi8).1
      have c1 := Bl.cell (i * 2 + 1) (ho_at h i hi8).2
      obtain ⟨Wp, hWp, szp, gp, Bp⟩ := boxn wr #[.int .i64 (px h i), .int .i64 (py h i)] 37
      have Blp := Bl.kept gp (by simp)
      have Cmp := Cm.kept gp (by simp)
      have q0 := Bp.cell 0 (v := .int .i64 (px h i)) rfl
      have q1 := Bp.cell 1 (v := .int .i64 (py h i)) rfl
      obtain ⟨k1, k2⟩ := ki_is h (by omega) h1 i hi8 hlt
      obtain ⟨o1, o2⟩ := one_is h (by omega) h1 i hi8 hlt
      obtain ⟨s1, s2⟩ := step_x h (by omega) h1 i hi8 hlt
      obtain ⟨s3, s4⟩ := step_y h (by omega) h1 i hi8 hlt
      have s5 := step_0 h (by omega) h1 i hi8 hlt
      obtain ⟨j, hj⟩ := Option.isSome_iff_exists.1 o2
      have hw1 := fun g w B => whereC 1 8 8 (Nat.le_refl _) (px h i) (py h i) g (some (ki h i)) k1 w B
      have hw2 := fun g w B => whereC h (sn h) 8 h8 (px h i) (py h i) g (some i) o1 w B
      have hw3 := fun g w B => whereC h (sn h) 8 h8 (-px h i) (-py h i) g (some j) hj w B
      have hla : Hid (la h (i + 1) = (ki h i : Int)) := rfl
      have nx : IntKind.i64.wrap (-px h i) = -px h i := by rw [IntKind.wrap_i64]; omega
      have ny : IntKind.i64.wrap (-py h i) = -py h i := by rw [IntKind.wrap_i64]; omega
      have jj : ¬ ((j : Nat) : Int) < 0 := by omega
      have kk : ¬ ((ki h i : Nat) : Int) ≤ la h i := by omega
      have ii : ((i : Int) != (i : Int)) = false := by simp
      clear k1 o1 o2 hj
      simp only [wh] at hw1 hw2 hw3
      cases ex : (px h i == 0) with
      | false =>
        clear s5
        go_wp2_with (first | (go_at_call 22; (fail_if_success (guard_hyp ga)); refine (hw1 _ _ Cmp).mono ?_; rintro e wa ⟨rfl, ga⟩; have Bla := Blp.kept ga (by simp); have Bpa := Bp.kept ga (by simp); have q0a := Bpa.cell 0 (v := .int .i64 (px h i)) rfl; have q1a := Bpa.cell 1 (v := .int .i64 (py h i)) rfl) | (go_at_call 22; guard_hyp ga; (fail_if_success (guard_hyp gb)); refine (hw2 _ _ Bla).mono ?_; rintro e wb ⟨rfl, gb⟩; have Blb := Bla.kept gb (by simp); have Bpb := Bpa.kept gb (by simp); have q0b := Bpb.cell 0 (v := .int .i64 (px h i)) rfl; have q1b := Bpb.cell 1 (v := .int .i64 (py h i)) rfl) | (go_at_call 22; guard_hyp gb; refine (hw3 _ _ Blb).mono ?_; rintro e wc ⟨rfl, gc⟩))
        go_roundw
        case rel => exact ⟨i + 1, by omega, by go_num, by rw [hla.out], gb_trans (gb_trans (gb_trans (gb_trans hg gp) ga) gb) gc⟩
        case measure => simp [intOf]; omega
      | true =>
        have ey : (py h i == 0) = false := by rw [ex] at s5; simpa using s5
        have ex' : px h i = 0 := by simpa using ex
        simp only [ex', Int.neg_zero] at hw1 hw2 hw3 c0 q0 s1 s2 Bp hWp
        clear s5 ex nx
        clear ex'
        go_wp2_with (first | (go_at_call 22; (fail_if_success (guard_hyp ga)); refine (hw1 _ _ Cmp).mono ?_; rintro e wa ⟨rfl, ga⟩; have Bla := Blp.kept ga (by simp); have Bpa := Bp.kept ga (by simp); have q0a := Bpa.cell 0 (v := .int .i64 (0)) rfl; have q1a := Bpa.cell 1 (v := .int .i64 (py h i)) rfl) | (go_at_call 22; guard_hyp ga; (fail_if_success (guard_hyp gb)); refine (hw2 _ _ Bla).mono ?_; rintro e wb ⟨rfl, gb⟩; have Blb := Bla.kept gb (by simp); have Bpb := Bpa.kept gb (by simp); have q0b := Bpb.cell 0 (v := .int .i64 (0)) rfl; have q1b := Bpb.cell 1 (v := .int .i64 (py h i)) rfl) | (go_at_call 22; guard_hyp gb; refine (hw3 _ _ Blb).mono ?_; rintro e wc ⟨rfl, gc⟩))
        go_roundw
        case rel => exact ⟨i + 1, by omega, by go_num, by rw [hla.out], gb_trans (gb_trans (gb_trans (gb_trans hg gp) ga) gb) gc⟩
        case measure => simp [intOf]; omega
    · have hlt' : ¬ (i : Int) < ((sn h : Nat) : Int) := by omega
      go_wp2
      go_ret
      exact ⟨rfl, gb_trans G4 hg⟩
set_option maxHeartbeats 2000000 in
theorem roundN (h : Int) (h0 : 0 ≤ h) (h1 : h ≤ 255) (hn : h < 1 ∨ 3 < h) (w : World) (hv : Hid (Hv w)) : Calls Tryd.prog 8 #[.int .u8 h] w fun e w' => e = .returned (.bool true) ∧ w.grownBy w' none := by
  have hO := offsetsNo h h0 h1 hn
  have hS := sizeNo h h0 h1 hn
  have hM := offsetsYes 1 (by decide) (by decide)
  have e8 : sn 1 = 8 := rfl
  rcases hn with hn | hn
  · go_enter Tryd.func8, Tryd.ntmps8
    go_wp2_with (first | (go_at_call 12; refine (aliveC _ hv).mono ?_; rintro e w1 ⟨rfl, g1⟩; have hv1 := hvK hv g1) | (go_at_call 16; (fail_if_success (guard_hyp g2)); refine (hO _).mono ?_; rintro e w2 ⟨rfl, g2⟩; have hv2 := hvK hv1 g2; have G2 := gb_trans g1 g2) | (go_at_call 9; refine (hS _).mono ?_; rintro e w3 ⟨rfl, g3⟩; have hv3 := hvK hv2 g3; have G3 := gb_trans G2 g3) | (go_at_call 16; guard_hyp g2; refine (hM _ hv3).mono ?_; rintro e w4 ⟨b4, rfl, C4, l4, g4⟩; have G4 := gb_trans G3 g4))
    go_ret
    exact ⟨rfl, G4⟩
  · have hn' : ¬ h < 1 := by omega
    go_enter Tryd.func8, Tryd.ntmps8
    go_wp2_with (first | (go_at_call 12; refine (aliveC _ hv).mono ?_; rintro e w1 ⟨rfl, g1⟩; have hv1 := hvK hv g1) | (go_at_call 16; (fail_if_success (guard_hyp g2)); refine (hO _).mono ?_; rintro e w2 ⟨rfl, g2⟩; have hv2 := hvK hv1 g2; have G2 := gb_trans g1 g2) | (go_at_call 9; refine (hS _).mono ?_; rintro e w3 ⟨rfl, g3⟩; have hv3 := hvK hv2 g3; have G3 := gb_trans G2 g3) | (go_at_call 16; guard_hyp g2; refine (hM _ hv3).mono ?_; rintro e w4 ⟨b4, rfl, C4, l4, g4⟩; have G4 := gb_trans G3 g4))
    go_ret
    exact ⟨rfl, G4⟩
theorem round_walk (h : Int) (w : World) (h0 : 0 ≤ h) (h1 : h ≤ 255) (hv : Hv w) : Calls Tryd.prog 8 #[.int .u8 h] w fun e w' => e = .returned (.bool true) ∧ Below w.heap.size w w' := by
  refine Calls.mono (R := fun e w' => e = .returned (.bool true) ∧ w.grownBy w' none) ?_ (fun e w' h => ⟨h.1, gb_below h.2⟩)
  by_cases hn : h < 1 ∨ 3 < h
  · exact roundN h h0 h1 hn w hv
  · obtain ⟨n, rfl⟩ : ∃ n : Nat, h = n := ⟨h.toNat, by omega⟩
    exact roundY n (by omega) (by omega) w hv
end Go.Proofs.YtgflchbmoinonaaDoor
