/- awake: what the document's examples say. -/
import Derived.Test.YtimknahfgpafaaaDoorS9
namespace Go.Proofs.YtimknahfgpafaaaDoor
open Go.RowKit
set_option linter.unusedVariables false
set_option linter.unusedSimpArgs false

def exR : ByteArray := ⟨#[51, 98, 111, 36, 10, 48, 50, 112, 65, 33, 120]⟩
def exF : ByteArray := ⟨#[32, 32, 97, 44, 32, 98, 9, 99, 32]⟩
def exC : ByteArray := ⟨#[49, 50, 97, 98, 45, 51, 32, 120]⟩
theorem ex_runs : runsF (exR.size + 1) exR 0 [] = (some [(3, ⟨#[98]⟩, 0), (1, ⟨#[111]⟩, 2), (1, ⟨#[36]⟩, 3), (2, ⟨#[112, 65]⟩, 5)], 10, 0) := by decide +kernel
theorem ex_pcs : pcs exF = [(2, 4), (5, 6), (7, 8)] := by decide +kernel
theorem ex_f1 : exF.extract 5 6 = ⟨#[98]⟩ := by decide +kernel
theorem ex_dg : dg exC 0 = 2 := by decide +kernel
theorem ex_num : numV exC 0 = 12 := by decide +kernel
theorem ex_name : Sc.ov Sc.namedB exC 2 = 6 := by decide +kernel
theorem ex_nm : exC.extract 2 6 = ⟨#[97, 98, 45, 51]⟩ := by decide +kernel
theorem ex_bl : Sc.ov Sc.blankB exC 6 = 7 := by decide +kernel
theorem ex_let : Sc.letterB (Sc.bt exC 2) = true := by decide +kernel
theorem exRuns (w : World) (tp : TypeId) (p : Value) (hE : Hid (Er tp p w)) (hG : 4 < w.heap.size) : Calls Tryd.prog 20 #[.string ⟨#[51, 98, 111, 36, 10, 48, 50, 112, 65, 33, 120]⟩] w fun e w' => ∃ g cap, e = .returned (.tuple #[.slice (some ⟨g, 0, none⟩) 4 cap, .int .i64 10, .int .i64 0]) ∧
    w'.cell? ⟨g, 9, none⟩ = some (.int .i64 2) ∧ w'.cell? ⟨g, 10, none⟩ = some (.string ⟨#[112, 65]⟩) ∧ w'.cell? ⟨g, 11, none⟩ = some (.int .i64 5) ∧ g < w'.heap.size ∧ 4 ≤ cap ∧ w.grownBy w' none := by
  refine (runsShort exR w (by decide) tp p hE hG).mono ?_
  rintro e w' ⟨v, rfl, hown, hg⟩
  rw [ex_runs] at hown ⊢
  obtain ⟨g, cap, rfl, h1, h2⟩ := hown.form (by decide)
  have hc := hown.cells (g := g) rfl
  have hcap : 4 ≤ cap := by
    rcases hown.2 with ⟨h, _⟩ | ⟨g', cap', cur, hv, _, _, hn, _⟩
    · cases h
    · cases hv; exact hn
  exact ⟨g, cap, rfl, hc 9 _ rfl, hc 10 _ rfl, hc 11 _ rfl, h2, hcap, hg⟩
theorem exFields (w : World) : Calls Tryd.prog 12 #[.string ⟨#[32, 32, 97, 44, 32, 98, 9, 99, 32]⟩] w fun e w' => ∃ g cap, e = .returned (.slice (some ⟨g, 0, none⟩) 3 cap) ∧
    w'.cell? ⟨g, 2, none⟩ = some (.int .i64 5) ∧ w'.cell? ⟨g, 3, none⟩ = some (.string ⟨#[98]⟩) ∧ g < w'.heap.size ∧ 3 ≤ cap ∧ w.grownBy w' none := by
  refine (fieldsC exF (by decide) w).mono ?_
  rintro e w' ⟨v, rfl, hown, hg⟩
  rw [ex_pcs] at hown
  obtain ⟨g, cap, rfl, h1, h2⟩ := hown.form (by decide)
  have hc := hown.cells (g := g) rfl
  have hcap : 3 ≤ cap := by
    rcases hown.2 with ⟨h, _⟩ | ⟨g', cap', cur, hv, _, _, hn, _⟩
    · cases h
    · cases hv; exact hn
  refine ⟨g, cap, rfl, hc 2 _ rfl, ?_, h2, hcap, hg⟩
  rw [← ex_f1]
  exact hc 3 _ rfl
theorem exNumber (b : Nat) (w : World) (h : Cu w b exC 0) (tp : TypeId) (p : Value) (hE : Hid (Er tp p w)) (hG : 4 < w.heap.size) : Calls Tryd.prog 27 #[.pointer (some ⟨b, 0, none⟩)] w fun e w' => e = .returned (.tuple #[.int .i64 12, .int .i64 0]) ∧ Cu w' b exC 2 ∧ w.grownBy w' (some b) := by
  have h1 := numberOk b exC 0 w h (by unfold maxLen; decide) (by decide) (show 0 < dg exC 0 by rw [ex_dg]; decide) (show numV exC 0 ≤ _ by rw [ex_num]; decide) tp p hE hG
  rw [ex_num, ex_dg] at h1
  exact h1
theorem exName (b : Nat) (w : World) (h : Cu w b exC 2) : Calls Tryd.prog 28 #[.pointer (some ⟨b, 0, none⟩)] w fun e w' => e = .returned (.tuple #[.string ⟨#[97, 98, 45, 51]⟩, .int .i64 0]) ∧ Cu w' b exC 6 ∧ w.grownBy w' (some b) := by
  have h1 := nameOk b exC 2 w h (by unfold maxLen; decide) (by decide) ex_let (by rw [ex_name]; decide)
  rw [ex_name, ex_nm] at h1
  exact h1
theorem exBlanks (b : Nat) (w : World) (h : Cu w b exC 6) : Calls Tryd.prog 29 #[.pointer (some ⟨b, 0, none⟩)] w fun e w' => e = .returned (.int .i64 1) ∧ Cu w' b exC 7 ∧ w.grownBy w' (some b) := by
  have h1 := blanksC b exC 6 w h (by unfold maxLen; decide) (by decide)
  rw [ex_bl] at h1
  exact h1
theorem exNew (w : World) : Calls Tryd.prog 14 #[.string ⟨#[49, 50, 97, 98, 45, 51, 32, 120]⟩] w fun e w' => e = .returned (.pointer (some ⟨w.heap.size, 0, none⟩)) ∧ Cu w' w.heap.size exC 0 ∧ w.grownBy w' none := newC exC w

set_option maxRecDepth 100000 in
set_option maxHeartbeats 4000000 in
theorem awakeC (w : World) (tp : TypeId) (p : Value) (hE : Hid (Er tp p w)) (hG : 4 < w.heap.size) : Calls Tryd.prog 9 #[] w fun e w' => e = .returned (.bool true) ∧ w.grownBy w' none := by
  go_enter Tryd.func9, Tryd.ntmps9
  go_wp2_with (first
    | (go_at_call 20; refine (exRuns _ tp p hE hG).mono ?_; rintro e w1 ⟨g1, cap1, rfl, r0, r1, r2, l1, k1, G1⟩)
    | (go_at_call 12; refine (exFields _).mono ?_; rintro e w2 ⟨g2, cap2, rfl, f0, f1, l2, k2, G2⟩)
    | (go_at_call 14; refine (exNew _).mono ?_; rintro e w3 ⟨rfl, h3, G3⟩; have G13 := gb_trans G2 G3; have E3 : Hid (Er tp p w3) := Er.below hE.out (gb_below (gb_trans G1 G13)) hG; have hG3 := Nat.lt_of_lt_of_le hG (gb_trans G1 G13).size)
    | (go_at_call 27; refine (exNumber _ _ h3 tp p E3 hG3).mono ?_; rintro e w4 ⟨rfl, h4, G4⟩)
    | (go_at_call 28; refine (exName _ _ h4).mono ?_; rintro e w5 ⟨rfl, h5, G5⟩)
    | (go_at_call 29; refine (exBlanks _ _ h5).mono ?_; rintro e w6 ⟨rfl, h6, G6⟩; have G36 := gb_trans (gb_trans G4 G5) G6; have n1 := G13.size; have n2 := G2.size; have n3 := G3.size; have p0 := G36.cell (G13.cell r0 (by simp)) (by simp; omega); have p1 := G36.cell (G13.cell r1 (by simp)) (by simp; omega); have p2 := G36.cell (G13.cell r2 (by simp)) (by simp; omega); have p3 := G36.cell (G3.cell f0 (by simp)) (by simp; omega); have p4 := G36.cell (G3.cell f1 (by simp)) (by simp; omega))
    | (go_at_call 17; refine (atC _ _ _ _ h6).mono ?_; rintro e w7 ⟨rfl, hw7⟩; subst w7))
  go_ret
  exact ⟨rfl, gb_past (gb_trans G1 G13) G36 (by have := G1.size; omega)⟩
end Go.Proofs.YtimknahfgpafaaaDoor
