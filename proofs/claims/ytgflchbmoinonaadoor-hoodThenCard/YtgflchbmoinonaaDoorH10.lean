/- The walk of HoodNames. -/
import Derived.Test.YtgflchbmoinonaaDoorH8
namespace Go.Proofs.YtgflchbmoinonaaDoor
open Go.RowKit
open Fl
set_option linter.unusedVariables false
set_option linter.unusedSimpArgs false
set_option maxRecDepth 100000

theorem rd_own {w : World} {base : Nat} {v : Value} {l : List Nat} (h : w.ownsRow base 3 1 v l.length (cl l)) : ∃ sp c, v = .slice sp l.length c ∧ Rd w sp l.length (fun j => ((l.getD j 0 : Nat) : Int)) := by
  rcases h.2 with ⟨rfl, h0⟩ | ⟨g, cap, cur, rfl, hb, hg, _⟩
  · exact ⟨none, 0, by rw [h0], fun k hk => by omega⟩
  · refine ⟨_, cap, rfl, fun k hk => ⟨_, rfl, ?_⟩⟩
    refine h.cells (g := g) rfl k _ ?_
    unfold cl
    rw [List.getElem?_map, List.getElem?_eq_getElem hk]
    simp [List.getD, List.getElem?_eq_getElem hk]
theorem pls3 : pls 3 8 = [0, 2, 5, 7] := by decide
def l5 (j : Nat) : Int := if j = 0 then 0 else if j = 1 then 2 else if j = 2 then 5 else 7
theorem rd5 {w : World} {g : Nat} {t : TypeId} (B : Bo w g t #[.int .i64 0, .int .i64 2, .int .i64 5, .int .i64 7]) : Rd w (some ⟨g, 0, none⟩) 4 l5 := fun j hj => by
  refine ⟨_, rfl, ?_⟩
  rw [add_mid, Nat.zero_add]
  match j, hj with
  | 0, _ => exact B.cell 0 rfl
  | 1, _ => exact B.cell 1 rfl
  | 2, _ => exact B.cell 2 rfl
  | 3, _ => exact B.cell 3 rfl
theorem same5 : ∀ i, i < 4 → (fun j => (([0, 2, 5, 7].getD j 0 : Nat) : Int)) i = l5 i := by decide
set_option maxHeartbeats 2000000 in
theorem names_walk (w : World) (hv' : Hv w) : Calls Tryd.prog 3 #[] w fun e w' => e = .returned (.bool true) ∧ Below w.heap.size w w' := by
  refine Calls.mono (R := fun e w' => e = .returned (.bool true) ∧ w.grownBy w' none) ?_ (fun e w' h => ⟨h.1, gb_below h.2⟩)
  have hv : Hid (Hv w) := hv'
  clear hv'
  have hS := sizeNo 0 (by decide) (by decide) (by decide)
  have hP1 := permH 9 (by decide) (by decide) (by decide) 8
  have hP2 := permP 1 (by decide) (by decide) 8 (by decide)
  have hP3 := permN 3 (by decide) (by decide) 1 (by decide) (by decide)
  have hQ := partsYes 3 (by decide) (by decide)
  rw [pls3] at hQ
  go_enter Tryd.func3, Tryd.ntmps3
  go_wp2_with (first | (go_at_call 9; refine (hS _).mono ?_; rintro e w1 ⟨rfl, g1⟩; have hv1 := hvK hv g1) | (go_at_call 10; (fail_if_success (guard_hyp g2)); refine (hP1 _).mono ?_; rintro e w2 ⟨rfl, g2⟩; have hv2 := hvK hv1 g2; have G2 := gb_trans g1 g2) | (go_at_call 10; guard_hyp g2; (fail_if_success (guard_hyp g3)); refine (hP2 _ hv2).mono ?_; rintro e w3 ⟨rfl, g3⟩; have hv3 := hvK hv2 g3; have G3 := gb_trans G2 g3) | (go_at_call 10; guard_hyp g3; refine (hP3 _ hv3).mono ?_; rintro e w4 ⟨rfl, g4⟩; have hv4 := hvK hv3 g4; have G4 := gb_trans G3 g4) | (go_at_call 11; refine (hQ _ hv4).mono ?_; rintro e w5 ⟨v5, rfl, o5, g5⟩; have hv5 := hvK hv4 g5; have G5 := gb_trans G4 g5; obtain ⟨b5, c5, rfl, R5⟩ := rd_own o5) | (go_at_call 12; refine (aliveC _ hv5).mono ?_; rintro e w6 ⟨rfl, g6⟩; have R6 := R5.kept g6 (by simp); have G6 := gb_trans G5 g6; obtain ⟨W7, hW7, sz7, g7, B7⟩ := boxn w6 #[.int .i64 0, .int .i64 2, .int .i64 5, .int .i64 7] 3; have R7 := R6.kept g7 (by simp); have G7 := gb_trans G6 g7; have S7 := rd5 B7) | (go_at_call 13; refine (sameI 4 _ _ _ _ _ _ (by decide) same5 _ R7 S7).mono ?_; rintro e w8 ⟨rfl, g8⟩; have G8 := gb_trans G7 g8))
  go_ret
  exact ⟨rfl, G8⟩
end Go.Proofs.YtgflchbmoinonaaDoor
