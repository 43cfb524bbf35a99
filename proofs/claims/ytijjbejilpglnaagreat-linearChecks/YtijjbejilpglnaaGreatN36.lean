/- LinearChecks: the walk. -/
import Derived.Test.YtijjbejilpglnaaGreatN35
namespace Go.Proofs.YtijjbejilpglnaaGreat
open Go.RowKit
set_option linter.unusedVariables false
set_option linter.unusedSimpArgs false
set_option maxRecDepth 100000

namespace Ln
set_option maxHeartbeats 2000000 in
theorem checks_walk (sp : Option Addr) (n c : Nat) (f : Nat → Pt) (h0 : sp = none → n = 0 ∧ c = 0) (hn : n ≤ 8796093021952) (hf : ∀ j, j < n → PtOk (f j)) (w : World) (H : Pl w sp n f) :
    Calls Tryz.prog 4 #[.slice sp n c] w fun e w' => e = .returned (.bool true) ∧ Below w.heap.size w w' := by
  have kA := aliveC w
  by_cases hbig : 300 < n
  · have hb' : (300 : Int) < (n : Int) := by omega
    clear h0 hf H
    go_enter Tryz.func4, Tryz.ntmps4
    go_wp2_with (first | (go_at_call 9; refine kA.mono ?_; rintro e w1 ⟨rfl, g1⟩; clear kA) | go_in)
    go_ret
    exact ⟨rfl, gb_below g1⟩
  · have hb' : ¬ (300 : Int) < (n : Int) := by omega
    have kL := fun w1 (g1 : w.grownBy w1 none) => lentC sp n c f (by omega) h0 w1 (H.kept g1 (by simp))
    have kC := fun w1 g cap base (HL : Le w1 base g cap n f) => checkC (some ⟨g, 0, none⟩) n cap f hf (by omega) w1 HL.pl
    have kK := fun w1 (g1 : w.grownBy w1 none) g cap base (HL : Le w1 base g cap n f) => keptC g cap n base f hf (by omega) sp c w1 HL (H.kept g1 (by simp))
    have kR := fun w1 (g1 : w.grownBy w1 none) => refCheckC sp n c f (by omega) w1 (H.kept g1 (by simp))
    generalize ckO f n 1099511627776 = r at kC kR
    clear h0 hf H
    go_enter Tryz.func4, Tryz.ntmps4
    go_wp2_with (first | (go_at_call 9; refine kA.mono ?_; rintro e w1 ⟨rfl, g1⟩; clear kA; have kL1 := kL w1 g1; clear kL) | (go_at_call 11; refine kL1.mono ?_; rintro e w2 ⟨g, cap, rfl, HL, g2⟩; clear kL1; have kC2 := kC w2 g cap _ HL; clear kC) | (go_at_call 10; refine kC2.mono ?_; rintro e w3 ⟨rfl, g3⟩; clear kC2; have G3 := gb_trans g1 (gb_trans g2 g3); have kK3 := kK w3 G3 g cap _ (HL.kept g3 (by simp)); clear kK) | (go_at_call 12; refine kK3.mono ?_; rintro e w4 ⟨rfl, g4⟩; clear kK3; have G4 := gb_trans G3 g4; have kR4 := kR w4 G4; clear kR) | (go_at_call 13; refine kR4.mono ?_; rintro e w5 ⟨rfl, g5⟩; clear kR4) | go_in)
    go_ret
    exact ⟨rfl, gb_below (gb_trans G4 g5)⟩
end Ln
end Go.Proofs.YtijjbejilpglnaaGreat
