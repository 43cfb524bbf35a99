/- The answers that every statement asks first: they are as the document fixes them. -/
import Derived.Test.YtcdefpfnjjahgabW5
import Derived.Test.YtcdefpfnjjahgabW6
namespace Go.Proofs.Ytcdefpfnjjahgab
open Go.RowKit
set_option linter.unusedVariables false

def gAl (i : Nat) : Bool := i == 0 || i == 2
def pAl (i : Nat) : Bool := decide (i < 3) && gAl i

theorem aliveC (w : World) :
    Calls Try.prog 7 #[] w fun e w' => e = .returned (.bool true) ∧ w.grownBy w' none := by
  obtain ⟨W0, hW0⟩ : ∃ W0, w.alloc (.cells #[.bool true, .bool false, .bool true] 4) = W0 := ⟨_, rfl⟩
  have g0 : w.grownBy W0 none := by rw [← hW0]; exact World.grownBy_alloc _ _ _
  have hb : Bd W0 (some ⟨w.heap.size, 0, none⟩) 3 gAl := by
    intro k hk
    refine ⟨_, rfl, ?_⟩
    rw [← hW0, add_mid, Nat.zero_add]
    rcases (show k = 0 ∨ k = 1 ∨ k = 2 by omega) with rfl | rfl | rfl <;> simp [World.cell?_alloc_at, gAl]
  have M1 : MayBe 3 1 pAl := ⟨by decide, by decide, fun i hi => by unfold pAl; rw [decide_eq_false (by omega)]; rfl⟩
  have M2 : MayBe 3 1 (upQ 3 true pAl) := ⟨by decide, by decide, fun i hi => by unfold upQ; rw [decide_eq_false (by omega)]; rfl⟩
  have v1 : upOut 3 true pAl = true := by decide
  have v2 : cnt (upQ 3 true pAl) 3 = 2 := by decide
  have v3 : getB 3 (upQ 3 true pAl) 1 = true := by decide
  have v4 : getB 3 (upQ 3 true pAl) 2 = false := by decide
  have v5 : Pk.pack pAl 0 = 5 := by decide +kernel
  have hof := ofC 3 3 (some ⟨w.heap.size, 0, none⟩) gAl (by decide) W0 hb
  have hha := halfC 12 10 (by decide) (by decide)
  go_enter Try.func7, Try.ntmps7
  go_wp2_with (first | (go_at_call 27; refine hof.mono ?_; rintro e w1 ⟨b1, rfl, hr1, g1, l1⟩; obtain ⟨W2, hW2, c0, c1, sz, g2, hB⟩ := box2 w1 (.int .i64 3) (.slice (some ⟨b1, 0, none⟩) 1 1) 31; have hr2 := Row.kept (p := pAl) (n := 1) hr1 g2 (by simp)) | (go_at_call 28; refine (upC 3 1 1 (some ⟨b1, 0, none⟩) pAl M1 true W2 hr2.wd).mono ?_; rw [v1]; rintro e w3 ⟨b2, rfl, hr3, g3, l3⟩; obtain ⟨W4, hW4, d0, d1, sz4, g4, hU⟩ := box2 w3 (.int .i64 3) (.slice (some ⟨b2, 0, none⟩) 1 1) 31; have hr4 := Row.kept hr3 g4 (by simp); have g34 := gb_trans g3 g4; have hB4 := hB.kept g34 (by simp); have e0 := hB4.cell0; have e1 := hB4.cell1) | (go_at_call 29; refine (onesC 3 1 1 (some ⟨b2, 0, none⟩) _ M2 W4 hr4.wd).mono ?_; rw [v2]; rintro e w5 ⟨rfl, g5⟩; have hU5 := hU.kept g5 (by simp); have f0 := hU5.cell0; have f1 := hU5.cell1; have hB5 := hB4.kept g5 (by simp); have f2 := hB5.cell0; have f3 := hB5.cell1; have hr5 := hr4.kept g5 (by simp); have hq5 := (hr2.kept g34 (by simp)).kept g5 (by simp); have hq6 := World.rowIs.cell hq5 (i := 0) (by decide); simp only [v5] at hq6) | (go_at_call 8; refine (hha _).mono ?_; rintro e w' ⟨rfl, hw'⟩; subst w') | (go_at_call_of 30 (Value.int IntKind.i64 1); refine (getC 3 1 1 (some ⟨b2, 0, none⟩) _ M2 1 w5 hr5.wd).mono ?_; rw [v3]; rintro e w6 ⟨rfl, g6⟩; have hU6 := hU5.kept g6 (by simp); have h0 := hU6.cell0; have h1 := hU6.cell1; have hr6 := hr5.kept g6 (by simp)) | (go_at_call_of 30 (Value.int IntKind.i64 2); refine (getC 3 1 1 (some ⟨b2, 0, none⟩) _ M2 2 w6 hr6.wd).mono ?_; rw [v4]; rintro e w7 ⟨rfl, g7⟩))
  go_ret
  exact ⟨rfl, gb_trans g0 (gb_trans g1 (gb_trans g2 (gb_trans g34 (gb_trans g5 (gb_trans g6 g7)))))⟩

end Go.Proofs.Ytcdefpfnjjahgab
