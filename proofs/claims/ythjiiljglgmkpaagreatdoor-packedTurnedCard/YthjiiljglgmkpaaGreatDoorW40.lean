/- Get of every row, the program's and the document's. -/
import Derived.Test.YthjiiljglgmkpaaGreatDoorW38
namespace Go.Proofs.YthjiiljglgmkpaaGreatDoor.Wo
open Go.RowKit
set_option linter.unusedVariables false
set_option linter.unusedSimpArgs false

/-- A bit of whatever row. -/
def getV (N : Int) (n : Nat) (f : Nat → Nat) (i : Int) : Bool := validB N n f && (decide (0 ≤ i) && decide (i < N) && Pk.bitAt f i.toNat)
theorem getV_no {N : Int} {n : Nat} {f : Nat → Nat} (i : Int) (h : validB N n f = false) : getV N n f i = false := by unfold getV; rw [h]; rfl
theorem getV_may {m n : Nat} {f : Nat → Nat} {p : Nat → Bool} (i : Int) (hv : validB (m : Int) n f = true) (M : MayBe m n p) (hp : ∀ k, k < n → f k = Pk.pack p k) : getV (m : Int) n f i = getB m p i := by
  unfold getV getB
  rw [hv, Bool.true_and]
  by_cases h0 : 0 ≤ i ∧ i < (m : Int)
  · have : Pk.bitAt f i.toNat = p i.toNat := by
      rw [← Pk.bitAt_pack p i.toNat]
      unfold Pk.bitAt
      rw [hp (i.toNat / 64) (by have := M.words; omega)]
    rw [this]
  · by_cases h1 : 0 ≤ i
    · rw [decide_eq_false (show ¬ i < (m : Int) by omega)]; simp
    · rw [decide_eq_false h1]; simp
set_option maxRecDepth 100000 in
set_option maxHeartbeats 4000000 in
theorem getU (N : Int) (n cap : Nat) (sp : Option Addr) (f : Nat → Nat) (hf : ∀ k, k < n → f k < 18446744073709551616) (hn : n ≤ 9223372036854775807) (i : Int) (w : World) (hc : Wd w sp n f) :
    Calls Tryz.prog 23 #[.agg #[.int .i64 N, .slice sp n cap], .int .i64 i] w fun e w' => e = .returned (.bool (getV N n f i)) ∧ w.grownBy w' none := by
  cases hvb : validB N n f with
  | true =>
    obtain ⟨m, p, rfl, M, hp⟩ := may_of_validB hf hvb
    rw [getV_may i hvb M hp]
    exact getC m n cap sp p M i w (hc.congr hp)
  | false =>
    obtain ⟨W1, hW, c0, c1, sz, hg, hB⟩ := box2 w (.int .i64 N) (.slice sp n cap) 33
    have hv := validC N n cap sp f hf hn W1 (hc.kept hg (by simp))
    rw [hvb] at hv
    rw [getV_no i hvb]
    clear hvb
    go_enter Tryz.func23, Tryz.ntmps23
    go_wp2_with (go_at_call 24; refine hv.mono ?_; rintro e w2 ⟨rfl, g2⟩)
    go_ret
    exact ⟨rfl, gb_trans hg g2⟩
end Go.Proofs.YthjiiljglgmkpaaGreatDoor.Wo
