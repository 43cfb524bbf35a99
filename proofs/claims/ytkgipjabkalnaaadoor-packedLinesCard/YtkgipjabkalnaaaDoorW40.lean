/- Get of every row, the program's and the document's. -/
import Derived.Test.YtkgipjabkalnaaaDoorW38
import Derived.Test.YtkgipjabkalnaaaDoorW4
namespace Go.Proofs.YtkgipjabkalnaaaDoor.Wo
open Go.RowKit
set_option linter.unusedVariables false
set_option linter.unusedSimpArgs false

/-- A bit of whatever row. -/
def getV (N : Int) (n : Nat) (f : Nat → Nat) (i : Int) : Bool := validB N n f && (decide (0 ≤ i) && decide (i < N) && Pk.bitAt f i.toNat)
theorem getV_no {N : Int} {n : Nat} {f : Nat → Nat} (i : Int) (h : validB N n f = false) : getV N n f i = false := by unfold getV; rw [h]; rfl
theorem getV_may {m n : Nat} {f : Nat → Nat} {p : Nat → Bool} (i : Int) (hv : validB (m : Int) n f = true) (M : MayBe m n p) (hp : ∀ k, k < n → f k = Pk.pack p k) : getV (m : Int) n f i = getB m p i := by
  unfold getV getB
  rw [hv, Bool.true_and]
  by_cases h0 : 0 ≤ i ∧ i < (m : Int)
  · have : Pk.bitAt f i.toNat = p i.toNat := by
      rw [← Pk.bitAt_pack p i.toNat]
      unfold Pk.bitAt
      rw [hp (i.toNat / 64) (by have := M.words; omega)]
    rw [this]
  · by_cases h1 : 0 ≤ i
    · rw [decide_eq_false (show ¬ i < (m : Int) by omega)]; simp
    · rw [decide_eq_false h1]; simp
set_option maxRecDepth 100000 in
set_option maxHeartbeats 4000000 in
theorem refGetU (N : Int) (n cap : Nat) (sp : Option Addr) (f : Nat → Nat) (hf : ∀ k, k < n → f k < 18446744073709551616) (hn : n ≤ 9223372036854775807) (i : Int) (w : World) (hc : Wd w sp n f) :
    Calls Tryd.prog 12 #[.agg #[.int .i64 N, .slice sp n cap], .int .i64 i] w fun e w' => e = .returned (.bool (getV N n f i)) ∧ w.grownBy w' none := by
  obtain ⟨W1, hW, c0, c1, sz, hg, hB⟩ := box2 w (.int .i64 N) (.slice sp n cap) 27
  have hv := refValidC N n cap sp f hf hn W1 (hc.kept hg (by simp))
  cases hvb : validB N n f with
  | false =>
    rw [hvb] at hv
    rw [getV_no i hvb]
    clear hvb
    go_enter Tryd.func12, Tryd.ntmps12
    go_wp2_with (go_at_call 10; refine hv.mono ?_; rintro e w2 ⟨rfl, g2⟩)
    go_ret
    exact ⟨rfl, gb_trans hg g2⟩
  | true =>
    rw [hvb] at hv
    obtain ⟨m, p, rfl, M, hp⟩ := may_of_validB hf hvb
    by_cases h0 : 0 ≤ i
    · have hd0 : decide (0 ≤ i) = true := by simp; omega
      by_cases h1 : i < (m : Int)
      · obtain ⟨j, rfl⟩ : ∃ j : Nat, i = j := ⟨i.toNat, by omega⟩
        have hd1 : decide ((j : Int) < (m : Int)) = true := by simp; omega
        have eG : getV (m : Int) n f (j : Int) = Pk.bitAt f j := by unfold getV; rw [hvb, hd0, hd1, Int.toNat_natCast]; rfl
        rw [eG]
        have hbit := fun w h => refBitC (m : Int) j n cap sp f hf (by have := M.words; omega) (MayBe.len M) w h
        clear hvb eG
        go_enter Tryd.func12, Tryd.ntmps12
        go_wp2_with (first | (go_at_call 10; refine hv.mono ?_; rintro e w2 ⟨rfl, g2⟩; have B2 := hB.kept g2 (by simp); have y0 := B2.cell0; have y1 := B2.cell1) | (go_at_call 21; refine (hbit w2 ((hc.kept hg (by simp)).kept g2 (by simp))).mono ?_; rintro e w3 ⟨rfl, g3⟩))
        go_ret
        exact ⟨rfl, gb_trans hg (gb_trans g2 g3)⟩
      · have hd1 : decide (i < (m : Int)) = false := by simp; omega
        have eG : getV (m : Int) n f i = false := by unfold getV; rw [hd1]; simp
        rw [eG]
        clear hvb eG
        go_enter Tryd.func12, Tryd.ntmps12
        go_wp2_with (first | (go_at_call 10; refine hv.mono ?_; rintro e w2 ⟨rfl, g2⟩; have B2 := hB.kept g2 (by simp); have y0 := B2.cell0; have y1 := B2.cell1))
        go_ret
        exact ⟨rfl, gb_trans hg g2⟩
    · have hd0 : decide (0 ≤ i) = false := by simp; omega
      have eG : getV (m : Int) n f i = false := by unfold getV; rw [hd0]; simp
      rw [eG]
      clear hvb eG
      go_enter Tryd.func12, Tryd.ntmps12
      go_wp2_with (first | (go_at_call 10; refine hv.mono ?_; rintro e w2 ⟨rfl, g2⟩; have B2 := hB.kept g2 (by simp); have y0 := B2.cell0; have y1 := B2.cell1))
      go_ret
      exact ⟨rfl, gb_trans hg g2⟩
end Go.Proofs.YtkgipjabkalnaaaDoor.Wo
