/- Plain facts on topologies: which may be. Nothing of the program in it. -/
import Derived.Lib.Hide
namespace Go.Proofs.YthjiiljglgmkpaaGreatDoor.Tp

/-- The turned side. -/
def sd (w h t : Int) : Int := if t = 2 then h else w
/-- What Check answers, by P4.1. -/
def chk (k w h t s : Int) : Int :=
  if k < 1 ∨ 5 < k then 40
  else if w < 0 ∨ 65536 < w ∨ h < 0 ∨ 65536 < h ∨ (k = 5 ∧ w ≠ h) then 41
  else if 3 ≤ k ∧ (w = 0 ∨ h = 0) then 42
  else if 2 < t ∨ (t ≠ 0 ∧ k ≠ 2 ∧ k ≠ 3) ∨ (t = 0 ∧ k = 3) then 44
  else if t = 0 then (if s = 0 then 0 else 43)
  else if sd w h t ≤ s ∨ s ≤ -(sd w h t) then 43
  else if k = 2 ∧ (s = 0 ∨ w = 0 ∨ h = 0) then 43
  else 0
theorem chk40 {k w h t s : Int} (h1 : k < 1 ∨ 5 < k) : chk k w h t s = 40 := by unfold chk; rw [if_pos h1]
theorem chk41 {k w h t s : Int} (h1 : ¬ (k < 1 ∨ 5 < k)) (h2 : w < 0 ∨ 65536 < w ∨ h < 0 ∨ 65536 < h ∨ (k = 5 ∧ w ≠ h)) : chk k w h t s = 41 := by unfold chk; rw [if_neg h1, if_pos h2]
theorem chk42 {k w h t s : Int} (h1 : ¬ (k < 1 ∨ 5 < k)) (h2 : ¬ (w < 0 ∨ 65536 < w ∨ h < 0 ∨ 65536 < h ∨ (k = 5 ∧ w ≠ h))) (h3 : 3 ≤ k ∧ (w = 0 ∨ h = 0)) : chk k w h t s = 42 := by unfold chk; rw [if_neg h1, if_neg h2, if_pos h3]
theorem chk44 {k w h t s : Int} (h1 : ¬ (k < 1 ∨ 5 < k)) (h2 : ¬ (w < 0 ∨ 65536 < w ∨ h < 0 ∨ 65536 < h ∨ (k = 5 ∧ w ≠ h))) (h3 : ¬ (3 ≤ k ∧ (w = 0 ∨ h = 0))) (h4 : 2 < t ∨ (t ≠ 0 ∧ k ≠ 2 ∧ k ≠ 3) ∨ (t = 0 ∧ k = 3)) : chk k w h t s = 44 := by unfold chk; rw [if_neg h1, if_neg h2, if_neg h3, if_pos h4]
/-- What holds of a topology that may be. -/
structure Ok (k w h t s : Int) : Prop where
  kind : 1 ≤ k ∧ k ≤ 5
  wide : 0 ≤ w ∧ w ≤ 65536
  high : 0 ≤ h ∧ h ≤ 65536
  alike : k = 5 → w = h
  ended : 3 ≤ k → w ≠ 0 ∧ h ≠ 0
  turn : t ≤ 2
  turns : t ≠ 0 → k = 2 ∨ k = 3
  flips : t = 0 → k ≠ 3
  none : t = 0 → s = 0
  near : t ≠ 0 → s < sd w h t ∧ -(sd w h t) < s
  torus : t ≠ 0 → k = 2 → s ≠ 0 ∧ w ≠ 0 ∧ h ≠ 0
theorem ok_of {k w h t s : Int} (h0 : chk k w h t s = 0) : Ok k w h t s := by
  unfold chk at h0
  by_cases h1 : k < 1 ∨ 5 < k
  · rw [if_pos h1] at h0; omega
  rw [if_neg h1] at h0
  by_cases h2 : w < 0 ∨ 65536 < w ∨ h < 0 ∨ 65536 < h ∨ (k = 5 ∧ w ≠ h)
  · rw [if_pos h2] at h0; omega
  rw [if_neg h2] at h0
  by_cases h3 : 3 ≤ k ∧ (w = 0 ∨ h = 0)
  · rw [if_pos h3] at h0; omega
  rw [if_neg h3] at h0
  by_cases h4 : 2 < t ∨ (t ≠ 0 ∧ k ≠ 2 ∧ k ≠ 3) ∨ (t = 0 ∧ k = 3)
  · rw [if_pos h4] at h0; omega
  rw [if_neg h4] at h0
  by_cases h5 : t = 0
  · rw [if_pos h5] at h0
    by_cases h6 : s = 0
    · exact ⟨by omega, by omega, by omega, by omega, by omega, by omega, by omega, by omega, by omega, by omega, by omega⟩
    · rw [if_neg h6] at h0; omega
  rw [if_neg h5] at h0
  by_cases h6 : sd w h t ≤ s ∨ s ≤ -(sd w h t)
  · rw [if_pos h6] at h0; omega
  rw [if_neg h6] at h0
  by_cases h7 : k = 2 ∧ (s = 0 ∨ w = 0 ∨ h = 0)
  · rw [if_pos h7] at h0; omega
  exact ⟨by omega, by omega, by omega, by omega, by omega, by omega, by omega, by omega, by omega, by omega, by omega⟩
theorem of_ok {k w h t s : Int} (o : Ok k w h t s) (ht : 0 ≤ t) : chk k w h t s = 0 := by
  have a1 := o.kind; have a2 := o.wide; have a3 := o.high; have a4 := o.alike; have a5 := o.ended; have a6 := o.turn; have a7 := o.turns; have a8 := o.flips; have a9 := o.none; have a10 := o.near; have a11 := o.torus
  unfold chk
  rw [if_neg (by omega), if_neg (by omega), if_neg (by omega), if_neg (by omega)]
  by_cases h5 : t = 0
  · rw [if_pos h5, if_pos (a9 h5)]
  · have b1 := a10 h5
    rw [if_neg h5, if_neg (by omega), if_neg]
    intro ⟨h6, h7⟩
    have := a11 h5 h6
    omega
theorem sd_wide {w h : Int} : sd w h 1 = w := rfl
theorem sd_high {w h : Int} : sd w h 2 = h := rfl
theorem sd_one {w h t : Int} (ht : ¬ t = 2) : sd w h t = w := if_neg ht
theorem chk_or (k w h t s : Int) : chk k w h t s = 0 ∨ (40 ≤ chk k w h t s ∧ chk k w h t s ≤ 44) := by
  unfold chk
  repeat' split
  all_goals omega
end Go.Proofs.YthjiiljglgmkpaaGreatDoor.Tp
