/- What Print, Next, exchanged, Turned of package life answer. -/
import Derived.Test.YtkgipjabkalnaaaDoorL5
namespace Go.Proofs.YtkgipjabkalnaaaDoor
open Go.RowKit
set_option linter.unusedVariables false
set_option linter.unusedSimpArgs false
set_option maxRecDepth 100000

theorem Lf.ck_in {ho bo st : Nat} (h : Lf.ck ho bo st = 0) : 1 ≤ ho ∧ ho ≤ 3 ∧ bo < 2 ^ (Lf.mo ho + 1) ∧ st < 2 ^ (Lf.mo ho + 1) := by
  unfold Lf.ck at h
  split at h
  · rename_i h1
    split at h
    · rename_i h2; exact ⟨h1.1, h1.2, h2.1, h2.2⟩
    · cases h
  · cases h
namespace Lf
theorem mo_le (h : Nat) : mo h ≤ 8 := by unfold mo; split; decide; split <;> decide
end Lf

namespace Lf
def nxE (ho bo st t : Nat) (l : Int) : Nat := if ck ho bo st ≠ 0 then ck ho bo st else if 1 < t then 7 else if l < 0 ∨ (mo ho : Int) < l then 2 else 0
def nxV (ho bo st t : Nat) (l : Int) : Nat := if nxE ho bo st t l = 0 then (if (if t = 1 then st else bo).testBit l.toNat then 1 else 0) else 0
end Lf
end Go.Proofs.YtkgipjabkalnaaaDoor
