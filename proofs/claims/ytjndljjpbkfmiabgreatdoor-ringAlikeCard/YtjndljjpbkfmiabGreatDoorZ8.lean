/- Get, Set, Pop of a field of bytes. -/
import Derived.Test.YtjndljjpbkfmiabGreatDoorZ5
namespace Go.Proofs.YtjndljjpbkfmiabGreatDoor
open Go.RowKit
set_option linter.unusedVariables false
set_option linter.unusedSimpArgs false
set_option maxRecDepth 100000

theorem Fb.apart {w : World} {b s q C R S : Nat} {g : Nat → Nat} (h : Fb w b s q C R S g) : b ≠ q := by
  rintro rfl
  obtain ⟨K, _, _, f0, ⟨c, hc, _⟩, _⟩ := h.st.cap
  have := h.fld
  unfold Bo at this
  rw [this] at hc
  simp at hc
/-- How many cells of the first k rows live. -/
def popN (g : Nat → Nat) (C : Nat) : Nat → Nat
  | 0 => 0
  | k + 1 => popN g C k + cnt (fun x => g (k * C + x)) C
theorem popN_le (g : Nat → Nat) (C : Nat) : ∀ k, popN g C k ≤ k * C
  | 0 => Nat.zero_le _
  | k + 1 => by
    have h1 := popN_le g C k
    have h2 := cnt_le (fun x => g (k * C + x)) C
    rw [popN, Nat.add_mul, Nat.one_mul]
    omega

end Go.Proofs.YtjndljjpbkfmiabGreatDoor
