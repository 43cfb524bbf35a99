/- A row's cells, as a range. -/
import Derived.Test.YtlkdenanbofliaaGreatDoorL14
namespace Go.Proofs.YtlkdenanbofliaaGreatDoor
open Go.RowKit
theorem ra_of' {w : World} {g : Nat} {t : TypeId} {cs : Array Value} {l : List Value} (h : Bo w g t cs) (hl : Hid (cs.toList = l)) : w.rangeAt g 0 l := by
  rw [← hl.out]
  intro j v hv
  rw [Nat.zero_add]
  exact h.cell j (by simpa using hv)
end Go.Proofs.YtlkdenanbofliaaGreatDoor
