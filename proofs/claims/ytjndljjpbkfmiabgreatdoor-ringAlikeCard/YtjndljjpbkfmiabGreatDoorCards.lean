/-
  DERIVED. GIVEN WITH THE SEED: THE CARDS: each row of YtjndljjpbkfmiabGreatDoorRows.lean that lists a variable, with what it lists TIED to the program's text (the seventh form; the later family's looks); each row that meets fmt, with fmt's text TOLD by the authors' own Lean function (tested against real Go, not proved from fmt's source: count such statements apart). THE CARD IS WHAT COUNTS. Prove the row's statement (the work); the ties are given (YtjndljjpbkfmiabGreatDoorTie.lean); close each card by the builder's one call (the guide's Derived/Test/ToyasCard.lean, 'card_holds'). Laid BY PROGRAM, IN A SANDBOX (cutbox-door.mjs). By AI agents, Wed Nov 11 2026. No macro, syntax, notation, axiom, sorry.
-/
import Derived.Test.YtjndljjpbkfmiabGreatDoorRows
import GoSem.ClaimSeven
namespace Go.Proofs.YtjndljjpbkfmiabGreatDoor
namespace Rows

/-- THE TIED CARD OF 'vivariumlaw14.RingAlike'. -/
def ringAlikeCard : Claim7 := { stood := { row := ringAlikeRow, standIns := [], harness := (true, "bec54ee672df0623f480307cccc49f6934ca903d887e52a473bb5f61ef3bebda"), looks := false }, kinds := [], alts := [], laidByText := true, laidKinds := [.data], laidTests := true, laidLooks := .later }
def RingAlikeCardSaid : Prop := Claim7.holds Tryz.pinned (.plain (OpenSpec.ofChange ringAlikeSpec)) ringAlikeCard

/-- THE SECOND FORM's CARD OF 'vivariumlaw14.RingAlike'. -/
def ringAlikeUptoCard : Claim7 := { stood := { row := ringAlikeUptoRow, standIns := [], harness := (true, "bec54ee672df0623f480307cccc49f6934ca903d887e52a473bb5f61ef3bebda"), looks := false }, kinds := [], alts := [], laidByText := true, laidKinds := [.data], laidTests := true, laidLooks := .later }
def RingAlikeUptoCardSaid : Prop := Claim7.holds Tryz.pinned (.plain (OpenSpec.upto ringAlikeSpec)) ringAlikeUptoCard
end Rows
end Go.Proofs.YtjndljjpbkfmiabGreatDoor
