/-
  DERIVED. GIVEN WITH THE SEED: THE CARDS: each row of YtkgipjabkalnaaaDoorRows.lean that lists a variable, with what it lists TIED to the program's text (the seventh form; the later family's looks); each row that meets fmt, with fmt's text TOLD by the authors' own Lean function (tested against real Go, not proved from fmt's source: count such statements apart). THE CARD IS WHAT COUNTS. Prove the row's statement (the work); the ties are given (YtkgipjabkalnaaaDoorTie.lean); close each card by the builder's one call (the guide's Derived/Test/ToyasCard.lean, 'card_holds'). Laid BY PROGRAM, IN A SANDBOX (cutbox-door.mjs). By AI agents, Wed Nov 11 2026. No macro, syntax, notation, axiom, sorry.
-/
import Derived.Test.YtkgipjabkalnaaaDoorRows
import GoSem.ClaimSeven
namespace Go.Proofs.YtkgipjabkalnaaaDoor
namespace Rows

/-- THE TIED CARD OF 'vivariumlaw16.PackedLines'. -/
def packedLinesCard : Claim7 := { stood := { row := packedLinesRow, standIns := [], harness := (true, "e00223784bd26acfb52ef1186bdd3e7bffcada47282cedcf8292ed6cb22ca683"), looks := false }, kinds := [], alts := [], laidByText := true, laidKinds := [.data], laidTests := true, laidLooks := .later }
def PackedLinesCardSaid : Prop := Claim7.holds Tryd.pinned (.plain (OpenSpec.ofChange packedLinesSpec)) packedLinesCard

/-- THE SECOND FORM's CARD OF 'vivariumlaw16.PackedLines'. -/
def packedLinesUptoCard : Claim7 := { stood := { row := packedLinesUptoRow, standIns := [], harness := (true, "e00223784bd26acfb52ef1186bdd3e7bffcada47282cedcf8292ed6cb22ca683"), looks := false }, kinds := [], alts := [], laidByText := true, laidKinds := [.data], laidTests := true, laidLooks := .later }
def PackedLinesUptoCardSaid : Prop := Claim7.holds Tryd.pinned (.plain (OpenSpec.upto packedLinesSpec)) packedLinesUptoCard
end Rows
end Go.Proofs.YtkgipjabkalnaaaDoor
