/-
  DERIVED. GIVEN WITH THE SEED: THE CARDS: each row of YtcdefpfnjjahgaaDoorRows.lean that lists a variable, with what it lists TIED to the program's text (the seventh form; the later family's looks); each row that meets fmt, with fmt's text TOLD by the authors' own Lean function (tested against real Go, not proved from fmt's source: count such statements apart). THE CARD IS WHAT COUNTS. Prove the row's statement (the work); the ties are given (YtcdefpfnjjahgaaDoorTie.lean); close each card by the builder's one call (the guide's Derived/Test/ToyasCard.lean, 'card_holds'). Laid BY PROGRAM, IN A SANDBOX (cutbox-door.mjs). By AI agents, Wed Nov 11 2026. No macro, syntax, notation, axiom, sorry.
-/
import Derived.Test.YtcdefpfnjjahgaaDoorRows
import GoSem.ClaimSeven
namespace Go.Proofs.YtcdefpfnjjahgaaDoor
namespace Rows

/-- THE TIED CARD OF 'vivariumlaw02.WordsMoves'. -/
def wordsMovesCard : Claim7 := { stood := { row := wordsMovesRow, standIns := [], harness := (true, "d4db9892ce1617dd5470b5888825061dd62209347413c3034fa8a68f13c6da87"), looks := false }, kinds := [], alts := [], laidByText := true, laidKinds := [.data], laidTests := true, laidLooks := .later }
def WordsMovesCardSaid : Prop := Claim7.holds Tryd.pinned (.plain (OpenSpec.ofChange wordsMovesSpec)) wordsMovesCard

/-- THE TIED CARD OF 'vivariumlaw02.WordsOnes'. -/
def wordsOnesCard : Claim7 := { stood := { row := wordsOnesRow, standIns := [], harness := (true, "d4db9892ce1617dd5470b5888825061dd62209347413c3034fa8a68f13c6da87"), looks := false }, kinds := [], alts := [], laidByText := true, laidKinds := [.data], laidTests := true, laidLooks := .later }
def WordsOnesCardSaid : Prop := Claim7.holds Tryd.pinned (.plain (OpenSpec.ofChange wordsOnesSpec)) wordsOnesCard

/-- THE SECOND FORM's CARD OF 'vivariumlaw02.WordsMoves'. -/
def wordsMovesUptoCard : Claim7 := { stood := { row := wordsMovesUptoRow, standIns := [], harness := (true, "d4db9892ce1617dd5470b5888825061dd62209347413c3034fa8a68f13c6da87"), looks := false }, kinds := [], alts := [], laidByText := true, laidKinds := [.data], laidTests := true, laidLooks := .later }
def WordsMovesUptoCardSaid : Prop := Claim7.holds Tryd.pinned (.plain (OpenSpec.upto wordsMovesSpec)) wordsMovesUptoCard

/-- THE SECOND FORM's CARD OF 'vivariumlaw02.WordsOnes'. -/
def wordsOnesUptoCard : Claim7 := { stood := { row := wordsOnesUptoRow, standIns := [], harness := (true, "d4db9892ce1617dd5470b5888825061dd62209347413c3034fa8a68f13c6da87"), looks := false }, kinds := [], alts := [], laidByText := true, laidKinds := [.data], laidTests := true, laidLooks := .later }
def WordsOnesUptoCardSaid : Prop := Claim7.holds Tryd.pinned (.plain (OpenSpec.upto wordsOnesSpec)) wordsOnesUptoCard
end Rows
end Go.Proofs.YtcdefpfnjjahgaaDoor
