/-
  DERIVED. GIVEN WITH THE SEED: THE CARDS: each row of YtlkdenanbofliaaGreatDoorRows.lean that lists a variable, with what it lists TIED to the program's text (the seventh form; the later family's looks); each row that meets fmt, with fmt's text TOLD by the authors' own Lean function (tested against real Go, not proved from fmt's source: count such statements apart). THE CARD IS WHAT COUNTS. Prove the row's statement (the work); the ties are given (YtlkdenanbofliaaGreatDoorTie.lean); close each card by the builder's one call (the guide's Derived/Test/ToyasCard.lean, 'card_holds'). Laid BY PROGRAM, IN A SANDBOX (cutbox-door.mjs). By AI agents, Wed Nov 11 2026. No macro, syntax, notation, axiom, sorry.
-/
import Derived.Test.YtlkdenanbofliaaGreatDoorRows
import GoSem.ClaimSeven
namespace Go.Proofs.YtlkdenanbofliaaGreatDoor
namespace Rows

/-- THE TIED CARD OF 'vivariumlaw09.GensParse'. -/
def gensParseCard : Claim7 := { stood := { row := gensParseRow, standIns := [], harness := (true, "560b1afa2c41624370954fa24ad4f18a85d78dda436ca44618002fab285d11fe"), looks := true }, kinds := [], alts := [], laidByText := true, laidKinds := [.data, .data, .data, .data, .sentinel, .sentinel, .data, .pinned], laidTests := true, laidLooks := .later }
def GensParseCardSaid : Prop := Claim7.holds Tryz.pinned (.plain (OpenSpec.ofChange gensParseSpec)) gensParseCard

/-- THE TIED CARD OF 'vivariumlaw09.GensPrint'. -/
def gensPrintCard : Claim7 := { stood := { row := gensPrintRow, standIns := [], harness := (true, "560b1afa2c41624370954fa24ad4f18a85d78dda436ca44618002fab285d11fe"), looks := true }, kinds := [], alts := [], laidByText := true, laidKinds := [.data, .data, .data, .data, .sentinel, .sentinel, .data, .pinned], laidTests := true, laidLooks := .later }
def GensPrintCardSaid : Prop := Claim7.holds Tryz.pinned (.plain (OpenSpec.ofChange gensPrintSpec)) gensPrintCard

/-- THE TIED CARD OF 'vivariumlaw09.GensNext'. -/
def gensNextCard : Claim7 := { stood := { row := gensNextRow, standIns := [], harness := (true, "560b1afa2c41624370954fa24ad4f18a85d78dda436ca44618002fab285d11fe"), looks := true }, kinds := [], alts := [], laidByText := true, laidKinds := [.data, .data, .data, .data, .sentinel, .sentinel, .data, .pinned], laidTests := true, laidLooks := .later }
def GensNextCardSaid : Prop := Claim7.holds Tryz.pinned (.plain (OpenSpec.ofChange gensNextSpec)) gensNextCard

/-- THE TIED CARD OF 'vivariumlaw09.GensBack'. -/
def gensBackCard : Claim7 := { stood := { row := gensBackRow, standIns := [], harness := (true, "560b1afa2c41624370954fa24ad4f18a85d78dda436ca44618002fab285d11fe"), looks := true }, kinds := [], alts := [], laidByText := true, laidKinds := [.data, .data, .data, .data, .sentinel, .sentinel, .data, .pinned], laidTests := true, laidLooks := .later }
def GensBackCardSaid : Prop := Claim7.holds Tryz.pinned (.plain (OpenSpec.ofChange gensBackSpec)) gensBackCard

/-- THE TIED CARD OF 'vivariumlaw09.GensFades'. -/
def gensFadesCard : Claim7 := { stood := { row := gensFadesRow, standIns := [], harness := (true, "560b1afa2c41624370954fa24ad4f18a85d78dda436ca44618002fab285d11fe"), looks := true }, kinds := [], alts := [], laidByText := true, laidKinds := [.data, .data, .data, .data, .sentinel, .sentinel, .data, .pinned], laidTests := true, laidLooks := .later }
def GensFadesCardSaid : Prop := Claim7.holds Tryz.pinned (.plain (OpenSpec.ofChange gensFadesSpec)) gensFadesCard

/-- THE SECOND FORM's CARD OF 'vivariumlaw09.GensParse'. -/
def gensParseUptoCard : Claim7 := { stood := { row := gensParseUptoRow, standIns := [], harness := (true, "560b1afa2c41624370954fa24ad4f18a85d78dda436ca44618002fab285d11fe"), looks := true }, kinds := [], alts := [], laidByText := true, laidKinds := [.data, .data, .data, .data, .sentinel, .sentinel, .data, .pinned], laidTests := true, laidLooks := .later }
def GensParseUptoCardSaid : Prop := Claim7.holds Tryz.pinned (.plain (OpenSpec.upto gensParseSpec)) gensParseUptoCard

/-- THE SECOND FORM's CARD OF 'vivariumlaw09.GensPrint'. -/
def gensPrintUptoCard : Claim7 := { stood := { row := gensPrintUptoRow, standIns := [], harness := (true, "560b1afa2c41624370954fa24ad4f18a85d78dda436ca44618002fab285d11fe"), looks := true }, kinds := [], alts := [], laidByText := true, laidKinds := [.data, .data, .data, .data, .sentinel, .sentinel, .data, .pinned], laidTests := true, laidLooks := .later }
def GensPrintUptoCardSaid : Prop := Claim7.holds Tryz.pinned (.plain (OpenSpec.upto gensPrintSpec)) gensPrintUptoCard

/-- THE SECOND FORM's CARD OF 'vivariumlaw09.GensNext'. -/
def gensNextUptoCard : Claim7 := { stood := { row := gensNextUptoRow, standIns := [], harness := (true, "560b1afa2c41624370954fa24ad4f18a85d78dda436ca44618002fab285d11fe"), looks := true }, kinds := [], alts := [], laidByText := true, laidKinds := [.data, .data, .data, .data, .sentinel, .sentinel, .data, .pinned], laidTests := true, laidLooks := .later }
def GensNextUptoCardSaid : Prop := Claim7.holds Tryz.pinned (.plain (OpenSpec.upto gensNextSpec)) gensNextUptoCard

/-- THE SECOND FORM's CARD OF 'vivariumlaw09.GensBack'. -/
def gensBackUptoCard : Claim7 := { stood := { row := gensBackUptoRow, standIns := [], harness := (true, "560b1afa2c41624370954fa24ad4f18a85d78dda436ca44618002fab285d11fe"), looks := true }, kinds := [], alts := [], laidByText := true, laidKinds := [.data, .data, .data, .data, .sentinel, .sentinel, .data, .pinned], laidTests := true, laidLooks := .later }
def GensBackUptoCardSaid : Prop := Claim7.holds Tryz.pinned (.plain (OpenSpec.upto gensBackSpec)) gensBackUptoCard

/-- THE SECOND FORM's CARD OF 'vivariumlaw09.GensFades'. -/
def gensFadesUptoCard : Claim7 := { stood := { row := gensFadesUptoRow, standIns := [], harness := (true, "560b1afa2c41624370954fa24ad4f18a85d78dda436ca44618002fab285d11fe"), looks := true }, kinds := [], alts := [], laidByText := true, laidKinds := [.data, .data, .data, .data, .sentinel, .sentinel, .data, .pinned], laidTests := true, laidLooks := .later }
def GensFadesUptoCardSaid : Prop := Claim7.holds Tryz.pinned (.plain (OpenSpec.upto gensFadesSpec)) gensFadesUptoCard
end Rows
end Go.Proofs.YtlkdenanbofliaaGreatDoor
