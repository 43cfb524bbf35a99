/-
  DERIVED. GIVEN WITH THE SEED: THE CARDS: each row of YteegbhnfkcbnoaaDoorRows.lean that lists a variable, with what it lists TIED to the program's text (the seventh form; the later family's looks); each row that meets fmt, with fmt's text TOLD by the authors' own Lean function (tested against real Go, not proved from fmt's source: count such statements apart). THE CARD IS WHAT COUNTS. Prove the row's statement (the work); the ties are given (YteegbhnfkcbnoaaDoorTie.lean); close each card by the builder's one call (the guide's Derived/Test/ToyasCard.lean, 'card_holds'). Laid BY PROGRAM, IN A SANDBOX (cutbox-door.mjs). By AI agents, Wed Nov 11 2026. No macro, syntax, notation, axiom, sorry.
-/
import Derived.Test.YteegbhnfkcbnoaaDoorRows
import GoSem.ClaimSeven
namespace Go.Proofs.YteegbhnfkcbnoaaDoor
namespace Rows

/-- THE TIED CARD OF 'vivariumlaw04.TopoNames'. -/
def topoNamesCard : Claim7 := { stood := { row := topoNamesRow, standIns := [], harness := (true, "b1a6b8e38517c65e34dd219cacbfe5365ae7d2e9418ab23ff4e6e47e46b23986"), looks := true }, kinds := [], alts := [], laidByText := true, laidKinds := [.data, .data, .data, .data, .sentinel, .sentinel, .data, .pinned], laidTests := true, laidLooks := .later }
def TopoNamesCardSaid : Prop := Claim7.holds Tryd.pinned (.plain (OpenSpec.ofChange topoNamesSpec)) topoNamesCard

/-- THE TIED CARD OF 'vivariumlaw04.TopoParses'. -/
def topoParsesCard : Claim7 := { stood := { row := topoParsesRow, standIns := [], harness := (true, "b1a6b8e38517c65e34dd219cacbfe5365ae7d2e9418ab23ff4e6e47e46b23986"), looks := true }, kinds := [], alts := [], laidByText := true, laidKinds := [.data, .data, .data, .data, .sentinel, .sentinel, .data, .pinned], laidTests := true, laidLooks := .later }
def TopoParsesCardSaid : Prop := Claim7.holds Tryd.pinned (.plain (OpenSpec.ofChange topoParsesSpec)) topoParsesCard

/-- THE TIED CARD OF 'vivariumlaw04.TopoPrints'. -/
def topoPrintsCard : Claim7 := { stood := { row := topoPrintsRow, standIns := [], harness := (true, "b1a6b8e38517c65e34dd219cacbfe5365ae7d2e9418ab23ff4e6e47e46b23986"), looks := true }, kinds := [], alts := [], laidByText := true, laidKinds := [.data, .data, .data, .data], laidTests := true, laidLooks := .later }
def TopoPrintsCardSaid : Prop := Claim7.holds Tryd.pinned (.plain (OpenSpec.ofChange topoPrintsSpec)) topoPrintsCard

/-- THE TIED CARD OF 'vivariumlaw04.TopoBack'. -/
def topoBackCard : Claim7 := { stood := { row := topoBackRow, standIns := [], harness := (true, "b1a6b8e38517c65e34dd219cacbfe5365ae7d2e9418ab23ff4e6e47e46b23986"), looks := true }, kinds := [], alts := [], laidByText := true, laidKinds := [.data, .data, .data, .data, .sentinel, .sentinel, .data, .pinned], laidTests := true, laidLooks := .later }
def TopoBackCardSaid : Prop := Claim7.holds Tryd.pinned (.plain (OpenSpec.ofChange topoBackSpec)) topoBackCard

/-- THE SECOND FORM's CARD OF 'vivariumlaw04.TopoNames'. -/
def topoNamesUptoCard : Claim7 := { stood := { row := topoNamesUptoRow, standIns := [], harness := (true, "b1a6b8e38517c65e34dd219cacbfe5365ae7d2e9418ab23ff4e6e47e46b23986"), looks := true }, kinds := [], alts := [], laidByText := true, laidKinds := [.data, .data, .data, .data, .sentinel, .sentinel, .data, .pinned], laidTests := true, laidLooks := .later }
def TopoNamesUptoCardSaid : Prop := Claim7.holds Tryd.pinned (.plain (OpenSpec.upto topoNamesSpec)) topoNamesUptoCard

/-- THE SECOND FORM's CARD OF 'vivariumlaw04.TopoParses'. -/
def topoParsesUptoCard : Claim7 := { stood := { row := topoParsesUptoRow, standIns := [], harness := (true, "b1a6b8e38517c65e34dd219cacbfe5365ae7d2e9418ab23ff4e6e47e46b23986"), looks := true }, kinds := [], alts := [], laidByText := true, laidKinds := [.data, .data, .data, .data, .sentinel, .sentinel, .data, .pinned], laidTests := true, laidLooks := .later }
def TopoParsesUptoCardSaid : Prop := Claim7.holds Tryd.pinned (.plain (OpenSpec.upto topoParsesSpec)) topoParsesUptoCard

/-- THE SECOND FORM's CARD OF 'vivariumlaw04.TopoPrints'. -/
def topoPrintsUptoCard : Claim7 := { stood := { row := topoPrintsUptoRow, standIns := [], harness := (true, "b1a6b8e38517c65e34dd219cacbfe5365ae7d2e9418ab23ff4e6e47e46b23986"), looks := true }, kinds := [], alts := [], laidByText := true, laidKinds := [.data, .data, .data, .data], laidTests := true, laidLooks := .later }
def TopoPrintsUptoCardSaid : Prop := Claim7.holds Tryd.pinned (.plain (OpenSpec.upto topoPrintsSpec)) topoPrintsUptoCard

/-- THE SECOND FORM's CARD OF 'vivariumlaw04.TopoBack'. -/
def topoBackUptoCard : Claim7 := { stood := { row := topoBackUptoRow, standIns := [], harness := (true, "b1a6b8e38517c65e34dd219cacbfe5365ae7d2e9418ab23ff4e6e47e46b23986"), looks := true }, kinds := [], alts := [], laidByText := true, laidKinds := [.data, .data, .data, .data, .sentinel, .sentinel, .data, .pinned], laidTests := true, laidLooks := .later }
def TopoBackUptoCardSaid : Prop := Claim7.holds Tryd.pinned (.plain (OpenSpec.upto topoBackSpec)) topoBackUptoCard
end Rows
end Go.Proofs.YteegbhnfkcbnoaaDoor
