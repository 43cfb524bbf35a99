/-
  DERIVED. GIVEN WITH THE SEED: THE CARDS: each row of YteegbhnfkcbnoabDoorRows.lean that lists a variable, with what it lists TIED to the program's text (the seventh form; the later family's looks); each row that meets fmt, with fmt's text TOLD by the authors' own Lean function (tested against real Go, not proved from fmt's source: count such statements apart). THE CARD IS WHAT COUNTS. Prove the row's statement (the work); the ties are given (YteegbhnfkcbnoabDoorTie.lean); close each card by the builder's one call (the guide's Derived/Test/ToyasCard.lean, 'card_holds'). Laid BY PROGRAM, IN A SANDBOX (cutbox-door.mjs). By AI agents, Wed Nov 11 2026. No macro, syntax, notation, axiom, sorry.
-/
import Derived.Test.YteegbhnfkcbnoabDoorRows
import GoSem.ClaimSeven
namespace Go.Proofs.YteegbhnfkcbnoabDoor
namespace Rows

/-- THE TIED CARD OF 'vivariumlaw04.TopoHome'. -/
def topoHomeCard : Claim7 := { stood := { row := topoHomeRow, standIns := [], harness := (true, "73a2ca25a14eee1dddba47c177890e10324a9c6da7933afc67f3942643f302e4"), looks := true }, kinds := [], alts := [], laidByText := true, laidKinds := [.data, .data, .data, .data, .sentinel, .sentinel, .data, .pinned], laidTests := true, laidLooks := .later }
def TopoHomeCardSaid : Prop := Claim7.holds Tryd.pinned (.plain (OpenSpec.ofChange topoHomeSpec)) topoHomeCard

/-- THE TIED CARD OF 'vivariumlaw04.TopoAcross'. -/
def topoAcrossCard : Claim7 := { stood := { row := topoAcrossRow, standIns := [], harness := (true, "73a2ca25a14eee1dddba47c177890e10324a9c6da7933afc67f3942643f302e4"), looks := true }, kinds := [], alts := [], laidByText := true, laidKinds := [.data, .data, .data, .data, .sentinel, .sentinel, .data, .pinned], laidTests := true, laidLooks := .later }
def TopoAcrossCardSaid : Prop := Claim7.holds Tryd.pinned (.plain (OpenSpec.ofChange topoAcrossSpec)) topoAcrossCard

/-- THE TIED CARD OF 'vivariumlaw04.TopoCanon'. -/
def topoCanonCard : Claim7 := { stood := { row := topoCanonRow, standIns := [], harness := (true, "73a2ca25a14eee1dddba47c177890e10324a9c6da7933afc67f3942643f302e4"), looks := true }, kinds := [], alts := [], laidByText := true, laidKinds := [.data, .data, .data, .data, .sentinel, .sentinel, .data, .pinned], laidTests := true, laidLooks := .later }
def TopoCanonCardSaid : Prop := Claim7.holds Tryd.pinned (.plain (OpenSpec.ofChange topoCanonSpec)) topoCanonCard

/-- THE TIED CARD OF 'vivariumlaw04.TopoFirst'. -/
def topoFirstCard : Claim7 := { stood := { row := topoFirstRow, standIns := [], harness := (true, "73a2ca25a14eee1dddba47c177890e10324a9c6da7933afc67f3942643f302e4"), looks := true }, kinds := [], alts := [], laidByText := true, laidKinds := [.data, .data, .data, .data, .sentinel, .sentinel, .data, .pinned], laidTests := true, laidLooks := .later }
def TopoFirstCardSaid : Prop := Claim7.holds Tryd.pinned (.plain (OpenSpec.ofChange topoFirstSpec)) topoFirstCard

/-- THE SECOND FORM's CARD OF 'vivariumlaw04.TopoHome'. -/
def topoHomeUptoCard : Claim7 := { stood := { row := topoHomeUptoRow, standIns := [], harness := (true, "73a2ca25a14eee1dddba47c177890e10324a9c6da7933afc67f3942643f302e4"), looks := true }, kinds := [], alts := [], laidByText := true, laidKinds := [.data, .data, .data, .data, .sentinel, .sentinel, .data, .pinned], laidTests := true, laidLooks := .later }
def TopoHomeUptoCardSaid : Prop := Claim7.holds Tryd.pinned (.plain (OpenSpec.upto topoHomeSpec)) topoHomeUptoCard

/-- THE SECOND FORM's CARD OF 'vivariumlaw04.TopoAcross'. -/
def topoAcrossUptoCard : Claim7 := { stood := { row := topoAcrossUptoRow, standIns := [], harness := (true, "73a2ca25a14eee1dddba47c177890e10324a9c6da7933afc67f3942643f302e4"), looks := true }, kinds := [], alts := [], laidByText := true, laidKinds := [.data, .data, .data, .data, .sentinel, .sentinel, .data, .pinned], laidTests := true, laidLooks := .later }
def TopoAcrossUptoCardSaid : Prop := Claim7.holds Tryd.pinned (.plain (OpenSpec.upto topoAcrossSpec)) topoAcrossUptoCard

/-- THE SECOND FORM's CARD OF 'vivariumlaw04.TopoCanon'. -/
def topoCanonUptoCard : Claim7 := { stood := { row := topoCanonUptoRow, standIns := [], harness := (true, "73a2ca25a14eee1dddba47c177890e10324a9c6da7933afc67f3942643f302e4"), looks := true }, kinds := [], alts := [], laidByText := true, laidKinds := [.data, .data, .data, .data, .sentinel, .sentinel, .data, .pinned], laidTests := true, laidLooks := .later }
def TopoCanonUptoCardSaid : Prop := Claim7.holds Tryd.pinned (.plain (OpenSpec.upto topoCanonSpec)) topoCanonUptoCard

/-- THE SECOND FORM's CARD OF 'vivariumlaw04.TopoFirst'. -/
def topoFirstUptoCard : Claim7 := { stood := { row := topoFirstUptoRow, standIns := [], harness := (true, "73a2ca25a14eee1dddba47c177890e10324a9c6da7933afc67f3942643f302e4"), looks := true }, kinds := [], alts := [], laidByText := true, laidKinds := [.data, .data, .data, .data, .sentinel, .sentinel, .data, .pinned], laidTests := true, laidLooks := .later }
def TopoFirstUptoCardSaid : Prop := Claim7.holds Tryd.pinned (.plain (OpenSpec.upto topoFirstSpec)) topoFirstUptoCard
end Rows
end Go.Proofs.YteegbhnfkcbnoabDoor
