/-
  DERIVED. GIVEN WITH THE SEED: THE CARDS: each row of YteaionmjbkildaaDoorRows.lean that lists a variable, with what it lists TIED to the program's text (the seventh form; the later family's looks); each row that meets fmt, with fmt's text TOLD by the authors' own Lean function (tested against real Go, not proved from fmt's source: count such statements apart). THE CARD IS WHAT COUNTS. Prove the row's statement (the work); the ties are given (YteaionmjbkildaaDoorTie.lean); close each card by the builder's one call (the guide's Derived/Test/ToyasCard.lean, 'card_holds'). Laid BY PROGRAM, IN A SANDBOX (cutbox-door.mjs). By AI agents, Wed Nov 11 2026. No macro, syntax, notation, axiom, sorry.
-/
import Derived.Test.YteaionmjbkildaaDoorRows
import GoSem.ClaimSeven
namespace Go.Proofs.YteaionmjbkildaaDoor
namespace Rows

/-- THE TIED CARD OF 'vivariumlaw11.TreeNames'. -/
def treeNamesCard : Claim7 := { stood := { row := treeNamesRow, standIns := [], harness := (true, "14c1de517048fde817ae6fc1e8cd1aba0a18bb2ea55f3db70cad86a08bec2cdd"), looks := false }, kinds := [], alts := [], laidByText := true, laidKinds := [.data, .data, .data], laidTests := true, laidLooks := .later }
def TreeNamesCardSaid : Prop := Claim7.holds Tryd.pinned (.plain (OpenSpec.ofChange treeNamesSpec)) treeNamesCard

/-- THE TIED CARD OF 'vivariumlaw11.TreeOfs'. -/
def treeOfsCard : Claim7 := { stood := { row := treeOfsRow, standIns := [], harness := (true, "14c1de517048fde817ae6fc1e8cd1aba0a18bb2ea55f3db70cad86a08bec2cdd"), looks := false }, kinds := [], alts := [], laidByText := true, laidKinds := [.data, .data, .data], laidTests := true, laidLooks := .later }
def TreeOfsCardSaid : Prop := Claim7.holds Tryd.pinned (.plain (OpenSpec.ofChange treeOfsSpec)) treeOfsCard

/-- THE TIED CARD OF 'vivariumlaw11.TreeNone'. -/
def treeNoneCard : Claim7 := { stood := { row := treeNoneRow, standIns := [], harness := (true, "14c1de517048fde817ae6fc1e8cd1aba0a18bb2ea55f3db70cad86a08bec2cdd"), looks := false }, kinds := [], alts := [], laidByText := true, laidKinds := [.data, .data, .data], laidTests := true, laidLooks := .later }
def TreeNoneCardSaid : Prop := Claim7.holds Tryd.pinned (.plain (OpenSpec.ofChange treeNoneSpec)) treeNoneCard

/-- THE TIED CARD OF 'vivariumlaw11.TreeAts'. -/
def treeAtsCard : Claim7 := { stood := { row := treeAtsRow, standIns := [], harness := (true, "14c1de517048fde817ae6fc1e8cd1aba0a18bb2ea55f3db70cad86a08bec2cdd"), looks := false }, kinds := [], alts := [], laidByText := true, laidKinds := [.data, .data, .data], laidTests := true, laidLooks := .later }
def TreeAtsCardSaid : Prop := Claim7.holds Tryd.pinned (.plain (OpenSpec.ofChange treeAtsSpec)) treeAtsCard

/-- THE TIED CARD OF 'vivariumlaw11.TreeSames'. -/
def treeSamesCard : Claim7 := { stood := { row := treeSamesRow, standIns := [], harness := (true, "14c1de517048fde817ae6fc1e8cd1aba0a18bb2ea55f3db70cad86a08bec2cdd"), looks := false }, kinds := [], alts := [], laidByText := true, laidKinds := [.data, .data, .data], laidTests := true, laidLooks := .later }
def TreeSamesCardSaid : Prop := Claim7.holds Tryd.pinned (.plain (OpenSpec.ofChange treeSamesSpec)) treeSamesCard

/-- THE TIED CARD OF 'vivariumlaw11.TreeKeepses'. -/
def treeKeepsesCard : Claim7 := { stood := { row := treeKeepsesRow, standIns := [], harness := (true, "14c1de517048fde817ae6fc1e8cd1aba0a18bb2ea55f3db70cad86a08bec2cdd"), looks := false }, kinds := [], alts := [], laidByText := true, laidKinds := [.data, .data, .data], laidTests := true, laidLooks := .later }
def TreeKeepsesCardSaid : Prop := Claim7.holds Tryd.pinned (.plain (OpenSpec.ofChange treeKeepsesSpec)) treeKeepsesCard

/-- THE SECOND FORM's CARD OF 'vivariumlaw11.TreeNames'. -/
def treeNamesUptoCard : Claim7 := { stood := { row := treeNamesUptoRow, standIns := [], harness := (true, "14c1de517048fde817ae6fc1e8cd1aba0a18bb2ea55f3db70cad86a08bec2cdd"), looks := false }, kinds := [], alts := [], laidByText := true, laidKinds := [.data, .data, .data], laidTests := true, laidLooks := .later }
def TreeNamesUptoCardSaid : Prop := Claim7.holds Tryd.pinned (.plain (OpenSpec.upto treeNamesSpec)) treeNamesUptoCard

/-- THE SECOND FORM's CARD OF 'vivariumlaw11.TreeOfs'. -/
def treeOfsUptoCard : Claim7 := { stood := { row := treeOfsUptoRow, standIns := [], harness := (true, "14c1de517048fde817ae6fc1e8cd1aba0a18bb2ea55f3db70cad86a08bec2cdd"), looks := false }, kinds := [], alts := [], laidByText := true, laidKinds := [.data, .data, .data], laidTests := true, laidLooks := .later }
def TreeOfsUptoCardSaid : Prop := Claim7.holds Tryd.pinned (.plain (OpenSpec.upto treeOfsSpec)) treeOfsUptoCard

/-- THE SECOND FORM's CARD OF 'vivariumlaw11.TreeNone'. -/
def treeNoneUptoCard : Claim7 := { stood := { row := treeNoneUptoRow, standIns := [], harness := (true, "14c1de517048fde817ae6fc1e8cd1aba0a18bb2ea55f3db70cad86a08bec2cdd"), looks := false }, kinds := [], alts := [], laidByText := true, laidKinds := [.data, .data, .data], laidTests := true, laidLooks := .later }
def TreeNoneUptoCardSaid : Prop := Claim7.holds Tryd.pinned (.plain (OpenSpec.upto treeNoneSpec)) treeNoneUptoCard

/-- THE SECOND FORM's CARD OF 'vivariumlaw11.TreeAts'. -/
def treeAtsUptoCard : Claim7 := { stood := { row := treeAtsUptoRow, standIns := [], harness := (true, "14c1de517048fde817ae6fc1e8cd1aba0a18bb2ea55f3db70cad86a08bec2cdd"), looks := false }, kinds := [], alts := [], laidByText := true, laidKinds := [.data, .data, .data], laidTests := true, laidLooks := .later }
def TreeAtsUptoCardSaid : Prop := Claim7.holds Tryd.pinned (.plain (OpenSpec.upto treeAtsSpec)) treeAtsUptoCard

/-- THE SECOND FORM's CARD OF 'vivariumlaw11.TreeSames'. -/
def treeSamesUptoCard : Claim7 := { stood := { row := treeSamesUptoRow, standIns := [], harness := (true, "14c1de517048fde817ae6fc1e8cd1aba0a18bb2ea55f3db70cad86a08bec2cdd"), looks := false }, kinds := [], alts := [], laidByText := true, laidKinds := [.data, .data, .data], laidTests := true, laidLooks := .later }
def TreeSamesUptoCardSaid : Prop := Claim7.holds Tryd.pinned (.plain (OpenSpec.upto treeSamesSpec)) treeSamesUptoCard

/-- THE SECOND FORM's CARD OF 'vivariumlaw11.TreeKeepses'. -/
def treeKeepsesUptoCard : Claim7 := { stood := { row := treeKeepsesUptoRow, standIns := [], harness := (true, "14c1de517048fde817ae6fc1e8cd1aba0a18bb2ea55f3db70cad86a08bec2cdd"), looks := false }, kinds := [], alts := [], laidByText := true, laidKinds := [.data, .data, .data], laidTests := true, laidLooks := .later }
def TreeKeepsesUptoCardSaid : Prop := Claim7.holds Tryd.pinned (.plain (OpenSpec.upto treeKeepsesSpec)) treeKeepsesUptoCard
end Rows
end Go.Proofs.YteaionmjbkildaaDoor
