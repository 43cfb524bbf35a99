/-
  DERIVED. GIVEN WITH THE SEED: THE CARDS: each row of YteaionmjbkildabDoorRows.lean that lists a variable, with what it lists TIED to the program's text (the seventh form; the later family's looks); each row that meets fmt, with fmt's text TOLD by the authors' own Lean function (tested against real Go, not proved from fmt's source: count such statements apart). THE CARD IS WHAT COUNTS. Prove the row's statement (the work); the ties are given (YteaionmjbkildabDoorTie.lean); close each card by the builder's one call (the guide's Derived/Test/ToyasCard.lean, 'card_holds'). Laid BY PROGRAM, IN A SANDBOX (cutbox-door.mjs). By AI agents, Wed Nov 11 2026. No macro, syntax, notation, axiom, sorry.
-/
import Derived.Test.YteaionmjbkildabDoorRows
import GoSem.ClaimSeven
namespace Go.Proofs.YteaionmjbkildabDoor
namespace Rows

/-- THE TIED CARD OF 'vivariumlaw11.TreePrints'. -/
def treePrintsCard : Claim7 := { stood := { row := treePrintsRow, standIns := [], harness := (true, "1a5b5007367311407b778dbd91bec1ea83b4d239d42cadca67a7e6a98d1d7d12"), looks := false }, kinds := [], alts := [], laidByText := true, laidKinds := [.data, .data, .data], laidTests := true, laidLooks := .later }
def TreePrintsCardSaid : Prop := Claim7.holds Tryd.pinned (.plain (OpenSpec.ofChange treePrintsSpec)) treePrintsCard

/-- THE TIED CARD OF 'vivariumlaw11.TreeParses'. -/
def treeParsesCard : Claim7 := { stood := { row := treeParsesRow, standIns := [], harness := (true, "1a5b5007367311407b778dbd91bec1ea83b4d239d42cadca67a7e6a98d1d7d12"), looks := false }, kinds := [], alts := [], laidByText := true, laidKinds := [.data, .data, .data], laidTests := true, laidLooks := .later }
def TreeParsesCardSaid : Prop := Claim7.holds Tryd.pinned (.plain (OpenSpec.ofChange treeParsesSpec)) treeParsesCard

/-- THE TIED CARD OF 'vivariumlaw11.TreeSays'. -/
def treeSaysCard : Claim7 := { stood := { row := treeSaysRow, standIns := [], harness := (true, "1a5b5007367311407b778dbd91bec1ea83b4d239d42cadca67a7e6a98d1d7d12"), looks := false }, kinds := [], alts := [], laidByText := true, laidKinds := [.data, .data, .data], laidTests := true, laidLooks := .later }
def TreeSaysCardSaid : Prop := Claim7.holds Tryd.pinned (.plain (OpenSpec.ofChange treeSaysSpec)) treeSaysCard

/-- THE TIED CARD OF 'vivariumlaw11.TreeOne'. -/
def treeOneCard : Claim7 := { stood := { row := treeOneRow, standIns := [], harness := (true, "1a5b5007367311407b778dbd91bec1ea83b4d239d42cadca67a7e6a98d1d7d12"), looks := false }, kinds := [], alts := [], laidByText := true, laidKinds := [.data, .data, .data], laidTests := true, laidLooks := .later }
def TreeOneCardSaid : Prop := Claim7.holds Tryd.pinned (.plain (OpenSpec.ofChange treeOneSpec)) treeOneCard

/-- THE TIED CARD OF 'vivariumlaw11.TreeForm'. -/
def treeFormCard : Claim7 := { stood := { row := treeFormRow, standIns := [], harness := (true, "1a5b5007367311407b778dbd91bec1ea83b4d239d42cadca67a7e6a98d1d7d12"), looks := false }, kinds := [], alts := [], laidByText := true, laidKinds := [.data, .data, .data], laidTests := true, laidLooks := .later }
def TreeFormCardSaid : Prop := Claim7.holds Tryd.pinned (.plain (OpenSpec.ofChange treeFormSpec)) treeFormCard

/-- THE TIED CARD OF 'vivariumlaw11.TreePerms'. -/
def treePermsCard : Claim7 := { stood := { row := treePermsRow, standIns := [], harness := (true, "1a5b5007367311407b778dbd91bec1ea83b4d239d42cadca67a7e6a98d1d7d12"), looks := false }, kinds := [], alts := [], laidByText := true, laidKinds := [.data, .data, .data], laidTests := true, laidLooks := .later }
def TreePermsCardSaid : Prop := Claim7.holds Tryd.pinned (.plain (OpenSpec.ofChange treePermsSpec)) treePermsCard

/-- THE SECOND FORM's CARD OF 'vivariumlaw11.TreePrints'. -/
def treePrintsUptoCard : Claim7 := { stood := { row := treePrintsUptoRow, standIns := [], harness := (true, "1a5b5007367311407b778dbd91bec1ea83b4d239d42cadca67a7e6a98d1d7d12"), looks := false }, kinds := [], alts := [], laidByText := true, laidKinds := [.data, .data, .data], laidTests := true, laidLooks := .later }
def TreePrintsUptoCardSaid : Prop := Claim7.holds Tryd.pinned (.plain (OpenSpec.upto treePrintsSpec)) treePrintsUptoCard

/-- THE SECOND FORM's CARD OF 'vivariumlaw11.TreeParses'. -/
def treeParsesUptoCard : Claim7 := { stood := { row := treeParsesUptoRow, standIns := [], harness := (true, "1a5b5007367311407b778dbd91bec1ea83b4d239d42cadca67a7e6a98d1d7d12"), looks := false }, kinds := [], alts := [], laidByText := true, laidKinds := [.data, .data, .data], laidTests := true, laidLooks := .later }
def TreeParsesUptoCardSaid : Prop := Claim7.holds Tryd.pinned (.plain (OpenSpec.upto treeParsesSpec)) treeParsesUptoCard

/-- THE SECOND FORM's CARD OF 'vivariumlaw11.TreeSays'. -/
def treeSaysUptoCard : Claim7 := { stood := { row := treeSaysUptoRow, standIns := [], harness := (true, "1a5b5007367311407b778dbd91bec1ea83b4d239d42cadca67a7e6a98d1d7d12"), looks := false }, kinds := [], alts := [], laidByText := true, laidKinds := [.data, .data, .data], laidTests := true, laidLooks := .later }
def TreeSaysUptoCardSaid : Prop := Claim7.holds Tryd.pinned (.plain (OpenSpec.upto treeSaysSpec)) treeSaysUptoCard

/-- THE SECOND FORM's CARD OF 'vivariumlaw11.TreeOne'. -/
def treeOneUptoCard : Claim7 := { stood := { row := treeOneUptoRow, standIns := [], harness := (true, "1a5b5007367311407b778dbd91bec1ea83b4d239d42cadca67a7e6a98d1d7d12"), looks := false }, kinds := [], alts := [], laidByText := true, laidKinds := [.data, .data, .data], laidTests := true, laidLooks := .later }
def TreeOneUptoCardSaid : Prop := Claim7.holds Tryd.pinned (.plain (OpenSpec.upto treeOneSpec)) treeOneUptoCard

/-- THE SECOND FORM's CARD OF 'vivariumlaw11.TreeForm'. -/
def treeFormUptoCard : Claim7 := { stood := { row := treeFormUptoRow, standIns := [], harness := (true, "1a5b5007367311407b778dbd91bec1ea83b4d239d42cadca67a7e6a98d1d7d12"), looks := false }, kinds := [], alts := [], laidByText := true, laidKinds := [.data, .data, .data], laidTests := true, laidLooks := .later }
def TreeFormUptoCardSaid : Prop := Claim7.holds Tryd.pinned (.plain (OpenSpec.upto treeFormSpec)) treeFormUptoCard

/-- THE SECOND FORM's CARD OF 'vivariumlaw11.TreePerms'. -/
def treePermsUptoCard : Claim7 := { stood := { row := treePermsUptoRow, standIns := [], harness := (true, "1a5b5007367311407b778dbd91bec1ea83b4d239d42cadca67a7e6a98d1d7d12"), looks := false }, kinds := [], alts := [], laidByText := true, laidKinds := [.data, .data, .data], laidTests := true, laidLooks := .later }
def TreePermsUptoCardSaid : Prop := Claim7.holds Tryd.pinned (.plain (OpenSpec.upto treePermsSpec)) treePermsUptoCard
end Rows
end Go.Proofs.YteaionmjbkildabDoor
