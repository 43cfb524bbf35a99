/-
  DERIVED. GIVEN WITH THE SEED: THE CARDS: each row of YtnedofaobhmloaaDoorRows.lean that lists a variable, with what it lists TIED to the program's text (the seventh form; the later family's looks); each row that meets fmt, with fmt's text TOLD by the authors' own Lean function (tested against real Go, not proved from fmt's source: count such statements apart). THE CARD IS WHAT COUNTS. Prove the row's statement (the work); the ties are given (YtnedofaobhmloaaDoorTie.lean); close each card by the builder's one call (the guide's Derived/Test/ToyasCard.lean, 'card_holds'). Laid BY PROGRAM, IN A SANDBOX (cutbox-door.mjs). By AI agents, Wed Nov 11 2026. No macro, syntax, notation, axiom, sorry.
-/
import Derived.Test.YtnedofaobhmloaaDoorRows
import GoSem.ClaimSeven
namespace Go.Proofs.YtnedofaobhmloaaDoor
namespace Rows

/-- THE TIED CARD OF 'vivariumlaw08.LifeNames'. -/
def lifeNamesCard : Claim7 := { stood := { row := lifeNamesRow, standIns := [], harness := (true, "336eecc7ef36570bc35c5aae7bd0f81141111b46d3c42bcf4bd6108f02e149bc"), looks := false }, kinds := [], alts := [], laidByText := true, laidKinds := [.data], laidTests := true, laidLooks := .later }
def LifeNamesCardSaid : Prop := Claim7.holds Tryd.pinned (.plain (OpenSpec.ofChange lifeNamesSpec)) lifeNamesCard

/-- THE TIED CARD OF 'vivariumlaw08.LifeParses'. -/
def lifeParsesCard : Claim7 := { stood := { row := lifeParsesRow, standIns := [], harness := (true, "336eecc7ef36570bc35c5aae7bd0f81141111b46d3c42bcf4bd6108f02e149bc"), looks := false }, kinds := [], alts := [], laidByText := true, laidKinds := [.data], laidTests := true, laidLooks := .later }
def LifeParsesCardSaid : Prop := Claim7.holds Tryd.pinned (.plain (OpenSpec.ofChange lifeParsesSpec)) lifeParsesCard

/-- THE TIED CARD OF 'vivariumlaw08.LifePrints'. -/
def lifePrintsCard : Claim7 := { stood := { row := lifePrintsRow, standIns := [], harness := (true, "336eecc7ef36570bc35c5aae7bd0f81141111b46d3c42bcf4bd6108f02e149bc"), looks := false }, kinds := [], alts := [], laidByText := true, laidKinds := [.data], laidTests := true, laidLooks := .later }
def LifePrintsCardSaid : Prop := Claim7.holds Tryd.pinned (.plain (OpenSpec.ofChange lifePrintsSpec)) lifePrintsCard

/-- THE TIED CARD OF 'vivariumlaw08.LifeNexts'. -/
def lifeNextsCard : Claim7 := { stood := { row := lifeNextsRow, standIns := [], harness := (true, "336eecc7ef36570bc35c5aae7bd0f81141111b46d3c42bcf4bd6108f02e149bc"), looks := false }, kinds := [], alts := [], laidByText := true, laidKinds := [.data], laidTests := true, laidLooks := .later }
def LifeNextsCardSaid : Prop := Claim7.holds Tryd.pinned (.plain (OpenSpec.ofChange lifeNextsSpec)) lifeNextsCard

/-- THE TIED CARD OF 'vivariumlaw08.LifeBack'. -/
def lifeBackCard : Claim7 := { stood := { row := lifeBackRow, standIns := [], harness := (true, "336eecc7ef36570bc35c5aae7bd0f81141111b46d3c42bcf4bd6108f02e149bc"), looks := false }, kinds := [], alts := [], laidByText := true, laidKinds := [.data], laidTests := true, laidLooks := .later }
def LifeBackCardSaid : Prop := Claim7.holds Tryd.pinned (.plain (OpenSpec.ofChange lifeBackSpec)) lifeBackCard

/-- THE TIED CARD OF 'vivariumlaw08.LifeForm'. -/
def lifeFormCard : Claim7 := { stood := { row := lifeFormRow, standIns := [], harness := (true, "336eecc7ef36570bc35c5aae7bd0f81141111b46d3c42bcf4bd6108f02e149bc"), looks := false }, kinds := [], alts := [], laidByText := true, laidKinds := [.data], laidTests := true, laidLooks := .later }
def LifeFormCardSaid : Prop := Claim7.holds Tryd.pinned (.plain (OpenSpec.ofChange lifeFormSpec)) lifeFormCard

/-- THE SECOND FORM's CARD OF 'vivariumlaw08.LifeNames'. -/
def lifeNamesUptoCard : Claim7 := { stood := { row := lifeNamesUptoRow, standIns := [], harness := (true, "336eecc7ef36570bc35c5aae7bd0f81141111b46d3c42bcf4bd6108f02e149bc"), looks := false }, kinds := [], alts := [], laidByText := true, laidKinds := [.data], laidTests := true, laidLooks := .later }
def LifeNamesUptoCardSaid : Prop := Claim7.holds Tryd.pinned (.plain (OpenSpec.upto lifeNamesSpec)) lifeNamesUptoCard

/-- THE SECOND FORM's CARD OF 'vivariumlaw08.LifeParses'. -/
def lifeParsesUptoCard : Claim7 := { stood := { row := lifeParsesUptoRow, standIns := [], harness := (true, "336eecc7ef36570bc35c5aae7bd0f81141111b46d3c42bcf4bd6108f02e149bc"), looks := false }, kinds := [], alts := [], laidByText := true, laidKinds := [.data], laidTests := true, laidLooks := .later }
def LifeParsesUptoCardSaid : Prop := Claim7.holds Tryd.pinned (.plain (OpenSpec.upto lifeParsesSpec)) lifeParsesUptoCard

/-- THE SECOND FORM's CARD OF 'vivariumlaw08.LifePrints'. -/
def lifePrintsUptoCard : Claim7 := { stood := { row := lifePrintsUptoRow, standIns := [], harness := (true, "336eecc7ef36570bc35c5aae7bd0f81141111b46d3c42bcf4bd6108f02e149bc"), looks := false }, kinds := [], alts := [], laidByText := true, laidKinds := [.data], laidTests := true, laidLooks := .later }
def LifePrintsUptoCardSaid : Prop := Claim7.holds Tryd.pinned (.plain (OpenSpec.upto lifePrintsSpec)) lifePrintsUptoCard

/-- THE SECOND FORM's CARD OF 'vivariumlaw08.LifeNexts'. -/
def lifeNextsUptoCard : Claim7 := { stood := { row := lifeNextsUptoRow, standIns := [], harness := (true, "336eecc7ef36570bc35c5aae7bd0f81141111b46d3c42bcf4bd6108f02e149bc"), looks := false }, kinds := [], alts := [], laidByText := true, laidKinds := [.data], laidTests := true, laidLooks := .later }
def LifeNextsUptoCardSaid : Prop := Claim7.holds Tryd.pinned (.plain (OpenSpec.upto lifeNextsSpec)) lifeNextsUptoCard

/-- THE SECOND FORM's CARD OF 'vivariumlaw08.LifeBack'. -/
def lifeBackUptoCard : Claim7 := { stood := { row := lifeBackUptoRow, standIns := [], harness := (true, "336eecc7ef36570bc35c5aae7bd0f81141111b46d3c42bcf4bd6108f02e149bc"), looks := false }, kinds := [], alts := [], laidByText := true, laidKinds := [.data], laidTests := true, laidLooks := .later }
def LifeBackUptoCardSaid : Prop := Claim7.holds Tryd.pinned (.plain (OpenSpec.upto lifeBackSpec)) lifeBackUptoCard

/-- THE SECOND FORM's CARD OF 'vivariumlaw08.LifeForm'. -/
def lifeFormUptoCard : Claim7 := { stood := { row := lifeFormUptoRow, standIns := [], harness := (true, "336eecc7ef36570bc35c5aae7bd0f81141111b46d3c42bcf4bd6108f02e149bc"), looks := false }, kinds := [], alts := [], laidByText := true, laidKinds := [.data], laidTests := true, laidLooks := .later }
def LifeFormUptoCardSaid : Prop := Claim7.holds Tryd.pinned (.plain (OpenSpec.upto lifeFormSpec)) lifeFormUptoCard
end Rows
end Go.Proofs.YtnedofaobhmloaaDoor
