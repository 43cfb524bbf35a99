/-
  DERIVED. GIVEN WITH THE SEED: THE CARDS: each row of YtnedofaobhmloabDoorRows.lean that lists a variable, with what it lists TIED to the program's text (the seventh form; the later family's looks); each row that meets fmt, with fmt's text TOLD by the authors' own Lean function (tested against real Go, not proved from fmt's source: count such statements apart). THE CARD IS WHAT COUNTS. Prove the row's statement (the work); the ties are given (YtnedofaobhmloabDoorTie.lean); close each card by the builder's one call (the guide's Derived/Test/ToyasCard.lean, 'card_holds'). Laid BY PROGRAM, IN A SANDBOX (cutbox-door.mjs). By AI agents, Wed Nov 11 2026. No macro, syntax, notation, axiom, sorry.
-/
import Derived.Test.YtnedofaobhmloabDoorRows
import GoSem.ClaimSeven
namespace Go.Proofs.YtnedofaobhmloabDoor
namespace Rows

/-- THE TIED CARD OF 'vivariumlaw08.LifeSpells'. -/
def lifeSpellsCard : Claim7 := { stood := { row := lifeSpellsRow, standIns := [], harness := (true, "a227bf5180300e1ca3c70d8818fb7a5d39db8c7353ad2b7c5f506677848a34eb"), looks := false }, kinds := [], alts := [], laidByText := true, laidKinds := [.data], laidTests := true, laidLooks := .later }
def LifeSpellsCardSaid : Prop := Claim7.holds Tryd.pinned (.plain (OpenSpec.ofChange lifeSpellsSpec)) lifeSpellsCard

/-- THE TIED CARD OF 'vivariumlaw08.LifeTurns'. -/
def lifeTurnsCard : Claim7 := { stood := { row := lifeTurnsRow, standIns := [], harness := (true, "a227bf5180300e1ca3c70d8818fb7a5d39db8c7353ad2b7c5f506677848a34eb"), looks := false }, kinds := [], alts := [], laidByText := true, laidKinds := [.data], laidTests := true, laidLooks := .later }
def LifeTurnsCardSaid : Prop := Claim7.holds Tryd.pinned (.plain (OpenSpec.ofChange lifeTurnsSpec)) lifeTurnsCard

/-- THE SECOND FORM's CARD OF 'vivariumlaw08.LifeSpells'. -/
def lifeSpellsUptoCard : Claim7 := { stood := { row := lifeSpellsUptoRow, standIns := [], harness := (true, "a227bf5180300e1ca3c70d8818fb7a5d39db8c7353ad2b7c5f506677848a34eb"), looks := false }, kinds := [], alts := [], laidByText := true, laidKinds := [.data], laidTests := true, laidLooks := .later }
def LifeSpellsUptoCardSaid : Prop := Claim7.holds Tryd.pinned (.plain (OpenSpec.upto lifeSpellsSpec)) lifeSpellsUptoCard

/-- THE SECOND FORM's CARD OF 'vivariumlaw08.LifeTurns'. -/
def lifeTurnsUptoCard : Claim7 := { stood := { row := lifeTurnsUptoRow, standIns := [], harness := (true, "a227bf5180300e1ca3c70d8818fb7a5d39db8c7353ad2b7c5f506677848a34eb"), looks := false }, kinds := [], alts := [], laidByText := true, laidKinds := [.data], laidTests := true, laidLooks := .later }
def LifeTurnsUptoCardSaid : Prop := Claim7.holds Tryd.pinned (.plain (OpenSpec.upto lifeTurnsSpec)) lifeTurnsUptoCard
end Rows
end Go.Proofs.YtnedofaobhmloabDoor
