/-
  DERIVED. GIVEN WITH THE SEED: THE CARDS: each row of YtgflchbmoinonaaDoorRows.lean that lists a variable, with what it lists TIED to the program's text (the seventh form; the later family's looks); each row that meets fmt, with fmt's text TOLD by the authors' own Lean function (tested against real Go, not proved from fmt's source: count such statements apart). THE CARD IS WHAT COUNTS. Prove the row's statement (the work); the ties are given (YtgflchbmoinonaaDoorTie.lean); close each card by the builder's one call (the guide's Derived/Test/ToyasCard.lean, 'card_holds'). Laid BY PROGRAM, IN A SANDBOX (cutbox-door.mjs). By AI agents, Wed Nov 11 2026. No macro, syntax, notation, axiom, sorry.
-/
import Derived.Test.YtgflchbmoinonaaDoorRows
import GoSem.ClaimSeven
namespace Go.Proofs.YtgflchbmoinonaaDoor
namespace Rows

/-- THE TIED CARD OF 'vivariumlaw07.HoodNames'. -/
def hoodNamesCard : Claim7 := { stood := { row := hoodNamesRow, standIns := [], harness := (true, "3927837f1de7db1e9c2272106606e530e4f41576df6103570301002afcea3fc8"), looks := false }, kinds := [], alts := [], laidByText := true, laidKinds := [.data], laidTests := true, laidLooks := .later }
def HoodNamesCardSaid : Prop := Claim7.holds Tryd.pinned (.plain (OpenSpec.ofChange hoodNamesSpec)) hoodNamesCard

/-- THE TIED CARD OF 'vivariumlaw07.HoodOffsets'. -/
def hoodOffsetsCard : Claim7 := { stood := { row := hoodOffsetsRow, standIns := [], harness := (true, "3927837f1de7db1e9c2272106606e530e4f41576df6103570301002afcea3fc8"), looks := false }, kinds := [], alts := [], laidByText := true, laidKinds := [.data], laidTests := true, laidLooks := .later }
def HoodOffsetsCardSaid : Prop := Claim7.holds Tryd.pinned (.plain (OpenSpec.ofChange hoodOffsetsSpec)) hoodOffsetsCard

/-- THE TIED CARD OF 'vivariumlaw07.HoodPerms'. -/
def hoodPermsCard : Claim7 := { stood := { row := hoodPermsRow, standIns := [], harness := (true, "3927837f1de7db1e9c2272106606e530e4f41576df6103570301002afcea3fc8"), looks := false }, kinds := [], alts := [], laidByText := true, laidKinds := [.data], laidTests := true, laidLooks := .later }
def HoodPermsCardSaid : Prop := Claim7.holds Tryd.pinned (.plain (OpenSpec.ofChange hoodPermsSpec)) hoodPermsCard

/-- THE TIED CARD OF 'vivariumlaw07.HoodTurns'. -/
def hoodTurnsCard : Claim7 := { stood := { row := hoodTurnsRow, standIns := [], harness := (true, "3927837f1de7db1e9c2272106606e530e4f41576df6103570301002afcea3fc8"), looks := false }, kinds := [], alts := [], laidByText := true, laidKinds := [.data], laidTests := true, laidLooks := .later }
def HoodTurnsCardSaid : Prop := Claim7.holds Tryd.pinned (.plain (OpenSpec.ofChange hoodTurnsSpec)) hoodTurnsCard

/-- THE TIED CARD OF 'vivariumlaw07.HoodThen'. -/
def hoodThenCard : Claim7 := { stood := { row := hoodThenRow, standIns := [], harness := (true, "3927837f1de7db1e9c2272106606e530e4f41576df6103570301002afcea3fc8"), looks := false }, kinds := [], alts := [], laidByText := true, laidKinds := [.data], laidTests := true, laidLooks := .later }
def HoodThenCardSaid : Prop := Claim7.holds Tryd.pinned (.plain (OpenSpec.ofChange hoodThenSpec)) hoodThenCard

/-- THE TIED CARD OF 'vivariumlaw07.HoodRound'. -/
def hoodRoundCard : Claim7 := { stood := { row := hoodRoundRow, standIns := [], harness := (true, "3927837f1de7db1e9c2272106606e530e4f41576df6103570301002afcea3fc8"), looks := false }, kinds := [], alts := [], laidByText := true, laidKinds := [.data], laidTests := true, laidLooks := .later }
def HoodRoundCardSaid : Prop := Claim7.holds Tryd.pinned (.plain (OpenSpec.ofChange hoodRoundSpec)) hoodRoundCard

/-- THE SECOND FORM's CARD OF 'vivariumlaw07.HoodNames'. -/
def hoodNamesUptoCard : Claim7 := { stood := { row := hoodNamesUptoRow, standIns := [], harness := (true, "3927837f1de7db1e9c2272106606e530e4f41576df6103570301002afcea3fc8"), looks := false }, kinds := [], alts := [], laidByText := true, laidKinds := [.data], laidTests := true, laidLooks := .later }
def HoodNamesUptoCardSaid : Prop := Claim7.holds Tryd.pinned (.plain (OpenSpec.upto hoodNamesSpec)) hoodNamesUptoCard

/-- THE SECOND FORM's CARD OF 'vivariumlaw07.HoodOffsets'. -/
def hoodOffsetsUptoCard : Claim7 := { stood := { row := hoodOffsetsUptoRow, standIns := [], harness := (true, "3927837f1de7db1e9c2272106606e530e4f41576df6103570301002afcea3fc8"), looks := false }, kinds := [], alts := [], laidByText := true, laidKinds := [.data], laidTests := true, laidLooks := .later }
def HoodOffsetsUptoCardSaid : Prop := Claim7.holds Tryd.pinned (.plain (OpenSpec.upto hoodOffsetsSpec)) hoodOffsetsUptoCard

/-- THE SECOND FORM's CARD OF 'vivariumlaw07.HoodPerms'. -/
def hoodPermsUptoCard : Claim7 := { stood := { row := hoodPermsUptoRow, standIns := [], harness := (true, "3927837f1de7db1e9c2272106606e530e4f41576df6103570301002afcea3fc8"), looks := false }, kinds := [], alts := [], laidByText := true, laidKinds := [.data], laidTests := true, laidLooks := .later }
def HoodPermsUptoCardSaid : Prop := Claim7.holds Tryd.pinned (.plain (OpenSpec.upto hoodPermsSpec)) hoodPermsUptoCard

/-- THE SECOND FORM's CARD OF 'vivariumlaw07.HoodTurns'. -/
def hoodTurnsUptoCard : Claim7 := { stood := { row := hoodTurnsUptoRow, standIns := [], harness := (true, "3927837f1de7db1e9c2272106606e530e4f41576df6103570301002afcea3fc8"), looks := false }, kinds := [], alts := [], laidByText := true, laidKinds := [.data], laidTests := true, laidLooks := .later }
def HoodTurnsUptoCardSaid : Prop := Claim7.holds Tryd.pinned (.plain (OpenSpec.upto hoodTurnsSpec)) hoodTurnsUptoCard

/-- THE SECOND FORM's CARD OF 'vivariumlaw07.HoodThen'. -/
def hoodThenUptoCard : Claim7 := { stood := { row := hoodThenUptoRow, standIns := [], harness := (true, "3927837f1de7db1e9c2272106606e530e4f41576df6103570301002afcea3fc8"), looks := false }, kinds := [], alts := [], laidByText := true, laidKinds := [.data], laidTests := true, laidLooks := .later }
def HoodThenUptoCardSaid : Prop := Claim7.holds Tryd.pinned (.plain (OpenSpec.upto hoodThenSpec)) hoodThenUptoCard

/-- THE SECOND FORM's CARD OF 'vivariumlaw07.HoodRound'. -/
def hoodRoundUptoCard : Claim7 := { stood := { row := hoodRoundUptoRow, standIns := [], harness := (true, "3927837f1de7db1e9c2272106606e530e4f41576df6103570301002afcea3fc8"), looks := false }, kinds := [], alts := [], laidByText := true, laidKinds := [.data], laidTests := true, laidLooks := .later }
def HoodRoundUptoCardSaid : Prop := Claim7.holds Tryd.pinned (.plain (OpenSpec.upto hoodRoundSpec)) hoodRoundUptoCard
end Rows
end Go.Proofs.YtgflchbmoinonaaDoor
