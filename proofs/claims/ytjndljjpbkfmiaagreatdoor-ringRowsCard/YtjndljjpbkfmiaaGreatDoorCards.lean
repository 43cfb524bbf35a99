/-
  DERIVED. GIVEN WITH THE SEED: THE CARDS: each row of YtjndljjpbkfmiaaGreatDoorRows.lean that lists a variable, with what it lists TIED to the program's text (the seventh form; the later family's looks); each row that meets fmt, with fmt's text TOLD by the authors' own Lean function (tested against real Go, not proved from fmt's source: count such statements apart). THE CARD IS WHAT COUNTS. Prove the row's statement (the work); the ties are given (YtjndljjpbkfmiaaGreatDoorTie.lean); close each card by the builder's one call (the guide's Derived/Test/ToyasCard.lean, 'card_holds'). Laid BY PROGRAM, IN A SANDBOX (cutbox-door.mjs). By AI agents, Wed Nov 11 2026. No macro, syntax, notation, axiom, sorry.
-/
import Derived.Test.YtjndljjpbkfmiaaGreatDoorRows
import GoSem.ClaimSeven
namespace Go.Proofs.YtjndljjpbkfmiaaGreatDoor
namespace Rows

/-- THE TIED CARD OF 'vivariumlaw14.RingFrames'. -/
def ringFramesCard : Claim7 := { stood := { row := ringFramesRow, standIns := [], harness := (true, "1cb9d7f9a1b6dec1ed6217a252eade85f420c5396d13810b1629f4adbb24319c"), looks := false }, kinds := [], alts := [], laidByText := true, laidKinds := [.data], laidTests := true, laidLooks := .later }
def RingFramesCardSaid : Prop := Claim7.holds Tryz.pinned (.plain (OpenSpec.ofChange ringFramesSpec)) ringFramesCard

/-- THE TIED CARD OF 'vivariumlaw14.RingRows'. -/
def ringRowsCard : Claim7 := { stood := { row := ringRowsRow, standIns := [], harness := (true, "1cb9d7f9a1b6dec1ed6217a252eade85f420c5396d13810b1629f4adbb24319c"), looks := false }, kinds := [], alts := [], laidByText := true, laidKinds := [.data], laidTests := true, laidLooks := .later }
def RingRowsCardSaid : Prop := Claim7.holds Tryz.pinned (.plain (OpenSpec.ofChange ringRowsSpec)) ringRowsCard

/-- THE TIED CARD OF 'vivariumlaw14.RingArounds'. -/
def ringAroundsCard : Claim7 := { stood := { row := ringAroundsRow, standIns := [], harness := (true, "1cb9d7f9a1b6dec1ed6217a252eade85f420c5396d13810b1629f4adbb24319c"), looks := false }, kinds := [], alts := [], laidByText := true, laidKinds := [.data], laidTests := true, laidLooks := .later }
def RingAroundsCardSaid : Prop := Claim7.holds Tryz.pinned (.plain (OpenSpec.ofChange ringAroundsSpec)) ringAroundsCard

/-- THE TIED CARD OF 'vivariumlaw14.RingGlues'. -/
def ringGluesCard : Claim7 := { stood := { row := ringGluesRow, standIns := [], harness := (true, "1cb9d7f9a1b6dec1ed6217a252eade85f420c5396d13810b1629f4adbb24319c"), looks := false }, kinds := [], alts := [], laidByText := true, laidKinds := [.data, .data], laidTests := true, laidLooks := .later }
def RingGluesCardSaid : Prop := Claim7.holds Tryz.pinned (.plain (OpenSpec.ofChange ringGluesSpec)) ringGluesCard

/-- THE SECOND FORM's CARD OF 'vivariumlaw14.RingFrames'. -/
def ringFramesUptoCard : Claim7 := { stood := { row := ringFramesUptoRow, standIns := [], harness := (true, "1cb9d7f9a1b6dec1ed6217a252eade85f420c5396d13810b1629f4adbb24319c"), looks := false }, kinds := [], alts := [], laidByText := true, laidKinds := [.data], laidTests := true, laidLooks := .later }
def RingFramesUptoCardSaid : Prop := Claim7.holds Tryz.pinned (.plain (OpenSpec.upto ringFramesSpec)) ringFramesUptoCard

/-- THE SECOND FORM's CARD OF 'vivariumlaw14.RingRows'. -/
def ringRowsUptoCard : Claim7 := { stood := { row := ringRowsUptoRow, standIns := [], harness := (true, "1cb9d7f9a1b6dec1ed6217a252eade85f420c5396d13810b1629f4adbb24319c"), looks := false }, kinds := [], alts := [], laidByText := true, laidKinds := [.data], laidTests := true, laidLooks := .later }
def RingRowsUptoCardSaid : Prop := Claim7.holds Tryz.pinned (.plain (OpenSpec.upto ringRowsSpec)) ringRowsUptoCard

/-- THE SECOND FORM's CARD OF 'vivariumlaw14.RingArounds'. -/
def ringAroundsUptoCard : Claim7 := { stood := { row := ringAroundsUptoRow, standIns := [], harness := (true, "1cb9d7f9a1b6dec1ed6217a252eade85f420c5396d13810b1629f4adbb24319c"), looks := false }, kinds := [], alts := [], laidByText := true, laidKinds := [.data], laidTests := true, laidLooks := .later }
def RingAroundsUptoCardSaid : Prop := Claim7.holds Tryz.pinned (.plain (OpenSpec.upto ringAroundsSpec)) ringAroundsUptoCard

/-- THE SECOND FORM's CARD OF 'vivariumlaw14.RingGlues'. -/
def ringGluesUptoCard : Claim7 := { stood := { row := ringGluesUptoRow, standIns := [], harness := (true, "1cb9d7f9a1b6dec1ed6217a252eade85f420c5396d13810b1629f4adbb24319c"), looks := false }, kinds := [], alts := [], laidByText := true, laidKinds := [.data, .data], laidTests := true, laidLooks := .later }
def RingGluesUptoCardSaid : Prop := Claim7.holds Tryz.pinned (.plain (OpenSpec.upto ringGluesSpec)) ringGluesUptoCard
end Rows
end Go.Proofs.YtjndljjpbkfmiaaGreatDoor
