/-
  DERIVED. GIVEN WITH THE SEED: THE CARDS: each row of YtimknahfgpafaaaDoorRows.lean that lists a variable, with what it lists TIED to the program's text (the seventh form; the later family's looks); each row that meets fmt, with fmt's text TOLD by the authors' own Lean function (tested against real Go, not proved from fmt's source: count such statements apart). THE CARD IS WHAT COUNTS. Prove the row's statement (the work); the ties are given (YtimknahfgpafaaaDoorTie.lean); close each card by the builder's one call (the guide's Derived/Test/ToyasCard.lean, 'card_holds'). Laid BY PROGRAM, IN A SANDBOX (cutbox-door.mjs). By AI agents, Wed Nov 11 2026. No macro, syntax, notation, axiom, sorry.
-/
import Derived.Test.YtimknahfgpafaaaDoorRows
import GoSem.ClaimSeven
namespace Go.Proofs.YtimknahfgpafaaaDoor
namespace Rows

/-- THE TIED CARD OF 'vivariumlaw03.ScanLines'. -/
def scanLinesCard : Claim7 := { stood := { row := scanLinesRow, standIns := [], harness := (true, "6d59579c4ffaffde09aecc63be965b31e62b48240d679290e7f3f72c7ac97905"), looks := true }, kinds := [], alts := [], laidByText := true, laidKinds := [.data, .data, .data, .data, .sentinel, .sentinel, .pinned], laidTests := true, laidLooks := .later }
def ScanLinesCardSaid : Prop := Claim7.holds Tryd.pinned (.plain (OpenSpec.ofChange scanLinesSpec)) scanLinesCard

/-- THE TIED CARD OF 'vivariumlaw03.ScanFields'. -/
def scanFieldsCard : Claim7 := { stood := { row := scanFieldsRow, standIns := [], harness := (true, "6d59579c4ffaffde09aecc63be965b31e62b48240d679290e7f3f72c7ac97905"), looks := true }, kinds := [], alts := [], laidByText := true, laidKinds := [.data, .data, .data, .data, .sentinel, .sentinel, .pinned], laidTests := true, laidLooks := .later }
def ScanFieldsCardSaid : Prop := Claim7.holds Tryd.pinned (.plain (OpenSpec.ofChange scanFieldsSpec)) scanFieldsCard

/-- THE TIED CARD OF 'vivariumlaw03.ScanCutter'. -/
def scanCutterCard : Claim7 := { stood := { row := scanCutterRow, standIns := [], harness := (true, "6d59579c4ffaffde09aecc63be965b31e62b48240d679290e7f3f72c7ac97905"), looks := true }, kinds := [], alts := [], laidByText := true, laidKinds := [.data, .data, .data, .data, .sentinel, .sentinel, .pinned], laidTests := true, laidLooks := .later }
def ScanCutterCardSaid : Prop := Claim7.holds Tryd.pinned (.plain (OpenSpec.ofChange scanCutterSpec)) scanCutterCard

/-- THE TIED CARD OF 'vivariumlaw03.ScanRuns'. -/
def scanRunsCard : Claim7 := { stood := { row := scanRunsRow, standIns := [], harness := (true, "6d59579c4ffaffde09aecc63be965b31e62b48240d679290e7f3f72c7ac97905"), looks := true }, kinds := [], alts := [], laidByText := true, laidKinds := [.data, .data, .data, .data, .sentinel, .sentinel, .pinned], laidTests := true, laidLooks := .later }
def ScanRunsCardSaid : Prop := Claim7.holds Tryd.pinned (.plain (OpenSpec.ofChange scanRunsSpec)) scanRunsCard

/-- THE TIED CARD OF 'vivariumlaw03.ScanTags'. -/
def scanTagsCard : Claim7 := { stood := { row := scanTagsRow, standIns := [], harness := (true, "6d59579c4ffaffde09aecc63be965b31e62b48240d679290e7f3f72c7ac97905"), looks := true }, kinds := [], alts := [], laidByText := true, laidKinds := [.data, .data, .data, .data, .sentinel, .sentinel, .pinned], laidTests := true, laidLooks := .later }
def ScanTagsCardSaid : Prop := Claim7.holds Tryd.pinned (.plain (OpenSpec.ofChange scanTagsSpec)) scanTagsCard

/-- THE TIED CARD OF 'vivariumlaw03.ScanJoined'. -/
def scanJoinedCard : Claim7 := { stood := { row := scanJoinedRow, standIns := [], harness := (true, "6d59579c4ffaffde09aecc63be965b31e62b48240d679290e7f3f72c7ac97905"), looks := true }, kinds := [], alts := [], laidByText := true, laidKinds := [.data, .data, .data, .data, .sentinel, .sentinel, .pinned], laidTests := true, laidLooks := .later }
def ScanJoinedCardSaid : Prop := Claim7.holds Tryd.pinned (.plain (OpenSpec.ofChange scanJoinedSpec)) scanJoinedCard

/-- THE SECOND FORM's CARD OF 'vivariumlaw03.ScanLines'. -/
def scanLinesUptoCard : Claim7 := { stood := { row := scanLinesUptoRow, standIns := [], harness := (true, "6d59579c4ffaffde09aecc63be965b31e62b48240d679290e7f3f72c7ac97905"), looks := true }, kinds := [], alts := [], laidByText := true, laidKinds := [.data, .data, .data, .data, .sentinel, .sentinel, .pinned], laidTests := true, laidLooks := .later }
def ScanLinesUptoCardSaid : Prop := Claim7.holds Tryd.pinned (.plain (OpenSpec.upto scanLinesSpec)) scanLinesUptoCard

/-- THE SECOND FORM's CARD OF 'vivariumlaw03.ScanFields'. -/
def scanFieldsUptoCard : Claim7 := { stood := { row := scanFieldsUptoRow, standIns := [], harness := (true, "6d59579c4ffaffde09aecc63be965b31e62b48240d679290e7f3f72c7ac97905"), looks := true }, kinds := [], alts := [], laidByText := true, laidKinds := [.data, .data, .data, .data, .sentinel, .sentinel, .pinned], laidTests := true, laidLooks := .later }
def ScanFieldsUptoCardSaid : Prop := Claim7.holds Tryd.pinned (.plain (OpenSpec.upto scanFieldsSpec)) scanFieldsUptoCard

/-- THE SECOND FORM's CARD OF 'vivariumlaw03.ScanCutter'. -/
def scanCutterUptoCard : Claim7 := { stood := { row := scanCutterUptoRow, standIns := [], harness := (true, "6d59579c4ffaffde09aecc63be965b31e62b48240d679290e7f3f72c7ac97905"), looks := true }, kinds := [], alts := [], laidByText := true, laidKinds := [.data, .data, .data, .data, .sentinel, .sentinel, .pinned], laidTests := true, laidLooks := .later }
def ScanCutterUptoCardSaid : Prop := Claim7.holds Tryd.pinned (.plain (OpenSpec.upto scanCutterSpec)) scanCutterUptoCard

/-- THE SECOND FORM's CARD OF 'vivariumlaw03.ScanRuns'. -/
def scanRunsUptoCard : Claim7 := { stood := { row := scanRunsUptoRow, standIns := [], harness := (true, "6d59579c4ffaffde09aecc63be965b31e62b48240d679290e7f3f72c7ac97905"), looks := true }, kinds := [], alts := [], laidByText := true, laidKinds := [.data, .data, .data, .data, .sentinel, .sentinel, .pinned], laidTests := true, laidLooks := .later }
def ScanRunsUptoCardSaid : Prop := Claim7.holds Tryd.pinned (.plain (OpenSpec.upto scanRunsSpec)) scanRunsUptoCard

/-- THE SECOND FORM's CARD OF 'vivariumlaw03.ScanTags'. -/
def scanTagsUptoCard : Claim7 := { stood := { row := scanTagsUptoRow, standIns := [], harness := (true, "6d59579c4ffaffde09aecc63be965b31e62b48240d679290e7f3f72c7ac97905"), looks := true }, kinds := [], alts := [], laidByText := true, laidKinds := [.data, .data, .data, .data, .sentinel, .sentinel, .pinned], laidTests := true, laidLooks := .later }
def ScanTagsUptoCardSaid : Prop := Claim7.holds Tryd.pinned (.plain (OpenSpec.upto scanTagsSpec)) scanTagsUptoCard

/-- THE SECOND FORM's CARD OF 'vivariumlaw03.ScanJoined'. -/
def scanJoinedUptoCard : Claim7 := { stood := { row := scanJoinedUptoRow, standIns := [], harness := (true, "6d59579c4ffaffde09aecc63be965b31e62b48240d679290e7f3f72c7ac97905"), looks := true }, kinds := [], alts := [], laidByText := true, laidKinds := [.data, .data, .data, .data, .sentinel, .sentinel, .pinned], laidTests := true, laidLooks := .later }
def ScanJoinedUptoCardSaid : Prop := Claim7.holds Tryd.pinned (.plain (OpenSpec.upto scanJoinedSpec)) scanJoinedUptoCard
end Rows
end Go.Proofs.YtimknahfgpafaaaDoor
