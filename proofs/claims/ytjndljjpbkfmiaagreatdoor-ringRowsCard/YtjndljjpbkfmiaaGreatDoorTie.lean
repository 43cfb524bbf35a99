/-
  DERIVED. GIVEN WITH THE SEED: THE PROGRAM's TIES (one call each: nine closed facts by the kernel) AND EACH ROW's TIE, after the 31st guide's Derived/Test/Toyas{Tie, Card}.lean. No idea stands in it: it is a product of the set-up. Laid BY PROGRAM, IN A SANDBOX (cutbox-door.mjs). By AI agents, Wed Nov 11 2026. No macro, syntax, notation, axiom, sorry.
-/
import Derived.Test.YtjndljjpbkfmiaaGreatDoorRows
import Derived.LaidByTextLater
import Derived.SevenTiedAt
import Derived.LaidSub
import Derived.LaidOnce
namespace Go.Proofs.YtjndljjpbkfmiaaGreatDoor
open Go
set_option maxRecDepth 100000
theorem seatTie1 : Tryz.prog.laidByTextLater [("vivarium/hood.hoods", Rows.laid_vivarium_hood_hoods), ("vivarium/ring.offsets", Rows.laid_vivarium_ring_offsets)] [.data, .data] true :=
  Program.laidByTextLater_by_one 64 8 69 (by kernel_rfl) (by kernel_rfl) (by kernel_rfl) (by kernel_rfl) (by kernel_rfl) (by kernel_rfl) (fun _ _ => by kernel_rfl)
theorem noOwnUnsafe : Tryz.pinned.checked.prog.headLifts.contains "ownunsafe" = false := by kernel_rfl
theorem tie : Tryz.prog.laidByTextLater [("vivarium/ring.offsets", Rows.laid_vivarium_ring_offsets)] [.data] true :=
  Program.laidByTextLater.sub seatTie1 ["vivarium/ring.offsets"] (by kernel_rfl) (by kernel_rfl)
theorem ringFrames_row_tie : Rows.ringFramesRow.laidByTextAt .later Tryz.pinned [.data] true :=
  OpenClaim.laidByTextAt_later rfl rfl tie noOwnUnsafe
theorem ringRows_row_tie : Rows.ringRowsRow.laidByTextAt .later Tryz.pinned [.data] true :=
  OpenClaim.laidByTextAt_later rfl rfl tie noOwnUnsafe
theorem ringArounds_row_tie : Rows.ringAroundsRow.laidByTextAt .later Tryz.pinned [.data] true :=
  OpenClaim.laidByTextAt_later rfl rfl tie noOwnUnsafe
theorem tie2 : Tryz.prog.laidByTextLater [("vivarium/hood.hoods", Rows.laid_vivarium_hood_hoods), ("vivarium/ring.offsets", Rows.laid_vivarium_ring_offsets)] [.data, .data] true :=
  Program.laidByTextLater.sub seatTie1 ["vivarium/hood.hoods", "vivarium/ring.offsets"] (by kernel_rfl) (by kernel_rfl)
theorem ringGlues_row_tie : Rows.ringGluesRow.laidByTextAt .later Tryz.pinned [.data, .data] true :=
  OpenClaim.laidByTextAt_later rfl rfl tie2 noOwnUnsafe
theorem ringFramesUpto_row_tie : Rows.ringFramesUptoRow.laidByTextAt .later Tryz.pinned [.data] true :=
  OpenClaim.laidByTextAt_later rfl rfl tie noOwnUnsafe
theorem ringRowsUpto_row_tie : Rows.ringRowsUptoRow.laidByTextAt .later Tryz.pinned [.data] true :=
  OpenClaim.laidByTextAt_later rfl rfl tie noOwnUnsafe
theorem ringAroundsUpto_row_tie : Rows.ringAroundsUptoRow.laidByTextAt .later Tryz.pinned [.data] true :=
  OpenClaim.laidByTextAt_later rfl rfl tie noOwnUnsafe
theorem ringGluesUpto_row_tie : Rows.ringGluesUptoRow.laidByTextAt .later Tryz.pinned [.data, .data] true :=
  OpenClaim.laidByTextAt_later rfl rfl tie2 noOwnUnsafe
end Go.Proofs.YtjndljjpbkfmiaaGreatDoor
