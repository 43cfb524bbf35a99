/- The closure that asks the example's function. -/
import Derived.Test.YteaionmjbkildabDoorQ4
namespace Go.Proofs.YteaionmjbkildabDoor
open Go.RowKit
set_option linter.unusedVariables false
set_option linter.unusedSimpArgs false
set_option maxRecDepth 100000

set_option maxHeartbeats 400000 in
theorem clo00 (gx gA gr cr : Nat) (w : World) (BX : Bo w gx 46 #[.int .i64 2, .int .i64 2, .slice (some ⟨gA, 0, none⟩) 4 4]) (BA : Bo w gA 5 dfC) (r0 : w.cell? ⟨gr, 0, none⟩ = some (.int .u8 0)) (r1 : w.cell? ⟨gr, 1, none⟩ = some (.int .u8 0)) : Calls Tryd.prog 45 #[.slice (some ⟨gr, 0, none⟩) 2 cr, .pointer (some ⟨gx, 0, none⟩)] w fun e w' => e = .returned (.int .u8 0) ∧ w.grownBy w' none := by
  have c0 := BX.cell 0 (v := .int .i64 2) rfl
  have c1 := BX.cell 1 (v := .int .i64 2) rfl
  have c2 := BX.cell 2 (v := .slice (some ⟨gA, 0, none⟩) 4 4) rfl
  have hs := says00 gA gr cr w BA r0 r1
  clear r0 r1
  go_enter Tryd.func45, Tryd.ntmps45
  go_wp2_with (first | (go_at_call 24; refine hs.mono ?_; rintro e w1 ⟨rfl, g1⟩))
  go_ret
  exact ⟨rfl, g1⟩

set_option maxHeartbeats 400000 in
theorem clo01 (gx gA gr cr : Nat) (w : World) (BX : Bo w gx 46 #[.int .i64 2, .int .i64 2, .slice (some ⟨gA, 0, none⟩) 4 4]) (BA : Bo w gA 5 dfC) (r0 : w.cell? ⟨gr, 0, none⟩ = some (.int .u8 0)) (r1 : w.cell? ⟨gr, 1, none⟩ = some (.int .u8 1)) : Calls Tryd.prog 45 #[.slice (some ⟨gr, 0, none⟩) 2 cr, .pointer (some ⟨gx, 0, none⟩)] w fun e w' => e = .returned (.int .u8 1) ∧ w.grownBy w' none := by
  have c0 := BX.cell 0 (v := .int .i64 2) rfl
  have c1 := BX.cell 1 (v := .int .i64 2) rfl
  have c2 := BX.cell 2 (v := .slice (some ⟨gA, 0, none⟩) 4 4) rfl
  have hs := says01 gA gr cr w BA r0 r1
  clear r0 r1
  go_enter Tryd.func45, Tryd.ntmps45
  go_wp2_with (first | (go_at_call 24; refine hs.mono ?_; rintro e w1 ⟨rfl, g1⟩))
  go_ret
  exact ⟨rfl, g1⟩

set_option maxHeartbeats 400000 in
theorem clo10 (gx gA gr cr : Nat) (w : World) (BX : Bo w gx 46 #[.int .i64 2, .int .i64 2, .slice (some ⟨gA, 0, none⟩) 4 4]) (BA : Bo w gA 5 dfC) (r0 : w.cell? ⟨gr, 0, none⟩ = some (.int .u8 1)) (r1 : w.cell? ⟨gr, 1, none⟩ = some (.int .u8 0)) : Calls Tryd.prog 45 #[.slice (some ⟨gr, 0, none⟩) 2 cr, .pointer (some ⟨gx, 0, none⟩)] w fun e w' => e = .returned (.int .u8 1) ∧ w.grownBy w' none := by
  have c0 := BX.cell 0 (v := .int .i64 2) rfl
  have c1 := BX.cell 1 (v := .int .i64 2) rfl
  have c2 := BX.cell 2 (v := .slice (some ⟨gA, 0, none⟩) 4 4) rfl
  have hs := says10 gA gr cr w BA r0 r1
  clear r0 r1
  go_enter Tryd.func45, Tryd.ntmps45
  go_wp2_with (first | (go_at_call 24; refine hs.mono ?_; rintro e w1 ⟨rfl, g1⟩))
  go_ret
  exact ⟨rfl, g1⟩

set_option maxHeartbeats 400000 in
theorem clo11 (gx gA gr cr : Nat) (w : World) (BX : Bo w gx 46 #[.int .i64 2, .int .i64 2, .slice (some ⟨gA, 0, none⟩) 4 4]) (BA : Bo w gA 5 dfC) (r0 : w.cell? ⟨gr, 0, none⟩ = some (.int .u8 1)) (r1 : w.cell? ⟨gr, 1, none⟩ = some (.int .u8 1)) : Calls Tryd.prog 45 #[.slice (some ⟨gr, 0, none⟩) 2 cr, .pointer (some ⟨gx, 0, none⟩)] w fun e w' => e = .returned (.int .u8 0) ∧ w.grownBy w' none := by
  have c0 := BX.cell 0 (v := .int .i64 2) rfl
  have c1 := BX.cell 1 (v := .int .i64 2) rfl
  have c2 := BX.cell 2 (v := .slice (some ⟨gA, 0, none⟩) 4 4) rfl
  have hs := says11 gA gr cr w BA r0 r1
  clear r0 r1
  go_enter Tryd.func45, Tryd.ntmps45
  go_wp2_with (first | (go_at_call 24; refine hs.mono ?_; rintro e w1 ⟨rfl, g1⟩))
  go_ret
  exact ⟨rfl, g1⟩
end Go.Proofs.YteaionmjbkildabDoor
