/- The example's function: whether two states differ. -/
import Derived.Test.YteaionmjbkildabDoorQ3
import Derived.BigQuiet
namespace Go.Proofs.YteaionmjbkildabDoor
open Go.RowKit
set_option linter.unusedVariables false
set_option linter.unusedSimpArgs false
set_option maxRecDepth 100000

def dfC : Array Value := #[.int .u8 0, .int .u8 1, .int .u8 1, .int .u8 0]
theorem underFn : ∃ fs, Tryd.prog.underlying 46 = some (.struct fs) := by
  have h : (match Tryd.prog.underlying 46 with | some (.struct _) => true | _ => false) = true := by kernel_rfl
  split at h
  · exact ⟨_, by assumption⟩
  · cases h
theorem infoFn : (Tryd.prog.info? 46).map (·.size) = some 3 := by kernel_rfl
theorem differC (w : World) : Calls Tryd.prog 32 #[] w fun e w' => ∃ gA, e = .returned (.agg #[.int .i64 2, .int .i64 2, .slice (some ⟨gA, 0, none⟩) 4 4]) ∧ w.heap.size ≤ gA ∧ Bo w' gA 5 dfC ∧ w.grownBy w' none := by
  obtain ⟨fs, hfs⟩ := underFn
  have HF : Hid (Tryd.prog.underlying 46 = some (.struct fs)) := hfs
  clear hfs
  go_enter Tryd.func32, Tryd.ntmps32
  go_wp2
  have Bz := (Bo.new w 46 #[.int .i64 2, .int .i64 2, .slice (some ⟨w.heap.size + 1, 0, none⟩) 4 4]).more (.cells dfC 5)
  have B2 := Bo.new (w.alloc (.cells #[.int .i64 2, .int .i64 2, .slice (some ⟨w.heap.size + 1, 0, none⟩) 4 4] 46)) 5 dfC
  have e : (w.alloc (.cells #[.int .i64 2, .int .i64 2, .slice (some ⟨w.heap.size + 1, 0, none⟩) 4 4] 46)).heap.size = w.heap.size + 1 := by simp
  rw [e] at B2
  exact ret_c1 (g := w.heap.size) (cs := #[.int .i64 2, .int .i64 2, .slice (some ⟨w.heap.size + 1, 0, none⟩) 4 4]) rfl HF.out infoFn rfl Bz rfl ⟨w.heap.size + 1, rfl, by omega, B2, gb_alloc (World.grownBy_alloc _ _ none) _⟩

set_option maxHeartbeats 400000 in
theorem says00 (gA gr cr : Nat) (w : World) (BA : Bo w gA 5 dfC) (r0 : w.cell? ⟨gr, 0, none⟩ = some (.int .u8 0)) (r1 : w.cell? ⟨gr, 1, none⟩ = some (.int .u8 0)) : Calls Tryd.prog 24 #[.agg #[.int .i64 2, .int .i64 2, .slice (some ⟨gA, 0, none⟩) 4 4], .slice (some ⟨gr, 0, none⟩) 2 cr] w fun e w' => e = .returned (.int .u8 0) ∧ w.grownBy w' none := by
  obtain ⟨W1, hW1, sz1, g1, B1⟩ := boxn w #[.int .i64 2, .int .i64 2, .slice (some ⟨gA, 0, none⟩) 4 4] 46
  have BA1 := BA.kept g1 (by simp)
  have q0 := g1.cell r0 (by simp)
  have q1 := g1.cell r1 (by simp)
  have c0 := B1.cell 0 (v := .int .i64 2) rfl
  have c1 := B1.cell 1 (v := .int .i64 2) rfl
  have c2 := B1.cell 2 (v := .slice (some ⟨gA, 0, none⟩) 4 4) rfl
  have a0 := BA1.cell 0 (v := .int .u8 0) rfl
  clear r0 r1
  go_enter Tryd.func24, Tryd.ntmps24
  go_wp2
  refine wp_loop_rounds 4 ?_
  rw [rounds_succ]
  go_wp2
  go_quiet (fail)
  go_wp2
  rw [rounds_succ]
  go_wp2
  go_quiet (fail)
  go_wp2
  rw [rounds_succ]
  go_wp2
  try (go_quiet (fail); go_wp2)
  go_ret
  exact ⟨rfl, by first | exact gb_drewN g1 _ | exact gb_drewN (gb_drewN g1 _) _ | exact gb_drewN (gb_drewN (gb_drewN g1 _) _) _ | exact ⟨g1.os, g1.tape, g1.output, g1.size, g1.block⟩⟩

set_option maxHeartbeats 400000 in
theorem says01 (gA gr cr : Nat) (w : World) (BA : Bo w gA 5 dfC) (r0 : w.cell? ⟨gr, 0, none⟩ = some (.int .u8 0)) (r1 : w.cell? ⟨gr, 1, none⟩ = some (.int .u8 1)) : Calls Tryd.prog 24 #[.agg #[.int .i64 2, .int .i64 2, .slice (some ⟨gA, 0, none⟩) 4 4], .slice (some ⟨gr, 0, none⟩) 2 cr] w fun e w' => e = .returned (.int .u8 1) ∧ w.grownBy w' none := by
  obtain ⟨W1, hW1, sz1, g1, B1⟩ := boxn w #[.int .i64 2, .int .i64 2, .slice (some ⟨gA, 0, none⟩) 4 4] 46
  have BA1 := BA.kept g1 (by simp)
  have q0 := g1.cell r0 (by simp)
  have q1 := g1.cell r1 (by simp)
  have c0 := B1.cell 0 (v := .int .i64 2) rfl
  have c1 := B1.cell 1 (v := .int .i64 2) rfl
  have c2 := B1.cell 2 (v := .slice (some ⟨gA, 0, none⟩) 4 4) rfl
  have a0 := BA1.cell 1 (v := .int .u8 1) rfl
  clear r0 r1
  go_enter Tryd.func24, Tryd.ntmps24
  go_wp2
  refine wp_loop_rounds 4 ?_
  rw [rounds_succ]
  go_wp2
  go_quiet (fail)
  go_wp2
  rw [rounds_succ]
  go_wp2
  go_quiet (fail)
  go_wp2
  rw [rounds_succ]
  go_wp2
  try (go_quiet (fail); go_wp2)
  go_ret
  exact ⟨rfl, by first | exact gb_drewN g1 _ | exact gb_drewN (gb_drewN g1 _) _ | exact gb_drewN (gb_drewN (gb_drewN g1 _) _) _ | exact ⟨g1.os, g1.tape, g1.output, g1.size, g1.block⟩⟩

set_option maxHeartbeats 400000 in
theorem says10 (gA gr cr : Nat) (w : World) (BA : Bo w gA 5 dfC) (r0 : w.cell? ⟨gr, 0, none⟩ = some (.int .u8 1)) (r1 : w.cell? ⟨gr, 1, none⟩ = some (.int .u8 0)) : Calls Tryd.prog 24 #[.agg #[.int .i64 2, .int .i64 2, .slice (some ⟨gA, 0, none⟩) 4 4], .slice (some ⟨gr, 0, none⟩) 2 cr] w fun e w' => e = .returned (.int .u8 1) ∧ w.grownBy w' none := by
  obtain ⟨W1, hW1, sz1, g1, B1⟩ := boxn w #[.int .i64 2, .int .i64 2, .slice (some ⟨gA, 0, none⟩) 4 4] 46
  have BA1 := BA.kept g1 (by simp)
  have q0 := g1.cell r0 (by simp)
  have q1 := g1.cell r1 (by simp)
  have c0 := B1.cell 0 (v := .int .i64 2) rfl
  have c1 := B1.cell 1 (v := .int .i64 2) rfl
  have c2 := B1.cell 2 (v := .slice (some ⟨gA, 0, none⟩) 4 4) rfl
  have a0 := BA1.cell 2 (v := .int .u8 1) rfl
  clear r0 r1
  go_enter Tryd.func24, Tryd.ntmps24
  go_wp2
  refine wp_loop_rounds 4 ?_
  rw [rounds_succ]
  go_wp2
  go_quiet (fail)
  go_wp2
  rw [rounds_succ]
  go_wp2
  go_quiet (fail)
  go_wp2
  rw [rounds_succ]
  go_wp2
  try (go_quiet (fail); go_wp2)
  go_ret
  exact ⟨rfl, by first | exact gb_drewN g1 _ | exact gb_drewN (gb_drewN g1 _) _ | exact gb_drewN (gb_drewN (gb_drewN g1 _) _) _ | exact ⟨g1.os, g1.tape, g1.output, g1.size, g1.block⟩⟩

set_option maxHeartbeats 400000 in
theorem says11 (gA gr cr : Nat) (w : World) (BA : Bo w gA 5 dfC) (r0 : w.cell? ⟨gr, 0, none⟩ = some (.int .u8 1)) (r1 : w.cell? ⟨gr, 1, none⟩ = some (.int .u8 1)) : Calls Tryd.prog 24 #[.agg #[.int .i64 2, .int .i64 2, .slice (some ⟨gA, 0, none⟩) 4 4], .slice (some ⟨gr, 0, none⟩) 2 cr] w fun e w' => e = .returned (.int .u8 0) ∧ w.grownBy w' none := by
  obtain ⟨W1, hW1, sz1, g1, B1⟩ := boxn w #[.int .i64 2, .int .i64 2, .slice (some ⟨gA, 0, none⟩) 4 4] 46
  have BA1 := BA.kept g1 (by simp)
  have q0 := g1.cell r0 (by simp)
  have q1 := g1.cell r1 (by simp)
  have c0 := B1.cell 0 (v := .int .i64 2) rfl
  have c1 := B1.cell 1 (v := .int .i64 2) rfl
  have c2 := B1.cell 2 (v := .slice (some ⟨gA, 0, none⟩) 4 4) rfl
  have a0 := BA1.cell 3 (v := .int .u8 0) rfl
  clear r0 r1
  go_enter Tryd.func24, Tryd.ntmps24
  go_wp2
  refine wp_loop_rounds 4 ?_
  rw [rounds_succ]
  go_wp2
  go_quiet (fail)
  go_wp2
  rw [rounds_succ]
  go_wp2
  go_quiet (fail)
  go_wp2
  rw [rounds_succ]
  go_wp2
  try (go_quiet (fail); go_wp2)
  go_ret
  exact ⟨rfl, by first | exact gb_drewN g1 _ | exact gb_drewN (gb_drewN g1 _) _ | exact gb_drewN (gb_drewN (gb_drewN g1 _) _) _ | exact ⟨g1.os, g1.tape, g1.output, g1.size, g1.block⟩⟩
end Go.Proofs.YteaionmjbkildabDoor
