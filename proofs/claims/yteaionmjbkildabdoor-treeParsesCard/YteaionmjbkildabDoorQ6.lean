/- A node's level: a leaf, a branch of two. -/
import Derived.Test.YteaionmjbkildabDoorQ5
namespace Go.Proofs.YteaionmjbkildabDoor
open Go.RowKit
set_option linter.unusedVariables false
set_option linter.unusedSimpArgs false
set_option maxRecDepth 100000

theorem isLeafY (st : Int) (w : World) : Calls Tryd.prog 59 #[.agg #[.int .u8 st, .slice none 0 0]] w fun e w' => e = .returned (.bool true) ∧ w.grownBy w' none := by
  obtain ⟨W1, hW1, sz1, g1, B1⟩ := boxn w #[.int .u8 st, .slice none 0 0] 69
  have c1 := B1.cell 1 (v := .slice none 0 0) rfl
  go_enter Tryd.func59, Tryd.ntmps59
  go_wp2
  go_ret
  exact ⟨rfl, g1⟩

theorem isLeafN (st : Int) (gk ck : Nat) (w : World) : Calls Tryd.prog 59 #[.agg #[.int .u8 st, .slice (some ⟨gk, 0, none⟩) 2 ck]] w fun e w' => e = .returned (.bool false) ∧ w.grownBy w' none := by
  obtain ⟨W1, hW1, sz1, g1, B1⟩ := boxn w #[.int .u8 st, .slice (some ⟨gk, 0, none⟩) 2 ck] 69
  have c1 := B1.cell 1 (v := .slice (some ⟨gk, 0, none⟩) 2 ck) rfl
  go_enter Tryd.func59, Tryd.ntmps59
  go_wp2
  go_ret
  exact ⟨rfl, g1⟩

set_option maxHeartbeats 400000 in
theorem levelLeaf0 (sa : Option Addr) (na ca : Nat) (w : World) : Calls Tryd.prog 47 #[.agg #[.int .u8 0, .slice none 0 0], .int .i64 2, .slice sa na ca] w fun e w' => e = .returned (.tuple #[.int .i64 0, .bool true]) ∧ w.grownBy w' none := by
  obtain ⟨W1, hW1, sz1, g1, B1⟩ := boxn w #[.int .u8 0, .slice none 0 0] 69
  have c0 := B1.cell 0 (v := .int .u8 0) rfl
  have c1 := B1.cell 1 (v := .slice none 0 0) rfl
  go_enter Tryd.func47, Tryd.ntmps47
  go_wp2_with (first | (go_at_call 59; refine (isLeafY 0 _).mono ?_; rintro e w2 ⟨rfl, g2⟩; have G2 := gb_trans g1 g2; have B2 := B1.kept g2 (by simp); have d0 := B2.cell 0 (v := .int .u8 0) rfl; have d1 := B2.cell 1 (v := .slice none 0 0) rfl))
  go_quiet (fail)
  go_wp2
  go_ret2
  exact ⟨rfl, gb_drewN G2 _⟩

set_option maxHeartbeats 400000 in
theorem levelLeaf1 (sa : Option Addr) (na ca : Nat) (w : World) : Calls Tryd.prog 47 #[.agg #[.int .u8 1, .slice none 0 0], .int .i64 2, .slice sa na ca] w fun e w' => e = .returned (.tuple #[.int .i64 0, .bool true]) ∧ w.grownBy w' none := by
  obtain ⟨W1, hW1, sz1, g1, B1⟩ := boxn w #[.int .u8 1, .slice none 0 0] 69
  have c0 := B1.cell 0 (v := .int .u8 1) rfl
  have c1 := B1.cell 1 (v := .slice none 0 0) rfl
  go_enter Tryd.func47, Tryd.ntmps47
  go_wp2_with (first | (go_at_call 59; refine (isLeafY 1 _).mono ?_; rintro e w2 ⟨rfl, g2⟩; have G2 := gb_trans g1 g2; have B2 := B1.kept g2 (by simp); have d0 := B2.cell 0 (v := .int .u8 1) rfl; have d1 := B2.cell 1 (v := .slice none 0 0) rfl))
  go_quiet (fail)
  go_wp2
  go_ret2
  exact ⟨rfl, gb_drewN G2 _⟩

set_option maxHeartbeats 800000 in
theorem levelTwo0 (gk ck gl ca : Nat) (w : World) (k0 : w.cell? ⟨gk, 0, none⟩ = some (.int .i64 0)) (k1 : w.cell? ⟨gk, 1, none⟩ = some (.int .i64 1)) (l0 : w.cell? ⟨gl, 0, none⟩ = some (.int .i64 0)) (l1 : w.cell? ⟨gl, 1, none⟩ = some (.int .i64 0)) : Calls Tryd.prog 47 #[.agg #[.int .u8 0, .slice (some ⟨gk, 0, none⟩) 2 ck], .int .i64 2, .slice (some ⟨gl, 0, none⟩) 2 ca] w fun e w' => e = .returned (.tuple #[.int .i64 1, .bool true]) ∧ w.grownBy w' none := by
  obtain ⟨W1, hW1, sz1, g1, B1⟩ := boxn w #[.int .u8 0, .slice (some ⟨gk, 0, none⟩) 2 ck] 69
  have c0 := B1.cell 0 (v := .int .u8 0) rfl
  have c1 := B1.cell 1 (v := .slice (some ⟨gk, 0, none⟩) 2 ck) rfl
  go_enter Tryd.func47, Tryd.ntmps47
  go_wp2_with (first | (go_at_call 59; refine (isLeafN 0 gk ck _).mono ?_; rintro e w2 ⟨rfl, g2⟩; have G2 := gb_trans g1 g2; have B2 := B1.kept g2 (by simp); have d0 := B2.cell 0 (v := .int .u8 0) rfl; have d1 := B2.cell 1 (v := .slice (some ⟨gk, 0, none⟩) 2 ck) rfl; have k0' := G2.cell k0 (by simp); have k1' := G2.cell k1 (by simp); have l0' := G2.cell l0 (by simp); have l1' := G2.cell l1 (by simp)))
  try (go_quiet (fail); go_wp2)
  refine wp_loop_rounds 4 ?_
  rw [rounds_succ]
  go_wp2
  try (go_quiet (fail); go_wp2)
  rw [rounds_succ]
  go_wp2
  try (go_quiet (fail); go_wp2)
  rw [rounds_succ]
  go_wp2
  try (go_quiet (fail); go_wp2)
  go_ret2
  exact ⟨rfl, by first | exact G2 | exact gb_drewN G2 _ | exact ⟨G2.os, G2.tape, G2.output, G2.size, G2.block⟩⟩

set_option maxHeartbeats 800000 in
theorem levelTwo1 (gk ck gl ca : Nat) (w : World) (k0 : w.cell? ⟨gk, 0, none⟩ = some (.int .i64 1)) (k1 : w.cell? ⟨gk, 1, none⟩ = some (.int .i64 0)) (l0 : w.cell? ⟨gl, 1, none⟩ = some (.int .i64 0)) (l1 : w.cell? ⟨gl, 0, none⟩ = some (.int .i64 0)) : Calls Tryd.prog 47 #[.agg #[.int .u8 0, .slice (some ⟨gk, 0, none⟩) 2 ck], .int .i64 2, .slice (some ⟨gl, 0, none⟩) 3 ca] w fun e w' => e = .returned (.tuple #[.int .i64 1, .bool true]) ∧ w.grownBy w' none := by
  obtain ⟨W1, hW1, sz1, g1, B1⟩ := boxn w #[.int .u8 0, .slice (some ⟨gk, 0, none⟩) 2 ck] 69
  have c0 := B1.cell 0 (v := .int .u8 0) rfl
  have c1 := B1.cell 1 (v := .slice (some ⟨gk, 0, none⟩) 2 ck) rfl
  go_enter Tryd.func47, Tryd.ntmps47
  go_wp2_with (first | (go_at_call 59; refine (isLeafN 0 gk ck _).mono ?_; rintro e w2 ⟨rfl, g2⟩; have G2 := gb_trans g1 g2; have B2 := B1.kept g2 (by simp); have d0 := B2.cell 0 (v := .int .u8 0) rfl; have d1 := B2.cell 1 (v := .slice (some ⟨gk, 0, none⟩) 2 ck) rfl; have k0' := G2.cell k0 (by simp); have k1' := G2.cell k1 (by simp); have l0' := G2.cell l0 (by simp); have l1' := G2.cell l1 (by simp)))
  try (go_quiet (fail); go_wp2)
  refine wp_loop_rounds 4 ?_
  rw [rounds_succ]
  go_wp2
  try (go_quiet (fail); go_wp2)
  rw [rounds_succ]
  go_wp2
  try (go_quiet (fail); go_wp2)
  rw [rounds_succ]
  go_wp2
  try (go_quiet (fail); go_wp2)
  go_ret2
  exact ⟨rfl, by first | exact G2 | exact gb_drewN G2 _ | exact ⟨G2.os, G2.tape, G2.output, G2.size, G2.block⟩⟩

set_option maxHeartbeats 800000 in
theorem levelTwo2 (gk ck gl ca : Nat) (w : World) (k0 : w.cell? ⟨gk, 0, none⟩ = some (.int .i64 2)) (k1 : w.cell? ⟨gk, 1, none⟩ = some (.int .i64 3)) (l0 : w.cell? ⟨gl, 2, none⟩ = some (.int .i64 1)) (l1 : w.cell? ⟨gl, 3, none⟩ = some (.int .i64 1)) : Calls Tryd.prog 47 #[.agg #[.int .u8 0, .slice (some ⟨gk, 0, none⟩) 2 ck], .int .i64 2, .slice (some ⟨gl, 0, none⟩) 4 ca] w fun e w' => e = .returned (.tuple #[.int .i64 2, .bool true]) ∧ w.grownBy w' none := by
  obtain ⟨W1, hW1, sz1, g1, B1⟩ := boxn w #[.int .u8 0, .slice (some ⟨gk, 0, none⟩) 2 ck] 69
  have c0 := B1.cell 0 (v := .int .u8 0) rfl
  have c1 := B1.cell 1 (v := .slice (some ⟨gk, 0, none⟩) 2 ck) rfl
  go_enter Tryd.func47, Tryd.ntmps47
  go_wp2_with (first | (go_at_call 59; refine (isLeafN 0 gk ck _).mono ?_; rintro e w2 ⟨rfl, g2⟩; have G2 := gb_trans g1 g2; have B2 := B1.kept g2 (by simp); have d0 := B2.cell 0 (v := .int .u8 0) rfl; have d1 := B2.cell 1 (v := .slice (some ⟨gk, 0, none⟩) 2 ck) rfl; have k0' := G2.cell k0 (by simp); have k1' := G2.cell k1 (by simp); have l0' := G2.cell l0 (by simp); have l1' := G2.cell l1 (by simp)))
  try (go_quiet (fail); go_wp2)
  refine wp_loop_rounds 4 ?_
  rw [rounds_succ]
  go_wp2
  try (go_quiet (fail); go_wp2)
  rw [rounds_succ]
  go_wp2
  try (go_quiet (fail); go_wp2)
  rw [rounds_succ]
  go_wp2
  try (go_quiet (fail); go_wp2)
  go_ret2
  exact ⟨rfl, by first | exact G2 | exact gb_drewN G2 _ | exact ⟨G2.os, G2.tape, G2.output, G2.size, G2.block⟩⟩
end Go.Proofs.YteaionmjbkildabDoor
