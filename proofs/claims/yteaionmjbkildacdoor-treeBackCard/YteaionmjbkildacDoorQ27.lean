/- alive: some answers that the document fixes. -/
import Derived.Test.YteaionmjbkildacDoorQ26
namespace Go.Proofs.YteaionmjbkildacDoor
open Go.RowKit Go.Lib
set_option linter.unusedVariables false
set_option linter.unusedSimpArgs false
set_option maxRecDepth 100000

theorem atD (gN gi : Nat) (sp : Nat → Option Addr) (w : World) (hT : Tn w gN 0 5 (tnOf LD sp)) (c0 : w.cell? ⟨gi, 0, none⟩ = some (.int .u8 1)) (c1 : w.cell? ⟨gi, 1, none⟩ = some (.int .u8 0)) : Calls Tryd.prog 10 #[.agg #[.int .i64 2, .int .i64 2, .slice (some ⟨gN, 0, none⟩) 5 5, .int .i64 4], .slice (some ⟨gi, 0, none⟩) 2 2] w fun e w' => e = .returned (.tuple #[.int .u8 1, .int .i64 0]) ∧ w.grownBy w' none := by
  have h := atC 2 2 4 gN 0 5 5 (tnOf LD sp) lvD (tokD sp) (some ⟨gi, 0, none⟩) 2 (fun i => [1, 0].getD i 0) (fun i hi => match i, hi with | 0, _ => by decide | 1, _ => by decide) w hT (fun k hk => match k, hk with | 0, _ => ⟨_, rfl, c0⟩ | 1, _ => ⟨_, rfl, c1⟩)
  rw [goD] at h
  exact h
theorem keepsD (gN gi : Nat) (sp : Nat → Option Addr) (w : World) (hT : Tn w gN 0 5 (tnOf LD sp)) (c0 : w.cell? ⟨gi, 0, none⟩ = some (.int .i64 1)) (c1 : w.cell? ⟨gi, 1, none⟩ = some (.int .i64 0)) : Calls Tryd.prog 11 #[.agg #[.int .i64 2, .int .i64 2, .slice (some ⟨gN, 0, none⟩) 5 5, .int .i64 4], .slice (some ⟨gi, 0, none⟩) 2 2] w fun e w' => e = .returned (.tuple #[.bool true, .int .i64 0]) ∧ w.grownBy w' none := by
  have h := keepsC 2 2 4 gN 0 5 5 (tnOf LD sp) lvD (tokD sp) (by decide) (some ⟨gi, 0, none⟩) 2 (fun i => [1, 0].getD i 0) orD w hT (fun k hk => match k, hk with | 0, _ => ⟨_, rfl, c0⟩ | 1, _ => ⟨_, rfl, c1⟩)
  rw [keD] at h
  exact h
theorem printD (gN : Nat) (sp : Nat → Option Addr) (w : World) (hT : Tn w gN 0 5 (tnOf LD sp)) (htab : Tab w) : Calls Tryd.prog 5 #[.agg #[.int .i64 2, .int .i64 2, .slice (some ⟨gN, 0, none⟩) 5 5, .int .i64 4]] w fun e w' => e = .returned (.tuple #[.string ⟨txD.toArray⟩, .int .i64 0]) ∧ w.grownBy w' none := by
  have h := printC 2 2 4 gN 0 5 5 (tnOf LD sp) lvD (tokD sp) (by rw [txD_is]; decide) w hT htab
  rw [txD_is] at h
  exact h
theorem gPw : Tryd.prog.globalNamed "internal/strconv.uint64pow10" = some 0 := by kernel_rfl
theorem tab_kept {w w' : World} (h : Tab w) (g : w.grownBy w' none) : Tab w' := Joins.tab_stays gPw h (gb_below g) (Nat.le_refl _)

set_option maxHeartbeats 2000000 in
theorem aliveC (w : World) (htab : Tab w) : Calls Tryd.prog 4 #[] w fun e w' => e = .returned (.bool true) ∧ w.grownBy w' none := by
  have hd := differC w
  go_enter Tryd.func4, Tryd.ntmps4
  go_wp2_with (first | (go_at_call 9; refine hd.mono ?_; rintro e w1 ⟨gA, rfl, _, BA, g1⟩; refine Hid.out ?_))
  refine Lib.hid ?_
  have ho := ofD gA w1 BA
  go_wp2_with (first | (go_at_call 8; refine ho.mono ?_; rintro e w2 ⟨gN, sp, rfl, hT, g2⟩; refine Hid.out ?_))
  refine Lib.hid ?_
  clear hd ho
  obtain ⟨W3, hW3, sz3, g3, B3⟩ := boxn w2 #[.int .i64 2, .int .i64 2, .slice (some ⟨gN, 0, none⟩) 5 5, .int .i64 4] 24
  obtain ⟨W4, hW4, sz4, g4, B4⟩ := boxn W3 #[.int .u8 1, .int .u8 0] 5
  have hT4 := (hT.kept g3).kept g4
  have tb4 := tab_kept (tab_kept (tab_kept (tab_kept htab g1) g2) g3) g4
  have B34 := B3.kept g4 (by simp)
  have a0 := B3.cell 0 (v := .int .i64 2) rfl
  have a1 := B3.cell 1 (v := .int .i64 2) rfl
  have a2 := B3.cell 2 (v := .slice (some ⟨gN, 0, none⟩) 5 5) rfl
  have a3 := B3.cell 3 (v := .int .i64 4) rfl
  have hat := atD gN W3.heap.size sp W4 hT4 (B4.cell 0 rfl) (B4.cell 1 rfl)
  have c0 := B34.cell 0 (v := .int .i64 2) rfl
  have c1 := B34.cell 1 (v := .int .i64 2) rfl
  have c2 := B34.cell 2 (v := .slice (some ⟨gN, 0, none⟩) 5 5) rfl
  have c3 := B34.cell 3 (v := .int .i64 4) rfl
  go_wp2_with (first | (go_at_call 10; refine hat.mono ?_; rintro e w5 ⟨rfl, g5⟩; refine Hid.out ?_))
  refine Lib.hid ?_
  clear hat a0 a1 a2 a3 c0 c1 c2 c3
  have B35 := B34.kept g5 (by simp)
  have hpr := printD gN sp w5 (hT4.kept g5) (tab_kept tb4 g5)
  have c0 := B35.cell 0 (v := .int .i64 2) rfl
  have c1 := B35.cell 1 (v := .int .i64 2) rfl
  have c2 := B35.cell 2 (v := .slice (some ⟨gN, 0, none⟩) 5 5) rfl
  have c3 := B35.cell 3 (v := .int .i64 4) rfl
  go_wp2_with (first | (go_at_call 5; refine hpr.mono ?_; rintro e w6 ⟨rfl, g6⟩; refine Hid.out ?_))
  refine Lib.hid ?_
  clear hpr c0 c1 c2 c3
  obtain ⟨W7, hW7, sz7, g7, B7⟩ := boxn w6 #[.int .i64 1, .int .i64 0] 3
  have B36 := B35.kept g6 (by simp)
  have B37 := B36.kept g7 (by simp)
  have a0 := B36.cell 0 (v := .int .i64 2) rfl
  have a1 := B36.cell 1 (v := .int .i64 2) rfl
  have a2 := B36.cell 2 (v := .slice (some ⟨gN, 0, none⟩) 5 5) rfl
  have a3 := B36.cell 3 (v := .int .i64 4) rfl
  have hke := keepsD gN w6.heap.size sp W7 (((hT4.kept g5).kept g6).kept g7) (B7.cell 0 rfl) (B7.cell 1 rfl)
  have c0 := B37.cell 0 (v := .int .i64 2) rfl
  have c1 := B37.cell 1 (v := .int .i64 2) rfl
  have c2 := B37.cell 2 (v := .slice (some ⟨gN, 0, none⟩) 5 5) rfl
  have c3 := B37.cell 3 (v := .int .i64 4) rfl
  go_wp2_with (first | (go_at_call 11; refine hke.mono ?_; rintro e w8 ⟨rfl, g8⟩; refine Hid.out ?_))
  refine Lib.hid ?_
  clear hke c0 c1 c2 c3
  have G := gb_trans g1 (gb_trans g2 (gb_trans g3 (gb_trans g4 (gb_trans g5 (gb_trans g6 (gb_trans g7 g8))))))
  go_wp2
  go_ret
  exact ⟨rfl, G⟩
end Go.Proofs.YteaionmjbkildacDoor
