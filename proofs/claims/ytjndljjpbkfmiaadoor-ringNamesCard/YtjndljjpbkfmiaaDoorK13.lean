/- RingNames. -/
import Derived.Test.YtjndljjpbkfmiaaDoorK10
import Derived.Test.YtjndljjpbkfmiaaDoorK12
import Derived.Test.YtjndljjpbkfmiaaDoorZ8
namespace Go.Proofs.YtjndljjpbkfmiaaDoor
open Go.RowKit
set_option linter.unusedVariables false
set_option linter.unusedSimpArgs false
set_option maxRecDepth 100000

theorem szN : Sz 65536 1 2 := ⟨by decide, by decide, by decide, by decide, by decide, by decide, by decide⟩
theorem sz342 : Sz 3 4 2 := ⟨by decide, by decide, by decide, by decide, by decide, by decide, by decide⟩
theorem grN : Gr 2 0 0 65536 1 := ⟨by decide, by decide, by decide, by decide⟩
/-- The cells: the last one lives. -/
def gN (k : Nat) : Nat := if k = 0 * 65536 + 65535 then 1 else 0
theorem gN_lt (k : Nat) : gN k < 256 := by unfold gN; split <;> decide
theorem frN0 : frV 2 0 0 65536 1 gN 0 = 1 := by decide +kernel
theorem frN1 : frV 2 0 0 65536 1 gN 65536 = 1 := by decide +kernel
theorem frN2 : frV 2 0 0 65536 1 gN 65537 = 0 := by decide +kernel
theorem n_new (w : World) : Calls Tryd.prog 6 #[.int .i64 65536, .int .i64 1, .int .i64 2, .bool false] w fun e w' => ∃ b s q, e = .returned (.tuple #[.pointer (some ⟨b, 0, none⟩), .int .i64 0]) ∧ Fb w' b s q 65536 1 2 (fun _ => 0) ∧ w.heap.size ≤ b ∧ w.heap.size ≤ s ∧ w.heap.size ≤ q ∧ w.grownBy w' none := newY 65536 1 2 szN w
theorem n_new2 (w : World) : Calls Tryd.prog 6 #[.int .i64 3, .int .i64 4, .int .i64 2, .bool false] w fun e w' => ∃ b s q, e = .returned (.tuple #[.pointer (some ⟨b, 0, none⟩), .int .i64 0]) ∧ Fb w' b s q 3 4 2 (fun _ => 0) ∧ w.heap.size ≤ b ∧ w.heap.size ≤ s ∧ w.heap.size ≤ q ∧ w.grownBy w' none := newY 3 4 2 sz342 w
theorem n_set {b s q : Nat} (w : World) (h : Fb w b s q 65536 1 2 (fun _ => 0)) : Calls Tryd.prog 7 #[.pointer (some ⟨b, 0, none⟩), .int .i64 65535, .int .i64 0, .int .u8 1] w fun e w' => e = .returned (.int .i64 0) ∧ Fb w' b s q 65536 1 2 gN ∧ w.grownBy w' (some q) := fSetY b s q 65536 1 2 _ szN 65535 0 1 (by decide) (by decide) (by decide) w h
theorem n_bytes {b s q : Nat} (w : World) (h : Fb w b s q 65536 1 2 gN) : Calls Tryd.prog 8 #[.agg #[.int .u8 2, .int .i64 65536, .int .i64 1, .int .u8 0, .int .i64 0], .pointer (some ⟨b, 0, none⟩)] w fun e w' => ∃ d, e = .returned (.tuple #[.agg #[.int .i64 65536, .int .i64 1, .slice (some ⟨d, 0, none⟩) 196614 196614], .int .i64 0]) ∧ w'.rowIs d 5 196614 (fun i => .int .u8 (frV 2 0 0 65536 1 gN i : Nat)) ∧ w.heap.size ≤ d ∧ w.grownBy w' none :=
  bytesY grN (Fb.fdm (g := gN) szN w.heap.size h.qlt) w (Nat.le_refl _) h
theorem n_rows {b s q : Nat} (w : World) (h : Fb w b s q 65536 1 2 gN) : Calls Tryd.prog 9 #[.agg #[.int .u8 2, .int .i64 65536, .int .i64 1, .int .u8 0, .int .i64 0], .pointer (some ⟨b, 0, none⟩)] w fun e w' => ∃ rb wb, e = .returned (.tuple #[.slice (some ⟨rb, 0, none⟩) 3 3, .int .i64 0]) ∧ w'.rowIs rb 40 6 (rwC 65538 wb 3) ∧ w.grownBy w' none := by
  refine (rowsY grN (by decide) (Fb.fdm (g := gN) szN w.heap.size h.qlt) gN_lt (by decide) w (Nat.le_refl _) h).mono ?_
  rintro e w' ⟨rb, wb, rfl, h1, _, _, _, h2⟩
  exact ⟨rb, wb, rfl, h1, h2⟩
theorem n_b1 {b s q : Nat} (w : World) (h : Fb w b s q 3 4 2 (fun _ => 0)) : Calls Tryd.prog 8 #[.agg #[.int .u8 2, .int .i64 3, .int .i64 5, .int .u8 0, .int .i64 0], .pointer (some ⟨b, 0, none⟩)] w fun e w' => e = .returned (.tuple #[.agg #[.int .i64 0, .int .i64 0, .slice none 0 0], .int .i64 21]) ∧ w.grownBy w' none := by
  have F := Fb.fdm (g := fun _ => 0) sz342 w.heap.size h.qlt
  refine bytesX 2 3 5 0 0 21 _ w rfl (fun w' gw => ?_)
  have := checkGridC F (by decide) 2 3 5 0 0 (by decide) w' (F.grown h gw)
  rw [show cgE 2 3 5 0 0 3 4 = 21 by decide] at this
  exact this
theorem n_r1 {b s q : Nat} (w : World) (h : Fb w b s q 3 4 2 (fun _ => 0)) : Calls Tryd.prog 9 #[.agg #[.int .u8 2, .int .i64 3, .int .i64 5, .int .u8 0, .int .i64 0], .pointer (some ⟨b, 0, none⟩)] w fun e w' => e = .returned (.tuple #[.slice none 0 0, .int .i64 21]) ∧ w.grownBy w' none := by
  have F := Fb.fdm (g := fun _ => 0) sz342 w.heap.size h.qlt
  refine rowsX 2 3 5 0 0 21 _ w rfl (fun w' gw => ?_)
  have := checkGridC F (by decide) 2 3 5 0 0 (by decide) w' (F.grown h gw)
  rw [show cgE 2 3 5 0 0 3 4 = 21 by decide] at this
  exact this
theorem n_b2 {b s q : Nat} (w : World) (h : Fb w b s q 3 4 2 (fun _ => 0)) : Calls Tryd.prog 8 #[.agg #[.int .u8 99, .int .i64 0, .int .i64 4, .int .u8 0, .int .i64 0], .pointer (some ⟨b, 0, none⟩)] w fun e w' => e = .returned (.tuple #[.agg #[.int .i64 0, .int .i64 0, .slice none 0 0], .int .i64 9]) ∧ w.grownBy w' none := by
  have F := Fb.fdm (g := fun _ => 0) sz342 w.heap.size h.qlt
  refine bytesX 99 0 4 0 0 9 _ w rfl (fun w' gw => ?_)
  have := checkGridC F (by decide) 99 0 4 0 0 (by decide) w' (F.grown h gw)
  rw [show cgE 99 0 4 0 0 3 4 = 9 by decide] at this
  exact this
theorem n_r2 {b s q : Nat} (w : World) (h : Fb w b s q 3 4 2 (fun _ => 0)) : Calls Tryd.prog 9 #[.agg #[.int .u8 1, .int .i64 0, .int .i64 4, .int .u8 0, .int .i64 0], .pointer (some ⟨b, 0, none⟩)] w fun e w' => e = .returned (.tuple #[.slice none 0 0, .int .i64 42]) ∧ w.grownBy w' none := by
  have F := Fb.fdm (g := fun _ => 0) sz342 w.heap.size h.qlt
  refine rowsX 1 0 4 0 0 42 _ w rfl (fun w' gw => ?_)
  have := checkGridC F (by decide) 1 0 4 0 0 (by decide) w' (F.grown h gw)
  rw [show cgE 1 0 4 0 0 3 4 = 42 by decide] at this
  exact this

theorem n_ck1 (d : Nat) (w : World) : Calls Tryd.prog 10 #[.agg #[.int .i64 65536, .int .i64 1, .slice (some ⟨d, 0, none⟩) 196614 196614]] w fun e w' => e = .returned (.int .i64 0) ∧ w.grownBy w' none := checkF 65536 1 _ 196614 196614 w
theorem n_ck2 (d : Nat) (w : World) : Calls Tryd.prog 10 #[.agg #[.int .i64 65537, .int .i64 1, .slice (some ⟨d, 0, none⟩) 196617 196617]] w fun e w' => e = .returned (.int .i64 140) ∧ w.grownBy w' none := checkF 65537 1 _ 196617 196617 w
set_option maxHeartbeats 1000000 in
theorem names_walk (w : World) (hT : Tab w) : Calls Tryd.prog 3 #[] w fun e w' => e = .returned (.bool true) ∧ Below w.heap.size w w' := by
  have hmk : ∀ w, (Instr.makeSlice 30 (.int .i64 196617) (.int .i64 196617)).run Tryd.prog w = .ok (.slice (some ⟨w.heap.size, 0, none⟩) 196617 196617) (w.alloc (.cells (madeCells #[.int .u8 0] 196617) 5)) := run_make_row' (P := Tryd.prog) 30 5 (.int .u8 0) 1 under8S info8 rfl .i64 .i64 196617 (by decide) (by decide)
  generalize madeCells #[.int .u8 0] 196617 = mc at hmk
  go_enter Tryd.func3, Tryd.ntmps3
  go_wp2_with (first | (go_at_call 5; refine (aliveC w hT).mono ?_; rintro e V1 ⟨rfl, g1⟩; obtain ⟨V2, hV2, sz2, g2, B2⟩ := boxn V1 #[.int .u8 2, .int .i64 65536, .int .i64 1, .int .u8 0, .int .i64 0] 24; have s2_0 := Bo.same B2 0 (v := .int .u8 2) rfl; have s2_1 := Bo.same B2 1 (v := .int .i64 65536) rfl; have s2_2 := Bo.same B2 2 (v := .int .i64 1) rfl; have s2_3 := Bo.same B2 3 (v := .int .u8 0) rfl; have s2_4 := Bo.same B2 4 (v := .int .i64 0) rfl; have y2_0 := B2.frozen 0; have y2_1 := B2.frozen 1; have y2_2 := B2.frozen 2; have y2_3 := B2.frozen 3; have y2_4 := B2.frozen 4; have t2_0 := B2.cell 0 (v := .int .u8 2) rfl; have t2_1 := B2.cell 1 (v := .int .i64 65536) rfl; have t2_2 := B2.cell 2 (v := .int .i64 1) rfl; have t2_3 := B2.cell 3 (v := .int .u8 0) rfl; have t2_4 := B2.cell 4 (v := .int .i64 0) rfl) | ((fail_if_success (guard_hyp g3)); go_at_call 6; refine (n_new V2).mono ?_; rintro e V3 ⟨b, s, q, rfl, h3, lb, ls, lq, g3⟩) | (go_at_call 7; refine (n_set V3 h3).mono ?_; rintro e V4 ⟨rfl, h4, g4⟩; have lB := B2.lt; have T4 := (B2.kept g3 (by simp)).kept g4 (by simp; omega); have ls1 := g1.size; have ls2 := g2.size; have G4 := gb_past (gb_trans g1 (gb_trans g2 g3)) g4 (by omega); have t4_0 := T4.cell 0 (v := .int .u8 2) rfl; have t4_1 := T4.cell 1 (v := .int .i64 65536) rfl; have t4_2 := T4.cell 2 (v := .int .i64 1) rfl; have t4_3 := T4.cell 3 (v := .int .u8 0) rfl; have t4_4 := T4.cell 4 (v := .int .i64 0) rfl) | ((fail_if_success (guard_hyp g5)); go_at_call 8; refine (n_bytes V4 h4).mono ?_; rintro e V5 ⟨d, rfl, r5, ld, g5⟩; obtain ⟨V6, hV6, sz6, g6, B6⟩ := boxn V5 #[.int .i64 65536, .int .i64 1, .slice (some ⟨d, 0, none⟩) 196614 196614] 32; have g56 := gb_trans g5 g6; have h6 := h4.kept g56; have T6 := T4.kept g56 (by simp); have r6 := rowIs_kept r5 g6 (by simp); have t6_0 := T6.cell 0 (v := .int .u8 2) rfl; have t6_1 := T6.cell 1 (v := .int .i64 65536) rfl; have t6_2 := T6.cell 2 (v := .int .i64 1) rfl; have t6_3 := T6.cell 3 (v := .int .u8 0) rfl; have t6_4 := T6.cell 4 (v := .int .i64 0) rfl; have a6_0 := B6.cell 0 (v := .int .i64 65536) rfl; have a6_1 := B6.cell 1 (v := .int .i64 1) rfl; have a6_2 := B6.cell 2 (v := .slice (some ⟨d, 0, none⟩) 196614 196614) rfl) | ((fail_if_success (guard_hyp g7)); go_at_call 9; refine (n_rows V6 h6).mono ?_; rintro e V7 ⟨rb, wb, rfl, r7, g7⟩; have A7 := B6.kept g7 (by simp); have r7' := rowIs_kept r6 g7 (by simp); have a7_0 := A7.cell 0 (v := .int .i64 65536) rfl; have a7_1 := A7.cell 1 (v := .int .i64 1) rfl; have a7_2 := A7.cell 2 (v := .slice (some ⟨d, 0, none⟩) 196614 196614) rfl; have c7 : V7.cell? ⟨rb, 4, none⟩ = some (.int .i64 65538) := r7.cell (i := 4) (by decide); have c7' : V7.cell? ⟨rb, 2 * 2, none⟩ = some (.int .i64 65538) := c7) | (guard_hyp g3; go_at_call 6; refine (n_new2 V7).mono ?_; rintro e V8 ⟨b2, s2, q2, rfl, h8, _, _, _, g8⟩) | (guard_hyp g8; (fail_if_success (guard_hyp g9)); go_at_call 8; refine (n_b1 V8 h8).mono ?_; rintro e V9' ⟨rfl, g9'⟩; obtain ⟨V9, hV9, sz9, g9b, B9⟩ := boxn V9' #[.int .i64 0, .int .i64 0, .slice none 0 0] 32; have s9_0 := Bo.same B9 0 (v := .int .i64 0) rfl; have s9_1 := Bo.same B9 1 (v := .int .i64 0) rfl; have s9_2 := Bo.same B9 2 (v := .slice none 0 0) rfl; have y9_0 := B9.frozen 0; have y9_1 := B9.frozen 1; have y9_2 := B9.frozen 2; have u9_0 := B9.cell 0 (v := .int .i64 0) rfl; have u9_1 := B9.cell 1 (v := .int .i64 0) rfl; have u9_2 := B9.cell 2 (v := .slice none 0 0) rfl; have g9 := gb_trans g9' g9b; have h9 := h8.kept g9) | (guard_hyp g9; (fail_if_success (guard_hyp g10)); go_at_call 9; refine (n_r1 V9 h9).mono ?_; rintro e V10 ⟨rfl, g10⟩; have h10 := h9.kept g10) | (guard_hyp g10; (fail_if_success (guard_hyp g11)); go_at_call 8; refine (n_b2 V10 h10).mono ?_; rintro e V11' ⟨rfl, g11'⟩; obtain ⟨V11, hV11, sz11, g11b, B11⟩ := boxn V11' #[.int .i64 0, .int .i64 0, .slice none 0 0] 32; have s11_0 := Bo.same B11 0 (v := .int .i64 0) rfl; have s11_1 := Bo.same B11 1 (v := .int .i64 0) rfl; have s11_2 := Bo.same B11 2 (v := .slice none 0 0) rfl; have y11_0 := B11.frozen 0; have y11_1 := B11.frozen 1; have y11_2 := B11.frozen 2; have u11_0 := B11.cell 0 (v := .int .i64 0) rfl; have u11_1 := B11.cell 1 (v := .int .i64 0) rfl; have u11_2 := B11.cell 2 (v := .slice none 0 0) rfl; have g11 := gb_trans g11' g11b; have h11 := h10.kept g11) | (guard_hyp g11; (fail_if_success (guard_hyp g12)); go_at_call 9; refine (n_r2 V11 h11).mono ?_; rintro e V12 ⟨rfl, g12⟩; have gz := gb_trans g8 (gb_trans g9 (gb_trans g10 (gb_trans g11 g12))); have A12 := A7.kept gz (by simp); have a12_0 := A12.cell 0 (v := .int .i64 65536) rfl; have a12_1 := A12.cell 1 (v := .int .i64 1) rfl; have a12_2 := A12.cell 2 (v := .slice (some ⟨d, 0, none⟩) 196614 196614) rfl; have r12 := rowIs_kept r7' gz (by simp); have x0 : V12.cell? ⟨d, 0, none⟩ = some (.int .u8 1) := (r12.cell (i := 0) (by decide)).trans (by rw [frN0]; rfl); have x1 : V12.cell? ⟨d, 65536, none⟩ = some (.int .u8 1) := (r12.cell (i := 65536) (by decide)).trans (by rw [frN1]; rfl); have x2 : V12.cell? ⟨d, 65537, none⟩ = some (.int .u8 0) := (r12.cell (i := 65537) (by decide)).trans (by rw [frN2]; rfl)) | ((fail_if_success (guard_hyp g13)); go_at_call 10; refine (n_ck1 _ V12).mono ?_; rintro e V13 ⟨rfl, g13⟩; obtain ⟨V15, hV15, sz15, g15, B15⟩ := boxn V13 mc 5) | (guard_hyp g13; go_at_call 10; refine (n_ck2 _ _).mono ?_; rintro e V14 ⟨rfl, g14⟩))
  go_ret
  exact ⟨rfl, gb_below (gb_trans G4 (gb_trans g56 (gb_trans g7 (gb_trans gz (gb_trans g13 (gb_trans g15 g14))))))⟩
end Go.Proofs.YtjndljjpbkfmiaaDoor
