/- WordsNames: the longest row is made, and one more is not. -/
import Derived.Test.YtcdefpfnjjahgaaW10
namespace Go.Proofs.Ytcdefpfnjjahgaa
open Go.RowKit
set_option linter.unusedVariables false

theorem infoB : (Try.prog.info? 4).map (fun i => (i.zero, i.size, i.bytes)) = some (some (.bool false), 1, 1) := by kernel_rfl
theorem underB : Try.prog.underlying 29 = some (.slice 4) := by kernel_rfl

theorem madeAny (n : Nat) (hn : n ≤ 1000000) : ∃ mc : Array Value, (∀ w, (Instr.makeSlice 29 (.int .i64 n) (.int .i64 n)).run Try.prog w = .ok (.slice (some ⟨w.heap.size, 0, none⟩) n n) (w.alloc (.cells mc 4))) ∧ ∀ w : World, (w.alloc (.cells mc 4)).rowIs w.heap.size 4 n (fun _ => .bool false) :=
  ⟨madeCells #[.bool false] n, fun w => run_make_row' (P := Try.prog) 29 4 (.bool false) 1 underB infoB rfl .i64 .i64 n (by omega) (by omega) w, fun w => World.rowIs_made w (.bool false) n 4⟩
theorem madeLong : ∃ mc : Array Value, (∀ w, (Instr.makeSlice 29 (.int .i64 65539) (.int .i64 65539)).run Try.prog w = .ok (.slice (some ⟨w.heap.size, 0, none⟩) 65539 65539) (w.alloc (.cells mc 4))) ∧ ∀ w : World, (w.alloc (.cells mc 4)).rowIs w.heap.size 4 65539 (fun _ => .bool false) :=
  madeAny 65539 (by omega)

theorem walkNames (w : World) :
    Calls Try.prog 3 #[] w fun e w' => e = .returned (.bool true) ∧ Below w.heap.size w w' := by
  obtain ⟨mc, hmk, hmc⟩ := madeLong
  have N1 := newC 65538 (by decide)
  have N2 := newBad 65539 (by decide)
  have N3 := newBad (-1) (by decide)
  have N4 := newC 0 (by decide)
  have e1 : (65538 + 63) / 64 = 1025 := by decide
  have e2 : (0 + 63) / 64 = 0 := by decide
  rw [e1] at N1
  rw [e2] at N4
  have N5 := fun (sp : Option Addr) (W : World) (h : Bd W sp 65538 (fun _ => false)) => ofC 65538 65539 sp (fun _ => false) (by decide) W h
  simp only [e1] at N5
  clear e1 e2
  go_enter Try.func3, Try.ntmps3
  go_wp2_with (first | (go_at_call 7; refine (aliveC w).mono ?_; rintro e w1 ⟨rfl, g1⟩) | (go_at_call_of 8 (Value.int IntKind.i64 65538); refine (N1 w1).mono ?_; rintro e w2 ⟨b2, rfl, hr2, g2, l2⟩; obtain ⟨W3, hW3, c0, c1, sz3, g3, hB3⟩ := box2 w2 (.int .i64 65538) (.slice (some ⟨b2, 0, none⟩) 1025 1025) 25) | (go_at_call_of 8 (Value.int IntKind.i64 65539); refine (N2 W3).mono ?_; rintro e w4 ⟨rfl, g4⟩; have g5 := World.grownBy_alloc w4 (.cells #[.int .i64 0, .slice none 0 0] 25) none) | (go_at_call_of 8 (Value.int IntKind.i64 0); refine (N4 _).mono ?_; rintro e w8 ⟨b8, rfl, hr8, g8, l8⟩; obtain ⟨W9, hW9, f0, f1, sz9, g9, hB9⟩ := box2 w8 (.int .i64 0) (.slice (some ⟨b8, 0, none⟩) 0 0) 25; obtain ⟨W10, hW10⟩ : ∃ W10, W9.alloc (.cells mc 4) = W10 := ⟨_, rfl⟩; have hm9 := hmc W9; rw [hW10] at hm9; have g10 : W9.grownBy W10 none := (by rw [← hW10]; exact World.grownBy_alloc _ _ _); have hbd : Bd W10 (some ⟨W9.heap.size, 0, none⟩) 65538 (fun _ => false) := (fun k hk => ⟨_, rfl, by rw [add_mid, Nat.zero_add]; exact hm9.cell (Nat.lt_succ_of_lt hk)⟩)) | (go_at_call 8; refine (N3 _).mono ?_; rintro e w6 ⟨rfl, g6⟩; have g7 := World.grownBy_alloc w6 (.cells #[.int .i64 0, .slice none 0 0] 25) none) | (go_at_call_of 9 (Value.slice (some ⟨W9.heap.size, 0, none⟩) 65538 65539); refine (N5 (some ⟨W9.heap.size, 0, none⟩) W10 hbd).mono ?_; rintro e w11 ⟨b11, rfl, hr11, g11, l11⟩; obtain ⟨W12, hW12, m0, m1, sz12, g12, hB12⟩ := box2 w11 (.int .i64 65538) (.slice (some ⟨b11, 0, none⟩) 1025 1025) 25) | (go_at_call 9; refine (ofBig 65539 65539 (some ⟨W9.heap.size, 0, none⟩) (by decide) (by decide) W12).mono ?_; rintro e w13 ⟨rfl, g13⟩; have g14 := World.grownBy_alloc w13 (.cells #[.int .i64 0, .slice none 0 0] 25) none; have G14 := gb_trans g13 g14; have G12 := gb_trans (gb_trans g11 g12) G14; have G9 := gb_trans g10 G12; have o0 := (hB12.kept G14 (by simp)).cell0; have o1 := (hB12.kept G14 (by simp)).cell1; have o2 := (hB9.kept G9 (by simp)).cell0; have o3 := (hB9.kept G9 (by simp)).cell1; have G3 := gb_trans (gb_trans g4 g5) (gb_trans (gb_trans g6 g7) (gb_trans (gb_trans g8 g9) G9)); have o4 := (hB3.kept G3 (by simp)).cell0; have o5 := (hB3.kept G3 (by simp)).cell1))
  go_ret
  exact ⟨rfl, gb_below (gb_trans g1 (gb_trans (gb_trans g2 g3) G3))⟩

end Go.Proofs.Ytcdefpfnjjahgaa
