/- Same of two fields with the same cells. -/
import Derived.Test.YthjiiljglgmkpaaGreatDoorX9
import Derived.Test.YthjiiljglgmkpaaGreatDoorK30
import Derived.Test.YthjiiljglgmkpaaGreatDoorP1
namespace Go.Proofs.YthjiiljglgmkpaaGreatDoor.Pd
open Go.RowKit Go.Lib
set_option linter.unusedVariables false
set_option linter.unusedSimpArgs false
set_option maxRecDepth 100000

theorem made5 {V4 V5 : World} {C : Nat} (h : V4.alloc (.cells (madeCells #[.int .u8 0] C) 5) = V5) : V5.rowIs V4.heap.size 5 C (fun _ => .int .u8 0) := h ▸ World.rowIs_made V4 (.int .u8 0) C 5
theorem rcut {c : Code} {P : Program} {K : Act → World → Prop} {Q : Exit → Act → World → Prop} {a : Act} {w : World} (X : Act → World → Prop) (h : c.wp P (Exit.then X (fun _ _ _ => False)) a w) (hX : ∀ a w, X a w → K a w) : c.wp P (Exit.then K Q) a w := by
  refine Code.wp_mono ?_ h
  intro e a w he
  cases e <;> first | exact hX _ _ he | exact he.elim
set_option maxHeartbeats 2000000 in
theorem samett (b s : Nat) (q : Nat × (Nat → Nat)) (b2 s2 : Nat) (q2 : Nat × (Nat → Nat)) (C R : Nat) (g g2 : Nat → Nat) (hz : Sz C R 2) (w : World) (h : Tt.Fb w b s q C R 2 g) (h2 : Tt.Fb w b2 s2 q2 C R 2 g2) (hr : ∀ k, k < C * R → g k = g2 k) : Calls Tryz.prog 19 #[.pointer (some ⟨b, 0, none⟩), .pointer (some ⟨b2, 0, none⟩)] w fun e w' => e = .returned (.bool true) ∧ w.grownBy w' none := by
  have HR : Hid (∀ k, k < C * R → g k = g2 k) := hr
  clear hr
  have h0 := h.cell
  have h20 := h2.cell
  have gdw : w.grownBy w.drew none := gb_drew (World.grownBy.refl _ none)
  have hd := h.kept gdw
  have hd2 := h2.kept gdw
  have hl1 := Tt.lacksN b s q C R 2 g w.drew hd
  have hl2 := Tt.lacksN b2 s2 q2 C R 2 g2 w.drew hd2
  have hm1 := Tt.m_measure hd.st
  have hm2 := Tt.m_measure hd2.st
  have qz : ∀ w : World, (binOp .neq 98 (.agg #[.int .i64 (C : Nat), .int .i64 (R : Nat), .int .i64 2]) (.agg #[.int .i64 (C : Nat), .int .i64 (R : Nat), .int .i64 2])).run Tryz.prog w = .ok (.bool false) w := fun w => by go_simp
  have HX : Hid (∀ W d, w.grownBy W none → W.heap.size ≤ d → ∀ X Y, Tt.Fb X b2 s2 q2 C R 2 g2 → X.grownBy Y (some d) → Tt.Fb Y b2 s2 q2 C R 2 g2) := fun W d gW hWd X Y hX hg => (Tt.Fb.fdx hz).kept g2 X Y (some d) hX hg (fun i e hL => by cases e; have := (Tt.Fb.fdx hz).lts g2 w h2 _ hL; have := gW.size; omega)
  go_enter Tryz.func19, Tryz.ntmps19
  go_wp2
  refine rcut (fun a' w' => a' = { tmps := #[.pointer (some ⟨b, 0, none⟩), .pointer (some ⟨b2, 0, none⟩), undef, undef, .bool false, undef, undef, undef, .pointer (some ⟨b, 0, none⟩), .bool false, .bool false, .pointer (some ⟨b2, 0, none⟩), .bool false, .bool false, .bool false, .pointer (some ⟨b, 0, none⟩), .pointer (some ⟨b, 0, none⟩), .pointer (some ⟨b, 0, none⟩), .iface 163 (.pointer (some ⟨s, 0, none⟩)), .agg #[.int .i64 (C : Nat), .int .i64 (R : Nat), .int .i64 2], .pointer (some ⟨b2, 0, none⟩), .pointer (some ⟨b2, 0, none⟩), .pointer (some ⟨b2, 0, none⟩), .iface 163 (.pointer (some ⟨s2, 0, none⟩)), .agg #[.int .i64 (C : Nat), .int .i64 (R : Nat), .int .i64 2], .bool false, .bool false, undef, undef, undef, undef, undef, undef, undef, undef, undef, undef, undef, undef, undef, undef, undef, undef, undef, undef, undef, undef, undef, undef, undef, undef, undef, undef, undef, undef, undef, undef], defers := [] } ∧ w.grownBy w' none) ?_ ?_
  case refine_2 =>
    rintro a' W3 ⟨rfl, g3⟩
    have hF3 := h.kept g3
    have hG3 := h2.kept g3
    have hc1 := hz.c1
    have hmk := run_make_row' (P := Tryz.prog) 81 5 (.int .u8 0) 1 underBS infoB rfl .i64 .i64 C (by omega) (by omega)
    have hD3 := hF3.kept (gb_drew (World.grownBy.refl W3 none))
    have hW3 := Tt.fW b s q C R 2 g W3.drew hD3
    go_wp2
    refine rcut (fun a' w' => ∃ d1 d2, a' = { tmps := #[.pointer (some ⟨b, 0, none⟩), .pointer (some ⟨b2, 0, none⟩), undef, undef, .bool false, .slice (some ⟨d1, 0, none⟩) C C, .slice (some ⟨d2, 0, none⟩) C C, undef, .pointer (some ⟨b, 0, none⟩), .bool false, .bool false, .pointer (some ⟨b2, 0, none⟩), .bool false, .bool false, .bool false, .pointer (some ⟨b, 0, none⟩), .pointer (some ⟨b, 0, none⟩), .pointer (some ⟨b, 0, none⟩), .iface 163 (.pointer (some ⟨s, 0, none⟩)), .agg #[.int .i64 (C : Nat), .int .i64 (R : Nat), .int .i64 2], .pointer (some ⟨b2, 0, none⟩), .pointer (some ⟨b2, 0, none⟩), .pointer (some ⟨b2, 0, none⟩), .iface 163 (.pointer (some ⟨s2, 0, none⟩)), .agg #[.int .i64 (C : Nat), .int .i64 (R : Nat), .int .i64 2], .bool false, .bool false, .pointer (some ⟨b, 0, none⟩), .int .i64 (C : Nat), .slice (some ⟨d1, 0, none⟩) C C, .pointer (some ⟨b, 0, none⟩), .int .i64 (C : Nat), .slice (some ⟨d2, 0, none⟩) C C, undef, undef, undef, undef, undef, undef, undef, undef, undef, undef, undef, undef, undef, undef, undef, undef, undef, undef, undef, undef, undef, undef, undef, undef], defers := [] } ∧ d1 ≠ d2 ∧ W3.heap.size ≤ d1 ∧ W3.heap.size ≤ d2 ∧ w'.rowIs d1 5 C (fun _ => .int .u8 0) ∧ w'.rowIs d2 5 C (fun _ => .int .u8 0) ∧ W3.grownBy w' none) ?_ ?_
    case refine_2 =>
      rintro a' W4 ⟨d1, d2, rfl, hne, ld1, ld2, r1, r2, g4⟩
      have hF4 := hF3.kept g4
      have kH := Tt.fH b s q C R 2 g W4 hF4
      go_wp2_with (go_at_call 43; refine kH.mono ?_; rintro e W5 ⟨rfl, g5⟩)
      have hrd := fun w => Tt.m_read s w
      have hrd2 := fun w => Tt.m_read s2 w
      go_loopw [35] (fun i wr => ∃ k : Nat, k ≤ R ∧ i = .int .i64 k ∧ W3.grownBy wr none ∧ (∃ f1, wr.rowIs d1 5 C f1) ∧ ∃ f2, wr.rowIs d2 5 C f2) (fun i _ => R - (intOf i).toNat)
      case atStart => exact ⟨0, Nat.zero_le _, rfl, gb_trans g4 g5, ⟨_, rowIs_kept r1 g5 (by simp)⟩, ⟨_, rowIs_kept r2 g5 (by simp)⟩⟩
      case round =>
        obtain ⟨k, hk, rfl, Gk, ⟨f1, q1⟩, ⟨f2, q2r⟩⟩ := hrel
        have hr1 := hz.r1
        by_cases hlt : k < R
        · have hlt' : (k : Int) < (R : Int) := by omega
          have hFk := hF3.kept Gk
          have hGk := hG3.kept Gk
          have v0 := hFk.cell
          have hrow := row_le (C := C) hlt
          have hrc := Tt.readC s q C R 2 g hz k hlt d1 C f1 wr hFk.st q1
          have heq := fun w ha hb => equalT C hc1 (some ⟨d1, 0, none⟩) (some ⟨d2, 0, none⟩) C C (fun x => g (k * C + x)) (fun x => g2 (k * C + x)) w ha hb true (by symm; exact decide_eq_true (fun x hx => HR.out (k * C + x) (by omega)))
          go_wp2_with (first | ((fail_if_success (guard_hyp ga)); go_at_call 183; refine hrc.mono ?_; rintro e A1 ⟨rfl, ra, ga⟩; have hGa := HX.out W3 d1 g3 ld1 _ _ hGk ga; have va := hGa.cell; have rb := rowIs_kept q2r ga (by simp; omega); have hrc2 := Tt.readC s2 q2 C R 2 g2 hz k hlt d2 C f2 A1 hGa.st rb) | (guard_hyp ga; go_at_call 183; refine hrc2.mono ?_; rintro e A2 ⟨rfl, rc, gb⟩; have rd := rowIs_kept ra gb (by simp; omega)) | (go_at_call 47; refine (heq A2 (rowIs_by rd) (rowIs_by rc)).mono ?_; rintro e A3 ⟨rfl, m, hm⟩))
          have hh := gb_past (gb_past Gk ga ld1) gb ld2
          refine ⟨⟨k + 1, hlt, by go_num, gb_drewN hh m, ⟨_, rd⟩, ⟨_, rc⟩⟩, by simp [intOf]; omega⟩
        · have hkn : ¬ ((k : Int) < (R : Int)) := by omega
          obtain rfl : R = k := by omega
          go_wp2
          go_ret
          exact ⟨rfl, gb_trans g3 Gk⟩
    go_region_with (first | (go_at_call 42; (fail_if_success (guard_hyp g4)); refine hW3.mono ?_; rintro e V4 ⟨rfl, g4⟩; have hF4 := hD3.kept g4; obtain ⟨V5, hV5, sz5, g5, B5⟩ := boxn V4 (madeCells #[.int .u8 0] C) 5; have hF5 := hF4.kept g5) | (go_at_call 42; guard_hyp g4; refine (Tt.fW b s q C R 2 g _ (by first | exact hF4 | exact hF5)).mono ?_; rintro e V6 ⟨rfl, g6⟩))
    all_goals have gd : W3.grownBy V4 none := gb_trans (gb_drew (World.grownBy.refl _ _)) g4
    all_goals have l4 := gd.size
    all_goals have l6 := g6.size
    all_goals have l5 := g5.size
    all_goals have rm := World.rowIs_made V6 (.int .u8 0) C 5
    all_goals have rn := World.rowIs_made (V6.alloc (.cells (madeCells #[.int .u8 0] C) 5)) (.int .u8 0) C 5
    all_goals rw [World.size_alloc] at rn
    all_goals have ro := rowIs_kept rm (World.grownBy_alloc (V6.alloc (.cells (madeCells #[.int .u8 0] C) 5)) (.cells (madeCells #[.int .u8 0] C) 5) none) (by simp)
    all_goals first
      | exact ⟨V6.heap.size, V6.heap.size + 1, rfl, by omega, by omega, by omega, ro, rn, gb_alloc (gb_alloc (gb_trans gd g6) _) _⟩
      | exact ⟨V6.heap.size + 1, V6.heap.size, rfl, by omega, by omega, by omega, rn, ro, gb_alloc (gb_alloc (gb_trans gd g6) _) _⟩
      | exact ⟨V4.heap.size, V6.heap.size, rfl, by have := (B5.kept g6 (by simp)).lt; omega, by omega, by omega, rowIs_kept (rowIs_kept (made5 hV5) g6 (by simp)) (World.grownBy_alloc _ _ none) (by simp), rm, gb_alloc (gb_trans gd (gb_trans g5 g6)) _⟩
  go_region_with (first | (go_at_call 46; (fail_if_success (guard_hyp mk1)); refine hl1.mono ?_; rintro e V ⟨rfl, hV⟩; subst V; have mk1 : True := trivial) | (go_at_call 46; guard_hyp mk1; refine hl2.mono ?_; rintro e V ⟨rfl, hV⟩; subst V) | (go_at_call 176; (fail_if_success (guard_hyp gV)); refine (measureC C R 2 w.drew).mono ?_; rintro e V ⟨rfl, gV⟩; have hF1 := hd2.kept gV; have v20 := hF1.cell; have hm3 := Tt.m_measure hF1.st) | (go_at_call 176; guard_hyp gV; refine (measureC C R 2 V).mono ?_; rintro e V2 ⟨rfl, gV2⟩))
  all_goals exact ⟨rfl, gb_trans (gb_drew (World.grownBy.refl _ _)) (gb_trans gV gV2)⟩
end Go.Proofs.YthjiiljglgmkpaaGreatDoor.Pd
