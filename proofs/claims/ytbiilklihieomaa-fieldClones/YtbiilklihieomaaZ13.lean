/- alive: a field of three columns and two rows. -/
import Derived.Test.YtbiilklihieomaaZ10
import Derived.Test.YtbiilklihieomaaZ11
import Derived.Test.YtbiilklihieomaaZ12
namespace Go.Proofs.Ytbiilklihieomaa
open Go.RowKit
set_option linter.unusedVariables false
set_option linter.unusedSimpArgs false
set_option maxRecDepth 100000

theorem sz324 : Sz 3 2 4 := ⟨by decide, by decide, by decide, by decide, by decide, by decide, by decide⟩
/-- Its cells, once one lives. -/
def gA (k : Nat) : Nat := if k = 5 then 3 else 0
theorem a_new (w : World) : Calls Try.prog 9 #[.int .i64 3, .int .i64 2, .int .i64 4, .bool false] w fun e w' => ∃ b s q, e = .returned (.tuple #[.pointer (some ⟨b, 0, none⟩), .int .i64 0]) ∧ Fb w' b s q 3 2 4 (fun _ => 0) ∧ w.heap.size ≤ b ∧ w.heap.size ≤ s ∧ w.heap.size ≤ q ∧ w.grownBy w' none := newY 3 2 4 sz324 w
theorem a_set {b s q : Nat} (w : World) (h : Fb w b s q 3 2 4 (fun _ => 0)) : Calls Try.prog 19 #[.pointer (some ⟨b, 0, none⟩), .int .i64 2, .int .i64 1, .int .u8 3] w fun e w' => e = .returned (.int .i64 0) ∧ Fb w' b s q 3 2 4 gA ∧ w.grownBy w' (some q) := fSetY b s q 3 2 4 _ sz324 2 1 3 (by decide) (by decide) (by decide) w h
theorem a_get {b s q : Nat} (w : World) (h : Fb w b s q 3 2 4 gA) : Calls Try.prog 16 #[.pointer (some ⟨b, 0, none⟩), .int .i64 2, .int .i64 1] w fun e w' => e = .returned (.tuple #[.int .u8 3, .int .i64 0]) ∧ w.grownBy w' none := fGetY b s q 3 2 4 gA sz324 2 1 (by decide) (by decide) w h
theorem a_pop {b s q : Nat} (w : World) (h : Fb w b s q 3 2 4 gA) : Calls Try.prog 28 #[.pointer (some ⟨b, 0, none⟩)] w fun e w' => e = .returned (.int .i64 1) ∧ w.grownBy w' none := fPop b s q 3 2 4 gA sz324 w h
theorem bxA : bx gA 3 2 2 = ⟨2, 2, 1, 1⟩ := by rfl
theorem a_box {b s q : Nat} (w : World) (h : Fb w b s q 3 2 4 gA) : Calls Try.prog 18 #[.pointer (some ⟨b, 0, none⟩)] w fun e w' => e = .returned (.tuple #[.agg #[.int .i64 2, .int .i64 1, .int .i64 1, .int .i64 1], .bool true]) ∧ w.grownBy w' none := by
  have := fBox b s q 3 2 4 gA sz324 w h
  rw [bxA] at this
  exact this
theorem a_line {b s q : Nat} (w : World) (h : Fb w b s q 3 2 4 gA) : Calls Try.prog 17 #[.pointer (some ⟨b, 0, none⟩), .int .i64 1] w fun e w' => ∃ d, e = .returned (.tuple #[.slice (some ⟨d, 0, none⟩) 3 3, .int .i64 0]) ∧ w'.rowIs d 5 3 (fun x => .int .u8 (gA (3 + x) : Nat)) ∧ w.heap.size ≤ d ∧ w.grownBy w' none := fLineY b s q 3 2 4 gA sz324 1 (by decide) w h
theorem a_setS {b s q : Nat} (w : World) (h : Fb w b s q 3 2 4 gA) : Calls Try.prog 19 #[.pointer (some ⟨b, 0, none⟩), .int .i64 0, .int .i64 0, .int .u8 4] w fun e w' => e = .returned (.int .i64 7) ∧ w.grownBy w' none := fSetS b s q 3 2 4 gA sz324 0 0 4 (by decide) (by decide) (by decide) (by decide) w h

theorem gA_lt (k : Nat) : (fun x => gA (3 + x)) k < 256 := by
  show gA (3 + k) < 256
  unfold gA
  split <;> decide
theorem by_row {w : World} {d n : Nat} {f : Nat → Nat} (h : w.rowIs d 5 n (fun x => .int .u8 (f x : Nat))) : By w (some ⟨d, 0, none⟩) n f := fun k hk => ⟨_, rfl, by rw [add_mid, Nat.zero_add]; exact h.cell hk⟩
theorem by_lit (w : World) : By (w.alloc (.cells #[.int .u8 0, .int .u8 0, .int .u8 3] 5)) (some ⟨w.heap.size, 0, none⟩) 3 (fun x => gA (3 + x)) := fun k hk => ⟨_, rfl, by
  have B := Bo.new w 5 #[.int .u8 0, .int .u8 0, .int .u8 3]
  rw [add_mid, Nat.zero_add]
  match k, hk with
  | 0, _ => exact B.cell 0 rfl
  | 1, _ => exact B.cell 1 rfl
  | 2, _ => exact B.cell 2 rfl⟩
theorem aliveC (w : World) : Calls Try.prog 10 #[] w fun e w' => e = .returned (.bool true) ∧ w.grownBy w' none := by
  go_enter Try.func10, Try.ntmps10
  go_wp2_with (first | (go_at_call 9; refine (a_new w).mono ?_; rintro e V1 ⟨b, s, q, rfl, h1, lb, ls, lq, g1⟩)  | ((fail_if_success (guard_hyp g2)); go_at_call 19; refine (a_set V1 h1).mono ?_; rintro e V2 ⟨rfl, h2, g2⟩; have G2 := gb_past g1 g2 lq)  | (go_at_call 16; refine (a_get V2 h2).mono ?_; rintro e V3 ⟨rfl, g3⟩; have h3 := h2.kept g3)  | (go_at_call 18; refine (a_box V3 h3).mono ?_; rintro e V4 ⟨rfl, g4⟩; have h4 := h3.kept g4; have gA4 : V4.grownBy (V4.alloc (.cells #[.int .i64 2, .int .i64 1, .int .i64 1, .int .i64 1] 58)) none := World.grownBy_alloc _ _ none; have hA4 := h4.kept gA4)  | (go_at_call 17; refine (a_line (V4.alloc (.cells #[.int .i64 2, .int .i64 1, .int .i64 1, .int .i64 1] 58)) hA4).mono ?_; rintro e V5 ⟨d, rfl, r5, ld, g5⟩; have h5 := hA4.kept g5; have BR := (Bo.new V4 58 #[.int .i64 2, .int .i64 1, .int .i64 1, .int .i64 1]).kept g5 (by simp); have x0 := BR.cell 0 (v := .int .i64 2) rfl; have x1 := BR.cell 1 (v := .int .i64 1) rfl; have x2 := BR.cell 2 (v := .int .i64 1) rfl; have x3 := BR.cell 3 (v := .int .i64 1) rfl)  | (go_at_call 28; refine (a_pop V5 h5).mono ?_; rintro e V6 ⟨rfl, g6⟩; have h6 := h5.kept g6; have BS := BR.kept g6 (by simp); have y0 := BS.cell 0 (v := .int .i64 2) rfl; have y1 := BS.cell 1 (v := .int .i64 1) rfl; have y2 := BS.cell 2 (v := .int .i64 1) rfl; have y3 := BS.cell 3 (v := .int .i64 1) rfl; have r6 := rowIs_kept r5 g6 (by simp); have gB7 : V6.grownBy (V6.alloc (.cells #[.int .u8 0, .int .u8 0, .int .u8 3] 5)) none := World.grownBy_alloc _ _ none; have ba := by_row (rowIs_kept r6 gB7 (by simp)); have bb := by_lit V6; have h7 := h6.kept gB7)  | (go_at_call 23; refine (sameY (some ⟨d, 0, none⟩) (some ⟨V6.heap.size, 0, none⟩) 3 3 3 (fun x => gA (3 + x)) gA_lt (V6.alloc (.cells #[.int .u8 0, .int .u8 0, .int .u8 3] 5)) ba bb).mono ?_; rintro e V8 ⟨rfl, hV8⟩; subst hV8)  | (guard_hyp g2; go_at_call 19; refine (a_setS (V6.alloc (.cells #[.int .u8 0, .int .u8 0, .int .u8 3] 5)) h7).mono ?_; rintro e V9 ⟨rfl, g9⟩))
  go_ret
  exact ⟨rfl, gb_trans G2 (gb_trans g3 (gb_trans g4 (gb_trans gA4 (gb_trans g5 (gb_trans g6 (gb_trans gB7 g9))))))⟩
end Go.Proofs.Ytbiilklihieomaa
