/- alive. -/
import Derived.Test.YtjndljjpbkfmiabGreatDoorK7
import Derived.Test.YtjndljjpbkfmiabGreatDoorK9
import Derived.Test.YtjndljjpbkfmiabGreatDoorZ10
import Derived.Test.YtjndljjpbkfmiabGreatDoorZ15
namespace Go.Proofs.YtjndljjpbkfmiabGreatDoor
open Go.RowKit
set_option linter.unusedVariables false
set_option linter.unusedSimpArgs false
set_option maxRecDepth 100000

theorem Fb.keptX {w w' : World} {b s q C R S : Nat} {g : Nat → Nat} {r : Option Nat} (h : Fb w b s q C R S g) (hg : w.grownBy w' r) (hr : ∀ i, r = some i → b ≠ i ∧ s ≠ i ∧ q ≠ i) : Fb w' b s q C R S g := by
  refine ⟨h.fld.kept hg (fun e => (hr _ e.symm).1 rfl), ?_⟩
  obtain ⟨K, k1, k2, f0, k3, k4⟩ := h.st.cap
  exact ⟨K, k1.kept hg (fun e => (hr _ e.symm).2.1 rfl), k2, f0, rowIs_kept k3 hg (fun e => (hr _ e.symm).2.2 rfl), k4⟩
theorem Fb.qlt {w : World} {b s q C R S : Nat} {g : Nat → Nat} (h : Fb w b s q C R S g) : b < w.heap.size ∧ s < w.heap.size ∧ q < w.heap.size := by
  obtain ⟨K, k1, k2, f0, ⟨c, hc, _⟩, k4⟩ := h.st.cap
  exact ⟨h.fld.lt, k1.lt, (Array.getElem?_eq_some_iff.1 hc).1⟩
/-- A field of bytes, by what its calls answer. -/
theorem Fb.fdm {b s q C R S : Nat} {g : Nat → Nat} (hz : Sz C R S) (n0 : Nat) (hn : b < n0 ∧ s < n0 ∧ q < n0) : FdM (fun X => Fb X b s q C R S g) n0 b C R S g :=
  ⟨fun X Y r h hg hr => h.keptX hg (fun i e => by have := hr i e; omega), fun X h => fW b s q C R S g X h, fun X h => fH b s q C R S g X h, fun X h => fStates b s q C R S g X h, fun y hy X h => fLineY b s q C R S g hz y hy X h⟩
theorem By.congr {w : World} {sp : Option Addr} {n : Nat} {f f' : Nat → Nat} (h : By w sp n f) (e : ∀ k, k < n → f k = f' k) : By w sp n f' := fun k hk => by
  rw [← e k hk]; exact h k hk
/-- A list of bytes as a function. -/
def lsF (l : List Nat) (k : Nat) : Nat := l.getD k 0
theorem lsF_lt (l : List Nat) (h : l.all (fun x => decide (x < 256)) = true) (k : Nat) : lsF l k < 256 := by
  unfold lsF
  rw [List.getD_eq_getElem?_getD]
  cases hk : l[k]? with
  | none => simp
  | some x =>
    have := List.all_eq_true.1 h x (List.mem_of_getElem? hk)
    simpa using this
theorem by_list (w : World) (l : List Nat) : By (w.alloc (.cells ((l.map fun x => Value.int .u8 (x : Nat)).toArray) 5)) (some ⟨w.heap.size, 0, none⟩) l.length (lsF l) := fun k hk => ⟨_, rfl, by
  have B := Bo.new w 5 ((l.map fun x => Value.int .u8 (x : Nat)).toArray)
  rw [add_mid, Nat.zero_add]
  refine B.cell k ?_
  unfold lsF
  simp [hk]⟩
theorem rowIs_by {w : World} {d n : Nat} {f : Nat → Nat} (h : w.rowIs d 5 n (fun x => .int .u8 (f x : Nat))) : By w (some ⟨d, 0, none⟩) n f := fun k hk => ⟨_, rfl, by rw [add_mid, Nat.zero_add]; exact h.cell hk⟩
theorem sz225 : Sz 2 2 5 := ⟨by decide, by decide, by decide, by decide, by decide, by decide, by decide⟩
theorem grA : Gr 4 0 0 2 2 := ⟨by decide, by decide, by decide, by decide⟩
/-- The cells of the example. -/
def gA1 (j : Nat) : Nat := if 0 * 2 ≤ j ∧ j < 0 * 2 + 2 then lsF [1, 2] (j - 0 * 2) else 0
def gA2 (j : Nat) : Nat := if 1 * 2 ≤ j ∧ j < 1 * 2 + 2 then lsF [3, 4] (j - 1 * 2) else gA1 j
theorem frA : ∀ i, i < 16 → frV 4 0 0 2 2 gA2 i = lsF [1, 4, 3, 2, 4, 1, 2, 3, 2, 3, 4, 1, 3, 2, 1, 4] i := by decide
theorem arA : ∀ i, i < 4 → lsF [1, 4, 3, 2, 4, 1, 2, 3, 2, 3, 4, 1, 3, 2, 1, 4] (ixN 2 (0 + (ofP 2 i).1) (0 + (ofP 2 i).2)) = lsF [4, 2, 3, 4] i := by decide
theorem a_new (w : World) : Calls Tryz.prog 11 #[.int .i64 2, .int .i64 2, .int .i64 5, .bool false] w fun e w' => ∃ b s q, e = .returned (.tuple #[.pointer (some ⟨b, 0, none⟩), .int .i64 0]) ∧ Fb w' b s q 2 2 5 (fun _ => 0) ∧ w.heap.size ≤ b ∧ w.heap.size ≤ s ∧ w.heap.size ≤ q ∧ w.grownBy w' none := newY 2 2 5 sz225 w
theorem a_lay0 {b s q a c : Nat} (w : World) (h : Fb w b s q 2 2 5 (fun _ => 0)) (hb : By w (some ⟨a, 0, none⟩) 2 (lsF [1, 2])) : Calls Tryz.prog 12 #[.pointer (some ⟨b, 0, none⟩), .int .i64 0, .slice (some ⟨a, 0, none⟩) 2 c] w fun e w' => e = .returned (.int .i64 0) ∧ Fb w' b s q 2 2 5 gA1 ∧ w.grownBy w' (some q) :=
  fLayY b s q 2 2 5 _ sz225 0 (by decide) _ c (lsF [1, 2]) (lsF_lt _ (by decide)) (fun k hk => by match k, hk with | 0, _ => decide | 1, _ => decide) w h hb
theorem a_lay1 {b s q a c : Nat} (w : World) (h : Fb w b s q 2 2 5 gA1) (hb : By w (some ⟨a, 0, none⟩) 2 (lsF [3, 4])) : Calls Tryz.prog 12 #[.pointer (some ⟨b, 0, none⟩), .int .i64 1, .slice (some ⟨a, 0, none⟩) 2 c] w fun e w' => e = .returned (.int .i64 0) ∧ Fb w' b s q 2 2 5 gA2 ∧ w.grownBy w' (some q) :=
  fLayY b s q 2 2 5 _ sz225 1 (by decide) _ c (lsF [3, 4]) (lsF_lt _ (by decide)) (fun k hk => by match k, hk with | 0, _ => decide | 1, _ => decide) w h hb
theorem a_bytes {b s q : Nat} (w : World) (h : Fb w b s q 2 2 5 gA2) : Calls Tryz.prog 7 #[.agg #[.int .u8 4, .int .i64 2, .int .i64 2, .int .u8 0, .int .i64 0], .pointer (some ⟨b, 0, none⟩)] w fun e w' => ∃ d, e = .returned (.tuple #[.agg #[.int .i64 2, .int .i64 2, .slice (some ⟨d, 0, none⟩) 16 16], .int .i64 0]) ∧ By w' (some ⟨d, 0, none⟩) 16 (lsF [1, 4, 3, 2, 4, 1, 2, 3, 2, 3, 4, 1, 3, 2, 1, 4]) ∧ w.heap.size ≤ d ∧ w.grownBy w' none := by
  refine (bytesY grA (Fb.fdm (g := gA2) sz225 w.heap.size h.qlt) w (Nat.le_refl _) h).mono ?_
  rintro e w' ⟨d, rfl, h1, h2, h3⟩
  exact ⟨d, rfl, (rowIs_by h1).congr frA, h2, h3⟩
theorem a_rows {b s q : Nat} (w : World) (h : Fb w b s q 2 2 5 gA2) : Calls Tryz.prog 8 #[.agg #[.int .u8 4, .int .i64 2, .int .i64 2, .int .u8 0, .int .i64 0], .pointer (some ⟨b, 0, none⟩)] w fun e w' => e = .returned (.tuple #[.slice none 0 0, .int .i64 132]) ∧ w.grownBy w' none := rowsP grA (Fb.fdm (g := gA2) sz225 w.heap.size h.qlt) (by decide) w h
theorem a_around {d : Nat} (w : World) (hT : Tab w) (h : By w (some ⟨d, 0, none⟩) 16 (lsF [1, 4, 3, 2, 4, 1, 2, 3, 2, 3, 4, 1, 3, 2, 1, 4])) : Calls Tryz.prog 13 #[.agg #[.int .i64 2, .int .i64 2, .slice (some ⟨d, 0, none⟩) 16 16], .int .u8 2, .int .i64 0, .int .i64 0] w fun e w' => ∃ l, e = .returned (.tuple #[.slice (some ⟨l, 0, none⟩) 4 4, .int .i64 0]) ∧ By w' (some ⟨l, 0, none⟩) 4 (lsF [4, 2, 3, 4]) ∧ w.heap.size ≤ l ∧ w.grownBy w' none := by
  refine (aroundY (C := 2) (R := 2) (by decide) (by decide) (by decide) (some ⟨d, 0, none⟩) 16 (lsF [1, 4, 3, 2, 4, 1, 2, 3, 2, 3, 4, 1, 3, 2, 1, 4]) 2 0 0 (by decide) (by decide) (by decide) (by decide) w h hT).mono ?_
  rintro e w' ⟨l, rfl, h1, h2, h3⟩
  exact ⟨l, rfl, (rowIs_by h1).congr arA, h2, h3⟩
set_option maxHeartbeats 1000000 in
theorem aliveC (w : World) (hT : Tab w) : Calls Tryz.prog 4 #[] w fun e w' => e = .returned (.bool true) ∧ w.grownBy w' none := by
  go_enter Tryz.func4, Tryz.ntmps4
  go_wp2_with (first | (go_at_call 11; refine (a_new w).mono ?_; rintro e V1 ⟨b, s, q, rfl, h1, lb, ls, lq, g1⟩; have c1 : By (V1.alloc (.cells #[.int .u8 1, .int .u8 2] 5)) (some ⟨V1.heap.size, 0, none⟩) 2 (lsF [1, 2]) := by_list V1 [1, 2]; have k1 : V1.grownBy (V1.alloc (.cells #[.int .u8 1, .int .u8 2] 5)) none := World.grownBy_alloc _ _ none; have h2 := h1.kept k1) | ((fail_if_success (guard_hyp g2)); go_at_call 12; refine (a_lay0 _ h2 c1).mono ?_; rintro e V2 ⟨rfl, h3, g2⟩; have c2 : By (V2.alloc (.cells #[.int .u8 3, .int .u8 4] 5)) (some ⟨V2.heap.size, 0, none⟩) 2 (lsF [3, 4]) := by_list V2 [3, 4]; have k2 : V2.grownBy (V2.alloc (.cells #[.int .u8 3, .int .u8 4] 5)) none := World.grownBy_alloc _ _ none; have h4 := h3.kept k2) | (guard_hyp g2; go_at_call 12; refine (a_lay1 _ h4 c2).mono ?_; rintro e V3 ⟨rfl, h5, g3⟩; have G3 := gb_past (gb_trans (gb_past (gb_trans g1 k1) g2 lq) k2) g3 lq; have T3 := hT.kept G3) | (go_at_call 7; refine (a_bytes V3 h5).mono ?_; rintro e V4 ⟨d, rfl, h6, ld, g4⟩; obtain ⟨V5, hV5, sz5, g5, B5⟩ := boxn V4 #[.int .i64 2, .int .i64 2, .slice (some ⟨d, 0, none⟩) 16 16] 33; have h7 := h6.kept g5 (by simp); have h8 := h5.kept (gb_trans g4 g5); have T5 := T3.kept (gb_trans g4 g5); have b5_0 := B5.cell 0 (v := .int .i64 2) rfl; have b5_1 := B5.cell 1 (v := .int .i64 2) rfl; have b5_2 := B5.cell 2 (v := .slice (some ⟨d, 0, none⟩) 16 16) rfl) | (go_at_call 13; refine (a_around V5 T5 h7).mono ?_; rintro e V6 ⟨l, rfl, h9, ll, g6⟩; have h10 := h8.kept g6) | (go_at_call 8; refine (a_rows V6 h10).mono ?_; rintro e V7 ⟨rfl, g7⟩; have g67 := gb_trans g6 g7; have B7 := B5.kept g67 (by simp); have b7_0 := B7.cell 0 (v := .int .i64 2) rfl; have b7_1 := B7.cell 1 (v := .int .i64 2) rfl; have b7_2 := B7.cell 2 (v := .slice (some ⟨d, 0, none⟩) 16 16) rfl; have h11 := h7.kept g67 (by simp); have h12 := h9.kept g7 (by simp); have cs1 := by_str 16 h11 (lsF_lt _ (by decide)); obtain ⟨V8, hV8⟩ : ∃ V8, V7.alloc (.cells #[.int .u8 1, .int .u8 4, .int .u8 3, .int .u8 2, .int .u8 4, .int .u8 1, .int .u8 2, .int .u8 3, .int .u8 2, .int .u8 3, .int .u8 4, .int .u8 1, .int .u8 3, .int .u8 2, .int .u8 1, .int .u8 4] 5) = V8 := ⟨_, rfl⟩; have c3 : By V8 (some ⟨V7.heap.size, 0, none⟩) 16 (lsF [1, 4, 3, 2, 4, 1, 2, 3, 2, 3, 4, 1, 3, 2, 1, 4]) := hV8 ▸ by_list V7 [1, 4, 3, 2, 4, 1, 2, 3, 2, 3, 4, 1, 3, 2, 1, 4]; have k3 : V7.grownBy V8 none := hV8 ▸ World.grownBy_alloc _ _ none; have cs2 := by_str 16 c3 (lsF_lt _ (by decide)); have h13 := h12.kept k3 (by simp); have cs3 := by_str 4 h13 (lsF_lt _ (by decide)); obtain ⟨V9, hV9⟩ : ∃ V9, V8.alloc (.cells #[.int .u8 4, .int .u8 2, .int .u8 3, .int .u8 4] 5) = V9 := ⟨_, rfl⟩; have c4 : By V9 (some ⟨V8.heap.size, 0, none⟩) 4 (lsF [4, 2, 3, 4]) := hV9 ▸ by_list V8 [4, 2, 3, 4]; have k4 : V8.grownBy V9 none := hV9 ▸ World.grownBy_alloc _ _ none; have cs4 := by_str 4 c4 (lsF_lt _ (by decide))))
  go_ret
  exact ⟨rfl, gb_trans G3 (gb_trans g4 (gb_trans g5 (gb_trans g67 (gb_trans k3 k4))))⟩
end Go.Proofs.YtjndljjpbkfmiabGreatDoor
