/- What the document's takes answers: no number, or a number alone. -/
import Derived.Test.YteegbhnfkcbnoaaDoorR2
namespace Go.Proofs.YteegbhnfkcbnoaaDoor
open Go.RowKit
set_option linter.unusedVariables false
set_option linter.unusedSimpArgs false
set_option maxRecDepth 100000

theorem under6 : ∃ fs, Tryd.prog.underlying 60 = some (.struct fs) := by
  first | exact ⟨_, Tryd.underlying60⟩ | exact ⟨_, by kernel_rfl⟩
theorem info6 : (Tryd.prog.info? 60).map (·.size) = some 6 := by kernel_rfl
theorem bo6 {w : World} {g : Nat} {t : TypeId} {a0 a1 a2 a3 a4 a5 v0 v1 v2 v3 v4 v5 : Value} (h : Bo w g t #[a0, a1, a2, a3, a4, a5]) : Bo ((((((w.setCell ⟨g, 0, none⟩ v0).setCell ⟨g, 1, none⟩ v1).setCell ⟨g, 2, none⟩ v2).setCell ⟨g, 3, none⟩ v3).setCell ⟨g, 4, none⟩ v4).setCell ⟨g, 5, none⟩ v5) g t #[v0, v1, v2, v3, v4, v5] := by
  have h9 := (((((h.set 0 v0).set 1 v1).set 2 v2).set 3 v3).set 4 v4).set 5 v5
  simpa using h9
theorem gb6 {w w' : World} {r : Option Nat} {c : Nat} {v0 v1 v2 v3 v4 v5 : Value} (h : w.grownBy w' r) (hc : w.heap.size ≤ c) : w.grownBy ((((((w'.setCell ⟨c, 0, none⟩ v0).setCell ⟨c, 1, none⟩ v1).setCell ⟨c, 2, none⟩ v2).setCell ⟨c, 3, none⟩ v3).setCell ⟨c, 4, none⟩ v4).setCell ⟨c, 5, none⟩ v5) r :=
  gb_new (gb_new (gb_new (gb_new (gb_new (gb_new h hc v0) hc v1) hc v2) hc v3) hc v4) hc v5

set_option maxHeartbeats 1000000 in
theorem rtakes_no (s : ByteArray) (i : Nat) (hs : s.size ≤ maxLen) (hi : i ≤ s.size) (w : World) (b : Bool) (hn : (((Tp.dg s i : Nat) : Int) == (i : Int)) = true) : Calls Tryd.prog 46 #[.string s, .int .i64 i, .bool b] w fun e w' => e = .returned (.tuple #[.agg #[.int .i64 i, .int .i64 (Tp.dg s i : Nat), .int .i64 (-1), .int .i64 (-1), .int .i64 0, .int .i64 0], .int .i64 i, .int .i64 41]) ∧ w.grownBy w' none := by
  obtain ⟨fs, hfs⟩ := under6
  obtain ⟨W1, hW1, sz1, g1, B1⟩ := boxn w #[.int .i64 0, .int .i64 0, .int .i64 0, .int .i64 0, .int .i64 0, .int .i64 0] 60
  obtain ⟨W2, hW2, sz2, g2, B2⟩ := boxn W1 #[.int .i64 i, .int .i64 0, .int .i64 (-1), .int .i64 (-1), .int .i64 0, .int .i64 0] 60
  have BR2 := B1.kept g2 (by simp)
  have G2 := gb_trans g1 g2
  have HN : Hid (W1.heap.size ≠ w.heap.size) := by have := sz1.out; unfold Hid; omega
  have z0 := B2.same 0 (v := .int .i64 i) rfl
  have z1 := B2.same 1 (v := .int .i64 0) rfl
  have z2 := B2.same 2 (v := .int .i64 (-1)) rfl
  have z3 := B2.same 3 (v := .int .i64 (-1)) rfl
  have z4 := B2.same 4 (v := .int .i64 0) rfl
  have z5 := B2.same 5 (v := .int .i64 0) rfl
  have a0 := B2.cell 0 (v := .int .i64 i) rfl
  have a1 := B2.cell 1 (v := .int .i64 0) rfl
  have a2 := B2.cell 2 (v := .int .i64 (-1)) rfl
  have a3 := B2.cell 3 (v := .int .i64 (-1)) rfl
  have a4 := B2.cell 4 (v := .int .i64 0) rfl
  have a5 := B2.cell 5 (v := .int .i64 0) rfl
  have b0 := B2.frozen 0
  have b1 := B2.frozen 1
  have b2 := B2.frozen 2
  have b3 := B2.frozen 3
  have b4 := B2.frozen 4
  have b5 := B2.frozen 5
  obtain ⟨W3, hW3⟩ : ∃ W3, W2.setCell ⟨W1.heap.size, 1, none⟩ (.int .i64 (Tp.dg s i : Nat)) = W3 := ⟨_, rfl⟩
  have B3 : Bo W3 W1.heap.size 60 #[.int .i64 i, .int .i64 (Tp.dg s i : Nat), .int .i64 (-1), .int .i64 (-1), .int .i64 0, .int .i64 0] := by
    rw [← hW3]
    have h9 := B2.set 1 (.int .i64 (Tp.dg s i : Nat))
    simpa using h9
  have BR3 : Bo W3 w.heap.size 60 #[.int .i64 0, .int .i64 0, .int .i64 0, .int .i64 0, .int .i64 0, .int .i64 0] := by rw [← hW3]; exact BR2.set2 HN.out
  have G3 : w.grownBy W3 none := by rw [← hW3]; exact gb_new G2 g1.size _
  have c0 := B3.cell 0 (v := .int .i64 i) rfl
  have c1 := B3.cell 1 (v := .int .i64 (Tp.dg s i : Nat)) rfl
  have c2 := B3.cell 2 (v := .int .i64 (-1)) rfl
  have c3 := B3.cell 3 (v := .int .i64 (-1)) rfl
  have c4 := B3.cell 4 (v := .int .i64 0) rfl
  have c5 := B3.cell 5 (v := .int .i64 0) rfl
  have d0 := BR3.cell 0 (v := .int .i64 0) rfl
  have d1 := BR3.cell 1 (v := .int .i64 0) rfl
  have d2 := BR3.cell 2 (v := .int .i64 0) rfl
  have d3 := BR3.cell 3 (v := .int .i64 0) rfl
  have d4 := BR3.cell 4 (v := .int .i64 0) rfl
  have d5 := BR3.cell 5 (v := .int .i64 0) rfl
  have f0 := BR3.frozen 0
  have f1 := BR3.frozen 1
  have f2 := BR3.frozen 2
  have f3 := BR3.frozen 3
  have f4 := BR3.frozen 4
  have f5 := BR3.frozen 5
  have q0 := B3.frozen 0
  have q1 := B3.frozen 1
  have q2 := B3.frozen 2
  have q3 := B3.frozen 3
  have q4 := B3.frozen 4
  have q5 := B3.frozen 5
  go_enter Tryd.func46, Tryd.ntmps46
  go_wp2_with (first | (go_at_call 55; refine (rDigitsC s i hs hi _).mono ?_; rintro e w' ⟨rfl, hw'⟩; subst w'))
  refine ret_c3 (g := w.heap.size) (cs := #[.int .i64 i, .int .i64 (Tp.dg s i : Nat), .int .i64 (-1), .int .i64 (-1), .int .i64 0, .int .i64 0]) rfl hfs info6 rfl (bo6 BR3) rfl ⟨rfl, gb6 G3 (Nat.le_refl _)⟩

set_option maxHeartbeats 1000000 in
theorem rtakes_len (s : ByteArray) (i : Nat) (hs : s.size ≤ maxLen) (hi : i ≤ s.size) (w : World) (hn : (((Tp.dg s i : Nat) : Int) == (i : Int)) = false) : Calls Tryd.prog 46 #[.string s, .int .i64 i, .bool false] w fun e w' => e = .returned (.tuple #[.agg #[.int .i64 i, .int .i64 (Tp.dg s i : Nat), .int .i64 (-1), .int .i64 (-1), .int .i64 0, .int .i64 0], .int .i64 (Tp.dg s i : Nat), .int .i64 0]) ∧ w.grownBy w' none := by
  obtain ⟨fs, hfs⟩ := under6
  obtain ⟨W1, hW1, sz1, g1, B1⟩ := boxn w #[.int .i64 0, .int .i64 0, .int .i64 0, .int .i64 0, .int .i64 0, .int .i64 0] 60
  obtain ⟨W2, hW2, sz2, g2, B2⟩ := boxn W1 #[.int .i64 i, .int .i64 0, .int .i64 (-1), .int .i64 (-1), .int .i64 0, .int .i64 0] 60
  have BR2 := B1.kept g2 (by simp)
  have G2 := gb_trans g1 g2
  have HN : Hid (W1.heap.size ≠ w.heap.size) := by have := sz1.out; unfold Hid; omega
  have z0 := B2.same 0 (v := .int .i64 i) rfl
  have z1 := B2.same 1 (v := .int .i64 0) rfl
  have z2 := B2.same 2 (v := .int .i64 (-1)) rfl
  have z3 := B2.same 3 (v := .int .i64 (-1)) rfl
  have z4 := B2.same 4 (v := .int .i64 0) rfl
  have z5 := B2.same 5 (v := .int .i64 0) rfl
  have a0 := B2.cell 0 (v := .int .i64 i) rfl
  have a1 := B2.cell 1 (v := .int .i64 0) rfl
  have a2 := B2.cell 2 (v := .int .i64 (-1)) rfl
  have a3 := B2.cell 3 (v := .int .i64 (-1)) rfl
  have a4 := B2.cell 4 (v := .int .i64 0) rfl
  have a5 := B2.cell 5 (v := .int .i64 0) rfl
  have b0 := B2.frozen 0
  have b1 := B2.frozen 1
  have b2 := B2.frozen 2
  have b3 := B2.frozen 3
  have b4 := B2.frozen 4
  have b5 := B2.frozen 5
  obtain ⟨W3, hW3⟩ : ∃ W3, W2.setCell ⟨W1.heap.size, 1, none⟩ (.int .i64 (Tp.dg s i : Nat)) = W3 := ⟨_, rfl⟩
  have B3 : Bo W3 W1.heap.size 60 #[.int .i64 i, .int .i64 (Tp.dg s i : Nat), .int .i64 (-1), .int .i64 (-1), .int .i64 0, .int .i64 0] := by
    rw [← hW3]
    have h9 := B2.set 1 (.int .i64 (Tp.dg s i : Nat))
    simpa using h9
  have BR3 : Bo W3 w.heap.size 60 #[.int .i64 0, .int .i64 0, .int .i64 0, .int .i64 0, .int .i64 0, .int .i64 0] := by rw [← hW3]; exact BR2.set2 HN.out
  have G3 : w.grownBy W3 none := by rw [← hW3]; exact gb_new G2 g1.size _
  have c0 := B3.cell 0 (v := .int .i64 i) rfl
  have c1 := B3.cell 1 (v := .int .i64 (Tp.dg s i : Nat)) rfl
  have c2 := B3.cell 2 (v := .int .i64 (-1)) rfl
  have c3 := B3.cell 3 (v := .int .i64 (-1)) rfl
  have c4 := B3.cell 4 (v := .int .i64 0) rfl
  have c5 := B3.cell 5 (v := .int .i64 0) rfl
  have d0 := BR3.cell 0 (v := .int .i64 0) rfl
  have d1 := BR3.cell 1 (v := .int .i64 0) rfl
  have d2 := BR3.cell 2 (v := .int .i64 0) rfl
  have d3 := BR3.cell 3 (v := .int .i64 0) rfl
  have d4 := BR3.cell 4 (v := .int .i64 0) rfl
  have d5 := BR3.cell 5 (v := .int .i64 0) rfl
  have f0 := BR3.frozen 0
  have f1 := BR3.frozen 1
  have f2 := BR3.frozen 2
  have f3 := BR3.frozen 3
  have f4 := BR3.frozen 4
  have f5 := BR3.frozen 5
  have q0 := B3.frozen 0
  have q1 := B3.frozen 1
  have q2 := B3.frozen 2
  have q3 := B3.frozen 3
  have q4 := B3.frozen 4
  have q5 := B3.frozen 5
  go_enter Tryd.func46, Tryd.ntmps46
  go_wp2_with (first | (go_at_call 55; refine (rDigitsC s i hs hi _).mono ?_; rintro e w' ⟨rfl, hw'⟩; subst w'))
  refine ret_c3 (g := w.heap.size) (cs := #[.int .i64 i, .int .i64 (Tp.dg s i : Nat), .int .i64 (-1), .int .i64 (-1), .int .i64 0, .int .i64 0]) rfl hfs info6 rfl (bo6 BR3) rfl ⟨rfl, gb6 G3 (Nat.le_refl _)⟩
end Go.Proofs.YteegbhnfkcbnoaaDoor
