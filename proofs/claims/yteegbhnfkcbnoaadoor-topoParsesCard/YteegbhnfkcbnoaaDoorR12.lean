/- What the document's Parse answers: texts that are too long, or of no form, or a letter alone. -/
import Derived.Test.YteegbhnfkcbnoaaDoorR11
import Derived.Test.YteegbhnfkcbnoaaDoorT3
namespace Go.Proofs.YteegbhnfkcbnoaaDoor
open Go.RowKit
set_option linter.unusedVariables false
set_option linter.unusedSimpArgs false
set_option maxRecDepth 100000

theorem bo5z {w : World} {g : Nat} {t : TypeId} {a0 a1 a2 a3 a4 v0 v1 v2 v3 v4 : Value} (h : Bo w g t #[a0, a1, a2, a3, a4]) : Bo (((((w.setCell ⟨g, 0, none⟩ v0).setCell ⟨g, 1, none⟩ v1).setCell ⟨g, 2, none⟩ v2).setCell ⟨g, 3, none⟩ v3).setCell ⟨g, 4, none⟩ v4) g t #[v0, v1, v2, v3, v4] := by
  have h9 := ((((h.set 0 v0).set 1 v1).set 2 v2).set 3 v3).set 4 v4
  simpa using h9
theorem gb5z {w w' : World} {r : Option Nat} {c : Nat} {v0 v1 v2 v3 v4 : Value} (h : w.grownBy w' r) (hc : w.heap.size ≤ c) : w.grownBy (((((w'.setCell ⟨c, 0, none⟩ v0).setCell ⟨c, 1, none⟩ v1).setCell ⟨c, 2, none⟩ v2).setCell ⟨c, 3, none⟩ v3).setCell ⟨c, 4, none⟩ v4) r :=
  gb_new (gb_new (gb_new (gb_new (gb_new h hc v0) hc v1) hc v2) hc v3) hc v4

theorem parse_long (s : ByteArray) (hs : (1048576 : Int) < (s.size : Int)) (w : World) : Calls Tryd.prog 9 #[.string s] w fun e w' => e = .returned (.tuple #[.agg #[.int .u8 0, .int .i64 0, .int .i64 0, .int .u8 0, .int .i64 0], .int .i64 0, .int .i64 3]) ∧ w.grownBy w' none := by
  obtain ⟨fs, hfs⟩ := underT
  obtain ⟨W1, hW1, sz1, g1, B1⟩ := boxn w #[.int .u8 0, .int .i64 0, .int .i64 0, .int .u8 0, .int .i64 0] 23
  have z0 := B1.cell 0 (v := .int .u8 0) rfl
  have z1 := B1.cell 1 (v := .int .i64 0) rfl
  have z2 := B1.cell 2 (v := .int .i64 0) rfl
  have z3 := B1.cell 3 (v := .int .u8 0) rfl
  have z4 := B1.cell 4 (v := .int .i64 0) rfl
  have y0 := B1.frozen 0
  have y1 := B1.frozen 1
  have y2 := B1.frozen 2
  have y3 := B1.frozen 3
  have y4 := B1.frozen 4
  go_enter Tryd.func9, Tryd.ntmps9
  go_wp2
  refine ret_c3 (g := w.heap.size) (cs := #[.int .u8 0, .int .i64 0, .int .i64 0, .int .u8 0, .int .i64 0]) rfl hfs infoT rfl (bo5z B1) rfl ⟨rfl, gb5z g1 (Nat.le_refl _)⟩
theorem parse_bad (s : ByteArray) (hs : ¬ (1048576 : Int) < (s.size : Int)) (k a e : Nat) (he : ((e : Int) != 0) = true) (hf : ∀ w, Calls Tryd.prog 21 #[.string s] w fun x w' => x = .returned (.tuple #[.int .u8 (k : Nat), .slice none 0 0, .int .i64 (a : Nat), .int .i64 (e : Nat)]) ∧ w.grownBy w' none) (w : World) : Calls Tryd.prog 9 #[.string s] w fun x w' => x = .returned (.tuple #[.agg #[.int .u8 0, .int .i64 0, .int .i64 0, .int .u8 0, .int .i64 0], .int .i64 (a : Nat), .int .i64 (e : Nat)]) ∧ w.grownBy w' none := by
  obtain ⟨fs, hfs⟩ := underT
  obtain ⟨W1, hW1, sz1, g1, B1⟩ := boxn w #[.int .u8 0, .int .i64 0, .int .i64 0, .int .u8 0, .int .i64 0] 23
  have z0 := B1.cell 0 (v := .int .u8 0) rfl
  have z1 := B1.cell 1 (v := .int .i64 0) rfl
  have z2 := B1.cell 2 (v := .int .i64 0) rfl
  have z3 := B1.cell 3 (v := .int .u8 0) rfl
  have z4 := B1.cell 4 (v := .int .i64 0) rfl
  have y0 := B1.frozen 0
  have y1 := B1.frozen 1
  have y2 := B1.frozen 2
  have y3 := B1.frozen 3
  have y4 := B1.frozen 4
  go_enter Tryd.func9, Tryd.ntmps9
  go_wp2_with (first | (go_at_call 21; refine (hf _).mono ?_; rintro x w2 ⟨rfl, g2⟩; have B2 := B1.kept g2 (by simp); have u0 := B2.cell 0 (v := .int .u8 0) rfl; have u1 := B2.cell 1 (v := .int .i64 0) rfl; have u2 := B2.cell 2 (v := .int .i64 0) rfl; have u3 := B2.cell 3 (v := .int .u8 0) rfl; have u4 := B2.cell 4 (v := .int .i64 0) rfl; have v0 := B2.frozen 0; have v1 := B2.frozen 1; have v2 := B2.frozen 2; have v3 := B2.frozen 3; have v4 := B2.frozen 4))
  refine ret_c3 (g := w.heap.size) (cs := #[.int .u8 0, .int .i64 0, .int .i64 0, .int .u8 0, .int .i64 0]) rfl hfs infoT rfl (bo5z B2) rfl ⟨rfl, gb5z (gb_trans g1 g2) (Nat.le_refl _)⟩

theorem parse_none (s : ByteArray) (hs : ¬ (1048576 : Int) < (s.size : Int)) (k : Nat) (hf : ∀ w, Calls Tryd.prog 21 #[.string s] w fun x w' => x = .returned (.tuple #[.int .u8 (k : Nat), .slice none 0 0, .int .i64 0, .int .i64 0]) ∧ w.grownBy w' none) (w : World) : Calls Tryd.prog 9 #[.string s] w fun e w' => e = .returned (.tuple #[.agg #[.int .u8 (k : Nat), .int .i64 0, .int .i64 0, .int .u8 0, .int .i64 0], .int .i64 0, .int .i64 0]) ∧ w.grownBy w' none := by
  obtain ⟨fs, hfs⟩ := underT
  obtain ⟨W1, hW1, sz1, g1, B1⟩ := boxn w #[.int .u8 0, .int .i64 0, .int .i64 0, .int .u8 0, .int .i64 0] 23
  have z0 := B1.cell 0 (v := .int .u8 0) rfl
  have z1 := B1.cell 1 (v := .int .i64 0) rfl
  have z2 := B1.cell 2 (v := .int .i64 0) rfl
  have z3 := B1.cell 3 (v := .int .u8 0) rfl
  have z4 := B1.cell 4 (v := .int .i64 0) rfl
  have y0 := B1.frozen 0
  have y1 := B1.frozen 1
  have y2 := B1.frozen 2
  have y3 := B1.frozen 3
  have y4 := B1.frozen 4
  go_enter Tryd.func9, Tryd.ntmps9
  go_wp2_with (first | (go_at_call 21; refine (hf _).mono ?_; rintro x w2 ⟨rfl, g2⟩; have B2 := B1.kept g2 (by simp); obtain ⟨W3, hW3, sz3, g3, B3⟩ := boxn w2 #[.int .u8 (k : Nat), .int .i64 0, .int .i64 0, .int .u8 0, .int .i64 0] 23; have R3 := B2.kept g3 (by simp); have t0 := B3.cell 0 (v := .int .u8 (k : Nat)) rfl; have t1 := B3.cell 1 (v := .int .i64 0) rfl; have t2 := B3.cell 2 (v := .int .i64 0) rfl; have t3 := B3.cell 3 (v := .int .u8 0) rfl; have t4 := B3.cell 4 (v := .int .i64 0) rfl; have sm0 := Bo.same B3 0 (v := .int .u8 (k : Nat)) rfl; have sm1 := Bo.same B3 1 (v := .int .i64 0) rfl; have sm2 := Bo.same B3 2 (v := .int .i64 0) rfl; have sm3 := Bo.same B3 3 (v := .int .u8 0) rfl; have sm4 := Bo.same B3 4 (v := .int .i64 0) rfl; have tf0 := B3.frozen 0; have tf1 := B3.frozen 1; have tf2 := B3.frozen 2; have tf3 := B3.frozen 3; have tf4 := B3.frozen 4; have u0 := R3.cell 0 (v := .int .u8 0) rfl; have u1 := R3.cell 1 (v := .int .i64 0) rfl; have u2 := R3.cell 2 (v := .int .i64 0) rfl; have u3 := R3.cell 3 (v := .int .u8 0) rfl; have u4 := R3.cell 4 (v := .int .i64 0) rfl; have v0 := R3.frozen 0; have v1 := R3.frozen 1; have v2 := R3.frozen 2; have v3 := R3.frozen 3; have v4 := R3.frozen 4))
  refine ret_c3 (g := w.heap.size) (cs := #[.int .u8 (k : Nat), .int .i64 0, .int .i64 0, .int .u8 0, .int .i64 0]) rfl hfs infoT rfl (bo5z R3) rfl ⟨rfl, gb5z (gb_trans (gb_trans g1 g2) g3) (Nat.le_refl _)⟩
end Go.Proofs.YteegbhnfkcbnoaaDoor
