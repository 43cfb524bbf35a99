/- Bytes of package ring. -/
import Derived.Test.YtjndljjpbkfmiaaGreatDoorK5
namespace Go.Proofs.YtjndljjpbkfmiaaGreatDoor
open Go.RowKit
set_option linter.unusedVariables false
set_option linter.unusedSimpArgs false
set_option maxRecDepth 100000

theorem underF : ∃ fs, Tryz.prog.underlying 33 = some (.struct fs) := by
  first | exact ⟨_, Tryz.underlying33⟩ | exact ⟨_, by kernel_rfl⟩
theorem infoF : (Tryz.prog.info? 33).map (·.size) = some 3 := by kernel_rfl
theorem bo3 {w : World} {g : Nat} {t : TypeId} {x y z u v p : Value} (h : Bo w g t #[x, y, z]) : Bo (((w.setCell ⟨g, 0, none⟩ u).setCell ⟨g, 1, none⟩ v).setCell ⟨g, 2, none⟩ p) g t #[u, v, p] := by simpa using ((h.set 0 u).set 1 v).set 2 p
theorem gb3 {w w' : World} (h : w.grownBy w' none) {b : Nat} (hb : w.heap.size ≤ b) {u v p : Value} : w.grownBy (((w'.setCell ⟨b, 0, none⟩ u).setCell ⟨b, 1, none⟩ v).setCell ⟨b, 2, none⟩ p) none := gb_new (gb_new (gb_new h hb _) hb _) hb _
/-- The states of a row. -/
theorem statesC {M : World → Prop} {n0 b C R S : Nat} {g : Nat → Nat} (F : FdM M n0 b C R S g) (y : Nat) (hy : y < R) (w : World) (hM : M w) : Calls Tryz.prog 39 #[.pointer (some ⟨b, 0, none⟩), .int .i64 (y : Nat)] w fun e w' => ∃ d, e = .returned (.slice (some ⟨d, 0, none⟩) C C) ∧ w'.rowIs d 5 C (fun x => .int .u8 (g (y * C + x) : Nat)) ∧ w.heap.size ≤ d ∧ w.grownBy w' none := by
  have hl := F.line y hy w hM
  go_enter Tryz.func39, Tryz.ntmps39
  go_wp2_with (go_at_call 40; refine hl.mono ?_; rintro e V1 ⟨d, rfl, h1, h2, h3⟩)
  go_ret
  exact ⟨d, rfl, h1, h2, h3⟩
theorem bytes1C {M : World → Prop} {n0 b C R S : Nat} {g : Nat → Nat} (F : FdM M n0 b C R S g) (bf : Nat) (y : Nat) (hy : y < R) (w : World) (hM : M w) (hb : Bo w bf 28 #[.pointer (some ⟨b, 0, none⟩)]) : Calls Tryz.prog 38 #[.int .i64 (y : Nat), .pointer (some ⟨bf, 0, none⟩)] w fun e w' => ∃ d, e = .returned (.slice (some ⟨d, 0, none⟩) C C) ∧ w'.rowIs d 5 C (fun x => .int .u8 (g (y * C + x) : Nat)) ∧ w.heap.size ≤ d ∧ w.grownBy w' none := by
  have hs := statesC F y hy w hM
  have h0 := hb.cell 0 (v := .pointer (some ⟨b, 0, none⟩)) rfl
  go_enter Tryz.func38, Tryz.ntmps38
  go_wp2_with (go_at_call 39; refine hs.mono ?_; rintro e V1 ⟨d, rfl, h1, h2, h3⟩)
  go_ret
  exact ⟨d, rfl, h1, h2, h3⟩
set_option maxHeartbeats 1000000 in
theorem bytesX (k x y t z E : Int) (p : Option Addr) (w : World) (hE : (E == 0) = false) (hc : ∀ w', w.grownBy w' none → Calls Tryz.prog 36 #[.agg #[.int .u8 k, .int .i64 x, .int .i64 y, .int .u8 t, .int .i64 z], .pointer p] w' fun e w2 => e = .returned (.int .i64 E) ∧ w'.grownBy w2 none) :
    Calls Tryz.prog 11 #[.agg #[.int .u8 k, .int .i64 x, .int .i64 y, .int .u8 t, .int .i64 z], .pointer p] w fun e w' => e = .returned (.tuple #[.agg #[.int .i64 0, .int .i64 0, .slice none 0 0], .int .i64 E]) ∧ w.grownBy w' none := by
  obtain ⟨fs, hfs⟩ := underF
  obtain ⟨W1, hW1, sz1, g1, B1⟩ := boxn w #[.int .u8 k, .int .i64 x, .int .i64 y, .int .u8 t, .int .i64 z] 23
  obtain ⟨W2, hW2, sz2, g2, B2⟩ := boxn W1 #[.pointer p] 28
  obtain ⟨W3, hW3, sz3, g3, B3⟩ := boxn W2 #[.int .i64 0, .int .i64 0, .slice none 0 0] 33
  have G3 := gb_trans g1 (gb_trans g2 g3)
  have T3 := (B1.kept g2 (by simp)).kept g3 (by simp)
  have F3 := B2.kept g3 (by simp)
  have le3 : w.heap.size ≤ W2.heap.size := (gb_trans g1 g2).size
  have t3_0 := T3.cell 0 (v := .int .u8 k) rfl
  have t3_1 := T3.cell 1 (v := .int .i64 x) rfl
  have t3_2 := T3.cell 2 (v := .int .i64 y) rfl
  have t3_3 := T3.cell 3 (v := .int .u8 t) rfl
  have t3_4 := T3.cell 4 (v := .int .i64 z) rfl
  have f3 := F3.cell 0 (v := .pointer p) rfl
  have z3_0 := B3.frozen 0
  have z3_1 := B3.frozen 1
  have z3_2 := B3.frozen 2
  have hc3 := hc W3 G3
  go_enter Tryz.func11, Tryz.ntmps11
  go_wp2_with (go_at_call 36; refine hc3.mono ?_; rintro e V1 ⟨rfl, g4⟩; have B4 := B3.kept g4 (by simp); have z4_0 := B4.cell 0 (v := .int .i64 0) rfl; have z4_1 := B4.cell 1 (v := .int .i64 0) rfl; have z4_2 := B4.cell 2 (v := .slice none 0 0) rfl; have y4_0 := B4.frozen 0; have y4_1 := B4.frozen 1; have y4_2 := B4.frozen 2; have s4_0 := Bo.same B4 0 (v := .int .i64 0) rfl; have s4_1 := Bo.same B4 1 (v := .int .i64 0) rfl; have s4_2 := Bo.same B4 2 (v := .slice none 0 0) rfl)
  refine ret_c2 (g := W2.heap.size) (cs := #[.int .i64 0, .int .i64 0, .slice none 0 0]) rfl hfs infoF rfl B4 rfl ⟨rfl, gb_trans G3 g4⟩
set_option maxHeartbeats 1000000 in
/-- **The frame of a grid.** -/
theorem bytesY {k t z : Int} {C R : Nat} (G : Gr k t z C R) {M : World → Prop} {n0 b S : Nat} {g : Nat → Nat} (F : FdM M n0 b C R S g) (w : World) (hn0 : n0 ≤ w.heap.size) (hM : M w) :
    Calls Tryz.prog 11 #[.agg #[.int .u8 k, .int .i64 (C : Nat), .int .i64 (R : Nat), .int .u8 t, .int .i64 z], .pointer (some ⟨b, 0, none⟩)] w fun e w' => ∃ d, e = .returned (.tuple #[.agg #[.int .i64 (C : Nat), .int .i64 (R : Nat), .slice (some ⟨d, 0, none⟩) ((C + 2) * (R + 2)) ((C + 2) * (R + 2))], .int .i64 0]) ∧ w'.rowIs d 5 ((C + 2) * (R + 2)) (fun i => .int .u8 (frV k t z C R g i : Nat)) ∧ w.heap.size ≤ d ∧ w.grownBy w' none := by
  have hc0 := G.c0
  have hcg : cgE k C R t z C R = 0 := by
    have := G.r0
    unfold cgE
    rw [if_neg (by rw [G.chk]; simp), if_neg (by omega), if_neg (by simp)]
  obtain ⟨fs, hfs⟩ := underF
  obtain ⟨W1, hW1, sz1, g1, B1⟩ := boxn w #[.int .u8 k, .int .i64 (C : Nat), .int .i64 (R : Nat), .int .u8 t, .int .i64 z] 23
  obtain ⟨W2, hW2, sz2, g2, B2⟩ := boxn W1 #[.pointer (some ⟨b, 0, none⟩)] 28
  obtain ⟨W3, hW3, sz3, g3, B3⟩ := boxn W2 #[.int .i64 0, .int .i64 0, .slice none 0 0] 33
  have G3 := gb_trans g1 (gb_trans g2 g3)
  have T3 := (B1.kept g2 (by simp)).kept g3 (by simp)
  have F3 := B2.kept g3 (by simp)
  have le3 : w.heap.size ≤ W2.heap.size := (gb_trans g1 g2).size
  have t3_0 := T3.cell 0 (v := .int .u8 k) rfl
  have t3_1 := T3.cell 1 (v := .int .i64 (C : Nat)) rfl
  have t3_2 := T3.cell 2 (v := .int .i64 (R : Nat)) rfl
  have t3_3 := T3.cell 3 (v := .int .u8 t) rfl
  have t3_4 := T3.cell 4 (v := .int .i64 z) rfl
  have f3 := F3.cell 0 (v := .pointer (some ⟨b, 0, none⟩)) rfl
  have z3_0 := B3.frozen 0
  have z3_1 := B3.frozen 1
  have z3_2 := B3.frozen 2
  have M3 := F.grown hM G3
  have hc3 := checkGridC F hc0 k C R t z G.t0 W3 M3
  rw [hcg] at hc3
  go_enter Tryz.func11, Tryz.ntmps11
  go_wp2_with (first | (go_at_call 36; refine hc3.mono ?_; rintro e V1 ⟨rfl, g4⟩; have B4 := B3.kept g4 (by simp); have T4 := T3.kept g4 (by simp); have F4 := F3.kept g4 (by simp); have t4_0 := T4.cell 0 (v := .int .u8 k) rfl; have t4_1 := T4.cell 1 (v := .int .i64 (C : Nat)) rfl; have t4_2 := T4.cell 2 (v := .int .i64 (R : Nat)) rfl; have t4_3 := T4.cell 3 (v := .int .u8 t) rfl; have t4_4 := T4.cell 4 (v := .int .i64 z) rfl; have M4 := F.grown M3 g4; have hfr := framed_u G g W1.heap.size (fun X => M X ∧ Bo X W1.heap.size 28 #[.pointer (some ⟨b, 0, none⟩)]) V1 ⟨M4, F4⟩ (fun X Y q h hg hq => ⟨F.kept X Y q h.1 hg (fun i e => by have := hq i e; have := g4.size; have := G3.size; omega), h.2.kept hg (fun e => by have := hq _ e.symm; have := F4.lt; omega)⟩) (fun y hy X h => bytes1C F W1.heap.size y hy X h.1 h.2)) | (go_at_call 37; refine hfr.mono ?_; rintro e V2 ⟨d, rfl, r5, ld, g5⟩; have B5 := B4.kept g5 (by simp); have T5 := T4.kept g5 (by simp); have t5_0 := T5.cell 0 (v := .int .u8 k) rfl; have t5_1 := T5.cell 1 (v := .int .i64 (C : Nat)) rfl; have t5_2 := T5.cell 2 (v := .int .i64 (R : Nat)) rfl; have t5_3 := T5.cell 3 (v := .int .u8 t) rfl; have t5_4 := T5.cell 4 (v := .int .i64 z) rfl; have z5_0 := B5.cell 0 (v := .int .i64 0) rfl; have z5_1 := B5.cell 1 (v := .int .i64 0) rfl; have z5_2 := B5.cell 2 (v := .slice none 0 0) rfl; have y5_0 := B5.frozen 0; have y5_1 := B5.frozen 1; have y5_2 := B5.frozen 2))
  refine ret_c2 (g := W2.heap.size) (cs := #[.int .i64 (C : Nat), .int .i64 (R : Nat), .slice (some ⟨d, 0, none⟩) ((C + 2) * (R + 2)) ((C + 2) * (R + 2))]) rfl hfs infoF rfl (bo3 B5) rfl ⟨d, rfl, ?_, ?_, gb3 (gb_trans G3 (gb_trans g4 g5)) le3⟩
  · have hne : d ≠ W2.heap.size := by have := B4.lt; omega
    exact World.rowIs.setOther (World.rowIs.setOther (World.rowIs.setOther r5 hne _) hne _) hne _
  · have := G3.size; have := g4.size; omega
end Go.Proofs.YtjndljjpbkfmiaaGreatDoor
