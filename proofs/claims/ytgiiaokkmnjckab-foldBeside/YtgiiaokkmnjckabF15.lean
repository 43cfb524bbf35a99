/- What Glue of package fold answers, of a grid both of whose edges are glued. -/
import Derived.Deep.AppendLies
import Derived.LoopN
import Derived.Test.YtgiiaokkmnjckabF12
namespace Go.Proofs.Ytgiiaokkmnjckab
open Go.RowKit
open Fl
set_option linter.unusedVariables false
set_option linter.unusedSimpArgs false
set_option maxRecDepth 100000

theorem infoIz : (Try.prog.info? 48).map (fun i => (i.zero, i.size, i.bytes)) = some (some (.agg #[.complex .f64 0 0, .bool false, .complex .f64 0 0]), 3, 40) := by kernel_rfl
theorem underIS : Try.prog.underlying 41 = some (.slice 48) := by kernel_rfl
theorem infoIp {P : Program} {t : TypeId} {z : Value} {a b : Nat} (h : (P.info? t).map (fun i => (i.zero, i.size, i.bytes)) = some (some z, a, b)) : ∃ i, P.info? t = some i ∧ i.zero = some z ∧ i.size = a ∧ i.bytes = b := by
  obtain ⟨i, h1, h2⟩ := Option.map_eq_some_iff.1 h
  simp only [Prod.mk.injEq] at h2
  exact ⟨i, h1, h2⟩
theorem newI (w : World) (a b c : Value) (t : TypeId) : ∀ j u, [a, b, c][j]? = some u → (w.alloc (.cells #[a, b, c] t)).cell? ((⟨w.heap.size, 0, none⟩ : Addr).add j) = some u :=
  World.news_of_block (cs := #[a, b, c]) (heap_alloc_new w _)
theorem onesI (a b c d : Nat) (f : Bool) : ∀ u ∈ [Value.complex .f64 a b, .bool f, .complex .f64 c d], u.oneCell' = true := by
  intro u hu
  simp at hu
  rcases hu with rfl | rfl | rfl <;> rfl
theorem leI1 : 0 + 1 ≤ maxLen := by decide
theorem leI2 : 1 + 1 ≤ maxLen := by decide
theorem byI1 : (0 + 1) * 40 ≤ 140737488355328 := by decide
theorem byI2 : (1 + 1) * 40 ≤ 140737488355328 := by decide
theorem ixE0 (a b c d e f g h : Value) (w : World) : (Instr.index 76 (.agg #[a, b, c, d, e, f, g, h]) (.int .i64 0)).run Try.prog w = .ok (.agg #[a, b, c, d]) w := by kernel_rfl
theorem ixE1 (a b c d e f g h : Value) (w : World) : (Instr.index 76 (.agg #[a, b, c, d, e, f, g, h]) (.int .i64 1)).run Try.prog w = .ok (.agg #[e, f, g, h]) w := by kernel_rfl
theorem gb_rowI {a b c : World} {r : Option Nat} (h : a.grownBy b none) (k : b.grownBy c r) (hr : ∀ i, r = some i → a.heap.size ≤ i) : a.grownBy c none :=
  ⟨k.os.trans h.os, k.tape.trans h.tape, k.output.trans h.output, Nat.le_trans h.size k.size, fun i hi hne => (k.block i (Nat.lt_of_lt_of_le hi h.size) (fun e => by have := hr i e.symm; omega)).trans (h.block i hi hne)⟩

set_option maxHeartbeats 2000000 in
theorem glue2 (k x y t z : Int) (ht : 0 ≤ t) (h : Tp.chk k x y t z = 0) (p1 x1 y1 p2 x2 y2 : Int) (he : ∀ w, Calls Try.prog 33 #[.agg #[.int .u8 k, .int .i64 x, .int .i64 y, .int .u8 t, .int .i64 z, .int .i64 (To.fi x), .int .i64 (To.fi y), .int .i64 x, .int .i64 y]] w fun e w' => e = .returned (.agg #[.bool true, .int .i64 p1, .int .i64 x1, .int .i64 y1, .bool true, .int .i64 p2, .int .i64 x2, .int .i64 y2]) ∧ w.grownBy w' none) (M1 M2 : Nat → Nat → Bool → Nat → Nat → Prop) (hm1 : ∀ w, Calls Try.prog 34 #[.agg #[.int .u8 k, .int .i64 x, .int .i64 y, .int .u8 t, .int .i64 z, .int .i64 (To.fi x), .int .i64 (To.fi y), .int .i64 x, .int .i64 y], .agg #[.bool true, .int .i64 p1, .int .i64 x1, .int .i64 y1]] w fun e w' => ∃ a b f c d, e = .returned (.agg (mv a b f c d)) ∧ M1 a b f c d ∧ w.grownBy w' none) (hm2 : ∀ w, Calls Try.prog 34 #[.agg #[.int .u8 k, .int .i64 x, .int .i64 y, .int .u8 t, .int .i64 z, .int .i64 (To.fi x), .int .i64 (To.fi y), .int .i64 x, .int .i64 y], .agg #[.bool true, .int .i64 p2, .int .i64 x2, .int .i64 y2]] w fun e w' => ∃ a b f c d, e = .returned (.agg (mv a b f c d)) ∧ M2 a b f c d ∧ w.grownBy w' none) (w : World) :
    Calls Try.prog 15 #[.agg #[.int .u8 k, .int .i64 x, .int .i64 y, .int .u8 t, .int .i64 z]] w fun e w' => ∃ g cp a1 b1 f1 c1 d1 a2 b2 f2 c2 d2, e = .returned (.tuple #[.slice (some ⟨g, 0, none⟩) 2 cp, .int .i64 0]) ∧ w'.ownsRow w.heap.size 48 3 (.slice (some ⟨g, 0, none⟩) 2 cp) 2 ([.complex .f64 a1 b1, .bool f1, .complex .f64 c1 d1] ++ [.complex .f64 a2 b2, .bool f2, .complex .f64 c2 d2]) ∧ M1 a1 b1 f1 c1 d1 ∧ M2 a2 b2 f2 c2 d2 ∧ w.grownBy w' none := by
  have hg := gridYes k x y t z ht h
  clear h
  obtain ⟨i0, hi⟩ := infoIp infoIz
  have HI : Hid (Try.prog.info? 48 = some i0 ∧ i0.zero = some (.agg #[.complex .f64 0 0, .bool false, .complex .f64 0 0]) ∧ i0.size = 3 ∧ i0.bytes = 40) := hi
  clear hi
  have i0' := ixE0
  have i1' := ixE1
  have st := stC
  obtain ⟨W1, hW1, sz1, g1, B1⟩ := boxn w #[.int .u8 k, .int .i64 x, .int .i64 y, .int .u8 t, .int .i64 z] 23
  have b1_1_0 := B1.cell 0 (v := .int .u8 k) rfl
  have b1_1_1 := B1.cell 1 (v := .int .i64 x) rfl
  have b1_1_2 := B1.cell 2 (v := .int .i64 y) rfl
  have b1_1_3 := B1.cell 3 (v := .int .u8 t) rfl
  have b1_1_4 := B1.cell 4 (v := .int .i64 z) rfl
  go_enter Try.func15, Try.ntmps15
  go_wp2_with (first | (go_at_call 32; (fail_if_success (guard_hyp g2)); refine (hg _).mono ?_; rintro e w2 ⟨rfl, g2⟩; have G2 := gb_trans g1 g2; have B1x := B1.kept g2 (by simp); obtain ⟨W3, hW3, sz3, g3, B3⟩ := boxn w2 #[.int .u8 k, .int .i64 x, .int .i64 y, .int .u8 t, .int .i64 z, .int .i64 (To.fi x), .int .i64 (To.fi y), .int .i64 x, .int .i64 y] 63; have G3 := gb_trans G2 g3; have B1xx := B1x.kept g3 (by simp); clear b1_1_0 b1_1_1 b1_1_2 b1_1_3 b1_1_4; have b1_3_0 := B1xx.cell 0 (v := .int .u8 k) rfl; have b1_3_1 := B1xx.cell 1 (v := .int .i64 x) rfl; have b1_3_2 := B1xx.cell 2 (v := .int .i64 y) rfl; have b1_3_3 := B1xx.cell 3 (v := .int .u8 t) rfl; have b1_3_4 := B1xx.cell 4 (v := .int .i64 z) rfl; have b3_3_0 := B3.cell 0 (v := .int .u8 k) rfl; have b3_3_1 := B3.cell 1 (v := .int .i64 x) rfl; have b3_3_2 := B3.cell 2 (v := .int .i64 y) rfl; have b3_3_3 := B3.cell 3 (v := .int .u8 t) rfl; have b3_3_4 := B3.cell 4 (v := .int .i64 z) rfl; have b3_3_5 := B3.cell 5 (v := .int .i64 (To.fi x)) rfl; have b3_3_6 := B3.cell 6 (v := .int .i64 (To.fi y)) rfl; have b3_3_7 := B3.cell 7 (v := .int .i64 x) rfl; have b3_3_8 := B3.cell 8 (v := .int .i64 y) rfl) | (go_at_call 33; (fail_if_success (guard_hyp g4)); refine (he _).mono ?_; rintro e w4 ⟨rfl, g4⟩; have G4 := gb_trans G3 g4; have B1xxx := B1xx.kept g4 (by simp); have B3x := B3.kept g4 (by simp); clear b1_3_0 b1_3_1 b1_3_2 b1_3_3 b1_3_4 b3_3_0 b3_3_1 b3_3_2 b3_3_3 b3_3_4 b3_3_5 b3_3_6 b3_3_7 b3_3_8; have b1_4_0 := B1xxx.cell 0 (v := .int .u8 k) rfl; have b1_4_1 := B1xxx.cell 1 (v := .int .i64 x) rfl; have b1_4_2 := B1xxx.cell 2 (v := .int .i64 y) rfl; have b1_4_3 := B1xxx.cell 3 (v := .int .u8 t) rfl; have b1_4_4 := B1xxx.cell 4 (v := .int .i64 z) rfl; have b3_4_0 := B3x.cell 0 (v := .int .u8 k) rfl; have b3_4_1 := B3x.cell 1 (v := .int .i64 x) rfl; have b3_4_2 := B3x.cell 2 (v := .int .i64 y) rfl; have b3_4_3 := B3x.cell 3 (v := .int .u8 t) rfl; have b3_4_4 := B3x.cell 4 (v := .int .i64 z) rfl; have b3_4_5 := B3x.cell 5 (v := .int .i64 (To.fi x)) rfl; have b3_4_6 := B3x.cell 6 (v := .int .i64 (To.fi y)) rfl; have b3_4_7 := B3x.cell 7 (v := .int .i64 x) rfl; have b3_4_8 := B3x.cell 8 (v := .int .i64 y) rfl))
  obtain ⟨W5, hW5, sz5, g5, B5⟩ := boxn w4 #[.bool true, .int .i64 p1, .int .i64 x1, .int .i64 y1] 75
  have G5 := gb_trans G4 g5
  have K5 := B3x.kept g5 (by simp)
  have e5_0 := B5.cell 0 (v := .bool true) rfl
  have e5_1 := B5.cell 1 (v := .int .i64 p1) rfl
  have e5_2 := B5.cell 2 (v := .int .i64 x1) rfl
  have e5_3 := B5.cell 3 (v := .int .i64 y1) rfl
  have k5_0 := K5.cell 0 (v := .int .u8 k) rfl
  have k5_1 := K5.cell 1 (v := .int .i64 x) rfl
  have k5_2 := K5.cell 2 (v := .int .i64 y) rfl
  have k5_3 := K5.cell 3 (v := .int .u8 t) rfl
  have k5_4 := K5.cell 4 (v := .int .i64 z) rfl
  have k5_5 := K5.cell 5 (v := .int .i64 (To.fi x)) rfl
  have k5_6 := K5.cell 6 (v := .int .i64 (To.fi y)) rfl
  have k5_7 := K5.cell 7 (v := .int .i64 x) rfl
  have k5_8 := K5.cell 8 (v := .int .i64 y) rfl
  refine wp_loop_rounds 4 ?_
  rw [rounds_succ]
  go_wp2_with (first | (go_at_call 34; (fail_if_success (guard_hyp g6)); refine (hm1 _).mono ?_; rintro e w6 ⟨a1, b1, f1, c1, d1, rfl, my1, g6⟩; have G6 := gb_trans G5 g6; have K6 := K5.kept g6 (by simp)) | (at_builtin; (fail_if_success (guard_hyp hown7)); refine wpList_append_lies _ rfl _ _ 41 rfl w.heap.size 48 i0 (.agg #[.complex .f64 0 0, .bool false, .complex .f64 0 0]) 3 40 underIS HI.out.1 HI.out.2.1 HI.out.2.2.1 HI.out.2.2.2 rfl (by decide) _ _ _ rfl (World.ownsRow_nil _ _ _ _) ⟨w6.heap.size, 0, none⟩ 1 1 [.complex .f64 a1 b1, .bool f1, .complex .f64 c1 d1] rfl rfl (newI _ _ _ _ _) (onesI _ _ _ _ _) (by decide) leI1 byI1 (gb_trans G6 (World.grownBy_alloc _ _ none)).size _ rfl ?_; intro g7 c7 w7 hown7 hgrow7 hat7 hlt7; have hgr7 : World.grownBy _ w7 none := hgrow7; have G7 := gb_trans (gb_trans G6 (World.grownBy_alloc _ _ none)) hgr7; have K7 := (K6.kept (World.grownBy_alloc _ _ none) (by simp)).kept hgr7 (by simp); obtain ⟨W8, hW8, sz8, g8, B8⟩ := boxn w7 #[.bool true, .int .i64 p2, .int .i64 x2, .int .i64 y2] 75; have G8 := gb_trans G7 g8; have K8 := K7.kept g8 (by simp); have hown8 := hown7.kept g8 (Classical.em _); have e8_0 := B8.cell 0 (v := .bool true) rfl; have e8_1 := B8.cell 1 (v := .int .i64 p2) rfl; have e8_2 := B8.cell 2 (v := .int .i64 x2) rfl; have e8_3 := B8.cell 3 (v := .int .i64 y2) rfl; have k8_0 := K8.cell 0 (v := .int .u8 k) rfl; have k8_1 := K8.cell 1 (v := .int .i64 x) rfl; have k8_2 := K8.cell 2 (v := .int .i64 y) rfl; have k8_3 := K8.cell 3 (v := .int .u8 t) rfl; have k8_4 := K8.cell 4 (v := .int .i64 z) rfl; have k8_5 := K8.cell 5 (v := .int .i64 (To.fi x)) rfl; have k8_6 := K8.cell 6 (v := .int .i64 (To.fi y)) rfl; have k8_7 := K8.cell 7 (v := .int .i64 x) rfl; have k8_8 := K8.cell 8 (v := .int .i64 y) rfl))
  rw [rounds_succ]
  go_wp2_with (first | (go_at_call 34; (guard_hyp g6); refine (hm2 _).mono ?_; rintro e w9 ⟨a2, b2, f2, c2, d2, rfl, my2, g9⟩; have G9 := gb_trans G8 g9; have hown9 := hown8.kept g9 (Classical.em _)) | (at_builtin; (guard_hyp hown7); have HA := hown9.alloc (.cells #[.complex .f64 a2 b2, .bool f2, .complex .f64 c2 d2] 48); have GA := gb_trans G9 (World.grownBy_alloc w9 (.cells #[.complex .f64 a2 b2, .bool f2, .complex .f64 c2 d2] 48) none); refine wpList_append_lies _ rfl _ _ 41 rfl w.heap.size 48 i0 (.agg #[.complex .f64 0 0, .bool false, .complex .f64 0 0]) 3 40 underIS HI.out.1 HI.out.2.1 HI.out.2.2.1 HI.out.2.2.2 rfl (by decide) _ _ _ rfl HA ⟨w9.heap.size, 0, none⟩ 1 1 [.complex .f64 a2 b2, .bool f2, .complex .f64 c2 d2] rfl rfl (newI _ _ _ _ _) (onesI _ _ _ _ _) (by decide) leI2 byI2 GA.size _ rfl ?_; intro g10 c10 w10 hown10 hgrow10 hat10 hlt10; have G10 := gb_rowI GA hgrow10 (fun i e => (HA.lt i e).1)))
  rw [rounds_succ]
  go_wp2
  go_ret2
  exact ⟨_, _, _, _, _, _, _, _, _, _, _, _, rfl, hown10, my1, my2, G10⟩
end Go.Proofs.Ytgiiaokkmnjckab
