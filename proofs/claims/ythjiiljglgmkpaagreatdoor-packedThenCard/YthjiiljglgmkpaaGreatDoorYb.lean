/- How many neighbours live. -/
import Derived.Test.YthjiiljglgmkpaaGreatDoorYa
namespace Go.Proofs.YthjiiljglgmkpaaGreatDoor.Pd
open Go.RowKit
set_option linter.unusedVariables false
set_option linter.unusedSimpArgs false
set_option maxRecDepth 100000

theorem bo8 {w : World} {g : Nat} {t : TypeId} {x0 x1 x2 x3 x4 x5 x6 x7 : Value} (h : Bo w g t #[x0, x1, x2, x3, x4, x5, x6, x7]) (y0 y1 y2 y3 y4 y5 y6 y7 : Value) : Bo ((((((((w.setCell ⟨g, 0, none⟩ y0).setCell ⟨g, 1, none⟩ y1).setCell ⟨g, 2, none⟩ y2).setCell ⟨g, 3, none⟩ y3).setCell ⟨g, 4, none⟩ y4).setCell ⟨g, 5, none⟩ y5).setCell ⟨g, 6, none⟩ y6).setCell ⟨g, 7, none⟩ y7) g t #[y0, y1, y2, y3, y4, y5, y6, y7] := by
  have h1 : Bo (w.setCell ⟨g, 0, none⟩ y0) g t #[y0, x1, x2, x3, x4, x5, x6, x7] := h.set 0 y0
  have h2 : Bo ((w.setCell ⟨g, 0, none⟩ y0).setCell ⟨g, 1, none⟩ y1) g t #[y0, y1, x2, x3, x4, x5, x6, x7] := h1.set 1 y1
  have h3 : Bo (((w.setCell ⟨g, 0, none⟩ y0).setCell ⟨g, 1, none⟩ y1).setCell ⟨g, 2, none⟩ y2) g t #[y0, y1, y2, x3, x4, x5, x6, x7] := h2.set 2 y2
  have h4 : Bo ((((w.setCell ⟨g, 0, none⟩ y0).setCell ⟨g, 1, none⟩ y1).setCell ⟨g, 2, none⟩ y2).setCell ⟨g, 3, none⟩ y3) g t #[y0, y1, y2, y3, x4, x5, x6, x7] := h3.set 3 y3
  have h5 : Bo (((((w.setCell ⟨g, 0, none⟩ y0).setCell ⟨g, 1, none⟩ y1).setCell ⟨g, 2, none⟩ y2).setCell ⟨g, 3, none⟩ y3).setCell ⟨g, 4, none⟩ y4) g t #[y0, y1, y2, y3, y4, x5, x6, x7] := h4.set 4 y4
  have h6 : Bo ((((((w.setCell ⟨g, 0, none⟩ y0).setCell ⟨g, 1, none⟩ y1).setCell ⟨g, 2, none⟩ y2).setCell ⟨g, 3, none⟩ y3).setCell ⟨g, 4, none⟩ y4).setCell ⟨g, 5, none⟩ y5) g t #[y0, y1, y2, y3, y4, y5, x6, x7] := h5.set 5 y5
  have h7 : Bo (((((((w.setCell ⟨g, 0, none⟩ y0).setCell ⟨g, 1, none⟩ y1).setCell ⟨g, 2, none⟩ y2).setCell ⟨g, 3, none⟩ y3).setCell ⟨g, 4, none⟩ y4).setCell ⟨g, 5, none⟩ y5).setCell ⟨g, 6, none⟩ y6) g t #[y0, y1, y2, y3, y4, y5, y6, x7] := h6.set 6 y6
  have h8 : Bo ((((((((w.setCell ⟨g, 0, none⟩ y0).setCell ⟨g, 1, none⟩ y1).setCell ⟨g, 2, none⟩ y2).setCell ⟨g, 3, none⟩ y3).setCell ⟨g, 4, none⟩ y4).setCell ⟨g, 5, none⟩ y5).setCell ⟨g, 6, none⟩ y6).setCell ⟨g, 7, none⟩ y7) g t #[y0, y1, y2, y3, y4, y5, y6, y7] := h7.set 7 y7
  exact h8
theorem far8 {w : World} {t : TypeId} {b n g : Nat} {p : Nat → Bool} (h : Row w t b n p) (hq : b ≠ g) (y0 y1 y2 y3 y4 y5 y6 y7 : Value) : Row ((((((((w.setCell ⟨g, 0, none⟩ y0).setCell ⟨g, 1, none⟩ y1).setCell ⟨g, 2, none⟩ y2).setCell ⟨g, 3, none⟩ y3).setCell ⟨g, 4, none⟩ y4).setCell ⟨g, 5, none⟩ y5).setCell ⟨g, 6, none⟩ y6).setCell ⟨g, 7, none⟩ y7) t b n p := (World.rowIs.setOther (World.rowIs.setOther (World.rowIs.setOther (World.rowIs.setOther (World.rowIs.setOther (World.rowIs.setOther (World.rowIs.setOther (World.rowIs.setOther h hq _) hq _) hq _) hq _) hq _) hq _) hq _) hq _)
theorem gn8 {w0 w : World} {g : Nat} (h : w0.grownBy w none) (hb : w0.heap.size ≤ g) (y0 y1 y2 y3 y4 y5 y6 y7 : Value) : w0.grownBy ((((((((w.setCell ⟨g, 0, none⟩ y0).setCell ⟨g, 1, none⟩ y1).setCell ⟨g, 2, none⟩ y2).setCell ⟨g, 3, none⟩ y3).setCell ⟨g, 4, none⟩ y4).setCell ⟨g, 5, none⟩ y5).setCell ⟨g, 6, none⟩ y6).setCell ⟨g, 7, none⟩ y7) none := (gb_new (gb_new (gb_new (gb_new (gb_new (gb_new (gb_new (gb_new h hb _) hb _) hb _) hb _) hb _) hb _) hb _) hb _)
theorem bof8 {w : World} {g b : Nat} {t : TypeId} {cs : Array Value} (h : Bo w b t cs) (hq : g ≠ b) (y0 y1 y2 y3 y4 y5 y6 y7 : Value) : Bo ((((((((w.setCell ⟨g, 0, none⟩ y0).setCell ⟨g, 1, none⟩ y1).setCell ⟨g, 2, none⟩ y2).setCell ⟨g, 3, none⟩ y3).setCell ⟨g, 4, none⟩ y4).setCell ⟨g, 5, none⟩ y5).setCell ⟨g, 6, none⟩ y6).setCell ⟨g, 7, none⟩ y7) b t cs := (Bo.set2 (Bo.set2 (Bo.set2 (Bo.set2 (Bo.set2 (Bo.set2 (Bo.set2 (Bo.set2 h hq) hq) hq) hq) hq) hq) hq) hq)
theorem underC4 : Tryz.prog.underlying 119 = some (.array 4 33) := by kernel_rfl
theorem fr_may (p : Nat → Bool) (m k c : Nat) (hm : m ≤ 65538) (hk : k = (m + 63) / 64) : MayBe m k (fr p m c) := ⟨hm, hk, fun i hi => by unfold fr; rw [decide_eq_false (by omega), Bool.and_false]⟩
theorem nb_may (ho : Nat) (pa ph pb : Nat → Bool) (m k : Nat) (hm : m ≤ 65538) (hk : k = (m + 63) / 64) (j : Nat) : MayBe m k (nb ho pa ph pb m j) := ⟨hm, hk, fun i hi => by
  have hd : decide (i < m) = false := decide_eq_false (by omega)
  unfold nb fr
  simp [hd]⟩
set_option maxHeartbeats 2000000 in
theorem near1 (m k : Nat) (hm : m ≤ 65538) (hk : k = (m + 63) / 64) (pa ph pb : Nat → Bool) (a0 a1 a2 h0 h1 h2 b0 b1 b2 : Nat) (w : World) (a0r : Row w 37 a0 k (fr pa m 0)) (a1r : Row w 37 a1 k (fr pa m 1)) (a2r : Row w 37 a2 k (fr pa m 2)) (h0r : Row w 37 h0 k (fr ph m 0)) (h1r : Row w 37 h1 k (fr ph m 1)) (h2r : Row w 37 h2 k (fr ph m 2)) (b0r : Row w 37 b0 k (fr pb m 0)) (b1r : Row w 37 b1 k (fr pb m 1)) (b2r : Row w 37 b2 k (fr pb m 2)) :
    Calls Tryz.prog 64 #[.int .u8 1, .agg #[.int .i64 (m : Nat), .slice (some ⟨a0, 0, none⟩) k k, .int .i64 (m : Nat), .slice (some ⟨a1, 0, none⟩) k k, .int .i64 (m : Nat), .slice (some ⟨a2, 0, none⟩) k k], .agg #[.int .i64 (m : Nat), .slice (some ⟨h0, 0, none⟩) k k, .int .i64 (m : Nat), .slice (some ⟨h1, 0, none⟩) k k, .int .i64 (m : Nat), .slice (some ⟨h2, 0, none⟩) k k], .agg #[.int .i64 (m : Nat), .slice (some ⟨b0, 0, none⟩) k k, .int .i64 (m : Nat), .slice (some ⟨b1, 0, none⟩) k k, .int .i64 (m : Nat), .slice (some ⟨b2, 0, none⟩) k k]] w fun e w' => ∃ c0 c1 c2 c3, e = .returned (.agg #[.int .i64 (m : Nat), .slice (some ⟨c0, 0, none⟩) k k, .int .i64 (m : Nat), .slice (some ⟨c1, 0, none⟩) k k, .int .i64 (m : Nat), .slice (some ⟨c2, 0, none⟩) k k, .int .i64 (m : Nat), .slice (some ⟨c3, 0, none⟩) k k]) ∧ Row w' 37 c0 k (Wo.dgF (nb 1 pa ph pb m) 8 0) ∧ Row w' 37 c1 k (Wo.dgF (nb 1 pa ph pb m) 8 1) ∧ Row w' 37 c2 k (Wo.dgF (nb 1 pa ph pb m) 8 2) ∧ Row w' 37 c3 k (Wo.dgF (nb 1 pa ph pb m) 8 3) ∧ w.grownBy w' none ∧ w.heap.size ≤ c0 ∧ w.heap.size ≤ c1 ∧ w.heap.size ≤ c2 ∧ w.heap.size ≤ c3 := by
  obtain ⟨W1, hW1, sz1, g1, B1⟩ := boxn w #[.int .i64 (m : Nat), .slice (some ⟨a0, 0, none⟩) k k, .int .i64 (m : Nat), .slice (some ⟨a1, 0, none⟩) k k, .int .i64 (m : Nat), .slice (some ⟨a2, 0, none⟩) k k] 77
  obtain ⟨W2, hW2, sz2, g2, B2⟩ := boxn W1 #[.int .i64 (m : Nat), .slice (some ⟨h0, 0, none⟩) k k, .int .i64 (m : Nat), .slice (some ⟨h1, 0, none⟩) k k, .int .i64 (m : Nat), .slice (some ⟨h2, 0, none⟩) k k] 77
  obtain ⟨W3, hW3, sz3, g3, B3⟩ := boxn W2 #[.int .i64 (m : Nat), .slice (some ⟨b0, 0, none⟩) k k, .int .i64 (m : Nat), .slice (some ⟨b1, 0, none⟩) k k, .int .i64 (m : Nat), .slice (some ⟨b2, 0, none⟩) k k] 77
  obtain ⟨W4, hW4, sz4, g4, B4⟩ := boxn W3 #[.int .i64 0, .slice none 0 0, .int .i64 0, .slice none 0 0, .int .i64 0, .slice none 0 0, .int .i64 0, .slice none 0 0] 119
  obtain ⟨W5, hW5, sz5, g5, B5⟩ := boxn W4 #[.int .i64 0, .slice none 0 0, .int .i64 0, .slice none 0 0, .int .i64 0, .slice none 0 0, .int .i64 0, .slice none 0 0] 119
  obtain ⟨W6, hW6, sz6, g6, HV⟩ := boxn W5 #[.int .i64 (m : Nat), .slice (some ⟨a0, 0, none⟩) k k, .int .i64 (m : Nat), .slice (some ⟨a1, 0, none⟩) k k, .int .i64 (m : Nat), .slice (some ⟨a2, 0, none⟩) k k, .int .i64 (m : Nat), .slice (some ⟨h0, 0, none⟩) k k, .int .i64 (m : Nat), .slice (some ⟨h2, 0, none⟩) k k, .int .i64 (m : Nat), .slice (some ⟨b0, 0, none⟩) k k, .int .i64 (m : Nat), .slice (some ⟨b1, 0, none⟩) k k, .int .i64 (m : Nat), .slice (some ⟨b2, 0, none⟩) k k] 33
  have G6 : w.grownBy W6 none := gb_trans g1 (gb_trans g2 (gb_trans g3 (gb_trans g4 (gb_trans g5 g6))))
  have G4 : w.grownBy W3 none := gb_trans g1 (gb_trans g2 g3)
  have hRw : Wo.Rws W6 W5.heap.size 8 (fun j => ⟨m, some ⟨(if j = 0 then a0 else if j = 1 then a1 else if j = 2 then a2 else if j = 3 then h0 else if j = 4 then h2 else if j = 5 then b0 else if j = 6 then b1 else b2), 0, none⟩, k, k, Pk.pack (nb 1 pa ph pb m j)⟩) := by
    intro j hj
    rcases (show j = 0 ∨ j = 1 ∨ j = 2 ∨ j = 3 ∨ j = 4 ∨ j = 5 ∨ j = 6 ∨ j = 7 by omega) with rfl | rfl | rfl | rfl | rfl | rfl | rfl | rfl
    · exact ⟨HV.cell 0 rfl, HV.cell 1 rfl, ⟨(a0r.kept G6 (by simp)).wd, fun k _ => Pk.pack_lt _ _, by show k ≤ _; omega⟩⟩
    · exact ⟨HV.cell 2 rfl, HV.cell 3 rfl, ⟨(a1r.kept G6 (by simp)).wd, fun k _ => Pk.pack_lt _ _, by show k ≤ _; omega⟩⟩
    · exact ⟨HV.cell 4 rfl, HV.cell 5 rfl, ⟨(a2r.kept G6 (by simp)).wd, fun k _ => Pk.pack_lt _ _, by show k ≤ _; omega⟩⟩
    · exact ⟨HV.cell 6 rfl, HV.cell 7 rfl, ⟨(h0r.kept G6 (by simp)).wd, fun k _ => Pk.pack_lt _ _, by show k ≤ _; omega⟩⟩
    · exact ⟨HV.cell 8 rfl, HV.cell 9 rfl, ⟨(h2r.kept G6 (by simp)).wd, fun k _ => Pk.pack_lt _ _, by show k ≤ _; omega⟩⟩
    · exact ⟨HV.cell 10 rfl, HV.cell 11 rfl, ⟨(b0r.kept G6 (by simp)).wd, fun k _ => Pk.pack_lt _ _, by show k ≤ _; omega⟩⟩
    · exact ⟨HV.cell 12 rfl, HV.cell 13 rfl, ⟨(b1r.kept G6 (by simp)).wd, fun k _ => Pk.pack_lt _ _, by show k ≤ _; omega⟩⟩
    · exact ⟨HV.cell 14 rfl, HV.cell 15 rfl, ⟨(b2r.kept G6 (by simp)).wd, fun k _ => Pk.pack_lt _ _, by show k ≤ _; omega⟩⟩
  have hcc := fun w h => Wo.countC (nb 1 pa ph pb m) W5.heap.size 8 8 k m (some ⟨W5.heap.size, 0, none⟩) (fun _ => k) (fun j => some ⟨(if j = 0 then a0 else if j = 1 then a1 else if j = 2 then a2 else if j = 3 then h0 else if j = 4 then h2 else if j = 5 then b0 else if j = 6 then b1 else b2), 0, none⟩) (fun _ => rfl) (by decide) hm hk (fun h => absurd h (by decide)) (fun j _ => nb_may 1 pa ph pb m k hm hk j) w h
  have HC := hcc W6 hRw
  clear hcc hRw hk hm
  have Ka := B1.kept (gb_trans g2 (gb_trans g3 (gb_trans g4 g5))) (by simp)
  have ac0 := Ka.cell 0 (v := .int .i64 (m : Nat)) rfl
  have ac1 := Ka.cell 1 (v := .slice (some ⟨a0, 0, none⟩) k k) rfl
  have ac2 := Ka.cell 2 (v := .int .i64 (m : Nat)) rfl
  have ac3 := Ka.cell 3 (v := .slice (some ⟨a1, 0, none⟩) k k) rfl
  have ac4 := Ka.cell 4 (v := .int .i64 (m : Nat)) rfl
  have ac5 := Ka.cell 5 (v := .slice (some ⟨a2, 0, none⟩) k k) rfl
  have Kh := B2.kept (gb_trans g3 (gb_trans g4 g5)) (by simp)
  have hc0 := Kh.cell 0 (v := .int .i64 (m : Nat)) rfl
  have hc1 := Kh.cell 1 (v := .slice (some ⟨h0, 0, none⟩) k k) rfl
  have hc2 := Kh.cell 2 (v := .int .i64 (m : Nat)) rfl
  have hc3 := Kh.cell 3 (v := .slice (some ⟨h1, 0, none⟩) k k) rfl
  have hc4 := Kh.cell 4 (v := .int .i64 (m : Nat)) rfl
  have hc5 := Kh.cell 5 (v := .slice (some ⟨h2, 0, none⟩) k k) rfl
  have Kb := B3.kept (gb_trans g4 g5) (by simp)
  have bc0 := Kb.cell 0 (v := .int .i64 (m : Nat)) rfl
  have bc1 := Kb.cell 1 (v := .slice (some ⟨b0, 0, none⟩) k k) rfl
  have bc2 := Kb.cell 2 (v := .int .i64 (m : Nat)) rfl
  have bc3 := Kb.cell 3 (v := .slice (some ⟨b1, 0, none⟩) k k) rfl
  have bc4 := Kb.cell 4 (v := .int .i64 (m : Nat)) rfl
  have bc5 := Kb.cell 5 (v := .slice (some ⟨b2, 0, none⟩) k k) rfl
  have l1 : w.heap.size < W1.heap.size := by have := sz1.out; omega
  have l2 : W1.heap.size < W2.heap.size := by have := sz2.out; omega
  have l3 : W2.heap.size < W3.heap.size := by have := sz3.out; omega
  have l4 : W3.heap.size < W4.heap.size := by have := sz4.out; omega
  have l5 : W4.heap.size < W5.heap.size := by have := sz5.out; omega
  have l6 : W5.heap.size < W6.heap.size := by have := sz6.out; omega
  have n43 : W4.heap.size ≠ W3.heap.size := by omega
  have n34 : W3.heap.size ≠ W4.heap.size := by omega
  go_enter Tryz.func64, Tryz.ntmps64
  go_wp2_with (go_at_call 94; refine HC.mono ?_; rintro e V ⟨c0, c1, c2, c3, rfl, r0, r1, r2, r3, gV, lc0, lc1, lc2, lc3⟩; have BC := (B5.kept g6 (by simp)).kept gV (by simp); have BR := (B4.kept (gb_trans g5 g6) (by simp)).kept gV (by simp); have u0 := BC.cell 0 (v := .int .i64 0) rfl; have fu0 := BC.frozen 0; have v0 := BR.cell 0 (v := .int .i64 0) rfl; have fv0 := BR.frozen 0; have u1 := BC.cell 1 (v := .slice none 0 0) rfl; have fu1 := BC.frozen 1; have v1 := BR.cell 1 (v := .slice none 0 0) rfl; have fv1 := BR.frozen 1; have u2 := BC.cell 2 (v := .int .i64 0) rfl; have fu2 := BC.frozen 2; have v2 := BR.cell 2 (v := .int .i64 0) rfl; have fv2 := BR.frozen 2; have u3 := BC.cell 3 (v := .slice none 0 0) rfl; have fu3 := BC.frozen 3; have v3 := BR.cell 3 (v := .slice none 0 0) rfl; have fv3 := BR.frozen 3; have u4 := BC.cell 4 (v := .int .i64 0) rfl; have fu4 := BC.frozen 4; have v4 := BR.cell 4 (v := .int .i64 0) rfl; have fv4 := BR.frozen 4; have u5 := BC.cell 5 (v := .slice none 0 0) rfl; have fu5 := BC.frozen 5; have v5 := BR.cell 5 (v := .slice none 0 0) rfl; have fv5 := BR.frozen 5; have u6 := BC.cell 6 (v := .int .i64 0) rfl; have fu6 := BC.frozen 6; have v6 := BR.cell 6 (v := .int .i64 0) rfl; have fv6 := BR.frozen 6; have u7 := BC.cell 7 (v := .slice none 0 0) rfl; have fu7 := BC.frozen 7; have v7 := BR.cell 7 (v := .slice none 0 0) rfl; have fv7 := BR.frozen 7)
  have g9 : w.grownBy V none := gb_trans G6 gV
  have zs := gV.size
  refine ret_a1 (g := W3.heap.size) (t := 119) rfl underC4 (by kernel_rfl) rfl (bo8 (bof8 BR n43 _ _ _ _ _ _ _ _) _ _ _ _ _ _ _ _) rfl ?_
  exact ⟨c0, c1, c2, c3, rfl, far8 (far8 r0 (by omega) _ _ _ _ _ _ _ _) (by omega) _ _ _ _ _ _ _ _, far8 (far8 r1 (by omega) _ _ _ _ _ _ _ _) (by omega) _ _ _ _ _ _ _ _, far8 (far8 r2 (by omega) _ _ _ _ _ _ _ _) (by omega) _ _ _ _ _ _ _ _, far8 (far8 r3 (by omega) _ _ _ _ _ _ _ _) (by omega) _ _ _ _ _ _ _ _, gn8 (gn8 g9 (by omega) _ _ _ _ _ _ _ _) (by omega) _ _ _ _ _ _ _ _, by omega, by omega, by omega, by omega⟩
set_option maxHeartbeats 2000000 in
theorem near2 (m k : Nat) (hm : m ≤ 65538) (hk : k = (m + 63) / 64) (pa ph pb : Nat → Bool) (a0 a1 a2 h0 h1 h2 b0 b1 b2 : Nat) (w : World) (a0r : Row w 37 a0 k (fr pa m 0)) (a1r : Row w 37 a1 k (fr pa m 1)) (a2r : Row w 37 a2 k (fr pa m 2)) (h0r : Row w 37 h0 k (fr ph m 0)) (h1r : Row w 37 h1 k (fr ph m 1)) (h2r : Row w 37 h2 k (fr ph m 2)) (b0r : Row w 37 b0 k (fr pb m 0)) (b1r : Row w 37 b1 k (fr pb m 1)) (b2r : Row w 37 b2 k (fr pb m 2)) :
    Calls Tryz.prog 64 #[.int .u8 2, .agg #[.int .i64 (m : Nat), .slice (some ⟨a0, 0, none⟩) k k, .int .i64 (m : Nat), .slice (some ⟨a1, 0, none⟩) k k, .int .i64 (m : Nat), .slice (some ⟨a2, 0, none⟩) k k], .agg #[.int .i64 (m : Nat), .slice (some ⟨h0, 0, none⟩) k k, .int .i64 (m : Nat), .slice (some ⟨h1, 0, none⟩) k k, .int .i64 (m : Nat), .slice (some ⟨h2, 0, none⟩) k k], .agg #[.int .i64 (m : Nat), .slice (some ⟨b0, 0, none⟩) k k, .int .i64 (m : Nat), .slice (some ⟨b1, 0, none⟩) k k, .int .i64 (m : Nat), .slice (some ⟨b2, 0, none⟩) k k]] w fun e w' => ∃ c0 c1 c2 c3, e = .returned (.agg #[.int .i64 (m : Nat), .slice (some ⟨c0, 0, none⟩) k k, .int .i64 (m : Nat), .slice (some ⟨c1, 0, none⟩) k k, .int .i64 (m : Nat), .slice (some ⟨c2, 0, none⟩) k k, .int .i64 (m : Nat), .slice (some ⟨c3, 0, none⟩) k k]) ∧ Row w' 37 c0 k (Wo.dgF (nb 2 pa ph pb m) 4 0) ∧ Row w' 37 c1 k (Wo.dgF (nb 2 pa ph pb m) 4 1) ∧ Row w' 37 c2 k (Wo.dgF (nb 2 pa ph pb m) 4 2) ∧ Row w' 37 c3 k (Wo.dgF (nb 2 pa ph pb m) 4 3) ∧ w.grownBy w' none ∧ w.heap.size ≤ c0 ∧ w.heap.size ≤ c1 ∧ w.heap.size ≤ c2 ∧ w.heap.size ≤ c3 := by
  obtain ⟨W1, hW1, sz1, g1, B1⟩ := boxn w #[.int .i64 (m : Nat), .slice (some ⟨a0, 0, none⟩) k k, .int .i64 (m : Nat), .slice (some ⟨a1, 0, none⟩) k k, .int .i64 (m : Nat), .slice (some ⟨a2, 0, none⟩) k k] 77
  obtain ⟨W2, hW2, sz2, g2, B2⟩ := boxn W1 #[.int .i64 (m : Nat), .slice (some ⟨h0, 0, none⟩) k k, .int .i64 (m : Nat), .slice (some ⟨h1, 0, none⟩) k k, .int .i64 (m : Nat), .slice (some ⟨h2, 0, none⟩) k k] 77
  obtain ⟨W3, hW3, sz3, g3, B3⟩ := boxn W2 #[.int .i64 (m : Nat), .slice (some ⟨b0, 0, none⟩) k k, .int .i64 (m : Nat), .slice (some ⟨b1, 0, none⟩) k k, .int .i64 (m : Nat), .slice (some ⟨b2, 0, none⟩) k k] 77
  obtain ⟨W4, hW4, sz4, g4, B4⟩ := boxn W3 #[.int .i64 0, .slice none 0 0, .int .i64 0, .slice none 0 0, .int .i64 0, .slice none 0 0, .int .i64 0, .slice none 0 0] 119
  obtain ⟨W5, hW5, sz5, g5, B5⟩ := boxn W4 #[.int .i64 0, .slice none 0 0, .int .i64 0, .slice none 0 0, .int .i64 0, .slice none 0 0, .int .i64 0, .slice none 0 0] 119
  obtain ⟨W6, hW6, sz6, g6, HV⟩ := boxn W5 #[.int .i64 (m : Nat), .slice (some ⟨a1, 0, none⟩) k k, .int .i64 (m : Nat), .slice (some ⟨h0, 0, none⟩) k k, .int .i64 (m : Nat), .slice (some ⟨h2, 0, none⟩) k k, .int .i64 (m : Nat), .slice (some ⟨b1, 0, none⟩) k k] 33
  have G6 : w.grownBy W6 none := gb_trans g1 (gb_trans g2 (gb_trans g3 (gb_trans g4 (gb_trans g5 g6))))
  have G4 : w.grownBy W3 none := gb_trans g1 (gb_trans g2 g3)
  have hRw : Wo.Rws W6 W5.heap.size 4 (fun j => ⟨m, some ⟨(if j = 0 then a1 else if j = 1 then h0 else if j = 2 then h2 else b1), 0, none⟩, k, k, Pk.pack (nb 2 pa ph pb m j)⟩) := by
    intro j hj
    rcases (show j = 0 ∨ j = 1 ∨ j = 2 ∨ j = 3 by omega) with rfl | rfl | rfl | rfl
    · exact ⟨HV.cell 0 rfl, HV.cell 1 rfl, ⟨(a1r.kept G6 (by simp)).wd, fun k _ => Pk.pack_lt _ _, by show k ≤ _; omega⟩⟩
    · exact ⟨HV.cell 2 rfl, HV.cell 3 rfl, ⟨(h0r.kept G6 (by simp)).wd, fun k _ => Pk.pack_lt _ _, by show k ≤ _; omega⟩⟩
    · exact ⟨HV.cell 4 rfl, HV.cell 5 rfl, ⟨(h2r.kept G6 (by simp)).wd, fun k _ => Pk.pack_lt _ _, by show k ≤ _; omega⟩⟩
    · exact ⟨HV.cell 6 rfl, HV.cell 7 rfl, ⟨(b1r.kept G6 (by simp)).wd, fun k _ => Pk.pack_lt _ _, by show k ≤ _; omega⟩⟩
  have hcc := fun w h => Wo.countC (nb 2 pa ph pb m) W5.heap.size 4 4 k m (some ⟨W5.heap.size, 0, none⟩) (fun _ => k) (fun j => some ⟨(if j = 0 then a1 else if j = 1 then h0 else if j = 2 then h2 else b1), 0, none⟩) (fun _ => rfl) (by decide) hm hk (fun h => absurd h (by decide)) (fun j _ => nb_may 2 pa ph pb m k hm hk j) w h
  have HC := hcc W6 hRw
  clear hcc hRw hk hm
  have Ka := B1.kept (gb_trans g2 (gb_trans g3 (gb_trans g4 g5))) (by simp)
  have ac0 := Ka.cell 0 (v := .int .i64 (m : Nat)) rfl
  have ac1 := Ka.cell 1 (v := .slice (some ⟨a0, 0, none⟩) k k) rfl
  have ac2 := Ka.cell 2 (v := .int .i64 (m : Nat)) rfl
  have ac3 := Ka.cell 3 (v := .slice (some ⟨a1, 0, none⟩) k k) rfl
  have ac4 := Ka.cell 4 (v := .int .i64 (m : Nat)) rfl
  have ac5 := Ka.cell 5 (v := .slice (some ⟨a2, 0, none⟩) k k) rfl
  have Kh := B2.kept (gb_trans g3 (gb_trans g4 g5)) (by simp)
  have hc0 := Kh.cell 0 (v := .int .i64 (m : Nat)) rfl
  have hc1 := Kh.cell 1 (v := .slice (some ⟨h0, 0, none⟩) k k) rfl
  have hc2 := Kh.cell 2 (v := .int .i64 (m : Nat)) rfl
  have hc3 := Kh.cell 3 (v := .slice (some ⟨h1, 0, none⟩) k k) rfl
  have hc4 := Kh.cell 4 (v := .int .i64 (m : Nat)) rfl
  have hc5 := Kh.cell 5 (v := .slice (some ⟨h2, 0, none⟩) k k) rfl
  have Kb := B3.kept (gb_trans g4 g5) (by simp)
  have bc0 := Kb.cell 0 (v := .int .i64 (m : Nat)) rfl
  have bc1 := Kb.cell 1 (v := .slice (some ⟨b0, 0, none⟩) k k) rfl
  have bc2 := Kb.cell 2 (v := .int .i64 (m : Nat)) rfl
  have bc3 := Kb.cell 3 (v := .slice (some ⟨b1, 0, none⟩) k k) rfl
  have bc4 := Kb.cell 4 (v := .int .i64 (m : Nat)) rfl
  have bc5 := Kb.cell 5 (v := .slice (some ⟨b2, 0, none⟩) k k) rfl
  have l1 : w.heap.size < W1.heap.size := by have := sz1.out; omega
  have l2 : W1.heap.size < W2.heap.size := by have := sz2.out; omega
  have l3 : W2.heap.size < W3.heap.size := by have := sz3.out; omega
  have l4 : W3.heap.size < W4.heap.size := by have := sz4.out; omega
  have l5 : W4.heap.size < W5.heap.size := by have := sz5.out; omega
  have l6 : W5.heap.size < W6.heap.size := by have := sz6.out; omega
  have n43 : W4.heap.size ≠ W3.heap.size := by omega
  have n34 : W3.heap.size ≠ W4.heap.size := by omega
  go_enter Tryz.func64, Tryz.ntmps64
  go_wp2_with (go_at_call 94; refine HC.mono ?_; rintro e V ⟨c0, c1, c2, c3, rfl, r0, r1, r2, r3, gV, lc0, lc1, lc2, lc3⟩; have BC := (B5.kept g6 (by simp)).kept gV (by simp); have BR := (B4.kept (gb_trans g5 g6) (by simp)).kept gV (by simp); have u0 := BC.cell 0 (v := .int .i64 0) rfl; have fu0 := BC.frozen 0; have v0 := BR.cell 0 (v := .int .i64 0) rfl; have fv0 := BR.frozen 0; have u1 := BC.cell 1 (v := .slice none 0 0) rfl; have fu1 := BC.frozen 1; have v1 := BR.cell 1 (v := .slice none 0 0) rfl; have fv1 := BR.frozen 1; have u2 := BC.cell 2 (v := .int .i64 0) rfl; have fu2 := BC.frozen 2; have v2 := BR.cell 2 (v := .int .i64 0) rfl; have fv2 := BR.frozen 2; have u3 := BC.cell 3 (v := .slice none 0 0) rfl; have fu3 := BC.frozen 3; have v3 := BR.cell 3 (v := .slice none 0 0) rfl; have fv3 := BR.frozen 3; have u4 := BC.cell 4 (v := .int .i64 0) rfl; have fu4 := BC.frozen 4; have v4 := BR.cell 4 (v := .int .i64 0) rfl; have fv4 := BR.frozen 4; have u5 := BC.cell 5 (v := .slice none 0 0) rfl; have fu5 := BC.frozen 5; have v5 := BR.cell 5 (v := .slice none 0 0) rfl; have fv5 := BR.frozen 5; have u6 := BC.cell 6 (v := .int .i64 0) rfl; have fu6 := BC.frozen 6; have v6 := BR.cell 6 (v := .int .i64 0) rfl; have fv6 := BR.frozen 6; have u7 := BC.cell 7 (v := .slice none 0 0) rfl; have fu7 := BC.frozen 7; have v7 := BR.cell 7 (v := .slice none 0 0) rfl; have fv7 := BR.frozen 7)
  have g9 : w.grownBy V none := gb_trans G6 gV
  have zs := gV.size
  refine ret_a1 (g := W3.heap.size) (t := 119) rfl underC4 (by kernel_rfl) rfl (bo8 (bof8 BR n43 _ _ _ _ _ _ _ _) _ _ _ _ _ _ _ _) rfl ?_
  exact ⟨c0, c1, c2, c3, rfl, far8 (far8 r0 (by omega) _ _ _ _ _ _ _ _) (by omega) _ _ _ _ _ _ _ _, far8 (far8 r1 (by omega) _ _ _ _ _ _ _ _) (by omega) _ _ _ _ _ _ _ _, far8 (far8 r2 (by omega) _ _ _ _ _ _ _ _) (by omega) _ _ _ _ _ _ _ _, far8 (far8 r3 (by omega) _ _ _ _ _ _ _ _) (by omega) _ _ _ _ _ _ _ _, gn8 (gn8 g9 (by omega) _ _ _ _ _ _ _ _) (by omega) _ _ _ _ _ _ _ _, by omega, by omega, by omega, by omega⟩
set_option maxHeartbeats 2000000 in
theorem near3 (m k : Nat) (hm : m ≤ 65538) (hk : k = (m + 63) / 64) (pa ph pb : Nat → Bool) (a0 a1 a2 h0 h1 h2 b0 b1 b2 : Nat) (w : World) (a0r : Row w 37 a0 k (fr pa m 0)) (a1r : Row w 37 a1 k (fr pa m 1)) (a2r : Row w 37 a2 k (fr pa m 2)) (h0r : Row w 37 h0 k (fr ph m 0)) (h1r : Row w 37 h1 k (fr ph m 1)) (h2r : Row w 37 h2 k (fr ph m 2)) (b0r : Row w 37 b0 k (fr pb m 0)) (b1r : Row w 37 b1 k (fr pb m 1)) (b2r : Row w 37 b2 k (fr pb m 2)) :
    Calls Tryz.prog 64 #[.int .u8 3, .agg #[.int .i64 (m : Nat), .slice (some ⟨a0, 0, none⟩) k k, .int .i64 (m : Nat), .slice (some ⟨a1, 0, none⟩) k k, .int .i64 (m : Nat), .slice (some ⟨a2, 0, none⟩) k k], .agg #[.int .i64 (m : Nat), .slice (some ⟨h0, 0, none⟩) k k, .int .i64 (m : Nat), .slice (some ⟨h1, 0, none⟩) k k, .int .i64 (m : Nat), .slice (some ⟨h2, 0, none⟩) k k], .agg #[.int .i64 (m : Nat), .slice (some ⟨b0, 0, none⟩) k k, .int .i64 (m : Nat), .slice (some ⟨b1, 0, none⟩) k k, .int .i64 (m : Nat), .slice (some ⟨b2, 0, none⟩) k k]] w fun e w' => ∃ c0 c1 c2 c3, e = .returned (.agg #[.int .i64 (m : Nat), .slice (some ⟨c0, 0, none⟩) k k, .int .i64 (m : Nat), .slice (some ⟨c1, 0, none⟩) k k, .int .i64 (m : Nat), .slice (some ⟨c2, 0, none⟩) k k, .int .i64 (m : Nat), .slice (some ⟨c3, 0, none⟩) k k]) ∧ Row w' 37 c0 k (Wo.dgF (nb 3 pa ph pb m) 6 0) ∧ Row w' 37 c1 k (Wo.dgF (nb 3 pa ph pb m) 6 1) ∧ Row w' 37 c2 k (Wo.dgF (nb 3 pa ph pb m) 6 2) ∧ Row w' 37 c3 k (Wo.dgF (nb 3 pa ph pb m) 6 3) ∧ w.grownBy w' none ∧ w.heap.size ≤ c0 ∧ w.heap.size ≤ c1 ∧ w.heap.size ≤ c2 ∧ w.heap.size ≤ c3 := by
  obtain ⟨W1, hW1, sz1, g1, B1⟩ := boxn w #[.int .i64 (m : Nat), .slice (some ⟨a0, 0, none⟩) k k, .int .i64 (m : Nat), .slice (some ⟨a1, 0, none⟩) k k, .int .i64 (m : Nat), .slice (some ⟨a2, 0, none⟩) k k] 77
  obtain ⟨W2, hW2, sz2, g2, B2⟩ := boxn W1 #[.int .i64 (m : Nat), .slice (some ⟨h0, 0, none⟩) k k, .int .i64 (m : Nat), .slice (some ⟨h1, 0, none⟩) k k, .int .i64 (m : Nat), .slice (some ⟨h2, 0, none⟩) k k] 77
  obtain ⟨W3, hW3, sz3, g3, B3⟩ := boxn W2 #[.int .i64 (m : Nat), .slice (some ⟨b0, 0, none⟩) k k, .int .i64 (m : Nat), .slice (some ⟨b1, 0, none⟩) k k, .int .i64 (m : Nat), .slice (some ⟨b2, 0, none⟩) k k] 77
  obtain ⟨W4, hW4, sz4, g4, B4⟩ := boxn W3 #[.int .i64 0, .slice none 0 0, .int .i64 0, .slice none 0 0, .int .i64 0, .slice none 0 0, .int .i64 0, .slice none 0 0] 119
  obtain ⟨W5, hW5, sz5, g5, B5⟩ := boxn W4 #[.int .i64 0, .slice none 0 0, .int .i64 0, .slice none 0 0, .int .i64 0, .slice none 0 0, .int .i64 0, .slice none 0 0] 119
  obtain ⟨W6, hW6, sz6, g6, HV⟩ := boxn W5 #[.int .i64 (m : Nat), .slice (some ⟨a0, 0, none⟩) k k, .int .i64 (m : Nat), .slice (some ⟨a1, 0, none⟩) k k, .int .i64 (m : Nat), .slice (some ⟨h0, 0, none⟩) k k, .int .i64 (m : Nat), .slice (some ⟨h2, 0, none⟩) k k, .int .i64 (m : Nat), .slice (some ⟨b1, 0, none⟩) k k, .int .i64 (m : Nat), .slice (some ⟨b2, 0, none⟩) k k] 33
  have G6 : w.grownBy W6 none := gb_trans g1 (gb_trans g2 (gb_trans g3 (gb_trans g4 (gb_trans g5 g6))))
  have G4 : w.grownBy W3 none := gb_trans g1 (gb_trans g2 g3)
  have hRw : Wo.Rws W6 W5.heap.size 6 (fun j => ⟨m, some ⟨(if j = 0 then a0 else if j = 1 then a1 else if j = 2 then h0 else if j = 3 then h2 else if j = 4 then b1 else b2), 0, none⟩, k, k, Pk.pack (nb 3 pa ph pb m j)⟩) := by
    intro j hj
    rcases (show j = 0 ∨ j = 1 ∨ j = 2 ∨ j = 3 ∨ j = 4 ∨ j = 5 by omega) with rfl | rfl | rfl | rfl | rfl | rfl
    · exact ⟨HV.cell 0 rfl, HV.cell 1 rfl, ⟨(a0r.kept G6 (by simp)).wd, fun k _ => Pk.pack_lt _ _, by show k ≤ _; omega⟩⟩
    · exact ⟨HV.cell 2 rfl, HV.cell 3 rfl, ⟨(a1r.kept G6 (by simp)).wd, fun k _ => Pk.pack_lt _ _, by show k ≤ _; omega⟩⟩
    · exact ⟨HV.cell 4 rfl, HV.cell 5 rfl, ⟨(h0r.kept G6 (by simp)).wd, fun k _ => Pk.pack_lt _ _, by show k ≤ _; omega⟩⟩
    · exact ⟨HV.cell 6 rfl, HV.cell 7 rfl, ⟨(h2r.kept G6 (by simp)).wd, fun k _ => Pk.pack_lt _ _, by show k ≤ _; omega⟩⟩
    · exact ⟨HV.cell 8 rfl, HV.cell 9 rfl, ⟨(b1r.kept G6 (by simp)).wd, fun k _ => Pk.pack_lt _ _, by show k ≤ _; omega⟩⟩
    · exact ⟨HV.cell 10 rfl, HV.cell 11 rfl, ⟨(b2r.kept G6 (by simp)).wd, fun k _ => Pk.pack_lt _ _, by show k ≤ _; omega⟩⟩
  have hcc := fun w h => Wo.countC (nb 3 pa ph pb m) W5.heap.size 6 6 k m (some ⟨W5.heap.size, 0, none⟩) (fun _ => k) (fun j => some ⟨(if j = 0 then a0 else if j = 1 then a1 else if j = 2 then h0 else if j = 3 then h2 else if j = 4 then b1 else b2), 0, none⟩) (fun _ => rfl) (by decide) hm hk (fun h => absurd h (by decide)) (fun j _ => nb_may 3 pa ph pb m k hm hk j) w h
  have HC := hcc W6 hRw
  clear hcc hRw hk hm
  have Ka := B1.kept (gb_trans g2 (gb_trans g3 (gb_trans g4 g5))) (by simp)
  have ac0 := Ka.cell 0 (v := .int .i64 (m : Nat)) rfl
  have ac1 := Ka.cell 1 (v := .slice (some ⟨a0, 0, none⟩) k k) rfl
  have ac2 := Ka.cell 2 (v := .int .i64 (m : Nat)) rfl
  have ac3 := Ka.cell 3 (v := .slice (some ⟨a1, 0, none⟩) k k) rfl
  have ac4 := Ka.cell 4 (v := .int .i64 (m : Nat)) rfl
  have ac5 := Ka.cell 5 (v := .slice (some ⟨a2, 0, none⟩) k k) rfl
  have Kh := B2.kept (gb_trans g3 (gb_trans g4 g5)) (by simp)
  have hc0 := Kh.cell 0 (v := .int .i64 (m : Nat)) rfl
  have hc1 := Kh.cell 1 (v := .slice (some ⟨h0, 0, none⟩) k k) rfl
  have hc2 := Kh.cell 2 (v := .int .i64 (m : Nat)) rfl
  have hc3 := Kh.cell 3 (v := .slice (some ⟨h1, 0, none⟩) k k) rfl
  have hc4 := Kh.cell 4 (v := .int .i64 (m : Nat)) rfl
  have hc5 := Kh.cell 5 (v := .slice (some ⟨h2, 0, none⟩) k k) rfl
  have Kb := B3.kept (gb_trans g4 g5) (by simp)
  have bc0 := Kb.cell 0 (v := .int .i64 (m : Nat)) rfl
  have bc1 := Kb.cell 1 (v := .slice (some ⟨b0, 0, none⟩) k k) rfl
  have bc2 := Kb.cell 2 (v := .int .i64 (m : Nat)) rfl
  have bc3 := Kb.cell 3 (v := .slice (some ⟨b1, 0, none⟩) k k) rfl
  have bc4 := Kb.cell 4 (v := .int .i64 (m : Nat)) rfl
  have bc5 := Kb.cell 5 (v := .slice (some ⟨b2, 0, none⟩) k k) rfl
  have l1 : w.heap.size < W1.heap.size := by have := sz1.out; omega
  have l2 : W1.heap.size < W2.heap.size := by have := sz2.out; omega
  have l3 : W2.heap.size < W3.heap.size := by have := sz3.out; omega
  have l4 : W3.heap.size < W4.heap.size := by have := sz4.out; omega
  have l5 : W4.heap.size < W5.heap.size := by have := sz5.out; omega
  have l6 : W5.heap.size < W6.heap.size := by have := sz6.out; omega
  have n43 : W4.heap.size ≠ W3.heap.size := by omega
  have n34 : W3.heap.size ≠ W4.heap.size := by omega
  go_enter Tryz.func64, Tryz.ntmps64
  go_wp2_with (go_at_call 94; refine HC.mono ?_; rintro e V ⟨c0, c1, c2, c3, rfl, r0, r1, r2, r3, gV, lc0, lc1, lc2, lc3⟩; have BC := (B5.kept g6 (by simp)).kept gV (by simp); have BR := (B4.kept (gb_trans g5 g6) (by simp)).kept gV (by simp); have u0 := BC.cell 0 (v := .int .i64 0) rfl; have fu0 := BC.frozen 0; have v0 := BR.cell 0 (v := .int .i64 0) rfl; have fv0 := BR.frozen 0; have u1 := BC.cell 1 (v := .slice none 0 0) rfl; have fu1 := BC.frozen 1; have v1 := BR.cell 1 (v := .slice none 0 0) rfl; have fv1 := BR.frozen 1; have u2 := BC.cell 2 (v := .int .i64 0) rfl; have fu2 := BC.frozen 2; have v2 := BR.cell 2 (v := .int .i64 0) rfl; have fv2 := BR.frozen 2; have u3 := BC.cell 3 (v := .slice none 0 0) rfl; have fu3 := BC.frozen 3; have v3 := BR.cell 3 (v := .slice none 0 0) rfl; have fv3 := BR.frozen 3; have u4 := BC.cell 4 (v := .int .i64 0) rfl; have fu4 := BC.frozen 4; have v4 := BR.cell 4 (v := .int .i64 0) rfl; have fv4 := BR.frozen 4; have u5 := BC.cell 5 (v := .slice none 0 0) rfl; have fu5 := BC.frozen 5; have v5 := BR.cell 5 (v := .slice none 0 0) rfl; have fv5 := BR.frozen 5; have u6 := BC.cell 6 (v := .int .i64 0) rfl; have fu6 := BC.frozen 6; have v6 := BR.cell 6 (v := .int .i64 0) rfl; have fv6 := BR.frozen 6; have u7 := BC.cell 7 (v := .slice none 0 0) rfl; have fu7 := BC.frozen 7; have v7 := BR.cell 7 (v := .slice none 0 0) rfl; have fv7 := BR.frozen 7)
  have g9 : w.grownBy V none := gb_trans G6 gV
  have zs := gV.size
  refine ret_a1 (g := W3.heap.size) (t := 119) rfl underC4 (by kernel_rfl) rfl (bo8 (bof8 BR n43 _ _ _ _ _ _ _ _) _ _ _ _ _ _ _ _) rfl ?_
  exact ⟨c0, c1, c2, c3, rfl, far8 (far8 r0 (by omega) _ _ _ _ _ _ _ _) (by omega) _ _ _ _ _ _ _ _, far8 (far8 r1 (by omega) _ _ _ _ _ _ _ _) (by omega) _ _ _ _ _ _ _ _, far8 (far8 r2 (by omega) _ _ _ _ _ _ _ _) (by omega) _ _ _ _ _ _ _ _, far8 (far8 r3 (by omega) _ _ _ _ _ _ _ _) (by omega) _ _ _ _ _ _ _ _, gn8 (gn8 g9 (by omega) _ _ _ _ _ _ _ _) (by omega) _ _ _ _ _ _ _ _, by omega, by omega, by omega, by omega⟩
end Go.Proofs.YthjiiljglgmkpaaGreatDoor.Pd
namespace Go.Proofs.YthjiiljglgmkpaaGreatDoor.Pd
open Go.RowKit
set_option linter.unusedVariables false
set_option linter.unusedSimpArgs false
set_option maxRecDepth 100000

theorem or16 (a b : Nat) (ha : a < 65536) (hb : b < 65536) : bits .or .u16 (a : Int) (b : Int) = ((a ||| b : Nat) : Int) := (bits_nat .u16 16 (by decide) (fun n h0 h1 => by rw [IntKind.wrap_u16]; omega) a b ha hb).2
theorem or16_lt {a b : Nat} (ha : a < 65536) (hb : b < 65536) : a ||| b < 65536 := Nat.or_lt_two_pow (n := 16) ha hb
/-- Which blocks are written. -/
def S2 (x y : Nat) (i : Nat) : Prop := i = x ∨ i = y
theorem gs_l {x y : Nat} {a b c : World} (h : Wo.Gs (S2 x y) a b) (k : b.grownBy c (some x)) : Wo.Gs (S2 x y) a c :=
  ⟨k.os.trans h.os, k.tape.trans h.tape, k.output.trans h.output, Nat.le_trans h.size k.size, fun i hi hn => (k.block i (Nat.lt_of_lt_of_le hi h.size) (fun e => hn (.inl (by simpa using e)))).trans (h.block i hi hn)⟩
theorem gs_r {x y : Nat} {a b c : World} (h : Wo.Gs (S2 x y) a b) (k : b.grownBy c (some y)) : Wo.Gs (S2 x y) a c :=
  ⟨k.os.trans h.os, k.tape.trans h.tape, k.output.trans h.output, Nat.le_trans h.size k.size, fun i hi hn => (k.block i (Nat.lt_of_lt_of_le hi h.size) (fun e => hn (.inr (by simpa using e)))).trans (h.block i hi hn)⟩
theorem bo_gs {S : Nat → Prop} {a b : World} {g : Nat} {t : TypeId} {cs : Array Value} (h : Bo a g t cs) (k : Wo.Gs S a b) (hn : ¬ S g) : Bo b g t cs := (k.block g h.lt hn).trans h
theorem bx_gs {S : Nat → Prop} {a b : World} {g : Nat} {t : TypeId} {x y : Value} (h : Bx a g t x y) (k : Wo.Gs S a b) (hn : ¬ S g) : Bx b g t x y := (k.block g h.lt hn).trans h
theorem ga_yes {c : Nat} {pp : Nat → Nat → Bool} {m v : Nat} (h : c.testBit v = true) (t : Nat) : (ga c pp m v t || (Wo.isN pp v 4 t && decide (t < m))) = ga c pp m (v + 1) t := by rw [ga, h, Bool.true_and]
theorem ga_no {c : Nat} {pp : Nat → Nat → Bool} {m v : Nat} (h : c.testBit v = false) (t : Nat) : ga c pp m v t = ga c pp m (v + 1) t := by rw [ga, h, Bool.false_and, Bool.or_false]
set_option maxHeartbeats 2000000 in
theorem toldC (ho bo st m k : Nat) (hb : bo < 65536) (hs : st < 65536) (hm : m ≤ 65538) (hk : k = (m + 63) / 64) (ph : Nat → Bool) (pp : Nat → Nat → Bool) (b c0 c1 c2 c3 : Nat) (w : World) (hr : Row w 37 b k ph) (Mh : MayBe m k ph) (M : ∀ d, d < 4 → MayBe m k (pp d)) (r0 : Row w 37 c0 k (pp 0)) (r1 : Row w 37 c1 k (pp 1)) (r2 : Row w 37 c2 k (pp 2)) (r3 : Row w 37 c3 k (pp 3)) :
    Calls Tryz.prog 63 #[.agg #[.int .u8 (ho : Nat), .int .u16 (bo : Nat), .int .u16 (st : Nat)], .agg #[.int .i64 (m : Nat), .slice (some ⟨b, 0, none⟩) k k], .agg #[.int .i64 (m : Nat), .slice (some ⟨c0, 0, none⟩) k k, .int .i64 (m : Nat), .slice (some ⟨c1, 0, none⟩) k k, .int .i64 (m : Nat), .slice (some ⟨c2, 0, none⟩) k k, .int .i64 (m : Nat), .slice (some ⟨c3, 0, none⟩) k k]] w fun e w' => ∃ z, e = .returned (.agg #[.int .i64 (m : Nat), .slice (some ⟨z, 0, none⟩) k k]) ∧ Row w' 37 z k (tl bo st ph pp m) ∧ w.grownBy w' none ∧ w.heap.size ≤ z := by
  have hnw := Wo.newC m hm
  rw [← hk] at hnw
  have HK : Hid (k = (m + 63) / 64) := hk
  clear hk
  obtain ⟨W1, hW1, sz1, g1, B1⟩ := boxn w #[.int .u8 (ho : Nat), .int .u16 (bo : Nat), .int .u16 (st : Nat)] 28
  obtain ⟨W2, hW2, d0, d1, sz2, g2, B2⟩ := box2 W1 (.int .i64 (m : Nat)) (.slice (some ⟨b, 0, none⟩) k k) 33
  obtain ⟨W3, hW3, sz3, g3, B3⟩ := boxn W2 #[.int .i64 (m : Nat), .slice (some ⟨c0, 0, none⟩) k k, .int .i64 (m : Nat), .slice (some ⟨c1, 0, none⟩) k k, .int .i64 (m : Nat), .slice (some ⟨c2, 0, none⟩) k k, .int .i64 (m : Nat), .slice (some ⟨c3, 0, none⟩) k k] 119
  obtain ⟨W4, hW4, e0, e1, sz4, g4, B4⟩ := box2 W3 (.int .i64 0) (.slice none 0 0) 33
  have G4 : w.grownBy W4 none := gb_trans g1 (gb_trans g2 (gb_trans g3 g4))
  have B24 := B2.kept (gb_trans g3 g4) (by simp)
  have x0 := B24.cell0
  have x1 := B24.cell1
  go_enter Tryz.func63, Tryz.ntmps63
  go_wp2_with (first | (go_at_call 90; (fail_if_success (guard_hyp gV)); refine (hnw W4).mono ?_; rintro e V ⟨b1, rfl, rb, gV, l1⟩; obtain ⟨W5, hW5, f0, f1, sz5, g5, B5⟩ := box2 V (.int .i64 (m : Nat)) (.slice (some ⟨b1, 0, none⟩) k k) 33; have B25 := B24.kept (gb_trans gV g5) (by simp); have y0 := B25.cell0; have y1 := B25.cell1) | (go_at_call 90; guard_hyp gV; refine (hnw W5).mono ?_; rintro e V2 ⟨b2, rfl, rs, gV2, l2⟩; obtain ⟨W6, hW6, h0, h1, sz6, g6, B6⟩ := box2 V2 (.int .i64 (m : Nat)) (.slice (some ⟨b2, 0, none⟩) k k) 33))
  have z1 := sz1.out
  have z2 := sz2.out
  have z3 := sz3.out
  have z4 := sz4.out
  have z5 := sz5.out
  have z6 := sz6.out
  have y5 := gV.size
  have y6 := gV2.size
  have rb6 := (rb.kept g5 (by simp)).kept (gb_trans gV2 g6) (by simp)
  have rs6 := rs.kept g6 (by simp)
  have lb1 : b1 < V.heap.size := World.rowIs.lt rb
  have lb2 : b2 < V2.heap.size := World.rowIs.lt rs
  have G6 : w.grownBy W6 none := gb_trans G4 (gb_trans (gb_trans gV g5) (gb_trans gV2 g6))
  have P1 := B1.kept (gb_trans g2 (gb_trans g3 (gb_trans g4 (gb_trans (gb_trans gV g5) (gb_trans gV2 g6))))) (by simp)
  have P2 := B24.kept (gb_trans (gb_trans gV g5) (gb_trans gV2 g6)) (by simp)
  have P3 := B3.kept (gb_trans g4 (gb_trans (gb_trans gV g5) (gb_trans gV2 g6))) (by simp)
  have P4 := B4.kept (gb_trans (gb_trans gV g5) (gb_trans gV2 g6)) (by simp)
  have P5 := B5.kept (gb_trans gV2 g6) (by simp)
  have nl : ¬ S2 b1 b2 w.heap.size := by unfold S2; omega
  have nh : ¬ S2 b1 b2 W1.heap.size := by unfold S2; omega
  have nc : ¬ S2 b1 b2 W2.heap.size := by unfold S2; omega
  have nr : ¬ S2 b1 b2 W3.heap.size := by unfold S2; omega
  have nb5 : ¬ S2 b1 b2 V.heap.size := by unfold S2; omega
  have ns : ¬ S2 b1 b2 V2.heap.size := by unfold S2; omega
  have hk1 : k ≤ 1025 := by have := HK.out; omega
  have nbs : b1 ≠ b2 := by omega
  have q1 : w.heap.size ≤ b1 := by omega
  have q2 : w.heap.size ≤ b2 := by omega
  have q3 : ∀ i, S2 b1 b2 i → w.heap.size ≤ i := fun i hi => by unfold S2 at hi; omega
  have L1 : b1 < W6.heap.size := by omega
  have L3 : w.heap.size ≤ W3.heap.size := by omega
  have L2 : b2 < W6.heap.size := by omega
  clear z1 z2 z3 z4 z5 z6 y5 y6 B1 B2 B3 B4 B5 B24 B25 x0 x1 y0 y1 d0 d1 e0 e1 f0 f1 h0 h1 rb rs lb1 lb2 G4 l1 l2 hW1 hW2 hW3 hW4 hW5 hW6 g1 g2 g3 g4 g5 g6 gV gV2 hnw sz1 sz2 sz3 sz4 sz5 sz6
  have hor := or16 bo st hb hs
  have hol := or16_lt hb hs
  have hIs : ∀ (v : Nat) (hv : v ≤ 15) (wr : World), w.grownBy wr none → Calls Tryz.prog 92 #[.agg #[.int .i64 (m : Nat), .slice (some ⟨c0, 0, none⟩) k k, .int .i64 (m : Nat), .slice (some ⟨c1, 0, none⟩) k k, .int .i64 (m : Nat), .slice (some ⟨c2, 0, none⟩) k k, .int .i64 (m : Nat), .slice (some ⟨c3, 0, none⟩) k k], .int .i64 (v : Nat)] wr fun e w' => ∃ t0, e = .returned (.tuple #[.agg #[.int .i64 (m : Nat), .slice (some ⟨t0, 0, none⟩) k k], .int .i64 0]) ∧ Row w' 37 t0 k (fun t => Wo.isN pp v 4 t && decide (t < m)) ∧ wr.grownBy w' none ∧ wr.heap.size ≤ t0 := fun v hv wr hg =>
    Wo.isC m k v (fun _ => k) (fun | 0 => some ⟨c0, 0, none⟩ | 1 => some ⟨c1, 0, none⟩ | 2 => some ⟨c2, 0, none⟩ | _ => some ⟨c3, 0, none⟩) pp M hv wr (fun d hd => by
      rcases (show d = 0 ∨ d = 1 ∨ d = 2 ∨ d = 3 by omega) with rfl | rfl | rfl | rfl
      · exact (r0.kept hg (by simp)).wd
      · exact (r1.kept hg (by simp)).wd
      · exact (r2.kept hg (by simp)).wd
      · exact (r3.kept hg (by simp)).wd)
  clear r0 r1 r2 r3 M
  go_loopw [28] (fun x wr => ∃ v : Nat, v ≤ 9 ∧ x = .int .i64 (v : Nat) ∧ Row wr 37 b1 k (ga bo pp m v) ∧ Row wr 37 b2 k (ga st pp m v) ∧ Wo.Gs (S2 b1 b2) W6 wr) (fun x _ => 9 - (intOf x).toNat)
  case atStart => exact ⟨0, by omega, rfl, rb6, rs6, Wo.Gs.refl _ _⟩
  case round =>
    obtain ⟨v, hv, rfl, rbk, rsk, gk⟩ := hrel
    have Gk : w.grownBy wr none := Wo.Gs.past G6 gk q3
    have BlR := bo_gs P1 gk nl
    have lr1 := BlR.cell 1 (v := .int .u16 (bo : Nat)) rfl
    have lr2 := BlR.cell 2 (v := .int .u16 (st : Nat)) rfl
    by_cases hlt : v < 9
    · have hlt' : (v : Int) < 9 := by omega
      have hh := fun w => hasP (bo ||| st) v hol (by omega) w
      have hhb := fun w => hasP bo v hb (by omega) w
      have hhs := fun w => hasP st v hs (by omega) w
      rw [Nat.testBit_or] at hh
      have BcR := bo_gs P3 gk nc
      have cr0 := BcR.cell 0 (v := .int .i64 (m : Nat)) rfl
      have cr1 := BcR.cell 1 (v := .slice (some ⟨c0, 0, none⟩) k k) rfl
      have cr2 := BcR.cell 2 (v := .int .i64 (m : Nat)) rfl
      have cr3 := BcR.cell 3 (v := .slice (some ⟨c1, 0, none⟩) k k) rfl
      have cr4 := BcR.cell 4 (v := .int .i64 (m : Nat)) rfl
      have cr5 := BcR.cell 5 (v := .slice (some ⟨c2, 0, none⟩) k k) rfl
      have cr6 := BcR.cell 6 (v := .int .i64 (m : Nat)) rfl
      have cr7 := BcR.cell 7 (v := .slice (some ⟨c3, 0, none⟩) k k) rfl
      have hi := hIs v (by omega) wr Gk
      have hwl := gk.size
      cases hbv : bo.testBit v with
      | false =>
        cases hsv : st.testBit v with
        | false =>
          rw [hbv, hsv] at hh
          have hh2 : ∀ w, Calls Tryz.prog 91 #[.int .u16 ((bo ||| st : Nat) : Int), .int .i64 (v : Nat)] w fun e w' => e = .returned (.bool false) ∧ w' = w := hh
          clear hh hi
          go_wp2_with (go_at_call 91; refine (hh2 wr).mono ?_; rintro e X ⟨rfl, hX⟩; subst X)
          refine ⟨⟨v + 1, by omega, by go_num, rbk.congr (fun t _ => ga_no hbv t), rsk.congr (fun t _ => ga_no hsv t), gk⟩, by simp [intOf]; omega⟩
        | true =>
          rw [hbv, hsv] at hh
          rw [hbv] at hhb
          rw [hsv] at hhs
          have hh2 : ∀ w, Calls Tryz.prog 91 #[.int .u16 ((bo ||| st : Nat) : Int), .int .i64 (v : Nat)] w fun e w' => e = .returned (.bool true) ∧ w' = w := hh
          have hhb2 := hhb
          have hhs2 := hhs
          have HBV : Hid _ := hbv
          have HSV : Hid _ := hsv
          clear hh hhb hhs hbv hsv
          go_wp2_with (first | (go_at_call 91; (fail_if_success (guard_hyp mk1)); refine (hh2 wr).mono ?_; rintro e X ⟨rfl, hX⟩; subst X; have mk1 : True := trivial) | (go_at_call 92; refine hi.mono ?_; rintro e Y1 ⟨t0, rfl, rt, gY1, lt0⟩; obtain ⟨Y2, hY2, w0, w1, szY, gY2, YT⟩ := box2 Y1 (.int .i64 (m : Nat)) (.slice (some ⟨t0, 0, none⟩) k k) 33; have gYs := gb_trans gY1 gY2; have BlY := BlR.kept gYs (by simp); have ly1 := BlY.cell 1 (v := .int .u16 (bo : Nat)) rfl; have ly2 := BlY.cell 2 (v := .int .u16 (st : Nat)) rfl; have BbY := (bx_gs P5 gk nb5).kept gYs (by simp); have by0 := BbY.cell0; have by1 := BbY.cell1; have BsY := (bx_gs B6 gk ns).kept gYs (by simp); have sy0 := BsY.cell0; have sy1 := BsY.cell1; have rtY := rt.kept gY2 (by simp); have rbY := rbk.kept gYs (by simp); have rsY := rsk.kept gYs (by simp); have gyz := gY1.size; have gKY := gk.gb gYs) | (go_at_call 91; guard_hyp mk1; (fail_if_success (guard_hyp mk2)); refine (hhb2 Y2).mono ?_; rintro e X ⟨rfl, hX⟩; subst X; have mk2 : True := trivial) | (go_at_call 91; guard_hyp mk2; refine (hhs2 Y2).mono ?_; rintro e X ⟨rfl, hX⟩; subst X) | (go_at_call 93; refine (gatherC m k b2 k k (ga st pp m v) (fun t => Wo.isN pp v 4 t && decide (t < m)) (some ⟨t0, 0, none⟩) (m : Int) hk1 Y2 rsY rtY.wd (fun a e => by cases e; show t0 ≠ b2; omega)).mono ?_; rintro e X2 ⟨rfl, rZ, gZ⟩))
          have hbv := HBV.out
          have hsv := HSV.out
          exact ⟨⟨v + 1, by omega, by go_num, (rbY.kept gZ (by simp; omega)).congr (fun t _ => ga_no hbv t), rZ.congr (fun t _ => ga_yes hsv t), gs_r gKY gZ⟩, by simp [intOf]; omega⟩
      | true =>
        cases hsv : st.testBit v with
        | false =>
          rw [hbv, hsv] at hh
          rw [hbv] at hhb
          rw [hsv] at hhs
          have hh2 : ∀ w, Calls Tryz.prog 91 #[.int .u16 ((bo ||| st : Nat) : Int), .int .i64 (v : Nat)] w fun e w' => e = .returned (.bool true) ∧ w' = w := hh
          have hhb2 := hhb
          have hhs2 := hhs
          have HBV : Hid _ := hbv
          have HSV : Hid _ := hsv
          clear hh hhb hhs hbv hsv
          go_wp2_with (first | (go_at_call 91; (fail_if_success (guard_hyp mk1)); refine (hh2 wr).mono ?_; rintro e X ⟨rfl, hX⟩; subst X; have mk1 : True := trivial) | (go_at_call 92; refine hi.mono ?_; rintro e Y1 ⟨t0, rfl, rt, gY1, lt0⟩; obtain ⟨Y2, hY2, w0, w1, szY, gY2, YT⟩ := box2 Y1 (.int .i64 (m : Nat)) (.slice (some ⟨t0, 0, none⟩) k k) 33; have gYs := gb_trans gY1 gY2; have BlY := BlR.kept gYs (by simp); have ly1 := BlY.cell 1 (v := .int .u16 (bo : Nat)) rfl; have ly2 := BlY.cell 2 (v := .int .u16 (st : Nat)) rfl; have BbY := (bx_gs P5 gk nb5).kept gYs (by simp); have by0 := BbY.cell0; have by1 := BbY.cell1; have BsY := (bx_gs B6 gk ns).kept gYs (by simp); have sy0 := BsY.cell0; have sy1 := BsY.cell1; have rtY := rt.kept gY2 (by simp); have rbY := rbk.kept gYs (by simp); have rsY := rsk.kept gYs (by simp); have gyz := gY1.size; have gKY := gk.gb gYs) | (go_at_call 91; guard_hyp mk1; (fail_if_success (guard_hyp mk2)); refine (hhb2 Y2).mono ?_; rintro e X ⟨rfl, hX⟩; subst X; have mk2 : True := trivial) | (go_at_call 93; (fail_if_success (guard_hyp gX)); refine (gatherC m k b1 k k (ga bo pp m v) (fun t => Wo.isN pp v 4 t && decide (t < m)) (some ⟨t0, 0, none⟩) (m : Int) hk1 Y2 rbY rtY.wd (fun a e => by cases e; show t0 ≠ b1; omega)).mono ?_; rintro e X1 ⟨rfl, rX, gX⟩; have BlX := BlY.kept gX (by simp; exact fun e => nl (.inl e)); have lx1 := BlX.cell 1 (v := .int .u16 (bo : Nat)) rfl; have lx2 := BlX.cell 2 (v := .int .u16 (st : Nat)) rfl; have TX := YT.kept gX (by simp; omega); have tx0 := TX.cell0; have tx1 := TX.cell1; have BsX := BsY.kept gX (by simp; exact fun e => ns (.inl e)); have sx0 := BsX.cell0; have sx1 := BsX.cell1; have rtX := rtY.kept gX (by simp; omega); have rsX := rsY.kept gX (by simp; omega); have gKX := gs_l gKY gX) | (go_at_call 91; guard_hyp mk2; refine (hhs2 X1).mono ?_; rintro e X ⟨rfl, hX⟩; subst X))
          have hbv := HBV.out
          have hsv := HSV.out
          exact ⟨⟨v + 1, by omega, by go_num, rX.congr (fun t _ => ga_yes hbv t), rsX.congr (fun t _ => ga_no hsv t), gKX⟩, by simp [intOf]; omega⟩
        | true =>
          rw [hbv, hsv] at hh
          rw [hbv] at hhb
          rw [hsv] at hhs
          have hh2 : ∀ w, Calls Tryz.prog 91 #[.int .u16 ((bo ||| st : Nat) : Int), .int .i64 (v : Nat)] w fun e w' => e = .returned (.bool true) ∧ w' = w := hh
          have hhb2 := hhb
          have hhs2 := hhs
          have HBV : Hid _ := hbv
          have HSV : Hid _ := hsv
          clear hh hhb hhs hbv hsv
          go_wp2_with (first | (go_at_call 91; (fail_if_success (guard_hyp mk1)); refine (hh2 wr).mono ?_; rintro e X ⟨rfl, hX⟩; subst X; have mk1 : True := trivial) | (go_at_call 92; refine hi.mono ?_; rintro e Y1 ⟨t0, rfl, rt, gY1, lt0⟩; obtain ⟨Y2, hY2, w0, w1, szY, gY2, YT⟩ := box2 Y1 (.int .i64 (m : Nat)) (.slice (some ⟨t0, 0, none⟩) k k) 33; have gYs := gb_trans gY1 gY2; have BlY := BlR.kept gYs (by simp); have ly1 := BlY.cell 1 (v := .int .u16 (bo : Nat)) rfl; have ly2 := BlY.cell 2 (v := .int .u16 (st : Nat)) rfl; have BbY := (bx_gs P5 gk nb5).kept gYs (by simp); have by0 := BbY.cell0; have by1 := BbY.cell1; have BsY := (bx_gs B6 gk ns).kept gYs (by simp); have sy0 := BsY.cell0; have sy1 := BsY.cell1; have rtY := rt.kept gY2 (by simp); have rbY := rbk.kept gYs (by simp); have rsY := rsk.kept gYs (by simp); have gyz := gY1.size; have gKY := gk.gb gYs) | (go_at_call 91; guard_hyp mk1; (fail_if_success (guard_hyp mk2)); refine (hhb2 Y2).mono ?_; rintro e X ⟨rfl, hX⟩; subst X; have mk2 : True := trivial) | (go_at_call 93; (fail_if_success (guard_hyp gX)); refine (gatherC m k b1 k k (ga bo pp m v) (fun t => Wo.isN pp v 4 t && decide (t < m)) (some ⟨t0, 0, none⟩) (m : Int) hk1 Y2 rbY rtY.wd (fun a e => by cases e; show t0 ≠ b1; omega)).mono ?_; rintro e X1 ⟨rfl, rX, gX⟩; have BlX := BlY.kept gX (by simp; exact fun e => nl (.inl e)); have lx1 := BlX.cell 1 (v := .int .u16 (bo : Nat)) rfl; have lx2 := BlX.cell 2 (v := .int .u16 (st : Nat)) rfl; have TX := YT.kept gX (by simp; omega); have tx0 := TX.cell0; have tx1 := TX.cell1; have BsX := BsY.kept gX (by simp; exact fun e => ns (.inl e)); have sx0 := BsX.cell0; have sx1 := BsX.cell1; have rtX := rtY.kept gX (by simp; omega); have rsX := rsY.kept gX (by simp; omega); have gKX := gs_l gKY gX) | (go_at_call 91; guard_hyp mk2; refine (hhs2 X1).mono ?_; rintro e X ⟨rfl, hX⟩; subst X) | (go_at_call 93; guard_hyp gX; refine (gatherC m k b2 k k (ga st pp m v) (fun t => Wo.isN pp v 4 t && decide (t < m)) (some ⟨t0, 0, none⟩) (m : Int) hk1 X1 rsX rtX.wd (fun a e => by cases e; show t0 ≠ b2; omega)).mono ?_; rintro e X2 ⟨rfl, rZ, gZ⟩))
          have hbv := HBV.out
          have hsv := HSV.out
          exact ⟨⟨v + 1, by omega, by go_num, (rX.kept gZ (by simp; omega)).congr (fun t _ => ga_yes hbv t), rZ.congr (fun t _ => ga_yes hsv t), gs_r gKX gZ⟩, by simp [intOf]; omega⟩
    · obtain rfl : v = 9 := by omega
      clear hIs lr1 lr2
      have BhR := bx_gs P2 gk nh
      have hr0 := BhR.cell0
      have hr1 := BhR.cell1
      have hwk := (hr.kept Gk (by simp)).wd
      have bne : b ≠ b1 := by have := World.rowIs.lt hr; omega
      have bne2 : b ≠ b2 := by have := World.rowIs.lt hr; omega
      generalize hGB : ga bo pp m 9 = gB at *
      generalize hGS : ga st pp m 9 = gS at *
      have HGB : Hid (ga bo pp m 9 = gB) := hGB
      have HGS : Hid (ga st pp m 9 = gS) := hGS
      clear hGB hGS
      rename World => WK
      go_wp2
      go_loopw [63] (fun x wq => ∃ i : Nat, i ≤ k ∧ x = .int .i64 (i : Nat) ∧ Row wq 37 b1 k (fun t => if t < 64 * i then (gB t && !ph t) else gB t) ∧ Row wq 37 b2 k (fun t => if t < 64 * i then (gS t && ph t) else gS t) ∧ Wo.Gs (S2 b1 b2) WK wq) (fun x _ => k - (intOf x).toNat)
      case atStart => exact ⟨0, Nat.zero_le _, rfl, rbk.congr (fun t _ => by simp), rsk.congr (fun t _ => by simp), Wo.Gs.refl _ _⟩
      case round =>
        obtain ⟨i, hi, rfl, rbi, rsi, gi⟩ := hrel
        have gi6 : Wo.Gs (S2 b1 b2) W6 wr := ⟨gi.os.trans gk.os, gi.tape.trans gk.tape, gi.output.trans gk.output, Nat.le_trans gk.size gi.size, fun j hj hn => (gi.block j (Nat.lt_of_lt_of_le hj gk.size) hn).trans (gk.block j hj hn)⟩
        have Gi : w.grownBy wr none := Wo.Gs.past G6 gi6 q3
        have BbI := bx_gs P5 gi6 nb5
        have bi0 := BbI.cell0
        have bi1 := BbI.cell1
        have BsI := bx_gs B6 gi6 ns
        have si0 := BsI.cell0
        have si1 := BsI.cell1
        by_cases hlt : i < k
        · have hlt' : (i : Int) < (k : Int) := by omega
          have wi := (hr.kept Gi (by simp)).wd.at hlt
          rw [add_mid, Nat.zero_add] at wi
          have y0 := World.rowIs.cell rbi hlt
          have y1 := World.rowIs.frozen rbi i
          have u0 := World.rowIs.cell rsi hlt
          have u1 := World.rowIs.frozen rsi i
          have n12 : b2 ≠ b1 := by omega
          have nsv : V2.heap.size ≠ b1 := fun e => ns (.inl e)
          have nsw : b1 ≠ V2.heap.size := fun e => ns (.inl e.symm)
          have eB : Hid (Pk.pack (fun t => if t < 64 * i then (gB t && !ph t) else gB t) i = Pk.pack gB i) := Pk.pack_congr fun t ht => by rw [if_neg (by omega)]
          have eS : Hid (Pk.pack (fun t => if t < 64 * i then (gS t && ph t) else gS t) i = Pk.pack gS i) := Pk.pack_congr fun t ht => by rw [if_neg (by omega)]
          rw [eB.out] at y0
          rw [eS.out] at u0
          have hA1 := Wo.andNotW (Pk.pack gB i) (Pk.pack ph i) (Pk.pack_lt _ _) (Pk.pack_lt _ _)
          have hA2 := bits_and_u64_nat (Pk.pack gS i) (Pk.pack ph i) (Pk.pack_lt _ _) (Pk.pack_lt _ _)
          rw [Wo.pack_andNot] at hA1
          rw [Pk.pack_and] at hA2
          have HA1 : Hid _ := hA1
          have HA2 : Hid _ := hA2
          clear hA1 hA2
          go_wp2
          rw [HA1.out, HA2.out]
          refine ⟨⟨i + 1, hlt, by go_num, ?_, ?_, (gi.set ⟨b1, i, none⟩ (.inl rfl) _).set ⟨b2, i, none⟩ (.inr rfl) _⟩, by simp [intOf]; omega⟩
          · refine World.rowIs.setOther (Row.set (q := fun t => if t < 64 * (i + 1) then (gB t && !ph t) else gB t) rbi (Pk.pack_congr fun t ht => by rw [if_pos (by omega)]) (fun t ht hne => ?_)) n12.symm _
            by_cases h1 : t < 64 * i
            · rw [if_pos h1, if_pos (by omega)]
            · rw [if_neg h1, if_neg (by omega)]
          · refine Row.set (q := fun t => if t < 64 * (i + 1) then (gS t && ph t) else gS t) (World.rowIs.setOther rsi n12 _) (Pk.pack_congr fun t ht => by rw [if_pos (by omega)]) (fun t ht hne => ?_)
            by_cases h1 : t < 64 * i
            · rw [if_pos h1, if_pos (by omega)]
            · rw [if_neg h1, if_neg (by omega)]
        · obtain rfl : i = k := by omega
          have hkn : ¬ (i : Int) < (i : Int) := by omega
          have rB := rbi.congr (q := fun t => gB t && !ph t) (fun t ht => by rw [if_pos ht])
          have rS := rsi.congr (q := fun t => gS t && ph t) (fun t ht => by rw [if_pos ht])
          clear rbi rsi
          have Br := bx_gs P4 gi6 nr
          go_wp2_with (go_at_call 93; refine (gatherC m i b1 i i (fun t => gB t && !ph t) (fun t => gS t && ph t) (some ⟨b2, 0, none⟩) (m : Int) hk1 wr rB rS.wd (fun a e => by cases e; show b2 ≠ b1; omega)).mono ?_; rintro e X ⟨rfl, rX, gX⟩; have BbX := BbI.kept gX (by simp; exact fun e => nb5 (.inl e)); have xx0 := BbX.cell0; have xx1 := BbX.cell1; have BrX := Br.kept gX (by simp; exact fun e => nr (.inl e)); have rr0 := BrX.cell0; have rr1 := BrX.cell1; have rf0 := BrX.free0; have rf1 := BrX.free1)
          obtain ⟨fs, hfs⟩ := Wo.underR
          refine ret_box1 (g := W3.heap.size) (t := 33) rfl hfs Wo.infoR rfl (BrX.set _ _) rfl ?_
          have n9 : b1 ≠ W3.heap.size := fun e => nr (.inl e.symm)
          have gF : w.grownBy X none := gb_past Gi gX q1
          have l3 : w.heap.size ≤ W3.heap.size := L3
          refine ⟨b1, rfl, World.rowIs.setOther (World.rowIs.setOther (rX.congr (fun t ht => ?_)) n9 _) n9 _, gb_new (gb_new gF l3 _) l3 _, q1⟩
          unfold tl
          rw [HGB.out, HGS.out]
end Go.Proofs.YthjiiljglgmkpaaGreatDoor.Pd
namespace Go.Proofs.YthjiiljglgmkpaaGreatDoor.Pd
open Go.RowKit
set_option linter.unusedVariables false
set_option linter.unusedSimpArgs false
set_option maxRecDepth 100000

theorem dg_may (P : Nat → Nat → Bool) (n m k d : Nat) (hm : m ≤ 65538) (hk : k = (m + 63) / 64) (h : ∀ j, MayBe m k (P j)) : MayBe m k (Wo.dgF P n d) := ⟨hm, hk, fun i hi => by
  unfold Wo.dgF
  have h0 : ∀ n, Wo.cn P n i = 0 := fun n => by
    induction n with
    | zero => rfl
    | succ n ih => rw [Wo.cn, ih, (h n).tail i hi]; rfl
  rw [h0]; simp⟩
set_option maxHeartbeats 2000000 in
theorem next1 (bo st m k : Nat) (hb : bo < 65536) (hs : st < 65536) (hm : m ≤ 65538) (hk : k = (m + 63) / 64) (pa ph pb : Nat → Bool) (a0 a1 a2 h0 h1 h2 b0 b1 b2 : Nat) (w : World) (a0r : Row w 37 a0 k (fr pa m 0)) (a1r : Row w 37 a1 k (fr pa m 1)) (a2r : Row w 37 a2 k (fr pa m 2)) (h0r : Row w 37 h0 k (fr ph m 0)) (h1r : Row w 37 h1 k (fr ph m 1)) (h2r : Row w 37 h2 k (fr ph m 2)) (b0r : Row w 37 b0 k (fr pb m 0)) (b1r : Row w 37 b1 k (fr pb m 1)) (b2r : Row w 37 b2 k (fr pb m 2)) :
    Calls Tryz.prog 31 #[.agg #[.int .u8 1, .int .u16 (bo : Nat), .int .u16 (st : Nat)], .agg #[.int .i64 (m : Nat), .slice (some ⟨a0, 0, none⟩) k k, .int .i64 (m : Nat), .slice (some ⟨a1, 0, none⟩) k k, .int .i64 (m : Nat), .slice (some ⟨a2, 0, none⟩) k k], .agg #[.int .i64 (m : Nat), .slice (some ⟨h0, 0, none⟩) k k, .int .i64 (m : Nat), .slice (some ⟨h1, 0, none⟩) k k, .int .i64 (m : Nat), .slice (some ⟨h2, 0, none⟩) k k], .agg #[.int .i64 (m : Nat), .slice (some ⟨b0, 0, none⟩) k k, .int .i64 (m : Nat), .slice (some ⟨b1, 0, none⟩) k k, .int .i64 (m : Nat), .slice (some ⟨b2, 0, none⟩) k k]] w fun e w' => ∃ z, e = .returned (.agg #[.int .i64 (m : Nat), .slice (some ⟨z, 0, none⟩) k k]) ∧ Row w' 37 z k (ln 1 bo st pa ph pb m) ∧ w.grownBy w' none ∧ w.heap.size ≤ z := by
  obtain ⟨W1, hW1, sz1, g1, B1⟩ := boxn w #[.int .u8 1, .int .u16 (bo : Nat), .int .u16 (st : Nat)] 28
  obtain ⟨W2, hW2, sz2, g2, B2⟩ := boxn W1 #[.int .i64 (m : Nat), .slice (some ⟨a0, 0, none⟩) k k, .int .i64 (m : Nat), .slice (some ⟨a1, 0, none⟩) k k, .int .i64 (m : Nat), .slice (some ⟨a2, 0, none⟩) k k] 77
  obtain ⟨W3, hW3, sz3, g3, B3⟩ := boxn W2 #[.int .i64 (m : Nat), .slice (some ⟨h0, 0, none⟩) k k, .int .i64 (m : Nat), .slice (some ⟨h1, 0, none⟩) k k, .int .i64 (m : Nat), .slice (some ⟨h2, 0, none⟩) k k] 77
  obtain ⟨W4, hW4, sz4, g4, B4⟩ := boxn W3 #[.int .i64 (m : Nat), .slice (some ⟨b0, 0, none⟩) k k, .int .i64 (m : Nat), .slice (some ⟨b1, 0, none⟩) k k, .int .i64 (m : Nat), .slice (some ⟨b2, 0, none⟩) k k] 77
  obtain ⟨W5, hW5, e0, e1, sz5, g5, B5⟩ := box2 W4 (.int .i64 0) (.slice none 0 0) 33
  have HK : Hid (k = (m + 63) / 64) := hk
  clear hk
  have D1 : Bo W5.drew w.heap.size 28 #[.int .u8 1, .int .u16 (bo : Nat), .int .u16 (st : Nat)] := B1.kept (gb_drew (gb_trans g2 (gb_trans g3 (gb_trans g4 g5)))) (by simp)
  have D2 : Bo W5.drew W1.heap.size 77 #[.int .i64 (m : Nat), .slice (some ⟨a0, 0, none⟩) k k, .int .i64 (m : Nat), .slice (some ⟨a1, 0, none⟩) k k, .int .i64 (m : Nat), .slice (some ⟨a2, 0, none⟩) k k] := B2.kept (gb_drew (gb_trans g3 (gb_trans g4 g5))) (by simp)
  have D3 : Bo W5.drew W2.heap.size 77 #[.int .i64 (m : Nat), .slice (some ⟨h0, 0, none⟩) k k, .int .i64 (m : Nat), .slice (some ⟨h1, 0, none⟩) k k, .int .i64 (m : Nat), .slice (some ⟨h2, 0, none⟩) k k] := B3.kept (gb_drew (gb_trans g4 g5)) (by simp)
  have D4 : Bo W5.drew W3.heap.size 77 #[.int .i64 (m : Nat), .slice (some ⟨b0, 0, none⟩) k k, .int .i64 (m : Nat), .slice (some ⟨b1, 0, none⟩) k k, .int .i64 (m : Nat), .slice (some ⟨b2, 0, none⟩) k k] := B4.kept (gb_drew g5) (by simp)
  have D5 : Bx W5.drew W4.heap.size 33 (.int .i64 0) (.slice none 0 0) := B5
  have G0 : w.grownBy W5.drew none := gb_drew (gb_trans g1 (gb_trans g2 (gb_trans g3 (gb_trans g4 g5))))
  have l1 : w.heap.size < W1.heap.size := by have := sz1.out; omega
  have l2 : W1.heap.size < W2.heap.size := by have := sz2.out; omega
  have l3 : W2.heap.size < W3.heap.size := by have := sz3.out; omega
  have l4 : W3.heap.size < W4.heap.size := by have := sz4.out; omega
  have n1 : W4.heap.size ≠ w.heap.size := by omega
  have n2 : W4.heap.size ≠ W1.heap.size := by omega
  have n3 : W4.heap.size ≠ W2.heap.size := by omega
  have n4 : W4.heap.size ≠ W3.heap.size := by omega
  have x0_0 := D1.cell 0 (v := .int .u8 1) rfl
  have x0_1 := D1.cell 1 (v := .int .u16 (bo : Nat)) rfl
  have x0_2 := D1.cell 2 (v := .int .u16 (st : Nat)) rfl
  have x1_0 := D2.cell 0 (v := .int .i64 (m : Nat)) rfl
  have x1_1 := D2.cell 1 (v := .slice (some ⟨a0, 0, none⟩) k k) rfl
  have x1_2 := D2.cell 2 (v := .int .i64 (m : Nat)) rfl
  have x1_3 := D2.cell 3 (v := .slice (some ⟨a1, 0, none⟩) k k) rfl
  have x1_4 := D2.cell 4 (v := .int .i64 (m : Nat)) rfl
  have x1_5 := D2.cell 5 (v := .slice (some ⟨a2, 0, none⟩) k k) rfl
  have x2_0 := D3.cell 0 (v := .int .i64 (m : Nat)) rfl
  have x2_1 := D3.cell 1 (v := .slice (some ⟨h0, 0, none⟩) k k) rfl
  have x2_2 := D3.cell 2 (v := .int .i64 (m : Nat)) rfl
  have x2_3 := D3.cell 3 (v := .slice (some ⟨h1, 0, none⟩) k k) rfl
  have x2_4 := D3.cell 4 (v := .int .i64 (m : Nat)) rfl
  have x2_5 := D3.cell 5 (v := .slice (some ⟨h2, 0, none⟩) k k) rfl
  have x3_0 := D4.cell 0 (v := .int .i64 (m : Nat)) rfl
  have x3_1 := D4.cell 1 (v := .slice (some ⟨b0, 0, none⟩) k k) rfl
  have x3_2 := D4.cell 2 (v := .int .i64 (m : Nat)) rfl
  have x3_3 := D4.cell 3 (v := .slice (some ⟨b1, 0, none⟩) k k) rfl
  have x3_4 := D4.cell 4 (v := .int .i64 (m : Nat)) rfl
  have x3_5 := D4.cell 5 (v := .slice (some ⟨b2, 0, none⟩) k k) rfl
  have hne := near1 m k hm HK.out pa ph pb a0 a1 a2 h0 h1 h2 b0 b1 b2 W5.drew (a0r.kept G0 (by simp)) (a1r.kept G0 (by simp)) (a2r.kept G0 (by simp)) (h0r.kept G0 (by simp)) (h1r.kept G0 (by simp)) (h2r.kept G0 (by simp)) (b0r.kept G0 (by simp)) (b1r.kept G0 (by simp)) (b2r.kept G0 (by simp))
  have hto := fun c0 c1 c2 c3 w hr r0 r1 r2 r3 => toldC 1 bo st m k hb hs hm HK.out (fr ph m 1) (Wo.dgF (nb 1 pa ph pb m) 8) h1 c0 c1 c2 c3 w hr (fr_may ph m k 1 hm HK.out) (fun d _ => dg_may _ _ _ _ _ hm HK.out (fun j => nb_may 1 pa ph pb m k hm HK.out j)) r0 r1 r2 r3
  have h1k := h1r.kept G0 (by simp)
  clear a0r a1r a2r h0r h1r h2r b0r b1r b2r B1 B2 B3 B4 B5
  go_enter Tryz.func31, Tryz.ntmps31
  go_wp2
  go_region_held2 (fun w' => w'.cell? ⟨w.heap.size, 0, none⟩ = some (.int .u8 1) ∧ w'.cell? ⟨w.heap.size, 1, none⟩ = some (.int .u16 (bo : Nat)) ∧ w'.cell? ⟨w.heap.size, 2, none⟩ = some (.int .u16 (st : Nat)) ∧ w'.cell? ⟨W1.heap.size, 0, none⟩ = some (.int .i64 (m : Nat)) ∧ w'.cell? ⟨W1.heap.size, 1, none⟩ = some (.slice (some ⟨a0, 0, none⟩) k k) ∧ w'.cell? ⟨W1.heap.size, 2, none⟩ = some (.int .i64 (m : Nat)) ∧ w'.cell? ⟨W1.heap.size, 3, none⟩ = some (.slice (some ⟨a1, 0, none⟩) k k) ∧ w'.cell? ⟨W1.heap.size, 4, none⟩ = some (.int .i64 (m : Nat)) ∧ w'.cell? ⟨W1.heap.size, 5, none⟩ = some (.slice (some ⟨a2, 0, none⟩) k k) ∧ w'.cell? ⟨W2.heap.size, 0, none⟩ = some (.int .i64 (m : Nat)) ∧ w'.cell? ⟨W2.heap.size, 1, none⟩ = some (.slice (some ⟨h0, 0, none⟩) k k) ∧ w'.cell? ⟨W2.heap.size, 2, none⟩ = some (.int .i64 (m : Nat)) ∧ w'.cell? ⟨W2.heap.size, 3, none⟩ = some (.slice (some ⟨h1, 0, none⟩) k k) ∧ w'.cell? ⟨W2.heap.size, 4, none⟩ = some (.int .i64 (m : Nat)) ∧ w'.cell? ⟨W2.heap.size, 5, none⟩ = some (.slice (some ⟨h2, 0, none⟩) k k) ∧ w'.cell? ⟨W3.heap.size, 0, none⟩ = some (.int .i64 (m : Nat)) ∧ w'.cell? ⟨W3.heap.size, 1, none⟩ = some (.slice (some ⟨b0, 0, none⟩) k k) ∧ w'.cell? ⟨W3.heap.size, 2, none⟩ = some (.int .i64 (m : Nat)) ∧ w'.cell? ⟨W3.heap.size, 3, none⟩ = some (.slice (some ⟨b1, 0, none⟩) k k) ∧ w'.cell? ⟨W3.heap.size, 4, none⟩ = some (.int .i64 (m : Nat)) ∧ w'.cell? ⟨W3.heap.size, 5, none⟩ = some (.slice (some ⟨b2, 0, none⟩) k k)) (go_keep) (first | (go_at_call 64; refine hne.mono ?_; rintro e V ⟨c0, c1, c2, c3, rfl, r0, r1, r2, r3, gV, lc0, lc1, lc2, lc3⟩; have E1 := D1.kept gV (by simp); have E2 := D2.kept gV (by simp); have E3 := D3.kept gV (by simp); have E4 := D4.kept gV (by simp); have y0_0 := E1.cell 0 (v := .int .u8 1) rfl; have y0_1 := E1.cell 1 (v := .int .u16 (bo : Nat)) rfl; have y0_2 := E1.cell 2 (v := .int .u16 (st : Nat)) rfl; have y1_0 := E2.cell 0 (v := .int .i64 (m : Nat)) rfl; have y1_1 := E2.cell 1 (v := .slice (some ⟨a0, 0, none⟩) k k) rfl; have y1_2 := E2.cell 2 (v := .int .i64 (m : Nat)) rfl; have y1_3 := E2.cell 3 (v := .slice (some ⟨a1, 0, none⟩) k k) rfl; have y1_4 := E2.cell 4 (v := .int .i64 (m : Nat)) rfl; have y1_5 := E2.cell 5 (v := .slice (some ⟨a2, 0, none⟩) k k) rfl; have y2_0 := E3.cell 0 (v := .int .i64 (m : Nat)) rfl; have y2_1 := E3.cell 1 (v := .slice (some ⟨h0, 0, none⟩) k k) rfl; have y2_2 := E3.cell 2 (v := .int .i64 (m : Nat)) rfl; have y2_3 := E3.cell 3 (v := .slice (some ⟨h1, 0, none⟩) k k) rfl; have y2_4 := E3.cell 4 (v := .int .i64 (m : Nat)) rfl; have y2_5 := E3.cell 5 (v := .slice (some ⟨h2, 0, none⟩) k k) rfl; have y3_0 := E4.cell 0 (v := .int .i64 (m : Nat)) rfl; have y3_1 := E4.cell 1 (v := .slice (some ⟨b0, 0, none⟩) k k) rfl; have y3_2 := E4.cell 2 (v := .int .i64 (m : Nat)) rfl; have y3_3 := E4.cell 3 (v := .slice (some ⟨b1, 0, none⟩) k k) rfl; have y3_4 := E4.cell 4 (v := .int .i64 (m : Nat)) rfl; have y3_5 := E4.cell 5 (v := .slice (some ⟨b2, 0, none⟩) k k) rfl) | (go_at_call 63; refine (hto c0 c1 c2 c3 V (h1k.kept gV (by simp)) r0 r1 r2 r3).mono ?_; rintro e X ⟨z, rfl, rz, gX, lz⟩; have F1 := E1.kept gX (by simp); have F2 := E2.kept gX (by simp); have F3 := E3.kept gX (by simp); have F4 := E4.kept gX (by simp); have v0_0 := F1.cell 0 (v := .int .u8 1) rfl; have v0_1 := F1.cell 1 (v := .int .u16 (bo : Nat)) rfl; have v0_2 := F1.cell 2 (v := .int .u16 (st : Nat)) rfl; have v1_0 := F2.cell 0 (v := .int .i64 (m : Nat)) rfl; have v1_1 := F2.cell 1 (v := .slice (some ⟨a0, 0, none⟩) k k) rfl; have v1_2 := F2.cell 2 (v := .int .i64 (m : Nat)) rfl; have v1_3 := F2.cell 3 (v := .slice (some ⟨a1, 0, none⟩) k k) rfl; have v1_4 := F2.cell 4 (v := .int .i64 (m : Nat)) rfl; have v1_5 := F2.cell 5 (v := .slice (some ⟨a2, 0, none⟩) k k) rfl; have v2_0 := F3.cell 0 (v := .int .i64 (m : Nat)) rfl; have v2_1 := F3.cell 1 (v := .slice (some ⟨h0, 0, none⟩) k k) rfl; have v2_2 := F3.cell 2 (v := .int .i64 (m : Nat)) rfl; have v2_3 := F3.cell 3 (v := .slice (some ⟨h1, 0, none⟩) k k) rfl; have v2_4 := F3.cell 4 (v := .int .i64 (m : Nat)) rfl; have v2_5 := F3.cell 5 (v := .slice (some ⟨h2, 0, none⟩) k k) rfl; have v3_0 := F4.cell 0 (v := .int .i64 (m : Nat)) rfl; have v3_1 := F4.cell 1 (v := .slice (some ⟨b0, 0, none⟩) k k) rfl; have v3_2 := F4.cell 2 (v := .int .i64 (m : Nat)) rfl; have v3_3 := F4.cell 3 (v := .slice (some ⟨b1, 0, none⟩) k k) rfl; have v3_4 := F4.cell 4 (v := .int .i64 (m : Nat)) rfl; have v3_5 := F4.cell 5 (v := .slice (some ⟨b2, 0, none⟩) k k) rfl; have D5X := D5.kept (gb_trans gV gX) (by simp); have t0 := D5X.cell0; have t1 := D5X.cell1; have tf0 := D5X.free0; have tf1 := D5X.free1))
  all_goals go_wp2
  all_goals obtain ⟨fs, hfs⟩ := Wo.underR
  all_goals refine ret_box1 (g := W4.heap.size) (t := 33) rfl hfs Wo.infoR rfl (D5X.set _ _) rfl ?_
  all_goals have l5 : W4.heap.size < W5.drew.heap.size := D5.lt
  all_goals have l6 := gV.size
  all_goals have l7 : w.heap.size ≤ W4.heap.size := by omega
  all_goals have n9 : z ≠ W4.heap.size := by omega
  all_goals exact ⟨z, rfl, World.rowIs.setOther (World.rowIs.setOther rz n9 _) n9 _, gb_new (gb_new (gb_trans G0 (gb_trans gV gX)) l7 _) l7 _, by omega⟩
set_option maxHeartbeats 2000000 in
theorem next2 (bo st m k : Nat) (hb : bo < 65536) (hs : st < 65536) (hm : m ≤ 65538) (hk : k = (m + 63) / 64) (pa ph pb : Nat → Bool) (a0 a1 a2 h0 h1 h2 b0 b1 b2 : Nat) (w : World) (a0r : Row w 37 a0 k (fr pa m 0)) (a1r : Row w 37 a1 k (fr pa m 1)) (a2r : Row w 37 a2 k (fr pa m 2)) (h0r : Row w 37 h0 k (fr ph m 0)) (h1r : Row w 37 h1 k (fr ph m 1)) (h2r : Row w 37 h2 k (fr ph m 2)) (b0r : Row w 37 b0 k (fr pb m 0)) (b1r : Row w 37 b1 k (fr pb m 1)) (b2r : Row w 37 b2 k (fr pb m 2)) :
    Calls Tryz.prog 31 #[.agg #[.int .u8 2, .int .u16 (bo : Nat), .int .u16 (st : Nat)], .agg #[.int .i64 (m : Nat), .slice (some ⟨a0, 0, none⟩) k k, .int .i64 (m : Nat), .slice (some ⟨a1, 0, none⟩) k k, .int .i64 (m : Nat), .slice (some ⟨a2, 0, none⟩) k k], .agg #[.int .i64 (m : Nat), .slice (some ⟨h0, 0, none⟩) k k, .int .i64 (m : Nat), .slice (some ⟨h1, 0, none⟩) k k, .int .i64 (m : Nat), .slice (some ⟨h2, 0, none⟩) k k], .agg #[.int .i64 (m : Nat), .slice (some ⟨b0, 0, none⟩) k k, .int .i64 (m : Nat), .slice (some ⟨b1, 0, none⟩) k k, .int .i64 (m : Nat), .slice (some ⟨b2, 0, none⟩) k k]] w fun e w' => ∃ z, e = .returned (.agg #[.int .i64 (m : Nat), .slice (some ⟨z, 0, none⟩) k k]) ∧ Row w' 37 z k (ln 2 bo st pa ph pb m) ∧ w.grownBy w' none ∧ w.heap.size ≤ z := by
  obtain ⟨W1, hW1, sz1, g1, B1⟩ := boxn w #[.int .u8 2, .int .u16 (bo : Nat), .int .u16 (st : Nat)] 28
  obtain ⟨W2, hW2, sz2, g2, B2⟩ := boxn W1 #[.int .i64 (m : Nat), .slice (some ⟨a0, 0, none⟩) k k, .int .i64 (m : Nat), .slice (some ⟨a1, 0, none⟩) k k, .int .i64 (m : Nat), .slice (some ⟨a2, 0, none⟩) k k] 77
  obtain ⟨W3, hW3, sz3, g3, B3⟩ := boxn W2 #[.int .i64 (m : Nat), .slice (some ⟨h0, 0, none⟩) k k, .int .i64 (m : Nat), .slice (some ⟨h1, 0, none⟩) k k, .int .i64 (m : Nat), .slice (some ⟨h2, 0, none⟩) k k] 77
  obtain ⟨W4, hW4, sz4, g4, B4⟩ := boxn W3 #[.int .i64 (m : Nat), .slice (some ⟨b0, 0, none⟩) k k, .int .i64 (m : Nat), .slice (some ⟨b1, 0, none⟩) k k, .int .i64 (m : Nat), .slice (some ⟨b2, 0, none⟩) k k] 77
  obtain ⟨W5, hW5, e0, e1, sz5, g5, B5⟩ := box2 W4 (.int .i64 0) (.slice none 0 0) 33
  have HK : Hid (k = (m + 63) / 64) := hk
  clear hk
  have D1 : Bo W5.drew w.heap.size 28 #[.int .u8 2, .int .u16 (bo : Nat), .int .u16 (st : Nat)] := B1.kept (gb_drew (gb_trans g2 (gb_trans g3 (gb_trans g4 g5)))) (by simp)
  have D2 : Bo W5.drew W1.heap.size 77 #[.int .i64 (m : Nat), .slice (some ⟨a0, 0, none⟩) k k, .int .i64 (m : Nat), .slice (some ⟨a1, 0, none⟩) k k, .int .i64 (m : Nat), .slice (some ⟨a2, 0, none⟩) k k] := B2.kept (gb_drew (gb_trans g3 (gb_trans g4 g5))) (by simp)
  have D3 : Bo W5.drew W2.heap.size 77 #[.int .i64 (m : Nat), .slice (some ⟨h0, 0, none⟩) k k, .int .i64 (m : Nat), .slice (some ⟨h1, 0, none⟩) k k, .int .i64 (m : Nat), .slice (some ⟨h2, 0, none⟩) k k] := B3.kept (gb_drew (gb_trans g4 g5)) (by simp)
  have D4 : Bo W5.drew W3.heap.size 77 #[.int .i64 (m : Nat), .slice (some ⟨b0, 0, none⟩) k k, .int .i64 (m : Nat), .slice (some ⟨b1, 0, none⟩) k k, .int .i64 (m : Nat), .slice (some ⟨b2, 0, none⟩) k k] := B4.kept (gb_drew g5) (by simp)
  have D5 : Bx W5.drew W4.heap.size 33 (.int .i64 0) (.slice none 0 0) := B5
  have G0 : w.grownBy W5.drew none := gb_drew (gb_trans g1 (gb_trans g2 (gb_trans g3 (gb_trans g4 g5))))
  have l1 : w.heap.size < W1.heap.size := by have := sz1.out; omega
  have l2 : W1.heap.size < W2.heap.size := by have := sz2.out; omega
  have l3 : W2.heap.size < W3.heap.size := by have := sz3.out; omega
  have l4 : W3.heap.size < W4.heap.size := by have := sz4.out; omega
  have n1 : W4.heap.size ≠ w.heap.size := by omega
  have n2 : W4.heap.size ≠ W1.heap.size := by omega
  have n3 : W4.heap.size ≠ W2.heap.size := by omega
  have n4 : W4.heap.size ≠ W3.heap.size := by omega
  have x0_0 := D1.cell 0 (v := .int .u8 2) rfl
  have x0_1 := D1.cell 1 (v := .int .u16 (bo : Nat)) rfl
  have x0_2 := D1.cell 2 (v := .int .u16 (st : Nat)) rfl
  have x1_0 := D2.cell 0 (v := .int .i64 (m : Nat)) rfl
  have x1_1 := D2.cell 1 (v := .slice (some ⟨a0, 0, none⟩) k k) rfl
  have x1_2 := D2.cell 2 (v := .int .i64 (m : Nat)) rfl
  have x1_3 := D2.cell 3 (v := .slice (some ⟨a1, 0, none⟩) k k) rfl
  have x1_4 := D2.cell 4 (v := .int .i64 (m : Nat)) rfl
  have x1_5 := D2.cell 5 (v := .slice (some ⟨a2, 0, none⟩) k k) rfl
  have x2_0 := D3.cell 0 (v := .int .i64 (m : Nat)) rfl
  have x2_1 := D3.cell 1 (v := .slice (some ⟨h0, 0, none⟩) k k) rfl
  have x2_2 := D3.cell 2 (v := .int .i64 (m : Nat)) rfl
  have x2_3 := D3.cell 3 (v := .slice (some ⟨h1, 0, none⟩) k k) rfl
  have x2_4 := D3.cell 4 (v := .int .i64 (m : Nat)) rfl
  have x2_5 := D3.cell 5 (v := .slice (some ⟨h2, 0, none⟩) k k) rfl
  have x3_0 := D4.cell 0 (v := .int .i64 (m : Nat)) rfl
  have x3_1 := D4.cell 1 (v := .slice (some ⟨b0, 0, none⟩) k k) rfl
  have x3_2 := D4.cell 2 (v := .int .i64 (m : Nat)) rfl
  have x3_3 := D4.cell 3 (v := .slice (some ⟨b1, 0, none⟩) k k) rfl
  have x3_4 := D4.cell 4 (v := .int .i64 (m : Nat)) rfl
  have x3_5 := D4.cell 5 (v := .slice (some ⟨b2, 0, none⟩) k k) rfl
  have hne := near2 m k hm HK.out pa ph pb a0 a1 a2 h0 h1 h2 b0 b1 b2 W5.drew (a0r.kept G0 (by simp)) (a1r.kept G0 (by simp)) (a2r.kept G0 (by simp)) (h0r.kept G0 (by simp)) (h1r.kept G0 (by simp)) (h2r.kept G0 (by simp)) (b0r.kept G0 (by simp)) (b1r.kept G0 (by simp)) (b2r.kept G0 (by simp))
  have hto := fun c0 c1 c2 c3 w hr r0 r1 r2 r3 => toldC 2 bo st m k hb hs hm HK.out (fr ph m 1) (Wo.dgF (nb 2 pa ph pb m) 4) h1 c0 c1 c2 c3 w hr (fr_may ph m k 1 hm HK.out) (fun d _ => dg_may _ _ _ _ _ hm HK.out (fun j => nb_may 2 pa ph pb m k hm HK.out j)) r0 r1 r2 r3
  have h1k := h1r.kept G0 (by simp)
  clear a0r a1r a2r h0r h1r h2r b0r b1r b2r B1 B2 B3 B4 B5
  go_enter Tryz.func31, Tryz.ntmps31
  go_wp2
  go_region_held2 (fun w' => w'.cell? ⟨w.heap.size, 0, none⟩ = some (.int .u8 2) ∧ w'.cell? ⟨w.heap.size, 1, none⟩ = some (.int .u16 (bo : Nat)) ∧ w'.cell? ⟨w.heap.size, 2, none⟩ = some (.int .u16 (st : Nat)) ∧ w'.cell? ⟨W1.heap.size, 0, none⟩ = some (.int .i64 (m : Nat)) ∧ w'.cell? ⟨W1.heap.size, 1, none⟩ = some (.slice (some ⟨a0, 0, none⟩) k k) ∧ w'.cell? ⟨W1.heap.size, 2, none⟩ = some (.int .i64 (m : Nat)) ∧ w'.cell? ⟨W1.heap.size, 3, none⟩ = some (.slice (some ⟨a1, 0, none⟩) k k) ∧ w'.cell? ⟨W1.heap.size, 4, none⟩ = some (.int .i64 (m : Nat)) ∧ w'.cell? ⟨W1.heap.size, 5, none⟩ = some (.slice (some ⟨a2, 0, none⟩) k k) ∧ w'.cell? ⟨W2.heap.size, 0, none⟩ = some (.int .i64 (m : Nat)) ∧ w'.cell? ⟨W2.heap.size, 1, none⟩ = some (.slice (some ⟨h0, 0, none⟩) k k) ∧ w'.cell? ⟨W2.heap.size, 2, none⟩ = some (.int .i64 (m : Nat)) ∧ w'.cell? ⟨W2.heap.size, 3, none⟩ = some (.slice (some ⟨h1, 0, none⟩) k k) ∧ w'.cell? ⟨W2.heap.size, 4, none⟩ = some (.int .i64 (m : Nat)) ∧ w'.cell? ⟨W2.heap.size, 5, none⟩ = some (.slice (some ⟨h2, 0, none⟩) k k) ∧ w'.cell? ⟨W3.heap.size, 0, none⟩ = some (.int .i64 (m : Nat)) ∧ w'.cell? ⟨W3.heap.size, 1, none⟩ = some (.slice (some ⟨b0, 0, none⟩) k k) ∧ w'.cell? ⟨W3.heap.size, 2, none⟩ = some (.int .i64 (m : Nat)) ∧ w'.cell? ⟨W3.heap.size, 3, none⟩ = some (.slice (some ⟨b1, 0, none⟩) k k) ∧ w'.cell? ⟨W3.heap.size, 4, none⟩ = some (.int .i64 (m : Nat)) ∧ w'.cell? ⟨W3.heap.size, 5, none⟩ = some (.slice (some ⟨b2, 0, none⟩) k k)) (go_keep) (first | (go_at_call 64; refine hne.mono ?_; rintro e V ⟨c0, c1, c2, c3, rfl, r0, r1, r2, r3, gV, lc0, lc1, lc2, lc3⟩; have E1 := D1.kept gV (by simp); have E2 := D2.kept gV (by simp); have E3 := D3.kept gV (by simp); have E4 := D4.kept gV (by simp); have y0_0 := E1.cell 0 (v := .int .u8 2) rfl; have y0_1 := E1.cell 1 (v := .int .u16 (bo : Nat)) rfl; have y0_2 := E1.cell 2 (v := .int .u16 (st : Nat)) rfl; have y1_0 := E2.cell 0 (v := .int .i64 (m : Nat)) rfl; have y1_1 := E2.cell 1 (v := .slice (some ⟨a0, 0, none⟩) k k) rfl; have y1_2 := E2.cell 2 (v := .int .i64 (m : Nat)) rfl; have y1_3 := E2.cell 3 (v := .slice (some ⟨a1, 0, none⟩) k k) rfl; have y1_4 := E2.cell 4 (v := .int .i64 (m : Nat)) rfl; have y1_5 := E2.cell 5 (v := .slice (some ⟨a2, 0, none⟩) k k) rfl; have y2_0 := E3.cell 0 (v := .int .i64 (m : Nat)) rfl; have y2_1 := E3.cell 1 (v := .slice (some ⟨h0, 0, none⟩) k k) rfl; have y2_2 := E3.cell 2 (v := .int .i64 (m : Nat)) rfl; have y2_3 := E3.cell 3 (v := .slice (some ⟨h1, 0, none⟩) k k) rfl; have y2_4 := E3.cell 4 (v := .int .i64 (m : Nat)) rfl; have y2_5 := E3.cell 5 (v := .slice (some ⟨h2, 0, none⟩) k k) rfl; have y3_0 := E4.cell 0 (v := .int .i64 (m : Nat)) rfl; have y3_1 := E4.cell 1 (v := .slice (some ⟨b0, 0, none⟩) k k) rfl; have y3_2 := E4.cell 2 (v := .int .i64 (m : Nat)) rfl; have y3_3 := E4.cell 3 (v := .slice (some ⟨b1, 0, none⟩) k k) rfl; have y3_4 := E4.cell 4 (v := .int .i64 (m : Nat)) rfl; have y3_5 := E4.cell 5 (v := .slice (some ⟨b2, 0, none⟩) k k) rfl) | (go_at_call 63; refine (hto c0 c1 c2 c3 V (h1k.kept gV (by simp)) r0 r1 r2 r3).mono ?_; rintro e X ⟨z, rfl, rz, gX, lz⟩; have F1 := E1.kept gX (by simp); have F2 := E2.kept gX (by simp); have F3 := E3.kept gX (by simp); have F4 := E4.kept gX (by simp); have v0_0 := F1.cell 0 (v := .int .u8 2) rfl; have v0_1 := F1.cell 1 (v := .int .u16 (bo : Nat)) rfl; have v0_2 := F1.cell 2 (v := .int .u16 (st : Nat)) rfl; have v1_0 := F2.cell 0 (v := .int .i64 (m : Nat)) rfl; have v1_1 := F2.cell 1 (v := .slice (some ⟨a0, 0, none⟩) k k) rfl; have v1_2 := F2.cell 2 (v := .int .i64 (m : Nat)) rfl; have v1_3 := F2.cell 3 (v := .slice (some ⟨a1, 0, none⟩) k k) rfl; have v1_4 := F2.cell 4 (v := .int .i64 (m : Nat)) rfl; have v1_5 := F2.cell 5 (v := .slice (some ⟨a2, 0, none⟩) k k) rfl; have v2_0 := F3.cell 0 (v := .int .i64 (m : Nat)) rfl; have v2_1 := F3.cell 1 (v := .slice (some ⟨h0, 0, none⟩) k k) rfl; have v2_2 := F3.cell 2 (v := .int .i64 (m : Nat)) rfl; have v2_3 := F3.cell 3 (v := .slice (some ⟨h1, 0, none⟩) k k) rfl; have v2_4 := F3.cell 4 (v := .int .i64 (m : Nat)) rfl; have v2_5 := F3.cell 5 (v := .slice (some ⟨h2, 0, none⟩) k k) rfl; have v3_0 := F4.cell 0 (v := .int .i64 (m : Nat)) rfl; have v3_1 := F4.cell 1 (v := .slice (some ⟨b0, 0, none⟩) k k) rfl; have v3_2 := F4.cell 2 (v := .int .i64 (m : Nat)) rfl; have v3_3 := F4.cell 3 (v := .slice (some ⟨b1, 0, none⟩) k k) rfl; have v3_4 := F4.cell 4 (v := .int .i64 (m : Nat)) rfl; have v3_5 := F4.cell 5 (v := .slice (some ⟨b2, 0, none⟩) k k) rfl; have D5X := D5.kept (gb_trans gV gX) (by simp); have t0 := D5X.cell0; have t1 := D5X.cell1; have tf0 := D5X.free0; have tf1 := D5X.free1))
  all_goals go_wp2
  all_goals obtain ⟨fs, hfs⟩ := Wo.underR
  all_goals refine ret_box1 (g := W4.heap.size) (t := 33) rfl hfs Wo.infoR rfl (D5X.set _ _) rfl ?_
  all_goals have l5 : W4.heap.size < W5.drew.heap.size := D5.lt
  all_goals have l6 := gV.size
  all_goals have l7 : w.heap.size ≤ W4.heap.size := by omega
  all_goals have n9 : z ≠ W4.heap.size := by omega
  all_goals exact ⟨z, rfl, World.rowIs.setOther (World.rowIs.setOther rz n9 _) n9 _, gb_new (gb_new (gb_trans G0 (gb_trans gV gX)) l7 _) l7 _, by omega⟩
set_option maxHeartbeats 2000000 in
theorem next3 (bo st m k : Nat) (hb : bo < 65536) (hs : st < 65536) (hm : m ≤ 65538) (hk : k = (m + 63) / 64) (pa ph pb : Nat → Bool) (a0 a1 a2 h0 h1 h2 b0 b1 b2 : Nat) (w : World) (a0r : Row w 37 a0 k (fr pa m 0)) (a1r : Row w 37 a1 k (fr pa m 1)) (a2r : Row w 37 a2 k (fr pa m 2)) (h0r : Row w 37 h0 k (fr ph m 0)) (h1r : Row w 37 h1 k (fr ph m 1)) (h2r : Row w 37 h2 k (fr ph m 2)) (b0r : Row w 37 b0 k (fr pb m 0)) (b1r : Row w 37 b1 k (fr pb m 1)) (b2r : Row w 37 b2 k (fr pb m 2)) :
    Calls Tryz.prog 31 #[.agg #[.int .u8 3, .int .u16 (bo : Nat), .int .u16 (st : Nat)], .agg #[.int .i64 (m : Nat), .slice (some ⟨a0, 0, none⟩) k k, .int .i64 (m : Nat), .slice (some ⟨a1, 0, none⟩) k k, .int .i64 (m : Nat), .slice (some ⟨a2, 0, none⟩) k k], .agg #[.int .i64 (m : Nat), .slice (some ⟨h0, 0, none⟩) k k, .int .i64 (m : Nat), .slice (some ⟨h1, 0, none⟩) k k, .int .i64 (m : Nat), .slice (some ⟨h2, 0, none⟩) k k], .agg #[.int .i64 (m : Nat), .slice (some ⟨b0, 0, none⟩) k k, .int .i64 (m : Nat), .slice (some ⟨b1, 0, none⟩) k k, .int .i64 (m : Nat), .slice (some ⟨b2, 0, none⟩) k k]] w fun e w' => ∃ z, e = .returned (.agg #[.int .i64 (m : Nat), .slice (some ⟨z, 0, none⟩) k k]) ∧ Row w' 37 z k (ln 3 bo st pa ph pb m) ∧ w.grownBy w' none ∧ w.heap.size ≤ z := by
  obtain ⟨W1, hW1, sz1, g1, B1⟩ := boxn w #[.int .u8 3, .int .u16 (bo : Nat), .int .u16 (st : Nat)] 28
  obtain ⟨W2, hW2, sz2, g2, B2⟩ := boxn W1 #[.int .i64 (m : Nat), .slice (some ⟨a0, 0, none⟩) k k, .int .i64 (m : Nat), .slice (some ⟨a1, 0, none⟩) k k, .int .i64 (m : Nat), .slice (some ⟨a2, 0, none⟩) k k] 77
  obtain ⟨W3, hW3, sz3, g3, B3⟩ := boxn W2 #[.int .i64 (m : Nat), .slice (some ⟨h0, 0, none⟩) k k, .int .i64 (m : Nat), .slice (some ⟨h1, 0, none⟩) k k, .int .i64 (m : Nat), .slice (some ⟨h2, 0, none⟩) k k] 77
  obtain ⟨W4, hW4, sz4, g4, B4⟩ := boxn W3 #[.int .i64 (m : Nat), .slice (some ⟨b0, 0, none⟩) k k, .int .i64 (m : Nat), .slice (some ⟨b1, 0, none⟩) k k, .int .i64 (m : Nat), .slice (some ⟨b2, 0, none⟩) k k] 77
  obtain ⟨W5, hW5, e0, e1, sz5, g5, B5⟩ := box2 W4 (.int .i64 0) (.slice none 0 0) 33
  have HK : Hid (k = (m + 63) / 64) := hk
  clear hk
  have D1 : Bo W5.drew w.heap.size 28 #[.int .u8 3, .int .u16 (bo : Nat), .int .u16 (st : Nat)] := B1.kept (gb_drew (gb_trans g2 (gb_trans g3 (gb_trans g4 g5)))) (by simp)
  have D2 : Bo W5.drew W1.heap.size 77 #[.int .i64 (m : Nat), .slice (some ⟨a0, 0, none⟩) k k, .int .i64 (m : Nat), .slice (some ⟨a1, 0, none⟩) k k, .int .i64 (m : Nat), .slice (some ⟨a2, 0, none⟩) k k] := B2.kept (gb_drew (gb_trans g3 (gb_trans g4 g5))) (by simp)
  have D3 : Bo W5.drew W2.heap.size 77 #[.int .i64 (m : Nat), .slice (some ⟨h0, 0, none⟩) k k, .int .i64 (m : Nat), .slice (some ⟨h1, 0, none⟩) k k, .int .i64 (m : Nat), .slice (some ⟨h2, 0, none⟩) k k] := B3.kept (gb_drew (gb_trans g4 g5)) (by simp)
  have D4 : Bo W5.drew W3.heap.size 77 #[.int .i64 (m : Nat), .slice (some ⟨b0, 0, none⟩) k k, .int .i64 (m : Nat), .slice (some ⟨b1, 0, none⟩) k k, .int .i64 (m : Nat), .slice (some ⟨b2, 0, none⟩) k k] := B4.kept (gb_drew g5) (by simp)
  have D5 : Bx W5.drew W4.heap.size 33 (.int .i64 0) (.slice none 0 0) := B5
  have G0 : w.grownBy W5.drew none := gb_drew (gb_trans g1 (gb_trans g2 (gb_trans g3 (gb_trans g4 g5))))
  have l1 : w.heap.size < W1.heap.size := by have := sz1.out; omega
  have l2 : W1.heap.size < W2.heap.size := by have := sz2.out; omega
  have l3 : W2.heap.size < W3.heap.size := by have := sz3.out; omega
  have l4 : W3.heap.size < W4.heap.size := by have := sz4.out; omega
  have n1 : W4.heap.size ≠ w.heap.size := by omega
  have n2 : W4.heap.size ≠ W1.heap.size := by omega
  have n3 : W4.heap.size ≠ W2.heap.size := by omega
  have n4 : W4.heap.size ≠ W3.heap.size := by omega
  have x0_0 := D1.cell 0 (v := .int .u8 3) rfl
  have x0_1 := D1.cell 1 (v := .int .u16 (bo : Nat)) rfl
  have x0_2 := D1.cell 2 (v := .int .u16 (st : Nat)) rfl
  have x1_0 := D2.cell 0 (v := .int .i64 (m : Nat)) rfl
  have x1_1 := D2.cell 1 (v := .slice (some ⟨a0, 0, none⟩) k k) rfl
  have x1_2 := D2.cell 2 (v := .int .i64 (m : Nat)) rfl
  have x1_3 := D2.cell 3 (v := .slice (some ⟨a1, 0, none⟩) k k) rfl
  have x1_4 := D2.cell 4 (v := .int .i64 (m : Nat)) rfl
  have x1_5 := D2.cell 5 (v := .slice (some ⟨a2, 0, none⟩) k k) rfl
  have x2_0 := D3.cell 0 (v := .int .i64 (m : Nat)) rfl
  have x2_1 := D3.cell 1 (v := .slice (some ⟨h0, 0, none⟩) k k) rfl
  have x2_2 := D3.cell 2 (v := .int .i64 (m : Nat)) rfl
  have x2_3 := D3.cell 3 (v := .slice (some ⟨h1, 0, none⟩) k k) rfl
  have x2_4 := D3.cell 4 (v := .int .i64 (m : Nat)) rfl
  have x2_5 := D3.cell 5 (v := .slice (some ⟨h2, 0, none⟩) k k) rfl
  have x3_0 := D4.cell 0 (v := .int .i64 (m : Nat)) rfl
  have x3_1 := D4.cell 1 (v := .slice (some ⟨b0, 0, none⟩) k k) rfl
  have x3_2 := D4.cell 2 (v := .int .i64 (m : Nat)) rfl
  have x3_3 := D4.cell 3 (v := .slice (some ⟨b1, 0, none⟩) k k) rfl
  have x3_4 := D4.cell 4 (v := .int .i64 (m : Nat)) rfl
  have x3_5 := D4.cell 5 (v := .slice (some ⟨b2, 0, none⟩) k k) rfl
  have hne := near3 m k hm HK.out pa ph pb a0 a1 a2 h0 h1 h2 b0 b1 b2 W5.drew (a0r.kept G0 (by simp)) (a1r.kept G0 (by simp)) (a2r.kept G0 (by simp)) (h0r.kept G0 (by simp)) (h1r.kept G0 (by simp)) (h2r.kept G0 (by simp)) (b0r.kept G0 (by simp)) (b1r.kept G0 (by simp)) (b2r.kept G0 (by simp))
  have hto := fun c0 c1 c2 c3 w hr r0 r1 r2 r3 => toldC 3 bo st m k hb hs hm HK.out (fr ph m 1) (Wo.dgF (nb 3 pa ph pb m) 6) h1 c0 c1 c2 c3 w hr (fr_may ph m k 1 hm HK.out) (fun d _ => dg_may _ _ _ _ _ hm HK.out (fun j => nb_may 3 pa ph pb m k hm HK.out j)) r0 r1 r2 r3
  have h1k := h1r.kept G0 (by simp)
  clear a0r a1r a2r h0r h1r h2r b0r b1r b2r B1 B2 B3 B4 B5
  go_enter Tryz.func31, Tryz.ntmps31
  go_wp2
  go_region_held2 (fun w' => w'.cell? ⟨w.heap.size, 0, none⟩ = some (.int .u8 3) ∧ w'.cell? ⟨w.heap.size, 1, none⟩ = some (.int .u16 (bo : Nat)) ∧ w'.cell? ⟨w.heap.size, 2, none⟩ = some (.int .u16 (st : Nat)) ∧ w'.cell? ⟨W1.heap.size, 0, none⟩ = some (.int .i64 (m : Nat)) ∧ w'.cell? ⟨W1.heap.size, 1, none⟩ = some (.slice (some ⟨a0, 0, none⟩) k k) ∧ w'.cell? ⟨W1.heap.size, 2, none⟩ = some (.int .i64 (m : Nat)) ∧ w'.cell? ⟨W1.heap.size, 3, none⟩ = some (.slice (some ⟨a1, 0, none⟩) k k) ∧ w'.cell? ⟨W1.heap.size, 4, none⟩ = some (.int .i64 (m : Nat)) ∧ w'.cell? ⟨W1.heap.size, 5, none⟩ = some (.slice (some ⟨a2, 0, none⟩) k k) ∧ w'.cell? ⟨W2.heap.size, 0, none⟩ = some (.int .i64 (m : Nat)) ∧ w'.cell? ⟨W2.heap.size, 1, none⟩ = some (.slice (some ⟨h0, 0, none⟩) k k) ∧ w'.cell? ⟨W2.heap.size, 2, none⟩ = some (.int .i64 (m : Nat)) ∧ w'.cell? ⟨W2.heap.size, 3, none⟩ = some (.slice (some ⟨h1, 0, none⟩) k k) ∧ w'.cell? ⟨W2.heap.size, 4, none⟩ = some (.int .i64 (m : Nat)) ∧ w'.cell? ⟨W2.heap.size, 5, none⟩ = some (.slice (some ⟨h2, 0, none⟩) k k) ∧ w'.cell? ⟨W3.heap.size, 0, none⟩ = some (.int .i64 (m : Nat)) ∧ w'.cell? ⟨W3.heap.size, 1, none⟩ = some (.slice (some ⟨b0, 0, none⟩) k k) ∧ w'.cell? ⟨W3.heap.size, 2, none⟩ = some (.int .i64 (m : Nat)) ∧ w'.cell? ⟨W3.heap.size, 3, none⟩ = some (.slice (some ⟨b1, 0, none⟩) k k) ∧ w'.cell? ⟨W3.heap.size, 4, none⟩ = some (.int .i64 (m : Nat)) ∧ w'.cell? ⟨W3.heap.size, 5, none⟩ = some (.slice (some ⟨b2, 0, none⟩) k k)) (go_keep) (first | (go_at_call 64; refine hne.mono ?_; rintro e V ⟨c0, c1, c2, c3, rfl, r0, r1, r2, r3, gV, lc0, lc1, lc2, lc3⟩; have E1 := D1.kept gV (by simp); have E2 := D2.kept gV (by simp); have E3 := D3.kept gV (by simp); have E4 := D4.kept gV (by simp); have y0_0 := E1.cell 0 (v := .int .u8 3) rfl; have y0_1 := E1.cell 1 (v := .int .u16 (bo : Nat)) rfl; have y0_2 := E1.cell 2 (v := .int .u16 (st : Nat)) rfl; have y1_0 := E2.cell 0 (v := .int .i64 (m : Nat)) rfl; have y1_1 := E2.cell 1 (v := .slice (some ⟨a0, 0, none⟩) k k) rfl; have y1_2 := E2.cell 2 (v := .int .i64 (m : Nat)) rfl; have y1_3 := E2.cell 3 (v := .slice (some ⟨a1, 0, none⟩) k k) rfl; have y1_4 := E2.cell 4 (v := .int .i64 (m : Nat)) rfl; have y1_5 := E2.cell 5 (v := .slice (some ⟨a2, 0, none⟩) k k) rfl; have y2_0 := E3.cell 0 (v := .int .i64 (m : Nat)) rfl; have y2_1 := E3.cell 1 (v := .slice (some ⟨h0, 0, none⟩) k k) rfl; have y2_2 := E3.cell 2 (v := .int .i64 (m : Nat)) rfl; have y2_3 := E3.cell 3 (v := .slice (some ⟨h1, 0, none⟩) k k) rfl; have y2_4 := E3.cell 4 (v := .int .i64 (m : Nat)) rfl; have y2_5 := E3.cell 5 (v := .slice (some ⟨h2, 0, none⟩) k k) rfl; have y3_0 := E4.cell 0 (v := .int .i64 (m : Nat)) rfl; have y3_1 := E4.cell 1 (v := .slice (some ⟨b0, 0, none⟩) k k) rfl; have y3_2 := E4.cell 2 (v := .int .i64 (m : Nat)) rfl; have y3_3 := E4.cell 3 (v := .slice (some ⟨b1, 0, none⟩) k k) rfl; have y3_4 := E4.cell 4 (v := .int .i64 (m : Nat)) rfl; have y3_5 := E4.cell 5 (v := .slice (some ⟨b2, 0, none⟩) k k) rfl) | (go_at_call 63; refine (hto c0 c1 c2 c3 V (h1k.kept gV (by simp)) r0 r1 r2 r3).mono ?_; rintro e X ⟨z, rfl, rz, gX, lz⟩; have F1 := E1.kept gX (by simp); have F2 := E2.kept gX (by simp); have F3 := E3.kept gX (by simp); have F4 := E4.kept gX (by simp); have v0_0 := F1.cell 0 (v := .int .u8 3) rfl; have v0_1 := F1.cell 1 (v := .int .u16 (bo : Nat)) rfl; have v0_2 := F1.cell 2 (v := .int .u16 (st : Nat)) rfl; have v1_0 := F2.cell 0 (v := .int .i64 (m : Nat)) rfl; have v1_1 := F2.cell 1 (v := .slice (some ⟨a0, 0, none⟩) k k) rfl; have v1_2 := F2.cell 2 (v := .int .i64 (m : Nat)) rfl; have v1_3 := F2.cell 3 (v := .slice (some ⟨a1, 0, none⟩) k k) rfl; have v1_4 := F2.cell 4 (v := .int .i64 (m : Nat)) rfl; have v1_5 := F2.cell 5 (v := .slice (some ⟨a2, 0, none⟩) k k) rfl; have v2_0 := F3.cell 0 (v := .int .i64 (m : Nat)) rfl; have v2_1 := F3.cell 1 (v := .slice (some ⟨h0, 0, none⟩) k k) rfl; have v2_2 := F3.cell 2 (v := .int .i64 (m : Nat)) rfl; have v2_3 := F3.cell 3 (v := .slice (some ⟨h1, 0, none⟩) k k) rfl; have v2_4 := F3.cell 4 (v := .int .i64 (m : Nat)) rfl; have v2_5 := F3.cell 5 (v := .slice (some ⟨h2, 0, none⟩) k k) rfl; have v3_0 := F4.cell 0 (v := .int .i64 (m : Nat)) rfl; have v3_1 := F4.cell 1 (v := .slice (some ⟨b0, 0, none⟩) k k) rfl; have v3_2 := F4.cell 2 (v := .int .i64 (m : Nat)) rfl; have v3_3 := F4.cell 3 (v := .slice (some ⟨b1, 0, none⟩) k k) rfl; have v3_4 := F4.cell 4 (v := .int .i64 (m : Nat)) rfl; have v3_5 := F4.cell 5 (v := .slice (some ⟨b2, 0, none⟩) k k) rfl; have D5X := D5.kept (gb_trans gV gX) (by simp); have t0 := D5X.cell0; have t1 := D5X.cell1; have tf0 := D5X.free0; have tf1 := D5X.free1))
  all_goals go_wp2
  all_goals obtain ⟨fs, hfs⟩ := Wo.underR
  all_goals refine ret_box1 (g := W4.heap.size) (t := 33) rfl hfs Wo.infoR rfl (D5X.set _ _) rfl ?_
  all_goals have l5 : W4.heap.size < W5.drew.heap.size := D5.lt
  all_goals have l6 := gV.size
  all_goals have l7 : w.heap.size ≤ W4.heap.size := by omega
  all_goals have n9 : z ≠ W4.heap.size := by omega
  all_goals exact ⟨z, rfl, World.rowIs.setOther (World.rowIs.setOther rz n9 _) n9 _, gb_new (gb_new (gb_trans G0 (gb_trans gV gX)) l7 _) l7 _, by omega⟩
end Go.Proofs.YthjiiljglgmkpaaGreatDoor.Pd
