/- How many neighbours live. -/
import Derived.Test.YtkgipjabkalnaaaDoorY3
namespace Go.Proofs.YtkgipjabkalnaaaDoor.Pd
open Go.RowKit
set_option linter.unusedVariables false
set_option linter.unusedSimpArgs false
set_option maxRecDepth 100000

theorem bo8 {w : World} {g : Nat} {t : TypeId} {x0 x1 x2 x3 x4 x5 x6 x7 : Value} (h : Bo w g t #[x0, x1, x2, x3, x4, x5, x6, x7]) (y0 y1 y2 y3 y4 y5 y6 y7 : Value) : Bo ((((((((w.setCell ⟨g, 0, none⟩ y0).setCell ⟨g, 1, none⟩ y1).setCell ⟨g, 2, none⟩ y2).setCell ⟨g, 3, none⟩ y3).setCell ⟨g, 4, none⟩ y4).setCell ⟨g, 5, none⟩ y5).setCell ⟨g, 6, none⟩ y6).setCell ⟨g, 7, none⟩ y7) g t #[y0, y1, y2, y3, y4, y5, y6, y7] := by
  have h1 : Bo (w.setCell ⟨g, 0, none⟩ y0) g t #[y0, x1, x2, x3, x4, x5, x6, x7] := h.set 0 y0
  have h2 : Bo ((w.setCell ⟨g, 0, none⟩ y0).setCell ⟨g, 1, none⟩ y1) g t #[y0, y1, x2, x3, x4, x5, x6, x7] := h1.set 1 y1
  have h3 : Bo (((w.setCell ⟨g, 0, none⟩ y0).setCell ⟨g, 1, none⟩ y1).setCell ⟨g, 2, none⟩ y2) g t #[y0, y1, y2, x3, x4, x5, x6, x7] := h2.set 2 y2
  have h4 : Bo ((((w.setCell ⟨g, 0, none⟩ y0).setCell ⟨g, 1, none⟩ y1).setCell ⟨g, 2, none⟩ y2).setCell ⟨g, 3, none⟩ y3) g t #[y0, y1, y2, y3, x4, x5, x6, x7] := h3.set 3 y3
  have h5 : Bo (((((w.setCell ⟨g, 0, none⟩ y0).setCell ⟨g, 1, none⟩ y1).setCell ⟨g, 2, none⟩ y2).setCell ⟨g, 3, none⟩ y3).setCell ⟨g, 4, none⟩ y4) g t #[y0, y1, y2, y3, y4, x5, x6, x7] := h4.set 4 y4
  have h6 : Bo ((((((w.setCell ⟨g, 0, none⟩ y0).setCell ⟨g, 1, none⟩ y1).setCell ⟨g, 2, none⟩ y2).setCell ⟨g, 3, none⟩ y3).setCell ⟨g, 4, none⟩ y4).setCell ⟨g, 5, none⟩ y5) g t #[y0, y1, y2, y3, y4, y5, x6, x7] := h5.set 5 y5
  have h7 : Bo (((((((w.setCell ⟨g, 0, none⟩ y0).setCell ⟨g, 1, none⟩ y1).setCell ⟨g, 2, none⟩ y2).setCell ⟨g, 3, none⟩ y3).setCell ⟨g, 4, none⟩ y4).setCell ⟨g, 5, none⟩ y5).setCell ⟨g, 6, none⟩ y6) g t #[y0, y1, y2, y3, y4, y5, y6, x7] := h6.set 6 y6
  have h8 : Bo ((((((((w.setCell ⟨g, 0, none⟩ y0).setCell ⟨g, 1, none⟩ y1).setCell ⟨g, 2, none⟩ y2).setCell ⟨g, 3, none⟩ y3).setCell ⟨g, 4, none⟩ y4).setCell ⟨g, 5, none⟩ y5).setCell ⟨g, 6, none⟩ y6).setCell ⟨g, 7, none⟩ y7) g t #[y0, y1, y2, y3, y4, y5, y6, y7] := h7.set 7 y7
  exact h8
theorem far8 {w : World} {t : TypeId} {b n g : Nat} {p : Nat → Bool} (h : Row w t b n p) (hq : b ≠ g) (y0 y1 y2 y3 y4 y5 y6 y7 : Value) : Row ((((((((w.setCell ⟨g, 0, none⟩ y0).setCell ⟨g, 1, none⟩ y1).setCell ⟨g, 2, none⟩ y2).setCell ⟨g, 3, none⟩ y3).setCell ⟨g, 4, none⟩ y4).setCell ⟨g, 5, none⟩ y5).setCell ⟨g, 6, none⟩ y6).setCell ⟨g, 7, none⟩ y7) t b n p := (World.rowIs.setOther (World.rowIs.setOther (World.rowIs.setOther (World.rowIs.setOther (World.rowIs.setOther (World.rowIs.setOther (World.rowIs.setOther (World.rowIs.setOther h hq _) hq _) hq _) hq _) hq _) hq _) hq _) hq _)
theorem gn8 {w0 w : World} {g : Nat} (h : w0.grownBy w none) (hb : w0.heap.size ≤ g) (y0 y1 y2 y3 y4 y5 y6 y7 : Value) : w0.grownBy ((((((((w.setCell ⟨g, 0, none⟩ y0).setCell ⟨g, 1, none⟩ y1).setCell ⟨g, 2, none⟩ y2).setCell ⟨g, 3, none⟩ y3).setCell ⟨g, 4, none⟩ y4).setCell ⟨g, 5, none⟩ y5).setCell ⟨g, 6, none⟩ y6).setCell ⟨g, 7, none⟩ y7) none := (gb_new (gb_new (gb_new (gb_new (gb_new (gb_new (gb_new (gb_new h hb _) hb _) hb _) hb _) hb _) hb _) hb _) hb _)
theorem bof8 {w : World} {g b : Nat} {t : TypeId} {cs : Array Value} (h : Bo w b t cs) (hq : g ≠ b) (y0 y1 y2 y3 y4 y5 y6 y7 : Value) : Bo ((((((((w.setCell ⟨g, 0, none⟩ y0).setCell ⟨g, 1, none⟩ y1).setCell ⟨g, 2, none⟩ y2).setCell ⟨g, 3, none⟩ y3).setCell ⟨g, 4, none⟩ y4).setCell ⟨g, 5, none⟩ y5).setCell ⟨g, 6, none⟩ y6).setCell ⟨g, 7, none⟩ y7) b t cs := (Bo.set2 (Bo.set2 (Bo.set2 (Bo.set2 (Bo.set2 (Bo.set2 (Bo.set2 (Bo.set2 h hq) hq) hq) hq) hq) hq) hq) hq)
theorem underC4 : Tryd.prog.underlying 61 = some (.array 4 27) := by kernel_rfl
theorem fr_may (p : Nat → Bool) (m k c : Nat) (hm : m ≤ 65538) (hk : k = (m + 63) / 64) : MayBe m k (fr p m c) := ⟨hm, hk, fun i hi => by unfold fr; rw [decide_eq_false (by omega), Bool.and_false]⟩
theorem nb_may (ho : Nat) (pa ph pb : Nat → Bool) (m k : Nat) (hm : m ≤ 65538) (hk : k = (m + 63) / 64) (j : Nat) : MayBe m k (nb ho pa ph pb m j) := ⟨hm, hk, fun i hi => by
  have hd : decide (i < m) = false := decide_eq_false (by omega)
  unfold nb fr
  simp [hd]⟩
set_option maxHeartbeats 2000000 in
theorem near1 (m k : Nat) (hm : m ≤ 65538) (hk : k = (m + 63) / 64) (pa ph pb : Nat → Bool) (a0 a1 a2 h0 h1 h2 b0 b1 b2 : Nat) (w : World) (a0r : Row w 33 a0 k (fr pa m 0)) (a1r : Row w 33 a1 k (fr pa m 1)) (a2r : Row w 33 a2 k (fr pa m 2)) (h0r : Row w 33 h0 k (fr ph m 0)) (h1r : Row w 33 h1 k (fr ph m 1)) (h2r : Row w 33 h2 k (fr ph m 2)) (b0r : Row w 33 b0 k (fr pb m 0)) (b1r : Row w 33 b1 k (fr pb m 1)) (b2r : Row w 33 b2 k (fr pb m 2)) :
    Calls Tryd.prog 26 #[.int .u8 1, .agg #[.int .i64 (m : Nat), .slice (some ⟨a0, 0, none⟩) k k, .int .i64 (m : Nat), .slice (some ⟨a1, 0, none⟩) k k, .int .i64 (m : Nat), .slice (some ⟨a2, 0, none⟩) k k], .agg #[.int .i64 (m : Nat), .slice (some ⟨h0, 0, none⟩) k k, .int .i64 (m : Nat), .slice (some ⟨h1, 0, none⟩) k k, .int .i64 (m : Nat), .slice (some ⟨h2, 0, none⟩) k k], .agg #[.int .i64 (m : Nat), .slice (some ⟨b0, 0, none⟩) k k, .int .i64 (m : Nat), .slice (some ⟨b1, 0, none⟩) k k, .int .i64 (m : Nat), .slice (some ⟨b2, 0, none⟩) k k]] w fun e w' => ∃ c0 c1 c2 c3, e = .returned (.agg #[.int .i64 (m : Nat), .slice (some ⟨c0, 0, none⟩) k k, .int .i64 (m : Nat), .slice (some ⟨c1, 0, none⟩) k k, .int .i64 (m : Nat), .slice (some ⟨c2, 0, none⟩) k k, .int .i64 (m : Nat), .slice (some ⟨c3, 0, none⟩) k k]) ∧ Row w' 33 c0 k (Wo.dgF (nb 1 pa ph pb m) 8 0) ∧ Row w' 33 c1 k (Wo.dgF (nb 1 pa ph pb m) 8 1) ∧ Row w' 33 c2 k (Wo.dgF (nb 1 pa ph pb m) 8 2) ∧ Row w' 33 c3 k (Wo.dgF (nb 1 pa ph pb m) 8 3) ∧ w.grownBy w' none ∧ w.heap.size ≤ c0 ∧ w.heap.size ≤ c1 ∧ w.heap.size ≤ c2 ∧ w.heap.size ≤ c3 := by
  obtain ⟨W1, hW1, sz1, g1, B1⟩ := boxn w #[.int .i64 (m : Nat), .slice (some ⟨a0, 0, none⟩) k k, .int .i64 (m : Nat), .slice (some ⟨a1, 0, none⟩) k k, .int .i64 (m : Nat), .slice (some ⟨a2, 0, none⟩) k k] 51
  obtain ⟨W2, hW2, sz2, g2, B2⟩ := boxn W1 #[.int .i64 (m : Nat), .slice (some ⟨h0, 0, none⟩) k k, .int .i64 (m : Nat), .slice (some ⟨h1, 0, none⟩) k k, .int .i64 (m : Nat), .slice (some ⟨h2, 0, none⟩) k k] 51
  obtain ⟨W3, hW3, sz3, g3, B3⟩ := boxn W2 #[.int .i64 (m : Nat), .slice (some ⟨b0, 0, none⟩) k k, .int .i64 (m : Nat), .slice (some ⟨b1, 0, none⟩) k k, .int .i64 (m : Nat), .slice (some ⟨b2, 0, none⟩) k k] 51
  obtain ⟨W4, hW4, sz4, g4, B4⟩ := boxn W3 #[.int .i64 0, .slice none 0 0, .int .i64 0, .slice none 0 0, .int .i64 0, .slice none 0 0, .int .i64 0, .slice none 0 0] 61
  obtain ⟨W5, hW5, sz5, g5, B5⟩ := boxn W4 #[.int .i64 0, .slice none 0 0, .int .i64 0, .slice none 0 0, .int .i64 0, .slice none 0 0, .int .i64 0, .slice none 0 0] 61
  obtain ⟨W6, hW6, sz6, g6, HV⟩ := boxn W5 #[.int .i64 (m : Nat), .slice (some ⟨a0, 0, none⟩) k k, .int .i64 (m : Nat), .slice (some ⟨a1, 0, none⟩) k k, .int .i64 (m : Nat), .slice (some ⟨a2, 0, none⟩) k k, .int .i64 (m : Nat), .slice (some ⟨h0, 0, none⟩) k k, .int .i64 (m : Nat), .slice (some ⟨h2, 0, none⟩) k k, .int .i64 (m : Nat), .slice (some ⟨b0, 0, none⟩) k k, .int .i64 (m : Nat), .slice (some ⟨b1, 0, none⟩) k k, .int .i64 (m : Nat), .slice (some ⟨b2, 0, none⟩) k k] 27
  have G6 : w.grownBy W6 none := gb_trans g1 (gb_trans g2 (gb_trans g3 (gb_trans g4 (gb_trans g5 g6))))
  have G4 : w.grownBy W3 none := gb_trans g1 (gb_trans g2 g3)
  have hRw : Wo.Rws W6 W5.heap.size 8 (fun j => ⟨m, some ⟨(if j = 0 then a0 else if j = 1 then a1 else if j = 2 then a2 else if j = 3 then h0 else if j = 4 then h2 else if j = 5 then b0 else if j = 6 then b1 else b2), 0, none⟩, k, k, Pk.pack (nb 1 pa ph pb m j)⟩) := by
    intro j hj
    rcases (show j = 0 ∨ j = 1 ∨ j = 2 ∨ j = 3 ∨ j = 4 ∨ j = 5 ∨ j = 6 ∨ j = 7 by omega) with rfl | rfl | rfl | rfl | rfl | rfl | rfl | rfl
    · exact ⟨HV.cell 0 rfl, HV.cell 1 rfl, ⟨(a0r.kept G6 (by simp)).wd, fun k _ => Pk.pack_lt _ _, by show k ≤ _; omega⟩⟩
    · exact ⟨HV.cell 2 rfl, HV.cell 3 rfl, ⟨(a1r.kept G6 (by simp)).wd, fun k _ => Pk.pack_lt _ _, by show k ≤ _; omega⟩⟩
    · exact ⟨HV.cell 4 rfl, HV.cell 5 rfl, ⟨(a2r.kept G6 (by simp)).wd, fun k _ => Pk.pack_lt _ _, by show k ≤ _; omega⟩⟩
    · exact ⟨HV.cell 6 rfl, HV.cell 7 rfl, ⟨(h0r.kept G6 (by simp)).wd, fun k _ => Pk.pack_lt _ _, by show k ≤ _; omega⟩⟩
    · exact ⟨HV.cell 8 rfl, HV.cell 9 rfl, ⟨(h2r.kept G6 (by simp)).wd, fun k _ => Pk.pack_lt _ _, by show k ≤ _; omega⟩⟩
    · exact ⟨HV.cell 10 rfl, HV.cell 11 rfl, ⟨(b0r.kept G6 (by simp)).wd, fun k _ => Pk.pack_lt _ _, by show k ≤ _; omega⟩⟩
    · exact ⟨HV.cell 12 rfl, HV.cell 13 rfl, ⟨(b1r.kept G6 (by simp)).wd, fun k _ => Pk.pack_lt _ _, by show k ≤ _; omega⟩⟩
    · exact ⟨HV.cell 14 rfl, HV.cell 15 rfl, ⟨(b2r.kept G6 (by simp)).wd, fun k _ => Pk.pack_lt _ _, by show k ≤ _; omega⟩⟩
  have hcc := fun w h => Wo.countC (nb 1 pa ph pb m) W5.heap.size 8 8 k m (some ⟨W5.heap.size, 0, none⟩) (fun _ => k) (fun j => some ⟨(if j = 0 then a0 else if j = 1 then a1 else if j = 2 then a2 else if j = 3 then h0 else if j = 4 then h2 else if j = 5 then b0 else if j = 6 then b1 else b2), 0, none⟩) (fun _ => rfl) (by decide) hm hk (fun h => absurd h (by decide)) (fun j _ => nb_may 1 pa ph pb m k hm hk j) w h
  have HC := hcc W6 hRw
  clear hcc hRw hk hm
  have Ka := B1.kept (gb_trans g2 (gb_trans g3 (gb_trans g4 g5))) (by simp)
  have ac0 := Ka.cell 0 (v := .int .i64 (m : Nat)) rfl
  have ac1 := Ka.cell 1 (v := .slice (some ⟨a0, 0, none⟩) k k) rfl
  have ac2 := Ka.cell 2 (v := .int .i64 (m : Nat)) rfl
  have ac3 := Ka.cell 3 (v := .slice (some ⟨a1, 0, none⟩) k k) rfl
  have ac4 := Ka.cell 4 (v := .int .i64 (m : Nat)) rfl
  have ac5 := Ka.cell 5 (v := .slice (some ⟨a2, 0, none⟩) k k) rfl
  have Kh := B2.kept (gb_trans g3 (gb_trans g4 g5)) (by simp)
  have hc0 := Kh.cell 0 (v := .int .i64 (m : Nat)) rfl
  have hc1 := Kh.cell 1 (v := .slice (some ⟨h0, 0, none⟩) k k) rfl
  have hc2 := Kh.cell 2 (v := .int .i64 (m : Nat)) rfl
  have hc3 := Kh.cell 3 (v := .slice (some ⟨h1, 0, none⟩) k k) rfl
  have hc4 := Kh.cell 4 (v := .int .i64 (m : Nat)) rfl
  have hc5 := Kh.cell 5 (v := .slice (some ⟨h2, 0, none⟩) k k) rfl
  have Kb := B3.kept (gb_trans g4 g5) (by simp)
  have bc0 := Kb.cell 0 (v := .int .i64 (m : Nat)) rfl
  have bc1 := Kb.cell 1 (v := .slice (some ⟨b0, 0, none⟩) k k) rfl
  have bc2 := Kb.cell 2 (v := .int .i64 (m : Nat)) rfl
  have bc3 := Kb.cell 3 (v := .slice (some ⟨b1, 0, none⟩) k k) rfl
  have bc4 := Kb.cell 4 (v := .int .i64 (m : Nat)) rfl
  have bc5 := Kb.cell 5 (v := .slice (some ⟨b2, 0, none⟩) k k) rfl
  have l1 : w.heap.size < W1.heap.size := by have := sz1.out; omega
  have l2 : W1.heap.size < W2.heap.size := by have := sz2.out; omega
  have l3 : W2.heap.size < W3.heap.size := by have := sz3.out; omega
  have l4 : W3.heap.size < W4.heap.size := by have := sz4.out; omega
  have l5 : W4.heap.size < W5.heap.size := by have := sz5.out; omega
  have l6 : W5.heap.size < W6.heap.size := by have := sz6.out; omega
  have n43 : W4.heap.size ≠ W3.heap.size := by omega
  have n34 : W3.heap.size ≠ W4.heap.size := by omega
  go_enter Tryd.func26, Tryd.ntmps26
  go_wp2_with (go_at_call 34; refine HC.mono ?_; rintro e V ⟨c0, c1, c2, c3, rfl, r0, r1, r2, r3, gV, lc0, lc1, lc2, lc3⟩; have BC := (B5.kept g6 (by simp)).kept gV (by simp); have BR := (B4.kept (gb_trans g5 g6) (by simp)).kept gV (by simp); have u0 := BC.cell 0 (v := .int .i64 0) rfl; have fu0 := BC.frozen 0; have v0 := BR.cell 0 (v := .int .i64 0) rfl; have fv0 := BR.frozen 0; have u1 := BC.cell 1 (v := .slice none 0 0) rfl; have fu1 := BC.frozen 1; have v1 := BR.cell 1 (v := .slice none 0 0) rfl; have fv1 := BR.frozen 1; have u2 := BC.cell 2 (v := .int .i64 0) rfl; have fu2 := BC.frozen 2; have v2 := BR.cell 2 (v := .int .i64 0) rfl; have fv2 := BR.frozen 2; have u3 := BC.cell 3 (v := .slice none 0 0) rfl; have fu3 := BC.frozen 3; have v3 := BR.cell 3 (v := .slice none 0 0) rfl; have fv3 := BR.frozen 3; have u4 := BC.cell 4 (v := .int .i64 0) rfl; have fu4 := BC.frozen 4; have v4 := BR.cell 4 (v := .int .i64 0) rfl; have fv4 := BR.frozen 4; have u5 := BC.cell 5 (v := .slice none 0 0) rfl; have fu5 := BC.frozen 5; have v5 := BR.cell 5 (v := .slice none 0 0) rfl; have fv5 := BR.frozen 5; have u6 := BC.cell 6 (v := .int .i64 0) rfl; have fu6 := BC.frozen 6; have v6 := BR.cell 6 (v := .int .i64 0) rfl; have fv6 := BR.frozen 6; have u7 := BC.cell 7 (v := .slice none 0 0) rfl; have fu7 := BC.frozen 7; have v7 := BR.cell 7 (v := .slice none 0 0) rfl; have fv7 := BR.frozen 7)
  have g9 : w.grownBy V none := gb_trans G6 gV
  have zs := gV.size
  refine ret_a1 (g := W3.heap.size) (t := 61) rfl underC4 (by kernel_rfl) rfl (bo8 (bof8 BR n43 _ _ _ _ _ _ _ _) _ _ _ _ _ _ _ _) rfl ?_
  exact ⟨c0, c1, c2, c3, rfl, far8 (far8 r0 (by omega) _ _ _ _ _ _ _ _) (by omega) _ _ _ _ _ _ _ _, far8 (far8 r1 (by omega) _ _ _ _ _ _ _ _) (by omega) _ _ _ _ _ _ _ _, far8 (far8 r2 (by omega) _ _ _ _ _ _ _ _) (by omega) _ _ _ _ _ _ _ _, far8 (far8 r3 (by omega) _ _ _ _ _ _ _ _) (by omega) _ _ _ _ _ _ _ _, gn8 (gn8 g9 (by omega) _ _ _ _ _ _ _ _) (by omega) _ _ _ _ _ _ _ _, by omega, by omega, by omega, by omega⟩
set_option maxHeartbeats 2000000 in
theorem near2 (m k : Nat) (hm : m ≤ 65538) (hk : k = (m + 63) / 64) (pa ph pb : Nat → Bool) (a0 a1 a2 h0 h1 h2 b0 b1 b2 : Nat) (w : World) (a0r : Row w 33 a0 k (fr pa m 0)) (a1r : Row w 33 a1 k (fr pa m 1)) (a2r : Row w 33 a2 k (fr pa m 2)) (h0r : Row w 33 h0 k (fr ph m 0)) (h1r : Row w 33 h1 k (fr ph m 1)) (h2r : Row w 33 h2 k (fr ph m 2)) (b0r : Row w 33 b0 k (fr pb m 0)) (b1r : Row w 33 b1 k (fr pb m 1)) (b2r : Row w 33 b2 k (fr pb m 2)) :
    Calls Tryd.prog 26 #[.int .u8 2, .agg #[.int .i64 (m : Nat), .slice (some ⟨a0, 0, none⟩) k k, .int .i64 (m : Nat), .slice (some ⟨a1, 0, none⟩) k k, .int .i64 (m : Nat), .slice (some ⟨a2, 0, none⟩) k k], .agg #[.int .i64 (m : Nat), .slice (some ⟨h0, 0, none⟩) k k, .int .i64 (m : Nat), .slice (some ⟨h1, 0, none⟩) k k, .int .i64 (m : Nat), .slice (some ⟨h2, 0, none⟩) k k], .agg #[.int .i64 (m : Nat), .slice (some ⟨b0, 0, none⟩) k k, .int .i64 (m : Nat), .slice (some ⟨b1, 0, none⟩) k k, .int .i64 (m : Nat), .slice (some ⟨b2, 0, none⟩) k k]] w fun e w' => ∃ c0 c1 c2 c3, e = .returned (.agg #[.int .i64 (m : Nat), .slice (some ⟨c0, 0, none⟩) k k, .int .i64 (m : Nat), .slice (some ⟨c1, 0, none⟩) k k, .int .i64 (m : Nat), .slice (some ⟨c2, 0, none⟩) k k, .int .i64 (m : Nat), .slice (some ⟨c3, 0, none⟩) k k]) ∧ Row w' 33 c0 k (Wo.dgF (nb 2 pa ph pb m) 4 0) ∧ Row w' 33 c1 k (Wo.dgF (nb 2 pa ph pb m) 4 1) ∧ Row w' 33 c2 k (Wo.dgF (nb 2 pa ph pb m) 4 2) ∧ Row w' 33 c3 k (Wo.dgF (nb 2 pa ph pb m) 4 3) ∧ w.grownBy w' none ∧ w.heap.size ≤ c0 ∧ w.heap.size ≤ c1 ∧ w.heap.size ≤ c2 ∧ w.heap.size ≤ c3 := by
  obtain ⟨W1, hW1, sz1, g1, B1⟩ := boxn w #[.int .i64 (m : Nat), .slice (some ⟨a0, 0, none⟩) k k, .int .i64 (m : Nat), .slice (some ⟨a1, 0, none⟩) k k, .int .i64 (m : Nat), .slice (some ⟨a2, 0, none⟩) k k] 51
  obtain ⟨W2, hW2, sz2, g2, B2⟩ := boxn W1 #[.int .i64 (m : Nat), .slice (some ⟨h0, 0, none⟩) k k, .int .i64 (m : Nat), .slice (some ⟨h1, 0, none⟩) k k, .int .i64 (m : Nat), .slice (some ⟨h2, 0, none⟩) k k] 51
  obtain ⟨W3, hW3, sz3, g3, B3⟩ := boxn W2 #[.int .i64 (m : Nat), .slice (some ⟨b0, 0, none⟩) k k, .int .i64 (m : Nat), .slice (some ⟨b1, 0, none⟩) k k, .int .i64 (m : Nat), .slice (some ⟨b2, 0, none⟩) k k] 51
  obtain ⟨W4, hW4, sz4, g4, B4⟩ := boxn W3 #[.int .i64 0, .slice none 0 0, .int .i64 0, .slice none 0 0, .int .i64 0, .slice none 0 0, .int .i64 0, .slice none 0 0] 61
  obtain ⟨W5, hW5, sz5, g5, B5⟩ := boxn W4 #[.int .i64 0, .slice none 0 0, .int .i64 0, .slice none 0 0, .int .i64 0, .slice none 0 0, .int .i64 0, .slice none 0 0] 61
  obtain ⟨W6, hW6, sz6, g6, HV⟩ := boxn W5 #[.int .i64 (m : Nat), .slice (some ⟨a1, 0, none⟩) k k, .int .i64 (m : Nat), .slice (some ⟨h0, 0, none⟩) k k, .int .i64 (m : Nat), .slice (some ⟨h2, 0, none⟩) k k, .int .i64 (m : Nat), .slice (some ⟨b1, 0, none⟩) k k] 27
  have G6 : w.grownBy W6 none := gb_trans g1 (gb_trans g2 (gb_trans g3 (gb_trans g4 (gb_trans g5 g6))))
  have G4 : w.grownBy W3 none := gb_trans g1 (gb_trans g2 g3)
  have hRw : Wo.Rws W6 W5.heap.size 4 (fun j => ⟨m, some ⟨(if j = 0 then a1 else if j = 1 then h0 else if j = 2 then h2 else b1), 0, none⟩, k, k, Pk.pack (nb 2 pa ph pb m j)⟩) := by
    intro j hj
    rcases (show j = 0 ∨ j = 1 ∨ j = 2 ∨ j = 3 by omega) with rfl | rfl | rfl | rfl
    · exact ⟨HV.cell 0 rfl, HV.cell 1 rfl, ⟨(a1r.kept G6 (by simp)).wd, fun k _ => Pk.pack_lt _ _, by show k ≤ _; omega⟩⟩
    · exact ⟨HV.cell 2 rfl, HV.cell 3 rfl, ⟨(h0r.kept G6 (by simp)).wd, fun k _ => Pk.pack_lt _ _, by show k ≤ _; omega⟩⟩
    · exact ⟨HV.cell 4 rfl, HV.cell 5 rfl, ⟨(h2r.kept G6 (by simp)).wd, fun k _ => Pk.pack_lt _ _, by show k ≤ _; omega⟩⟩
    · exact ⟨HV.cell 6 rfl, HV.cell 7 rfl, ⟨(b1r.kept G6 (by simp)).wd, fun k _ => Pk.pack_lt _ _, by show k ≤ _; omega⟩⟩
  have hcc := fun w h => Wo.countC (nb 2 pa ph pb m) W5.heap.size 4 4 k m (some ⟨W5.heap.size, 0, none⟩) (fun _ => k) (fun j => some ⟨(if j = 0 then a1 else if j = 1 then h0 else if j = 2 then h2 else b1), 0, none⟩) (fun _ => rfl) (by decide) hm hk (fun h => absurd h (by decide)) (fun j _ => nb_may 2 pa ph pb m k hm hk j) w h
  have HC := hcc W6 hRw
  clear hcc hRw hk hm
  have Ka := B1.kept (gb_trans g2 (gb_trans g3 (gb_trans g4 g5))) (by simp)
  have ac0 := Ka.cell 0 (v := .int .i64 (m : Nat)) rfl
  have ac1 := Ka.cell 1 (v := .slice (some ⟨a0, 0, none⟩) k k) rfl
  have ac2 := Ka.cell 2 (v := .int .i64 (m : Nat)) rfl
  have ac3 := Ka.cell 3 (v := .slice (some ⟨a1, 0, none⟩) k k) rfl
  have ac4 := Ka.cell 4 (v := .int .i64 (m : Nat)) rfl
  have ac5 := Ka.cell 5 (v := .slice (some ⟨a2, 0, none⟩) k k) rfl
  have Kh := B2.kept (gb_trans g3 (gb_trans g4 g5)) (by simp)
  have hc0 := Kh.cell 0 (v := .int .i64 (m : Nat)) rfl
  have hc1 := Kh.cell 1 (v := .slice (some ⟨h0, 0, none⟩) k k) rfl
  have hc2 := Kh.cell 2 (v := .int .i64 (m : Nat)) rfl
  have hc3 := Kh.cell 3 (v := .slice (some ⟨h1, 0, none⟩) k k) rfl
  have hc4 := Kh.cell 4 (v := .int .i64 (m : Nat)) rfl
  have hc5 := Kh.cell 5 (v := .slice (some ⟨h2, 0, none⟩) k k) rfl
  have Kb := B3.kept (gb_trans g4 g5) (by simp)
  have bc0 := Kb.cell 0 (v := .int .i64 (m : Nat)) rfl
  have bc1 := Kb.cell 1 (v := .slice (some ⟨b0, 0, none⟩) k k) rfl
  have bc2 := Kb.cell 2 (v := .int .i64 (m : Nat)) rfl
  have bc3 := Kb.cell 3 (v := .slice (some ⟨b1, 0, none⟩) k k) rfl
  have bc4 := Kb.cell 4 (v := .int .i64 (m : Nat)) rfl
  have bc5 := Kb.cell 5 (v := .slice (some ⟨b2, 0, none⟩) k k) rfl
  have l1 : w.heap.size < W1.heap.size := by have := sz1.out; omega
  have l2 : W1.heap.size < W2.heap.size := by have := sz2.out; omega
  have l3 : W2.heap.size < W3.heap.size := by have := sz3.out; omega
  have l4 : W3.heap.size < W4.heap.size := by have := sz4.out; omega
  have l5 : W4.heap.size < W5.heap.size := by have := sz5.out; omega
  have l6 : W5.heap.size < W6.heap.size := by have := sz6.out; omega
  have n43 : W4.heap.size ≠ W3.heap.size := by omega
  have n34 : W3.heap.size ≠ W4.heap.size := by omega
  go_enter Tryd.func26, Tryd.ntmps26
  go_wp2_with (go_at_call 34; refine HC.mono ?_; rintro e V ⟨c0, c1, c2, c3, rfl, r0, r1, r2, r3, gV, lc0, lc1, lc2, lc3⟩; have BC := (B5.kept g6 (by simp)).kept gV (by simp); have BR := (B4.kept (gb_trans g5 g6) (by simp)).kept gV (by simp); have u0 := BC.cell 0 (v := .int .i64 0) rfl; have fu0 := BC.frozen 0; have v0 := BR.cell 0 (v := .int .i64 0) rfl; have fv0 := BR.frozen 0; have u1 := BC.cell 1 (v := .slice none 0 0) rfl; have fu1 := BC.frozen 1; have v1 := BR.cell 1 (v := .slice none 0 0) rfl; have fv1 := BR.frozen 1; have u2 := BC.cell 2 (v := .int .i64 0) rfl; have fu2 := BC.frozen 2; have v2 := BR.cell 2 (v := .int .i64 0) rfl; have fv2 := BR.frozen 2; have u3 := BC.cell 3 (v := .slice none 0 0) rfl; have fu3 := BC.frozen 3; have v3 := BR.cell 3 (v := .slice none 0 0) rfl; have fv3 := BR.frozen 3; have u4 := BC.cell 4 (v := .int .i64 0) rfl; have fu4 := BC.frozen 4; have v4 := BR.cell 4 (v := .int .i64 0) rfl; have fv4 := BR.frozen 4; have u5 := BC.cell 5 (v := .slice none 0 0) rfl; have fu5 := BC.frozen 5; have v5 := BR.cell 5 (v := .slice none 0 0) rfl; have fv5 := BR.frozen 5; have u6 := BC.cell 6 (v := .int .i64 0) rfl; have fu6 := BC.frozen 6; have v6 := BR.cell 6 (v := .int .i64 0) rfl; have fv6 := BR.frozen 6; have u7 := BC.cell 7 (v := .slice none 0 0) rfl; have fu7 := BC.frozen 7; have v7 := BR.cell 7 (v := .slice none 0 0) rfl; have fv7 := BR.frozen 7)
  have g9 : w.grownBy V none := gb_trans G6 gV
  have zs := gV.size
  refine ret_a1 (g := W3.heap.size) (t := 61) rfl underC4 (by kernel_rfl) rfl (bo8 (bof8 BR n43 _ _ _ _ _ _ _ _) _ _ _ _ _ _ _ _) rfl ?_
  exact ⟨c0, c1, c2, c3, rfl, far8 (far8 r0 (by omega) _ _ _ _ _ _ _ _) (by omega) _ _ _ _ _ _ _ _, far8 (far8 r1 (by omega) _ _ _ _ _ _ _ _) (by omega) _ _ _ _ _ _ _ _, far8 (far8 r2 (by omega) _ _ _ _ _ _ _ _) (by omega) _ _ _ _ _ _ _ _, far8 (far8 r3 (by omega) _ _ _ _ _ _ _ _) (by omega) _ _ _ _ _ _ _ _, gn8 (gn8 g9 (by omega) _ _ _ _ _ _ _ _) (by omega) _ _ _ _ _ _ _ _, by omega, by omega, by omega, by omega⟩
set_option maxHeartbeats 2000000 in
theorem near3 (m k : Nat) (hm : m ≤ 65538) (hk : k = (m + 63) / 64) (pa ph pb : Nat → Bool) (a0 a1 a2 h0 h1 h2 b0 b1 b2 : Nat) (w : World) (a0r : Row w 33 a0 k (fr pa m 0)) (a1r : Row w 33 a1 k (fr pa m 1)) (a2r : Row w 33 a2 k (fr pa m 2)) (h0r : Row w 33 h0 k (fr ph m 0)) (h1r : Row w 33 h1 k (fr ph m 1)) (h2r : Row w 33 h2 k (fr ph m 2)) (b0r : Row w 33 b0 k (fr pb m 0)) (b1r : Row w 33 b1 k (fr pb m 1)) (b2r : Row w 33 b2 k (fr pb m 2)) :
    Calls Tryd.prog 26 #[.int .u8 3, .agg #[.int .i64 (m : Nat), .slice (some ⟨a0, 0, none⟩) k k, .int .i64 (m : Nat), .slice (some ⟨a1, 0, none⟩) k k, .int .i64 (m : Nat), .slice (some ⟨a2, 0, none⟩) k k], .agg #[.int .i64 (m : Nat), .slice (some ⟨h0, 0, none⟩) k k, .int .i64 (m : Nat), .slice (some ⟨h1, 0, none⟩) k k, .int .i64 (m : Nat), .slice (some ⟨h2, 0, none⟩) k k], .agg #[.int .i64 (m : Nat), .slice (some ⟨b0, 0, none⟩) k k, .int .i64 (m : Nat), .slice (some ⟨b1, 0, none⟩) k k, .int .i64 (m : Nat), .slice (some ⟨b2, 0, none⟩) k k]] w fun e w' => ∃ c0 c1 c2 c3, e = .returned (.agg #[.int .i64 (m : Nat), .slice (some ⟨c0, 0, none⟩) k k, .int .i64 (m : Nat), .slice (some ⟨c1, 0, none⟩) k k, .int .i64 (m : Nat), .slice (some ⟨c2, 0, none⟩) k k, .int .i64 (m : Nat), .slice (some ⟨c3, 0, none⟩) k k]) ∧ Row w' 33 c0 k (Wo.dgF (nb 3 pa ph pb m) 6 0) ∧ Row w' 33 c1 k (Wo.dgF (nb 3 pa ph pb m) 6 1) ∧ Row w' 33 c2 k (Wo.dgF (nb 3 pa ph pb m) 6 2) ∧ Row w' 33 c3 k (Wo.dgF (nb 3 pa ph pb m) 6 3) ∧ w.grownBy w' none ∧ w.heap.size ≤ c0 ∧ w.heap.size ≤ c1 ∧ w.heap.size ≤ c2 ∧ w.heap.size ≤ c3 := by
  obtain ⟨W1, hW1, sz1, g1, B1⟩ := boxn w #[.int .i64 (m : Nat), .slice (some ⟨a0, 0, none⟩) k k, .int .i64 (m : Nat), .slice (some ⟨a1, 0, none⟩) k k, .int .i64 (m : Nat), .slice (some ⟨a2, 0, none⟩) k k] 51
  obtain ⟨W2, hW2, sz2, g2, B2⟩ := boxn W1 #[.int .i64 (m : Nat), .slice (some ⟨h0, 0, none⟩) k k, .int .i64 (m : Nat), .slice (some ⟨h1, 0, none⟩) k k, .int .i64 (m : Nat), .slice (some ⟨h2, 0, none⟩) k k] 51
  obtain ⟨W3, hW3, sz3, g3, B3⟩ := boxn W2 #[.int .i64 (m : Nat), .slice (some ⟨b0, 0, none⟩) k k, .int .i64 (m : Nat), .slice (some ⟨b1, 0, none⟩) k k, .int .i64 (m : Nat), .slice (some ⟨b2, 0, none⟩) k k] 51
  obtain ⟨W4, hW4, sz4, g4, B4⟩ := boxn W3 #[.int .i64 0, .slice none 0 0, .int .i64 0, .slice none 0 0, .int .i64 0, .slice none 0 0, .int .i64 0, .slice none 0 0] 61
  obtain ⟨W5, hW5, sz5, g5, B5⟩ := boxn W4 #[.int .i64 0, .slice none 0 0, .int .i64 0, .slice none 0 0, .int .i64 0, .slice none 0 0, .int .i64 0, .slice none 0 0] 61
  obtain ⟨W6, hW6, sz6, g6, HV⟩ := boxn W5 #[.int .i64 (m : Nat), .slice (some ⟨a0, 0, none⟩) k k, .int .i64 (m : Nat), .slice (some ⟨a1, 0, none⟩) k k, .int .i64 (m : Nat), .slice (some ⟨h0, 0, none⟩) k k, .int .i64 (m : Nat), .slice (some ⟨h2, 0, none⟩) k k, .int .i64 (m : Nat), .slice (some ⟨b1, 0, none⟩) k k, .int .i64 (m : Nat), .slice (some ⟨b2, 0, none⟩) k k] 27
  have G6 : w.grownBy W6 none := gb_trans g1 (gb_trans g2 (gb_trans g3 (gb_trans g4 (gb_trans g5 g6))))
  have G4 : w.grownBy W3 none := gb_trans g1 (gb_trans g2 g3)
  have hRw : Wo.Rws W6 W5.heap.size 6 (fun j => ⟨m, some ⟨(if j = 0 then a0 else if j = 1 then a1 else if j = 2 then h0 else if j = 3 then h2 else if j = 4 then b1 else b2), 0, none⟩, k, k, Pk.pack (nb 3 pa ph pb m j)⟩) := by
    intro j hj
    rcases (show j = 0 ∨ j = 1 ∨ j = 2 ∨ j = 3 ∨ j = 4 ∨ j = 5 by omega) with rfl | rfl | rfl | rfl | rfl | rfl
    · exact ⟨HV.cell 0 rfl, HV.cell 1 rfl, ⟨(a0r.kept G6 (by simp)).wd, fun k _ => Pk.pack_lt _ _, by show k ≤ _; omega⟩⟩
    · exact ⟨HV.cell 2 rfl, HV.cell 3 rfl, ⟨(a1r.kept G6 (by simp)).wd, fun k _ => Pk.pack_lt _ _, by show k ≤ _; omega⟩⟩
    · exact ⟨HV.cell 4 rfl, HV.cell 5 rfl, ⟨(h0r.kept G6 (by simp)).wd, fun k _ => Pk.pack_lt _ _, by show k ≤ _; omega⟩⟩
    · exact ⟨HV.cell 6 rfl, HV.cell 7 rfl, ⟨(h2r.kept G6 (by simp)).wd, fun k _ => Pk.pack_lt _ _, by show k ≤ _; omega⟩⟩
    · exact ⟨HV.cell 8 rfl, HV.cell 9 rfl, ⟨(b1r.kept G6 (by simp)).wd, fun k _ => Pk.pack_lt _ _, by show k ≤ _; omega⟩⟩
    · exact ⟨HV.cell 10 rfl, HV.cell 11 rfl, ⟨(b2r.kept G6 (by simp)).wd, fun k _ => Pk.pack_lt _ _, by show k ≤ _; omega⟩⟩
  have hcc := fun w h => Wo.countC (nb 3 pa ph pb m) W5.heap.size 6 6 k m (some ⟨W5.heap.size, 0, none⟩) (fun _ => k) (fun j => some ⟨(if j = 0 then a0 else if j = 1 then a1 else if j = 2 then h0 else if j = 3 then h2 else if j = 4 then b1 else b2), 0, none⟩) (fun _ => rfl) (by decide) hm hk (fun h => absurd h (by decide)) (fun j _ => nb_may 3 pa ph pb m k hm hk j) w h
  have HC := hcc W6 hRw
  clear hcc hRw hk hm
  have Ka := B1.kept (gb_trans g2 (gb_trans g3 (gb_trans g4 g5))) (by simp)
  have ac0 := Ka.cell 0 (v := .int .i64 (m : Nat)) rfl
  have ac1 := Ka.cell 1 (v := .slice (some ⟨a0, 0, none⟩) k k) rfl
  have ac2 := Ka.cell 2 (v := .int .i64 (m : Nat)) rfl
  have ac3 := Ka.cell 3 (v := .slice (some ⟨a1, 0, none⟩) k k) rfl
  have ac4 := Ka.cell 4 (v := .int .i64 (m : Nat)) rfl
  have ac5 := Ka.cell 5 (v := .slice (some ⟨a2, 0, none⟩) k k) rfl
  have Kh := B2.kept (gb_trans g3 (gb_trans g4 g5)) (by simp)
  have hc0 := Kh.cell 0 (v := .int .i64 (m : Nat)) rfl
  have hc1 := Kh.cell 1 (v := .slice (some ⟨h0, 0, none⟩) k k) rfl
  have hc2 := Kh.cell 2 (v := .int .i64 (m : Nat)) rfl
  have hc3 := Kh.cell 3 (v := .slice (some ⟨h1, 0, none⟩) k k) rfl
  have hc4 := Kh.cell 4 (v := .int .i64 (m : Nat)) rfl
  have hc5 := Kh.cell 5 (v := .slice (some ⟨h2, 0, none⟩) k k) rfl
  have Kb := B3.kept (gb_trans g4 g5) (by simp)
  have bc0 := Kb.cell 0 (v := .int .i64 (m : Nat)) rfl
  have bc1 := Kb.cell 1 (v := .slice (some ⟨b0, 0, none⟩) k k) rfl
  have bc2 := Kb.cell 2 (v := .int .i64 (m : Nat)) rfl
  have bc3 := Kb.cell 3 (v := .slice (some ⟨b1, 0, none⟩) k k) rfl
  have bc4 := Kb.cell 4 (v := .int .i64 (m : Nat)) rfl
  have bc5 := Kb.cell 5 (v := .slice (some ⟨b2, 0, none⟩) k k) rfl
  have l1 : w.heap.size < W1.heap.size := by have := sz1.out; omega
  have l2 : W1.heap.size < W2.heap.size := by have := sz2.out; omega
  have l3 : W2.heap.size < W3.heap.size := by have := sz3.out; omega
  have l4 : W3.heap.size < W4.heap.size := by have := sz4.out; omega
  have l5 : W4.heap.size < W5.heap.size := by have := sz5.out; omega
  have l6 : W5.heap.size < W6.heap.size := by have := sz6.out; omega
  have n43 : W4.heap.size ≠ W3.heap.size := by omega
  have n34 : W3.heap.size ≠ W4.heap.size := by omega
  go_enter Tryd.func26, Tryd.ntmps26
  go_wp2_with (go_at_call 34; refine HC.mono ?_; rintro e V ⟨c0, c1, c2, c3, rfl, r0, r1, r2, r3, gV, lc0, lc1, lc2, lc3⟩; have BC := (B5.kept g6 (by simp)).kept gV (by simp); have BR := (B4.kept (gb_trans g5 g6) (by simp)).kept gV (by simp); have u0 := BC.cell 0 (v := .int .i64 0) rfl; have fu0 := BC.frozen 0; have v0 := BR.cell 0 (v := .int .i64 0) rfl; have fv0 := BR.frozen 0; have u1 := BC.cell 1 (v := .slice none 0 0) rfl; have fu1 := BC.frozen 1; have v1 := BR.cell 1 (v := .slice none 0 0) rfl; have fv1 := BR.frozen 1; have u2 := BC.cell 2 (v := .int .i64 0) rfl; have fu2 := BC.frozen 2; have v2 := BR.cell 2 (v := .int .i64 0) rfl; have fv2 := BR.frozen 2; have u3 := BC.cell 3 (v := .slice none 0 0) rfl; have fu3 := BC.frozen 3; have v3 := BR.cell 3 (v := .slice none 0 0) rfl; have fv3 := BR.frozen 3; have u4 := BC.cell 4 (v := .int .i64 0) rfl; have fu4 := BC.frozen 4; have v4 := BR.cell 4 (v := .int .i64 0) rfl; have fv4 := BR.frozen 4; have u5 := BC.cell 5 (v := .slice none 0 0) rfl; have fu5 := BC.frozen 5; have v5 := BR.cell 5 (v := .slice none 0 0) rfl; have fv5 := BR.frozen 5; have u6 := BC.cell 6 (v := .int .i64 0) rfl; have fu6 := BC.frozen 6; have v6 := BR.cell 6 (v := .int .i64 0) rfl; have fv6 := BR.frozen 6; have u7 := BC.cell 7 (v := .slice none 0 0) rfl; have fu7 := BC.frozen 7; have v7 := BR.cell 7 (v := .slice none 0 0) rfl; have fv7 := BR.frozen 7)
  have g9 : w.grownBy V none := gb_trans G6 gV
  have zs := gV.size
  refine ret_a1 (g := W3.heap.size) (t := 61) rfl underC4 (by kernel_rfl) rfl (bo8 (bof8 BR n43 _ _ _ _ _ _ _ _) _ _ _ _ _ _ _ _) rfl ?_
  exact ⟨c0, c1, c2, c3, rfl, far8 (far8 r0 (by omega) _ _ _ _ _ _ _ _) (by omega) _ _ _ _ _ _ _ _, far8 (far8 r1 (by omega) _ _ _ _ _ _ _ _) (by omega) _ _ _ _ _ _ _ _, far8 (far8 r2 (by omega) _ _ _ _ _ _ _ _) (by omega) _ _ _ _ _ _ _ _, far8 (far8 r3 (by omega) _ _ _ _ _ _ _ _) (by omega) _ _ _ _ _ _ _ _, gn8 (gn8 g9 (by omega) _ _ _ _ _ _ _ _) (by omega) _ _ _ _ _ _ _ _, by omega, by omega, by omega, by omega⟩
end Go.Proofs.YtkgipjabkalnaaaDoor.Pd
