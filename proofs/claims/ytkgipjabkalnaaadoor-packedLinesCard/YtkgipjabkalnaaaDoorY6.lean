/- The cells of a row one generation later, by what they see. -/
import Derived.Test.YtkgipjabkalnaaaDoorY5
namespace Go.Proofs.YtkgipjabkalnaaaDoor.Pd
open Go.RowKit
set_option linter.unusedVariables false
set_option linter.unusedSimpArgs false
set_option maxRecDepth 100000

theorem dg_may (P : Nat → Nat → Bool) (n m k d : Nat) (hm : m ≤ 65538) (hk : k = (m + 63) / 64) (h : ∀ j, MayBe m k (P j)) : MayBe m k (Wo.dgF P n d) := ⟨hm, hk, fun i hi => by
  unfold Wo.dgF
  have h0 : ∀ n, Wo.cn P n i = 0 := fun n => by
    induction n with
    | zero => rfl
    | succ n ih => rw [Wo.cn, ih, (h n).tail i hi]; rfl
  rw [h0]; simp⟩
set_option maxHeartbeats 2000000 in
theorem next1 (bo st m k : Nat) (hb : bo < 65536) (hs : st < 65536) (hm : m ≤ 65538) (hk : k = (m + 63) / 64) (pa ph pb : Nat → Bool) (a0 a1 a2 h0 h1 h2 b0 b1 b2 : Nat) (w : World) (a0r : Row w 33 a0 k (fr pa m 0)) (a1r : Row w 33 a1 k (fr pa m 1)) (a2r : Row w 33 a2 k (fr pa m 2)) (h0r : Row w 33 h0 k (fr ph m 0)) (h1r : Row w 33 h1 k (fr ph m 1)) (h2r : Row w 33 h2 k (fr ph m 2)) (b0r : Row w 33 b0 k (fr pb m 0)) (b1r : Row w 33 b1 k (fr pb m 1)) (b2r : Row w 33 b2 k (fr pb m 2)) :
    Calls Tryd.prog 17 #[.agg #[.int .u8 1, .int .u16 (bo : Nat), .int .u16 (st : Nat)], .agg #[.int .i64 (m : Nat), .slice (some ⟨a0, 0, none⟩) k k, .int .i64 (m : Nat), .slice (some ⟨a1, 0, none⟩) k k, .int .i64 (m : Nat), .slice (some ⟨a2, 0, none⟩) k k], .agg #[.int .i64 (m : Nat), .slice (some ⟨h0, 0, none⟩) k k, .int .i64 (m : Nat), .slice (some ⟨h1, 0, none⟩) k k, .int .i64 (m : Nat), .slice (some ⟨h2, 0, none⟩) k k], .agg #[.int .i64 (m : Nat), .slice (some ⟨b0, 0, none⟩) k k, .int .i64 (m : Nat), .slice (some ⟨b1, 0, none⟩) k k, .int .i64 (m : Nat), .slice (some ⟨b2, 0, none⟩) k k]] w fun e w' => ∃ z, e = .returned (.agg #[.int .i64 (m : Nat), .slice (some ⟨z, 0, none⟩) k k]) ∧ Row w' 33 z k (ln 1 bo st pa ph pb m) ∧ w.grownBy w' none ∧ w.heap.size ≤ z := by
  obtain ⟨W1, hW1, sz1, g1, B1⟩ := boxn w #[.int .u8 1, .int .u16 (bo : Nat), .int .u16 (st : Nat)] 24
  obtain ⟨W2, hW2, sz2, g2, B2⟩ := boxn W1 #[.int .i64 (m : Nat), .slice (some ⟨a0, 0, none⟩) k k, .int .i64 (m : Nat), .slice (some ⟨a1, 0, none⟩) k k, .int .i64 (m : Nat), .slice (some ⟨a2, 0, none⟩) k k] 51
  obtain ⟨W3, hW3, sz3, g3, B3⟩ := boxn W2 #[.int .i64 (m : Nat), .slice (some ⟨h0, 0, none⟩) k k, .int .i64 (m : Nat), .slice (some ⟨h1, 0, none⟩) k k, .int .i64 (m : Nat), .slice (some ⟨h2, 0, none⟩) k k] 51
  obtain ⟨W4, hW4, sz4, g4, B4⟩ := boxn W3 #[.int .i64 (m : Nat), .slice (some ⟨b0, 0, none⟩) k k, .int .i64 (m : Nat), .slice (some ⟨b1, 0, none⟩) k k, .int .i64 (m : Nat), .slice (some ⟨b2, 0, none⟩) k k] 51
  obtain ⟨W5, hW5, e0, e1, sz5, g5, B5⟩ := box2 W4 (.int .i64 0) (.slice none 0 0) 27
  have HK : Hid (k = (m + 63) / 64) := hk
  clear hk
  have D1 : Bo W5.drew w.heap.size 24 #[.int .u8 1, .int .u16 (bo : Nat), .int .u16 (st : Nat)] := B1.kept (gb_drew (gb_trans g2 (gb_trans g3 (gb_trans g4 g5)))) (by simp)
  have D2 : Bo W5.drew W1.heap.size 51 #[.int .i64 (m : Nat), .slice (some ⟨a0, 0, none⟩) k k, .int .i64 (m : Nat), .slice (some ⟨a1, 0, none⟩) k k, .int .i64 (m : Nat), .slice (some ⟨a2, 0, none⟩) k k] := B2.kept (gb_drew (gb_trans g3 (gb_trans g4 g5))) (by simp)
  have D3 : Bo W5.drew W2.heap.size 51 #[.int .i64 (m : Nat), .slice (some ⟨h0, 0, none⟩) k k, .int .i64 (m : Nat), .slice (some ⟨h1, 0, none⟩) k k, .int .i64 (m : Nat), .slice (some ⟨h2, 0, none⟩) k k] := B3.kept (gb_drew (gb_trans g4 g5)) (by simp)
  have D4 : Bo W5.drew W3.heap.size 51 #[.int .i64 (m : Nat), .slice (some ⟨b0, 0, none⟩) k k, .int .i64 (m : Nat), .slice (some ⟨b1, 0, none⟩) k k, .int .i64 (m : Nat), .slice (some ⟨b2, 0, none⟩) k k] := B4.kept (gb_drew g5) (by simp)
  have D5 : Bx W5.drew W4.heap.size 27 (.int .i64 0) (.slice none 0 0) := B5
  have G0 : w.grownBy W5.drew none := gb_drew (gb_trans g1 (gb_trans g2 (gb_trans g3 (gb_trans g4 g5))))
  have l1 : w.heap.size < W1.heap.size := by have := sz1.out; omega
  have l2 : W1.heap.size < W2.heap.size := by have := sz2.out; omega
  have l3 : W2.heap.size < W3.heap.size := by have := sz3.out; omega
  have l4 : W3.heap.size < W4.heap.size := by have := sz4.out; omega
  have n1 : W4.heap.size ≠ w.heap.size := by omega
  have n2 : W4.heap.size ≠ W1.heap.size := by omega
  have n3 : W4.heap.size ≠ W2.heap.size := by omega
  have n4 : W4.heap.size ≠ W3.heap.size := by omega
  have x0_0 := D1.cell 0 (v := .int .u8 1) rfl
  have x0_1 := D1.cell 1 (v := .int .u16 (bo : Nat)) rfl
  have x0_2 := D1.cell 2 (v := .int .u16 (st : Nat)) rfl
  have x1_0 := D2.cell 0 (v := .int .i64 (m : Nat)) rfl
  have x1_1 := D2.cell 1 (v := .slice (some ⟨a0, 0, none⟩) k k) rfl
  have x1_2 := D2.cell 2 (v := .int .i64 (m : Nat)) rfl
  have x1_3 := D2.cell 3 (v := .slice (some ⟨a1, 0, none⟩) k k) rfl
  have x1_4 := D2.cell 4 (v := .int .i64 (m : Nat)) rfl
  have x1_5 := D2.cell 5 (v := .slice (some ⟨a2, 0, none⟩) k k) rfl
  have x2_0 := D3.cell 0 (v := .int .i64 (m : Nat)) rfl
  have x2_1 := D3.cell 1 (v := .slice (some ⟨h0, 0, none⟩) k k) rfl
  have x2_2 := D3.cell 2 (v := .int .i64 (m : Nat)) rfl
  have x2_3 := D3.cell 3 (v := .slice (some ⟨h1, 0, none⟩) k k) rfl
  have x2_4 := D3.cell 4 (v := .int .i64 (m : Nat)) rfl
  have x2_5 := D3.cell 5 (v := .slice (some ⟨h2, 0, none⟩) k k) rfl
  have x3_0 := D4.cell 0 (v := .int .i64 (m : Nat)) rfl
  have x3_1 := D4.cell 1 (v := .slice (some ⟨b0, 0, none⟩) k k) rfl
  have x3_2 := D4.cell 2 (v := .int .i64 (m : Nat)) rfl
  have x3_3 := D4.cell 3 (v := .slice (some ⟨b1, 0, none⟩) k k) rfl
  have x3_4 := D4.cell 4 (v := .int .i64 (m : Nat)) rfl
  have x3_5 := D4.cell 5 (v := .slice (some ⟨b2, 0, none⟩) k k) rfl
  have hne := near1 m k hm HK.out pa ph pb a0 a1 a2 h0 h1 h2 b0 b1 b2 W5.drew (a0r.kept G0 (by simp)) (a1r.kept G0 (by simp)) (a2r.kept G0 (by simp)) (h0r.kept G0 (by simp)) (h1r.kept G0 (by simp)) (h2r.kept G0 (by simp)) (b0r.kept G0 (by simp)) (b1r.kept G0 (by simp)) (b2r.kept G0 (by simp))
  have hto := fun c0 c1 c2 c3 w hr r0 r1 r2 r3 => toldC 1 bo st m k hb hs hm HK.out (fr ph m 1) (Wo.dgF (nb 1 pa ph pb m) 8) h1 c0 c1 c2 c3 w hr (fr_may ph m k 1 hm HK.out) (fun d _ => dg_may _ _ _ _ _ hm HK.out (fun j => nb_may 1 pa ph pb m k hm HK.out j)) r0 r1 r2 r3
  have h1k := h1r.kept G0 (by simp)
  clear a0r a1r a2r h0r h1r h2r b0r b1r b2r B1 B2 B3 B4 B5
  go_enter Tryd.func17, Tryd.ntmps17
  go_wp2
  go_region_held2 (fun w' => w'.cell? ⟨w.heap.size, 0, none⟩ = some (.int .u8 1) ∧ w'.cell? ⟨w.heap.size, 1, none⟩ = some (.int .u16 (bo : Nat)) ∧ w'.cell? ⟨w.heap.size, 2, none⟩ = some (.int .u16 (st : Nat)) ∧ w'.cell? ⟨W1.heap.size, 0, none⟩ = some (.int .i64 (m : Nat)) ∧ w'.cell? ⟨W1.heap.size, 1, none⟩ = some (.slice (some ⟨a0, 0, none⟩) k k) ∧ w'.cell? ⟨W1.heap.size, 2, none⟩ = some (.int .i64 (m : Nat)) ∧ w'.cell? ⟨W1.heap.size, 3, none⟩ = some (.slice (some ⟨a1, 0, none⟩) k k) ∧ w'.cell? ⟨W1.heap.size, 4, none⟩ = some (.int .i64 (m : Nat)) ∧ w'.cell? ⟨W1.heap.size, 5, none⟩ = some (.slice (some ⟨a2, 0, none⟩) k k) ∧ w'.cell? ⟨W2.heap.size, 0, none⟩ = some (.int .i64 (m : Nat)) ∧ w'.cell? ⟨W2.heap.size, 1, none⟩ = some (.slice (some ⟨h0, 0, none⟩) k k) ∧ w'.cell? ⟨W2.heap.size, 2, none⟩ = some (.int .i64 (m : Nat)) ∧ w'.cell? ⟨W2.heap.size, 3, none⟩ = some (.slice (some ⟨h1, 0, none⟩) k k) ∧ w'.cell? ⟨W2.heap.size, 4, none⟩ = some (.int .i64 (m : Nat)) ∧ w'.cell? ⟨W2.heap.size, 5, none⟩ = some (.slice (some ⟨h2, 0, none⟩) k k) ∧ w'.cell? ⟨W3.heap.size, 0, none⟩ = some (.int .i64 (m : Nat)) ∧ w'.cell? ⟨W3.heap.size, 1, none⟩ = some (.slice (some ⟨b0, 0, none⟩) k k) ∧ w'.cell? ⟨W3.heap.size, 2, none⟩ = some (.int .i64 (m : Nat)) ∧ w'.cell? ⟨W3.heap.size, 3, none⟩ = some (.slice (some ⟨b1, 0, none⟩) k k) ∧ w'.cell? ⟨W3.heap.size, 4, none⟩ = some (.int .i64 (m : Nat)) ∧ w'.cell? ⟨W3.heap.size, 5, none⟩ = some (.slice (some ⟨b2, 0, none⟩) k k)) (go_keep) (first | (go_at_call 26; refine hne.mono ?_; rintro e V ⟨c0, c1, c2, c3, rfl, r0, r1, r2, r3, gV, lc0, lc1, lc2, lc3⟩; have E1 := D1.kept gV (by simp); have E2 := D2.kept gV (by simp); have E3 := D3.kept gV (by simp); have E4 := D4.kept gV (by simp); have y0_0 := E1.cell 0 (v := .int .u8 1) rfl; have y0_1 := E1.cell 1 (v := .int .u16 (bo : Nat)) rfl; have y0_2 := E1.cell 2 (v := .int .u16 (st : Nat)) rfl; have y1_0 := E2.cell 0 (v := .int .i64 (m : Nat)) rfl; have y1_1 := E2.cell 1 (v := .slice (some ⟨a0, 0, none⟩) k k) rfl; have y1_2 := E2.cell 2 (v := .int .i64 (m : Nat)) rfl; have y1_3 := E2.cell 3 (v := .slice (some ⟨a1, 0, none⟩) k k) rfl; have y1_4 := E2.cell 4 (v := .int .i64 (m : Nat)) rfl; have y1_5 := E2.cell 5 (v := .slice (some ⟨a2, 0, none⟩) k k) rfl; have y2_0 := E3.cell 0 (v := .int .i64 (m : Nat)) rfl; have y2_1 := E3.cell 1 (v := .slice (some ⟨h0, 0, none⟩) k k) rfl; have y2_2 := E3.cell 2 (v := .int .i64 (m : Nat)) rfl; have y2_3 := E3.cell 3 (v := .slice (some ⟨h1, 0, none⟩) k k) rfl; have y2_4 := E3.cell 4 (v := .int .i64 (m : Nat)) rfl; have y2_5 := E3.cell 5 (v := .slice (some ⟨h2, 0, none⟩) k k) rfl; have y3_0 := E4.cell 0 (v := .int .i64 (m : Nat)) rfl; have y3_1 := E4.cell 1 (v := .slice (some ⟨b0, 0, none⟩) k k) rfl; have y3_2 := E4.cell 2 (v := .int .i64 (m : Nat)) rfl; have y3_3 := E4.cell 3 (v := .slice (some ⟨b1, 0, none⟩) k k) rfl; have y3_4 := E4.cell 4 (v := .int .i64 (m : Nat)) rfl; have y3_5 := E4.cell 5 (v := .slice (some ⟨b2, 0, none⟩) k k) rfl) | (go_at_call 25; refine (hto c0 c1 c2 c3 V (h1k.kept gV (by simp)) r0 r1 r2 r3).mono ?_; rintro e X ⟨z, rfl, rz, gX, lz⟩; have F1 := E1.kept gX (by simp); have F2 := E2.kept gX (by simp); have F3 := E3.kept gX (by simp); have F4 := E4.kept gX (by simp); have v0_0 := F1.cell 0 (v := .int .u8 1) rfl; have v0_1 := F1.cell 1 (v := .int .u16 (bo : Nat)) rfl; have v0_2 := F1.cell 2 (v := .int .u16 (st : Nat)) rfl; have v1_0 := F2.cell 0 (v := .int .i64 (m : Nat)) rfl; have v1_1 := F2.cell 1 (v := .slice (some ⟨a0, 0, none⟩) k k) rfl; have v1_2 := F2.cell 2 (v := .int .i64 (m : Nat)) rfl; have v1_3 := F2.cell 3 (v := .slice (some ⟨a1, 0, none⟩) k k) rfl; have v1_4 := F2.cell 4 (v := .int .i64 (m : Nat)) rfl; have v1_5 := F2.cell 5 (v := .slice (some ⟨a2, 0, none⟩) k k) rfl; have v2_0 := F3.cell 0 (v := .int .i64 (m : Nat)) rfl; have v2_1 := F3.cell 1 (v := .slice (some ⟨h0, 0, none⟩) k k) rfl; have v2_2 := F3.cell 2 (v := .int .i64 (m : Nat)) rfl; have v2_3 := F3.cell 3 (v := .slice (some ⟨h1, 0, none⟩) k k) rfl; have v2_4 := F3.cell 4 (v := .int .i64 (m : Nat)) rfl; have v2_5 := F3.cell 5 (v := .slice (some ⟨h2, 0, none⟩) k k) rfl; have v3_0 := F4.cell 0 (v := .int .i64 (m : Nat)) rfl; have v3_1 := F4.cell 1 (v := .slice (some ⟨b0, 0, none⟩) k k) rfl; have v3_2 := F4.cell 2 (v := .int .i64 (m : Nat)) rfl; have v3_3 := F4.cell 3 (v := .slice (some ⟨b1, 0, none⟩) k k) rfl; have v3_4 := F4.cell 4 (v := .int .i64 (m : Nat)) rfl; have v3_5 := F4.cell 5 (v := .slice (some ⟨b2, 0, none⟩) k k) rfl; have D5X := D5.kept (gb_trans gV gX) (by simp); have t0 := D5X.cell0; have t1 := D5X.cell1; have tf0 := D5X.free0; have tf1 := D5X.free1))
  all_goals go_wp2
  all_goals obtain ⟨fs, hfs⟩ := Wo.underR
  all_goals refine ret_box1 (g := W4.heap.size) (t := 27) rfl hfs Wo.infoR rfl (D5X.set _ _) rfl ?_
  all_goals have l5 : W4.heap.size < W5.drew.heap.size := D5.lt
  all_goals have l6 := gV.size
  all_goals have l7 : w.heap.size ≤ W4.heap.size := by omega
  all_goals have n9 : z ≠ W4.heap.size := by omega
  all_goals exact ⟨z, rfl, World.rowIs.setOther (World.rowIs.setOther rz n9 _) n9 _, gb_new (gb_new (gb_trans G0 (gb_trans gV gX)) l7 _) l7 _, by omega⟩
set_option maxHeartbeats 2000000 in
theorem next2 (bo st m k : Nat) (hb : bo < 65536) (hs : st < 65536) (hm : m ≤ 65538) (hk : k = (m + 63) / 64) (pa ph pb : Nat → Bool) (a0 a1 a2 h0 h1 h2 b0 b1 b2 : Nat) (w : World) (a0r : Row w 33 a0 k (fr pa m 0)) (a1r : Row w 33 a1 k (fr pa m 1)) (a2r : Row w 33 a2 k (fr pa m 2)) (h0r : Row w 33 h0 k (fr ph m 0)) (h1r : Row w 33 h1 k (fr ph m 1)) (h2r : Row w 33 h2 k (fr ph m 2)) (b0r : Row w 33 b0 k (fr pb m 0)) (b1r : Row w 33 b1 k (fr pb m 1)) (b2r : Row w 33 b2 k (fr pb m 2)) :
    Calls Tryd.prog 17 #[.agg #[.int .u8 2, .int .u16 (bo : Nat), .int .u16 (st : Nat)], .agg #[.int .i64 (m : Nat), .slice (some ⟨a0, 0, none⟩) k k, .int .i64 (m : Nat), .slice (some ⟨a1, 0, none⟩) k k, .int .i64 (m : Nat), .slice (some ⟨a2, 0, none⟩) k k], .agg #[.int .i64 (m : Nat), .slice (some ⟨h0, 0, none⟩) k k, .int .i64 (m : Nat), .slice (some ⟨h1, 0, none⟩) k k, .int .i64 (m : Nat), .slice (some ⟨h2, 0, none⟩) k k], .agg #[.int .i64 (m : Nat), .slice (some ⟨b0, 0, none⟩) k k, .int .i64 (m : Nat), .slice (some ⟨b1, 0, none⟩) k k, .int .i64 (m : Nat), .slice (some ⟨b2, 0, none⟩) k k]] w fun e w' => ∃ z, e = .returned (.agg #[.int .i64 (m : Nat), .slice (some ⟨z, 0, none⟩) k k]) ∧ Row w' 33 z k (ln 2 bo st pa ph pb m) ∧ w.grownBy w' none ∧ w.heap.size ≤ z := by
  obtain ⟨W1, hW1, sz1, g1, B1⟩ := boxn w #[.int .u8 2, .int .u16 (bo : Nat), .int .u16 (st : Nat)] 24
  obtain ⟨W2, hW2, sz2, g2, B2⟩ := boxn W1 #[.int .i64 (m : Nat), .slice (some ⟨a0, 0, none⟩) k k, .int .i64 (m : Nat), .slice (some ⟨a1, 0, none⟩) k k, .int .i64 (m : Nat), .slice (some ⟨a2, 0, none⟩) k k] 51
  obtain ⟨W3, hW3, sz3, g3, B3⟩ := boxn W2 #[.int .i64 (m : Nat), .slice (some ⟨h0, 0, none⟩) k k, .int .i64 (m : Nat), .slice (some ⟨h1, 0, none⟩) k k, .int .i64 (m : Nat), .slice (some ⟨h2, 0, none⟩) k k] 51
  obtain ⟨W4, hW4, sz4, g4, B4⟩ := boxn W3 #[.int .i64 (m : Nat), .slice (some ⟨b0, 0, none⟩) k k, .int .i64 (m : Nat), .slice (some ⟨b1, 0, none⟩) k k, .int .i64 (m : Nat), .slice (some ⟨b2, 0, none⟩) k k] 51
  obtain ⟨W5, hW5, e0, e1, sz5, g5, B5⟩ := box2 W4 (.int .i64 0) (.slice none 0 0) 27
  have HK : Hid (k = (m + 63) / 64) := hk
  clear hk
  have D1 : Bo W5.drew w.heap.size 24 #[.int .u8 2, .int .u16 (bo : Nat), .int .u16 (st : Nat)] := B1.kept (gb_drew (gb_trans g2 (gb_trans g3 (gb_trans g4 g5)))) (by simp)
  have D2 : Bo W5.drew W1.heap.size 51 #[.int .i64 (m : Nat), .slice (some ⟨a0, 0, none⟩) k k, .int .i64 (m : Nat), .slice (some ⟨a1, 0, none⟩) k k, .int .i64 (m : Nat), .slice (some ⟨a2, 0, none⟩) k k] := B2.kept (gb_drew (gb_trans g3 (gb_trans g4 g5))) (by simp)
  have D3 : Bo W5.drew W2.heap.size 51 #[.int .i64 (m : Nat), .slice (some ⟨h0, 0, none⟩) k k, .int .i64 (m : Nat), .slice (some ⟨h1, 0, none⟩) k k, .int .i64 (m : Nat), .slice (some ⟨h2, 0, none⟩) k k] := B3.kept (gb_drew (gb_trans g4 g5)) (by simp)
  have D4 : Bo W5.drew W3.heap.size 51 #[.int .i64 (m : Nat), .slice (some ⟨b0, 0, none⟩) k k, .int .i64 (m : Nat), .slice (some ⟨b1, 0, none⟩) k k, .int .i64 (m : Nat), .slice (some ⟨b2, 0, none⟩) k k] := B4.kept (gb_drew g5) (by simp)
  have D5 : Bx W5.drew W4.heap.size 27 (.int .i64 0) (.slice none 0 0) := B5
  have G0 : w.grownBy W5.drew none := gb_drew (gb_trans g1 (gb_trans g2 (gb_trans g3 (gb_trans g4 g5))))
  have l1 : w.heap.size < W1.heap.size := by have := sz1.out; omega
  have l2 : W1.heap.size < W2.heap.size := by have := sz2.out; omega
  have l3 : W2.heap.size < W3.heap.size := by have := sz3.out; omega
  have l4 : W3.heap.size < W4.heap.size := by have := sz4.out; omega
  have n1 : W4.heap.size ≠ w.heap.size := by omega
  have n2 : W4.heap.size ≠ W1.heap.size := by omega
  have n3 : W4.heap.size ≠ W2.heap.size := by omega
  have n4 : W4.heap.size ≠ W3.heap.size := by omega
  have x0_0 := D1.cell 0 (v := .int .u8 2) rfl
  have x0_1 := D1.cell 1 (v := .int .u16 (bo : Nat)) rfl
  have x0_2 := D1.cell 2 (v := .int .u16 (st : Nat)) rfl
  have x1_0 := D2.cell 0 (v := .int .i64 (m : Nat)) rfl
  have x1_1 := D2.cell 1 (v := .slice (some ⟨a0, 0, none⟩) k k) rfl
  have x1_2 := D2.cell 2 (v := .int .i64 (m : Nat)) rfl
  have x1_3 := D2.cell 3 (v := .slice (some ⟨a1, 0, none⟩) k k) rfl
  have x1_4 := D2.cell 4 (v := .int .i64 (m : Nat)) rfl
  have x1_5 := D2.cell 5 (v := .slice (some ⟨a2, 0, none⟩) k k) rfl
  have x2_0 := D3.cell 0 (v := .int .i64 (m : Nat)) rfl
  have x2_1 := D3.cell 1 (v := .slice (some ⟨h0, 0, none⟩) k k) rfl
  have x2_2 := D3.cell 2 (v := .int .i64 (m : Nat)) rfl
  have x2_3 := D3.cell 3 (v := .slice (some ⟨h1, 0, none⟩) k k) rfl
  have x2_4 := D3.cell 4 (v := .int .i64 (m : Nat)) rfl
  have x2_5 := D3.cell 5 (v := .slice (some ⟨h2, 0, none⟩) k k) rfl
  have x3_0 := D4.cell 0 (v := .int .i64 (m : Nat)) rfl
  have x3_1 := D4.cell 1 (v := .slice (some ⟨b0, 0, none⟩) k k) rfl
  have x3_2 := D4.cell 2 (v := .int .i64 (m : Nat)) rfl
  have x3_3 := D4.cell 3 (v := .slice (some ⟨b1, 0, none⟩) k k) rfl
  have x3_4 := D4.cell 4 (v := .int .i64 (m : Nat)) rfl
  have x3_5 := D4.cell 5 (v := .slice (some ⟨b2, 0, none⟩) k k) rfl
  have hne := near2 m k hm HK.out pa ph pb a0 a1 a2 h0 h1 h2 b0 b1 b2 W5.drew (a0r.kept G0 (by simp)) (a1r.kept G0 (by simp)) (a2r.kept G0 (by simp)) (h0r.kept G0 (by simp)) (h1r.kept G0 (by simp)) (h2r.kept G0 (by simp)) (b0r.kept G0 (by simp)) (b1r.kept G0 (by simp)) (b2r.kept G0 (by simp))
  have hto := fun c0 c1 c2 c3 w hr r0 r1 r2 r3 => toldC 2 bo st m k hb hs hm HK.out (fr ph m 1) (Wo.dgF (nb 2 pa ph pb m) 4) h1 c0 c1 c2 c3 w hr (fr_may ph m k 1 hm HK.out) (fun d _ => dg_may _ _ _ _ _ hm HK.out (fun j => nb_may 2 pa ph pb m k hm HK.out j)) r0 r1 r2 r3
  have h1k := h1r.kept G0 (by simp)
  clear a0r a1r a2r h0r h1r h2r b0r b1r b2r B1 B2 B3 B4 B5
  go_enter Tryd.func17, Tryd.ntmps17
  go_wp2
  go_region_held2 (fun w' => w'.cell? ⟨w.heap.size, 0, none⟩ = some (.int .u8 2) ∧ w'.cell? ⟨w.heap.size, 1, none⟩ = some (.int .u16 (bo : Nat)) ∧ w'.cell? ⟨w.heap.size, 2, none⟩ = some (.int .u16 (st : Nat)) ∧ w'.cell? ⟨W1.heap.size, 0, none⟩ = some (.int .i64 (m : Nat)) ∧ w'.cell? ⟨W1.heap.size, 1, none⟩ = some (.slice (some ⟨a0, 0, none⟩) k k) ∧ w'.cell? ⟨W1.heap.size, 2, none⟩ = some (.int .i64 (m : Nat)) ∧ w'.cell? ⟨W1.heap.size, 3, none⟩ = some (.slice (some ⟨a1, 0, none⟩) k k) ∧ w'.cell? ⟨W1.heap.size, 4, none⟩ = some (.int .i64 (m : Nat)) ∧ w'.cell? ⟨W1.heap.size, 5, none⟩ = some (.slice (some ⟨a2, 0, none⟩) k k) ∧ w'.cell? ⟨W2.heap.size, 0, none⟩ = some (.int .i64 (m : Nat)) ∧ w'.cell? ⟨W2.heap.size, 1, none⟩ = some (.slice (some ⟨h0, 0, none⟩) k k) ∧ w'.cell? ⟨W2.heap.size, 2, none⟩ = some (.int .i64 (m : Nat)) ∧ w'.cell? ⟨W2.heap.size, 3, none⟩ = some (.slice (some ⟨h1, 0, none⟩) k k) ∧ w'.cell? ⟨W2.heap.size, 4, none⟩ = some (.int .i64 (m : Nat)) ∧ w'.cell? ⟨W2.heap.size, 5, none⟩ = some (.slice (some ⟨h2, 0, none⟩) k k) ∧ w'.cell? ⟨W3.heap.size, 0, none⟩ = some (.int .i64 (m : Nat)) ∧ w'.cell? ⟨W3.heap.size, 1, none⟩ = some (.slice (some ⟨b0, 0, none⟩) k k) ∧ w'.cell? ⟨W3.heap.size, 2, none⟩ = some (.int .i64 (m : Nat)) ∧ w'.cell? ⟨W3.heap.size, 3, none⟩ = some (.slice (some ⟨b1, 0, none⟩) k k) ∧ w'.cell? ⟨W3.heap.size, 4, none⟩ = some (.int .i64 (m : Nat)) ∧ w'.cell? ⟨W3.heap.size, 5, none⟩ = some (.slice (some ⟨b2, 0, none⟩) k k)) (go_keep) (first | (go_at_call 26; refine hne.mono ?_; rintro e V ⟨c0, c1, c2, c3, rfl, r0, r1, r2, r3, gV, lc0, lc1, lc2, lc3⟩; have E1 := D1.kept gV (by simp); have E2 := D2.kept gV (by simp); have E3 := D3.kept gV (by simp); have E4 := D4.kept gV (by simp); have y0_0 := E1.cell 0 (v := .int .u8 2) rfl; have y0_1 := E1.cell 1 (v := .int .u16 (bo : Nat)) rfl; have y0_2 := E1.cell 2 (v := .int .u16 (st : Nat)) rfl; have y1_0 := E2.cell 0 (v := .int .i64 (m : Nat)) rfl; have y1_1 := E2.cell 1 (v := .slice (some ⟨a0, 0, none⟩) k k) rfl; have y1_2 := E2.cell 2 (v := .int .i64 (m : Nat)) rfl; have y1_3 := E2.cell 3 (v := .slice (some ⟨a1, 0, none⟩) k k) rfl; have y1_4 := E2.cell 4 (v := .int .i64 (m : Nat)) rfl; have y1_5 := E2.cell 5 (v := .slice (some ⟨a2, 0, none⟩) k k) rfl; have y2_0 := E3.cell 0 (v := .int .i64 (m : Nat)) rfl; have y2_1 := E3.cell 1 (v := .slice (some ⟨h0, 0, none⟩) k k) rfl; have y2_2 := E3.cell 2 (v := .int .i64 (m : Nat)) rfl; have y2_3 := E3.cell 3 (v := .slice (some ⟨h1, 0, none⟩) k k) rfl; have y2_4 := E3.cell 4 (v := .int .i64 (m : Nat)) rfl; have y2_5 := E3.cell 5 (v := .slice (some ⟨h2, 0, none⟩) k k) rfl; have y3_0 := E4.cell 0 (v := .int .i64 (m : Nat)) rfl; have y3_1 := E4.cell 1 (v := .slice (some ⟨b0, 0, none⟩) k k) rfl; have y3_2 := E4.cell 2 (v := .int .i64 (m : Nat)) rfl; have y3_3 := E4.cell 3 (v := .slice (some ⟨b1, 0, none⟩) k k) rfl; have y3_4 := E4.cell 4 (v := .int .i64 (m : Nat)) rfl; have y3_5 := E4.cell 5 (v := .slice (some ⟨b2, 0, none⟩) k k) rfl) | (go_at_call 25; refine (hto c0 c1 c2 c3 V (h1k.kept gV (by simp)) r0 r1 r2 r3).mono ?_; rintro e X ⟨z, rfl, rz, gX, lz⟩; have F1 := E1.kept gX (by simp); have F2 := E2.kept gX (by simp); have F3 := E3.kept gX (by simp); have F4 := E4.kept gX (by simp); have v0_0 := F1.cell 0 (v := .int .u8 2) rfl; have v0_1 := F1.cell 1 (v := .int .u16 (bo : Nat)) rfl; have v0_2 := F1.cell 2 (v := .int .u16 (st : Nat)) rfl; have v1_0 := F2.cell 0 (v := .int .i64 (m : Nat)) rfl; have v1_1 := F2.cell 1 (v := .slice (some ⟨a0, 0, none⟩) k k) rfl; have v1_2 := F2.cell 2 (v := .int .i64 (m : Nat)) rfl; have v1_3 := F2.cell 3 (v := .slice (some ⟨a1, 0, none⟩) k k) rfl; have v1_4 := F2.cell 4 (v := .int .i64 (m : Nat)) rfl; have v1_5 := F2.cell 5 (v := .slice (some ⟨a2, 0, none⟩) k k) rfl; have v2_0 := F3.cell 0 (v := .int .i64 (m : Nat)) rfl; have v2_1 := F3.cell 1 (v := .slice (some ⟨h0, 0, none⟩) k k) rfl; have v2_2 := F3.cell 2 (v := .int .i64 (m : Nat)) rfl; have v2_3 := F3.cell 3 (v := .slice (some ⟨h1, 0, none⟩) k k) rfl; have v2_4 := F3.cell 4 (v := .int .i64 (m : Nat)) rfl; have v2_5 := F3.cell 5 (v := .slice (some ⟨h2, 0, none⟩) k k) rfl; have v3_0 := F4.cell 0 (v := .int .i64 (m : Nat)) rfl; have v3_1 := F4.cell 1 (v := .slice (some ⟨b0, 0, none⟩) k k) rfl; have v3_2 := F4.cell 2 (v := .int .i64 (m : Nat)) rfl; have v3_3 := F4.cell 3 (v := .slice (some ⟨b1, 0, none⟩) k k) rfl; have v3_4 := F4.cell 4 (v := .int .i64 (m : Nat)) rfl; have v3_5 := F4.cell 5 (v := .slice (some ⟨b2, 0, none⟩) k k) rfl; have D5X := D5.kept (gb_trans gV gX) (by simp); have t0 := D5X.cell0; have t1 := D5X.cell1; have tf0 := D5X.free0; have tf1 := D5X.free1))
  all_goals go_wp2
  all_goals obtain ⟨fs, hfs⟩ := Wo.underR
  all_goals refine ret_box1 (g := W4.heap.size) (t := 27) rfl hfs Wo.infoR rfl (D5X.set _ _) rfl ?_
  all_goals have l5 : W4.heap.size < W5.drew.heap.size := D5.lt
  all_goals have l6 := gV.size
  all_goals have l7 : w.heap.size ≤ W4.heap.size := by omega
  all_goals have n9 : z ≠ W4.heap.size := by omega
  all_goals exact ⟨z, rfl, World.rowIs.setOther (World.rowIs.setOther rz n9 _) n9 _, gb_new (gb_new (gb_trans G0 (gb_trans gV gX)) l7 _) l7 _, by omega⟩
set_option maxHeartbeats 2000000 in
theorem next3 (bo st m k : Nat) (hb : bo < 65536) (hs : st < 65536) (hm : m ≤ 65538) (hk : k = (m + 63) / 64) (pa ph pb : Nat → Bool) (a0 a1 a2 h0 h1 h2 b0 b1 b2 : Nat) (w : World) (a0r : Row w 33 a0 k (fr pa m 0)) (a1r : Row w 33 a1 k (fr pa m 1)) (a2r : Row w 33 a2 k (fr pa m 2)) (h0r : Row w 33 h0 k (fr ph m 0)) (h1r : Row w 33 h1 k (fr ph m 1)) (h2r : Row w 33 h2 k (fr ph m 2)) (b0r : Row w 33 b0 k (fr pb m 0)) (b1r : Row w 33 b1 k (fr pb m 1)) (b2r : Row w 33 b2 k (fr pb m 2)) :
    Calls Tryd.prog 17 #[.agg #[.int .u8 3, .int .u16 (bo : Nat), .int .u16 (st : Nat)], .agg #[.int .i64 (m : Nat), .slice (some ⟨a0, 0, none⟩) k k, .int .i64 (m : Nat), .slice (some ⟨a1, 0, none⟩) k k, .int .i64 (m : Nat), .slice (some ⟨a2, 0, none⟩) k k], .agg #[.int .i64 (m : Nat), .slice (some ⟨h0, 0, none⟩) k k, .int .i64 (m : Nat), .slice (some ⟨h1, 0, none⟩) k k, .int .i64 (m : Nat), .slice (some ⟨h2, 0, none⟩) k k], .agg #[.int .i64 (m : Nat), .slice (some ⟨b0, 0, none⟩) k k, .int .i64 (m : Nat), .slice (some ⟨b1, 0, none⟩) k k, .int .i64 (m : Nat), .slice (some ⟨b2, 0, none⟩) k k]] w fun e w' => ∃ z, e = .returned (.agg #[.int .i64 (m : Nat), .slice (some ⟨z, 0, none⟩) k k]) ∧ Row w' 33 z k (ln 3 bo st pa ph pb m) ∧ w.grownBy w' none ∧ w.heap.size ≤ z := by
  obtain ⟨W1, hW1, sz1, g1, B1⟩ := boxn w #[.int .u8 3, .int .u16 (bo : Nat), .int .u16 (st : Nat)] 24
  obtain ⟨W2, hW2, sz2, g2, B2⟩ := boxn W1 #[.int .i64 (m : Nat), .slice (some ⟨a0, 0, none⟩) k k, .int .i64 (m : Nat), .slice (some ⟨a1, 0, none⟩) k k, .int .i64 (m : Nat), .slice (some ⟨a2, 0, none⟩) k k] 51
  obtain ⟨W3, hW3, sz3, g3, B3⟩ := boxn W2 #[.int .i64 (m : Nat), .slice (some ⟨h0, 0, none⟩) k k, .int .i64 (m : Nat), .slice (some ⟨h1, 0, none⟩) k k, .int .i64 (m : Nat), .slice (some ⟨h2, 0, none⟩) k k] 51
  obtain ⟨W4, hW4, sz4, g4, B4⟩ := boxn W3 #[.int .i64 (m : Nat), .slice (some ⟨b0, 0, none⟩) k k, .int .i64 (m : Nat), .slice (some ⟨b1, 0, none⟩) k k, .int .i64 (m : Nat), .slice (some ⟨b2, 0, none⟩) k k] 51
  obtain ⟨W5, hW5, e0, e1, sz5, g5, B5⟩ := box2 W4 (.int .i64 0) (.slice none 0 0) 27
  have HK : Hid (k = (m + 63) / 64) := hk
  clear hk
  have D1 : Bo W5.drew w.heap.size 24 #[.int .u8 3, .int .u16 (bo : Nat), .int .u16 (st : Nat)] := B1.kept (gb_drew (gb_trans g2 (gb_trans g3 (gb_trans g4 g5)))) (by simp)
  have D2 : Bo W5.drew W1.heap.size 51 #[.int .i64 (m : Nat), .slice (some ⟨a0, 0, none⟩) k k, .int .i64 (m : Nat), .slice (some ⟨a1, 0, none⟩) k k, .int .i64 (m : Nat), .slice (some ⟨a2, 0, none⟩) k k] := B2.kept (gb_drew (gb_trans g3 (gb_trans g4 g5))) (by simp)
  have D3 : Bo W5.drew W2.heap.size 51 #[.int .i64 (m : Nat), .slice (some ⟨h0, 0, none⟩) k k, .int .i64 (m : Nat), .slice (some ⟨h1, 0, none⟩) k k, .int .i64 (m : Nat), .slice (some ⟨h2, 0, none⟩) k k] := B3.kept (gb_drew (gb_trans g4 g5)) (by simp)
  have D4 : Bo W5.drew W3.heap.size 51 #[.int .i64 (m : Nat), .slice (some ⟨b0, 0, none⟩) k k, .int .i64 (m : Nat), .slice (some ⟨b1, 0, none⟩) k k, .int .i64 (m : Nat), .slice (some ⟨b2, 0, none⟩) k k] := B4.kept (gb_drew g5) (by simp)
  have D5 : Bx W5.drew W4.heap.size 27 (.int .i64 0) (.slice none 0 0) := B5
  have G0 : w.grownBy W5.drew none := gb_drew (gb_trans g1 (gb_trans g2 (gb_trans g3 (gb_trans g4 g5))))
  have l1 : w.heap.size < W1.heap.size := by have := sz1.out; omega
  have l2 : W1.heap.size < W2.heap.size := by have := sz2.out; omega
  have l3 : W2.heap.size < W3.heap.size := by have := sz3.out; omega
  have l4 : W3.heap.size < W4.heap.size := by have := sz4.out; omega
  have n1 : W4.heap.size ≠ w.heap.size := by omega
  have n2 : W4.heap.size ≠ W1.heap.size := by omega
  have n3 : W4.heap.size ≠ W2.heap.size := by omega
  have n4 : W4.heap.size ≠ W3.heap.size := by omega
  have x0_0 := D1.cell 0 (v := .int .u8 3) rfl
  have x0_1 := D1.cell 1 (v := .int .u16 (bo : Nat)) rfl
  have x0_2 := D1.cell 2 (v := .int .u16 (st : Nat)) rfl
  have x1_0 := D2.cell 0 (v := .int .i64 (m : Nat)) rfl
  have x1_1 := D2.cell 1 (v := .slice (some ⟨a0, 0, none⟩) k k) rfl
  have x1_2 := D2.cell 2 (v := .int .i64 (m : Nat)) rfl
  have x1_3 := D2.cell 3 (v := .slice (some ⟨a1, 0, none⟩) k k) rfl
  have x1_4 := D2.cell 4 (v := .int .i64 (m : Nat)) rfl
  have x1_5 := D2.cell 5 (v := .slice (some ⟨a2, 0, none⟩) k k) rfl
  have x2_0 := D3.cell 0 (v := .int .i64 (m : Nat)) rfl
  have x2_1 := D3.cell 1 (v := .slice (some ⟨h0, 0, none⟩) k k) rfl
  have x2_2 := D3.cell 2 (v := .int .i64 (m : Nat)) rfl
  have x2_3 := D3.cell 3 (v := .slice (some ⟨h1, 0, none⟩) k k) rfl
  have x2_4 := D3.cell 4 (v := .int .i64 (m : Nat)) rfl
  have x2_5 := D3.cell 5 (v := .slice (some ⟨h2, 0, none⟩) k k) rfl
  have x3_0 := D4.cell 0 (v := .int .i64 (m : Nat)) rfl
  have x3_1 := D4.cell 1 (v := .slice (some ⟨b0, 0, none⟩) k k) rfl
  have x3_2 := D4.cell 2 (v := .int .i64 (m : Nat)) rfl
  have x3_3 := D4.cell 3 (v := .slice (some ⟨b1, 0, none⟩) k k) rfl
  have x3_4 := D4.cell 4 (v := .int .i64 (m : Nat)) rfl
  have x3_5 := D4.cell 5 (v := .slice (some ⟨b2, 0, none⟩) k k) rfl
  have hne := near3 m k hm HK.out pa ph pb a0 a1 a2 h0 h1 h2 b0 b1 b2 W5.drew (a0r.kept G0 (by simp)) (a1r.kept G0 (by simp)) (a2r.kept G0 (by simp)) (h0r.kept G0 (by simp)) (h1r.kept G0 (by simp)) (h2r.kept G0 (by simp)) (b0r.kept G0 (by simp)) (b1r.kept G0 (by simp)) (b2r.kept G0 (by simp))
  have hto := fun c0 c1 c2 c3 w hr r0 r1 r2 r3 => toldC 3 bo st m k hb hs hm HK.out (fr ph m 1) (Wo.dgF (nb 3 pa ph pb m) 6) h1 c0 c1 c2 c3 w hr (fr_may ph m k 1 hm HK.out) (fun d _ => dg_may _ _ _ _ _ hm HK.out (fun j => nb_may 3 pa ph pb m k hm HK.out j)) r0 r1 r2 r3
  have h1k := h1r.kept G0 (by simp)
  clear a0r a1r a2r h0r h1r h2r b0r b1r b2r B1 B2 B3 B4 B5
  go_enter Tryd.func17, Tryd.ntmps17
  go_wp2
  go_region_held2 (fun w' => w'.cell? ⟨w.heap.size, 0, none⟩ = some (.int .u8 3) ∧ w'.cell? ⟨w.heap.size, 1, none⟩ = some (.int .u16 (bo : Nat)) ∧ w'.cell? ⟨w.heap.size, 2, none⟩ = some (.int .u16 (st : Nat)) ∧ w'.cell? ⟨W1.heap.size, 0, none⟩ = some (.int .i64 (m : Nat)) ∧ w'.cell? ⟨W1.heap.size, 1, none⟩ = some (.slice (some ⟨a0, 0, none⟩) k k) ∧ w'.cell? ⟨W1.heap.size, 2, none⟩ = some (.int .i64 (m : Nat)) ∧ w'.cell? ⟨W1.heap.size, 3, none⟩ = some (.slice (some ⟨a1, 0, none⟩) k k) ∧ w'.cell? ⟨W1.heap.size, 4, none⟩ = some (.int .i64 (m : Nat)) ∧ w'.cell? ⟨W1.heap.size, 5, none⟩ = some (.slice (some ⟨a2, 0, none⟩) k k) ∧ w'.cell? ⟨W2.heap.size, 0, none⟩ = some (.int .i64 (m : Nat)) ∧ w'.cell? ⟨W2.heap.size, 1, none⟩ = some (.slice (some ⟨h0, 0, none⟩) k k) ∧ w'.cell? ⟨W2.heap.size, 2, none⟩ = some (.int .i64 (m : Nat)) ∧ w'.cell? ⟨W2.heap.size, 3, none⟩ = some (.slice (some ⟨h1, 0, none⟩) k k) ∧ w'.cell? ⟨W2.heap.size, 4, none⟩ = some (.int .i64 (m : Nat)) ∧ w'.cell? ⟨W2.heap.size, 5, none⟩ = some (.slice (some ⟨h2, 0, none⟩) k k) ∧ w'.cell? ⟨W3.heap.size, 0, none⟩ = some (.int .i64 (m : Nat)) ∧ w'.cell? ⟨W3.heap.size, 1, none⟩ = some (.slice (some ⟨b0, 0, none⟩) k k) ∧ w'.cell? ⟨W3.heap.size, 2, none⟩ = some (.int .i64 (m : Nat)) ∧ w'.cell? ⟨W3.heap.size, 3, none⟩ = some (.slice (some ⟨b1, 0, none⟩) k k) ∧ w'.cell? ⟨W3.heap.size, 4, none⟩ = some (.int .i64 (m : Nat)) ∧ w'.cell? ⟨W3.heap.size, 5, none⟩ = some (.slice (some ⟨b2, 0, none⟩) k k)) (go_keep) (first | (go_at_call 26; refine hne.mono ?_; rintro e V ⟨c0, c1, c2, c3, rfl, r0, r1, r2, r3, gV, lc0, lc1, lc2, lc3⟩; have E1 := D1.kept gV (by simp); have E2 := D2.kept gV (by simp); have E3 := D3.kept gV (by simp); have E4 := D4.kept gV (by simp); have y0_0 := E1.cell 0 (v := .int .u8 3) rfl; have y0_1 := E1.cell 1 (v := .int .u16 (bo : Nat)) rfl; have y0_2 := E1.cell 2 (v := .int .u16 (st : Nat)) rfl; have y1_0 := E2.cell 0 (v := .int .i64 (m : Nat)) rfl; have y1_1 := E2.cell 1 (v := .slice (some ⟨a0, 0, none⟩) k k) rfl; have y1_2 := E2.cell 2 (v := .int .i64 (m : Nat)) rfl; have y1_3 := E2.cell 3 (v := .slice (some ⟨a1, 0, none⟩) k k) rfl; have y1_4 := E2.cell 4 (v := .int .i64 (m : Nat)) rfl; have y1_5 := E2.cell 5 (v := .slice (some ⟨a2, 0, none⟩) k k) rfl; have y2_0 := E3.cell 0 (v := .int .i64 (m : Nat)) rfl; have y2_1 := E3.cell 1 (v := .slice (some ⟨h0, 0, none⟩) k k) rfl; have y2_2 := E3.cell 2 (v := .int .i64 (m : Nat)) rfl; have y2_3 := E3.cell 3 (v := .slice (some ⟨h1, 0, none⟩) k k) rfl; have y2_4 := E3.cell 4 (v := .int .i64 (m : Nat)) rfl; have y2_5 := E3.cell 5 (v := .slice (some ⟨h2, 0, none⟩) k k) rfl; have y3_0 := E4.cell 0 (v := .int .i64 (m : Nat)) rfl; have y3_1 := E4.cell 1 (v := .slice (some ⟨b0, 0, none⟩) k k) rfl; have y3_2 := E4.cell 2 (v := .int .i64 (m : Nat)) rfl; have y3_3 := E4.cell 3 (v := .slice (some ⟨b1, 0, none⟩) k k) rfl; have y3_4 := E4.cell 4 (v := .int .i64 (m : Nat)) rfl; have y3_5 := E4.cell 5 (v := .slice (some ⟨b2, 0, none⟩) k k) rfl) | (go_at_call 25; refine (hto c0 c1 c2 c3 V (h1k.kept gV (by simp)) r0 r1 r2 r3).mono ?_; rintro e X ⟨z, rfl, rz, gX, lz⟩; have F1 := E1.kept gX (by simp); have F2 := E2.kept gX (by simp); have F3 := E3.kept gX (by simp); have F4 := E4.kept gX (by simp); have v0_0 := F1.cell 0 (v := .int .u8 3) rfl; have v0_1 := F1.cell 1 (v := .int .u16 (bo : Nat)) rfl; have v0_2 := F1.cell 2 (v := .int .u16 (st : Nat)) rfl; have v1_0 := F2.cell 0 (v := .int .i64 (m : Nat)) rfl; have v1_1 := F2.cell 1 (v := .slice (some ⟨a0, 0, none⟩) k k) rfl; have v1_2 := F2.cell 2 (v := .int .i64 (m : Nat)) rfl; have v1_3 := F2.cell 3 (v := .slice (some ⟨a1, 0, none⟩) k k) rfl; have v1_4 := F2.cell 4 (v := .int .i64 (m : Nat)) rfl; have v1_5 := F2.cell 5 (v := .slice (some ⟨a2, 0, none⟩) k k) rfl; have v2_0 := F3.cell 0 (v := .int .i64 (m : Nat)) rfl; have v2_1 := F3.cell 1 (v := .slice (some ⟨h0, 0, none⟩) k k) rfl; have v2_2 := F3.cell 2 (v := .int .i64 (m : Nat)) rfl; have v2_3 := F3.cell 3 (v := .slice (some ⟨h1, 0, none⟩) k k) rfl; have v2_4 := F3.cell 4 (v := .int .i64 (m : Nat)) rfl; have v2_5 := F3.cell 5 (v := .slice (some ⟨h2, 0, none⟩) k k) rfl; have v3_0 := F4.cell 0 (v := .int .i64 (m : Nat)) rfl; have v3_1 := F4.cell 1 (v := .slice (some ⟨b0, 0, none⟩) k k) rfl; have v3_2 := F4.cell 2 (v := .int .i64 (m : Nat)) rfl; have v3_3 := F4.cell 3 (v := .slice (some ⟨b1, 0, none⟩) k k) rfl; have v3_4 := F4.cell 4 (v := .int .i64 (m : Nat)) rfl; have v3_5 := F4.cell 5 (v := .slice (some ⟨b2, 0, none⟩) k k) rfl; have D5X := D5.kept (gb_trans gV gX) (by simp); have t0 := D5X.cell0; have t1 := D5X.cell1; have tf0 := D5X.free0; have tf1 := D5X.free1))
  all_goals go_wp2
  all_goals obtain ⟨fs, hfs⟩ := Wo.underR
  all_goals refine ret_box1 (g := W4.heap.size) (t := 27) rfl hfs Wo.infoR rfl (D5X.set _ _) rfl ?_
  all_goals have l5 : W4.heap.size < W5.drew.heap.size := D5.lt
  all_goals have l6 := gV.size
  all_goals have l7 : w.heap.size ≤ W4.heap.size := by omega
  all_goals have n9 : z ≠ W4.heap.size := by omega
  all_goals exact ⟨z, rfl, World.rowIs.setOther (World.rowIs.setOther rz n9 _) n9 _, gb_new (gb_new (gb_trans G0 (gb_trans gV gX)) l7 _) l7 _, by omega⟩
end Go.Proofs.YtkgipjabkalnaaaDoor.Pd
