/- What the document's Parse answers where nothing is wrong. -/
import Derived.Test.YteegbhnfkcbnoaaDoorR13
namespace Go.Proofs.YteegbhnfkcbnoaaDoor
open Go.RowKit
set_option linter.unusedVariables false
set_option linter.unusedSimpArgs false
set_option maxRecDepth 100000

set_option maxHeartbeats 8000000 in
theorem one_f_none0 (s : ByteArray) (hs : ¬ (1048576 : Int) < (s.size : Int)) (k : Nat) (hk : k ≤ 255) (p : Tp.Dp) (V1 : Nat) (lp1 : 0 ≤ p.at_) (lp2 : p.at_ ≤ p.en) (lp3 : p.en ≤ (s.size : Int)) (hv1 : ∀ w, Calls Tryd.prog 22 #[.string (s.extract p.at_.toNat p.en.toNat)] w fun x w' => x = .returned (.int .i64 (V1 : Nat)) ∧ w' = w) (hf : ∀ w, Calls Tryd.prog 21 #[.string s] w fun x w' => (∃ g c, x = .returned (.tuple #[.int .u8 (k : Nat), .slice (some ⟨g, 0, none⟩) 1 c, .int .i64 0, .int .i64 0]) ∧ Cs w' g (dpl p)) ∧ w.grownBy w' none) (hw : ¬ (65536 : Int) < (V1 : Int)) (h3 : ¬ (3 : Int) ≤ (k : Int)) (X : Int) (htw : ∀ w g c, Cs w g (dpl p) → Calls Tryd.prog 23 #[.string s, .int .u8 (k : Nat), .slice (some ⟨g, 0, none⟩) 1 c] w fun x w' => x = .returned (.tuple #[.int .i64 X, .bool false]) ∧ w' = w) (Y : Int) (hsh : ∀ w g c, Cs w g (dpl p) → Calls Tryd.prog 24 #[.string s, .int .u8 (k : Nat), .slice (some ⟨g, 0, none⟩) 1 c, .int .i64 (V1 : Nat), .int .i64 (V1 : Nat)] w fun x w' => x = .returned (.tuple #[.int .i64 Y, .bool false]) ∧ w.grownBy w' none) (np1 : ¬ 0 ≤ p.st) (np2 : ¬ 0 ≤ p.sg) (w : World) : Calls Tryd.prog 9 #[.string s] w fun e w' => e = .returned (.tuple #[.agg #[.int .u8 (k : Nat), .int .i64 (V1 : Nat), .int .i64 (V1 : Nat), .int .u8 0, .int .i64 0], .int .i64 0, .int .i64 0]) ∧ w.grownBy w' none := by
  obtain ⟨fs, hfs⟩ := underT
  obtain ⟨W1, hW1, sz1, g1, B1⟩ := boxn w #[.int .u8 0, .int .i64 0, .int .i64 0, .int .u8 0, .int .i64 0] 23
  have z0 := B1.cell 0 (v := .int .u8 0) rfl
  have z1 := B1.cell 1 (v := .int .i64 0) rfl
  have z2 := B1.cell 2 (v := .int .i64 0) rfl
  have z3 := B1.cell 3 (v := .int .u8 0) rfl
  have z4 := B1.cell 4 (v := .int .i64 0) rfl
  have y0 := B1.frozen 0
  have y1 := B1.frozen 1
  have y2 := B1.frozen 2
  have y3 := B1.frozen 3
  have y4 := B1.frozen 4
  go_enter Tryd.func9, Tryd.ntmps9
  go_wp2_with (first | (go_at_call 21; refine (hf _).mono ?_; rintro x w2 ⟨⟨g, c, rfl, hc⟩, g2⟩; have B2 := B1.kept g2 (by simp); obtain ⟨W3, hW3, sz3, g3, T3⟩ := boxn w2 #[.int .u8 (k : Nat), .int .i64 0, .int .i64 0, .int .u8 0, .int .i64 0] 23; have R3 := B2.kept g3 (by simp); have hc3 := hc.kept g3; have sm0 := Bo.same T3 0 (v := .int .u8 (k : Nat)) rfl; have sm1 := Bo.same T3 1 (v := .int .i64 0) rfl; have sm2 := Bo.same T3 2 (v := .int .i64 0) rfl; have sm3 := Bo.same T3 3 (v := .int .u8 0) rfl; have sm4 := Bo.same T3 4 (v := .int .i64 0) rfl; have tf0 := T3.frozen 0; have tf1 := T3.frozen 1; have tf2 := T3.frozen 2; have tf3 := T3.frozen 3; have tf4 := T3.frozen 4; have HN : Hid (w2.heap.size ≠ w.heap.size) := (by have := g2.size; have := sz1.out; unfold Hid; omega); obtain ⟨W4, hW4⟩ : ∃ W, W3.setCell ⟨w2.heap.size, 1, none⟩ (.int .i64 (V1 : Nat)) = W := ⟨_, rfl⟩; have T4 : Bo W4 w2.heap.size 23 #[.int .u8 (k : Nat), .int .i64 (V1 : Nat), .int .i64 0, .int .u8 0, .int .i64 0] := (by rw [← hW4]; have h9 := T3.set 1 (.int .i64 (V1 : Nat)); simpa using h9); have R4 : Bo W4 w.heap.size 23 #[.int .u8 0, .int .i64 0, .int .i64 0, .int .u8 0, .int .i64 0] := (by rw [← hW4]; exact R3.set2 HN.out); have tf4_0 := T4.frozen 0; have tf4_1 := T4.frozen 1; have tf4_2 := T4.frozen 2; have tf4_3 := T4.frozen 3; have tf4_4 := T4.frozen 4; have hc4 : Cs W4 g (dpl p) := (by rw [← hW4]; exact Cs.set2 hc3 (hc.ne)); have tc4_0 := T4.cell 0 (v := .int .u8 (k : Nat)) rfl; have tc4_1 := T4.cell 1 (v := .int .i64 (V1 : Nat)) rfl; have tc4_2 := T4.cell 2 (v := .int .i64 0) rfl; have tc4_3 := T4.cell 3 (v := .int .u8 0) rfl; have tc4_4 := T4.cell 4 (v := .int .i64 0) rfl; obtain ⟨W5, hW5⟩ : ∃ W, W4.setCell ⟨w2.heap.size, 2, none⟩ (.int .i64 (V1 : Nat)) = W := ⟨_, rfl⟩; have T5 : Bo W5 w2.heap.size 23 #[.int .u8 (k : Nat), .int .i64 (V1 : Nat), .int .i64 (V1 : Nat), .int .u8 0, .int .i64 0] := (by rw [← hW5]; have h9 := T4.set 2 (.int .i64 (V1 : Nat)); simpa using h9); have R5 : Bo W5 w.heap.size 23 #[.int .u8 0, .int .i64 0, .int .i64 0, .int .u8 0, .int .i64 0] := (by rw [← hW5]; exact R4.set2 HN.out); have tf5_0 := T5.frozen 0; have tf5_1 := T5.frozen 1; have tf5_2 := T5.frozen 2; have tf5_3 := T5.frozen 3; have tf5_4 := T5.frozen 4; have hc5 : Cs W5 g (dpl p) := (by rw [← hW5]; exact Cs.set2 hc4 (hc.ne)); have tc5_0 := T5.cell 0 (v := .int .u8 (k : Nat)) rfl; have tc5_1 := T5.cell 1 (v := .int .i64 (V1 : Nat)) rfl; have tc5_2 := T5.cell 2 (v := .int .i64 (V1 : Nat)) rfl; have tc5_3 := T5.cell 3 (v := .int .u8 0) rfl; have tc5_4 := T5.cell 4 (v := .int .i64 0) rfl; have e3_0 := hc3 0 (.int .i64 p.at_) rfl; have e3_1 := hc3 1 (.int .i64 p.en) rfl; have e3_2 := hc3 2 (.int .i64 p.st) rfl; have e3_3 := hc3 3 (.int .i64 p.sg) rfl; have e3_4 := hc3 4 (.int .i64 p.fr) rfl; have e3_5 := hc3 5 (.int .i64 p.to) rfl; have e4_0 := hc4 0 (.int .i64 p.at_) rfl; have e4_1 := hc4 1 (.int .i64 p.en) rfl; have e4_2 := hc4 2 (.int .i64 p.st) rfl; have e4_3 := hc4 3 (.int .i64 p.sg) rfl; have e4_4 := hc4 4 (.int .i64 p.fr) rfl; have e4_5 := hc4 5 (.int .i64 p.to) rfl; have e5_0 := hc5 0 (.int .i64 p.at_) rfl; have e5_1 := hc5 1 (.int .i64 p.en) rfl; have e5_2 := hc5 2 (.int .i64 p.st) rfl; have e5_3 := hc5 3 (.int .i64 p.sg) rfl; have e5_4 := hc5 4 (.int .i64 p.fr) rfl; have e5_5 := hc5 5 (.int .i64 p.to) rfl; have tc3_0 := T3.cell 0 (v := .int .u8 (k : Nat)) rfl; have tc3_1 := T3.cell 1 (v := .int .i64 0) rfl; have tc3_2 := T3.cell 2 (v := .int .i64 0) rfl; have tc3_3 := T3.cell 3 (v := .int .u8 0) rfl; have tc3_4 := T3.cell 4 (v := .int .i64 0) rfl; have GG : w.grownBy W5 none := (by rw [← hW5]; refine gb_new ?_ (Nat.le_trans g1.size g2.size) _; rw [← hW4]; refine gb_new ?_ (Nat.le_trans g1.size g2.size) _; exact gb_trans (gb_trans g1 g2) g3); have ru0 := R5.cell 0 (v := .int .u8 0) rfl; have ru1 := R5.cell 1 (v := .int .i64 0) rfl; have ru2 := R5.cell 2 (v := .int .i64 0) rfl; have ru3 := R5.cell 3 (v := .int .u8 0) rfl; have ru4 := R5.cell 4 (v := .int .i64 0) rfl; have rv0 := R5.frozen 0; have rv1 := R5.frozen 1; have rv2 := R5.frozen 2; have rv3 := R5.frozen 3; have rv4 := R5.frozen 4))
  have hgn : ¬ w2.heap.size = g := (hc.ne).resolve_right (by simp)
  have hgm : ¬ g = w2.heap.size := fun h => hgn h.symm
  have hgr : ¬ w.heap.size = g := fun h => by
    have a9 := B2.cell 0 (v := .int .u8 0) rfl
    have b9 := hc 0 _ rfl
    rw [← h, a9] at b9
    simp at b9
  have hgs : ¬ g = w.heap.size := fun h => hgr h.symm
  go_region_held2 (fun w' => w'.cell? ⟨g, 0, none⟩ = some (.int .i64 p.at_) ∧ w'.cell? ⟨g, 1, none⟩ = some (.int .i64 p.en) ∧ w'.cell? ⟨g, 2, none⟩ = some (.int .i64 p.st) ∧ w'.cell? ⟨g, 3, none⟩ = some (.int .i64 p.sg) ∧ w'.cell? ⟨g, 4, none⟩ = some (.int .i64 p.fr) ∧ w'.cell? ⟨g, 5, none⟩ = some (.int .i64 p.to)) (go_keep) (first | (go_at_call 22; (fail_if_success (guard_hyp mv0)); have mv0 : True := trivial; refine (hv1 _).mono ?_; rintro x w' ⟨rfl, hw'⟩; subst w'))
  all_goals go_wp2_with (first | (go_at_call 23; refine (htw _ g c hc5.dr).mono ?_; rintro x w' ⟨rfl, hw'⟩; subst w') | (go_at_call 24; refine (hsh _ g c hc5.dr).mono ?_; rintro x w7 ⟨rfl, g7⟩; have RH := R5.dr.kept g7 (by simp); have TH := T5.dr.kept g7 (by simp); have GH := gb_trans (gb_drew (GG)) g7; have hc7 := hc5.dr.kept g7; have rh0 := RH.cell 0 (v := .int .u8 0) rfl; have rh1 := RH.cell 1 (v := .int .i64 0) rfl; have rh2 := RH.cell 2 (v := .int .i64 0) rfl; have rh3 := RH.cell 3 (v := .int .u8 0) rfl; have rh4 := RH.cell 4 (v := .int .i64 0) rfl; have rg0 := RH.frozen 0; have rg1 := RH.frozen 1; have rg2 := RH.frozen 2; have rg3 := RH.frozen 3; have rg4 := RH.frozen 4; have th0 := TH.cell 0 (v := .int .u8 (k : Nat)) rfl; have th1 := TH.cell 1 (v := .int .i64 (V1 : Nat)) rfl; have th2 := TH.cell 2 (v := .int .i64 (V1 : Nat)) rfl; have th3 := TH.cell 3 (v := .int .u8 0) rfl; have th4 := TH.cell 4 (v := .int .i64 0) rfl; have tg0 := TH.frozen 0; have tg1 := TH.frozen 1; have tg2 := TH.frozen 2; have tg3 := TH.frozen 3; have tg4 := TH.frozen 4))
  all_goals refine wp_loop_rounds 3 ?_
  all_goals have ex8_0 := hc7 0 (.int .i64 p.at_) rfl
  all_goals have ex8_1 := hc7 1 (.int .i64 p.en) rfl
  all_goals have ex8_2 := hc7 2 (.int .i64 p.st) rfl
  all_goals have ex8_3 := hc7 3 (.int .i64 p.sg) rfl
  all_goals have ex8_4 := hc7 4 (.int .i64 p.fr) rfl
  all_goals have ex8_5 := hc7 5 (.int .i64 p.to) rfl
  all_goals obtain ⟨W8, hW8, sz8, g8, P8⟩ := boxn w7 (dpv p) 60
  all_goals have R8 := RH.kept g8 (by simp)
  all_goals have T8 := TH.kept g8 (by simp)
  all_goals have hc8 := hc7.kept g8
  all_goals have G8 := gb_trans GH g8
  all_goals have pc8_0 := P8.cell 0 (v := .int .i64 p.at_) rfl
  all_goals have pc8_1 := P8.cell 1 (v := .int .i64 p.en) rfl
  all_goals have pc8_2 := P8.cell 2 (v := .int .i64 p.st) rfl
  all_goals have pc8_3 := P8.cell 3 (v := .int .i64 p.sg) rfl
  all_goals have pc8_4 := P8.cell 4 (v := .int .i64 p.fr) rfl
  all_goals have pc8_5 := P8.cell 5 (v := .int .i64 p.to) rfl
  all_goals have tk8_0 := T8.cell 0 (v := .int .u8 (k : Nat)) rfl
  all_goals have tk8_1 := T8.cell 1 (v := .int .i64 (V1 : Nat)) rfl
  all_goals have tk8_2 := T8.cell 2 (v := .int .i64 (V1 : Nat)) rfl
  all_goals have tk8_3 := T8.cell 3 (v := .int .u8 0) rfl
  all_goals have tk8_4 := T8.cell 4 (v := .int .i64 0) rfl
  all_goals have tl8_0 := T8.frozen 0
  all_goals have tl8_1 := T8.frozen 1
  all_goals have tl8_2 := T8.frozen 2
  all_goals have tl8_3 := T8.frozen 3
  all_goals have tl8_4 := T8.frozen 4
  all_goals have rk8_0 := R8.cell 0 (v := .int .u8 0) rfl
  all_goals have rk8_1 := R8.cell 1 (v := .int .i64 0) rfl
  all_goals have rk8_2 := R8.cell 2 (v := .int .i64 0) rfl
  all_goals have rk8_3 := R8.cell 3 (v := .int .u8 0) rfl
  all_goals have rk8_4 := R8.cell 4 (v := .int .i64 0) rfl
  all_goals have rl8_0 := R8.frozen 0
  all_goals have rl8_1 := R8.frozen 1
  all_goals have rl8_2 := R8.frozen 2
  all_goals have rl8_3 := R8.frozen 3
  all_goals have rl8_4 := R8.frozen 4
  all_goals have hp8 : Hid (w2.heap.size ≠ w7.heap.size) := Nat.ne_of_lt TH.lt
  all_goals rw [rounds_succ]
  all_goals go_wp2_with (first | (fail))
  all_goals rw [rounds_succ]
  all_goals go_wp2
  all_goals refine ret_c3 (g := w.heap.size) (cs := #[.int .u8 (k : Nat), .int .i64 (V1 : Nat), .int .i64 (V1 : Nat), .int .u8 0, .int .i64 0]) rfl hfs infoT rfl ((bo5z R8)) rfl ⟨rfl, gb5z G8 (Nat.le_refl _)⟩

set_option maxHeartbeats 8000000 in
theorem one_f_none1 (s : ByteArray) (hs : ¬ (1048576 : Int) < (s.size : Int)) (k : Nat) (hk : k ≤ 255) (p : Tp.Dp) (V1 : Nat) (lp1 : 0 ≤ p.at_) (lp2 : p.at_ ≤ p.en) (lp3 : p.en ≤ (s.size : Int)) (hv1 : ∀ w, Calls Tryd.prog 22 #[.string (s.extract p.at_.toNat p.en.toNat)] w fun x w' => x = .returned (.int .i64 (V1 : Nat)) ∧ w' = w) (hf : ∀ w, Calls Tryd.prog 21 #[.string s] w fun x w' => (∃ g c, x = .returned (.tuple #[.int .u8 (k : Nat), .slice (some ⟨g, 0, none⟩) 1 c, .int .i64 0, .int .i64 0]) ∧ Cs w' g (dpl p)) ∧ w.grownBy w' none) (hw : ¬ (65536 : Int) < (V1 : Int)) (h3 : (3 : Int) ≤ (k : Int)) (h0 : ((V1 : Int) == 0) = false) (X : Int) (htw : ∀ w g c, Cs w g (dpl p) → Calls Tryd.prog 23 #[.string s, .int .u8 (k : Nat), .slice (some ⟨g, 0, none⟩) 1 c] w fun x w' => x = .returned (.tuple #[.int .i64 X, .bool false]) ∧ w' = w) (Y : Int) (hsh : ∀ w g c, Cs w g (dpl p) → Calls Tryd.prog 24 #[.string s, .int .u8 (k : Nat), .slice (some ⟨g, 0, none⟩) 1 c, .int .i64 (V1 : Nat), .int .i64 (V1 : Nat)] w fun x w' => x = .returned (.tuple #[.int .i64 Y, .bool false]) ∧ w.grownBy w' none) (np1 : ¬ 0 ≤ p.st) (np2 : ¬ 0 ≤ p.sg) (w : World) : Calls Tryd.prog 9 #[.string s] w fun e w' => e = .returned (.tuple #[.agg #[.int .u8 (k : Nat), .int .i64 (V1 : Nat), .int .i64 (V1 : Nat), .int .u8 0, .int .i64 0], .int .i64 0, .int .i64 0]) ∧ w.grownBy w' none := by
  obtain ⟨fs, hfs⟩ := underT
  obtain ⟨W1, hW1, sz1, g1, B1⟩ := boxn w #[.int .u8 0, .int .i64 0, .int .i64 0, .int .u8 0, .int .i64 0] 23
  have z0 := B1.cell 0 (v := .int .u8 0) rfl
  have z1 := B1.cell 1 (v := .int .i64 0) rfl
  have z2 := B1.cell 2 (v := .int .i64 0) rfl
  have z3 := B1.cell 3 (v := .int .u8 0) rfl
  have z4 := B1.cell 4 (v := .int .i64 0) rfl
  have y0 := B1.frozen 0
  have y1 := B1.frozen 1
  have y2 := B1.frozen 2
  have y3 := B1.frozen 3
  have y4 := B1.frozen 4
  go_enter Tryd.func9, Tryd.ntmps9
  go_wp2_with (first | (go_at_call 21; refine (hf _).mono ?_; rintro x w2 ⟨⟨g, c, rfl, hc⟩, g2⟩; have B2 := B1.kept g2 (by simp); obtain ⟨W3, hW3, sz3, g3, T3⟩ := boxn w2 #[.int .u8 (k : Nat), .int .i64 0, .int .i64 0, .int .u8 0, .int .i64 0] 23; have R3 := B2.kept g3 (by simp); have hc3 := hc.kept g3; have sm0 := Bo.same T3 0 (v := .int .u8 (k : Nat)) rfl; have sm1 := Bo.same T3 1 (v := .int .i64 0) rfl; have sm2 := Bo.same T3 2 (v := .int .i64 0) rfl; have sm3 := Bo.same T3 3 (v := .int .u8 0) rfl; have sm4 := Bo.same T3 4 (v := .int .i64 0) rfl; have tf0 := T3.frozen 0; have tf1 := T3.frozen 1; have tf2 := T3.frozen 2; have tf3 := T3.frozen 3; have tf4 := T3.frozen 4; have HN : Hid (w2.heap.size ≠ w.heap.size) := (by have := g2.size; have := sz1.out; unfold Hid; omega); obtain ⟨W4, hW4⟩ : ∃ W, W3.setCell ⟨w2.heap.size, 1, none⟩ (.int .i64 (V1 : Nat)) = W := ⟨_, rfl⟩; have T4 : Bo W4 w2.heap.size 23 #[.int .u8 (k : Nat), .int .i64 (V1 : Nat), .int .i64 0, .int .u8 0, .int .i64 0] := (by rw [← hW4]; have h9 := T3.set 1 (.int .i64 (V1 : Nat)); simpa using h9); have R4 : Bo W4 w.heap.size 23 #[.int .u8 0, .int .i64 0, .int .i64 0, .int .u8 0, .int .i64 0] := (by rw [← hW4]; exact R3.set2 HN.out); have tf4_0 := T4.frozen 0; have tf4_1 := T4.frozen 1; have tf4_2 := T4.frozen 2; have tf4_3 := T4.frozen 3; have tf4_4 := T4.frozen 4; have hc4 : Cs W4 g (dpl p) := (by rw [← hW4]; exact Cs.set2 hc3 (hc.ne)); have tc4_0 := T4.cell 0 (v := .int .u8 (k : Nat)) rfl; have tc4_1 := T4.cell 1 (v := .int .i64 (V1 : Nat)) rfl; have tc4_2 := T4.cell 2 (v := .int .i64 0) rfl; have tc4_3 := T4.cell 3 (v := .int .u8 0) rfl; have tc4_4 := T4.cell 4 (v := .int .i64 0) rfl; obtain ⟨W5, hW5⟩ : ∃ W, W4.setCell ⟨w2.heap.size, 2, none⟩ (.int .i64 (V1 : Nat)) = W := ⟨_, rfl⟩; have T5 : Bo W5 w2.heap.size 23 #[.int .u8 (k : Nat), .int .i64 (V1 : Nat), .int .i64 (V1 : Nat), .int .u8 0, .int .i64 0] := (by rw [← hW5]; have h9 := T4.set 2 (.int .i64 (V1 : Nat)); simpa using h9); have R5 : Bo W5 w.heap.size 23 #[.int .u8 0, .int .i64 0, .int .i64 0, .int .u8 0, .int .i64 0] := (by rw [← hW5]; exact R4.set2 HN.out); have tf5_0 := T5.frozen 0; have tf5_1 := T5.frozen 1; have tf5_2 := T5.frozen 2; have tf5_3 := T5.frozen 3; have tf5_4 := T5.frozen 4; have hc5 : Cs W5 g (dpl p) := (by rw [← hW5]; exact Cs.set2 hc4 (hc.ne)); have tc5_0 := T5.cell 0 (v := .int .u8 (k : Nat)) rfl; have tc5_1 := T5.cell 1 (v := .int .i64 (V1 : Nat)) rfl; have tc5_2 := T5.cell 2 (v := .int .i64 (V1 : Nat)) rfl; have tc5_3 := T5.cell 3 (v := .int .u8 0) rfl; have tc5_4 := T5.cell 4 (v := .int .i64 0) rfl; have e3_0 := hc3 0 (.int .i64 p.at_) rfl; have e3_1 := hc3 1 (.int .i64 p.en) rfl; have e3_2 := hc3 2 (.int .i64 p.st) rfl; have e3_3 := hc3 3 (.int .i64 p.sg) rfl; have e3_4 := hc3 4 (.int .i64 p.fr) rfl; have e3_5 := hc3 5 (.int .i64 p.to) rfl; have e4_0 := hc4 0 (.int .i64 p.at_) rfl; have e4_1 := hc4 1 (.int .i64 p.en) rfl; have e4_2 := hc4 2 (.int .i64 p.st) rfl; have e4_3 := hc4 3 (.int .i64 p.sg) rfl; have e4_4 := hc4 4 (.int .i64 p.fr) rfl; have e4_5 := hc4 5 (.int .i64 p.to) rfl; have e5_0 := hc5 0 (.int .i64 p.at_) rfl; have e5_1 := hc5 1 (.int .i64 p.en) rfl; have e5_2 := hc5 2 (.int .i64 p.st) rfl; have e5_3 := hc5 3 (.int .i64 p.sg) rfl; have e5_4 := hc5 4 (.int .i64 p.fr) rfl; have e5_5 := hc5 5 (.int .i64 p.to) rfl; have tc3_0 := T3.cell 0 (v := .int .u8 (k : Nat)) rfl; have tc3_1 := T3.cell 1 (v := .int .i64 0) rfl; have tc3_2 := T3.cell 2 (v := .int .i64 0) rfl; have tc3_3 := T3.cell 3 (v := .int .u8 0) rfl; have tc3_4 := T3.cell 4 (v := .int .i64 0) rfl; have GG : w.grownBy W5 none := (by rw [← hW5]; refine gb_new ?_ (Nat.le_trans g1.size g2.size) _; rw [← hW4]; refine gb_new ?_ (Nat.le_trans g1.size g2.size) _; exact gb_trans (gb_trans g1 g2) g3); have ru0 := R5.cell 0 (v := .int .u8 0) rfl; have ru1 := R5.cell 1 (v := .int .i64 0) rfl; have ru2 := R5.cell 2 (v := .int .i64 0) rfl; have ru3 := R5.cell 3 (v := .int .u8 0) rfl; have ru4 := R5.cell 4 (v := .int .i64 0) rfl; have rv0 := R5.frozen 0; have rv1 := R5.frozen 1; have rv2 := R5.frozen 2; have rv3 := R5.frozen 3; have rv4 := R5.frozen 4))
  have hgn : ¬ w2.heap.size = g := (hc.ne).resolve_right (by simp)
  have hgm : ¬ g = w2.heap.size := fun h => hgn h.symm
  have hgr : ¬ w.heap.size = g := fun h => by
    have a9 := B2.cell 0 (v := .int .u8 0) rfl
    have b9 := hc 0 _ rfl
    rw [← h, a9] at b9
    simp at b9
  have hgs : ¬ g = w.heap.size := fun h => hgr h.symm
  go_region_held2 (fun w' => w'.cell? ⟨g, 0, none⟩ = some (.int .i64 p.at_) ∧ w'.cell? ⟨g, 1, none⟩ = some (.int .i64 p.en) ∧ w'.cell? ⟨g, 2, none⟩ = some (.int .i64 p.st) ∧ w'.cell? ⟨g, 3, none⟩ = some (.int .i64 p.sg) ∧ w'.cell? ⟨g, 4, none⟩ = some (.int .i64 p.fr) ∧ w'.cell? ⟨g, 5, none⟩ = some (.int .i64 p.to)) (go_keep) (first | (go_at_call 22; (fail_if_success (guard_hyp mv0)); have mv0 : True := trivial; refine (hv1 _).mono ?_; rintro x w' ⟨rfl, hw'⟩; subst w'))
  all_goals go_wp2_with (first | (go_at_call 23; refine (htw _ g c hc5.dr).mono ?_; rintro x w' ⟨rfl, hw'⟩; subst w') | (go_at_call 24; refine (hsh _ g c hc5.dr).mono ?_; rintro x w7 ⟨rfl, g7⟩; have RH := R5.dr.kept g7 (by simp); have TH := T5.dr.kept g7 (by simp); have GH := gb_trans (gb_drew (GG)) g7; have hc7 := hc5.dr.kept g7; have rh0 := RH.cell 0 (v := .int .u8 0) rfl; have rh1 := RH.cell 1 (v := .int .i64 0) rfl; have rh2 := RH.cell 2 (v := .int .i64 0) rfl; have rh3 := RH.cell 3 (v := .int .u8 0) rfl; have rh4 := RH.cell 4 (v := .int .i64 0) rfl; have rg0 := RH.frozen 0; have rg1 := RH.frozen 1; have rg2 := RH.frozen 2; have rg3 := RH.frozen 3; have rg4 := RH.frozen 4; have th0 := TH.cell 0 (v := .int .u8 (k : Nat)) rfl; have th1 := TH.cell 1 (v := .int .i64 (V1 : Nat)) rfl; have th2 := TH.cell 2 (v := .int .i64 (V1 : Nat)) rfl; have th3 := TH.cell 3 (v := .int .u8 0) rfl; have th4 := TH.cell 4 (v := .int .i64 0) rfl; have tg0 := TH.frozen 0; have tg1 := TH.frozen 1; have tg2 := TH.frozen 2; have tg3 := TH.frozen 3; have tg4 := TH.frozen 4))
  all_goals refine wp_loop_rounds 3 ?_
  all_goals have ex8_0 := hc7 0 (.int .i64 p.at_) rfl
  all_goals have ex8_1 := hc7 1 (.int .i64 p.en) rfl
  all_goals have ex8_2 := hc7 2 (.int .i64 p.st) rfl
  all_goals have ex8_3 := hc7 3 (.int .i64 p.sg) rfl
  all_goals have ex8_4 := hc7 4 (.int .i64 p.fr) rfl
  all_goals have ex8_5 := hc7 5 (.int .i64 p.to) rfl
  all_goals obtain ⟨W8, hW8, sz8, g8, P8⟩ := boxn w7 (dpv p) 60
  all_goals have R8 := RH.kept g8 (by simp)
  all_goals have T8 := TH.kept g8 (by simp)
  all_goals have hc8 := hc7.kept g8
  all_goals have G8 := gb_trans GH g8
  all_goals have pc8_0 := P8.cell 0 (v := .int .i64 p.at_) rfl
  all_goals have pc8_1 := P8.cell 1 (v := .int .i64 p.en) rfl
  all_goals have pc8_2 := P8.cell 2 (v := .int .i64 p.st) rfl
  all_goals have pc8_3 := P8.cell 3 (v := .int .i64 p.sg) rfl
  all_goals have pc8_4 := P8.cell 4 (v := .int .i64 p.fr) rfl
  all_goals have pc8_5 := P8.cell 5 (v := .int .i64 p.to) rfl
  all_goals have tk8_0 := T8.cell 0 (v := .int .u8 (k : Nat)) rfl
  all_goals have tk8_1 := T8.cell 1 (v := .int .i64 (V1 : Nat)) rfl
  all_goals have tk8_2 := T8.cell 2 (v := .int .i64 (V1 : Nat)) rfl
  all_goals have tk8_3 := T8.cell 3 (v := .int .u8 0) rfl
  all_goals have tk8_4 := T8.cell 4 (v := .int .i64 0) rfl
  all_goals have tl8_0 := T8.frozen 0
  all_goals have tl8_1 := T8.frozen 1
  all_goals have tl8_2 := T8.frozen 2
  all_goals have tl8_3 := T8.frozen 3
  all_goals have tl8_4 := T8.frozen 4
  all_goals have rk8_0 := R8.cell 0 (v := .int .u8 0) rfl
  all_goals have rk8_1 := R8.cell 1 (v := .int .i64 0) rfl
  all_goals have rk8_2 := R8.cell 2 (v := .int .i64 0) rfl
  all_goals have rk8_3 := R8.cell 3 (v := .int .u8 0) rfl
  all_goals have rk8_4 := R8.cell 4 (v := .int .i64 0) rfl
  all_goals have rl8_0 := R8.frozen 0
  all_goals have rl8_1 := R8.frozen 1
  all_goals have rl8_2 := R8.frozen 2
  all_goals have rl8_3 := R8.frozen 3
  all_goals have rl8_4 := R8.frozen 4
  all_goals have hp8 : Hid (w2.heap.size ≠ w7.heap.size) := Nat.ne_of_lt TH.lt
  all_goals rw [rounds_succ]
  all_goals go_wp2_with (first | (fail))
  all_goals rw [rounds_succ]
  all_goals go_wp2
  all_goals refine ret_c3 (g := w.heap.size) (cs := #[.int .u8 (k : Nat), .int .i64 (V1 : Nat), .int .i64 (V1 : Nat), .int .u8 0, .int .i64 0]) rfl hfs infoT rfl ((bo5z R8)) rfl ⟨rfl, gb5z G8 (Nat.le_refl _)⟩

set_option maxHeartbeats 8000000 in
theorem one_f_star0 (s : ByteArray) (hs : ¬ (1048576 : Int) < (s.size : Int)) (k : Nat) (hk : k ≤ 255) (p : Tp.Dp) (V1 : Nat) (lp1 : 0 ≤ p.at_) (lp2 : p.at_ ≤ p.en) (lp3 : p.en ≤ (s.size : Int)) (hv1 : ∀ w, Calls Tryd.prog 22 #[.string (s.extract p.at_.toNat p.en.toNat)] w fun x w' => x = .returned (.int .i64 (V1 : Nat)) ∧ w' = w) (hf : ∀ w, Calls Tryd.prog 21 #[.string s] w fun x w' => (∃ g c, x = .returned (.tuple #[.int .u8 (k : Nat), .slice (some ⟨g, 0, none⟩) 1 c, .int .i64 0, .int .i64 0]) ∧ Cs w' g (dpl p)) ∧ w.grownBy w' none) (hw : ¬ (65536 : Int) < (V1 : Int)) (h3 : ¬ (3 : Int) ≤ (k : Int)) (X : Int) (htw : ∀ w g c, Cs w g (dpl p) → Calls Tryd.prog 23 #[.string s, .int .u8 (k : Nat), .slice (some ⟨g, 0, none⟩) 1 c] w fun x w' => x = .returned (.tuple #[.int .i64 X, .bool false]) ∧ w' = w) (Y : Int) (hsh : ∀ w g c, Cs w g (dpl p) → Calls Tryd.prog 24 #[.string s, .int .u8 (k : Nat), .slice (some ⟨g, 0, none⟩) 1 c, .int .i64 (V1 : Nat), .int .i64 (V1 : Nat)] w fun x w' => x = .returned (.tuple #[.int .i64 Y, .bool false]) ∧ w.grownBy w' none) (np1 : 0 ≤ p.st) (np2 : ¬ 0 ≤ p.sg) (w : World) : Calls Tryd.prog 9 #[.string s] w fun e w' => e = .returned (.tuple #[.agg #[.int .u8 (k : Nat), .int .i64 (V1 : Nat), .int .i64 (V1 : Nat), .int .u8 1, .int .i64 0], .int .i64 0, .int .i64 0]) ∧ w.grownBy w' none := by
  obtain ⟨fs, hfs⟩ := underT
  obtain ⟨W1, hW1, sz1, g1, B1⟩ := boxn w #[.int .u8 0, .int .i64 0, .int .i64 0, .int .u8 0, .int .i64 0] 23
  have z0 := B1.cell 0 (v := .int .u8 0) rfl
  have z1 := B1.cell 1 (v := .int .i64 0) rfl
  have z2 := B1.cell 2 (v := .int .i64 0) rfl
  have z3 := B1.cell 3 (v := .int .u8 0) rfl
  have z4 := B1.cell 4 (v := .int .i64 0) rfl
  have y0 := B1.frozen 0
  have y1 := B1.frozen 1
  have y2 := B1.frozen 2
  have y3 := B1.frozen 3
  have y4 := B1.frozen 4
  go_enter Tryd.func9, Tryd.ntmps9
  go_wp2_with (first | (go_at_call 21; refine (hf _).mono ?_; rintro x w2 ⟨⟨g, c, rfl, hc⟩, g2⟩; have B2 := B1.kept g2 (by simp); obtain ⟨W3, hW3, sz3, g3, T3⟩ := boxn w2 #[.int .u8 (k : Nat), .int .i64 0, .int .i64 0, .int .u8 0, .int .i64 0] 23; have R3 := B2.kept g3 (by simp); have hc3 := hc.kept g3; have sm0 := Bo.same T3 0 (v := .int .u8 (k : Nat)) rfl; have sm1 := Bo.same T3 1 (v := .int .i64 0) rfl; have sm2 := Bo.same T3 2 (v := .int .i64 0) rfl; have sm3 := Bo.same T3 3 (v := .int .u8 0) rfl; have sm4 := Bo.same T3 4 (v := .int .i64 0) rfl; have tf0 := T3.frozen 0; have tf1 := T3.frozen 1; have tf2 := T3.frozen 2; have tf3 := T3.frozen 3; have tf4 := T3.frozen 4; have HN : Hid (w2.heap.size ≠ w.heap.size) := (by have := g2.size; have := sz1.out; unfold Hid; omega); obtain ⟨W4, hW4⟩ : ∃ W, W3.setCell ⟨w2.heap.size, 1, none⟩ (.int .i64 (V1 : Nat)) = W := ⟨_, rfl⟩; have T4 : Bo W4 w2.heap.size 23 #[.int .u8 (k : Nat), .int .i64 (V1 : Nat), .int .i64 0, .int .u8 0, .int .i64 0] := (by rw [← hW4]; have h9 := T3.set 1 (.int .i64 (V1 : Nat)); simpa using h9); have R4 : Bo W4 w.heap.size 23 #[.int .u8 0, .int .i64 0, .int .i64 0, .int .u8 0, .int .i64 0] := (by rw [← hW4]; exact R3.set2 HN.out); have tf4_0 := T4.frozen 0; have tf4_1 := T4.frozen 1; have tf4_2 := T4.frozen 2; have tf4_3 := T4.frozen 3; have tf4_4 := T4.frozen 4; have hc4 : Cs W4 g (dpl p) := (by rw [← hW4]; exact Cs.set2 hc3 (hc.ne)); have tc4_0 := T4.cell 0 (v := .int .u8 (k : Nat)) rfl; have tc4_1 := T4.cell 1 (v := .int .i64 (V1 : Nat)) rfl; have tc4_2 := T4.cell 2 (v := .int .i64 0) rfl; have tc4_3 := T4.cell 3 (v := .int .u8 0) rfl; have tc4_4 := T4.cell 4 (v := .int .i64 0) rfl; obtain ⟨W5, hW5⟩ : ∃ W, W4.setCell ⟨w2.heap.size, 2, none⟩ (.int .i64 (V1 : Nat)) = W := ⟨_, rfl⟩; have T5 : Bo W5 w2.heap.size 23 #[.int .u8 (k : Nat), .int .i64 (V1 : Nat), .int .i64 (V1 : Nat), .int .u8 0, .int .i64 0] := (by rw [← hW5]; have h9 := T4.set 2 (.int .i64 (V1 : Nat)); simpa using h9); have R5 : Bo W5 w.heap.size 23 #[.int .u8 0, .int .i64 0, .int .i64 0, .int .u8 0, .int .i64 0] := (by rw [← hW5]; exact R4.set2 HN.out); have tf5_0 := T5.frozen 0; have tf5_1 := T5.frozen 1; have tf5_2 := T5.frozen 2; have tf5_3 := T5.frozen 3; have tf5_4 := T5.frozen 4; have hc5 : Cs W5 g (dpl p) := (by rw [← hW5]; exact Cs.set2 hc4 (hc.ne)); have tc5_0 := T5.cell 0 (v := .int .u8 (k : Nat)) rfl; have tc5_1 := T5.cell 1 (v := .int .i64 (V1 : Nat)) rfl; have tc5_2 := T5.cell 2 (v := .int .i64 (V1 : Nat)) rfl; have tc5_3 := T5.cell 3 (v := .int .u8 0) rfl; have tc5_4 := T5.cell 4 (v := .int .i64 0) rfl; have e3_0 := hc3 0 (.int .i64 p.at_) rfl; have e3_1 := hc3 1 (.int .i64 p.en) rfl; have e3_2 := hc3 2 (.int .i64 p.st) rfl; have e3_3 := hc3 3 (.int .i64 p.sg) rfl; have e3_4 := hc3 4 (.int .i64 p.fr) rfl; have e3_5 := hc3 5 (.int .i64 p.to) rfl; have e4_0 := hc4 0 (.int .i64 p.at_) rfl; have e4_1 := hc4 1 (.int .i64 p.en) rfl; have e4_2 := hc4 2 (.int .i64 p.st) rfl; have e4_3 := hc4 3 (.int .i64 p.sg) rfl; have e4_4 := hc4 4 (.int .i64 p.fr) rfl; have e4_5 := hc4 5 (.int .i64 p.to) rfl; have e5_0 := hc5 0 (.int .i64 p.at_) rfl; have e5_1 := hc5 1 (.int .i64 p.en) rfl; have e5_2 := hc5 2 (.int .i64 p.st) rfl; have e5_3 := hc5 3 (.int .i64 p.sg) rfl; have e5_4 := hc5 4 (.int .i64 p.fr) rfl; have e5_5 := hc5 5 (.int .i64 p.to) rfl; have tc3_0 := T3.cell 0 (v := .int .u8 (k : Nat)) rfl; have tc3_1 := T3.cell 1 (v := .int .i64 0) rfl; have tc3_2 := T3.cell 2 (v := .int .i64 0) rfl; have tc3_3 := T3.cell 3 (v := .int .u8 0) rfl; have tc3_4 := T3.cell 4 (v := .int .i64 0) rfl; have GG : w.grownBy W5 none := (by rw [← hW5]; refine gb_new ?_ (Nat.le_trans g1.size g2.size) _; rw [← hW4]; refine gb_new ?_ (Nat.le_trans g1.size g2.size) _; exact gb_trans (gb_trans g1 g2) g3); have ru0 := R5.cell 0 (v := .int .u8 0) rfl; have ru1 := R5.cell 1 (v := .int .i64 0) rfl; have ru2 := R5.cell 2 (v := .int .i64 0) rfl; have ru3 := R5.cell 3 (v := .int .u8 0) rfl; have ru4 := R5.cell 4 (v := .int .i64 0) rfl; have rv0 := R5.frozen 0; have rv1 := R5.frozen 1; have rv2 := R5.frozen 2; have rv3 := R5.frozen 3; have rv4 := R5.frozen 4))
  have hgn : ¬ w2.heap.size = g := (hc.ne).resolve_right (by simp)
  have hgm : ¬ g = w2.heap.size := fun h => hgn h.symm
  have hgr : ¬ w.heap.size = g := fun h => by
    have a9 := B2.cell 0 (v := .int .u8 0) rfl
    have b9 := hc 0 _ rfl
    rw [← h, a9] at b9
    simp at b9
  have hgs : ¬ g = w.heap.size := fun h => hgr h.symm
  go_region_held2 (fun w' => w'.cell? ⟨g, 0, none⟩ = some (.int .i64 p.at_) ∧ w'.cell? ⟨g, 1, none⟩ = some (.int .i64 p.en) ∧ w'.cell? ⟨g, 2, none⟩ = some (.int .i64 p.st) ∧ w'.cell? ⟨g, 3, none⟩ = some (.int .i64 p.sg) ∧ w'.cell? ⟨g, 4, none⟩ = some (.int .i64 p.fr) ∧ w'.cell? ⟨g, 5, none⟩ = some (.int .i64 p.to)) (go_keep) (first | (go_at_call 22; (fail_if_success (guard_hyp mv0)); have mv0 : True := trivial; refine (hv1 _).mono ?_; rintro x w' ⟨rfl, hw'⟩; subst w'))
  all_goals go_wp2_with (first | (go_at_call 23; refine (htw _ g c hc5.dr).mono ?_; rintro x w' ⟨rfl, hw'⟩; subst w') | (go_at_call 24; refine (hsh _ g c hc5.dr).mono ?_; rintro x w7 ⟨rfl, g7⟩; have RH := R5.dr.kept g7 (by simp); have TH := T5.dr.kept g7 (by simp); have GH := gb_trans (gb_drew (GG)) g7; have hc7 := hc5.dr.kept g7; have rh0 := RH.cell 0 (v := .int .u8 0) rfl; have rh1 := RH.cell 1 (v := .int .i64 0) rfl; have rh2 := RH.cell 2 (v := .int .i64 0) rfl; have rh3 := RH.cell 3 (v := .int .u8 0) rfl; have rh4 := RH.cell 4 (v := .int .i64 0) rfl; have rg0 := RH.frozen 0; have rg1 := RH.frozen 1; have rg2 := RH.frozen 2; have rg3 := RH.frozen 3; have rg4 := RH.frozen 4; have th0 := TH.cell 0 (v := .int .u8 (k : Nat)) rfl; have th1 := TH.cell 1 (v := .int .i64 (V1 : Nat)) rfl; have th2 := TH.cell 2 (v := .int .i64 (V1 : Nat)) rfl; have th3 := TH.cell 3 (v := .int .u8 0) rfl; have th4 := TH.cell 4 (v := .int .i64 0) rfl; have tg0 := TH.frozen 0; have tg1 := TH.frozen 1; have tg2 := TH.frozen 2; have tg3 := TH.frozen 3; have tg4 := TH.frozen 4))
  all_goals refine wp_loop_rounds 3 ?_
  all_goals have ex8_0 := hc7 0 (.int .i64 p.at_) rfl
  all_goals have ex8_1 := hc7 1 (.int .i64 p.en) rfl
  all_goals have ex8_2 := hc7 2 (.int .i64 p.st) rfl
  all_goals have ex8_3 := hc7 3 (.int .i64 p.sg) rfl
  all_goals have ex8_4 := hc7 4 (.int .i64 p.fr) rfl
  all_goals have ex8_5 := hc7 5 (.int .i64 p.to) rfl
  all_goals obtain ⟨W8, hW8, sz8, g8, P8⟩ := boxn w7 (dpv p) 60
  all_goals have R8 := RH.kept g8 (by simp)
  all_goals have T8 := TH.kept g8 (by simp)
  all_goals have hc8 := hc7.kept g8
  all_goals have G8 := gb_trans GH g8
  all_goals have pc8_0 := P8.cell 0 (v := .int .i64 p.at_) rfl
  all_goals have pc8_1 := P8.cell 1 (v := .int .i64 p.en) rfl
  all_goals have pc8_2 := P8.cell 2 (v := .int .i64 p.st) rfl
  all_goals have pc8_3 := P8.cell 3 (v := .int .i64 p.sg) rfl
  all_goals have pc8_4 := P8.cell 4 (v := .int .i64 p.fr) rfl
  all_goals have pc8_5 := P8.cell 5 (v := .int .i64 p.to) rfl
  all_goals have tk8_0 := T8.cell 0 (v := .int .u8 (k : Nat)) rfl
  all_goals have tk8_1 := T8.cell 1 (v := .int .i64 (V1 : Nat)) rfl
  all_goals have tk8_2 := T8.cell 2 (v := .int .i64 (V1 : Nat)) rfl
  all_goals have tk8_3 := T8.cell 3 (v := .int .u8 0) rfl
  all_goals have tk8_4 := T8.cell 4 (v := .int .i64 0) rfl
  all_goals have tl8_0 := T8.frozen 0
  all_goals have tl8_1 := T8.frozen 1
  all_goals have tl8_2 := T8.frozen 2
  all_goals have tl8_3 := T8.frozen 3
  all_goals have tl8_4 := T8.frozen 4
  all_goals have rk8_0 := R8.cell 0 (v := .int .u8 0) rfl
  all_goals have rk8_1 := R8.cell 1 (v := .int .i64 0) rfl
  all_goals have rk8_2 := R8.cell 2 (v := .int .i64 0) rfl
  all_goals have rk8_3 := R8.cell 3 (v := .int .u8 0) rfl
  all_goals have rk8_4 := R8.cell 4 (v := .int .i64 0) rfl
  all_goals have rl8_0 := R8.frozen 0
  all_goals have rl8_1 := R8.frozen 1
  all_goals have rl8_2 := R8.frozen 2
  all_goals have rl8_3 := R8.frozen 3
  all_goals have rl8_4 := R8.frozen 4
  all_goals have hp8 : Hid (w2.heap.size ≠ w7.heap.size) := Nat.ne_of_lt TH.lt
  all_goals obtain ⟨W9, hW9⟩ : ∃ W, W8.setCell ⟨w2.heap.size, 3, none⟩ (.int .u8 1) = W := ⟨_, rfl⟩
  all_goals (have T9 : Bo W9 w2.heap.size 23 #[.int .u8 (k : Nat), .int .i64 (V1 : Nat), .int .i64 (V1 : Nat), .int .u8 1, .int .i64 0] := (by rw [← hW9]; have h9 := T8.set 3 (.int .u8 1); simpa using h9))
  all_goals (have R9 : Bo W9 w.heap.size 23 #[.int .u8 0, .int .i64 0, .int .i64 0, .int .u8 0, .int .i64 0] := (by rw [← hW9]; exact R8.set2 HN.out))
  all_goals (have P9 : Bo W9 w7.heap.size 60 (dpv p) := (by rw [← hW9]; exact P8.set2 hp8.out))
  all_goals (have hc9 : Cs W9 g (dpl p) := (by rw [← hW9]; exact Cs.set2 hc8 (.inl hgn)))
  all_goals (have G9 : w.grownBy W9 none := (by rw [← hW9]; exact gb_new G8 (Nat.le_trans g1.size g2.size) _))
  all_goals have tk9_0 := T9.cell 0 (v := .int .u8 (k : Nat)) rfl
  all_goals have tk9_1 := T9.cell 1 (v := .int .i64 (V1 : Nat)) rfl
  all_goals have tk9_2 := T9.cell 2 (v := .int .i64 (V1 : Nat)) rfl
  all_goals have tk9_3 := T9.cell 3 (v := .int .u8 1) rfl
  all_goals have tk9_4 := T9.cell 4 (v := .int .i64 0) rfl
  all_goals have tl9_0 := T9.frozen 0
  all_goals have tl9_1 := T9.frozen 1
  all_goals have tl9_2 := T9.frozen 2
  all_goals have tl9_3 := T9.frozen 3
  all_goals have tl9_4 := T9.frozen 4
  all_goals have pc9_0 := P9.cell 0 (v := .int .i64 p.at_) rfl
  all_goals have pc9_1 := P9.cell 1 (v := .int .i64 p.en) rfl
  all_goals have pc9_2 := P9.cell 2 (v := .int .i64 p.st) rfl
  all_goals have pc9_3 := P9.cell 3 (v := .int .i64 p.sg) rfl
  all_goals have pc9_4 := P9.cell 4 (v := .int .i64 p.fr) rfl
  all_goals have pc9_5 := P9.cell 5 (v := .int .i64 p.to) rfl
  all_goals have rk9_0 := R9.cell 0 (v := .int .u8 0) rfl
  all_goals have rk9_1 := R9.cell 1 (v := .int .i64 0) rfl
  all_goals have rk9_2 := R9.cell 2 (v := .int .i64 0) rfl
  all_goals have rk9_3 := R9.cell 3 (v := .int .u8 0) rfl
  all_goals have rk9_4 := R9.cell 4 (v := .int .i64 0) rfl
  all_goals have rl9_0 := R9.frozen 0
  all_goals have rl9_1 := R9.frozen 1
  all_goals have rl9_2 := R9.frozen 2
  all_goals have rl9_3 := R9.frozen 3
  all_goals have rl9_4 := R9.frozen 4
  all_goals rw [rounds_succ]
  all_goals go_wp2_with (first | (fail))
  all_goals rw [rounds_succ]
  all_goals go_wp2
  all_goals refine ret_c3 (g := w.heap.size) (cs := #[.int .u8 (k : Nat), .int .i64 (V1 : Nat), .int .i64 (V1 : Nat), .int .u8 1, .int .i64 0]) rfl hfs infoT rfl ((bo5z R9)) rfl ⟨rfl, gb5z G9 (Nat.le_refl _)⟩

set_option maxHeartbeats 8000000 in
theorem one_f_star1 (s : ByteArray) (hs : ¬ (1048576 : Int) < (s.size : Int)) (k : Nat) (hk : k ≤ 255) (p : Tp.Dp) (V1 : Nat) (lp1 : 0 ≤ p.at_) (lp2 : p.at_ ≤ p.en) (lp3 : p.en ≤ (s.size : Int)) (hv1 : ∀ w, Calls Tryd.prog 22 #[.string (s.extract p.at_.toNat p.en.toNat)] w fun x w' => x = .returned (.int .i64 (V1 : Nat)) ∧ w' = w) (hf : ∀ w, Calls Tryd.prog 21 #[.string s] w fun x w' => (∃ g c, x = .returned (.tuple #[.int .u8 (k : Nat), .slice (some ⟨g, 0, none⟩) 1 c, .int .i64 0, .int .i64 0]) ∧ Cs w' g (dpl p)) ∧ w.grownBy w' none) (hw : ¬ (65536 : Int) < (V1 : Int)) (h3 : (3 : Int) ≤ (k : Int)) (h0 : ((V1 : Int) == 0) = false) (X : Int) (htw : ∀ w g c, Cs w g (dpl p) → Calls Tryd.prog 23 #[.string s, .int .u8 (k : Nat), .slice (some ⟨g, 0, none⟩) 1 c] w fun x w' => x = .returned (.tuple #[.int .i64 X, .bool false]) ∧ w' = w) (Y : Int) (hsh : ∀ w g c, Cs w g (dpl p) → Calls Tryd.prog 24 #[.string s, .int .u8 (k : Nat), .slice (some ⟨g, 0, none⟩) 1 c, .int .i64 (V1 : Nat), .int .i64 (V1 : Nat)] w fun x w' => x = .returned (.tuple #[.int .i64 Y, .bool false]) ∧ w.grownBy w' none) (np1 : 0 ≤ p.st) (np2 : ¬ 0 ≤ p.sg) (w : World) : Calls Tryd.prog 9 #[.string s] w fun e w' => e = .returned (.tuple #[.agg #[.int .u8 (k : Nat), .int .i64 (V1 : Nat), .int .i64 (V1 : Nat), .int .u8 1, .int .i64 0], .int .i64 0, .int .i64 0]) ∧ w.grownBy w' none := by
  obtain ⟨fs, hfs⟩ := underT
  obtain ⟨W1, hW1, sz1, g1, B1⟩ := boxn w #[.int .u8 0, .int .i64 0, .int .i64 0, .int .u8 0, .int .i64 0] 23
  have z0 := B1.cell 0 (v := .int .u8 0) rfl
  have z1 := B1.cell 1 (v := .int .i64 0) rfl
  have z2 := B1.cell 2 (v := .int .i64 0) rfl
  have z3 := B1.cell 3 (v := .int .u8 0) rfl
  have z4 := B1.cell 4 (v := .int .i64 0) rfl
  have y0 := B1.frozen 0
  have y1 := B1.frozen 1
  have y2 := B1.frozen 2
  have y3 := B1.frozen 3
  have y4 := B1.frozen 4
  go_enter Tryd.func9, Tryd.ntmps9
  go_wp2_with (first | (go_at_call 21; refine (hf _).mono ?_; rintro x w2 ⟨⟨g, c, rfl, hc⟩, g2⟩; have B2 := B1.kept g2 (by simp); obtain ⟨W3, hW3, sz3, g3, T3⟩ := boxn w2 #[.int .u8 (k : Nat), .int .i64 0, .int .i64 0, .int .u8 0, .int .i64 0] 23; have R3 := B2.kept g3 (by simp); have hc3 := hc.kept g3; have sm0 := Bo.same T3 0 (v := .int .u8 (k : Nat)) rfl; have sm1 := Bo.same T3 1 (v := .int .i64 0) rfl; have sm2 := Bo.same T3 2 (v := .int .i64 0) rfl; have sm3 := Bo.same T3 3 (v := .int .u8 0) rfl; have sm4 := Bo.same T3 4 (v := .int .i64 0) rfl; have tf0 := T3.frozen 0; have tf1 := T3.frozen 1; have tf2 := T3.frozen 2; have tf3 := T3.frozen 3; have tf4 := T3.frozen 4; have HN : Hid (w2.heap.size ≠ w.heap.size) := (by have := g2.size; have := sz1.out; unfold Hid; omega); obtain ⟨W4, hW4⟩ : ∃ W, W3.setCell ⟨w2.heap.size, 1, none⟩ (.int .i64 (V1 : Nat)) = W := ⟨_, rfl⟩; have T4 : Bo W4 w2.heap.size 23 #[.int .u8 (k : Nat), .int .i64 (V1 : Nat), .int .i64 0, .int .u8 0, .int .i64 0] := (by rw [← hW4]; have h9 := T3.set 1 (.int .i64 (V1 : Nat)); simpa using h9); have R4 : Bo W4 w.heap.size 23 #[.int .u8 0, .int .i64 0, .int .i64 0, .int .u8 0, .int .i64 0] := (by rw [← hW4]; exact R3.set2 HN.out); have tf4_0 := T4.frozen 0; have tf4_1 := T4.frozen 1; have tf4_2 := T4.frozen 2; have tf4_3 := T4.frozen 3; have tf4_4 := T4.frozen 4; have hc4 : Cs W4 g (dpl p) := (by rw [← hW4]; exact Cs.set2 hc3 (hc.ne)); have tc4_0 := T4.cell 0 (v := .int .u8 (k : Nat)) rfl; have tc4_1 := T4.cell 1 (v := .int .i64 (V1 : Nat)) rfl; have tc4_2 := T4.cell 2 (v := .int .i64 0) rfl; have tc4_3 := T4.cell 3 (v := .int .u8 0) rfl; have tc4_4 := T4.cell 4 (v := .int .i64 0) rfl; obtain ⟨W5, hW5⟩ : ∃ W, W4.setCell ⟨w2.heap.size, 2, none⟩ (.int .i64 (V1 : Nat)) = W := ⟨_, rfl⟩; have T5 : Bo W5 w2.heap.size 23 #[.int .u8 (k : Nat), .int .i64 (V1 : Nat), .int .i64 (V1 : Nat), .int .u8 0, .int .i64 0] := (by rw [← hW5]; have h9 := T4.set 2 (.int .i64 (V1 : Nat)); simpa using h9); have R5 : Bo W5 w.heap.size 23 #[.int .u8 0, .int .i64 0, .int .i64 0, .int .u8 0, .int .i64 0] := (by rw [← hW5]; exact R4.set2 HN.out); have tf5_0 := T5.frozen 0; have tf5_1 := T5.frozen 1; have tf5_2 := T5.frozen 2; have tf5_3 := T5.frozen 3; have tf5_4 := T5.frozen 4; have hc5 : Cs W5 g (dpl p) := (by rw [← hW5]; exact Cs.set2 hc4 (hc.ne)); have tc5_0 := T5.cell 0 (v := .int .u8 (k : Nat)) rfl; have tc5_1 := T5.cell 1 (v := .int .i64 (V1 : Nat)) rfl; have tc5_2 := T5.cell 2 (v := .int .i64 (V1 : Nat)) rfl; have tc5_3 := T5.cell 3 (v := .int .u8 0) rfl; have tc5_4 := T5.cell 4 (v := .int .i64 0) rfl; have e3_0 := hc3 0 (.int .i64 p.at_) rfl; have e3_1 := hc3 1 (.int .i64 p.en) rfl; have e3_2 := hc3 2 (.int .i64 p.st) rfl; have e3_3 := hc3 3 (.int .i64 p.sg) rfl; have e3_4 := hc3 4 (.int .i64 p.fr) rfl; have e3_5 := hc3 5 (.int .i64 p.to) rfl; have e4_0 := hc4 0 (.int .i64 p.at_) rfl; have e4_1 := hc4 1 (.int .i64 p.en) rfl; have e4_2 := hc4 2 (.int .i64 p.st) rfl; have e4_3 := hc4 3 (.int .i64 p.sg) rfl; have e4_4 := hc4 4 (.int .i64 p.fr) rfl; have e4_5 := hc4 5 (.int .i64 p.to) rfl; have e5_0 := hc5 0 (.int .i64 p.at_) rfl; have e5_1 := hc5 1 (.int .i64 p.en) rfl; have e5_2 := hc5 2 (.int .i64 p.st) rfl; have e5_3 := hc5 3 (.int .i64 p.sg) rfl; have e5_4 := hc5 4 (.int .i64 p.fr) rfl; have e5_5 := hc5 5 (.int .i64 p.to) rfl; have tc3_0 := T3.cell 0 (v := .int .u8 (k : Nat)) rfl; have tc3_1 := T3.cell 1 (v := .int .i64 0) rfl; have tc3_2 := T3.cell 2 (v := .int .i64 0) rfl; have tc3_3 := T3.cell 3 (v := .int .u8 0) rfl; have tc3_4 := T3.cell 4 (v := .int .i64 0) rfl; have GG : w.grownBy W5 none := (by rw [← hW5]; refine gb_new ?_ (Nat.le_trans g1.size g2.size) _; rw [← hW4]; refine gb_new ?_ (Nat.le_trans g1.size g2.size) _; exact gb_trans (gb_trans g1 g2) g3); have ru0 := R5.cell 0 (v := .int .u8 0) rfl; have ru1 := R5.cell 1 (v := .int .i64 0) rfl; have ru2 := R5.cell 2 (v := .int .i64 0) rfl; have ru3 := R5.cell 3 (v := .int .u8 0) rfl; have ru4 := R5.cell 4 (v := .int .i64 0) rfl; have rv0 := R5.frozen 0; have rv1 := R5.frozen 1; have rv2 := R5.frozen 2; have rv3 := R5.frozen 3; have rv4 := R5.frozen 4))
  have hgn : ¬ w2.heap.size = g := (hc.ne).resolve_right (by simp)
  have hgm : ¬ g = w2.heap.size := fun h => hgn h.symm
  have hgr : ¬ w.heap.size = g := fun h => by
    have a9 := B2.cell 0 (v := .int .u8 0) rfl
    have b9 := hc 0 _ rfl
    rw [← h, a9] at b9
    simp at b9
  have hgs : ¬ g = w.heap.size := fun h => hgr h.symm
  go_region_held2 (fun w' => w'.cell? ⟨g, 0, none⟩ = some (.int .i64 p.at_) ∧ w'.cell? ⟨g, 1, none⟩ = some (.int .i64 p.en) ∧ w'.cell? ⟨g, 2, none⟩ = some (.int .i64 p.st) ∧ w'.cell? ⟨g, 3, none⟩ = some (.int .i64 p.sg) ∧ w'.cell? ⟨g, 4, none⟩ = some (.int .i64 p.fr) ∧ w'.cell? ⟨g, 5, none⟩ = some (.int .i64 p.to)) (go_keep) (first | (go_at_call 22; (fail_if_success (guard_hyp mv0)); have mv0 : True := trivial; refine (hv1 _).mono ?_; rintro x w' ⟨rfl, hw'⟩; subst w'))
  all_goals go_wp2_with (first | (go_at_call 23; refine (htw _ g c hc5.dr).mono ?_; rintro x w' ⟨rfl, hw'⟩; subst w') | (go_at_call 24; refine (hsh _ g c hc5.dr).mono ?_; rintro x w7 ⟨rfl, g7⟩; have RH := R5.dr.kept g7 (by simp); have TH := T5.dr.kept g7 (by simp); have GH := gb_trans (gb_drew (GG)) g7; have hc7 := hc5.dr.kept g7; have rh0 := RH.cell 0 (v := .int .u8 0) rfl; have rh1 := RH.cell 1 (v := .int .i64 0) rfl; have rh2 := RH.cell 2 (v := .int .i64 0) rfl; have rh3 := RH.cell 3 (v := .int .u8 0) rfl; have rh4 := RH.cell 4 (v := .int .i64 0) rfl; have rg0 := RH.frozen 0; have rg1 := RH.frozen 1; have rg2 := RH.frozen 2; have rg3 := RH.frozen 3; have rg4 := RH.frozen 4; have th0 := TH.cell 0 (v := .int .u8 (k : Nat)) rfl; have th1 := TH.cell 1 (v := .int .i64 (V1 : Nat)) rfl; have th2 := TH.cell 2 (v := .int .i64 (V1 : Nat)) rfl; have th3 := TH.cell 3 (v := .int .u8 0) rfl; have th4 := TH.cell 4 (v := .int .i64 0) rfl; have tg0 := TH.frozen 0; have tg1 := TH.frozen 1; have tg2 := TH.frozen 2; have tg3 := TH.frozen 3; have tg4 := TH.frozen 4))
  all_goals refine wp_loop_rounds 3 ?_
  all_goals have ex8_0 := hc7 0 (.int .i64 p.at_) rfl
  all_goals have ex8_1 := hc7 1 (.int .i64 p.en) rfl
  all_goals have ex8_2 := hc7 2 (.int .i64 p.st) rfl
  all_goals have ex8_3 := hc7 3 (.int .i64 p.sg) rfl
  all_goals have ex8_4 := hc7 4 (.int .i64 p.fr) rfl
  all_goals have ex8_5 := hc7 5 (.int .i64 p.to) rfl
  all_goals obtain ⟨W8, hW8, sz8, g8, P8⟩ := boxn w7 (dpv p) 60
  all_goals have R8 := RH.kept g8 (by simp)
  all_goals have T8 := TH.kept g8 (by simp)
  all_goals have hc8 := hc7.kept g8
  all_goals have G8 := gb_trans GH g8
  all_goals have pc8_0 := P8.cell 0 (v := .int .i64 p.at_) rfl
  all_goals have pc8_1 := P8.cell 1 (v := .int .i64 p.en) rfl
  all_goals have pc8_2 := P8.cell 2 (v := .int .i64 p.st) rfl
  all_goals have pc8_3 := P8.cell 3 (v := .int .i64 p.sg) rfl
  all_goals have pc8_4 := P8.cell 4 (v := .int .i64 p.fr) rfl
  all_goals have pc8_5 := P8.cell 5 (v := .int .i64 p.to) rfl
  all_goals have tk8_0 := T8.cell 0 (v := .int .u8 (k : Nat)) rfl
  all_goals have tk8_1 := T8.cell 1 (v := .int .i64 (V1 : Nat)) rfl
  all_goals have tk8_2 := T8.cell 2 (v := .int .i64 (V1 : Nat)) rfl
  all_goals have tk8_3 := T8.cell 3 (v := .int .u8 0) rfl
  all_goals have tk8_4 := T8.cell 4 (v := .int .i64 0) rfl
  all_goals have tl8_0 := T8.frozen 0
  all_goals have tl8_1 := T8.frozen 1
  all_goals have tl8_2 := T8.frozen 2
  all_goals have tl8_3 := T8.frozen 3
  all_goals have tl8_4 := T8.frozen 4
  all_goals have rk8_0 := R8.cell 0 (v := .int .u8 0) rfl
  all_goals have rk8_1 := R8.cell 1 (v := .int .i64 0) rfl
  all_goals have rk8_2 := R8.cell 2 (v := .int .i64 0) rfl
  all_goals have rk8_3 := R8.cell 3 (v := .int .u8 0) rfl
  all_goals have rk8_4 := R8.cell 4 (v := .int .i64 0) rfl
  all_goals have rl8_0 := R8.frozen 0
  all_goals have rl8_1 := R8.frozen 1
  all_goals have rl8_2 := R8.frozen 2
  all_goals have rl8_3 := R8.frozen 3
  all_goals have rl8_4 := R8.frozen 4
  all_goals have hp8 : Hid (w2.heap.size ≠ w7.heap.size) := Nat.ne_of_lt TH.lt
  all_goals obtain ⟨W9, hW9⟩ : ∃ W, W8.setCell ⟨w2.heap.size, 3, none⟩ (.int .u8 1) = W := ⟨_, rfl⟩
  all_goals (have T9 : Bo W9 w2.heap.size 23 #[.int .u8 (k : Nat), .int .i64 (V1 : Nat), .int .i64 (V1 : Nat), .int .u8 1, .int .i64 0] := (by rw [← hW9]; have h9 := T8.set 3 (.int .u8 1); simpa using h9))
  all_goals (have R9 : Bo W9 w.heap.size 23 #[.int .u8 0, .int .i64 0, .int .i64 0, .int .u8 0, .int .i64 0] := (by rw [← hW9]; exact R8.set2 HN.out))
  all_goals (have P9 : Bo W9 w7.heap.size 60 (dpv p) := (by rw [← hW9]; exact P8.set2 hp8.out))
  all_goals (have hc9 : Cs W9 g (dpl p) := (by rw [← hW9]; exact Cs.set2 hc8 (.inl hgn)))
  all_goals (have G9 : w.grownBy W9 none := (by rw [← hW9]; exact gb_new G8 (Nat.le_trans g1.size g2.size) _))
  all_goals have tk9_0 := T9.cell 0 (v := .int .u8 (k : Nat)) rfl
  all_goals have tk9_1 := T9.cell 1 (v := .int .i64 (V1 : Nat)) rfl
  all_goals have tk9_2 := T9.cell 2 (v := .int .i64 (V1 : Nat)) rfl
  all_goals have tk9_3 := T9.cell 3 (v := .int .u8 1) rfl
  all_goals have tk9_4 := T9.cell 4 (v := .int .i64 0) rfl
  all_goals have tl9_0 := T9.frozen 0
  all_goals have tl9_1 := T9.frozen 1
  all_goals have tl9_2 := T9.frozen 2
  all_goals have tl9_3 := T9.frozen 3
  all_goals have tl9_4 := T9.frozen 4
  all_goals have pc9_0 := P9.cell 0 (v := .int .i64 p.at_) rfl
  all_goals have pc9_1 := P9.cell 1 (v := .int .i64 p.en) rfl
  all_goals have pc9_2 := P9.cell 2 (v := .int .i64 p.st) rfl
  all_goals have pc9_3 := P9.cell 3 (v := .int .i64 p.sg) rfl
  all_goals have pc9_4 := P9.cell 4 (v := .int .i64 p.fr) rfl
  all_goals have pc9_5 := P9.cell 5 (v := .int .i64 p.to) rfl
  all_goals have rk9_0 := R9.cell 0 (v := .int .u8 0) rfl
  all_goals have rk9_1 := R9.cell 1 (v := .int .i64 0) rfl
  all_goals have rk9_2 := R9.cell 2 (v := .int .i64 0) rfl
  all_goals have rk9_3 := R9.cell 3 (v := .int .u8 0) rfl
  all_goals have rk9_4 := R9.cell 4 (v := .int .i64 0) rfl
  all_goals have rl9_0 := R9.frozen 0
  all_goals have rl9_1 := R9.frozen 1
  all_goals have rl9_2 := R9.frozen 2
  all_goals have rl9_3 := R9.frozen 3
  all_goals have rl9_4 := R9.frozen 4
  all_goals rw [rounds_succ]
  all_goals go_wp2_with (first | (fail))
  all_goals rw [rounds_succ]
  all_goals go_wp2
  all_goals refine ret_c3 (g := w.heap.size) (cs := #[.int .u8 (k : Nat), .int .i64 (V1 : Nat), .int .i64 (V1 : Nat), .int .u8 1, .int .i64 0]) rfl hfs infoT rfl ((bo5z R9)) rfl ⟨rfl, gb5z G9 (Nat.le_refl _)⟩

set_option maxHeartbeats 8000000 in
theorem one_f_plus0 (s : ByteArray) (hs : ¬ (1048576 : Int) < (s.size : Int)) (k : Nat) (hk : k ≤ 255) (p : Tp.Dp) (V1 : Nat) (lp1 : 0 ≤ p.at_) (lp2 : p.at_ ≤ p.en) (lp3 : p.en ≤ (s.size : Int)) (hv1 : ∀ w, Calls Tryd.prog 22 #[.string (s.extract p.at_.toNat p.en.toNat)] w fun x w' => x = .returned (.int .i64 (V1 : Nat)) ∧ w' = w) (hf : ∀ w, Calls Tryd.prog 21 #[.string s] w fun x w' => (∃ g c, x = .returned (.tuple #[.int .u8 (k : Nat), .slice (some ⟨g, 0, none⟩) 1 c, .int .i64 0, .int .i64 0]) ∧ Cs w' g (dpl p)) ∧ w.grownBy w' none) (hw : ¬ (65536 : Int) < (V1 : Int)) (h3 : ¬ (3 : Int) ≤ (k : Int)) (X : Int) (htw : ∀ w g c, Cs w g (dpl p) → Calls Tryd.prog 23 #[.string s, .int .u8 (k : Nat), .slice (some ⟨g, 0, none⟩) 1 c] w fun x w' => x = .returned (.tuple #[.int .i64 X, .bool false]) ∧ w' = w) (Y : Int) (hsh : ∀ w g c, Cs w g (dpl p) → Calls Tryd.prog 24 #[.string s, .int .u8 (k : Nat), .slice (some ⟨g, 0, none⟩) 1 c, .int .i64 (V1 : Nat), .int .i64 (V1 : Nat)] w fun x w' => x = .returned (.tuple #[.int .i64 Y, .bool false]) ∧ w.grownBy w' none) (N0 : Nat) (np2 : 0 ≤ p.sg) (s0i : p.sg < (s.size : Int)) (s0l : p.sg.toNat < s.size) (f01 : 0 ≤ p.fr) (f02 : p.fr ≤ p.to) (f03 : p.to ≤ (s.size : Int)) (bs0 : ((Sc.bt s p.sg.toNat : Int) == 45) = false) (hN0 : N0 ≤ 1048577) (hn0 : ∀ w, Calls Tryd.prog 22 #[.string (s.extract p.fr.toNat p.to.toNat)] w fun x w' => x = .returned (.int .i64 (N0 : Nat)) ∧ w' = w) (w : World) : Calls Tryd.prog 9 #[.string s] w fun e w' => e = .returned (.tuple #[.agg #[.int .u8 (k : Nat), .int .i64 (V1 : Nat), .int .i64 (V1 : Nat), .int .u8 1, .int .i64 (N0 : Nat)], .int .i64 0, .int .i64 0]) ∧ w.grownBy w' none := by
  obtain ⟨fs, hfs⟩ := underT
  obtain ⟨W1, hW1, sz1, g1, B1⟩ := boxn w #[.int .u8 0, .int .i64 0, .int .i64 0, .int .u8 0, .int .i64 0] 23
  have z0 := B1.cell 0 (v := .int .u8 0) rfl
  have z1 := B1.cell 1 (v := .int .i64 0) rfl
  have z2 := B1.cell 2 (v := .int .i64 0) rfl
  have z3 := B1.cell 3 (v := .int .u8 0) rfl
  have z4 := B1.cell 4 (v := .int .i64 0) rfl
  have y0 := B1.frozen 0
  have y1 := B1.frozen 1
  have y2 := B1.frozen 2
  have y3 := B1.frozen 3
  have y4 := B1.frozen 4
  have sb0 := Sc.bt_at s0l
  have ng0 : IntKind.i64.wrap (-(N0 : Int)) = -(N0 : Int) := by rw [IntKind.wrap_i64]; omega
  go_enter Tryd.func9, Tryd.ntmps9
  go_wp2_with (first | (go_at_call 21; refine (hf _).mono ?_; rintro x w2 ⟨⟨g, c, rfl, hc⟩, g2⟩; have B2 := B1.kept g2 (by simp); obtain ⟨W3, hW3, sz3, g3, T3⟩ := boxn w2 #[.int .u8 (k : Nat), .int .i64 0, .int .i64 0, .int .u8 0, .int .i64 0] 23; have R3 := B2.kept g3 (by simp); have hc3 := hc.kept g3; have sm0 := Bo.same T3 0 (v := .int .u8 (k : Nat)) rfl; have sm1 := Bo.same T3 1 (v := .int .i64 0) rfl; have sm2 := Bo.same T3 2 (v := .int .i64 0) rfl; have sm3 := Bo.same T3 3 (v := .int .u8 0) rfl; have sm4 := Bo.same T3 4 (v := .int .i64 0) rfl; have tf0 := T3.frozen 0; have tf1 := T3.frozen 1; have tf2 := T3.frozen 2; have tf3 := T3.frozen 3; have tf4 := T3.frozen 4; have HN : Hid (w2.heap.size ≠ w.heap.size) := (by have := g2.size; have := sz1.out; unfold Hid; omega); obtain ⟨W4, hW4⟩ : ∃ W, W3.setCell ⟨w2.heap.size, 1, none⟩ (.int .i64 (V1 : Nat)) = W := ⟨_, rfl⟩; have T4 : Bo W4 w2.heap.size 23 #[.int .u8 (k : Nat), .int .i64 (V1 : Nat), .int .i64 0, .int .u8 0, .int .i64 0] := (by rw [← hW4]; have h9 := T3.set 1 (.int .i64 (V1 : Nat)); simpa using h9); have R4 : Bo W4 w.heap.size 23 #[.int .u8 0, .int .i64 0, .int .i64 0, .int .u8 0, .int .i64 0] := (by rw [← hW4]; exact R3.set2 HN.out); have tf4_0 := T4.frozen 0; have tf4_1 := T4.frozen 1; have tf4_2 := T4.frozen 2; have tf4_3 := T4.frozen 3; have tf4_4 := T4.frozen 4; have hc4 : Cs W4 g (dpl p) := (by rw [← hW4]; exact Cs.set2 hc3 (hc.ne)); have tc4_0 := T4.cell 0 (v := .int .u8 (k : Nat)) rfl; have tc4_1 := T4.cell 1 (v := .int .i64 (V1 : Nat)) rfl; have tc4_2 := T4.cell 2 (v := .int .i64 0) rfl; have tc4_3 := T4.cell 3 (v := .int .u8 0) rfl; have tc4_4 := T4.cell 4 (v := .int .i64 0) rfl; obtain ⟨W5, hW5⟩ : ∃ W, W4.setCell ⟨w2.heap.size, 2, none⟩ (.int .i64 (V1 : Nat)) = W := ⟨_, rfl⟩; have T5 : Bo W5 w2.heap.size 23 #[.int .u8 (k : Nat), .int .i64 (V1 : Nat), .int .i64 (V1 : Nat), .int .u8 0, .int .i64 0] := (by rw [← hW5]; have h9 := T4.set 2 (.int .i64 (V1 : Nat)); simpa using h9); have R5 : Bo W5 w.heap.size 23 #[.int .u8 0, .int .i64 0, .int .i64 0, .int .u8 0, .int .i64 0] := (by rw [← hW5]; exact R4.set2 HN.out); have tf5_0 := T5.frozen 0; have tf5_1 := T5.frozen 1; have tf5_2 := T5.frozen 2; have tf5_3 := T5.frozen 3; have tf5_4 := T5.frozen 4; have hc5 : Cs W5 g (dpl p) := (by rw [← hW5]; exact Cs.set2 hc4 (hc.ne)); have tc5_0 := T5.cell 0 (v := .int .u8 (k : Nat)) rfl; have tc5_1 := T5.cell 1 (v := .int .i64 (V1 : Nat)) rfl; have tc5_2 := T5.cell 2 (v := .int .i64 (V1 : Nat)) rfl; have tc5_3 := T5.cell 3 (v := .int .u8 0) rfl; have tc5_4 := T5.cell 4 (v := .int .i64 0) rfl; have e3_0 := hc3 0 (.int .i64 p.at_) rfl; have e3_1 := hc3 1 (.int .i64 p.en) rfl; have e3_2 := hc3 2 (.int .i64 p.st) rfl; have e3_3 := hc3 3 (.int .i64 p.sg) rfl; have e3_4 := hc3 4 (.int .i64 p.fr) rfl; have e3_5 := hc3 5 (.int .i64 p.to) rfl; have e4_0 := hc4 0 (.int .i64 p.at_) rfl; have e4_1 := hc4 1 (.int .i64 p.en) rfl; have e4_2 := hc4 2 (.int .i64 p.st) rfl; have e4_3 := hc4 3 (.int .i64 p.sg) rfl; have e4_4 := hc4 4 (.int .i64 p.fr) rfl; have e4_5 := hc4 5 (.int .i64 p.to) rfl; have e5_0 := hc5 0 (.int .i64 p.at_) rfl; have e5_1 := hc5 1 (.int .i64 p.en) rfl; have e5_2 := hc5 2 (.int .i64 p.st) rfl; have e5_3 := hc5 3 (.int .i64 p.sg) rfl; have e5_4 := hc5 4 (.int .i64 p.fr) rfl; have e5_5 := hc5 5 (.int .i64 p.to) rfl; have tc3_0 := T3.cell 0 (v := .int .u8 (k : Nat)) rfl; have tc3_1 := T3.cell 1 (v := .int .i64 0) rfl; have tc3_2 := T3.cell 2 (v := .int .i64 0) rfl; have tc3_3 := T3.cell 3 (v := .int .u8 0) rfl; have tc3_4 := T3.cell 4 (v := .int .i64 0) rfl; have GG : w.grownBy W5 none := (by rw [← hW5]; refine gb_new ?_ (Nat.le_trans g1.size g2.size) _; rw [← hW4]; refine gb_new ?_ (Nat.le_trans g1.size g2.size) _; exact gb_trans (gb_trans g1 g2) g3); have ru0 := R5.cell 0 (v := .int .u8 0) rfl; have ru1 := R5.cell 1 (v := .int .i64 0) rfl; have ru2 := R5.cell 2 (v := .int .i64 0) rfl; have ru3 := R5.cell 3 (v := .int .u8 0) rfl; have ru4 := R5.cell 4 (v := .int .i64 0) rfl; have rv0 := R5.frozen 0; have rv1 := R5.frozen 1; have rv2 := R5.frozen 2; have rv3 := R5.frozen 3; have rv4 := R5.frozen 4))
  have hgn : ¬ w2.heap.size = g := (hc.ne).resolve_right (by simp)
  have hgm : ¬ g = w2.heap.size := fun h => hgn h.symm
  have hgr : ¬ w.heap.size = g := fun h => by
    have a9 := B2.cell 0 (v := .int .u8 0) rfl
    have b9 := hc 0 _ rfl
    rw [← h, a9] at b9
    simp at b9
  have hgs : ¬ g = w.heap.size := fun h => hgr h.symm
  go_region_held2 (fun w' => w'.cell? ⟨g, 0, none⟩ = some (.int .i64 p.at_) ∧ w'.cell? ⟨g, 1, none⟩ = some (.int .i64 p.en) ∧ w'.cell? ⟨g, 2, none⟩ = some (.int .i64 p.st) ∧ w'.cell? ⟨g, 3, none⟩ = some (.int .i64 p.sg) ∧ w'.cell? ⟨g, 4, none⟩ = some (.int .i64 p.fr) ∧ w'.cell? ⟨g, 5, none⟩ = some (.int .i64 p.to)) (go_keep) (first | (go_at_call 22; (fail_if_success (guard_hyp mv0)); have mv0 : True := trivial; refine (hv1 _).mono ?_; rintro x w' ⟨rfl, hw'⟩; subst w'))
  all_goals go_wp2_with (first | (go_at_call 23; refine (htw _ g c hc5.dr).mono ?_; rintro x w' ⟨rfl, hw'⟩; subst w') | (go_at_call 24; refine (hsh _ g c hc5.dr).mono ?_; rintro x w7 ⟨rfl, g7⟩; have RH := R5.dr.kept g7 (by simp); have TH := T5.dr.kept g7 (by simp); have GH := gb_trans (gb_drew (GG)) g7; have hc7 := hc5.dr.kept g7; have rh0 := RH.cell 0 (v := .int .u8 0) rfl; have rh1 := RH.cell 1 (v := .int .i64 0) rfl; have rh2 := RH.cell 2 (v := .int .i64 0) rfl; have rh3 := RH.cell 3 (v := .int .u8 0) rfl; have rh4 := RH.cell 4 (v := .int .i64 0) rfl; have rg0 := RH.frozen 0; have rg1 := RH.frozen 1; have rg2 := RH.frozen 2; have rg3 := RH.frozen 3; have rg4 := RH.frozen 4; have th0 := TH.cell 0 (v := .int .u8 (k : Nat)) rfl; have th1 := TH.cell 1 (v := .int .i64 (V1 : Nat)) rfl; have th2 := TH.cell 2 (v := .int .i64 (V1 : Nat)) rfl; have th3 := TH.cell 3 (v := .int .u8 0) rfl; have th4 := TH.cell 4 (v := .int .i64 0) rfl; have tg0 := TH.frozen 0; have tg1 := TH.frozen 1; have tg2 := TH.frozen 2; have tg3 := TH.frozen 3; have tg4 := TH.frozen 4))
  all_goals refine wp_loop_rounds 3 ?_
  all_goals have ex8_0 := hc7 0 (.int .i64 p.at_) rfl
  all_goals have ex8_1 := hc7 1 (.int .i64 p.en) rfl
  all_goals have ex8_2 := hc7 2 (.int .i64 p.st) rfl
  all_goals have ex8_3 := hc7 3 (.int .i64 p.sg) rfl
  all_goals have ex8_4 := hc7 4 (.int .i64 p.fr) rfl
  all_goals have ex8_5 := hc7 5 (.int .i64 p.to) rfl
  all_goals obtain ⟨W8, hW8, sz8, g8, P8⟩ := boxn w7 (dpv p) 60
  all_goals have R8 := RH.kept g8 (by simp)
  all_goals have T8 := TH.kept g8 (by simp)
  all_goals have hc8 := hc7.kept g8
  all_goals have G8 := gb_trans GH g8
  all_goals have pc8_0 := P8.cell 0 (v := .int .i64 p.at_) rfl
  all_goals have pc8_1 := P8.cell 1 (v := .int .i64 p.en) rfl
  all_goals have pc8_2 := P8.cell 2 (v := .int .i64 p.st) rfl
  all_goals have pc8_3 := P8.cell 3 (v := .int .i64 p.sg) rfl
  all_goals have pc8_4 := P8.cell 4 (v := .int .i64 p.fr) rfl
  all_goals have pc8_5 := P8.cell 5 (v := .int .i64 p.to) rfl
  all_goals have tk8_0 := T8.cell 0 (v := .int .u8 (k : Nat)) rfl
  all_goals have tk8_1 := T8.cell 1 (v := .int .i64 (V1 : Nat)) rfl
  all_goals have tk8_2 := T8.cell 2 (v := .int .i64 (V1 : Nat)) rfl
  all_goals have tk8_3 := T8.cell 3 (v := .int .u8 0) rfl
  all_goals have tk8_4 := T8.cell 4 (v := .int .i64 0) rfl
  all_goals have tl8_0 := T8.frozen 0
  all_goals have tl8_1 := T8.frozen 1
  all_goals have tl8_2 := T8.frozen 2
  all_goals have tl8_3 := T8.frozen 3
  all_goals have tl8_4 := T8.frozen 4
  all_goals have rk8_0 := R8.cell 0 (v := .int .u8 0) rfl
  all_goals have rk8_1 := R8.cell 1 (v := .int .i64 0) rfl
  all_goals have rk8_2 := R8.cell 2 (v := .int .i64 0) rfl
  all_goals have rk8_3 := R8.cell 3 (v := .int .u8 0) rfl
  all_goals have rk8_4 := R8.cell 4 (v := .int .i64 0) rfl
  all_goals have rl8_0 := R8.frozen 0
  all_goals have rl8_1 := R8.frozen 1
  all_goals have rl8_2 := R8.frozen 2
  all_goals have rl8_3 := R8.frozen 3
  all_goals have rl8_4 := R8.frozen 4
  all_goals have hp8 : Hid (w2.heap.size ≠ w7.heap.size) := Nat.ne_of_lt TH.lt
  all_goals obtain ⟨W9, hW9⟩ : ∃ W, W8.setCell ⟨w2.heap.size, 3, none⟩ (.int .u8 1) = W := ⟨_, rfl⟩
  all_goals (have T9 : Bo W9 w2.heap.size 23 #[.int .u8 (k : Nat), .int .i64 (V1 : Nat), .int .i64 (V1 : Nat), .int .u8 1, .int .i64 0] := (by rw [← hW9]; have h9 := T8.set 3 (.int .u8 1); simpa using h9))
  all_goals (have R9 : Bo W9 w.heap.size 23 #[.int .u8 0, .int .i64 0, .int .i64 0, .int .u8 0, .int .i64 0] := (by rw [← hW9]; exact R8.set2 HN.out))
  all_goals (have P9 : Bo W9 w7.heap.size 60 (dpv p) := (by rw [← hW9]; exact P8.set2 hp8.out))
  all_goals (have hc9 : Cs W9 g (dpl p) := (by rw [← hW9]; exact Cs.set2 hc8 (.inl hgn)))
  all_goals (have G9 : w.grownBy W9 none := (by rw [← hW9]; exact gb_new G8 (Nat.le_trans g1.size g2.size) _))
  all_goals have tk9_0 := T9.cell 0 (v := .int .u8 (k : Nat)) rfl
  all_goals have tk9_1 := T9.cell 1 (v := .int .i64 (V1 : Nat)) rfl
  all_goals have tk9_2 := T9.cell 2 (v := .int .i64 (V1 : Nat)) rfl
  all_goals have tk9_3 := T9.cell 3 (v := .int .u8 1) rfl
  all_goals have tk9_4 := T9.cell 4 (v := .int .i64 0) rfl
  all_goals have tl9_0 := T9.frozen 0
  all_goals have tl9_1 := T9.frozen 1
  all_goals have tl9_2 := T9.frozen 2
  all_goals have tl9_3 := T9.frozen 3
  all_goals have tl9_4 := T9.frozen 4
  all_goals have pc9_0 := P9.cell 0 (v := .int .i64 p.at_) rfl
  all_goals have pc9_1 := P9.cell 1 (v := .int .i64 p.en) rfl
  all_goals have pc9_2 := P9.cell 2 (v := .int .i64 p.st) rfl
  all_goals have pc9_3 := P9.cell 3 (v := .int .i64 p.sg) rfl
  all_goals have pc9_4 := P9.cell 4 (v := .int .i64 p.fr) rfl
  all_goals have pc9_5 := P9.cell 5 (v := .int .i64 p.to) rfl
  all_goals have rk9_0 := R9.cell 0 (v := .int .u8 0) rfl
  all_goals have rk9_1 := R9.cell 1 (v := .int .i64 0) rfl
  all_goals have rk9_2 := R9.cell 2 (v := .int .i64 0) rfl
  all_goals have rk9_3 := R9.cell 3 (v := .int .u8 0) rfl
  all_goals have rk9_4 := R9.cell 4 (v := .int .i64 0) rfl
  all_goals have rl9_0 := R9.frozen 0
  all_goals have rl9_1 := R9.frozen 1
  all_goals have rl9_2 := R9.frozen 2
  all_goals have rl9_3 := R9.frozen 3
  all_goals have rl9_4 := R9.frozen 4
  all_goals obtain ⟨W10, hW10⟩ : ∃ W, W9.setCell ⟨w2.heap.size, 4, none⟩ (.int .i64 (N0 : Nat)) = W := ⟨_, rfl⟩
  all_goals (have T10 : Bo W10 w2.heap.size 23 #[.int .u8 (k : Nat), .int .i64 (V1 : Nat), .int .i64 (V1 : Nat), .int .u8 1, .int .i64 (N0 : Nat)] := (by rw [← hW10]; have h9 := T9.set 4 (.int .i64 (N0 : Nat)); simpa using h9))
  all_goals (have R10 : Bo W10 w.heap.size 23 #[.int .u8 0, .int .i64 0, .int .i64 0, .int .u8 0, .int .i64 0] := (by rw [← hW10]; exact R9.set2 HN.out))
  all_goals (have P10 : Bo W10 w7.heap.size 60 (dpv p) := (by rw [← hW10]; exact P9.set2 hp8.out))
  all_goals (have hc10 : Cs W10 g (dpl p) := (by rw [← hW10]; exact Cs.set2 hc9 (.inl hgn)))
  all_goals (have G10 : w.grownBy W10 none := (by rw [← hW10]; exact gb_new G9 (Nat.le_trans g1.size g2.size) _))
  all_goals have tk10_0 := T10.cell 0 (v := .int .u8 (k : Nat)) rfl
  all_goals have tk10_1 := T10.cell 1 (v := .int .i64 (V1 : Nat)) rfl
  all_goals have tk10_2 := T10.cell 2 (v := .int .i64 (V1 : Nat)) rfl
  all_goals have tk10_3 := T10.cell 3 (v := .int .u8 1) rfl
  all_goals have tk10_4 := T10.cell 4 (v := .int .i64 (N0 : Nat)) rfl
  all_goals have tl10_0 := T10.frozen 0
  all_goals have tl10_1 := T10.frozen 1
  all_goals have tl10_2 := T10.frozen 2
  all_goals have tl10_3 := T10.frozen 3
  all_goals have tl10_4 := T10.frozen 4
  all_goals have pc10_0 := P10.cell 0 (v := .int .i64 p.at_) rfl
  all_goals have pc10_1 := P10.cell 1 (v := .int .i64 p.en) rfl
  all_goals have pc10_2 := P10.cell 2 (v := .int .i64 p.st) rfl
  all_goals have pc10_3 := P10.cell 3 (v := .int .i64 p.sg) rfl
  all_goals have pc10_4 := P10.cell 4 (v := .int .i64 p.fr) rfl
  all_goals have pc10_5 := P10.cell 5 (v := .int .i64 p.to) rfl
  all_goals have rk10_0 := R10.cell 0 (v := .int .u8 0) rfl
  all_goals have rk10_1 := R10.cell 1 (v := .int .i64 0) rfl
  all_goals have rk10_2 := R10.cell 2 (v := .int .i64 0) rfl
  all_goals have rk10_3 := R10.cell 3 (v := .int .u8 0) rfl
  all_goals have rk10_4 := R10.cell 4 (v := .int .i64 0) rfl
  all_goals have rl10_0 := R10.frozen 0
  all_goals have rl10_1 := R10.frozen 1
  all_goals have rl10_2 := R10.frozen 2
  all_goals have rl10_3 := R10.frozen 3
  all_goals have rl10_4 := R10.frozen 4
  all_goals rw [rounds_succ]
  all_goals go_wp2_with (first | (go_at_call 22; refine (hn0 _).mono ?_; rintro x w' ⟨rfl, hw'⟩; subst w'))
  all_goals rw [rounds_succ]
  all_goals go_wp2
  all_goals refine ret_c3 (g := w.heap.size) (cs := #[.int .u8 (k : Nat), .int .i64 (V1 : Nat), .int .i64 (V1 : Nat), .int .u8 1, .int .i64 (N0 : Nat)]) rfl hfs infoT rfl ((bo5z R10)) rfl ⟨rfl, gb5z G10 (Nat.le_refl _)⟩

set_option maxHeartbeats 8000000 in
theorem one_f_plus1 (s : ByteArray) (hs : ¬ (1048576 : Int) < (s.size : Int)) (k : Nat) (hk : k ≤ 255) (p : Tp.Dp) (V1 : Nat) (lp1 : 0 ≤ p.at_) (lp2 : p.at_ ≤ p.en) (lp3 : p.en ≤ (s.size : Int)) (hv1 : ∀ w, Calls Tryd.prog 22 #[.string (s.extract p.at_.toNat p.en.toNat)] w fun x w' => x = .returned (.int .i64 (V1 : Nat)) ∧ w' = w) (hf : ∀ w, Calls Tryd.prog 21 #[.string s] w fun x w' => (∃ g c, x = .returned (.tuple #[.int .u8 (k : Nat), .slice (some ⟨g, 0, none⟩) 1 c, .int .i64 0, .int .i64 0]) ∧ Cs w' g (dpl p)) ∧ w.grownBy w' none) (hw : ¬ (65536 : Int) < (V1 : Int)) (h3 : (3 : Int) ≤ (k : Int)) (h0 : ((V1 : Int) == 0) = false) (X : Int) (htw : ∀ w g c, Cs w g (dpl p) → Calls Tryd.prog 23 #[.string s, .int .u8 (k : Nat), .slice (some ⟨g, 0, none⟩) 1 c] w fun x w' => x = .returned (.tuple #[.int .i64 X, .bool false]) ∧ w' = w) (Y : Int) (hsh : ∀ w g c, Cs w g (dpl p) → Calls Tryd.prog 24 #[.string s, .int .u8 (k : Nat), .slice (some ⟨g, 0, none⟩) 1 c, .int .i64 (V1 : Nat), .int .i64 (V1 : Nat)] w fun x w' => x = .returned (.tuple #[.int .i64 Y, .bool false]) ∧ w.grownBy w' none) (N0 : Nat) (np2 : 0 ≤ p.sg) (s0i : p.sg < (s.size : Int)) (s0l : p.sg.toNat < s.size) (f01 : 0 ≤ p.fr) (f02 : p.fr ≤ p.to) (f03 : p.to ≤ (s.size : Int)) (bs0 : ((Sc.bt s p.sg.toNat : Int) == 45) = false) (hN0 : N0 ≤ 1048577) (hn0 : ∀ w, Calls Tryd.prog 22 #[.string (s.extract p.fr.toNat p.to.toNat)] w fun x w' => x = .returned (.int .i64 (N0 : Nat)) ∧ w' = w) (w : World) : Calls Tryd.prog 9 #[.string s] w fun e w' => e = .returned (.tuple #[.agg #[.int .u8 (k : Nat), .int .i64 (V1 : Nat), .int .i64 (V1 : Nat), .int .u8 1, .int .i64 (N0 : Nat)], .int .i64 0, .int .i64 0]) ∧ w.grownBy w' none := by
  obtain ⟨fs, hfs⟩ := underT
  obtain ⟨W1, hW1, sz1, g1, B1⟩ := boxn w #[.int .u8 0, .int .i64 0, .int .i64 0, .int .u8 0, .int .i64 0] 23
  have z0 := B1.cell 0 (v := .int .u8 0) rfl
  have z1 := B1.cell 1 (v := .int .i64 0) rfl
  have z2 := B1.cell 2 (v := .int .i64 0) rfl
  have z3 := B1.cell 3 (v := .int .u8 0) rfl
  have z4 := B1.cell 4 (v := .int .i64 0) rfl
  have y0 := B1.frozen 0
  have y1 := B1.frozen 1
  have y2 := B1.frozen 2
  have y3 := B1.frozen 3
  have y4 := B1.frozen 4
  have sb0 := Sc.bt_at s0l
  have ng0 : IntKind.i64.wrap (-(N0 : Int)) = -(N0 : Int) := by rw [IntKind.wrap_i64]; omega
  go_enter Tryd.func9, Tryd.ntmps9
  go_wp2_with (first | (go_at_call 21; refine (hf _).mono ?_; rintro x w2 ⟨⟨g, c, rfl, hc⟩, g2⟩; have B2 := B1.kept g2 (by simp); obtain ⟨W3, hW3, sz3, g3, T3⟩ := boxn w2 #[.int .u8 (k : Nat), .int .i64 0, .int .i64 0, .int .u8 0, .int .i64 0] 23; have R3 := B2.kept g3 (by simp); have hc3 := hc.kept g3; have sm0 := Bo.same T3 0 (v := .int .u8 (k : Nat)) rfl; have sm1 := Bo.same T3 1 (v := .int .i64 0) rfl; have sm2 := Bo.same T3 2 (v := .int .i64 0) rfl; have sm3 := Bo.same T3 3 (v := .int .u8 0) rfl; have sm4 := Bo.same T3 4 (v := .int .i64 0) rfl; have tf0 := T3.frozen 0; have tf1 := T3.frozen 1; have tf2 := T3.frozen 2; have tf3 := T3.frozen 3; have tf4 := T3.frozen 4; have HN : Hid (w2.heap.size ≠ w.heap.size) := (by have := g2.size; have := sz1.out; unfold Hid; omega); obtain ⟨W4, hW4⟩ : ∃ W, W3.setCell ⟨w2.heap.size, 1, none⟩ (.int .i64 (V1 : Nat)) = W := ⟨_, rfl⟩; have T4 : Bo W4 w2.heap.size 23 #[.int .u8 (k : Nat), .int .i64 (V1 : Nat), .int .i64 0, .int .u8 0, .int .i64 0] := (by rw [← hW4]; have h9 := T3.set 1 (.int .i64 (V1 : Nat)); simpa using h9); have R4 : Bo W4 w.heap.size 23 #[.int .u8 0, .int .i64 0, .int .i64 0, .int .u8 0, .int .i64 0] := (by rw [← hW4]; exact R3.set2 HN.out); have tf4_0 := T4.frozen 0; have tf4_1 := T4.frozen 1; have tf4_2 := T4.frozen 2; have tf4_3 := T4.frozen 3; have tf4_4 := T4.frozen 4; have hc4 : Cs W4 g (dpl p) := (by rw [← hW4]; exact Cs.set2 hc3 (hc.ne)); have tc4_0 := T4.cell 0 (v := .int .u8 (k : Nat)) rfl; have tc4_1 := T4.cell 1 (v := .int .i64 (V1 : Nat)) rfl; have tc4_2 := T4.cell 2 (v := .int .i64 0) rfl; have tc4_3 := T4.cell 3 (v := .int .u8 0) rfl; have tc4_4 := T4.cell 4 (v := .int .i64 0) rfl; obtain ⟨W5, hW5⟩ : ∃ W, W4.setCell ⟨w2.heap.size, 2, none⟩ (.int .i64 (V1 : Nat)) = W := ⟨_, rfl⟩; have T5 : Bo W5 w2.heap.size 23 #[.int .u8 (k : Nat), .int .i64 (V1 : Nat), .int .i64 (V1 : Nat), .int .u8 0, .int .i64 0] := (by rw [← hW5]; have h9 := T4.set 2 (.int .i64 (V1 : Nat)); simpa using h9); have R5 : Bo W5 w.heap.size 23 #[.int .u8 0, .int .i64 0, .int .i64 0, .int .u8 0, .int .i64 0] := (by rw [← hW5]; exact R4.set2 HN.out); have tf5_0 := T5.frozen 0; have tf5_1 := T5.frozen 1; have tf5_2 := T5.frozen 2; have tf5_3 := T5.frozen 3; have tf5_4 := T5.frozen 4; have hc5 : Cs W5 g (dpl p) := (by rw [← hW5]; exact Cs.set2 hc4 (hc.ne)); have tc5_0 := T5.cell 0 (v := .int .u8 (k : Nat)) rfl; have tc5_1 := T5.cell 1 (v := .int .i64 (V1 : Nat)) rfl; have tc5_2 := T5.cell 2 (v := .int .i64 (V1 : Nat)) rfl; have tc5_3 := T5.cell 3 (v := .int .u8 0) rfl; have tc5_4 := T5.cell 4 (v := .int .i64 0) rfl; have e3_0 := hc3 0 (.int .i64 p.at_) rfl; have e3_1 := hc3 1 (.int .i64 p.en) rfl; have e3_2 := hc3 2 (.int .i64 p.st) rfl; have e3_3 := hc3 3 (.int .i64 p.sg) rfl; have e3_4 := hc3 4 (.int .i64 p.fr) rfl; have e3_5 := hc3 5 (.int .i64 p.to) rfl; have e4_0 := hc4 0 (.int .i64 p.at_) rfl; have e4_1 := hc4 1 (.int .i64 p.en) rfl; have e4_2 := hc4 2 (.int .i64 p.st) rfl; have e4_3 := hc4 3 (.int .i64 p.sg) rfl; have e4_4 := hc4 4 (.int .i64 p.fr) rfl; have e4_5 := hc4 5 (.int .i64 p.to) rfl; have e5_0 := hc5 0 (.int .i64 p.at_) rfl; have e5_1 := hc5 1 (.int .i64 p.en) rfl; have e5_2 := hc5 2 (.int .i64 p.st) rfl; have e5_3 := hc5 3 (.int .i64 p.sg) rfl; have e5_4 := hc5 4 (.int .i64 p.fr) rfl; have e5_5 := hc5 5 (.int .i64 p.to) rfl; have tc3_0 := T3.cell 0 (v := .int .u8 (k : Nat)) rfl; have tc3_1 := T3.cell 1 (v := .int .i64 0) rfl; have tc3_2 := T3.cell 2 (v := .int .i64 0) rfl; have tc3_3 := T3.cell 3 (v := .int .u8 0) rfl; have tc3_4 := T3.cell 4 (v := .int .i64 0) rfl; have GG : w.grownBy W5 none := (by rw [← hW5]; refine gb_new ?_ (Nat.le_trans g1.size g2.size) _; rw [← hW4]; refine gb_new ?_ (Nat.le_trans g1.size g2.size) _; exact gb_trans (gb_trans g1 g2) g3); have ru0 := R5.cell 0 (v := .int .u8 0) rfl; have ru1 := R5.cell 1 (v := .int .i64 0) rfl; have ru2 := R5.cell 2 (v := .int .i64 0) rfl; have ru3 := R5.cell 3 (v := .int .u8 0) rfl; have ru4 := R5.cell 4 (v := .int .i64 0) rfl; have rv0 := R5.frozen 0; have rv1 := R5.frozen 1; have rv2 := R5.frozen 2; have rv3 := R5.frozen 3; have rv4 := R5.frozen 4))
  have hgn : ¬ w2.heap.size = g := (hc.ne).resolve_right (by simp)
  have hgm : ¬ g = w2.heap.size := fun h => hgn h.symm
  have hgr : ¬ w.heap.size = g := fun h => by
    have a9 := B2.cell 0 (v := .int .u8 0) rfl
    have b9 := hc 0 _ rfl
    rw [← h, a9] at b9
    simp at b9
  have hgs : ¬ g = w.heap.size := fun h => hgr h.symm
  go_region_held2 (fun w' => w'.cell? ⟨g, 0, none⟩ = some (.int .i64 p.at_) ∧ w'.cell? ⟨g, 1, none⟩ = some (.int .i64 p.en) ∧ w'.cell? ⟨g, 2, none⟩ = some (.int .i64 p.st) ∧ w'.cell? ⟨g, 3, none⟩ = some (.int .i64 p.sg) ∧ w'.cell? ⟨g, 4, none⟩ = some (.int .i64 p.fr) ∧ w'.cell? ⟨g, 5, none⟩ = some (.int .i64 p.to)) (go_keep) (first | (go_at_call 22; (fail_if_success (guard_hyp mv0)); have mv0 : True := trivial; refine (hv1 _).mono ?_; rintro x w' ⟨rfl, hw'⟩; subst w'))
  all_goals go_wp2_with (first | (go_at_call 23; refine (htw _ g c hc5.dr).mono ?_; rintro x w' ⟨rfl, hw'⟩; subst w') | (go_at_call 24; refine (hsh _ g c hc5.dr).mono ?_; rintro x w7 ⟨rfl, g7⟩; have RH := R5.dr.kept g7 (by simp); have TH := T5.dr.kept g7 (by simp); have GH := gb_trans (gb_drew (GG)) g7; have hc7 := hc5.dr.kept g7; have rh0 := RH.cell 0 (v := .int .u8 0) rfl; have rh1 := RH.cell 1 (v := .int .i64 0) rfl; have rh2 := RH.cell 2 (v := .int .i64 0) rfl; have rh3 := RH.cell 3 (v := .int .u8 0) rfl; have rh4 := RH.cell 4 (v := .int .i64 0) rfl; have rg0 := RH.frozen 0; have rg1 := RH.frozen 1; have rg2 := RH.frozen 2; have rg3 := RH.frozen 3; have rg4 := RH.frozen 4; have th0 := TH.cell 0 (v := .int .u8 (k : Nat)) rfl; have th1 := TH.cell 1 (v := .int .i64 (V1 : Nat)) rfl; have th2 := TH.cell 2 (v := .int .i64 (V1 : Nat)) rfl; have th3 := TH.cell 3 (v := .int .u8 0) rfl; have th4 := TH.cell 4 (v := .int .i64 0) rfl; have tg0 := TH.frozen 0; have tg1 := TH.frozen 1; have tg2 := TH.frozen 2; have tg3 := TH.frozen 3; have tg4 := TH.frozen 4))
  all_goals refine wp_loop_rounds 3 ?_
  all_goals have ex8_0 := hc7 0 (.int .i64 p.at_) rfl
  all_goals have ex8_1 := hc7 1 (.int .i64 p.en) rfl
  all_goals have ex8_2 := hc7 2 (.int .i64 p.st) rfl
  all_goals have ex8_3 := hc7 3 (.int .i64 p.sg) rfl
  all_goals have ex8_4 := hc7 4 (.int .i64 p.fr) rfl
  all_goals have ex8_5 := hc7 5 (.int .i64 p.to) rfl
  all_goals obtain ⟨W8, hW8, sz8, g8, P8⟩ := boxn w7 (dpv p) 60
  all_goals have R8 := RH.kept g8 (by simp)
  all_goals have T8 := TH.kept g8 (by simp)
  all_goals have hc8 := hc7.kept g8
  all_goals have G8 := gb_trans GH g8
  all_goals have pc8_0 := P8.cell 0 (v := .int .i64 p.at_) rfl
  all_goals have pc8_1 := P8.cell 1 (v := .int .i64 p.en) rfl
  all_goals have pc8_2 := P8.cell 2 (v := .int .i64 p.st) rfl
  all_goals have pc8_3 := P8.cell 3 (v := .int .i64 p.sg) rfl
  all_goals have pc8_4 := P8.cell 4 (v := .int .i64 p.fr) rfl
  all_goals have pc8_5 := P8.cell 5 (v := .int .i64 p.to) rfl
  all_goals have tk8_0 := T8.cell 0 (v := .int .u8 (k : Nat)) rfl
  all_goals have tk8_1 := T8.cell 1 (v := .int .i64 (V1 : Nat)) rfl
  all_goals have tk8_2 := T8.cell 2 (v := .int .i64 (V1 : Nat)) rfl
  all_goals have tk8_3 := T8.cell 3 (v := .int .u8 0) rfl
  all_goals have tk8_4 := T8.cell 4 (v := .int .i64 0) rfl
  all_goals have tl8_0 := T8.frozen 0
  all_goals have tl8_1 := T8.frozen 1
  all_goals have tl8_2 := T8.frozen 2
  all_goals have tl8_3 := T8.frozen 3
  all_goals have tl8_4 := T8.frozen 4
  all_goals have rk8_0 := R8.cell 0 (v := .int .u8 0) rfl
  all_goals have rk8_1 := R8.cell 1 (v := .int .i64 0) rfl
  all_goals have rk8_2 := R8.cell 2 (v := .int .i64 0) rfl
  all_goals have rk8_3 := R8.cell 3 (v := .int .u8 0) rfl
  all_goals have rk8_4 := R8.cell 4 (v := .int .i64 0) rfl
  all_goals have rl8_0 := R8.frozen 0
  all_goals have rl8_1 := R8.frozen 1
  all_goals have rl8_2 := R8.frozen 2
  all_goals have rl8_3 := R8.frozen 3
  all_goals have rl8_4 := R8.frozen 4
  all_goals have hp8 : Hid (w2.heap.size ≠ w7.heap.size) := Nat.ne_of_lt TH.lt
  all_goals obtain ⟨W9, hW9⟩ : ∃ W, W8.setCell ⟨w2.heap.size, 3, none⟩ (.int .u8 1) = W := ⟨_, rfl⟩
  all_goals (have T9 : Bo W9 w2.heap.size 23 #[.int .u8 (k : Nat), .int .i64 (V1 : Nat), .int .i64 (V1 : Nat), .int .u8 1, .int .i64 0] := (by rw [← hW9]; have h9 := T8.set 3 (.int .u8 1); simpa using h9))
  all_goals (have R9 : Bo W9 w.heap.size 23 #[.int .u8 0, .int .i64 0, .int .i64 0, .int .u8 0, .int .i64 0] := (by rw [← hW9]; exact R8.set2 HN.out))
  all_goals (have P9 : Bo W9 w7.heap.size 60 (dpv p) := (by rw [← hW9]; exact P8.set2 hp8.out))
  all_goals (have hc9 : Cs W9 g (dpl p) := (by rw [← hW9]; exact Cs.set2 hc8 (.inl hgn)))
  all_goals (have G9 : w.grownBy W9 none := (by rw [← hW9]; exact gb_new G8 (Nat.le_trans g1.size g2.size) _))
  all_goals have tk9_0 := T9.cell 0 (v := .int .u8 (k : Nat)) rfl
  all_goals have tk9_1 := T9.cell 1 (v := .int .i64 (V1 : Nat)) rfl
  all_goals have tk9_2 := T9.cell 2 (v := .int .i64 (V1 : Nat)) rfl
  all_goals have tk9_3 := T9.cell 3 (v := .int .u8 1) rfl
  all_goals have tk9_4 := T9.cell 4 (v := .int .i64 0) rfl
  all_goals have tl9_0 := T9.frozen 0
  all_goals have tl9_1 := T9.frozen 1
  all_goals have tl9_2 := T9.frozen 2
  all_goals have tl9_3 := T9.frozen 3
  all_goals have tl9_4 := T9.frozen 4
  all_goals have pc9_0 := P9.cell 0 (v := .int .i64 p.at_) rfl
  all_goals have pc9_1 := P9.cell 1 (v := .int .i64 p.en) rfl
  all_goals have pc9_2 := P9.cell 2 (v := .int .i64 p.st) rfl
  all_goals have pc9_3 := P9.cell 3 (v := .int .i64 p.sg) rfl
  all_goals have pc9_4 := P9.cell 4 (v := .int .i64 p.fr) rfl
  all_goals have pc9_5 := P9.cell 5 (v := .int .i64 p.to) rfl
  all_goals have rk9_0 := R9.cell 0 (v := .int .u8 0) rfl
  all_goals have rk9_1 := R9.cell 1 (v := .int .i64 0) rfl
  all_goals have rk9_2 := R9.cell 2 (v := .int .i64 0) rfl
  all_goals have rk9_3 := R9.cell 3 (v := .int .u8 0) rfl
  all_goals have rk9_4 := R9.cell 4 (v := .int .i64 0) rfl
  all_goals have rl9_0 := R9.frozen 0
  all_goals have rl9_1 := R9.frozen 1
  all_goals have rl9_2 := R9.frozen 2
  all_goals have rl9_3 := R9.frozen 3
  all_goals have rl9_4 := R9.frozen 4
  all_goals obtain ⟨W10, hW10⟩ : ∃ W, W9.setCell ⟨w2.heap.size, 4, none⟩ (.int .i64 (N0 : Nat)) = W := ⟨_, rfl⟩
  all_goals (have T10 : Bo W10 w2.heap.size 23 #[.int .u8 (k : Nat), .int .i64 (V1 : Nat), .int .i64 (V1 : Nat), .int .u8 1, .int .i64 (N0 : Nat)] := (by rw [← hW10]; have h9 := T9.set 4 (.int .i64 (N0 : Nat)); simpa using h9))
  all_goals (have R10 : Bo W10 w.heap.size 23 #[.int .u8 0, .int .i64 0, .int .i64 0, .int .u8 0, .int .i64 0] := (by rw [← hW10]; exact R9.set2 HN.out))
  all_goals (have P10 : Bo W10 w7.heap.size 60 (dpv p) := (by rw [← hW10]; exact P9.set2 hp8.out))
  all_goals (have hc10 : Cs W10 g (dpl p) := (by rw [← hW10]; exact Cs.set2 hc9 (.inl hgn)))
  all_goals (have G10 : w.grownBy W10 none := (by rw [← hW10]; exact gb_new G9 (Nat.le_trans g1.size g2.size) _))
  all_goals have tk10_0 := T10.cell 0 (v := .int .u8 (k : Nat)) rfl
  all_goals have tk10_1 := T10.cell 1 (v := .int .i64 (V1 : Nat)) rfl
  all_goals have tk10_2 := T10.cell 2 (v := .int .i64 (V1 : Nat)) rfl
  all_goals have tk10_3 := T10.cell 3 (v := .int .u8 1) rfl
  all_goals have tk10_4 := T10.cell 4 (v := .int .i64 (N0 : Nat)) rfl
  all_goals have tl10_0 := T10.frozen 0
  all_goals have tl10_1 := T10.frozen 1
  all_goals have tl10_2 := T10.frozen 2
  all_goals have tl10_3 := T10.frozen 3
  all_goals have tl10_4 := T10.frozen 4
  all_goals have pc10_0 := P10.cell 0 (v := .int .i64 p.at_) rfl
  all_goals have pc10_1 := P10.cell 1 (v := .int .i64 p.en) rfl
  all_goals have pc10_2 := P10.cell 2 (v := .int .i64 p.st) rfl
  all_goals have pc10_3 := P10.cell 3 (v := .int .i64 p.sg) rfl
  all_goals have pc10_4 := P10.cell 4 (v := .int .i64 p.fr) rfl
  all_goals have pc10_5 := P10.cell 5 (v := .int .i64 p.to) rfl
  all_goals have rk10_0 := R10.cell 0 (v := .int .u8 0) rfl
  all_goals have rk10_1 := R10.cell 1 (v := .int .i64 0) rfl
  all_goals have rk10_2 := R10.cell 2 (v := .int .i64 0) rfl
  all_goals have rk10_3 := R10.cell 3 (v := .int .u8 0) rfl
  all_goals have rk10_4 := R10.cell 4 (v := .int .i64 0) rfl
  all_goals have rl10_0 := R10.frozen 0
  all_goals have rl10_1 := R10.frozen 1
  all_goals have rl10_2 := R10.frozen 2
  all_goals have rl10_3 := R10.frozen 3
  all_goals have rl10_4 := R10.frozen 4
  all_goals rw [rounds_succ]
  all_goals go_wp2_with (first | (go_at_call 22; refine (hn0 _).mono ?_; rintro x w' ⟨rfl, hw'⟩; subst w'))
  all_goals rw [rounds_succ]
  all_goals go_wp2
  all_goals refine ret_c3 (g := w.heap.size) (cs := #[.int .u8 (k : Nat), .int .i64 (V1 : Nat), .int .i64 (V1 : Nat), .int .u8 1, .int .i64 (N0 : Nat)]) rfl hfs infoT rfl ((bo5z R10)) rfl ⟨rfl, gb5z G10 (Nat.le_refl _)⟩

set_option maxHeartbeats 8000000 in
theorem one_f_minus0 (s : ByteArray) (hs : ¬ (1048576 : Int) < (s.size : Int)) (k : Nat) (hk : k ≤ 255) (p : Tp.Dp) (V1 : Nat) (lp1 : 0 ≤ p.at_) (lp2 : p.at_ ≤ p.en) (lp3 : p.en ≤ (s.size : Int)) (hv1 : ∀ w, Calls Tryd.prog 22 #[.string (s.extract p.at_.toNat p.en.toNat)] w fun x w' => x = .returned (.int .i64 (V1 : Nat)) ∧ w' = w) (hf : ∀ w, Calls Tryd.prog 21 #[.string s] w fun x w' => (∃ g c, x = .returned (.tuple #[.int .u8 (k : Nat), .slice (some ⟨g, 0, none⟩) 1 c, .int .i64 0, .int .i64 0]) ∧ Cs w' g (dpl p)) ∧ w.grownBy w' none) (hw : ¬ (65536 : Int) < (V1 : Int)) (h3 : ¬ (3 : Int) ≤ (k : Int)) (X : Int) (htw : ∀ w g c, Cs w g (dpl p) → Calls Tryd.prog 23 #[.string s, .int .u8 (k : Nat), .slice (some ⟨g, 0, none⟩) 1 c] w fun x w' => x = .returned (.tuple #[.int .i64 X, .bool false]) ∧ w' = w) (Y : Int) (hsh : ∀ w g c, Cs w g (dpl p) → Calls Tryd.prog 24 #[.string s, .int .u8 (k : Nat), .slice (some ⟨g, 0, none⟩) 1 c, .int .i64 (V1 : Nat), .int .i64 (V1 : Nat)] w fun x w' => x = .returned (.tuple #[.int .i64 Y, .bool false]) ∧ w.grownBy w' none) (N0 : Nat) (np2 : 0 ≤ p.sg) (s0i : p.sg < (s.size : Int)) (s0l : p.sg.toNat < s.size) (f01 : 0 ≤ p.fr) (f02 : p.fr ≤ p.to) (f03 : p.to ≤ (s.size : Int)) (bs0 : ((Sc.bt s p.sg.toNat : Int) == 45) = true) (hN0 : N0 ≤ 1048577) (hn0 : ∀ w, Calls Tryd.prog 22 #[.string (s.extract p.fr.toNat p.to.toNat)] w fun x w' => x = .returned (.int .i64 (N0 : Nat)) ∧ w' = w) (w : World) : Calls Tryd.prog 9 #[.string s] w fun e w' => e = .returned (.tuple #[.agg #[.int .u8 (k : Nat), .int .i64 (V1 : Nat), .int .i64 (V1 : Nat), .int .u8 1, .int .i64 (-(N0 : Int))], .int .i64 0, .int .i64 0]) ∧ w.grownBy w' none := by
  obtain ⟨fs, hfs⟩ := underT
  obtain ⟨W1, hW1, sz1, g1, B1⟩ := boxn w #[.int .u8 0, .int .i64 0, .int .i64 0, .int .u8 0, .int .i64 0] 23
  have z0 := B1.cell 0 (v := .int .u8 0) rfl
  have z1 := B1.cell 1 (v := .int .i64 0) rfl
  have z2 := B1.cell 2 (v := .int .i64 0) rfl
  have z3 := B1.cell 3 (v := .int .u8 0) rfl
  have z4 := B1.cell 4 (v := .int .i64 0) rfl
  have y0 := B1.frozen 0
  have y1 := B1.frozen 1
  have y2 := B1.frozen 2
  have y3 := B1.frozen 3
  have y4 := B1.frozen 4
  have sb0 := Sc.bt_at s0l
  have ng0 : IntKind.i64.wrap (-(N0 : Int)) = -(N0 : Int) := by rw [IntKind.wrap_i64]; omega
  go_enter Tryd.func9, Tryd.ntmps9
  go_wp2_with (first | (go_at_call 21; refine (hf _).mono ?_; rintro x w2 ⟨⟨g, c, rfl, hc⟩, g2⟩; have B2 := B1.kept g2 (by simp); obtain ⟨W3, hW3, sz3, g3, T3⟩ := boxn w2 #[.int .u8 (k : Nat), .int .i64 0, .int .i64 0, .int .u8 0, .int .i64 0] 23; have R3 := B2.kept g3 (by simp); have hc3 := hc.kept g3; have sm0 := Bo.same T3 0 (v := .int .u8 (k : Nat)) rfl; have sm1 := Bo.same T3 1 (v := .int .i64 0) rfl; have sm2 := Bo.same T3 2 (v := .int .i64 0) rfl; have sm3 := Bo.same T3 3 (v := .int .u8 0) rfl; have sm4 := Bo.same T3 4 (v := .int .i64 0) rfl; have tf0 := T3.frozen 0; have tf1 := T3.frozen 1; have tf2 := T3.frozen 2; have tf3 := T3.frozen 3; have tf4 := T3.frozen 4; have HN : Hid (w2.heap.size ≠ w.heap.size) := (by have := g2.size; have := sz1.out; unfold Hid; omega); obtain ⟨W4, hW4⟩ : ∃ W, W3.setCell ⟨w2.heap.size, 1, none⟩ (.int .i64 (V1 : Nat)) = W := ⟨_, rfl⟩; have T4 : Bo W4 w2.heap.size 23 #[.int .u8 (k : Nat), .int .i64 (V1 : Nat), .int .i64 0, .int .u8 0, .int .i64 0] := (by rw [← hW4]; have h9 := T3.set 1 (.int .i64 (V1 : Nat)); simpa using h9); have R4 : Bo W4 w.heap.size 23 #[.int .u8 0, .int .i64 0, .int .i64 0, .int .u8 0, .int .i64 0] := (by rw [← hW4]; exact R3.set2 HN.out); have tf4_0 := T4.frozen 0; have tf4_1 := T4.frozen 1; have tf4_2 := T4.frozen 2; have tf4_3 := T4.frozen 3; have tf4_4 := T4.frozen 4; have hc4 : Cs W4 g (dpl p) := (by rw [← hW4]; exact Cs.set2 hc3 (hc.ne)); have tc4_0 := T4.cell 0 (v := .int .u8 (k : Nat)) rfl; have tc4_1 := T4.cell 1 (v := .int .i64 (V1 : Nat)) rfl; have tc4_2 := T4.cell 2 (v := .int .i64 0) rfl; have tc4_3 := T4.cell 3 (v := .int .u8 0) rfl; have tc4_4 := T4.cell 4 (v := .int .i64 0) rfl; obtain ⟨W5, hW5⟩ : ∃ W, W4.setCell ⟨w2.heap.size, 2, none⟩ (.int .i64 (V1 : Nat)) = W := ⟨_, rfl⟩; have T5 : Bo W5 w2.heap.size 23 #[.int .u8 (k : Nat), .int .i64 (V1 : Nat), .int .i64 (V1 : Nat), .int .u8 0, .int .i64 0] := (by rw [← hW5]; have h9 := T4.set 2 (.int .i64 (V1 : Nat)); simpa using h9); have R5 : Bo W5 w.heap.size 23 #[.int .u8 0, .int .i64 0, .int .i64 0, .int .u8 0, .int .i64 0] := (by rw [← hW5]; exact R4.set2 HN.out); have tf5_0 := T5.frozen 0; have tf5_1 := T5.frozen 1; have tf5_2 := T5.frozen 2; have tf5_3 := T5.frozen 3; have tf5_4 := T5.frozen 4; have hc5 : Cs W5 g (dpl p) := (by rw [← hW5]; exact Cs.set2 hc4 (hc.ne)); have tc5_0 := T5.cell 0 (v := .int .u8 (k : Nat)) rfl; have tc5_1 := T5.cell 1 (v := .int .i64 (V1 : Nat)) rfl; have tc5_2 := T5.cell 2 (v := .int .i64 (V1 : Nat)) rfl; have tc5_3 := T5.cell 3 (v := .int .u8 0) rfl; have tc5_4 := T5.cell 4 (v := .int .i64 0) rfl; have e3_0 := hc3 0 (.int .i64 p.at_) rfl; have e3_1 := hc3 1 (.int .i64 p.en) rfl; have e3_2 := hc3 2 (.int .i64 p.st) rfl; have e3_3 := hc3 3 (.int .i64 p.sg) rfl; have e3_4 := hc3 4 (.int .i64 p.fr) rfl; have e3_5 := hc3 5 (.int .i64 p.to) rfl; have e4_0 := hc4 0 (.int .i64 p.at_) rfl; have e4_1 := hc4 1 (.int .i64 p.en) rfl; have e4_2 := hc4 2 (.int .i64 p.st) rfl; have e4_3 := hc4 3 (.int .i64 p.sg) rfl; have e4_4 := hc4 4 (.int .i64 p.fr) rfl; have e4_5 := hc4 5 (.int .i64 p.to) rfl; have e5_0 := hc5 0 (.int .i64 p.at_) rfl; have e5_1 := hc5 1 (.int .i64 p.en) rfl; have e5_2 := hc5 2 (.int .i64 p.st) rfl; have e5_3 := hc5 3 (.int .i64 p.sg) rfl; have e5_4 := hc5 4 (.int .i64 p.fr) rfl; have e5_5 := hc5 5 (.int .i64 p.to) rfl; have tc3_0 := T3.cell 0 (v := .int .u8 (k : Nat)) rfl; have tc3_1 := T3.cell 1 (v := .int .i64 0) rfl; have tc3_2 := T3.cell 2 (v := .int .i64 0) rfl; have tc3_3 := T3.cell 3 (v := .int .u8 0) rfl; have tc3_4 := T3.cell 4 (v := .int .i64 0) rfl; have GG : w.grownBy W5 none := (by rw [← hW5]; refine gb_new ?_ (Nat.le_trans g1.size g2.size) _; rw [← hW4]; refine gb_new ?_ (Nat.le_trans g1.size g2.size) _; exact gb_trans (gb_trans g1 g2) g3); have ru0 := R5.cell 0 (v := .int .u8 0) rfl; have ru1 := R5.cell 1 (v := .int .i64 0) rfl; have ru2 := R5.cell 2 (v := .int .i64 0) rfl; have ru3 := R5.cell 3 (v := .int .u8 0) rfl; have ru4 := R5.cell 4 (v := .int .i64 0) rfl; have rv0 := R5.frozen 0; have rv1 := R5.frozen 1; have rv2 := R5.frozen 2; have rv3 := R5.frozen 3; have rv4 := R5.frozen 4))
  have hgn : ¬ w2.heap.size = g := (hc.ne).resolve_right (by simp)
  have hgm : ¬ g = w2.heap.size := fun h => hgn h.symm
  have hgr : ¬ w.heap.size = g := fun h => by
    have a9 := B2.cell 0 (v := .int .u8 0) rfl
    have b9 := hc 0 _ rfl
    rw [← h, a9] at b9
    simp at b9
  have hgs : ¬ g = w.heap.size := fun h => hgr h.symm
  go_region_held2 (fun w' => w'.cell? ⟨g, 0, none⟩ = some (.int .i64 p.at_) ∧ w'.cell? ⟨g, 1, none⟩ = some (.int .i64 p.en) ∧ w'.cell? ⟨g, 2, none⟩ = some (.int .i64 p.st) ∧ w'.cell? ⟨g, 3, none⟩ = some (.int .i64 p.sg) ∧ w'.cell? ⟨g, 4, none⟩ = some (.int .i64 p.fr) ∧ w'.cell? ⟨g, 5, none⟩ = some (.int .i64 p.to)) (go_keep) (first | (go_at_call 22; (fail_if_success (guard_hyp mv0)); have mv0 : True := trivial; refine (hv1 _).mono ?_; rintro x w' ⟨rfl, hw'⟩; subst w'))
  all_goals go_wp2_with (first | (go_at_call 23; refine (htw _ g c hc5.dr).mono ?_; rintro x w' ⟨rfl, hw'⟩; subst w') | (go_at_call 24; refine (hsh _ g c hc5.dr).mono ?_; rintro x w7 ⟨rfl, g7⟩; have RH := R5.dr.kept g7 (by simp); have TH := T5.dr.kept g7 (by simp); have GH := gb_trans (gb_drew (GG)) g7; have hc7 := hc5.dr.kept g7; have rh0 := RH.cell 0 (v := .int .u8 0) rfl; have rh1 := RH.cell 1 (v := .int .i64 0) rfl; have rh2 := RH.cell 2 (v := .int .i64 0) rfl; have rh3 := RH.cell 3 (v := .int .u8 0) rfl; have rh4 := RH.cell 4 (v := .int .i64 0) rfl; have rg0 := RH.frozen 0; have rg1 := RH.frozen 1; have rg2 := RH.frozen 2; have rg3 := RH.frozen 3; have rg4 := RH.frozen 4; have th0 := TH.cell 0 (v := .int .u8 (k : Nat)) rfl; have th1 := TH.cell 1 (v := .int .i64 (V1 : Nat)) rfl; have th2 := TH.cell 2 (v := .int .i64 (V1 : Nat)) rfl; have th3 := TH.cell 3 (v := .int .u8 0) rfl; have th4 := TH.cell 4 (v := .int .i64 0) rfl; have tg0 := TH.frozen 0; have tg1 := TH.frozen 1; have tg2 := TH.frozen 2; have tg3 := TH.frozen 3; have tg4 := TH.frozen 4))
  all_goals refine wp_loop_rounds 3 ?_
  all_goals have ex8_0 := hc7 0 (.int .i64 p.at_) rfl
  all_goals have ex8_1 := hc7 1 (.int .i64 p.en) rfl
  all_goals have ex8_2 := hc7 2 (.int .i64 p.st) rfl
  all_goals have ex8_3 := hc7 3 (.int .i64 p.sg) rfl
  all_goals have ex8_4 := hc7 4 (.int .i64 p.fr) rfl
  all_goals have ex8_5 := hc7 5 (.int .i64 p.to) rfl
  all_goals obtain ⟨W8, hW8, sz8, g8, P8⟩ := boxn w7 (dpv p) 60
  all_goals have R8 := RH.kept g8 (by simp)
  all_goals have T8 := TH.kept g8 (by simp)
  all_goals have hc8 := hc7.kept g8
  all_goals have G8 := gb_trans GH g8
  all_goals have pc8_0 := P8.cell 0 (v := .int .i64 p.at_) rfl
  all_goals have pc8_1 := P8.cell 1 (v := .int .i64 p.en) rfl
  all_goals have pc8_2 := P8.cell 2 (v := .int .i64 p.st) rfl
  all_goals have pc8_3 := P8.cell 3 (v := .int .i64 p.sg) rfl
  all_goals have pc8_4 := P8.cell 4 (v := .int .i64 p.fr) rfl
  all_goals have pc8_5 := P8.cell 5 (v := .int .i64 p.to) rfl
  all_goals have tk8_0 := T8.cell 0 (v := .int .u8 (k : Nat)) rfl
  all_goals have tk8_1 := T8.cell 1 (v := .int .i64 (V1 : Nat)) rfl
  all_goals have tk8_2 := T8.cell 2 (v := .int .i64 (V1 : Nat)) rfl
  all_goals have tk8_3 := T8.cell 3 (v := .int .u8 0) rfl
  all_goals have tk8_4 := T8.cell 4 (v := .int .i64 0) rfl
  all_goals have tl8_0 := T8.frozen 0
  all_goals have tl8_1 := T8.frozen 1
  all_goals have tl8_2 := T8.frozen 2
  all_goals have tl8_3 := T8.frozen 3
  all_goals have tl8_4 := T8.frozen 4
  all_goals have rk8_0 := R8.cell 0 (v := .int .u8 0) rfl
  all_goals have rk8_1 := R8.cell 1 (v := .int .i64 0) rfl
  all_goals have rk8_2 := R8.cell 2 (v := .int .i64 0) rfl
  all_goals have rk8_3 := R8.cell 3 (v := .int .u8 0) rfl
  all_goals have rk8_4 := R8.cell 4 (v := .int .i64 0) rfl
  all_goals have rl8_0 := R8.frozen 0
  all_goals have rl8_1 := R8.frozen 1
  all_goals have rl8_2 := R8.frozen 2
  all_goals have rl8_3 := R8.frozen 3
  all_goals have rl8_4 := R8.frozen 4
  all_goals have hp8 : Hid (w2.heap.size ≠ w7.heap.size) := Nat.ne_of_lt TH.lt
  all_goals obtain ⟨W9, hW9⟩ : ∃ W, W8.setCell ⟨w2.heap.size, 3, none⟩ (.int .u8 1) = W := ⟨_, rfl⟩
  all_goals (have T9 : Bo W9 w2.heap.size 23 #[.int .u8 (k : Nat), .int .i64 (V1 : Nat), .int .i64 (V1 : Nat), .int .u8 1, .int .i64 0] := (by rw [← hW9]; have h9 := T8.set 3 (.int .u8 1); simpa using h9))
  all_goals (have R9 : Bo W9 w.heap.size 23 #[.int .u8 0, .int .i64 0, .int .i64 0, .int .u8 0, .int .i64 0] := (by rw [← hW9]; exact R8.set2 HN.out))
  all_goals (have P9 : Bo W9 w7.heap.size 60 (dpv p) := (by rw [← hW9]; exact P8.set2 hp8.out))
  all_goals (have hc9 : Cs W9 g (dpl p) := (by rw [← hW9]; exact Cs.set2 hc8 (.inl hgn)))
  all_goals (have G9 : w.grownBy W9 none := (by rw [← hW9]; exact gb_new G8 (Nat.le_trans g1.size g2.size) _))
  all_goals have tk9_0 := T9.cell 0 (v := .int .u8 (k : Nat)) rfl
  all_goals have tk9_1 := T9.cell 1 (v := .int .i64 (V1 : Nat)) rfl
  all_goals have tk9_2 := T9.cell 2 (v := .int .i64 (V1 : Nat)) rfl
  all_goals have tk9_3 := T9.cell 3 (v := .int .u8 1) rfl
  all_goals have tk9_4 := T9.cell 4 (v := .int .i64 0) rfl
  all_goals have tl9_0 := T9.frozen 0
  all_goals have tl9_1 := T9.frozen 1
  all_goals have tl9_2 := T9.frozen 2
  all_goals have tl9_3 := T9.frozen 3
  all_goals have tl9_4 := T9.frozen 4
  all_goals have pc9_0 := P9.cell 0 (v := .int .i64 p.at_) rfl
  all_goals have pc9_1 := P9.cell 1 (v := .int .i64 p.en) rfl
  all_goals have pc9_2 := P9.cell 2 (v := .int .i64 p.st) rfl
  all_goals have pc9_3 := P9.cell 3 (v := .int .i64 p.sg) rfl
  all_goals have pc9_4 := P9.cell 4 (v := .int .i64 p.fr) rfl
  all_goals have pc9_5 := P9.cell 5 (v := .int .i64 p.to) rfl
  all_goals have rk9_0 := R9.cell 0 (v := .int .u8 0) rfl
  all_goals have rk9_1 := R9.cell 1 (v := .int .i64 0) rfl
  all_goals have rk9_2 := R9.cell 2 (v := .int .i64 0) rfl
  all_goals have rk9_3 := R9.cell 3 (v := .int .u8 0) rfl
  all_goals have rk9_4 := R9.cell 4 (v := .int .i64 0) rfl
  all_goals have rl9_0 := R9.frozen 0
  all_goals have rl9_1 := R9.frozen 1
  all_goals have rl9_2 := R9.frozen 2
  all_goals have rl9_3 := R9.frozen 3
  all_goals have rl9_4 := R9.frozen 4
  all_goals obtain ⟨W10, hW10⟩ : ∃ W, W9.setCell ⟨w2.heap.size, 4, none⟩ (.int .i64 (N0 : Nat)) = W := ⟨_, rfl⟩
  all_goals (have T10 : Bo W10 w2.heap.size 23 #[.int .u8 (k : Nat), .int .i64 (V1 : Nat), .int .i64 (V1 : Nat), .int .u8 1, .int .i64 (N0 : Nat)] := (by rw [← hW10]; have h9 := T9.set 4 (.int .i64 (N0 : Nat)); simpa using h9))
  all_goals (have R10 : Bo W10 w.heap.size 23 #[.int .u8 0, .int .i64 0, .int .i64 0, .int .u8 0, .int .i64 0] := (by rw [← hW10]; exact R9.set2 HN.out))
  all_goals (have P10 : Bo W10 w7.heap.size 60 (dpv p) := (by rw [← hW10]; exact P9.set2 hp8.out))
  all_goals (have hc10 : Cs W10 g (dpl p) := (by rw [← hW10]; exact Cs.set2 hc9 (.inl hgn)))
  all_goals (have G10 : w.grownBy W10 none := (by rw [← hW10]; exact gb_new G9 (Nat.le_trans g1.size g2.size) _))
  all_goals have tk10_0 := T10.cell 0 (v := .int .u8 (k : Nat)) rfl
  all_goals have tk10_1 := T10.cell 1 (v := .int .i64 (V1 : Nat)) rfl
  all_goals have tk10_2 := T10.cell 2 (v := .int .i64 (V1 : Nat)) rfl
  all_goals have tk10_3 := T10.cell 3 (v := .int .u8 1) rfl
  all_goals have tk10_4 := T10.cell 4 (v := .int .i64 (N0 : Nat)) rfl
  all_goals have tl10_0 := T10.frozen 0
  all_goals have tl10_1 := T10.frozen 1
  all_goals have tl10_2 := T10.frozen 2
  all_goals have tl10_3 := T10.frozen 3
  all_goals have tl10_4 := T10.frozen 4
  all_goals have pc10_0 := P10.cell 0 (v := .int .i64 p.at_) rfl
  all_goals have pc10_1 := P10.cell 1 (v := .int .i64 p.en) rfl
  all_goals have pc10_2 := P10.cell 2 (v := .int .i64 p.st) rfl
  all_goals have pc10_3 := P10.cell 3 (v := .int .i64 p.sg) rfl
  all_goals have pc10_4 := P10.cell 4 (v := .int .i64 p.fr) rfl
  all_goals have pc10_5 := P10.cell 5 (v := .int .i64 p.to) rfl
  all_goals have rk10_0 := R10.cell 0 (v := .int .u8 0) rfl
  all_goals have rk10_1 := R10.cell 1 (v := .int .i64 0) rfl
  all_goals have rk10_2 := R10.cell 2 (v := .int .i64 0) rfl
  all_goals have rk10_3 := R10.cell 3 (v := .int .u8 0) rfl
  all_goals have rk10_4 := R10.cell 4 (v := .int .i64 0) rfl
  all_goals have rl10_0 := R10.frozen 0
  all_goals have rl10_1 := R10.frozen 1
  all_goals have rl10_2 := R10.frozen 2
  all_goals have rl10_3 := R10.frozen 3
  all_goals have rl10_4 := R10.frozen 4
  all_goals obtain ⟨W11, hW11⟩ : ∃ W, W10.setCell ⟨w2.heap.size, 4, none⟩ (.int .i64 (-(N0 : Int))) = W := ⟨_, rfl⟩
  all_goals (have T11 : Bo W11 w2.heap.size 23 #[.int .u8 (k : Nat), .int .i64 (V1 : Nat), .int .i64 (V1 : Nat), .int .u8 1, .int .i64 (-(N0 : Int))] := (by rw [← hW11]; have h9 := T10.set 4 (.int .i64 (-(N0 : Int))); simpa using h9))
  all_goals (have R11 : Bo W11 w.heap.size 23 #[.int .u8 0, .int .i64 0, .int .i64 0, .int .u8 0, .int .i64 0] := (by rw [← hW11]; exact R10.set2 HN.out))
  all_goals (have P11 : Bo W11 w7.heap.size 60 (dpv p) := (by rw [← hW11]; exact P10.set2 hp8.out))
  all_goals (have hc11 : Cs W11 g (dpl p) := (by rw [← hW11]; exact Cs.set2 hc10 (.inl hgn)))
  all_goals (have G11 : w.grownBy W11 none := (by rw [← hW11]; exact gb_new G10 (Nat.le_trans g1.size g2.size) _))
  all_goals have tk11_0 := T11.cell 0 (v := .int .u8 (k : Nat)) rfl
  all_goals have tk11_1 := T11.cell 1 (v := .int .i64 (V1 : Nat)) rfl
  all_goals have tk11_2 := T11.cell 2 (v := .int .i64 (V1 : Nat)) rfl
  all_goals have tk11_3 := T11.cell 3 (v := .int .u8 1) rfl
  all_goals have tk11_4 := T11.cell 4 (v := .int .i64 (-(N0 : Int))) rfl
  all_goals have tl11_0 := T11.frozen 0
  all_goals have tl11_1 := T11.frozen 1
  all_goals have tl11_2 := T11.frozen 2
  all_goals have tl11_3 := T11.frozen 3
  all_goals have tl11_4 := T11.frozen 4
  all_goals have pc11_0 := P11.cell 0 (v := .int .i64 p.at_) rfl
  all_goals have pc11_1 := P11.cell 1 (v := .int .i64 p.en) rfl
  all_goals have pc11_2 := P11.cell 2 (v := .int .i64 p.st) rfl
  all_goals have pc11_3 := P11.cell 3 (v := .int .i64 p.sg) rfl
  all_goals have pc11_4 := P11.cell 4 (v := .int .i64 p.fr) rfl
  all_goals have pc11_5 := P11.cell 5 (v := .int .i64 p.to) rfl
  all_goals have rk11_0 := R11.cell 0 (v := .int .u8 0) rfl
  all_goals have rk11_1 := R11.cell 1 (v := .int .i64 0) rfl
  all_goals have rk11_2 := R11.cell 2 (v := .int .i64 0) rfl
  all_goals have rk11_3 := R11.cell 3 (v := .int .u8 0) rfl
  all_goals have rk11_4 := R11.cell 4 (v := .int .i64 0) rfl
  all_goals have rl11_0 := R11.frozen 0
  all_goals have rl11_1 := R11.frozen 1
  all_goals have rl11_2 := R11.frozen 2
  all_goals have rl11_3 := R11.frozen 3
  all_goals have rl11_4 := R11.frozen 4
  all_goals rw [rounds_succ]
  all_goals go_wp2_with (first | (go_at_call 22; refine (hn0 _).mono ?_; rintro x w' ⟨rfl, hw'⟩; subst w'))
  all_goals rw [rounds_succ]
  all_goals go_wp2
  all_goals refine ret_c3 (g := w.heap.size) (cs := #[.int .u8 (k : Nat), .int .i64 (V1 : Nat), .int .i64 (V1 : Nat), .int .u8 1, .int .i64 (-(N0 : Int))]) rfl hfs infoT rfl ((bo5z R11)) rfl ⟨rfl, gb5z G11 (Nat.le_refl _)⟩

set_option maxHeartbeats 8000000 in
theorem one_f_minus1 (s : ByteArray) (hs : ¬ (1048576 : Int) < (s.size : Int)) (k : Nat) (hk : k ≤ 255) (p : Tp.Dp) (V1 : Nat) (lp1 : 0 ≤ p.at_) (lp2 : p.at_ ≤ p.en) (lp3 : p.en ≤ (s.size : Int)) (hv1 : ∀ w, Calls Tryd.prog 22 #[.string (s.extract p.at_.toNat p.en.toNat)] w fun x w' => x = .returned (.int .i64 (V1 : Nat)) ∧ w' = w) (hf : ∀ w, Calls Tryd.prog 21 #[.string s] w fun x w' => (∃ g c, x = .returned (.tuple #[.int .u8 (k : Nat), .slice (some ⟨g, 0, none⟩) 1 c, .int .i64 0, .int .i64 0]) ∧ Cs w' g (dpl p)) ∧ w.grownBy w' none) (hw : ¬ (65536 : Int) < (V1 : Int)) (h3 : (3 : Int) ≤ (k : Int)) (h0 : ((V1 : Int) == 0) = false) (X : Int) (htw : ∀ w g c, Cs w g (dpl p) → Calls Tryd.prog 23 #[.string s, .int .u8 (k : Nat), .slice (some ⟨g, 0, none⟩) 1 c] w fun x w' => x = .returned (.tuple #[.int .i64 X, .bool false]) ∧ w' = w) (Y : Int) (hsh : ∀ w g c, Cs w g (dpl p) → Calls Tryd.prog 24 #[.string s, .int .u8 (k : Nat), .slice (some ⟨g, 0, none⟩) 1 c, .int .i64 (V1 : Nat), .int .i64 (V1 : Nat)] w fun x w' => x = .returned (.tuple #[.int .i64 Y, .bool false]) ∧ w.grownBy w' none) (N0 : Nat) (np2 : 0 ≤ p.sg) (s0i : p.sg < (s.size : Int)) (s0l : p.sg.toNat < s.size) (f01 : 0 ≤ p.fr) (f02 : p.fr ≤ p.to) (f03 : p.to ≤ (s.size : Int)) (bs0 : ((Sc.bt s p.sg.toNat : Int) == 45) = true) (hN0 : N0 ≤ 1048577) (hn0 : ∀ w, Calls Tryd.prog 22 #[.string (s.extract p.fr.toNat p.to.toNat)] w fun x w' => x = .returned (.int .i64 (N0 : Nat)) ∧ w' = w) (w : World) : Calls Tryd.prog 9 #[.string s] w fun e w' => e = .returned (.tuple #[.agg #[.int .u8 (k : Nat), .int .i64 (V1 : Nat), .int .i64 (V1 : Nat), .int .u8 1, .int .i64 (-(N0 : Int))], .int .i64 0, .int .i64 0]) ∧ w.grownBy w' none := by
  obtain ⟨fs, hfs⟩ := underT
  obtain ⟨W1, hW1, sz1, g1, B1⟩ := boxn w #[.int .u8 0, .int .i64 0, .int .i64 0, .int .u8 0, .int .i64 0] 23
  have z0 := B1.cell 0 (v := .int .u8 0) rfl
  have z1 := B1.cell 1 (v := .int .i64 0) rfl
  have z2 := B1.cell 2 (v := .int .i64 0) rfl
  have z3 := B1.cell 3 (v := .int .u8 0) rfl
  have z4 := B1.cell 4 (v := .int .i64 0) rfl
  have y0 := B1.frozen 0
  have y1 := B1.frozen 1
  have y2 := B1.frozen 2
  have y3 := B1.frozen 3
  have y4 := B1.frozen 4
  have sb0 := Sc.bt_at s0l
  have ng0 : IntKind.i64.wrap (-(N0 : Int)) = -(N0 : Int) := by rw [IntKind.wrap_i64]; omega
  go_enter Tryd.func9, Tryd.ntmps9
  go_wp2_with (first | (go_at_call 21; refine (hf _).mono ?_; rintro x w2 ⟨⟨g, c, rfl, hc⟩, g2⟩; have B2 := B1.kept g2 (by simp); obtain ⟨W3, hW3, sz3, g3, T3⟩ := boxn w2 #[.int .u8 (k : Nat), .int .i64 0, .int .i64 0, .int .u8 0, .int .i64 0] 23; have R3 := B2.kept g3 (by simp); have hc3 := hc.kept g3; have sm0 := Bo.same T3 0 (v := .int .u8 (k : Nat)) rfl; have sm1 := Bo.same T3 1 (v := .int .i64 0) rfl; have sm2 := Bo.same T3 2 (v := .int .i64 0) rfl; have sm3 := Bo.same T3 3 (v := .int .u8 0) rfl; have sm4 := Bo.same T3 4 (v := .int .i64 0) rfl; have tf0 := T3.frozen 0; have tf1 := T3.frozen 1; have tf2 := T3.frozen 2; have tf3 := T3.frozen 3; have tf4 := T3.frozen 4; have HN : Hid (w2.heap.size ≠ w.heap.size) := (by have := g2.size; have := sz1.out; unfold Hid; omega); obtain ⟨W4, hW4⟩ : ∃ W, W3.setCell ⟨w2.heap.size, 1, none⟩ (.int .i64 (V1 : Nat)) = W := ⟨_, rfl⟩; have T4 : Bo W4 w2.heap.size 23 #[.int .u8 (k : Nat), .int .i64 (V1 : Nat), .int .i64 0, .int .u8 0, .int .i64 0] := (by rw [← hW4]; have h9 := T3.set 1 (.int .i64 (V1 : Nat)); simpa using h9); have R4 : Bo W4 w.heap.size 23 #[.int .u8 0, .int .i64 0, .int .i64 0, .int .u8 0, .int .i64 0] := (by rw [← hW4]; exact R3.set2 HN.out); have tf4_0 := T4.frozen 0; have tf4_1 := T4.frozen 1; have tf4_2 := T4.frozen 2; have tf4_3 := T4.frozen 3; have tf4_4 := T4.frozen 4; have hc4 : Cs W4 g (dpl p) := (by rw [← hW4]; exact Cs.set2 hc3 (hc.ne)); have tc4_0 := T4.cell 0 (v := .int .u8 (k : Nat)) rfl; have tc4_1 := T4.cell 1 (v := .int .i64 (V1 : Nat)) rfl; have tc4_2 := T4.cell 2 (v := .int .i64 0) rfl; have tc4_3 := T4.cell 3 (v := .int .u8 0) rfl; have tc4_4 := T4.cell 4 (v := .int .i64 0) rfl; obtain ⟨W5, hW5⟩ : ∃ W, W4.setCell ⟨w2.heap.size, 2, none⟩ (.int .i64 (V1 : Nat)) = W := ⟨_, rfl⟩; have T5 : Bo W5 w2.heap.size 23 #[.int .u8 (k : Nat), .int .i64 (V1 : Nat), .int .i64 (V1 : Nat), .int .u8 0, .int .i64 0] := (by rw [← hW5]; have h9 := T4.set 2 (.int .i64 (V1 : Nat)); simpa using h9); have R5 : Bo W5 w.heap.size 23 #[.int .u8 0, .int .i64 0, .int .i64 0, .int .u8 0, .int .i64 0] := (by rw [← hW5]; exact R4.set2 HN.out); have tf5_0 := T5.frozen 0; have tf5_1 := T5.frozen 1; have tf5_2 := T5.frozen 2; have tf5_3 := T5.frozen 3; have tf5_4 := T5.frozen 4; have hc5 : Cs W5 g (dpl p) := (by rw [← hW5]; exact Cs.set2 hc4 (hc.ne)); have tc5_0 := T5.cell 0 (v := .int .u8 (k : Nat)) rfl; have tc5_1 := T5.cell 1 (v := .int .i64 (V1 : Nat)) rfl; have tc5_2 := T5.cell 2 (v := .int .i64 (V1 : Nat)) rfl; have tc5_3 := T5.cell 3 (v := .int .u8 0) rfl; have tc5_4 := T5.cell 4 (v := .int .i64 0) rfl; have e3_0 := hc3 0 (.int .i64 p.at_) rfl; have e3_1 := hc3 1 (.int .i64 p.en) rfl; have e3_2 := hc3 2 (.int .i64 p.st) rfl; have e3_3 := hc3 3 (.int .i64 p.sg) rfl; have e3_4 := hc3 4 (.int .i64 p.fr) rfl; have e3_5 := hc3 5 (.int .i64 p.to) rfl; have e4_0 := hc4 0 (.int .i64 p.at_) rfl; have e4_1 := hc4 1 (.int .i64 p.en) rfl; have e4_2 := hc4 2 (.int .i64 p.st) rfl; have e4_3 := hc4 3 (.int .i64 p.sg) rfl; have e4_4 := hc4 4 (.int .i64 p.fr) rfl; have e4_5 := hc4 5 (.int .i64 p.to) rfl; have e5_0 := hc5 0 (.int .i64 p.at_) rfl; have e5_1 := hc5 1 (.int .i64 p.en) rfl; have e5_2 := hc5 2 (.int .i64 p.st) rfl; have e5_3 := hc5 3 (.int .i64 p.sg) rfl; have e5_4 := hc5 4 (.int .i64 p.fr) rfl; have e5_5 := hc5 5 (.int .i64 p.to) rfl; have tc3_0 := T3.cell 0 (v := .int .u8 (k : Nat)) rfl; have tc3_1 := T3.cell 1 (v := .int .i64 0) rfl; have tc3_2 := T3.cell 2 (v := .int .i64 0) rfl; have tc3_3 := T3.cell 3 (v := .int .u8 0) rfl; have tc3_4 := T3.cell 4 (v := .int .i64 0) rfl; have GG : w.grownBy W5 none := (by rw [← hW5]; refine gb_new ?_ (Nat.le_trans g1.size g2.size) _; rw [← hW4]; refine gb_new ?_ (Nat.le_trans g1.size g2.size) _; exact gb_trans (gb_trans g1 g2) g3); have ru0 := R5.cell 0 (v := .int .u8 0) rfl; have ru1 := R5.cell 1 (v := .int .i64 0) rfl; have ru2 := R5.cell 2 (v := .int .i64 0) rfl; have ru3 := R5.cell 3 (v := .int .u8 0) rfl; have ru4 := R5.cell 4 (v := .int .i64 0) rfl; have rv0 := R5.frozen 0; have rv1 := R5.frozen 1; have rv2 := R5.frozen 2; have rv3 := R5.frozen 3; have rv4 := R5.frozen 4))
  have hgn : ¬ w2.heap.size = g := (hc.ne).resolve_right (by simp)
  have hgm : ¬ g = w2.heap.size := fun h => hgn h.symm
  have hgr : ¬ w.heap.size = g := fun h => by
    have a9 := B2.cell 0 (v := .int .u8 0) rfl
    have b9 := hc 0 _ rfl
    rw [← h, a9] at b9
    simp at b9
  have hgs : ¬ g = w.heap.size := fun h => hgr h.symm
  go_region_held2 (fun w' => w'.cell? ⟨g, 0, none⟩ = some (.int .i64 p.at_) ∧ w'.cell? ⟨g, 1, none⟩ = some (.int .i64 p.en) ∧ w'.cell? ⟨g, 2, none⟩ = some (.int .i64 p.st) ∧ w'.cell? ⟨g, 3, none⟩ = some (.int .i64 p.sg) ∧ w'.cell? ⟨g, 4, none⟩ = some (.int .i64 p.fr) ∧ w'.cell? ⟨g, 5, none⟩ = some (.int .i64 p.to)) (go_keep) (first | (go_at_call 22; (fail_if_success (guard_hyp mv0)); have mv0 : True := trivial; refine (hv1 _).mono ?_; rintro x w' ⟨rfl, hw'⟩; subst w'))
  all_goals go_wp2_with (first | (go_at_call 23; refine (htw _ g c hc5.dr).mono ?_; rintro x w' ⟨rfl, hw'⟩; subst w') | (go_at_call 24; refine (hsh _ g c hc5.dr).mono ?_; rintro x w7 ⟨rfl, g7⟩; have RH := R5.dr.kept g7 (by simp); have TH := T5.dr.kept g7 (by simp); have GH := gb_trans (gb_drew (GG)) g7; have hc7 := hc5.dr.kept g7; have rh0 := RH.cell 0 (v := .int .u8 0) rfl; have rh1 := RH.cell 1 (v := .int .i64 0) rfl; have rh2 := RH.cell 2 (v := .int .i64 0) rfl; have rh3 := RH.cell 3 (v := .int .u8 0) rfl; have rh4 := RH.cell 4 (v := .int .i64 0) rfl; have rg0 := RH.frozen 0; have rg1 := RH.frozen 1; have rg2 := RH.frozen 2; have rg3 := RH.frozen 3; have rg4 := RH.frozen 4; have th0 := TH.cell 0 (v := .int .u8 (k : Nat)) rfl; have th1 := TH.cell 1 (v := .int .i64 (V1 : Nat)) rfl; have th2 := TH.cell 2 (v := .int .i64 (V1 : Nat)) rfl; have th3 := TH.cell 3 (v := .int .u8 0) rfl; have th4 := TH.cell 4 (v := .int .i64 0) rfl; have tg0 := TH.frozen 0; have tg1 := TH.frozen 1; have tg2 := TH.frozen 2; have tg3 := TH.frozen 3; have tg4 := TH.frozen 4))
  all_goals refine wp_loop_rounds 3 ?_
  all_goals have ex8_0 := hc7 0 (.int .i64 p.at_) rfl
  all_goals have ex8_1 := hc7 1 (.int .i64 p.en) rfl
  all_goals have ex8_2 := hc7 2 (.int .i64 p.st) rfl
  all_goals have ex8_3 := hc7 3 (.int .i64 p.sg) rfl
  all_goals have ex8_4 := hc7 4 (.int .i64 p.fr) rfl
  all_goals have ex8_5 := hc7 5 (.int .i64 p.to) rfl
  all_goals obtain ⟨W8, hW8, sz8, g8, P8⟩ := boxn w7 (dpv p) 60
  all_goals have R8 := RH.kept g8 (by simp)
  all_goals have T8 := TH.kept g8 (by simp)
  all_goals have hc8 := hc7.kept g8
  all_goals have G8 := gb_trans GH g8
  all_goals have pc8_0 := P8.cell 0 (v := .int .i64 p.at_) rfl
  all_goals have pc8_1 := P8.cell 1 (v := .int .i64 p.en) rfl
  all_goals have pc8_2 := P8.cell 2 (v := .int .i64 p.st) rfl
  all_goals have pc8_3 := P8.cell 3 (v := .int .i64 p.sg) rfl
  all_goals have pc8_4 := P8.cell 4 (v := .int .i64 p.fr) rfl
  all_goals have pc8_5 := P8.cell 5 (v := .int .i64 p.to) rfl
  all_goals have tk8_0 := T8.cell 0 (v := .int .u8 (k : Nat)) rfl
  all_goals have tk8_1 := T8.cell 1 (v := .int .i64 (V1 : Nat)) rfl
  all_goals have tk8_2 := T8.cell 2 (v := .int .i64 (V1 : Nat)) rfl
  all_goals have tk8_3 := T8.cell 3 (v := .int .u8 0) rfl
  all_goals have tk8_4 := T8.cell 4 (v := .int .i64 0) rfl
  all_goals have tl8_0 := T8.frozen 0
  all_goals have tl8_1 := T8.frozen 1
  all_goals have tl8_2 := T8.frozen 2
  all_goals have tl8_3 := T8.frozen 3
  all_goals have tl8_4 := T8.frozen 4
  all_goals have rk8_0 := R8.cell 0 (v := .int .u8 0) rfl
  all_goals have rk8_1 := R8.cell 1 (v := .int .i64 0) rfl
  all_goals have rk8_2 := R8.cell 2 (v := .int .i64 0) rfl
  all_goals have rk8_3 := R8.cell 3 (v := .int .u8 0) rfl
  all_goals have rk8_4 := R8.cell 4 (v := .int .i64 0) rfl
  all_goals have rl8_0 := R8.frozen 0
  all_goals have rl8_1 := R8.frozen 1
  all_goals have rl8_2 := R8.frozen 2
  all_goals have rl8_3 := R8.frozen 3
  all_goals have rl8_4 := R8.frozen 4
  all_goals have hp8 : Hid (w2.heap.size ≠ w7.heap.size) := Nat.ne_of_lt TH.lt
  all_goals obtain ⟨W9, hW9⟩ : ∃ W, W8.setCell ⟨w2.heap.size, 3, none⟩ (.int .u8 1) = W := ⟨_, rfl⟩
  all_goals (have T9 : Bo W9 w2.heap.size 23 #[.int .u8 (k : Nat), .int .i64 (V1 : Nat), .int .i64 (V1 : Nat), .int .u8 1, .int .i64 0] := (by rw [← hW9]; have h9 := T8.set 3 (.int .u8 1); simpa using h9))
  all_goals (have R9 : Bo W9 w.heap.size 23 #[.int .u8 0, .int .i64 0, .int .i64 0, .int .u8 0, .int .i64 0] := (by rw [← hW9]; exact R8.set2 HN.out))
  all_goals (have P9 : Bo W9 w7.heap.size 60 (dpv p) := (by rw [← hW9]; exact P8.set2 hp8.out))
  all_goals (have hc9 : Cs W9 g (dpl p) := (by rw [← hW9]; exact Cs.set2 hc8 (.inl hgn)))
  all_goals (have G9 : w.grownBy W9 none := (by rw [← hW9]; exact gb_new G8 (Nat.le_trans g1.size g2.size) _))
  all_goals have tk9_0 := T9.cell 0 (v := .int .u8 (k : Nat)) rfl
  all_goals have tk9_1 := T9.cell 1 (v := .int .i64 (V1 : Nat)) rfl
  all_goals have tk9_2 := T9.cell 2 (v := .int .i64 (V1 : Nat)) rfl
  all_goals have tk9_3 := T9.cell 3 (v := .int .u8 1) rfl
  all_goals have tk9_4 := T9.cell 4 (v := .int .i64 0) rfl
  all_goals have tl9_0 := T9.frozen 0
  all_goals have tl9_1 := T9.frozen 1
  all_goals have tl9_2 := T9.frozen 2
  all_goals have tl9_3 := T9.frozen 3
  all_goals have tl9_4 := T9.frozen 4
  all_goals have pc9_0 := P9.cell 0 (v := .int .i64 p.at_) rfl
  all_goals have pc9_1 := P9.cell 1 (v := .int .i64 p.en) rfl
  all_goals have pc9_2 := P9.cell 2 (v := .int .i64 p.st) rfl
  all_goals have pc9_3 := P9.cell 3 (v := .int .i64 p.sg) rfl
  all_goals have pc9_4 := P9.cell 4 (v := .int .i64 p.fr) rfl
  all_goals have pc9_5 := P9.cell 5 (v := .int .i64 p.to) rfl
  all_goals have rk9_0 := R9.cell 0 (v := .int .u8 0) rfl
  all_goals have rk9_1 := R9.cell 1 (v := .int .i64 0) rfl
  all_goals have rk9_2 := R9.cell 2 (v := .int .i64 0) rfl
  all_goals have rk9_3 := R9.cell 3 (v := .int .u8 0) rfl
  all_goals have rk9_4 := R9.cell 4 (v := .int .i64 0) rfl
  all_goals have rl9_0 := R9.frozen 0
  all_goals have rl9_1 := R9.frozen 1
  all_goals have rl9_2 := R9.frozen 2
  all_goals have rl9_3 := R9.frozen 3
  all_goals have rl9_4 := R9.frozen 4
  all_goals obtain ⟨W10, hW10⟩ : ∃ W, W9.setCell ⟨w2.heap.size, 4, none⟩ (.int .i64 (N0 : Nat)) = W := ⟨_, rfl⟩
  all_goals (have T10 : Bo W10 w2.heap.size 23 #[.int .u8 (k : Nat), .int .i64 (V1 : Nat), .int .i64 (V1 : Nat), .int .u8 1, .int .i64 (N0 : Nat)] := (by rw [← hW10]; have h9 := T9.set 4 (.int .i64 (N0 : Nat)); simpa using h9))
  all_goals (have R10 : Bo W10 w.heap.size 23 #[.int .u8 0, .int .i64 0, .int .i64 0, .int .u8 0, .int .i64 0] := (by rw [← hW10]; exact R9.set2 HN.out))
  all_goals (have P10 : Bo W10 w7.heap.size 60 (dpv p) := (by rw [← hW10]; exact P9.set2 hp8.out))
  all_goals (have hc10 : Cs W10 g (dpl p) := (by rw [← hW10]; exact Cs.set2 hc9 (.inl hgn)))
  all_goals (have G10 : w.grownBy W10 none := (by rw [← hW10]; exact gb_new G9 (Nat.le_trans g1.size g2.size) _))
  all_goals have tk10_0 := T10.cell 0 (v := .int .u8 (k : Nat)) rfl
  all_goals have tk10_1 := T10.cell 1 (v := .int .i64 (V1 : Nat)) rfl
  all_goals have tk10_2 := T10.cell 2 (v := .int .i64 (V1 : Nat)) rfl
  all_goals have tk10_3 := T10.cell 3 (v := .int .u8 1) rfl
  all_goals have tk10_4 := T10.cell 4 (v := .int .i64 (N0 : Nat)) rfl
  all_goals have tl10_0 := T10.frozen 0
  all_goals have tl10_1 := T10.frozen 1
  all_goals have tl10_2 := T10.frozen 2
  all_goals have tl10_3 := T10.frozen 3
  all_goals have tl10_4 := T10.frozen 4
  all_goals have pc10_0 := P10.cell 0 (v := .int .i64 p.at_) rfl
  all_goals have pc10_1 := P10.cell 1 (v := .int .i64 p.en) rfl
  all_goals have pc10_2 := P10.cell 2 (v := .int .i64 p.st) rfl
  all_goals have pc10_3 := P10.cell 3 (v := .int .i64 p.sg) rfl
  all_goals have pc10_4 := P10.cell 4 (v := .int .i64 p.fr) rfl
  all_goals have pc10_5 := P10.cell 5 (v := .int .i64 p.to) rfl
  all_goals have rk10_0 := R10.cell 0 (v := .int .u8 0) rfl
  all_goals have rk10_1 := R10.cell 1 (v := .int .i64 0) rfl
  all_goals have rk10_2 := R10.cell 2 (v := .int .i64 0) rfl
  all_goals have rk10_3 := R10.cell 3 (v := .int .u8 0) rfl
  all_goals have rk10_4 := R10.cell 4 (v := .int .i64 0) rfl
  all_goals have rl10_0 := R10.frozen 0
  all_goals have rl10_1 := R10.frozen 1
  all_goals have rl10_2 := R10.frozen 2
  all_goals have rl10_3 := R10.frozen 3
  all_goals have rl10_4 := R10.frozen 4
  all_goals obtain ⟨W11, hW11⟩ : ∃ W, W10.setCell ⟨w2.heap.size, 4, none⟩ (.int .i64 (-(N0 : Int))) = W := ⟨_, rfl⟩
  all_goals (have T11 : Bo W11 w2.heap.size 23 #[.int .u8 (k : Nat), .int .i64 (V1 : Nat), .int .i64 (V1 : Nat), .int .u8 1, .int .i64 (-(N0 : Int))] := (by rw [← hW11]; have h9 := T10.set 4 (.int .i64 (-(N0 : Int))); simpa using h9))
  all_goals (have R11 : Bo W11 w.heap.size 23 #[.int .u8 0, .int .i64 0, .int .i64 0, .int .u8 0, .int .i64 0] := (by rw [← hW11]; exact R10.set2 HN.out))
  all_goals (have P11 : Bo W11 w7.heap.size 60 (dpv p) := (by rw [← hW11]; exact P10.set2 hp8.out))
  all_goals (have hc11 : Cs W11 g (dpl p) := (by rw [← hW11]; exact Cs.set2 hc10 (.inl hgn)))
  all_goals (have G11 : w.grownBy W11 none := (by rw [← hW11]; exact gb_new G10 (Nat.le_trans g1.size g2.size) _))
  all_goals have tk11_0 := T11.cell 0 (v := .int .u8 (k : Nat)) rfl
  all_goals have tk11_1 := T11.cell 1 (v := .int .i64 (V1 : Nat)) rfl
  all_goals have tk11_2 := T11.cell 2 (v := .int .i64 (V1 : Nat)) rfl
  all_goals have tk11_3 := T11.cell 3 (v := .int .u8 1) rfl
  all_goals have tk11_4 := T11.cell 4 (v := .int .i64 (-(N0 : Int))) rfl
  all_goals have tl11_0 := T11.frozen 0
  all_goals have tl11_1 := T11.frozen 1
  all_goals have tl11_2 := T11.frozen 2
  all_goals have tl11_3 := T11.frozen 3
  all_goals have tl11_4 := T11.frozen 4
  all_goals have pc11_0 := P11.cell 0 (v := .int .i64 p.at_) rfl
  all_goals have pc11_1 := P11.cell 1 (v := .int .i64 p.en) rfl
  all_goals have pc11_2 := P11.cell 2 (v := .int .i64 p.st) rfl
  all_goals have pc11_3 := P11.cell 3 (v := .int .i64 p.sg) rfl
  all_goals have pc11_4 := P11.cell 4 (v := .int .i64 p.fr) rfl
  all_goals have pc11_5 := P11.cell 5 (v := .int .i64 p.to) rfl
  all_goals have rk11_0 := R11.cell 0 (v := .int .u8 0) rfl
  all_goals have rk11_1 := R11.cell 1 (v := .int .i64 0) rfl
  all_goals have rk11_2 := R11.cell 2 (v := .int .i64 0) rfl
  all_goals have rk11_3 := R11.cell 3 (v := .int .u8 0) rfl
  all_goals have rk11_4 := R11.cell 4 (v := .int .i64 0) rfl
  all_goals have rl11_0 := R11.frozen 0
  all_goals have rl11_1 := R11.frozen 1
  all_goals have rl11_2 := R11.frozen 2
  all_goals have rl11_3 := R11.frozen 3
  all_goals have rl11_4 := R11.frozen 4
  all_goals rw [rounds_succ]
  all_goals go_wp2_with (first | (go_at_call 22; refine (hn0 _).mono ?_; rintro x w' ⟨rfl, hw'⟩; subst w'))
  all_goals rw [rounds_succ]
  all_goals go_wp2
  all_goals refine ret_c3 (g := w.heap.size) (cs := #[.int .u8 (k : Nat), .int .i64 (V1 : Nat), .int .i64 (V1 : Nat), .int .u8 1, .int .i64 (-(N0 : Int))]) rfl hfs infoT rfl ((bo5z R11)) rfl ⟨rfl, gb5z G11 (Nat.le_refl _)⟩
end Go.Proofs.YteegbhnfkcbnoaaDoor
