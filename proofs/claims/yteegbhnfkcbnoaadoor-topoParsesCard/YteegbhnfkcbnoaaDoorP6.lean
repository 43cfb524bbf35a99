/- What takeDraft of package topo answers. -/
import Derived.Test.YteegbhnfkcbnoaaDoorP5
namespace Go.Proofs.YteegbhnfkcbnoaaDoor
open Go.RowKit
set_option linter.unusedVariables false
set_option linter.unusedSimpArgs false
set_option maxRecDepth 100000

theorem underD : ∃ fs, Tryd.prog.underlying 40 = some (.struct fs) := by
  first | exact ⟨_, Tryd.underlying40⟩ | exact ⟨_, by kernel_rfl⟩
theorem mixedP : Tryd.prog.follows .mixedOrders = true := by kernel_rfl
theorem infoD : (Tryd.prog.info? 40).map (·.size) = some 12 := by kernel_rfl

theorem letterYes (b : Nat) (s : ByteArray) (w : World) (h : Cu w b s 0) (hs : s.size ≤ maxLen) (k : Nat) (hk : Hid (Tp.kindR (Sc.bt s 0) = k)) (hk0 : Hid (k ≠ 0)) : Calls Tryd.prog 35 #[.pointer (some ⟨b, 0, none⟩)] w fun e w' => e = .returned (.tuple #[.int .u8 k, .bool true]) ∧ Cu w' b s 1 ∧ w.grownBy w' (some b) := by
  refine (letterC b s w h hs).mono ?_
  rintro e w' ⟨_, h2, h3⟩
  have h4 := h2 (by rw [hk.out]; exact hk0.out)
  rw [hk.out] at h4
  exact ⟨h4.1, h4.2, h3⟩
theorem letterNo (b : Nat) (s : ByteArray) (w : World) (h : Cu w b s 0) (hs : s.size ≤ maxLen) (hk : Hid (Tp.kindR (Sc.bt s 0) = 0)) : Calls Tryd.prog 35 #[.pointer (some ⟨b, 0, none⟩)] w fun e w' => e = .returned (.tuple #[.int .u8 0, .bool false]) ∧ Cu w' b s 0 ∧ w.grownBy w' (some b) := by
  refine (letterC b s w h hs).mono ?_
  rintro e w' ⟨h2, _, h3⟩
  exact ⟨(h2 hk.out).1, (h2 hk.out).2, h3⟩

set_option maxHeartbeats 2000000 in
theorem draft_no (b : Nat) (s : ByteArray) (w : World) (h : Cu w b s 0) (hs : s.size ≤ maxLen) (tp : TypeId) (p : Value) (hE : Hid (Ev tp p b w)) (hk : Hid (Tp.kindR (Sc.bt s 0) = 0)) : Calls Tryd.prog 15 #[.pointer (some ⟨b, 0, none⟩)] w fun e w' => e = .returned (.tuple #[.agg #[.int .u8 0, .int .i64 0, .int .i64 0, .int .i64 0, .int .i64 0, .int .i64 0, .int .i64 0, .int .i64 0, .int .i64 0, .int .i64 0, .int .i64 0, .int .i64 0], .int .i64 40]) ∧ Cu w' b s 0 ∧ w.grownBy w' (some b) := by
  obtain ⟨fs, hfs⟩ := underD
  obtain ⟨W1, hW1, sz1, g1, B1⟩ := boxn w #[.int .u8 0, .int .i64 0, .int .i64 0, .int .i64 0, .int .i64 0, .int .i64 0, .int .i64 0, .int .i64 0, .int .i64 0, .int .i64 0, .int .i64 0, .int .i64 0] 40
  have h1 := h.kept g1 (by simp)
  have hE1 := evK hE (gb_any g1)
  have HM1 : Hid (w.heap.size ≠ b) := by
    have := h.lt
    unfold Hid; omega
  have G1 : w.grownBy W1 (some b) := gb_any g1
  go_enter Tryd.func15, Tryd.ntmps15
  go_wp2_with (first | (go_at_call 35; refine (letterNo _ _ _ h1 hs hk).mono ?_; rintro e w2 ⟨rfl, h2, g2⟩; have G2 := gb_trans G1 g2; have BR2 := B1.kept g2 (by intro hx; exact HM1.out (Option.some.inj hx)); have hE2 := evK hE G2; have r0 := BR2.cell 0 (v := .int .u8 0) rfl; have r1 := BR2.cell 1 (v := .int .i64 0) rfl; have r2 := BR2.cell 2 (v := .int .i64 0) rfl; have r3 := BR2.cell 3 (v := .int .i64 0) rfl; have r4 := BR2.cell 4 (v := .int .i64 0) rfl; have r5 := BR2.cell 5 (v := .int .i64 0) rfl; have r6 := BR2.cell 6 (v := .int .i64 0) rfl; have r7 := BR2.cell 7 (v := .int .i64 0) rfl; have r8 := BR2.cell 8 (v := .int .i64 0) rfl; have r9 := BR2.cell 9 (v := .int .i64 0) rfl; have r10 := BR2.cell 10 (v := .int .i64 0) rfl; have r11 := BR2.cell 11 (v := .int .i64 0) rfl; have f0 := BR2.frozen 0; have f1 := BR2.frozen 1; have f2 := BR2.frozen 2; have f3 := BR2.frozen 3; have f4 := BR2.frozen 4; have f5 := BR2.frozen 5; have f6 := BR2.frozen 6; have f7 := BR2.frozen 7; have f8 := BR2.frozen 8; have f9 := BR2.frozen 9; have f10 := BR2.frozen 10; have f11 := BR2.frozen 11; have z0 := BR2.same 0 (v := .int .u8 0) rfl; have z1 := BR2.same 1 (v := .int .i64 0) rfl; have z2 := BR2.same 2 (v := .int .i64 0) rfl; have z3 := BR2.same 3 (v := .int .i64 0) rfl; have z4 := BR2.same 4 (v := .int .i64 0) rfl; have z5 := BR2.same 5 (v := .int .i64 0) rfl; have z6 := BR2.same 6 (v := .int .i64 0) rfl; have z7 := BR2.same 7 (v := .int .i64 0) rfl; have z8 := BR2.same 8 (v := .int .i64 0) rfl; have z9 := BR2.same 9 (v := .int .i64 0) rfl; have z10 := BR2.same 10 (v := .int .i64 0) rfl; have z11 := BR2.same 11 (v := .int .i64 0) rfl))
  refine ret_c2 (g := w.heap.size) (cs := #[.int .u8 0, .int .i64 0, .int .i64 0, .int .i64 0, .int .i64 0, .int .i64 0, .int .i64 0, .int .i64 0, .int .i64 0, .int .i64 0, .int .i64 0, .int .i64 0]) rfl hfs infoD rfl BR2 rfl ⟨ret_pi rfl rfl, h2, G2⟩

set_option maxHeartbeats 2000000 in
theorem draft_bad (b : Nat) (s : ByteArray) (w : World) (h : Cu w b s 0) (hs : s.size ≤ maxLen) (tp : TypeId) (p : Value) (hE : Hid (Ev tp p b w)) (k : Nat) (hk : Hid (Tp.kindR (Sc.bt s 0) = k)) (hk0 : Hid (k ≠ 0)) (hk1 : 1 ≤ k ∧ k ≤ 5) (hi : 1 ≤ s.size) (P Q : Tp.Pt) (er a : Nat) (hr : Hid (sidesR s k = ⟨P, Q, er, a⟩)) (hne : ((er : Int) == 0) = false) : Calls Tryd.prog 15 #[.pointer (some ⟨b, 0, none⟩)] w fun e w' => e = .returned (.tuple #[.agg #[.int .u8 0, .int .i64 0, .int .i64 0, .int .i64 0, .int .i64 0, .int .i64 0, .int .i64 0, .int .i64 0, .int .i64 0, .int .i64 0, .int .i64 0, .int .i64 0], .int .i64 er]) ∧ Cu w' b s a ∧ w.grownBy w' (some b) := by
  obtain ⟨fs, hfs⟩ := underD
  obtain ⟨W1, hW1, sz1, g1, B1⟩ := boxn w #[.int .u8 0, .int .i64 0, .int .i64 0, .int .i64 0, .int .i64 0, .int .i64 0, .int .i64 0, .int .i64 0, .int .i64 0, .int .i64 0, .int .i64 0, .int .i64 0] 40
  have h1 := h.kept g1 (by simp)
  have hE1 := evK hE (gb_any g1)
  have HM1 : Hid (w.heap.size ≠ b) := by
    have := h.lt
    unfold Hid; omega
  have G1 : w.grownBy W1 (some b) := gb_any g1
  go_enter Tryd.func15, Tryd.ntmps15
  go_wp2_with (first | (go_at_call 35; refine (letterYes _ _ _ h1 hs k hk hk0).mono ?_; rintro e w2 ⟨rfl, h2, g2⟩; have G2 := gb_trans G1 g2; have BR2 := B1.kept g2 (by intro hx; exact HM1.out (Option.some.inj hx)); have hE2 := evK hE G2; have r0 := BR2.cell 0 (v := .int .u8 0) rfl; have r1 := BR2.cell 1 (v := .int .i64 0) rfl; have r2 := BR2.cell 2 (v := .int .i64 0) rfl; have r3 := BR2.cell 3 (v := .int .i64 0) rfl; have r4 := BR2.cell 4 (v := .int .i64 0) rfl; have r5 := BR2.cell 5 (v := .int .i64 0) rfl; have r6 := BR2.cell 6 (v := .int .i64 0) rfl; have r7 := BR2.cell 7 (v := .int .i64 0) rfl; have r8 := BR2.cell 8 (v := .int .i64 0) rfl; have r9 := BR2.cell 9 (v := .int .i64 0) rfl; have r10 := BR2.cell 10 (v := .int .i64 0) rfl; have r11 := BR2.cell 11 (v := .int .i64 0) rfl; have f0 := BR2.frozen 0; have f1 := BR2.frozen 1; have f2 := BR2.frozen 2; have f3 := BR2.frozen 3; have f4 := BR2.frozen 4; have f5 := BR2.frozen 5; have f6 := BR2.frozen 6; have f7 := BR2.frozen 7; have f8 := BR2.frozen 8; have f9 := BR2.frozen 9; have f10 := BR2.frozen 10; have f11 := BR2.frozen 11) | (go_at_call 36; refine (sidesC b k s _ h2 hi hs tp p hE2 hk1 P Q er a hr).mono ?_; rintro e w3 ⟨rfl, h3, g3⟩; have G3 := gb_trans G2 g3; have BR3 := BR2.kept g3 (by intro hx; exact HM1.out (Option.some.inj hx)); obtain ⟨W4, hW4, sz4, g4, BP4⟩ := boxn w3 #[.int .i64 (P.pl : Nat), .int .i64 (P.len : Nat), .int .i64 (P.star : Nat), .int .i64 (P.sign : Nat), .int .i64 P.sh, .int .i64 (Q.pl : Nat), .int .i64 (Q.len : Nat), .int .i64 (Q.star : Nat), .int .i64 (Q.sign : Nat), .int .i64 Q.sh] 38; have h4 := h3.kept g4 (by simp); have BR4 := BR3.kept g4 (by simp); have G4 := gb_trans G3 (gb_any (r := some b) g4); have t0 := BR4.cell 0 (v := .int .u8 0) rfl; have t1 := BR4.cell 1 (v := .int .i64 0) rfl; have t2 := BR4.cell 2 (v := .int .i64 0) rfl; have t3 := BR4.cell 3 (v := .int .i64 0) rfl; have t4 := BR4.cell 4 (v := .int .i64 0) rfl; have t5 := BR4.cell 5 (v := .int .i64 0) rfl; have t6 := BR4.cell 6 (v := .int .i64 0) rfl; have t7 := BR4.cell 7 (v := .int .i64 0) rfl; have t8 := BR4.cell 8 (v := .int .i64 0) rfl; have t9 := BR4.cell 9 (v := .int .i64 0) rfl; have t10 := BR4.cell 10 (v := .int .i64 0) rfl; have t11 := BR4.cell 11 (v := .int .i64 0) rfl; have x0 := BR4.frozen 0; have x1 := BR4.frozen 1; have x2 := BR4.frozen 2; have x3 := BR4.frozen 3; have x4 := BR4.frozen 4; have x5 := BR4.frozen 5; have x6 := BR4.frozen 6; have x7 := BR4.frozen 7; have x8 := BR4.frozen 8; have x9 := BR4.frozen 9; have x10 := BR4.frozen 10; have x11 := BR4.frozen 11; have p0 := BP4.cell 0 (v := .int .i64 (P.pl : Nat)) rfl; have p1 := BP4.cell 1 (v := .int .i64 (P.len : Nat)) rfl; have p2 := BP4.cell 2 (v := .int .i64 (P.star : Nat)) rfl; have p3 := BP4.cell 3 (v := .int .i64 (P.sign : Nat)) rfl; have p4 := BP4.cell 4 (v := .int .i64 P.sh) rfl; have p5 := BP4.cell 5 (v := .int .i64 (Q.pl : Nat)) rfl; have p6 := BP4.cell 6 (v := .int .i64 (Q.len : Nat)) rfl; have p7 := BP4.cell 7 (v := .int .i64 (Q.star : Nat)) rfl; have p8 := BP4.cell 8 (v := .int .i64 (Q.sign : Nat)) rfl; have p9 := BP4.cell 9 (v := .int .i64 Q.sh) rfl; have z0 := BR4.same 0 (v := .int .u8 0) rfl; have z1 := BR4.same 1 (v := .int .i64 0) rfl; have z2 := BR4.same 2 (v := .int .i64 0) rfl; have z3 := BR4.same 3 (v := .int .i64 0) rfl; have z4 := BR4.same 4 (v := .int .i64 0) rfl; have z5 := BR4.same 5 (v := .int .i64 0) rfl; have z6 := BR4.same 6 (v := .int .i64 0) rfl; have z7 := BR4.same 7 (v := .int .i64 0) rfl; have z8 := BR4.same 8 (v := .int .i64 0) rfl; have z9 := BR4.same 9 (v := .int .i64 0) rfl; have z10 := BR4.same 10 (v := .int .i64 0) rfl; have z11 := BR4.same 11 (v := .int .i64 0) rfl))
  refine ret_c2 (g := w.heap.size) (cs := #[.int .u8 0, .int .i64 0, .int .i64 0, .int .i64 0, .int .i64 0, .int .i64 0, .int .i64 0, .int .i64 0, .int .i64 0, .int .i64 0, .int .i64 0, .int .i64 0]) rfl hfs infoD rfl BR4 rfl ⟨ret_pi rfl rfl, h4, G4⟩

set_option maxHeartbeats 2000000 in
theorem draft_more (b : Nat) (s : ByteArray) (w : World) (h : Cu w b s 0) (hs : s.size ≤ maxLen) (tp : TypeId) (p : Value) (hE : Hid (Ev tp p b w)) (k : Nat) (hk : Hid (Tp.kindR (Sc.bt s 0) = k)) (hk0 : Hid (k ≠ 0)) (hk1 : 1 ≤ k ∧ k ≤ 5) (hi : 1 ≤ s.size) (P Q : Tp.Pt) (a : Nat) (hr : Hid (sidesR s k = ⟨P, Q, 0, a⟩)) (hne : ((a : Int) == (s.size : Int)) = false) : Calls Tryd.prog 15 #[.pointer (some ⟨b, 0, none⟩)] w fun e w' => e = .returned (.tuple #[.agg #[.int .u8 0, .int .i64 0, .int .i64 0, .int .i64 0, .int .i64 0, .int .i64 0, .int .i64 0, .int .i64 0, .int .i64 0, .int .i64 0, .int .i64 0, .int .i64 0], .int .i64 45]) ∧ Cu w' b s a ∧ w.grownBy w' (some b) := by
  obtain ⟨fs, hfs⟩ := underD
  obtain ⟨W1, hW1, sz1, g1, B1⟩ := boxn w #[.int .u8 0, .int .i64 0, .int .i64 0, .int .i64 0, .int .i64 0, .int .i64 0, .int .i64 0, .int .i64 0, .int .i64 0, .int .i64 0, .int .i64 0, .int .i64 0] 40
  have h1 := h.kept g1 (by simp)
  have hE1 := evK hE (gb_any g1)
  have HM1 : Hid (w.heap.size ≠ b) := by
    have := h.lt
    unfold Hid; omega
  have G1 : w.grownBy W1 (some b) := gb_any g1
  go_enter Tryd.func15, Tryd.ntmps15
  go_wp2_with (first | (go_at_call 35; refine (letterYes _ _ _ h1 hs k hk hk0).mono ?_; rintro e w2 ⟨rfl, h2, g2⟩; have G2 := gb_trans G1 g2; have BR2 := B1.kept g2 (by intro hx; exact HM1.out (Option.some.inj hx)); have hE2 := evK hE G2; have r0 := BR2.cell 0 (v := .int .u8 0) rfl; have r1 := BR2.cell 1 (v := .int .i64 0) rfl; have r2 := BR2.cell 2 (v := .int .i64 0) rfl; have r3 := BR2.cell 3 (v := .int .i64 0) rfl; have r4 := BR2.cell 4 (v := .int .i64 0) rfl; have r5 := BR2.cell 5 (v := .int .i64 0) rfl; have r6 := BR2.cell 6 (v := .int .i64 0) rfl; have r7 := BR2.cell 7 (v := .int .i64 0) rfl; have r8 := BR2.cell 8 (v := .int .i64 0) rfl; have r9 := BR2.cell 9 (v := .int .i64 0) rfl; have r10 := BR2.cell 10 (v := .int .i64 0) rfl; have r11 := BR2.cell 11 (v := .int .i64 0) rfl; have f0 := BR2.frozen 0; have f1 := BR2.frozen 1; have f2 := BR2.frozen 2; have f3 := BR2.frozen 3; have f4 := BR2.frozen 4; have f5 := BR2.frozen 5; have f6 := BR2.frozen 6; have f7 := BR2.frozen 7; have f8 := BR2.frozen 8; have f9 := BR2.frozen 9; have f10 := BR2.frozen 10; have f11 := BR2.frozen 11) | (go_at_call 36; refine (sidesC b k s _ h2 hi hs tp p hE2 hk1 P Q 0 a hr).mono ?_; rintro e w3 ⟨rfl, h3, g3⟩; have G3 := gb_trans G2 g3; have BR3 := BR2.kept g3 (by intro hx; exact HM1.out (Option.some.inj hx)); obtain ⟨W4, hW4, sz4, g4, BP4⟩ := boxn w3 #[.int .i64 (P.pl : Nat), .int .i64 (P.len : Nat), .int .i64 (P.star : Nat), .int .i64 (P.sign : Nat), .int .i64 P.sh, .int .i64 (Q.pl : Nat), .int .i64 (Q.len : Nat), .int .i64 (Q.star : Nat), .int .i64 (Q.sign : Nat), .int .i64 Q.sh] 38; have h4 := h3.kept g4 (by simp); have BR4 := BR3.kept g4 (by simp); have G4 := gb_trans G3 (gb_any (r := some b) g4); have t0 := BR4.cell 0 (v := .int .u8 0) rfl; have t1 := BR4.cell 1 (v := .int .i64 0) rfl; have t2 := BR4.cell 2 (v := .int .i64 0) rfl; have t3 := BR4.cell 3 (v := .int .i64 0) rfl; have t4 := BR4.cell 4 (v := .int .i64 0) rfl; have t5 := BR4.cell 5 (v := .int .i64 0) rfl; have t6 := BR4.cell 6 (v := .int .i64 0) rfl; have t7 := BR4.cell 7 (v := .int .i64 0) rfl; have t8 := BR4.cell 8 (v := .int .i64 0) rfl; have t9 := BR4.cell 9 (v := .int .i64 0) rfl; have t10 := BR4.cell 10 (v := .int .i64 0) rfl; have t11 := BR4.cell 11 (v := .int .i64 0) rfl; have x0 := BR4.frozen 0; have x1 := BR4.frozen 1; have x2 := BR4.frozen 2; have x3 := BR4.frozen 3; have x4 := BR4.frozen 4; have x5 := BR4.frozen 5; have x6 := BR4.frozen 6; have x7 := BR4.frozen 7; have x8 := BR4.frozen 8; have x9 := BR4.frozen 9; have x10 := BR4.frozen 10; have x11 := BR4.frozen 11; have p0 := BP4.cell 0 (v := .int .i64 (P.pl : Nat)) rfl; have p1 := BP4.cell 1 (v := .int .i64 (P.len : Nat)) rfl; have p2 := BP4.cell 2 (v := .int .i64 (P.star : Nat)) rfl; have p3 := BP4.cell 3 (v := .int .i64 (P.sign : Nat)) rfl; have p4 := BP4.cell 4 (v := .int .i64 P.sh) rfl; have p5 := BP4.cell 5 (v := .int .i64 (Q.pl : Nat)) rfl; have p6 := BP4.cell 6 (v := .int .i64 (Q.len : Nat)) rfl; have p7 := BP4.cell 7 (v := .int .i64 (Q.star : Nat)) rfl; have p8 := BP4.cell 8 (v := .int .i64 (Q.sign : Nat)) rfl; have p9 := BP4.cell 9 (v := .int .i64 Q.sh) rfl) | (go_at_call 37; refine (doneC _ _ _ _ h4).mono ?_; rintro e w' ⟨rfl, q1, hw'⟩; subst w'; have h5 : Cu (W4.drewN q1) b s a := h4.drew; have BR5 : Bo (W4.drewN q1) w.heap.size 40 #[.int .u8 0, .int .i64 0, .int .i64 0, .int .i64 0, .int .i64 0, .int .i64 0, .int .i64 0, .int .i64 0, .int .i64 0, .int .i64 0, .int .i64 0, .int .i64 0] := BR4.drew; have BP5 : Bo (W4.drewN q1) w3.heap.size 38 #[.int .i64 (P.pl : Nat), .int .i64 (P.len : Nat), .int .i64 (P.star : Nat), .int .i64 (P.sign : Nat), .int .i64 P.sh, .int .i64 (Q.pl : Nat), .int .i64 (Q.len : Nat), .int .i64 (Q.star : Nat), .int .i64 (Q.sign : Nat), .int .i64 Q.sh] := BP4.drew; have G5 : w.grownBy (W4.drewN q1) (some b) := gb_drewN G4 _; have u0 := BR5.cell 0 (v := .int .u8 0) rfl; have u1 := BR5.cell 1 (v := .int .i64 0) rfl; have u2 := BR5.cell 2 (v := .int .i64 0) rfl; have u3 := BR5.cell 3 (v := .int .i64 0) rfl; have u4 := BR5.cell 4 (v := .int .i64 0) rfl; have u5 := BR5.cell 5 (v := .int .i64 0) rfl; have u6 := BR5.cell 6 (v := .int .i64 0) rfl; have u7 := BR5.cell 7 (v := .int .i64 0) rfl; have u8 := BR5.cell 8 (v := .int .i64 0) rfl; have u9 := BR5.cell 9 (v := .int .i64 0) rfl; have u10 := BR5.cell 10 (v := .int .i64 0) rfl; have u11 := BR5.cell 11 (v := .int .i64 0) rfl; have y0 := BR5.frozen 0; have y1 := BR5.frozen 1; have y2 := BR5.frozen 2; have y3 := BR5.frozen 3; have y4 := BR5.frozen 4; have y5 := BR5.frozen 5; have y6 := BR5.frozen 6; have y7 := BR5.frozen 7; have y8 := BR5.frozen 8; have y9 := BR5.frozen 9; have y10 := BR5.frozen 10; have y11 := BR5.frozen 11; have v0 := BP5.cell 0 (v := .int .i64 (P.pl : Nat)) rfl; have v1 := BP5.cell 1 (v := .int .i64 (P.len : Nat)) rfl; have v2 := BP5.cell 2 (v := .int .i64 (P.star : Nat)) rfl; have v3 := BP5.cell 3 (v := .int .i64 (P.sign : Nat)) rfl; have v4 := BP5.cell 4 (v := .int .i64 P.sh) rfl; have v5 := BP5.cell 5 (v := .int .i64 (Q.pl : Nat)) rfl; have v6 := BP5.cell 6 (v := .int .i64 (Q.len : Nat)) rfl; have v7 := BP5.cell 7 (v := .int .i64 (Q.star : Nat)) rfl; have v8 := BP5.cell 8 (v := .int .i64 (Q.sign : Nat)) rfl; have v9 := BP5.cell 9 (v := .int .i64 Q.sh) rfl; have z0 := BR5.same 0 (v := .int .u8 0) rfl; have z1 := BR5.same 1 (v := .int .i64 0) rfl; have z2 := BR5.same 2 (v := .int .i64 0) rfl; have z3 := BR5.same 3 (v := .int .i64 0) rfl; have z4 := BR5.same 4 (v := .int .i64 0) rfl; have z5 := BR5.same 5 (v := .int .i64 0) rfl; have z6 := BR5.same 6 (v := .int .i64 0) rfl; have z7 := BR5.same 7 (v := .int .i64 0) rfl; have z8 := BR5.same 8 (v := .int .i64 0) rfl; have z9 := BR5.same 9 (v := .int .i64 0) rfl; have z10 := BR5.same 10 (v := .int .i64 0) rfl; have z11 := BR5.same 11 (v := .int .i64 0) rfl))
  refine ret_c2 (g := w.heap.size) (cs := #[.int .u8 0, .int .i64 0, .int .i64 0, .int .i64 0, .int .i64 0, .int .i64 0, .int .i64 0, .int .i64 0, .int .i64 0, .int .i64 0, .int .i64 0, .int .i64 0]) rfl hfs infoD rfl BR5 rfl ⟨ret_pi rfl rfl, h5, G5⟩

set_option maxHeartbeats 2000000 in
theorem draft_ok (b : Nat) (s : ByteArray) (w : World) (h : Cu w b s 0) (hs : s.size ≤ maxLen) (tp : TypeId) (p : Value) (hE : Hid (Ev tp p b w)) (k : Nat) (hk : Hid (Tp.kindR (Sc.bt s 0) = k)) (hk0 : Hid (k ≠ 0)) (hk1 : 1 ≤ k ∧ k ≤ 5) (hi : 1 ≤ s.size) (P Q : Tp.Pt) (a : Nat) (hr : Hid (sidesR s k = ⟨P, Q, 0, a⟩)) (hne : ((a : Int) == (s.size : Int)) = true) : Calls Tryd.prog 15 #[.pointer (some ⟨b, 0, none⟩)] w fun e w' => e = .returned (.tuple #[.agg #[.int .u8 k, .int .i64 (P.pl : Nat), .int .i64 (P.len : Nat), .int .i64 (P.star : Nat), .int .i64 (P.sign : Nat), .int .i64 P.sh, .int .i64 (Q.pl : Nat), .int .i64 (Q.len : Nat), .int .i64 (Q.star : Nat), .int .i64 (Q.sign : Nat), .int .i64 Q.sh, .int .i64 a], .int .i64 0]) ∧ Cu w' b s a ∧ w.grownBy w' (some b) := by
  obtain ⟨fs, hfs⟩ := underD
  obtain ⟨W1, hW1, sz1, g1, B1⟩ := boxn w #[.int .u8 0, .int .i64 0, .int .i64 0, .int .i64 0, .int .i64 0, .int .i64 0, .int .i64 0, .int .i64 0, .int .i64 0, .int .i64 0, .int .i64 0, .int .i64 0] 40
  have h1 := h.kept g1 (by simp)
  have hE1 := evK hE (gb_any g1)
  have HM1 : Hid (w.heap.size ≠ b) := by
    have := h.lt
    unfold Hid; omega
  have G1 : w.grownBy W1 (some b) := gb_any g1
  go_enter Tryd.func15, Tryd.ntmps15
  go_wp2_with (first | (go_at_call 35; refine (letterYes _ _ _ h1 hs k hk hk0).mono ?_; rintro e w2 ⟨rfl, h2, g2⟩; have G2 := gb_trans G1 g2; have BR2 := B1.kept g2 (by intro hx; exact HM1.out (Option.some.inj hx)); have hE2 := evK hE G2; have r0 := BR2.cell 0 (v := .int .u8 0) rfl; have r1 := BR2.cell 1 (v := .int .i64 0) rfl; have r2 := BR2.cell 2 (v := .int .i64 0) rfl; have r3 := BR2.cell 3 (v := .int .i64 0) rfl; have r4 := BR2.cell 4 (v := .int .i64 0) rfl; have r5 := BR2.cell 5 (v := .int .i64 0) rfl; have r6 := BR2.cell 6 (v := .int .i64 0) rfl; have r7 := BR2.cell 7 (v := .int .i64 0) rfl; have r8 := BR2.cell 8 (v := .int .i64 0) rfl; have r9 := BR2.cell 9 (v := .int .i64 0) rfl; have r10 := BR2.cell 10 (v := .int .i64 0) rfl; have r11 := BR2.cell 11 (v := .int .i64 0) rfl; have f0 := BR2.frozen 0; have f1 := BR2.frozen 1; have f2 := BR2.frozen 2; have f3 := BR2.frozen 3; have f4 := BR2.frozen 4; have f5 := BR2.frozen 5; have f6 := BR2.frozen 6; have f7 := BR2.frozen 7; have f8 := BR2.frozen 8; have f9 := BR2.frozen 9; have f10 := BR2.frozen 10; have f11 := BR2.frozen 11) | (go_at_call 36; refine (sidesC b k s _ h2 hi hs tp p hE2 hk1 P Q 0 a hr).mono ?_; rintro e w3 ⟨rfl, h3, g3⟩; have G3 := gb_trans G2 g3; have BR3 := BR2.kept g3 (by intro hx; exact HM1.out (Option.some.inj hx)); obtain ⟨W4, hW4, sz4, g4, BP4⟩ := boxn w3 #[.int .i64 (P.pl : Nat), .int .i64 (P.len : Nat), .int .i64 (P.star : Nat), .int .i64 (P.sign : Nat), .int .i64 P.sh, .int .i64 (Q.pl : Nat), .int .i64 (Q.len : Nat), .int .i64 (Q.star : Nat), .int .i64 (Q.sign : Nat), .int .i64 Q.sh] 38; have h4 := h3.kept g4 (by simp); have BR4 := BR3.kept g4 (by simp); have G4 := gb_trans G3 (gb_any (r := some b) g4); have t0 := BR4.cell 0 (v := .int .u8 0) rfl; have t1 := BR4.cell 1 (v := .int .i64 0) rfl; have t2 := BR4.cell 2 (v := .int .i64 0) rfl; have t3 := BR4.cell 3 (v := .int .i64 0) rfl; have t4 := BR4.cell 4 (v := .int .i64 0) rfl; have t5 := BR4.cell 5 (v := .int .i64 0) rfl; have t6 := BR4.cell 6 (v := .int .i64 0) rfl; have t7 := BR4.cell 7 (v := .int .i64 0) rfl; have t8 := BR4.cell 8 (v := .int .i64 0) rfl; have t9 := BR4.cell 9 (v := .int .i64 0) rfl; have t10 := BR4.cell 10 (v := .int .i64 0) rfl; have t11 := BR4.cell 11 (v := .int .i64 0) rfl; have x0 := BR4.frozen 0; have x1 := BR4.frozen 1; have x2 := BR4.frozen 2; have x3 := BR4.frozen 3; have x4 := BR4.frozen 4; have x5 := BR4.frozen 5; have x6 := BR4.frozen 6; have x7 := BR4.frozen 7; have x8 := BR4.frozen 8; have x9 := BR4.frozen 9; have x10 := BR4.frozen 10; have x11 := BR4.frozen 11; have p0 := BP4.cell 0 (v := .int .i64 (P.pl : Nat)) rfl; have p1 := BP4.cell 1 (v := .int .i64 (P.len : Nat)) rfl; have p2 := BP4.cell 2 (v := .int .i64 (P.star : Nat)) rfl; have p3 := BP4.cell 3 (v := .int .i64 (P.sign : Nat)) rfl; have p4 := BP4.cell 4 (v := .int .i64 P.sh) rfl; have p5 := BP4.cell 5 (v := .int .i64 (Q.pl : Nat)) rfl; have p6 := BP4.cell 6 (v := .int .i64 (Q.len : Nat)) rfl; have p7 := BP4.cell 7 (v := .int .i64 (Q.star : Nat)) rfl; have p8 := BP4.cell 8 (v := .int .i64 (Q.sign : Nat)) rfl; have p9 := BP4.cell 9 (v := .int .i64 Q.sh) rfl) | (go_at_call 37; refine (doneC _ _ _ _ h4).mono ?_; rintro e w' ⟨rfl, q1, hw'⟩; subst w'; have h5 : Cu (W4.drewN q1) b s a := h4.drew; have BR5 : Bo (W4.drewN q1) w.heap.size 40 #[.int .u8 0, .int .i64 0, .int .i64 0, .int .i64 0, .int .i64 0, .int .i64 0, .int .i64 0, .int .i64 0, .int .i64 0, .int .i64 0, .int .i64 0, .int .i64 0] := BR4.drew; have BP5 : Bo (W4.drewN q1) w3.heap.size 38 #[.int .i64 (P.pl : Nat), .int .i64 (P.len : Nat), .int .i64 (P.star : Nat), .int .i64 (P.sign : Nat), .int .i64 P.sh, .int .i64 (Q.pl : Nat), .int .i64 (Q.len : Nat), .int .i64 (Q.star : Nat), .int .i64 (Q.sign : Nat), .int .i64 Q.sh] := BP4.drew; have G5 : w.grownBy (W4.drewN q1) (some b) := gb_drewN G4 _; have u0 := BR5.cell 0 (v := .int .u8 0) rfl; have u1 := BR5.cell 1 (v := .int .i64 0) rfl; have u2 := BR5.cell 2 (v := .int .i64 0) rfl; have u3 := BR5.cell 3 (v := .int .i64 0) rfl; have u4 := BR5.cell 4 (v := .int .i64 0) rfl; have u5 := BR5.cell 5 (v := .int .i64 0) rfl; have u6 := BR5.cell 6 (v := .int .i64 0) rfl; have u7 := BR5.cell 7 (v := .int .i64 0) rfl; have u8 := BR5.cell 8 (v := .int .i64 0) rfl; have u9 := BR5.cell 9 (v := .int .i64 0) rfl; have u10 := BR5.cell 10 (v := .int .i64 0) rfl; have u11 := BR5.cell 11 (v := .int .i64 0) rfl; have y0 := BR5.frozen 0; have y1 := BR5.frozen 1; have y2 := BR5.frozen 2; have y3 := BR5.frozen 3; have y4 := BR5.frozen 4; have y5 := BR5.frozen 5; have y6 := BR5.frozen 6; have y7 := BR5.frozen 7; have y8 := BR5.frozen 8; have y9 := BR5.frozen 9; have y10 := BR5.frozen 10; have y11 := BR5.frozen 11; have v0 := BP5.cell 0 (v := .int .i64 (P.pl : Nat)) rfl; have v1 := BP5.cell 1 (v := .int .i64 (P.len : Nat)) rfl; have v2 := BP5.cell 2 (v := .int .i64 (P.star : Nat)) rfl; have v3 := BP5.cell 3 (v := .int .i64 (P.sign : Nat)) rfl; have v4 := BP5.cell 4 (v := .int .i64 P.sh) rfl; have v5 := BP5.cell 5 (v := .int .i64 (Q.pl : Nat)) rfl; have v6 := BP5.cell 6 (v := .int .i64 (Q.len : Nat)) rfl; have v7 := BP5.cell 7 (v := .int .i64 (Q.star : Nat)) rfl; have v8 := BP5.cell 8 (v := .int .i64 (Q.sign : Nat)) rfl; have v9 := BP5.cell 9 (v := .int .i64 Q.sh) rfl) | (go_at_call 16; refine (atC _ _ _ _ h5).mono ?_; rintro e w' ⟨rfl, hw'⟩; subst w'))
  refine region_tail 5 mixedP (by kernel_rfl) ?_
  simp only [List.take_succ_cons, List.take_zero, List.drop_succ_cons, List.drop_zero]
  repeat still_step
  still_call (atC b s a (W4.drewN q1).drew h5)
  repeat still_step
  refine wpStill_nil ?_
  go_wp2
  refine ret_c2 (g := w.heap.size) (cs := #[.int .u8 k, .int .i64 (P.pl : Nat), .int .i64 (P.len : Nat), .int .i64 (P.star : Nat), .int .i64 (P.sign : Nat), .int .i64 P.sh, .int .i64 (Q.pl : Nat), .int .i64 (Q.len : Nat), .int .i64 (Q.star : Nat), .int .i64 (Q.sign : Nat), .int .i64 Q.sh, .int .i64 a]) rfl hfs infoD rfl (bo12 BR5.dr) rfl ⟨ret_pi rfl rfl, cu12 (show Cu (W4.drewN q1).drew b s a from h5) HM1.out, gb12 (gb_drew G5) (Nat.le_refl _)⟩

/-- What a text's form is, as takeDraft answers it. -/
def frSays (r : Tp.FR) (b : Nat) (s : ByteArray) (w : World) (e : Ending) (w' : World) : Prop := match r with
  | .bad er a => e = .returned (.tuple #[.agg #[.int .u8 0, .int .i64 0, .int .i64 0, .int .i64 0, .int .i64 0, .int .i64 0, .int .i64 0, .int .i64 0, .int .i64 0, .int .i64 0, .int .i64 0, .int .i64 0], .int .i64 er]) ∧ Cu w' b s a ∧ w.grownBy w' (some b)
  | .ok k P Q n l => e = .returned (.tuple #[.agg #[.int .u8 k, .int .i64 (P.pl : Nat), .int .i64 (P.len : Nat), .int .i64 (P.star : Nat), .int .i64 (P.sign : Nat), .int .i64 P.sh, .int .i64 (Q.pl : Nat), .int .i64 (Q.len : Nat), .int .i64 (Q.star : Nat), .int .i64 (Q.sign : Nat), .int .i64 Q.sh, .int .i64 (l : Nat)], .int .i64 0]) ∧ Cu w' b s l ∧ w.grownBy w' (some b)
/-- The form, by the sides. -/
def formS (s : ByteArray) (k : Nat) (x : PS) (n : Nat) : Tp.FR := if x.er = 0 then Tp.endR s k x.P x.Q n x.a else .bad x.er x.a
theorem body_sides (s : ByteArray) (k : Nat) : ∃ n, Tp.bodyR s k = formS s k (sidesR s k) n := by
  unfold Tp.bodyR sidesR
  by_cases k5 : k = 5
  · subst k5
    rw [if_pos rfl, if_pos rfl]
    refine ⟨1, ?_⟩
    by_cases h : 1 < Tp.dg s 1
    · rw [if_pos h, if_pos h]; rfl
    · rw [if_neg h, if_neg h]; rfl
  · rw [if_neg k5, if_neg k5]
    by_cases h : k ≤ 2 ∧ s.size = 1
    · refine ⟨0, ?_⟩
      rw [if_pos h, if_pos h]
      unfold formS Tp.endR
      rw [if_pos rfl, if_pos h.2.symm]
    · rw [if_neg h, if_neg h]
      unfold partsR
      cases hp : Tp.partR s 1 with
      | bad er a =>
        refine ⟨0, ?_⟩
        have hb := part_bad hp
        unfold formS partsF Tp.firR
        simp only []
        rw [if_neg (by omega)]
      | ok q j =>
        unfold partsF Tp.firR
        simp only []
        by_cases hc : Sc.bt s j = 44
        · rw [if_pos hc, if_pos hc]
          cases hp2 : Tp.partR s (j + 1) with
          | bad er a =>
            refine ⟨0, ?_⟩
            have hb := part_bad hp2
            unfold formS partsS Tp.secR
            simp only []
            rw [if_neg (by omega)]
          | ok u l => exact ⟨2, rfl⟩
        · rw [if_neg hc, if_neg hc]
          exact ⟨1, rfl⟩
theorem draftC (b : Nat) (s : ByteArray) (w : World) (h : Cu w b s 0) (hs : s.size ≤ maxLen) (tp : TypeId) (p : Value) (hE : Hid (Ev tp p b w)) : Calls Tryd.prog 15 #[.pointer (some ⟨b, 0, none⟩)] w (frSays (Tp.formR s) b s w) := by
  unfold Tp.formR
  by_cases hk : Tp.kindR (Sc.bt s 0) = 0
  · rw [if_pos hk]
    exact draft_no b s w h hs tp p hE hk
  · rw [if_neg hk]
    have hle := Tp.kind_le (Sc.bt s 0)
    have hi : 1 ≤ s.size := by
      by_cases h0 : 0 < s.size
      · exact h0
      · exfalso; apply hk; rw [Sc.bt_off h0]; rfl
    obtain ⟨n, hn⟩ := body_sides s (Tp.kindR (Sc.bt s 0))
    rw [hn]
    cases hx : sidesR s (Tp.kindR (Sc.bt s 0)) with
    | mk P Q er a =>
      unfold formS
      simp only []
      by_cases he : er = 0
      · subst he
        rw [if_pos rfl]
        unfold Tp.endR
        by_cases ha : a = s.size
        · rw [if_pos ha]
          exact draft_ok b s w h hs tp p hE _ rfl hk ⟨by omega, hle⟩ hi P Q a hx (by simp; omega)
        · rw [if_neg ha]
          exact draft_more b s w h hs tp p hE _ rfl hk ⟨by omega, hle⟩ hi P Q a hx (by simp; omega)
      · rw [if_neg he]
        exact draft_bad b s w h hs tp p hE _ rfl hk ⟨by omega, hle⟩ hi P Q er a hx (by simp; omega)
end Go.Proofs.YteegbhnfkcbnoaaDoor
