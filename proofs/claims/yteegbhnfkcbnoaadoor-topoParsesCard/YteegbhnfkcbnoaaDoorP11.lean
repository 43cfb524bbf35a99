/- What Parse of package topo answers. -/
import Derived.Test.YteegbhnfkcbnoaaDoorP9
import Derived.Test.YteegbhnfkcbnoaaDoorP10
namespace Go.Proofs.YteegbhnfkcbnoaaDoor
open Go.RowKit
set_option linter.unusedVariables false
set_option linter.unusedSimpArgs false
set_option maxRecDepth 100000

theorem senseC (k l : Nat) (P Q : Tp.Pt) (w : World) (hT : Hid (Tf w)) (hk : k ≤ 5) : Calls Tryd.prog 17 #[.agg #[.int .u8 k, .int .i64 (P.pl : Nat), .int .i64 (P.len : Nat), .int .i64 (P.star : Nat), .int .i64 (P.sign : Nat), .int .i64 P.sh, .int .i64 (Q.pl : Nat), .int .i64 (Q.len : Nat), .int .i64 (Q.star : Nat), .int .i64 (Q.sign : Nat), .int .i64 Q.sh, .int .i64 (l : Nat)]] w fun e w' => e = .returned (.tuple #[.int .i64 ((Tp.senseR k P Q l).a : Nat), .int .i64 ((Tp.senseR k P Q l).e : Nat)]) ∧ w.grownBy w' none := by
  cases hp : ((P.len : Int) == 0) with
  | true =>
    cases hq : ((Q.len : Int) == 0) with
    | true => exact sense_00 k l P Q w hT hk hp hq
    | false => exact sense_0n k l P Q w hT hk hp hq
  | false =>
    cases hq : ((Q.len : Int) == 0) with
    | true => exact sense_n0 k l P Q w hT hk hp hq
    | false => exact sense_nn k l P Q w hT hk hp hq
/-- What Parse needs of the world. -/
def En (tp : TypeId) (p : Value) (w : World) : Prop := Er tp p w ∧ 7 < w.heap.size ∧ Tf w
theorem enK {tp : TypeId} {p : Value} {w w' : World} (h : Hid (En tp p w)) (hg : w.grownBy w' none) : Hid (En tp p w') :=
  ⟨h.out.1.below (gb_below hg) h.out.2.1, Nat.lt_of_lt_of_le h.out.2.1 hg.size, (tfK (show Hid (Tf w) from h.out.2.2) hg).out⟩
theorem ret_p3 {a b c d : Int} {x y : Array Value} (h : x = y) (h1 : a = c) (h2 : b = d) : Ending.returned (.tuple #[.agg x, .int .i64 a, .int .i64 b]) = .returned (.tuple #[.agg y, .int .i64 c, .int .i64 d]) := by rw [h, h1, h2]
def resV (r : Tp.Res) : Array Value := #[.int .u8 (r.k : Nat), .int .i64 (r.w : Nat), .int .i64 (r.h : Nat), .int .u8 (r.t : Nat), .int .i64 r.s]

theorem draftBad (b : Nat) (s : ByteArray) (w : World) (h : Cu w b s 0) (hs : s.size ≤ maxLen) (tp : TypeId) (p : Value) (hE : Hid (Ev tp p b w)) (er a : Nat) (hf : Hid (Tp.formR s = .bad er a)) : Calls Tryd.prog 15 #[.pointer (some ⟨b, 0, none⟩)] w fun e w' => e = .returned (.tuple #[.agg #[.int .u8 0, .int .i64 0, .int .i64 0, .int .i64 0, .int .i64 0, .int .i64 0, .int .i64 0, .int .i64 0, .int .i64 0, .int .i64 0, .int .i64 0, .int .i64 0], .int .i64 er]) ∧ Cu w' b s a ∧ w.grownBy w' (some b) := by
  have := draftC b s w h hs tp p hE
  rw [hf.out] at this
  exact this
theorem draftOk (b : Nat) (s : ByteArray) (w : World) (h : Cu w b s 0) (hs : s.size ≤ maxLen) (tp : TypeId) (p : Value) (hE : Hid (Ev tp p b w)) (k : Nat) (P Q : Tp.Pt) (n l : Nat) (hf : Hid (Tp.formR s = .ok k P Q n l)) : Calls Tryd.prog 15 #[.pointer (some ⟨b, 0, none⟩)] w fun e w' => e = .returned (.tuple #[.agg #[.int .u8 k, .int .i64 (P.pl : Nat), .int .i64 (P.len : Nat), .int .i64 (P.star : Nat), .int .i64 (P.sign : Nat), .int .i64 P.sh, .int .i64 (Q.pl : Nat), .int .i64 (Q.len : Nat), .int .i64 (Q.star : Nat), .int .i64 (Q.sign : Nat), .int .i64 Q.sh, .int .i64 (l : Nat)], .int .i64 0]) ∧ Cu w' b s l ∧ w.grownBy w' (some b) := by
  have := draftC b s w h hs tp p hE
  rw [hf.out] at this
  exact this

set_option maxHeartbeats 2000000 in
theorem tparse_long (s : ByteArray) (w : World) (hs : s.size ≤ maxLen) (tp : TypeId) (p : Value) (hE : Hid (En tp p w)) (hz : (1048576 : Int) < (s.size : Int)) : Calls Tryd.prog 7 #[.string s] w fun e w' => e = .returned (.tuple #[.agg #[.int .u8 0, .int .i64 0, .int .i64 0, .int .u8 0, .int .i64 0], .int .i64 0, .int .i64 3]) ∧ w.grownBy w' none := by
  obtain ⟨fs, hfs⟩ := underT
  obtain ⟨W1, hW1, sz1, g1, B1⟩ := boxn w #[.int .u8 0, .int .i64 0, .int .i64 0, .int .u8 0, .int .i64 0] 23
  have hE1 := enK hE g1
  have a0 := B1.cell 0 (v := .int .u8 0) rfl
  have a1 := B1.cell 1 (v := .int .i64 0) rfl
  have a2 := B1.cell 2 (v := .int .i64 0) rfl
  have a3 := B1.cell 3 (v := .int .u8 0) rfl
  have a4 := B1.cell 4 (v := .int .i64 0) rfl
  have b0 := B1.frozen 0
  have b1 := B1.frozen 1
  have b2 := B1.frozen 2
  have b3 := B1.frozen 3
  have b4 := B1.frozen 4
  have z0 := B1.same 0 (v := .int .u8 0) rfl
  have z1 := B1.same 1 (v := .int .i64 0) rfl
  have z2 := B1.same 2 (v := .int .i64 0) rfl
  have z3 := B1.same 3 (v := .int .u8 0) rfl
  have z4 := B1.same 4 (v := .int .i64 0) rfl
  go_enter Tryd.func7, Tryd.ntmps7
  go_wp2_with (first | fail)
  refine ret_c3 (g := w.heap.size) (cs := #[.int .u8 0, .int .i64 0, .int .i64 0, .int .u8 0, .int .i64 0]) rfl hfs infoT rfl B1 rfl ⟨rfl, g1⟩

set_option maxHeartbeats 2000000 in
theorem tparse_bad (s : ByteArray) (w : World) (hs : s.size ≤ maxLen) (tp : TypeId) (p : Value) (hE : Hid (En tp p w)) (hz : ¬ (1048576 : Int) < (s.size : Int)) (er a : Nat) (hf : Hid (Tp.formR s = .bad er a)) (hne : ((er : Int) == 0) = false) : Calls Tryd.prog 7 #[.string s] w fun e w' => e = .returned (.tuple #[.agg #[.int .u8 0, .int .i64 0, .int .i64 0, .int .u8 0, .int .i64 0], .int .i64 a, .int .i64 er]) ∧ w.grownBy w' none := by
  obtain ⟨fs, hfs⟩ := underT
  obtain ⟨W1, hW1, sz1, g1, B1⟩ := boxn w #[.int .u8 0, .int .i64 0, .int .i64 0, .int .u8 0, .int .i64 0] 23
  have hE1 := enK hE g1
  have a0 := B1.cell 0 (v := .int .u8 0) rfl
  have a1 := B1.cell 1 (v := .int .i64 0) rfl
  have a2 := B1.cell 2 (v := .int .i64 0) rfl
  have a3 := B1.cell 3 (v := .int .u8 0) rfl
  have a4 := B1.cell 4 (v := .int .i64 0) rfl
  have b0 := B1.frozen 0
  have b1 := B1.frozen 1
  have b2 := B1.frozen 2
  have b3 := B1.frozen 3
  have b4 := B1.frozen 4
  have z0 := B1.same 0 (v := .int .u8 0) rfl
  have z1 := B1.same 1 (v := .int .i64 0) rfl
  have z2 := B1.same 2 (v := .int .i64 0) rfl
  have z3 := B1.same 3 (v := .int .u8 0) rfl
  have z4 := B1.same 4 (v := .int .i64 0) rfl
  go_enter Tryd.func7, Tryd.ntmps7
  go_wp2_with (first | (go_at_call 14; refine (newC s _).mono ?_; rintro e w2 ⟨rfl, c2, g2⟩; have hE2 := enK hE1 g2; have BR2 := B1.kept g2 (by simp); have hEv : Hid (Ev tp p W1.heap.size w2) := ⟨hE2.out.1, hE1.out.2.1, c2.lt⟩; have HM : Hid (w.heap.size ≠ W1.heap.size) := (by have := sz1.out; unfold Hid; omega); have HG : Hid (w.heap.size < W1.heap.size) := (by have := sz1.out; unfold Hid; omega)) | (go_at_call 15; refine (draftBad _ s _ c2 hs tp p hEv er a hf).mono ?_; rintro e w3 ⟨rfl, c3, g3⟩; have BR3 := BR2.kept g3 (by intro hx; exact HM.out (Option.some.inj hx)); have G3 : w.grownBy w3 none := gb_past (gb_trans g1 g2) g3 (Nat.le_of_lt HG.out); have g4 : w3.grownBy (w3.alloc (.cells #[.int .u8 0, .int .i64 0, .int .i64 0, .int .i64 0, .int .i64 0, .int .i64 0, .int .i64 0, .int .i64 0, .int .i64 0, .int .i64 0, .int .i64 0, .int .i64 0] 40)) none := World.grownBy_alloc _ _ _; have c4 := c3.kept g4 (by simp); have BR4 := BR3.kept g4 (by simp); have G4 := gb_trans G3 g4; have r0 := BR4.cell 0 (v := .int .u8 0) rfl; have r1 := BR4.cell 1 (v := .int .i64 0) rfl; have r2 := BR4.cell 2 (v := .int .i64 0) rfl; have r3 := BR4.cell 3 (v := .int .u8 0) rfl; have r4 := BR4.cell 4 (v := .int .i64 0) rfl; have f0 := BR4.frozen 0; have f1 := BR4.frozen 1; have f2 := BR4.frozen 2; have f3 := BR4.frozen 3; have f4 := BR4.frozen 4; have z0 := BR4.same 0 (v := .int .u8 0) rfl; have z1 := BR4.same 1 (v := .int .i64 0) rfl; have z2 := BR4.same 2 (v := .int .i64 0) rfl; have z3 := BR4.same 3 (v := .int .u8 0) rfl; have z4 := BR4.same 4 (v := .int .i64 0) rfl) | (go_at_call 16; refine (atC _ _ _ _ c4).mono ?_; rintro e w' ⟨rfl, hw'⟩; subst w'))
  refine ret_c3 (g := w.heap.size) (cs := #[.int .u8 0, .int .i64 0, .int .i64 0, .int .u8 0, .int .i64 0]) rfl hfs infoT rfl BR4 rfl ⟨rfl, G4⟩

set_option maxHeartbeats 2000000 in
theorem parse_sense (s : ByteArray) (w : World) (hs : s.size ≤ maxLen) (tp : TypeId) (p : Value) (hE : Hid (En tp p w)) (hz : ¬ (1048576 : Int) < (s.size : Int)) (k : Nat) (P Q : Tp.Pt) (n l : Nat) (hf : Hid (Tp.formR s = .ok k P Q n l)) (hk : k ≤ 5) (hne : (((Tp.senseR k P Q l).e : Int) == 0) = false) : Calls Tryd.prog 7 #[.string s] w fun e w' => e = .returned (.tuple #[.agg #[.int .u8 0, .int .i64 0, .int .i64 0, .int .u8 0, .int .i64 0], .int .i64 ((Tp.senseR k P Q l).a : Nat), .int .i64 ((Tp.senseR k P Q l).e : Nat)]) ∧ w.grownBy w' none := by
  obtain ⟨fs, hfs⟩ := underT
  obtain ⟨W1, hW1, sz1, g1, B1⟩ := boxn w #[.int .u8 0, .int .i64 0, .int .i64 0, .int .u8 0, .int .i64 0] 23
  have hE1 := enK hE g1
  have a0 := B1.cell 0 (v := .int .u8 0) rfl
  have a1 := B1.cell 1 (v := .int .i64 0) rfl
  have a2 := B1.cell 2 (v := .int .i64 0) rfl
  have a3 := B1.cell 3 (v := .int .u8 0) rfl
  have a4 := B1.cell 4 (v := .int .i64 0) rfl
  have b0 := B1.frozen 0
  have b1 := B1.frozen 1
  have b2 := B1.frozen 2
  have b3 := B1.frozen 3
  have b4 := B1.frozen 4
  have z0 := B1.same 0 (v := .int .u8 0) rfl
  have z1 := B1.same 1 (v := .int .i64 0) rfl
  have z2 := B1.same 2 (v := .int .i64 0) rfl
  have z3 := B1.same 3 (v := .int .u8 0) rfl
  have z4 := B1.same 4 (v := .int .i64 0) rfl
  go_enter Tryd.func7, Tryd.ntmps7
  go_wp2_with (first | (go_at_call 14; refine (newC s _).mono ?_; rintro e w2 ⟨rfl, c2, g2⟩; have hE2 := enK hE1 g2; have BR2 := B1.kept g2 (by simp); have hEv : Hid (Ev tp p W1.heap.size w2) := ⟨hE2.out.1, hE1.out.2.1, c2.lt⟩; have HM : Hid (w.heap.size ≠ W1.heap.size) := (by have := sz1.out; unfold Hid; omega); have HG : Hid (w.heap.size < W1.heap.size) := (by have := sz1.out; unfold Hid; omega)) | (go_at_call 15; refine (draftOk _ s _ c2 hs tp p hEv k P Q n l hf).mono ?_; rintro e w3 ⟨rfl, c3, g3⟩; have BR3 := BR2.kept g3 (by intro hx; exact HM.out (Option.some.inj hx)); have G3 : w.grownBy w3 none := gb_past (gb_trans g1 g2) g3 (Nat.le_of_lt HG.out); obtain ⟨W4, hW4, sz4, g4, BD4⟩ := boxn w3 #[.int .u8 k, .int .i64 (P.pl : Nat), .int .i64 (P.len : Nat), .int .i64 (P.star : Nat), .int .i64 (P.sign : Nat), .int .i64 P.sh, .int .i64 (Q.pl : Nat), .int .i64 (Q.len : Nat), .int .i64 (Q.star : Nat), .int .i64 (Q.sign : Nat), .int .i64 Q.sh, .int .i64 (l : Nat)] 40; have BR4 := BR3.kept g4 (by simp); have G4 := gb_trans G3 g4; have hT4 : Hid (Tf W4) := (enK hE G4).out.2.2; have d0 := BD4.cell 0 (v := .int .u8 k) rfl; have d1 := BD4.cell 1 (v := .int .i64 (P.pl : Nat)) rfl; have d2 := BD4.cell 2 (v := .int .i64 (P.len : Nat)) rfl; have d3 := BD4.cell 3 (v := .int .i64 (P.star : Nat)) rfl; have d4 := BD4.cell 4 (v := .int .i64 (P.sign : Nat)) rfl; have d5 := BD4.cell 5 (v := .int .i64 P.sh) rfl; have d6 := BD4.cell 6 (v := .int .i64 (Q.pl : Nat)) rfl; have d7 := BD4.cell 7 (v := .int .i64 (Q.len : Nat)) rfl; have d8 := BD4.cell 8 (v := .int .i64 (Q.star : Nat)) rfl; have d9 := BD4.cell 9 (v := .int .i64 (Q.sign : Nat)) rfl; have d10 := BD4.cell 10 (v := .int .i64 Q.sh) rfl; have d11 := BD4.cell 11 (v := .int .i64 (l : Nat)) rfl) | (go_at_call 17; refine (senseC k l P Q _ hT4 hk).mono ?_; rintro e w5 ⟨rfl, g5⟩; have BR5 := BR4.kept g5 (by simp); have BD5 := BD4.kept g5 (by simp); have G5 := gb_trans G4 g5; have hT5 : Hid (Tf w5) := (enK hE G5).out.2.2; have e0 := BD5.cell 0 (v := .int .u8 k) rfl; have e1 := BD5.cell 1 (v := .int .i64 (P.pl : Nat)) rfl; have e2 := BD5.cell 2 (v := .int .i64 (P.len : Nat)) rfl; have e3 := BD5.cell 3 (v := .int .i64 (P.star : Nat)) rfl; have e4 := BD5.cell 4 (v := .int .i64 (P.sign : Nat)) rfl; have e5 := BD5.cell 5 (v := .int .i64 P.sh) rfl; have e6 := BD5.cell 6 (v := .int .i64 (Q.pl : Nat)) rfl; have e7 := BD5.cell 7 (v := .int .i64 (Q.len : Nat)) rfl; have e8 := BD5.cell 8 (v := .int .i64 (Q.star : Nat)) rfl; have e9 := BD5.cell 9 (v := .int .i64 (Q.sign : Nat)) rfl; have e10 := BD5.cell 10 (v := .int .i64 Q.sh) rfl; have e11 := BD5.cell 11 (v := .int .i64 (l : Nat)) rfl; have r0 := BR5.cell 0 (v := .int .u8 0) rfl; have r1 := BR5.cell 1 (v := .int .i64 0) rfl; have r2 := BR5.cell 2 (v := .int .i64 0) rfl; have r3 := BR5.cell 3 (v := .int .u8 0) rfl; have r4 := BR5.cell 4 (v := .int .i64 0) rfl; have f0 := BR5.frozen 0; have f1 := BR5.frozen 1; have f2 := BR5.frozen 2; have f3 := BR5.frozen 3; have f4 := BR5.frozen 4; have z0 := BR5.same 0 (v := .int .u8 0) rfl; have z1 := BR5.same 1 (v := .int .i64 0) rfl; have z2 := BR5.same 2 (v := .int .i64 0) rfl; have z3 := BR5.same 3 (v := .int .u8 0) rfl; have z4 := BR5.same 4 (v := .int .i64 0) rfl))
  refine ret_c3 (g := w.heap.size) (cs := #[.int .u8 0, .int .i64 0, .int .i64 0, .int .u8 0, .int .i64 0]) rfl hfs infoT rfl BR5 rfl ⟨rfl, G5⟩

set_option maxHeartbeats 2000000 in
theorem parse_ok (s : ByteArray) (w : World) (hs : s.size ≤ maxLen) (tp : TypeId) (p : Value) (hE : Hid (En tp p w)) (hz : ¬ (1048576 : Int) < (s.size : Int)) (k : Nat) (P Q : Tp.Pt) (n l : Nat) (hf : Hid (Tp.formR s = .ok k P Q n l)) (hk : k ≤ 5) (hne : (((Tp.senseR k P Q l).e : Int) == 0) = true) : Calls Tryd.prog 7 #[.string s] w fun e w' => e = .returned (.tuple #[.agg #[.int .u8 k, .int .i64 (P.len : Nat), .int .i64 (Q.len : Nat), .int .u8 ((Tp.topoR k P Q).t : Nat), .int .i64 (Tp.topoR k P Q).s], .int .i64 0, .int .i64 0]) ∧ w.grownBy w' none := by
  obtain ⟨fs, hfs⟩ := underT
  obtain ⟨W1, hW1, sz1, g1, B1⟩ := boxn w #[.int .u8 0, .int .i64 0, .int .i64 0, .int .u8 0, .int .i64 0] 23
  have hE1 := enK hE g1
  have a0 := B1.cell 0 (v := .int .u8 0) rfl
  have a1 := B1.cell 1 (v := .int .i64 0) rfl
  have a2 := B1.cell 2 (v := .int .i64 0) rfl
  have a3 := B1.cell 3 (v := .int .u8 0) rfl
  have a4 := B1.cell 4 (v := .int .i64 0) rfl
  have b0 := B1.frozen 0
  have b1 := B1.frozen 1
  have b2 := B1.frozen 2
  have b3 := B1.frozen 3
  have b4 := B1.frozen 4
  have z0 := B1.same 0 (v := .int .u8 0) rfl
  have z1 := B1.same 1 (v := .int .i64 0) rfl
  have z2 := B1.same 2 (v := .int .i64 0) rfl
  have z3 := B1.same 3 (v := .int .u8 0) rfl
  have z4 := B1.same 4 (v := .int .i64 0) rfl
  go_enter Tryd.func7, Tryd.ntmps7
  go_wp2_with (first | (go_at_call 14; refine (newC s _).mono ?_; rintro e w2 ⟨rfl, c2, g2⟩; have hE2 := enK hE1 g2; have BR2 := B1.kept g2 (by simp); have hEv : Hid (Ev tp p W1.heap.size w2) := ⟨hE2.out.1, hE1.out.2.1, c2.lt⟩; have HM : Hid (w.heap.size ≠ W1.heap.size) := (by have := sz1.out; unfold Hid; omega); have HG : Hid (w.heap.size < W1.heap.size) := (by have := sz1.out; unfold Hid; omega)) | (go_at_call 15; refine (draftOk _ s _ c2 hs tp p hEv k P Q n l hf).mono ?_; rintro e w3 ⟨rfl, c3, g3⟩; have BR3 := BR2.kept g3 (by intro hx; exact HM.out (Option.some.inj hx)); have G3 : w.grownBy w3 none := gb_past (gb_trans g1 g2) g3 (Nat.le_of_lt HG.out); obtain ⟨W4, hW4, sz4, g4, BD4⟩ := boxn w3 #[.int .u8 k, .int .i64 (P.pl : Nat), .int .i64 (P.len : Nat), .int .i64 (P.star : Nat), .int .i64 (P.sign : Nat), .int .i64 P.sh, .int .i64 (Q.pl : Nat), .int .i64 (Q.len : Nat), .int .i64 (Q.star : Nat), .int .i64 (Q.sign : Nat), .int .i64 Q.sh, .int .i64 (l : Nat)] 40; have BR4 := BR3.kept g4 (by simp); have G4 := gb_trans G3 g4; have hT4 : Hid (Tf W4) := (enK hE G4).out.2.2; have d0 := BD4.cell 0 (v := .int .u8 k) rfl; have d1 := BD4.cell 1 (v := .int .i64 (P.pl : Nat)) rfl; have d2 := BD4.cell 2 (v := .int .i64 (P.len : Nat)) rfl; have d3 := BD4.cell 3 (v := .int .i64 (P.star : Nat)) rfl; have d4 := BD4.cell 4 (v := .int .i64 (P.sign : Nat)) rfl; have d5 := BD4.cell 5 (v := .int .i64 P.sh) rfl; have d6 := BD4.cell 6 (v := .int .i64 (Q.pl : Nat)) rfl; have d7 := BD4.cell 7 (v := .int .i64 (Q.len : Nat)) rfl; have d8 := BD4.cell 8 (v := .int .i64 (Q.star : Nat)) rfl; have d9 := BD4.cell 9 (v := .int .i64 (Q.sign : Nat)) rfl; have d10 := BD4.cell 10 (v := .int .i64 Q.sh) rfl; have d11 := BD4.cell 11 (v := .int .i64 (l : Nat)) rfl) | (go_at_call 17; refine (senseC k l P Q _ hT4 hk).mono ?_; rintro e w5 ⟨rfl, g5⟩; have BR5 := BR4.kept g5 (by simp); have BD5 := BD4.kept g5 (by simp); have G5 := gb_trans G4 g5; have hT5 : Hid (Tf w5) := (enK hE G5).out.2.2; have e0 := BD5.cell 0 (v := .int .u8 k) rfl; have e1 := BD5.cell 1 (v := .int .i64 (P.pl : Nat)) rfl; have e2 := BD5.cell 2 (v := .int .i64 (P.len : Nat)) rfl; have e3 := BD5.cell 3 (v := .int .i64 (P.star : Nat)) rfl; have e4 := BD5.cell 4 (v := .int .i64 (P.sign : Nat)) rfl; have e5 := BD5.cell 5 (v := .int .i64 P.sh) rfl; have e6 := BD5.cell 6 (v := .int .i64 (Q.pl : Nat)) rfl; have e7 := BD5.cell 7 (v := .int .i64 (Q.len : Nat)) rfl; have e8 := BD5.cell 8 (v := .int .i64 (Q.star : Nat)) rfl; have e9 := BD5.cell 9 (v := .int .i64 (Q.sign : Nat)) rfl; have e10 := BD5.cell 10 (v := .int .i64 Q.sh) rfl; have e11 := BD5.cell 11 (v := .int .i64 (l : Nat)) rfl; have r0 := BR5.cell 0 (v := .int .u8 0) rfl; have r1 := BR5.cell 1 (v := .int .i64 0) rfl; have r2 := BR5.cell 2 (v := .int .i64 0) rfl; have r3 := BR5.cell 3 (v := .int .u8 0) rfl; have r4 := BR5.cell 4 (v := .int .i64 0) rfl; have f0 := BR5.frozen 0; have f1 := BR5.frozen 1; have f2 := BR5.frozen 2; have f3 := BR5.frozen 3; have f4 := BR5.frozen 4) | (go_at_call 18; refine (topoC k l P Q _ hT5).mono ?_; rintro e w6 ⟨rfl, g6⟩; have BR6 := BR5.kept g6 (by simp); have G6 := gb_trans G5 g6; have u0 := BR6.cell 0 (v := .int .u8 0) rfl; have u1 := BR6.cell 1 (v := .int .i64 0) rfl; have u2 := BR6.cell 2 (v := .int .i64 0) rfl; have u3 := BR6.cell 3 (v := .int .u8 0) rfl; have u4 := BR6.cell 4 (v := .int .i64 0) rfl; have v0 := BR6.frozen 0; have v1 := BR6.frozen 1; have v2 := BR6.frozen 2; have v3 := BR6.frozen 3; have v4 := BR6.frozen 4))
  refine ret_c3 (g := w.heap.size) (cs := #[.int .u8 k, .int .i64 (P.len : Nat), .int .i64 (Q.len : Nat), .int .u8 ((Tp.topoR k P Q).t : Nat), .int .i64 (Tp.topoR k P Q).s]) rfl hfs infoT rfl (bo5 BR6) rfl ⟨rfl, gb5 G6 (Nat.le_refl _)⟩

theorem form_k {s : ByteArray} {k : Nat} {P Q : Tp.Pt} {n l : Nat} (h : Tp.formR s = .ok k P Q n l) : k ≤ 5 := by
  have hle := Tp.kind_le (Sc.bt s 0)
  unfold Tp.formR at h
  split at h
  · cases h
  · obtain ⟨n', hn⟩ := body_sides s (Tp.kindR (Sc.bt s 0))
    rw [hn] at h
    unfold formS Tp.endR at h
    split at h
    · split at h
      · injection h with h1; omega
      · cases h
    · cases h
theorem topo_fields (k : Nat) (P Q : Tp.Pt) : (Tp.topoR k P Q).k = k ∧ (Tp.topoR k P Q).w = P.len ∧ (Tp.topoR k P Q).h = Q.len ∧ (Tp.topoR k P Q).a = 0 ∧ (Tp.topoR k P Q).e = 0 := by
  unfold Tp.topoR
  repeat' split
  all_goals exact ⟨rfl, rfl, rfl, rfl, rfl⟩
theorem form_bad {s : ByteArray} {er a : Nat} (h : Tp.formR s = .bad er a) : er ≠ 0 := by
  unfold Tp.formR at h
  split at h
  · injection h with h1; omega
  · obtain ⟨n', hn⟩ := body_sides s (Tp.kindR (Sc.bt s 0))
    rw [hn] at h
    unfold formS Tp.endR at h
    split at h
    · split at h
      · cases h
      · injection h with h1; omega
    · injection h with h1; omega
/-- Parse of every text. -/
theorem parseT (s : ByteArray) (w : World) (hs : s.size ≤ maxLen) (tp : TypeId) (p : Value) (hE : Hid (En tp p w)) : Calls Tryd.prog 7 #[.string s] w fun e w' => e = .returned (.tuple #[.agg (resV (Tp.parseR s)), .int .i64 ((Tp.parseR s).a : Nat), .int .i64 ((Tp.parseR s).e : Nat)]) ∧ w.grownBy w' none := by
  unfold Tp.parseR
  by_cases hz : 1048576 < s.size
  · rw [if_pos hz]
    exact tparse_long s w hs tp p hE (by omega)
  · rw [if_neg hz]
    cases hf : Tp.formR s with
    | bad er a =>
      have hb := form_bad hf
      exact tparse_bad s w hs tp p hE (by omega) er a hf (by simp; omega)
    | ok k P Q n l =>
      have hk := form_k hf
      change Calls _ _ _ _ fun e w' => e = .returned (.tuple #[.agg (resV (Tp.sayR k P Q l)), .int .i64 ((Tp.sayR k P Q l).a : Nat), .int .i64 ((Tp.sayR k P Q l).e : Nat)]) ∧ w.grownBy w' none
      unfold Tp.sayR
      by_cases he : (Tp.senseR k P Q l).e = 0
      · rw [if_pos he]
        obtain ⟨f1, f2, f3, f4, f5⟩ := topo_fields k P Q
        have := parse_ok s w hs tp p hE (by omega) k P Q n l hf hk (by simp; omega)
        unfold resV
        rw [f1, f2, f3, f4, f5]
        exact this
      · rw [if_neg he]
        exact parse_sense s w hs tp p hE (by omega) k P Q n l hf hk (by simp; omega)
end Go.Proofs.YteegbhnfkcbnoaaDoor
