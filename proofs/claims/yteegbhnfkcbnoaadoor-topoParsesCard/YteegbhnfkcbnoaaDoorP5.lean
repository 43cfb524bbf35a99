/- What takeSides and takeDraft of package topo answer. -/
import Derived.Test.YteegbhnfkcbnoaaDoorP4
import Derived.Deep.RegionWith
namespace Go.Proofs.YteegbhnfkcbnoaaDoor
open Go.RowKit
set_option linter.unusedVariables false
set_option linter.unusedSimpArgs false
set_option maxRecDepth 100000

/-- What is told of both sides: two parts, an error and its place, or 0 and where they end. -/
structure PS where
  P : Tp.Pt
  Q : Tp.Pt
  er : Nat
  a : Nat
def partsS (s : ByteArray) (q : Tp.Pt) : Tp.PR → PS
  | .bad er a => ⟨q, Tp.Pt.zero, er, a⟩
  | .ok u l => ⟨q, u, 0, l⟩
def partsF (s : ByteArray) : Tp.PR → PS
  | .bad er a => ⟨Tp.Pt.zero, Tp.Pt.zero, er, a⟩
  | .ok q j => if Sc.bt s j = 44 then partsS s q (Tp.partR s (j + 1)) else ⟨q, Tp.one q, 0, j⟩
def partsR (s : ByteArray) (i : Nat) : PS := partsF s (Tp.partR s i)
def sidesR (s : ByteArray) (k : Nat) : PS :=
  if k = 5 then (if 1 < Tp.dg s 1 then ⟨Tp.lenR s 1, Tp.lenR s 1, 0, Tp.dg s 1⟩ else ⟨Tp.Pt.zero, Tp.Pt.zero, 41, 1⟩)
  else if k ≤ 2 ∧ s.size = 1 then ⟨Tp.Pt.zero, Tp.Pt.zero, 0, 1⟩
  else partsR s 1
theorem partsC (b : Nat) (s : ByteArray) (i : Nat) (w : World) (h : Cu w b s i) (hi : i ≤ s.size) (hs : s.size ≤ maxLen) (tp : TypeId) (p : Value) (hE : Hid (Ev tp p b w)) (P Q : Tp.Pt) (er a : Nat) (hr : Hid (partsR s i = ⟨P, Q, er, a⟩)) : Calls Tryd.prog 52 #[.pointer (some ⟨b, 0, none⟩)] w fun e w' => e = .returned (.tuple #[.agg #[.int .i64 (P.pl : Nat), .int .i64 (P.len : Nat), .int .i64 (P.star : Nat), .int .i64 (P.sign : Nat), .int .i64 P.sh, .int .i64 (Q.pl : Nat), .int .i64 (Q.len : Nat), .int .i64 (Q.star : Nat), .int .i64 (Q.sign : Nat), .int .i64 Q.sh], .int .i64 er]) ∧ Cu w' b s a ∧ w.grownBy w' (some b) := by
  have h0 := hr.out
  unfold partsR at h0
  cases hp : Tp.partR s i with
  | bad er' a' =>
    rw [hp] at h0
    injection h0 with e1 e2 e3 e4
    subst e1; subst e2; subst e3; subst e4
    have hb := part_bad hp
    exact parts_bad b s i w h hi hs tp p hE er' a' hp (by simp; omega)
  | ok q j =>
    rw [hp] at h0
    have hj : j ≤ s.size := by have := part_le (s := s) hi; rw [hp] at this; exact this
    unfold partsF at h0
    by_cases hc : Sc.bt s j = 44
    · have hj1 : j + 1 ≤ s.size := lt_of_bt hc (by decide)
      simp only [] at h0
      rw [if_pos hc] at h0
      cases hp2 : Tp.partR s (j + 1) with
      | bad er' a' =>
        rw [hp2] at h0
        injection h0 with e1 e2 e3 e4
        subst e1; subst e2; subst e3; subst e4
        exact parts_twobad b s i w h hi hs tp p hE q j hp hj hc hj1 er' a' hp2
      | ok u l =>
        rw [hp2] at h0
        injection h0 with e1 e2 e3 e4
        subst e1; subst e2; subst e3; subst e4
        exact parts_two b s i w h hi hs tp p hE q j hp hj hc hj1 u l hp2
    · simp only [] at h0
      rw [if_neg hc] at h0
      injection h0 with e1 e2 e3 e4
      subst e1; subst e2; subst e3; subst e4
      exact parts_one b s i w h hi hs tp p hE q j hp hj hc

set_option maxHeartbeats 2000000 in
theorem sides_done1 (b : Nat) (s : ByteArray) (w : World) (h : Cu w b s 1) (hi : 1 ≤ s.size) (hs : s.size ≤ maxLen) (tp : TypeId) (p : Value) (hE : Hid (Ev tp p b w)) (hd : (((1 : Nat) : Int) == (s.size : Int)) = true) : Calls Tryd.prog 36 #[.pointer (some ⟨b, 0, none⟩), .int .u8 1] w fun e w' => e = .returned (.tuple #[.agg #[.int .i64 0, .int .i64 0, .int .i64 0, .int .i64 0, .int .i64 0, .int .i64 0, .int .i64 0, .int .i64 0, .int .i64 0, .int .i64 0], .int .i64 0]) ∧ Cu w' b s 1 ∧ w.grownBy w' (some b) := by
  obtain ⟨W1, hW1, sz1, g1, B1⟩ := boxn w #[.int .i64 0, .int .i64 0, .int .i64 0, .int .i64 0, .int .i64 0, .int .i64 0, .int .i64 0, .int .i64 0, .int .i64 0, .int .i64 0] 38
  have h1 := h.kept g1 (by simp)
  have hE1 := evK hE (gb_any g1)
  have HM1 : Hid (w.heap.size ≠ b) := by
    have := h.lt
    unfold Hid; omega
  have G1 : w.grownBy W1 (some b) := gb_any g1
  have rr0 := B1.cell 0 (v := .int .i64 0) rfl
  have rr1 := B1.cell 1 (v := .int .i64 0) rfl
  have rr2 := B1.cell 2 (v := .int .i64 0) rfl
  have rr3 := B1.cell 3 (v := .int .i64 0) rfl
  have rr4 := B1.cell 4 (v := .int .i64 0) rfl
  have rr5 := B1.cell 5 (v := .int .i64 0) rfl
  have rr6 := B1.cell 6 (v := .int .i64 0) rfl
  have rr7 := B1.cell 7 (v := .int .i64 0) rfl
  have rr8 := B1.cell 8 (v := .int .i64 0) rfl
  have rr9 := B1.cell 9 (v := .int .i64 0) rfl
  have ff0 := B1.frozen 0
  have ff1 := B1.frozen 1
  have ff2 := B1.frozen 2
  have ff3 := B1.frozen 3
  have ff4 := B1.frozen 4
  have ff5 := B1.frozen 5
  have ff6 := B1.frozen 6
  have ff7 := B1.frozen 7
  have ff8 := B1.frozen 8
  have ff9 := B1.frozen 9
  go_enter Tryd.func36, Tryd.ntmps36
  go_wp2_with (first | (go_at_call 37; refine (doneC _ _ _ _ h1).mono ?_; rintro e w' ⟨rfl, q1, hw'⟩; subst w'; have h2 : Cu (W1.drewN q1) b s 1 := h1.drew; have BR2 : Bo (W1.drewN q1) w.heap.size 38 #[.int .i64 0, .int .i64 0, .int .i64 0, .int .i64 0, .int .i64 0, .int .i64 0, .int .i64 0, .int .i64 0, .int .i64 0, .int .i64 0] := B1.drew; have G2 : w.grownBy (W1.drewN q1) (some b) := gb_drewN G1 _; have hE2 := evK hE G2; have r0 := BR2.cell 0 (v := .int .i64 0) rfl; have r1 := BR2.cell 1 (v := .int .i64 0) rfl; have r2 := BR2.cell 2 (v := .int .i64 0) rfl; have r3 := BR2.cell 3 (v := .int .i64 0) rfl; have r4 := BR2.cell 4 (v := .int .i64 0) rfl; have r5 := BR2.cell 5 (v := .int .i64 0) rfl; have r6 := BR2.cell 6 (v := .int .i64 0) rfl; have r7 := BR2.cell 7 (v := .int .i64 0) rfl; have r8 := BR2.cell 8 (v := .int .i64 0) rfl; have r9 := BR2.cell 9 (v := .int .i64 0) rfl; have f0 := BR2.frozen 0; have f1 := BR2.frozen 1; have f2 := BR2.frozen 2; have f3 := BR2.frozen 3; have f4 := BR2.frozen 4; have f5 := BR2.frozen 5; have f6 := BR2.frozen 6; have f7 := BR2.frozen 7; have f8 := BR2.frozen 8; have f9 := BR2.frozen 9; have z0 := BR2.same 0 (v := .int .i64 0) rfl; have z1 := BR2.same 1 (v := .int .i64 0) rfl; have z2 := BR2.same 2 (v := .int .i64 0) rfl; have z3 := BR2.same 3 (v := .int .i64 0) rfl; have z4 := BR2.same 4 (v := .int .i64 0) rfl; have z5 := BR2.same 5 (v := .int .i64 0) rfl; have z6 := BR2.same 6 (v := .int .i64 0) rfl; have z7 := BR2.same 7 (v := .int .i64 0) rfl; have z8 := BR2.same 8 (v := .int .i64 0) rfl; have z9 := BR2.same 9 (v := .int .i64 0) rfl))
  refine ret_a2 (g := w.heap.size) (cs := #[.int .i64 0, .int .i64 0, .int .i64 0, .int .i64 0, .int .i64 0, .int .i64 0, .int .i64 0, .int .i64 0, .int .i64 0, .int .i64 0]) rfl underA infoA rfl BR2 rfl ⟨ret_pi rfl rfl, h2, G2⟩

set_option maxHeartbeats 2000000 in
theorem sides_done2 (b : Nat) (s : ByteArray) (w : World) (h : Cu w b s 1) (hi : 1 ≤ s.size) (hs : s.size ≤ maxLen) (tp : TypeId) (p : Value) (hE : Hid (Ev tp p b w)) (hd : (((1 : Nat) : Int) == (s.size : Int)) = true) : Calls Tryd.prog 36 #[.pointer (some ⟨b, 0, none⟩), .int .u8 2] w fun e w' => e = .returned (.tuple #[.agg #[.int .i64 0, .int .i64 0, .int .i64 0, .int .i64 0, .int .i64 0, .int .i64 0, .int .i64 0, .int .i64 0, .int .i64 0, .int .i64 0], .int .i64 0]) ∧ Cu w' b s 1 ∧ w.grownBy w' (some b) := by
  obtain ⟨W1, hW1, sz1, g1, B1⟩ := boxn w #[.int .i64 0, .int .i64 0, .int .i64 0, .int .i64 0, .int .i64 0, .int .i64 0, .int .i64 0, .int .i64 0, .int .i64 0, .int .i64 0] 38
  have h1 := h.kept g1 (by simp)
  have hE1 := evK hE (gb_any g1)
  have HM1 : Hid (w.heap.size ≠ b) := by
    have := h.lt
    unfold Hid; omega
  have G1 : w.grownBy W1 (some b) := gb_any g1
  have rr0 := B1.cell 0 (v := .int .i64 0) rfl
  have rr1 := B1.cell 1 (v := .int .i64 0) rfl
  have rr2 := B1.cell 2 (v := .int .i64 0) rfl
  have rr3 := B1.cell 3 (v := .int .i64 0) rfl
  have rr4 := B1.cell 4 (v := .int .i64 0) rfl
  have rr5 := B1.cell 5 (v := .int .i64 0) rfl
  have rr6 := B1.cell 6 (v := .int .i64 0) rfl
  have rr7 := B1.cell 7 (v := .int .i64 0) rfl
  have rr8 := B1.cell 8 (v := .int .i64 0) rfl
  have rr9 := B1.cell 9 (v := .int .i64 0) rfl
  have ff0 := B1.frozen 0
  have ff1 := B1.frozen 1
  have ff2 := B1.frozen 2
  have ff3 := B1.frozen 3
  have ff4 := B1.frozen 4
  have ff5 := B1.frozen 5
  have ff6 := B1.frozen 6
  have ff7 := B1.frozen 7
  have ff8 := B1.frozen 8
  have ff9 := B1.frozen 9
  go_enter Tryd.func36, Tryd.ntmps36
  go_wp2_with (first | (go_at_call 37; refine (doneC _ _ _ _ h1).mono ?_; rintro e w' ⟨rfl, q1, hw'⟩; subst w'; have h2 : Cu (W1.drewN q1) b s 1 := h1.drew; have BR2 : Bo (W1.drewN q1) w.heap.size 38 #[.int .i64 0, .int .i64 0, .int .i64 0, .int .i64 0, .int .i64 0, .int .i64 0, .int .i64 0, .int .i64 0, .int .i64 0, .int .i64 0] := B1.drew; have G2 : w.grownBy (W1.drewN q1) (some b) := gb_drewN G1 _; have hE2 := evK hE G2; have r0 := BR2.cell 0 (v := .int .i64 0) rfl; have r1 := BR2.cell 1 (v := .int .i64 0) rfl; have r2 := BR2.cell 2 (v := .int .i64 0) rfl; have r3 := BR2.cell 3 (v := .int .i64 0) rfl; have r4 := BR2.cell 4 (v := .int .i64 0) rfl; have r5 := BR2.cell 5 (v := .int .i64 0) rfl; have r6 := BR2.cell 6 (v := .int .i64 0) rfl; have r7 := BR2.cell 7 (v := .int .i64 0) rfl; have r8 := BR2.cell 8 (v := .int .i64 0) rfl; have r9 := BR2.cell 9 (v := .int .i64 0) rfl; have f0 := BR2.frozen 0; have f1 := BR2.frozen 1; have f2 := BR2.frozen 2; have f3 := BR2.frozen 3; have f4 := BR2.frozen 4; have f5 := BR2.frozen 5; have f6 := BR2.frozen 6; have f7 := BR2.frozen 7; have f8 := BR2.frozen 8; have f9 := BR2.frozen 9; have z0 := BR2.same 0 (v := .int .i64 0) rfl; have z1 := BR2.same 1 (v := .int .i64 0) rfl; have z2 := BR2.same 2 (v := .int .i64 0) rfl; have z3 := BR2.same 3 (v := .int .i64 0) rfl; have z4 := BR2.same 4 (v := .int .i64 0) rfl; have z5 := BR2.same 5 (v := .int .i64 0) rfl; have z6 := BR2.same 6 (v := .int .i64 0) rfl; have z7 := BR2.same 7 (v := .int .i64 0) rfl; have z8 := BR2.same 8 (v := .int .i64 0) rfl; have z9 := BR2.same 9 (v := .int .i64 0) rfl))
  refine ret_a2 (g := w.heap.size) (cs := #[.int .i64 0, .int .i64 0, .int .i64 0, .int .i64 0, .int .i64 0, .int .i64 0, .int .i64 0, .int .i64 0, .int .i64 0, .int .i64 0]) rfl underA infoA rfl BR2 rfl ⟨ret_pi rfl rfl, h2, G2⟩

set_option maxHeartbeats 2000000 in
theorem sides_parts1 (b : Nat) (s : ByteArray) (w : World) (h : Cu w b s 1) (hi : 1 ≤ s.size) (hs : s.size ≤ maxLen) (tp : TypeId) (p : Value) (hE : Hid (Ev tp p b w)) (P Q : Tp.Pt) (er a : Nat) (hr : Hid (partsR s 1 = ⟨P, Q, er, a⟩)) (hd : (((1 : Nat) : Int) == (s.size : Int)) = false) : Calls Tryd.prog 36 #[.pointer (some ⟨b, 0, none⟩), .int .u8 1] w fun e w' => e = .returned (.tuple #[.agg #[.int .i64 (P.pl : Nat), .int .i64 (P.len : Nat), .int .i64 (P.star : Nat), .int .i64 (P.sign : Nat), .int .i64 P.sh, .int .i64 (Q.pl : Nat), .int .i64 (Q.len : Nat), .int .i64 (Q.star : Nat), .int .i64 (Q.sign : Nat), .int .i64 Q.sh], .int .i64 er]) ∧ Cu w' b s a ∧ w.grownBy w' (some b) := by
  obtain ⟨W1, hW1, sz1, g1, B1⟩ := boxn w #[.int .i64 0, .int .i64 0, .int .i64 0, .int .i64 0, .int .i64 0, .int .i64 0, .int .i64 0, .int .i64 0, .int .i64 0, .int .i64 0] 38
  have h1 := h.kept g1 (by simp)
  have hE1 := evK hE (gb_any g1)
  have HM1 : Hid (w.heap.size ≠ b) := by
    have := h.lt
    unfold Hid; omega
  have G1 : w.grownBy W1 (some b) := gb_any g1
  have rr0 := B1.cell 0 (v := .int .i64 0) rfl
  have rr1 := B1.cell 1 (v := .int .i64 0) rfl
  have rr2 := B1.cell 2 (v := .int .i64 0) rfl
  have rr3 := B1.cell 3 (v := .int .i64 0) rfl
  have rr4 := B1.cell 4 (v := .int .i64 0) rfl
  have rr5 := B1.cell 5 (v := .int .i64 0) rfl
  have rr6 := B1.cell 6 (v := .int .i64 0) rfl
  have rr7 := B1.cell 7 (v := .int .i64 0) rfl
  have rr8 := B1.cell 8 (v := .int .i64 0) rfl
  have rr9 := B1.cell 9 (v := .int .i64 0) rfl
  have ff0 := B1.frozen 0
  have ff1 := B1.frozen 1
  have ff2 := B1.frozen 2
  have ff3 := B1.frozen 3
  have ff4 := B1.frozen 4
  have ff5 := B1.frozen 5
  have ff6 := B1.frozen 6
  have ff7 := B1.frozen 7
  have ff8 := B1.frozen 8
  have ff9 := B1.frozen 9
  go_enter Tryd.func36, Tryd.ntmps36
  go_wp2_with (first | (go_at_call 37; refine (doneC _ _ _ _ h1).mono ?_; rintro e w' ⟨rfl, q1, hw'⟩; subst w'; have h2 : Cu (W1.drewN q1) b s 1 := h1.drew; have BR2 : Bo (W1.drewN q1) w.heap.size 38 #[.int .i64 0, .int .i64 0, .int .i64 0, .int .i64 0, .int .i64 0, .int .i64 0, .int .i64 0, .int .i64 0, .int .i64 0, .int .i64 0] := B1.drew; have G2 : w.grownBy (W1.drewN q1) (some b) := gb_drewN G1 _; have hE2 := evK hE G2; have r0 := BR2.cell 0 (v := .int .i64 0) rfl; have r1 := BR2.cell 1 (v := .int .i64 0) rfl; have r2 := BR2.cell 2 (v := .int .i64 0) rfl; have r3 := BR2.cell 3 (v := .int .i64 0) rfl; have r4 := BR2.cell 4 (v := .int .i64 0) rfl; have r5 := BR2.cell 5 (v := .int .i64 0) rfl; have r6 := BR2.cell 6 (v := .int .i64 0) rfl; have r7 := BR2.cell 7 (v := .int .i64 0) rfl; have r8 := BR2.cell 8 (v := .int .i64 0) rfl; have r9 := BR2.cell 9 (v := .int .i64 0) rfl; have f0 := BR2.frozen 0; have f1 := BR2.frozen 1; have f2 := BR2.frozen 2; have f3 := BR2.frozen 3; have f4 := BR2.frozen 4; have f5 := BR2.frozen 5; have f6 := BR2.frozen 6; have f7 := BR2.frozen 7; have f8 := BR2.frozen 8; have f9 := BR2.frozen 9) | (go_at_call 52; refine (partsC _ _ _ _ h2 hi hs tp p hE2 P Q er a hr).mono ?_; rintro e w3 ⟨rfl, h3, g3⟩; have G3 := gb_trans G2 g3; have BR3 := BR2.kept g3 (by intro hx; exact HM1.out (Option.some.inj hx)); have t0 := BR3.cell 0 (v := .int .i64 0) rfl; have t1 := BR3.cell 1 (v := .int .i64 0) rfl; have t2 := BR3.cell 2 (v := .int .i64 0) rfl; have t3 := BR3.cell 3 (v := .int .i64 0) rfl; have t4 := BR3.cell 4 (v := .int .i64 0) rfl; have t5 := BR3.cell 5 (v := .int .i64 0) rfl; have t6 := BR3.cell 6 (v := .int .i64 0) rfl; have t7 := BR3.cell 7 (v := .int .i64 0) rfl; have t8 := BR3.cell 8 (v := .int .i64 0) rfl; have t9 := BR3.cell 9 (v := .int .i64 0) rfl; have x0 := BR3.frozen 0; have x1 := BR3.frozen 1; have x2 := BR3.frozen 2; have x3 := BR3.frozen 3; have x4 := BR3.frozen 4; have x5 := BR3.frozen 5; have x6 := BR3.frozen 6; have x7 := BR3.frozen 7; have x8 := BR3.frozen 8; have x9 := BR3.frozen 9))
  refine ret_a2 (g := w.heap.size) (cs := #[.int .i64 (P.pl : Nat), .int .i64 (P.len : Nat), .int .i64 (P.star : Nat), .int .i64 (P.sign : Nat), .int .i64 P.sh, .int .i64 (Q.pl : Nat), .int .i64 (Q.len : Nat), .int .i64 (Q.star : Nat), .int .i64 (Q.sign : Nat), .int .i64 Q.sh]) rfl underA infoA rfl (bo10 BR3) rfl ⟨ret_pi rfl rfl, cu10 h3 HM1.out, gb10 G3 (Nat.le_refl _)⟩

set_option maxHeartbeats 2000000 in
theorem sides_parts2 (b : Nat) (s : ByteArray) (w : World) (h : Cu w b s 1) (hi : 1 ≤ s.size) (hs : s.size ≤ maxLen) (tp : TypeId) (p : Value) (hE : Hid (Ev tp p b w)) (P Q : Tp.Pt) (er a : Nat) (hr : Hid (partsR s 1 = ⟨P, Q, er, a⟩)) (hd : (((1 : Nat) : Int) == (s.size : Int)) = false) : Calls Tryd.prog 36 #[.pointer (some ⟨b, 0, none⟩), .int .u8 2] w fun e w' => e = .returned (.tuple #[.agg #[.int .i64 (P.pl : Nat), .int .i64 (P.len : Nat), .int .i64 (P.star : Nat), .int .i64 (P.sign : Nat), .int .i64 P.sh, .int .i64 (Q.pl : Nat), .int .i64 (Q.len : Nat), .int .i64 (Q.star : Nat), .int .i64 (Q.sign : Nat), .int .i64 Q.sh], .int .i64 er]) ∧ Cu w' b s a ∧ w.grownBy w' (some b) := by
  obtain ⟨W1, hW1, sz1, g1, B1⟩ := boxn w #[.int .i64 0, .int .i64 0, .int .i64 0, .int .i64 0, .int .i64 0, .int .i64 0, .int .i64 0, .int .i64 0, .int .i64 0, .int .i64 0] 38
  have h1 := h.kept g1 (by simp)
  have hE1 := evK hE (gb_any g1)
  have HM1 : Hid (w.heap.size ≠ b) := by
    have := h.lt
    unfold Hid; omega
  have G1 : w.grownBy W1 (some b) := gb_any g1
  have rr0 := B1.cell 0 (v := .int .i64 0) rfl
  have rr1 := B1.cell 1 (v := .int .i64 0) rfl
  have rr2 := B1.cell 2 (v := .int .i64 0) rfl
  have rr3 := B1.cell 3 (v := .int .i64 0) rfl
  have rr4 := B1.cell 4 (v := .int .i64 0) rfl
  have rr5 := B1.cell 5 (v := .int .i64 0) rfl
  have rr6 := B1.cell 6 (v := .int .i64 0) rfl
  have rr7 := B1.cell 7 (v := .int .i64 0) rfl
  have rr8 := B1.cell 8 (v := .int .i64 0) rfl
  have rr9 := B1.cell 9 (v := .int .i64 0) rfl
  have ff0 := B1.frozen 0
  have ff1 := B1.frozen 1
  have ff2 := B1.frozen 2
  have ff3 := B1.frozen 3
  have ff4 := B1.frozen 4
  have ff5 := B1.frozen 5
  have ff6 := B1.frozen 6
  have ff7 := B1.frozen 7
  have ff8 := B1.frozen 8
  have ff9 := B1.frozen 9
  go_enter Tryd.func36, Tryd.ntmps36
  go_wp2_with (first | (go_at_call 37; refine (doneC _ _ _ _ h1).mono ?_; rintro e w' ⟨rfl, q1, hw'⟩; subst w'; have h2 : Cu (W1.drewN q1) b s 1 := h1.drew; have BR2 : Bo (W1.drewN q1) w.heap.size 38 #[.int .i64 0, .int .i64 0, .int .i64 0, .int .i64 0, .int .i64 0, .int .i64 0, .int .i64 0, .int .i64 0, .int .i64 0, .int .i64 0] := B1.drew; have G2 : w.grownBy (W1.drewN q1) (some b) := gb_drewN G1 _; have hE2 := evK hE G2; have r0 := BR2.cell 0 (v := .int .i64 0) rfl; have r1 := BR2.cell 1 (v := .int .i64 0) rfl; have r2 := BR2.cell 2 (v := .int .i64 0) rfl; have r3 := BR2.cell 3 (v := .int .i64 0) rfl; have r4 := BR2.cell 4 (v := .int .i64 0) rfl; have r5 := BR2.cell 5 (v := .int .i64 0) rfl; have r6 := BR2.cell 6 (v := .int .i64 0) rfl; have r7 := BR2.cell 7 (v := .int .i64 0) rfl; have r8 := BR2.cell 8 (v := .int .i64 0) rfl; have r9 := BR2.cell 9 (v := .int .i64 0) rfl; have f0 := BR2.frozen 0; have f1 := BR2.frozen 1; have f2 := BR2.frozen 2; have f3 := BR2.frozen 3; have f4 := BR2.frozen 4; have f5 := BR2.frozen 5; have f6 := BR2.frozen 6; have f7 := BR2.frozen 7; have f8 := BR2.frozen 8; have f9 := BR2.frozen 9) | (go_at_call 52; refine (partsC _ _ _ _ h2 hi hs tp p hE2 P Q er a hr).mono ?_; rintro e w3 ⟨rfl, h3, g3⟩; have G3 := gb_trans G2 g3; have BR3 := BR2.kept g3 (by intro hx; exact HM1.out (Option.some.inj hx)); have t0 := BR3.cell 0 (v := .int .i64 0) rfl; have t1 := BR3.cell 1 (v := .int .i64 0) rfl; have t2 := BR3.cell 2 (v := .int .i64 0) rfl; have t3 := BR3.cell 3 (v := .int .i64 0) rfl; have t4 := BR3.cell 4 (v := .int .i64 0) rfl; have t5 := BR3.cell 5 (v := .int .i64 0) rfl; have t6 := BR3.cell 6 (v := .int .i64 0) rfl; have t7 := BR3.cell 7 (v := .int .i64 0) rfl; have t8 := BR3.cell 8 (v := .int .i64 0) rfl; have t9 := BR3.cell 9 (v := .int .i64 0) rfl; have x0 := BR3.frozen 0; have x1 := BR3.frozen 1; have x2 := BR3.frozen 2; have x3 := BR3.frozen 3; have x4 := BR3.frozen 4; have x5 := BR3.frozen 5; have x6 := BR3.frozen 6; have x7 := BR3.frozen 7; have x8 := BR3.frozen 8; have x9 := BR3.frozen 9))
  refine ret_a2 (g := w.heap.size) (cs := #[.int .i64 (P.pl : Nat), .int .i64 (P.len : Nat), .int .i64 (P.star : Nat), .int .i64 (P.sign : Nat), .int .i64 P.sh, .int .i64 (Q.pl : Nat), .int .i64 (Q.len : Nat), .int .i64 (Q.star : Nat), .int .i64 (Q.sign : Nat), .int .i64 Q.sh]) rfl underA infoA rfl (bo10 BR3) rfl ⟨ret_pi rfl rfl, cu10 h3 HM1.out, gb10 G3 (Nat.le_refl _)⟩

set_option maxHeartbeats 2000000 in
theorem sides_parts3 (b : Nat) (s : ByteArray) (w : World) (h : Cu w b s 1) (hi : 1 ≤ s.size) (hs : s.size ≤ maxLen) (tp : TypeId) (p : Value) (hE : Hid (Ev tp p b w)) (P Q : Tp.Pt) (er a : Nat) (hr : Hid (partsR s 1 = ⟨P, Q, er, a⟩)) : Calls Tryd.prog 36 #[.pointer (some ⟨b, 0, none⟩), .int .u8 3] w fun e w' => e = .returned (.tuple #[.agg #[.int .i64 (P.pl : Nat), .int .i64 (P.len : Nat), .int .i64 (P.star : Nat), .int .i64 (P.sign : Nat), .int .i64 P.sh, .int .i64 (Q.pl : Nat), .int .i64 (Q.len : Nat), .int .i64 (Q.star : Nat), .int .i64 (Q.sign : Nat), .int .i64 Q.sh], .int .i64 er]) ∧ Cu w' b s a ∧ w.grownBy w' (some b) := by
  obtain ⟨W1, hW1, sz1, g1, B1⟩ := boxn w #[.int .i64 0, .int .i64 0, .int .i64 0, .int .i64 0, .int .i64 0, .int .i64 0, .int .i64 0, .int .i64 0, .int .i64 0, .int .i64 0] 38
  have h1 := h.kept g1 (by simp)
  have hE1 := evK hE (gb_any g1)
  have HM1 : Hid (w.heap.size ≠ b) := by
    have := h.lt
    unfold Hid; omega
  have G1 : w.grownBy W1 (some b) := gb_any g1
  have rr0 := B1.cell 0 (v := .int .i64 0) rfl
  have rr1 := B1.cell 1 (v := .int .i64 0) rfl
  have rr2 := B1.cell 2 (v := .int .i64 0) rfl
  have rr3 := B1.cell 3 (v := .int .i64 0) rfl
  have rr4 := B1.cell 4 (v := .int .i64 0) rfl
  have rr5 := B1.cell 5 (v := .int .i64 0) rfl
  have rr6 := B1.cell 6 (v := .int .i64 0) rfl
  have rr7 := B1.cell 7 (v := .int .i64 0) rfl
  have rr8 := B1.cell 8 (v := .int .i64 0) rfl
  have rr9 := B1.cell 9 (v := .int .i64 0) rfl
  have ff0 := B1.frozen 0
  have ff1 := B1.frozen 1
  have ff2 := B1.frozen 2
  have ff3 := B1.frozen 3
  have ff4 := B1.frozen 4
  have ff5 := B1.frozen 5
  have ff6 := B1.frozen 6
  have ff7 := B1.frozen 7
  have ff8 := B1.frozen 8
  have ff9 := B1.frozen 9
  go_enter Tryd.func36, Tryd.ntmps36
  go_wp2_with (first | (go_at_call 52; refine (partsC _ _ _ _ h1 hi hs tp p hE1 P Q er a hr).mono ?_; rintro e w3 ⟨rfl, h3, g3⟩; have G3 := gb_trans G1 g3; have BR3 := B1.kept g3 (by intro hx; exact HM1.out (Option.some.inj hx)); have t0 := BR3.cell 0 (v := .int .i64 0) rfl; have t1 := BR3.cell 1 (v := .int .i64 0) rfl; have t2 := BR3.cell 2 (v := .int .i64 0) rfl; have t3 := BR3.cell 3 (v := .int .i64 0) rfl; have t4 := BR3.cell 4 (v := .int .i64 0) rfl; have t5 := BR3.cell 5 (v := .int .i64 0) rfl; have t6 := BR3.cell 6 (v := .int .i64 0) rfl; have t7 := BR3.cell 7 (v := .int .i64 0) rfl; have t8 := BR3.cell 8 (v := .int .i64 0) rfl; have t9 := BR3.cell 9 (v := .int .i64 0) rfl; have x0 := BR3.frozen 0; have x1 := BR3.frozen 1; have x2 := BR3.frozen 2; have x3 := BR3.frozen 3; have x4 := BR3.frozen 4; have x5 := BR3.frozen 5; have x6 := BR3.frozen 6; have x7 := BR3.frozen 7; have x8 := BR3.frozen 8; have x9 := BR3.frozen 9))
  refine ret_a2 (g := w.heap.size) (cs := #[.int .i64 (P.pl : Nat), .int .i64 (P.len : Nat), .int .i64 (P.star : Nat), .int .i64 (P.sign : Nat), .int .i64 P.sh, .int .i64 (Q.pl : Nat), .int .i64 (Q.len : Nat), .int .i64 (Q.star : Nat), .int .i64 (Q.sign : Nat), .int .i64 Q.sh]) rfl underA infoA rfl (bo10 BR3) rfl ⟨ret_pi rfl rfl, cu10 h3 HM1.out, gb10 G3 (Nat.le_refl _)⟩

set_option maxHeartbeats 2000000 in
theorem sides_parts4 (b : Nat) (s : ByteArray) (w : World) (h : Cu w b s 1) (hi : 1 ≤ s.size) (hs : s.size ≤ maxLen) (tp : TypeId) (p : Value) (hE : Hid (Ev tp p b w)) (P Q : Tp.Pt) (er a : Nat) (hr : Hid (partsR s 1 = ⟨P, Q, er, a⟩)) : Calls Tryd.prog 36 #[.pointer (some ⟨b, 0, none⟩), .int .u8 4] w fun e w' => e = .returned (.tuple #[.agg #[.int .i64 (P.pl : Nat), .int .i64 (P.len : Nat), .int .i64 (P.star : Nat), .int .i64 (P.sign : Nat), .int .i64 P.sh, .int .i64 (Q.pl : Nat), .int .i64 (Q.len : Nat), .int .i64 (Q.star : Nat), .int .i64 (Q.sign : Nat), .int .i64 Q.sh], .int .i64 er]) ∧ Cu w' b s a ∧ w.grownBy w' (some b) := by
  obtain ⟨W1, hW1, sz1, g1, B1⟩ := boxn w #[.int .i64 0, .int .i64 0, .int .i64 0, .int .i64 0, .int .i64 0, .int .i64 0, .int .i64 0, .int .i64 0, .int .i64 0, .int .i64 0] 38
  have h1 := h.kept g1 (by simp)
  have hE1 := evK hE (gb_any g1)
  have HM1 : Hid (w.heap.size ≠ b) := by
    have := h.lt
    unfold Hid; omega
  have G1 : w.grownBy W1 (some b) := gb_any g1
  have rr0 := B1.cell 0 (v := .int .i64 0) rfl
  have rr1 := B1.cell 1 (v := .int .i64 0) rfl
  have rr2 := B1.cell 2 (v := .int .i64 0) rfl
  have rr3 := B1.cell 3 (v := .int .i64 0) rfl
  have rr4 := B1.cell 4 (v := .int .i64 0) rfl
  have rr5 := B1.cell 5 (v := .int .i64 0) rfl
  have rr6 := B1.cell 6 (v := .int .i64 0) rfl
  have rr7 := B1.cell 7 (v := .int .i64 0) rfl
  have rr8 := B1.cell 8 (v := .int .i64 0) rfl
  have rr9 := B1.cell 9 (v := .int .i64 0) rfl
  have ff0 := B1.frozen 0
  have ff1 := B1.frozen 1
  have ff2 := B1.frozen 2
  have ff3 := B1.frozen 3
  have ff4 := B1.frozen 4
  have ff5 := B1.frozen 5
  have ff6 := B1.frozen 6
  have ff7 := B1.frozen 7
  have ff8 := B1.frozen 8
  have ff9 := B1.frozen 9
  go_enter Tryd.func36, Tryd.ntmps36
  go_wp2_with (first | (go_at_call 52; refine (partsC _ _ _ _ h1 hi hs tp p hE1 P Q er a hr).mono ?_; rintro e w3 ⟨rfl, h3, g3⟩; have G3 := gb_trans G1 g3; have BR3 := B1.kept g3 (by intro hx; exact HM1.out (Option.some.inj hx)); have t0 := BR3.cell 0 (v := .int .i64 0) rfl; have t1 := BR3.cell 1 (v := .int .i64 0) rfl; have t2 := BR3.cell 2 (v := .int .i64 0) rfl; have t3 := BR3.cell 3 (v := .int .i64 0) rfl; have t4 := BR3.cell 4 (v := .int .i64 0) rfl; have t5 := BR3.cell 5 (v := .int .i64 0) rfl; have t6 := BR3.cell 6 (v := .int .i64 0) rfl; have t7 := BR3.cell 7 (v := .int .i64 0) rfl; have t8 := BR3.cell 8 (v := .int .i64 0) rfl; have t9 := BR3.cell 9 (v := .int .i64 0) rfl; have x0 := BR3.frozen 0; have x1 := BR3.frozen 1; have x2 := BR3.frozen 2; have x3 := BR3.frozen 3; have x4 := BR3.frozen 4; have x5 := BR3.frozen 5; have x6 := BR3.frozen 6; have x7 := BR3.frozen 7; have x8 := BR3.frozen 8; have x9 := BR3.frozen 9))
  refine ret_a2 (g := w.heap.size) (cs := #[.int .i64 (P.pl : Nat), .int .i64 (P.len : Nat), .int .i64 (P.star : Nat), .int .i64 (P.sign : Nat), .int .i64 P.sh, .int .i64 (Q.pl : Nat), .int .i64 (Q.len : Nat), .int .i64 (Q.star : Nat), .int .i64 (Q.sign : Nat), .int .i64 Q.sh]) rfl underA infoA rfl (bo10 BR3) rfl ⟨ret_pi rfl rfl, cu10 h3 HM1.out, gb10 G3 (Nat.le_refl _)⟩

set_option maxHeartbeats 2000000 in
theorem sides_lenNo (b : Nat) (s : ByteArray) (w : World) (h : Cu w b s 1) (hi : 1 ≤ s.size) (hs : s.size ≤ maxLen) (tp : TypeId) (p : Value) (hE : Hid (Ev tp p b w)) (hn : Hid (¬ 1 < Tp.dg s 1)) : Calls Tryd.prog 36 #[.pointer (some ⟨b, 0, none⟩), .int .u8 5] w fun e w' => e = .returned (.tuple #[.agg #[.int .i64 0, .int .i64 0, .int .i64 0, .int .i64 0, .int .i64 0, .int .i64 0, .int .i64 0, .int .i64 0, .int .i64 0, .int .i64 0], .int .i64 41]) ∧ Cu w' b s 1 ∧ w.grownBy w' (some b) := by
  obtain ⟨W1, hW1, sz1, g1, B1⟩ := boxn w #[.int .i64 0, .int .i64 0, .int .i64 0, .int .i64 0, .int .i64 0, .int .i64 0, .int .i64 0, .int .i64 0, .int .i64 0, .int .i64 0] 38
  have h1 := h.kept g1 (by simp)
  have hE1 := evK hE (gb_any g1)
  have HM1 : Hid (w.heap.size ≠ b) := by
    have := h.lt
    unfold Hid; omega
  have G1 : w.grownBy W1 (some b) := gb_any g1
  have rr0 := B1.cell 0 (v := .int .i64 0) rfl
  have rr1 := B1.cell 1 (v := .int .i64 0) rfl
  have rr2 := B1.cell 2 (v := .int .i64 0) rfl
  have rr3 := B1.cell 3 (v := .int .i64 0) rfl
  have rr4 := B1.cell 4 (v := .int .i64 0) rfl
  have rr5 := B1.cell 5 (v := .int .i64 0) rfl
  have rr6 := B1.cell 6 (v := .int .i64 0) rfl
  have rr7 := B1.cell 7 (v := .int .i64 0) rfl
  have rr8 := B1.cell 8 (v := .int .i64 0) rfl
  have rr9 := B1.cell 9 (v := .int .i64 0) rfl
  have ff0 := B1.frozen 0
  have ff1 := B1.frozen 1
  have ff2 := B1.frozen 2
  have ff3 := B1.frozen 3
  have ff4 := B1.frozen 4
  have ff5 := B1.frozen 5
  have ff6 := B1.frozen 6
  have ff7 := B1.frozen 7
  have ff8 := B1.frozen 8
  have ff9 := B1.frozen 9
  go_enter Tryd.func36, Tryd.ntmps36
  go_wp2_with (first | (go_at_call 53; refine (takeLenNo _ _ _ _ h1 hi hs tp p hE1 hn).mono ?_; rintro e w2 ⟨rfl, h2, g2⟩; have G2 := gb_trans G1 g2; have BR2 := B1.kept g2 (by intro hx; exact HM1.out (Option.some.inj hx)); have g3 : w2.grownBy (w2.alloc (.cells #[.int .i64 0, .int .i64 0, .int .i64 0, .int .i64 0, .int .i64 0] 37)) none := World.grownBy_alloc _ _ _; have h3 := h2.kept g3 (by simp); have BR3 := BR2.kept g3 (by simp); have G3 := gb_trans G2 (gb_any (r := some b) g3); have t0 := BR3.cell 0 (v := .int .i64 0) rfl; have t1 := BR3.cell 1 (v := .int .i64 0) rfl; have t2 := BR3.cell 2 (v := .int .i64 0) rfl; have t3 := BR3.cell 3 (v := .int .i64 0) rfl; have t4 := BR3.cell 4 (v := .int .i64 0) rfl; have t5 := BR3.cell 5 (v := .int .i64 0) rfl; have t6 := BR3.cell 6 (v := .int .i64 0) rfl; have t7 := BR3.cell 7 (v := .int .i64 0) rfl; have t8 := BR3.cell 8 (v := .int .i64 0) rfl; have t9 := BR3.cell 9 (v := .int .i64 0) rfl; have x0 := BR3.frozen 0; have x1 := BR3.frozen 1; have x2 := BR3.frozen 2; have x3 := BR3.frozen 3; have x4 := BR3.frozen 4; have x5 := BR3.frozen 5; have x6 := BR3.frozen 6; have x7 := BR3.frozen 7; have x8 := BR3.frozen 8; have x9 := BR3.frozen 9; have z0 := BR3.same 0 (v := .int .i64 0) rfl; have z1 := BR3.same 1 (v := .int .i64 0) rfl; have z2 := BR3.same 2 (v := .int .i64 0) rfl; have z3 := BR3.same 3 (v := .int .i64 0) rfl; have z4 := BR3.same 4 (v := .int .i64 0) rfl; have z5 := BR3.same 5 (v := .int .i64 0) rfl; have z6 := BR3.same 6 (v := .int .i64 0) rfl; have z7 := BR3.same 7 (v := .int .i64 0) rfl; have z8 := BR3.same 8 (v := .int .i64 0) rfl; have z9 := BR3.same 9 (v := .int .i64 0) rfl))
  refine ret_a2 (g := w.heap.size) (cs := #[.int .i64 0, .int .i64 0, .int .i64 0, .int .i64 0, .int .i64 0, .int .i64 0, .int .i64 0, .int .i64 0, .int .i64 0, .int .i64 0]) rfl underA infoA rfl BR3 rfl ⟨ret_pi rfl rfl, h3, G3⟩

set_option maxHeartbeats 2000000 in
theorem sides_lenOk (b : Nat) (s : ByteArray) (w : World) (h : Cu w b s 1) (hi : 1 ≤ s.size) (hs : s.size ≤ maxLen) (tp : TypeId) (p : Value) (hE : Hid (Ev tp p b w)) (hn : Hid (1 < Tp.dg s 1)) : Calls Tryd.prog 36 #[.pointer (some ⟨b, 0, none⟩), .int .u8 5] w fun e w' => e = .returned (.tuple #[.agg #[.int .i64 1, .int .i64 (Tp.cap (Tp.num s 1) : Nat), .int .i64 0, .int .i64 0, .int .i64 0, .int .i64 1, .int .i64 (Tp.cap (Tp.num s 1) : Nat), .int .i64 0, .int .i64 0, .int .i64 0], .int .i64 0]) ∧ Cu w' b s (Tp.dg s 1) ∧ w.grownBy w' (some b) := by
  obtain ⟨W1, hW1, sz1, g1, B1⟩ := boxn w #[.int .i64 0, .int .i64 0, .int .i64 0, .int .i64 0, .int .i64 0, .int .i64 0, .int .i64 0, .int .i64 0, .int .i64 0, .int .i64 0] 38
  have h1 := h.kept g1 (by simp)
  have hE1 := evK hE (gb_any g1)
  have HM1 : Hid (w.heap.size ≠ b) := by
    have := h.lt
    unfold Hid; omega
  have G1 : w.grownBy W1 (some b) := gb_any g1
  have rr0 := B1.cell 0 (v := .int .i64 0) rfl
  have rr1 := B1.cell 1 (v := .int .i64 0) rfl
  have rr2 := B1.cell 2 (v := .int .i64 0) rfl
  have rr3 := B1.cell 3 (v := .int .i64 0) rfl
  have rr4 := B1.cell 4 (v := .int .i64 0) rfl
  have rr5 := B1.cell 5 (v := .int .i64 0) rfl
  have rr6 := B1.cell 6 (v := .int .i64 0) rfl
  have rr7 := B1.cell 7 (v := .int .i64 0) rfl
  have rr8 := B1.cell 8 (v := .int .i64 0) rfl
  have rr9 := B1.cell 9 (v := .int .i64 0) rfl
  have ff0 := B1.frozen 0
  have ff1 := B1.frozen 1
  have ff2 := B1.frozen 2
  have ff3 := B1.frozen 3
  have ff4 := B1.frozen 4
  have ff5 := B1.frozen 5
  have ff6 := B1.frozen 6
  have ff7 := B1.frozen 7
  have ff8 := B1.frozen 8
  have ff9 := B1.frozen 9
  go_enter Tryd.func36, Tryd.ntmps36
  go_wp2_with (first | (go_at_call 53; refine (takeLenOk _ _ _ _ h1 hi hs tp p hE1 hn).mono ?_; rintro e w2 ⟨rfl, h2, g2⟩; have G2 := gb_trans G1 g2; have BR2 := B1.kept g2 (by intro hx; exact HM1.out (Option.some.inj hx)); obtain ⟨W3, hW3, sz3, g3, BP3⟩ := boxn w2 #[.int .i64 1, .int .i64 (Tp.cap (Tp.num s 1) : Nat), .int .i64 0, .int .i64 0, .int .i64 0] 37; have h3 := h2.kept g3 (by simp); have BR3 := BR2.kept g3 (by simp); have G3 := gb_trans G2 (gb_any (r := some b) g3); have p0 := BP3.cell 0 (v := .int .i64 1) rfl; have p1 := BP3.cell 1 (v := .int .i64 (Tp.cap (Tp.num s 1) : Nat)) rfl; have p2 := BP3.cell 2 (v := .int .i64 0) rfl; have p3 := BP3.cell 3 (v := .int .i64 0) rfl; have p4 := BP3.cell 4 (v := .int .i64 0) rfl; have y0 := BP3.frozen 0; have y1 := BP3.frozen 1; have y2 := BP3.frozen 2; have y3 := BP3.frozen 3; have y4 := BP3.frozen 4; have t0 := BR3.cell 0 (v := .int .i64 0) rfl; have t1 := BR3.cell 1 (v := .int .i64 0) rfl; have t2 := BR3.cell 2 (v := .int .i64 0) rfl; have t3 := BR3.cell 3 (v := .int .i64 0) rfl; have t4 := BR3.cell 4 (v := .int .i64 0) rfl; have t5 := BR3.cell 5 (v := .int .i64 0) rfl; have t6 := BR3.cell 6 (v := .int .i64 0) rfl; have t7 := BR3.cell 7 (v := .int .i64 0) rfl; have t8 := BR3.cell 8 (v := .int .i64 0) rfl; have t9 := BR3.cell 9 (v := .int .i64 0) rfl; have x0 := BR3.frozen 0; have x1 := BR3.frozen 1; have x2 := BR3.frozen 2; have x3 := BR3.frozen 3; have x4 := BR3.frozen 4; have x5 := BR3.frozen 5; have x6 := BR3.frozen 6; have x7 := BR3.frozen 7; have x8 := BR3.frozen 8; have x9 := BR3.frozen 9; have z2 := BP3.same 2 (v := .int .i64 0) rfl; have z3 := BP3.same 3 (v := .int .i64 0) rfl; have z4 := BP3.same 4 (v := .int .i64 0) rfl))
  refine ret_a2 (g := w.heap.size) (cs := #[.int .i64 1, .int .i64 (Tp.cap (Tp.num s 1) : Nat), .int .i64 0, .int .i64 0, .int .i64 0, .int .i64 1, .int .i64 (Tp.cap (Tp.num s 1) : Nat), .int .i64 0, .int .i64 0, .int .i64 0]) rfl underA infoA rfl (bo10 BR3) rfl ⟨ret_pi rfl rfl, cu10 h3 HM1.out, gb10 G3 (Nat.le_refl _)⟩

theorem sidesC (b k : Nat) (s : ByteArray) (w : World) (h : Cu w b s 1) (hi : 1 ≤ s.size) (hs : s.size ≤ maxLen) (tp : TypeId) (p : Value) (hE : Hid (Ev tp p b w)) (hk : 1 ≤ k ∧ k ≤ 5) (P Q : Tp.Pt) (er a : Nat) (hr : Hid (sidesR s k = ⟨P, Q, er, a⟩)) : Calls Tryd.prog 36 #[.pointer (some ⟨b, 0, none⟩), .int .u8 k] w fun e w' => e = .returned (.tuple #[.agg #[.int .i64 (P.pl : Nat), .int .i64 (P.len : Nat), .int .i64 (P.star : Nat), .int .i64 (P.sign : Nat), .int .i64 P.sh, .int .i64 (Q.pl : Nat), .int .i64 (Q.len : Nat), .int .i64 (Q.star : Nat), .int .i64 (Q.sign : Nat), .int .i64 Q.sh], .int .i64 er]) ∧ Cu w' b s a ∧ w.grownBy w' (some b) := by
  have h0 := hr.out
  unfold sidesR at h0
  by_cases k5 : k = 5
  · subst k5
    rw [if_pos rfl] at h0
    by_cases hn : 1 < Tp.dg s 1
    · rw [if_pos hn] at h0
      injection h0 with e1 e2 e3 e4
      subst e1; subst e2; subst e3; subst e4
      exact sides_lenOk b s w h hi hs tp p hE hn
    · rw [if_neg hn] at h0
      injection h0 with e1 e2 e3 e4
      subst e1; subst e2; subst e3; subst e4
      exact sides_lenNo b s w h hi hs tp p hE hn
  · rw [if_neg k5] at h0
    by_cases hd : k ≤ 2 ∧ s.size = 1
    · rw [if_pos hd] at h0
      injection h0 with e1 e2 e3 e4
      subst e1; subst e2; subst e3; subst e4
      have hd1 : (((1 : Nat) : Int) == (s.size : Int)) = true := by simp; omega
      obtain h1 | h1 : k = 1 ∨ k = 2 := by omega
      · subst h1; exact sides_done1 b s w h hi hs tp p hE hd1
      · subst h1; exact sides_done2 b s w h hi hs tp p hE hd1
    · rw [if_neg hd] at h0
      obtain h1 | h1 | h1 | h1 : k = 1 ∨ k = 2 ∨ k = 3 ∨ k = 4 := by omega
      · subst h1; exact sides_parts1 b s w h hi hs tp p hE P Q er a h0 (by simp; omega)
      · subst h1; exact sides_parts2 b s w h hi hs tp p hE P Q er a h0 (by simp; omega)
      · subst h1; exact sides_parts3 b s w h hi hs tp p hE P Q er a h0
      · subst h1; exact sides_parts4 b s w h hi hs tp p hE P Q er a h0
end Go.Proofs.YteegbhnfkcbnoaaDoor
