/- LinearSteps: the walk. -/
import Derived.Test.YthgoillhjajanaaGreatN82
namespace Go.Proofs.YthgoillhjajanaaGreat
open Go.RowKit
set_option linter.unusedVariables false
set_option linter.unusedSimpArgs false
set_option maxRecDepth 100000

namespace Ln
theorem Rs.cast {x y t z : Int} {X A B : List Pt} (h : Rs x y t z X A) (e : Eqv (CE x y t z) A B) : Rs x y t z X B := ⟨h.nd, h.inn, h.st, h.eqv.trans e⟩
theorem step_eqv {x y t z : Int} (T : Ts x y t z) {P C X Y : List Pt} {i : Nat} (h : Rs x y t z X (mulL (pwL P i) C)) (h' : Rs x y t z Y (mulL P X)) : Rs x y t z Y (mulL (pwL P (i + 1)) C) := by
  have hG := gc_CE x y t z T.hx.1 T.hy.1
  exact h'.cast ((mulL_right hG P h.eqv).trans (mulL_assoc _ _ _ _).symm)
theorem leap_two {x y t z : Int} (T : Ts x y t z) {P C X Y Z : List Pt} {i j : Nat} (h : Rs x y t z X (mulL (pwL P i) C)) (h' : Rs x y t z Y (mulL (pwL P j) X)) (h'' : Rs x y t z Z (mulL (pwL P (i + j)) C)) : Y = Z := by
  have hG := gc_CE x y t z T.hx.1 T.hy.1
  have e := ((mulL_right hG (pwL P j) h.eqv).trans (mulL_assoc _ _ _ _).symm).trans (mulL_left hG (pw_add hG P i j) C)
  rw [Nat.add_comm j i] at e
  exact h'.eq h'' e
set_option maxHeartbeats 4000000 in
theorem steps_walk (a0 a1 a2 a3 : Int) (s1 : Option Addr) (n1 c1 : Nat) (f1 : Nat → Pt) (s2 : Option Addr) (n2 c2 : Nat) (f2 : Nat → Pt) (k far more : Int) (z1 : s1 = none → n1 = 0 ∧ c1 = 0) (m1 : n1 ≤ 8796093021952) (o1 : ∀ j, j < n1 → PtOk (f1 j)) (z2 : s2 = none → n2 = 0 ∧ c2 = 0) (m2 : n2 ≤ 8796093021952) (o2 : ∀ j, j < n2 → PtOk (f2 j)) (w : World) (H1 : Pl w s1 n1 f1) (H2 : Pl w s2 n2 f2) :
    Calls Tryz.prog 3 #[.agg #[.int .i64 a0, .int .i64 a1, .int .i64 a2, .int .i64 a3], .slice s1 n1 c1, .slice s2 n2 c2, .int .i64 k, .int .i64 far, .int .i64 more] w fun e w' => e = .returned (.bool true) ∧ Below w.heap.size w w' := by
  obtain ⟨W1, hW1, sz1, g1, B1⟩ := boxn w #[.int .i64 a0, .int .i64 a1, .int .i64 a2, .int .i64 a3] 23
  have kA := aliveC W1
  have kT := fun w1 => topoC a0 a1 a2 a3 w1
  have kO1 := fun w1 (g : w.grownBy w1 none) => onceC s1 n1 c1 f1 m1 12 (by omega) w1 (H1.kept g (by simp))
  have kC1 := fun w1 (g : w.grownBy w1 none) (x y t z : Int) hx hy => cellsC x y t z hx hy s2 n2 c2 f2 m2 w1 (H2.kept g (by simp))
  have kU := fun w1 => upG k 9 (by omega) (by omega) w1
  have hK := up_bd k 9 (by omega)
  obtain ⟨F, hF⟩ : ∃ j : Nat, k % 9 = (j : Int) := ⟨(k % 9).toNat, by omega⟩
  rw [hF] at kU hK
  have kU1 := fun w1 => upG far 562949953421312 (by omega) (by omega) w1
  have hK1 := up_bd far 562949953421312 (by omega)
  obtain ⟨F1, hF1⟩ : ∃ j : Nat, far % 562949953421312 = (j : Int) := ⟨(far % 562949953421312).toNat, by omega⟩
  rw [hF1] at kU1 hK1
  have kU2 := fun w1 => upG more 562949953421312 (by omega) (by omega) w1
  have hK2 := up_bd more 562949953421312 (by omega)
  obtain ⟨F2, hF2⟩ : ∃ j : Nat, more % 562949953421312 = (j : Int) := ⟨(more % 562949953421312).toNat, by omega⟩
  rw [hF2] at kU2 hK2
  have HF : Hid (F < 9 ∧ F1 < 562949953421312 ∧ F2 < 562949953421312) := by show _ ∧ _ ∧ _; omega
  have wsum : IntKind.i64.wrap ((F1 : Int) + (F2 : Int)) = ((F1 + F2 : Nat) : Int) := by rw [IntKind.wrap_i64]; omega
  clear z1 z2 o1 o2 H1 H2 m1 m2 hF hF1 hF2 hK1 hK2
  go_enter Tryz.func3, Tryz.ntmps3
  go_wp2_with (first | (go_at_call 7; refine kA.mono ?_; rintro e w1 ⟨rfl, g2⟩; clear kA; have B2 := B1.kept g2 (by simp); have b0 := B2.cell 0 (v := .int .i64 a0) rfl; have b1 := B2.cell 1 (v := .int .i64 a1) rfl; have b2 := B2.cell 2 (v := .int .i64 a2) rfl; have b3 := B2.cell 3 (v := .int .i64 a3) rfl) | (go_at_call 8; refine (kT _).mono ?_; rintro e w3 ⟨x, y, t, z, rfl, hT, hxy, g3⟩; clear kT; obtain ⟨W4, hW4, sz4, g4, B4⟩ := boxn w3 #[.int .u8 2, .int .i64 x, .int .i64 y, .int .u8 t, .int .i64 z] 27; have HT : Hid (Ts x y t z ∧ (x ≤ 12 ∧ y ≤ 12)) := ⟨hT, hxy⟩; clear hT hxy; have d0 := B4.cell 0 (v := .int .u8 2) rfl; have d1 := B4.cell 1 (v := .int .i64 x) rfl; have d2 := B4.cell 2 (v := .int .i64 y) rfl; have d3 := B4.cell 3 (v := .int .u8 t) rfl; have d4 := B4.cell 4 (v := .int .i64 z) rfl; have G4 := gb_trans g1 (gb_trans g2 (gb_trans g3 g4)); have kO1' := kO1 W4 G4; clear kO1) | (go_at_call 9; refine kO1'.mono ?_; rintro e w5 ⟨v5, Dd, rfl, own5, hO5, g5⟩; clear kO1'; have HD : Hid (Od 12 Dd) := hO5.od; obtain ⟨sd, cd, rfl, Pd, zd⟩ := own_shape0 own5 rfl; have Zd : Hid (sd = none → Dd.length = 0 ∧ cd = 0) := zd; clear own5 hO5 zd; have G5 := gb_trans G4 g5; have B6 := B4.kept g5 (by simp); have h0 := B6.cell 0 (v := .int .u8 2) rfl; have h1 := B6.cell 1 (v := .int .i64 x) rfl; have h2 := B6.cell 2 (v := .int .i64 y) rfl; have h3 := B6.cell 3 (v := .int .u8 t) rfl; have h4 := B6.cell 4 (v := .int .i64 z) rfl; have kC1' := kC1 w5 G5 x y t z ⟨HT.out.1.hx.1, HT.out.2.1⟩ ⟨HT.out.1.hy.1, HT.out.2.2⟩; clear kC1) | (go_at_call 10; refine kC1'.mono ?_; rintro e w7 ⟨v7, Da, rfl, own7, hn7, hi7, hl7, g7⟩; clear kC1'; have HA : Hid (Da.Nodup ∧ InT x y (To.fi x) (To.fi y) Da ∧ Da.length ≤ 400) := ⟨hn7, hi7, hl7⟩; obtain ⟨sa, ca, rfl, Pa, za⟩ := own_shape0 own7 rfl; have Za : Hid (sa = none → Da.length = 0 ∧ ca = 0) := za; clear own7 hn7 hi7 hl7 za; have Pd7 := Pd.kept g7 (by simp); have B7 := B6.kept g7 (by simp); have k0 := B7.cell 0 (v := .int .u8 2) rfl; have k1 := B7.cell 1 (v := .int .i64 x) rfl; have k2 := B7.cell 2 (v := .int .i64 y) rfl; have k3 := B7.cell 3 (v := .int .u8 t) rfl; have k4 := B7.cell 4 (v := .int .i64 z) rfl; have G7 := gb_trans G5 g7; have kJ0 := jumpX x y t z HT.out.1 sd cd Dd (HD.out.of (by omega)) Zd.out sa ca Da HA.out.1 HA.out.2.1 Za.out 0 (by omega) (lpL_50 0 (by omega)) w7 Pd7 Pa) | (go_at_call 11; refine kJ0.mono ?_; rintro e w8 ⟨v8, X0, rfl, own8, HR8, g8⟩; clear kJ0) | go_in)
  have B8 := B7.kept g8 (by simp)
  have Pd8 := Pd7.kept g8 (by simp)
  have Pa8 := Pa.kept g8 (by simp)
  have G8 := gb_trans G7 g8
  go_loopw [19, 17] (fun u v wr => ∃ (i : Nat) (X : List Pt) (ov : Value), i ≤ F ∧ u = .int .i64 i ∧ v = ov ∧ wr.ownsRow w7.heap.size 42 2 ov X.length (fl X) ∧ Hid (Rs x y t z X (mulL (pwL (Dd.map neg) i) Da)) ∧ w8.grownBy wr none) (fun u _ _ => F - (intOf u).toNat)
  case atStart => exact ⟨0, X0, _, Nat.zero_le _, rfl, rfl, own8, HR8.out, World.grownBy.refl _ _⟩
  case round =>
    obtain ⟨i, X, ov, hi, rfl, hov, own, HR, gi⟩ := hrel
    subst hov
    obtain ⟨sx, cx, rfl, Px, zx⟩ := own_shape0 own rfl
    have Bi := B8.kept gi (by simp)
    have m0 := Bi.cell 0 (v := .int .u8 2) rfl; have m1 := Bi.cell 1 (v := .int .i64 x) rfl; have m2 := Bi.cell 2 (v := .int .i64 y) rfl; have m3 := Bi.cell 3 (v := .int .u8 t) rfl; have m4 := Bi.cell 4 (v := .int .i64 z) rfl
    by_cases hlt : i < F
    · have hlt' : (i : Int) < (F : Int) := by omega
      have kN := nextX x y t z HT.out.1 sd cd Dd (HD.out.of (by omega)) Zd.out sx cx X HR.out.nd HR.out.inn zx wr (Pd8.kept gi (by simp)) Px
      have HS : Hid (∀ Y, Rs x y t z Y (mulL (Dd.map neg) X) → Rs x y t z Y (mulL (pwL (Dd.map neg) (i + 1)) Da)) := fun Y h => step_eqv HT.out.1 HR.out h
      clear zx Px own
      go_wp2_with (first | (go_at_call 12; refine (kU _).mono ?_; rintro e w9 ⟨rfl, hw9⟩; subst w9) | (go_at_call 13; refine kN.mono ?_; rintro e w10 ⟨v10, Y, rfl, own10, HR10, g10⟩; clear kN) | go_in)
      have gs := (gb_trans (gb_trans g8 gi) (World.grownBy.refl _ none)).size
      go_roundw
      case rel => exact ⟨i + 1, Y, v10, by omega, by go_num, rfl, own_less own10 gs, HS.out Y HR10.out, gb_trans gi g10⟩
      case measure => simp [intOf]; omega
    · obtain rfl : i = F := by omega
      have hlt' : ¬ (i : Int) < (i : Int) := by omega
      have HRX : Hid (Rs x y t z X (mulL (pwL (Dd.map neg) i) Da)) := HR.out
      clear zx own HR
      go_wp2_with (first | (go_at_call 12; refine (kU _).mono ?_; rintro e w9 ⟨rfl, hw9⟩; subst w9) | go_in)
      have gd : wr.grownBy wr.drew none := gb_drew (World.grownBy.refl _ none)
      have Bd := Bi.kept gd (by simp)
      have p0 := Bd.cell 0 (v := .int .u8 2) rfl; have p1 := Bd.cell 1 (v := .int .i64 x) rfl; have p2 := Bd.cell 2 (v := .int .i64 y) rfl; have p3 := Bd.cell 3 (v := .int .u8 t) rfl; have p4 := Bd.cell 4 (v := .int .i64 z) rfl
      have Pdd := (Pd8.kept gi (by simp)).kept gd (by simp)
      have Pad := (Pa8.kept gi (by simp)).kept gd (by simp)
      have kJ9 := jumpX x y t z HT.out.1 sd cd Dd (HD.out.of (by omega)) Zd.out sa ca Da HA.out.1 HA.out.2.1 Za.out i (by have := HF.out; omega) (lpL_50 i (by have := HF.out; omega)) wr.drew Pdd Pad
      go_region_held2 (fun w' => w'.cell? ⟨w3.heap.size, 0, none⟩ = some (.int .u8 2) ∧ w'.cell? ⟨w3.heap.size, 1, none⟩ = some (.int .i64 x) ∧ w'.cell? ⟨w3.heap.size, 2, none⟩ = some (.int .i64 y) ∧ w'.cell? ⟨w3.heap.size, 3, none⟩ = some (.int .u8 t) ∧ w'.cell? ⟨w3.heap.size, 4, none⟩ = some (.int .i64 z)) (go_keep) (first | (go_at_call 12; refine (kU _).mono ?_; rintro e w9 ⟨rfl, hw9⟩; subst w9) | (go_at_call 11; refine kJ9.mono ?_; rintro e w10 ⟨v10, AT, rfl, own10, HR10, g10⟩; clear kJ9; have heq : AT = X := HR10.out.eq HRX.out (Eqv.refl _ _); subst heq; obtain ⟨st, ct, rfl, Pt10, zt⟩ := own_shape0 own10 rfl; clear own10 zt; have B10 := Bd.kept g10 (by simp); have q0 := B10.cell 0 (v := .int .u8 2) rfl; have q1 := B10.cell 1 (v := .int .i64 x) rfl; have q2 := B10.cell 2 (v := .int .i64 y) rfl; have q3 := B10.cell 3 (v := .int .u8 t) rfl; have q4 := B10.cell 4 (v := .int .i64 z) rfl))
      have gd10 : w10.grownBy w10.drew none := gb_drew (World.grownBy.refl _ none)
      have B10d := B10.kept gd10 (by simp)
      have r0 := B10d.cell 0 (v := .int .u8 2) rfl; have r1 := B10d.cell 1 (v := .int .i64 x) rfl; have r2 := B10d.cell 2 (v := .int .i64 y) rfl; have r3 := B10d.cell 3 (v := .int .u8 t) rfl; have r4 := B10d.cell 4 (v := .int .i64 z) rfl
      have Pd10 := (Pdd.kept g10 (by simp)).kept gd10 (by simp)
      have Pa10 := (Pad.kept g10 (by simp)).kept gd10 (by simp)
      have kJ11 := jumpX x y t z HT.out.1 sd cd Dd (HD.out.of (by omega)) Zd.out sa ca Da HA.out.1 HA.out.2.1 Za.out F1 (by have := HF.out; omega) (lpL_50 F1 (by have := HF.out; omega)) w10.drew Pd10 Pa10
      go_wp2
      go_region_held2 (fun w' => w'.cell? ⟨w3.heap.size, 0, none⟩ = some (.int .u8 2) ∧ w'.cell? ⟨w3.heap.size, 1, none⟩ = some (.int .i64 x) ∧ w'.cell? ⟨w3.heap.size, 2, none⟩ = some (.int .i64 y) ∧ w'.cell? ⟨w3.heap.size, 3, none⟩ = some (.int .u8 t) ∧ w'.cell? ⟨w3.heap.size, 4, none⟩ = some (.int .i64 z)) (go_keep) (first | (go_at_call 12; refine (kU1 _).mono ?_; rintro e w9 ⟨rfl, hw9⟩; subst w9) | (go_at_call 11; refine kJ11.mono ?_; rintro e w11 ⟨v11, ON, rfl, own11, HR11, g11⟩; clear kJ11; obtain ⟨so, co, rfl, Po11, zo⟩ := own_shape0 own11 rfl; have Zo : Hid (so = none → ON.length = 0 ∧ co = 0) := zo; clear own11 zo; have B11 := B10d.kept g11 (by simp); have s0 := B11.cell 0 (v := .int .u8 2) rfl; have s1 := B11.cell 1 (v := .int .i64 x) rfl; have s2 := B11.cell 2 (v := .int .i64 y) rfl; have s3 := B11.cell 3 (v := .int .u8 t) rfl; have s4 := B11.cell 4 (v := .int .i64 z) rfl))
      have gd11 : w11.grownBy w11.drew none := gb_drew (World.grownBy.refl _ none)
      have B11d := B11.kept gd11 (by simp)
      have u0 := B11d.cell 0 (v := .int .u8 2) rfl; have u1 := B11d.cell 1 (v := .int .i64 x) rfl; have u2 := B11d.cell 2 (v := .int .i64 y) rfl; have u3 := B11d.cell 3 (v := .int .u8 t) rfl; have u4 := B11d.cell 4 (v := .int .i64 z) rfl
      have Pd11 := (Pd10.kept g11 (by simp)).kept gd11 (by simp)
      have Pa11 := (Pa10.kept g11 (by simp)).kept gd11 (by simp)
      have Po11d := Po11.kept gd11 (by simp)
      have kJ12 := jumpX x y t z HT.out.1 sd cd Dd (HD.out.of (by omega)) Zd.out so co ON HR11.out.nd HR11.out.inn Zo.out F2 (by have := HF.out; omega) (lpL_50 F2 (by have := HF.out; omega)) w11.drew Pd11 Po11d
      go_wp2
      go_region_held2 (fun w' => w'.cell? ⟨w3.heap.size, 0, none⟩ = some (.int .u8 2) ∧ w'.cell? ⟨w3.heap.size, 1, none⟩ = some (.int .i64 x) ∧ w'.cell? ⟨w3.heap.size, 2, none⟩ = some (.int .i64 y) ∧ w'.cell? ⟨w3.heap.size, 3, none⟩ = some (.int .u8 t) ∧ w'.cell? ⟨w3.heap.size, 4, none⟩ = some (.int .i64 z)) (go_keep) (first | (go_at_call 12; refine (kU2 _).mono ?_; rintro e w9 ⟨rfl, hw9⟩; subst w9) | (go_at_call 11; refine kJ12.mono ?_; rintro e w12 ⟨v12, TW, rfl, own12, HR12, g12⟩; clear kJ12; obtain ⟨stw, ctw, rfl, Pw12, zw⟩ := own_shape0 own12 rfl; clear own12 zw; have B12 := B11d.kept g12 (by simp); have x0 := B12.cell 0 (v := .int .u8 2) rfl; have x1 := B12.cell 1 (v := .int .i64 x) rfl; have x2 := B12.cell 2 (v := .int .i64 y) rfl; have x3 := B12.cell 3 (v := .int .u8 t) rfl; have x4 := B12.cell 4 (v := .int .i64 z) rfl))
      have gd12 : w12.grownBy w12.drew none := gb_drew (World.grownBy.refl _ none)
      have B12d := B12.kept gd12 (by simp)
      have y0 := B12d.cell 0 (v := .int .u8 2) rfl; have y1 := B12d.cell 1 (v := .int .i64 x) rfl; have y2 := B12d.cell 2 (v := .int .i64 y) rfl; have y3 := B12d.cell 3 (v := .int .u8 t) rfl; have y4 := B12d.cell 4 (v := .int .i64 z) rfl
      have Pd12 := (Pd11.kept g12 (by simp)).kept gd12 (by simp)
      have Pa12 := (Pa11.kept g12 (by simp)).kept gd12 (by simp)
      have kJ13 := jumpX x y t z HT.out.1 sd cd Dd (HD.out.of (by omega)) Zd.out sa ca Da HA.out.1 HA.out.2.1 Za.out (F1 + F2) (by have := HF.out; omega) (lpL_50 (F1 + F2) (by have := HF.out; omega)) w12.drew Pd12 Pa12
      have HTW : Hid (∀ B, Rs x y t z B (mulL (pwL (Dd.map neg) (F1 + F2)) Da) → B = TW) := fun B h => (leap_two HT.out.1 HR11.out HR12.out h).symm
      obtain ⟨FS, hFS⟩ : ∃ q : Nat, F1 + F2 = q := ⟨_, rfl⟩
      rw [hFS] at kJ13 wsum HTW
      clear hFS
      go_wp2
      go_region_held2 (fun w' => w'.cell? ⟨w3.heap.size, 0, none⟩ = some (.int .u8 2) ∧ w'.cell? ⟨w3.heap.size, 1, none⟩ = some (.int .i64 x) ∧ w'.cell? ⟨w3.heap.size, 2, none⟩ = some (.int .i64 y) ∧ w'.cell? ⟨w3.heap.size, 3, none⟩ = some (.int .u8 t) ∧ w'.cell? ⟨w3.heap.size, 4, none⟩ = some (.int .i64 z)) (go_keep) (first | (go_at_call 12; (fail_if_success (guard_hyp mk0)); refine (kU1 _).mono ?_; rintro e w9 ⟨rfl, hw9⟩; subst w9; have mk0 : True := trivial) | (go_at_call 12; guard_hyp mk0; refine (kU2 _).mono ?_; rintro e w9 ⟨rfl, hw9⟩; subst w9) | (go_at_call 11; refine kJ13.mono ?_; rintro e w13 ⟨v13, BO, rfl, own13, HR13, g13⟩; clear kJ13; have heq2 : BO = TW := HTW.out BO HR13.out; subst heq2; obtain ⟨sbo, cbo, rfl, Pb13, zb⟩ := own_shape0 own13 rfl; clear own13 zb; have B13 := B12d.kept g13 (by simp); have aa0 := B13.cell 0 (v := .int .u8 2) rfl; have aa1 := B13.cell 1 (v := .int .i64 x) rfl; have aa2 := B13.cell 2 (v := .int .i64 y) rfl; have aa3 := B13.cell 3 (v := .int .u8 t) rfl; have aa4 := B13.cell 4 (v := .int .i64 z) rfl))
      have gA : w10.grownBy w13 none := gb_trans gd10 (gb_trans g11 (gb_trans gd11 (gb_trans g12 (gb_trans gd12 g13))))
      have gX13 : wr.grownBy w13 none := gb_trans gd (gb_trans g10 gA)
      have gT : w12.grownBy w13 none := gb_trans gd12 g13
      have kS1 := same_refl AT (fun p hp => inT_bd HT.out.1.hx HT.out.1.hy HR10.out.inn hp) (in_len12 HT.out.1.hx.2 HT.out.1.hy.2 HR10.out.nd HR10.out.inn) st ct sx cx w13 (Pt10.kept gA (by simp)) (Px.kept gX13 (by simp))
      have kS2 := fun w14 (g14 : w13.grownBy w14 none) => same_refl BO (fun p hp => inT_bd HT.out.1.hx HT.out.1.hy HR13.out.inn hp) (in_len12 HT.out.1.hx.2 HT.out.1.hy.2 HR13.out.nd HR13.out.inn) stw ctw sbo cbo w14 ((Pw12.kept gT (by simp)).kept g14 (by simp)) (Pb13.kept g14 (by simp))
      clear Pd12 Pa12 Pd11 Pa11 Pd10 Pa10 Pdd Pad
      go_wp2_with (first | (go_at_call 14; refine kS1.mono ?_; rintro e w14 ⟨rfl, g14⟩; clear kS1; have kS3 := kS2 w14 g14; clear kS2) | (go_at_call 14; refine kS3.mono ?_; rintro e w15 ⟨rfl, g15⟩; clear kS3) | go_in)
      go_ret
      exact ⟨rfl, gb_below (gb_trans (gb_trans G8 gi) (gb_trans gX13 (gb_trans g14 g15)))⟩
end Ln
end Go.Proofs.YthgoillhjajanaaGreat
