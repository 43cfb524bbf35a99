/- LinearJumps: the walk. -/
import Derived.Test.YtbmpiddjakdebaaGreatNx
namespace Go.Proofs.YtbmpiddjakdebaaGreat
open Go.RowKit
set_option linter.unusedVariables false
set_option linter.unusedSimpArgs false
set_option maxRecDepth 100000

namespace Ln
/-- A list of places as it lies. -/
theorem list_of (n : Nat) (f : Nat → Pt) : ∃ D : List Pt, D.length = n ∧ ∀ j, j < n → D.getD j (0, 0) = f j := ⟨psL f n, psL_len _ _, fun j hj => psL_at _ _ j hj⟩
theorem Pl.as {w : World} {sp : Option Addr} {n : Nat} {f : Nat → Pt} (h : Pl w sp n f) {D : List Pt} (hl : D.length = n) (hD : ∀ j, j < n → D.getD j (0, 0) = f j) : Pl w sp D.length (fun k => D.getD k (0, 0)) := fun j hj => by
  obtain ⟨q, o, e, c0, c1⟩ := h j (by omega)
  refine ⟨q, o, e, ?_, ?_⟩
  · have e1 := hD j (by omega)
    simp only [e1]
    exact c0
  · have e1 := hD j (by omega)
    simp only [e1]
    exact c1
set_option maxHeartbeats 8000000 in
theorem jumps_walk (k x y t z : Int) (s1 : Option Addr) (n1 c1 : Nat) (f1 : Nat → Pt) (s2 : Option Addr) (n2 c2 : Nat) (f2 : Nat → Pt) (n : Int) (hk : 0 ≤ k ∧ k ≤ 255) (hx : -9223372036854775808 ≤ x ∧ x ≤ 9223372036854775807) (hy : -9223372036854775808 ≤ y ∧ y ≤ 9223372036854775807) (ht : 0 ≤ t ∧ t ≤ 255) (hz : -9223372036854775808 ≤ z ∧ z ≤ 9223372036854775807) (z1 : s1 = none → n1 = 0 ∧ c1 = 0) (m1 : n1 ≤ 8796093021952) (o1 : ∀ j, j < n1 → PtOk (f1 j)) (z2 : s2 = none → n2 = 0 ∧ c2 = 0) (m2 : n2 ≤ 8796093021952) (o2 : ∀ j, j < n2 → PtOk (f2 j)) (w : World) (H1 : Pl w s1 n1 f1) (H2 : Pl w s2 n2 f2) :
    Calls Tryz.prog 4 #[.agg #[.int .u8 k, .int .i64 x, .int .i64 y, .int .u8 t, .int .i64 z], .slice s1 n1 c1, .slice s2 n2 c2, .int .i64 n] w fun e w' => e = .returned (.bool true) ∧ Below w.heap.size w w' := by
  obtain ⟨W1, hW1, sz1, g1, B1⟩ := boxn w #[.int .u8 k, .int .i64 x, .int .i64 y, .int .u8 t, .int .i64 z] 23
  have kA := aliveC W1
  have kS := fun w1 => smallC k x y t z w1
  clear hk hx hy hz
  by_cases hs : smB x y = false
  · rw [hs] at kS
    clear z1 o1 z2 o2 H1 H2 ht m1 m2 hs
    go_enter Tryz.func4, Tryz.ntmps4
    go_wp2_with (first | (go_at_call 5; refine kA.mono ?_; rintro e w2 ⟨rfl, g2⟩; clear kA; have B2 := B1.kept g2 (by simp); have b0 := B2.cell 0 (v := .int .u8 k) rfl; have b1 := B2.cell 1 (v := .int .i64 x) rfl; have b2 := B2.cell 2 (v := .int .i64 y) rfl; have b3 := B2.cell 3 (v := .int .u8 t) rfl; have b4 := B2.cell 4 (v := .int .i64 z) rfl; have kS2 := kS w2; clear kS) | (go_at_call 6; refine kS2.mono ?_; rintro e w3 ⟨rfl, g3⟩; clear kS2) | go_in)
    go_ret
    exact ⟨rfl, gb_below (gb_trans g1 (gb_trans g2 g3))⟩
  have hs : smB x y = true := by cases e : smB x y with | true => rfl | false => exact absurd e hs
  have kS' := kS
  rw [hs] at kS
  clear kS'
  by_cases hb1 : 300 < n1
  · have hb' : (300 : Int) < (n1 : Int) := by omega
    clear z1 o1 z2 o2 H1 H2 ht hs
    go_enter Tryz.func4, Tryz.ntmps4
    go_wp2_with (first | (go_at_call 5; refine kA.mono ?_; rintro e w2 ⟨rfl, g2⟩; clear kA; have B2 := B1.kept g2 (by simp); have b0 := B2.cell 0 (v := .int .u8 k) rfl; have b1 := B2.cell 1 (v := .int .i64 x) rfl; have b2 := B2.cell 2 (v := .int .i64 y) rfl; have b3 := B2.cell 3 (v := .int .u8 t) rfl; have b4 := B2.cell 4 (v := .int .i64 z) rfl; have kS2 := kS w2; clear kS) | (go_at_call 6; refine kS2.mono ?_; rintro e w3 ⟨rfl, g3⟩; clear kS2) | go_in)
    go_ret
    exact ⟨rfl, gb_below (gb_trans g1 (gb_trans g2 g3))⟩
  have hb1' : ¬ (300 : Int) < (n1 : Int) := by omega
  by_cases hb2 : 3000 < n2
  · have hb' : (3000 : Int) < (n2 : Int) := by omega
    clear z1 o1 z2 o2 H1 H2 ht hs
    go_enter Tryz.func4, Tryz.ntmps4
    go_wp2_with (first | (go_at_call 5; refine kA.mono ?_; rintro e w2 ⟨rfl, g2⟩; clear kA; have B2 := B1.kept g2 (by simp); have b0 := B2.cell 0 (v := .int .u8 k) rfl; have b1 := B2.cell 1 (v := .int .i64 x) rfl; have b2 := B2.cell 2 (v := .int .i64 y) rfl; have b3 := B2.cell 3 (v := .int .u8 t) rfl; have b4 := B2.cell 4 (v := .int .i64 z) rfl; have kS2 := kS w2; clear kS) | (go_at_call 6; refine kS2.mono ?_; rintro e w3 ⟨rfl, g3⟩; clear kS2) | go_in)
    go_ret
    exact ⟨rfl, gb_below (gb_trans g1 (gb_trans g2 g3))⟩
  have hb2' : ¬ (3000 : Int) < (n2 : Int) := by omega
  obtain ⟨D, hDl, hDf⟩ := list_of n1 f1
  obtain ⟨C, hCl, hCf⟩ := list_of n2 f2
  have HO1 : Hid (∀ j, j < n1 → PtOk (f1 j)) := o1
  have HO2 : Hid (∀ j, j < n2 → PtOk (f2 j)) := o2
  have oD : ∀ j, j < D.length → PtOk (D.getD j (0, 0)) := fun j hj => by rw [hDf j (by omega)]; exact o1 j (by omega)
  have oC : ∀ j, j < C.length → PtOk (C.getD j (0, 0)) := fun j hj => by rw [hCf j (by omega)]; exact o2 j (by omega)
  have kX := fun w1 (g1 : w.grownBy w1 none) => lentC s1 n1 c1 f1 (by omega) z1 w1 (H1.kept g1 (by simp))
  have kY := fun w1 (g1 : w.grownBy w1 none) => lentC s2 n2 c2 f2 (by omega) z2 w1 (H2.kept g1 (by simp))
  have kRJ := fun w1 (g1 : w.grownBy w1 none) => jumpDL k x y t z ht.1 s1 c1 D oD (by omega) (fun e => by have := z1 e; omega) s2 c2 C oC (by omega) (fun e => by have := z2 e; omega) n w1 ((H1.kept g1 (by simp)).as hDl hDf) ((H2.kept g1 (by simp)).as hCl hCf)
  have kRP := fun w1 (g1 : w.grownBy w1 none) => powerDL k x y t z ht.1 s1 c1 D oD (by omega) (fun e => by have := z1 e; omega) n w1 ((H1.kept g1 (by simp)).as hDl hDf)
  have kPJ := fun w1 gx cx bx gy cy by_ (X : Le w1 bx gx cx n1 f1) (Y : Le w1 by_ gy cy n2 f2) => jumpPL k x y t z ht.1 (some ⟨gx, 0, none⟩) cx D oD (by omega) (fun e => by cases e) (some ⟨gy, 0, none⟩) cy C oC (by omega) (fun e => by cases e) n w1 (X.pl.as hDl hDf) (Y.pl.as hCl hCf)
  have kPP := fun w1 gx cx bx (X : Le w1 bx gx cx n1 f1) => powerPL k x y t z ht.1 (some ⟨gx, 0, none⟩) cx D oD (by omega) (fun e => by cases e) n w1 (X.pl.as hDl hDf)
  have kK1 := fun w1 (g1 : w.grownBy w1 none) gx cx bx (X : Le w1 bx gx cx n1 f1) => keptC gx cx n1 bx f1 HO1.out (by omega) s1 c1 w1 X (H1.kept g1 (by simp))
  have kK2 := fun w1 (g1 : w.grownBy w1 none) gy cy by_ (Y : Le w1 by_ gy cy n2 f2) => keptC gy cy n2 by_ f2 HO2.out (by omega) s2 c2 w1 Y (H2.kept g1 (by simp))
  have HOJ : Hid (∀ X, An x y t z (jpE k x y t z (fun k => D.getD k (0, 0)) D.length (fun k => C.getD k (0, 0)) C.length n) (mulL (pwL (D.map neg) n.toNat) C) X → Okp X) := fun X h => an_ok hs h
  have HOP : Hid (∀ X, An x y t z (jpE k x y t z (fun k => D.getD k (0, 0)) D.length (fun k => ([(0, 0)] : List Pt).getD k (0, 0)) ([(0, 0)] : List Pt).length n) (mulL (pwL (D.map neg) n.toNat) ([(0, 0)] : List Pt)) X → Okp X) := fun X h => an_ok hs h
  generalize (jpE k x y t z (fun k => D.getD k (0, 0)) D.length (fun k => C.getD k (0, 0)) C.length n) = eJ at kRJ kPJ HOJ
  generalize (jpE k x y t z (fun k => D.getD k (0, 0)) D.length (fun k => ([(0, 0)] : List Pt).getD k (0, 0)) ([(0, 0)] : List Pt).length n) = eP at kRP kPP HOP
  generalize mulL (pwL (D.map neg) n.toNat) C = AJ at kRJ kPJ HOJ
  generalize mulL (pwL (D.map neg) n.toNat) ([(0, 0)] : List Pt) = AP at kRP kPP HOP
  rw [hDl, hCl] at kRJ kPJ
  rw [hDl] at kRP kPP
  clear o1 o2 z1 z2 oD oC hDf hCf hDl hCl ht hs
  have kSt := fun w1 (g1 : w.grownBy w1 none) gv uv b base (hb : w.heap.size ≤ b) V U P (hB : Bk w1 base b gv uv V U P) (hN : V.length < 100) (hP : ∀ i, Okp (P i)) => standsC w w1 g1 base b hb gv uv V U P hB hN (fun i _ => ⟨by have := (hP i).1; omega, (hP i).2⟩)
  go_enter Tryz.func4, Tryz.ntmps4
  go_wp2_with (first | (go_at_call 5; refine kA.mono ?_; rintro e w2 ⟨rfl, g2⟩; clear kA; have B2 := B1.kept g2 (by simp); have b0 := B2.cell 0 (v := .int .u8 k) rfl; have b1 := B2.cell 1 (v := .int .i64 x) rfl; have b2 := B2.cell 2 (v := .int .i64 y) rfl; have b3 := B2.cell 3 (v := .int .u8 t) rfl; have b4 := B2.cell 4 (v := .int .i64 z) rfl; have kS2 := kS w2; clear kS) | (go_at_call 6; refine kS2.mono ?_; rintro e w3 ⟨rfl, g3⟩; clear kS2; clear b0 b1 b2 b3 b4; have G3 := gb_trans g1 (gb_trans g2 g3); have B3 := B2.kept g3 (by simp); have kX3 := kX w3 G3; clear kX) | (go_at_call 7; refine kX3.mono ?_; rintro e w4 ⟨gx, cx, rfl, X4, g4⟩; clear kX3; have G4 := gb_trans G3 g4; have kY4 := kY w4 G4; clear kY; have B4 := B3.kept g4 (by simp)) | (go_at_call 7; refine kY4.mono ?_; rintro e w5 ⟨gy, cy, rfl, Y5, g5⟩; clear kY4; have G5 := gb_trans G4 g5; have X5 := X4.kept g5 (by simp); obtain ⟨W6, hW6, sz6, g6, B6⟩ := boxn w5 #[.slice none 0 0, .slice none 0 0, .bool false] 31; have hBk6 := Bk.made B6; have G6 := gb_trans G5 g6; have BT6 := (B4.kept g5 (by simp)).kept g6 (by simp); have c0 := BT6.cell 0 (v := .int .u8 k) rfl; have c1 := BT6.cell 1 (v := .int .i64 x) rfl; have c2 := BT6.cell 2 (v := .int .i64 y) rfl; have c3 := BT6.cell 3 (v := .int .u8 t) rfl; have c4 := BT6.cell 4 (v := .int .i64 z) rfl; have kR6 := kRJ W6 G6; clear kRJ) | (go_at_call 13; refine kR6.mono ?_; rintro e w7 ⟨u1, X1, rfl, ou1, HN1, g7⟩; clear kR6; clear c0 c1 c2 c3 c4; have BT7 := BT6.kept g7 (by simp); have d0 := BT7.cell 0 (v := .int .u8 k) rfl; have d1 := BT7.cell 1 (v := .int .i64 x) rfl; have d2 := BT7.cell 2 (v := .int .i64 y) rfl; have d3 := BT7.cell 3 (v := .int .u8 t) rfl; have d4 := BT7.cell 4 (v := .int .i64 z) rfl; have kP7 := kPJ w7 gx cx _ gy cy _ ((X5.kept g6 (by simp)).kept g7 (by simp)) ((Y5.kept g6 (by simp)).kept g7 (by simp))) | (go_at_call 14; refine kP7.mono ?_; rintro e w8 ⟨v1, X1', rfl, ov1, HN1', g8⟩; clear kP7; clear d0 d1 d2 d3 d4; have heq : X1' = X1 := HN1'.out.eq HN1.out; subst heq; have HV1 : Hid (Okp X1') := HOJ.out X1' HN1.out; have kD8 := addsF w5 W6 w7 w8 g6 W6.heap.size w5.heap.size (Nat.le_refl _) _ _ [] [] _ hBk6 (by decide) g7 g8 v1 u1 X1' ou1 ov1 HV1.out eJ; have BT8 := BT7.kept g8 (by simp)) | (go_at_call 10; refine kD8.mono ?_; rintro e w9 ⟨rfl, gv9, uv9, hBk9, g9⟩; clear kD8; have BT9 := (B4.kept g5 (by simp)).kept g9 (by simp); have f0 := BT9.cell 0 (v := .int .u8 k) rfl; have f1 := BT9.cell 1 (v := .int .i64 x) rfl; have f2 := BT9.cell 2 (v := .int .i64 y) rfl; have f3 := BT9.cell 3 (v := .int .u8 t) rfl; have f4 := BT9.cell 4 (v := .int .i64 z) rfl; have kR9 := kRP w9 (gb_trans G5 g9); clear kRP) | (go_at_call 15; refine kR9.mono ?_; rintro e w10 ⟨u2, X2, rfl, ou2, HN2, g10⟩; clear kR9; clear f0 f1 f2 f3 f4; have BT10 := BT9.kept g10 (by simp); have h0 := BT10.cell 0 (v := .int .u8 k) rfl; have h1 := BT10.cell 1 (v := .int .i64 x) rfl; have h2 := BT10.cell 2 (v := .int .i64 y) rfl; have h3 := BT10.cell 3 (v := .int .u8 t) rfl; have h4 := BT10.cell 4 (v := .int .i64 z) rfl; have kP10 := kPP w10 gx cx _ ((X5.kept g9 (by simp)).kept g10 (by simp))) | (go_at_call 16; refine kP10.mono ?_; rintro e w11 ⟨v2, X2', rfl, ov2, HN2', g11⟩; clear kP10; clear h0 h1 h2 h3 h4; have heq : X2' = X2 := HN2'.out.eq HN2.out; subst heq; have HV2 : Hid (Okp X2') := HOP.out X2' HN2.out; have kD11 := addsF w5 w9 w10 w11 g9 W6.heap.size w5.heap.size (Nat.le_refl _) _ _ _ _ _ hBk9 (by simp) g10 g11 v2 u2 X2' ou2 ov2 HV2.out eP) | (go_at_call 10; refine kD11.mono ?_; rintro e w12 ⟨rfl, gv12, uv12, hBk12, g12⟩; clear kD11; have BT12 := (B4.kept g5 (by simp)).kept g12 (by simp); have i0 := BT12.cell 0 (v := .int .u8 k) rfl; have i1 := BT12.cell 1 (v := .int .i64 x) rfl; have i2 := BT12.cell 2 (v := .int .i64 y) rfl; have i3 := BT12.cell 3 (v := .int .u8 t) rfl; have i4 := BT12.cell 4 (v := .int .i64 z) rfl; have kP12 := kPJ w12 gx cx _ gy cy _ (X5.kept g12 (by simp)) (Y5.kept g12 (by simp)); clear kPJ) | (go_at_call 14; refine kP12.mono ?_; rintro e w13 ⟨v3, X3, rfl, ov3, HN3, g13⟩; clear kP12; clear i0 i1 i2 i3 i4; have heq : X3 = X1' := HN3.out.eq HN1.out; subst heq; have kD13 := addsO w5 w12 w13 g12 W6.heap.size w5.heap.size (Nat.le_refl _) _ _ _ _ _ hBk12 (by simp) g13 v3 0 (by simp) ov3 HV1.out eJ; rw [getDa] at kD13) | (go_at_call 10; refine kD13.mono ?_; rintro e w14 ⟨rfl, gv14, uv14, hBk14, g14⟩; clear kD13; have BT14 := (B4.kept g5 (by simp)).kept g14 (by simp); have j0 := BT14.cell 0 (v := .int .u8 k) rfl; have j1 := BT14.cell 1 (v := .int .i64 x) rfl; have j2 := BT14.cell 2 (v := .int .i64 y) rfl; have j3 := BT14.cell 3 (v := .int .u8 t) rfl; have j4 := BT14.cell 4 (v := .int .i64 z) rfl; have kP14 := kPP w14 gx cx _ (X5.kept g14 (by simp)); clear kPP) | (go_at_call 16; refine kP14.mono ?_; rintro e w15 ⟨v4, X9, rfl, ov4, HN4, g15⟩; clear kP14; clear j0 j1 j2 j3 j4; have heq : X9 = X2' := HN4.out.eq HN2.out; subst heq; have kD15 := addsO w5 w14 w15 g14 W6.heap.size w5.heap.size (Nat.le_refl _) _ _ _ _ _ hBk14 (by simp) g15 v4 1 (by simp) ov4 HV2.out eP; rw [getDb] at kD15) | (go_at_call 10; refine kD15.mono ?_; rintro e w16 ⟨rfl, gv16, uv16, hBk16, g16⟩; clear kD15; have kK16 := kK1 w16 (gb_trans G5 g16) gx cx _ (X5.kept g16 (by simp)); clear kK1) | (go_at_call 11; refine kK16.mono ?_; rintro e w17 ⟨rfl, g17⟩; clear kK16; have kK17 := kK2 w17 (gb_trans G5 (gb_trans g16 g17)) gy cy _ ((Y5.kept g16 (by simp)).kept g17 (by simp)); clear kK2) | (go_at_call 11; refine kK17.mono ?_; rintro e w18 ⟨rfl, g18⟩; clear kK17; have kSt18 := kSt w18 (gb_trans G5 (gb_trans g16 (gb_trans g17 g18))) _ _ _ _ G5.size _ _ _ ((hBk16.kept g17).kept g18) (by simp) (okp_if HV2.out (okp_if HV1.out (okp_if HV2.out (okp_if HV1.out (fun _ => okp_nil))))); clear kSt) | (go_at_call 12; refine kSt18.mono ?_; rintro e w19 ⟨rfl, g19⟩; clear kSt18) | go_in)
  go_ret
  exact ⟨rfl, gb_below g19⟩
end Ln
end Go.Proofs.YtbmpiddjakdebaaGreat
