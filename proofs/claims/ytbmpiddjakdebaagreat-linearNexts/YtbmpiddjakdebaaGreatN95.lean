/- LinearNexts: the walk. -/
import Derived.Test.YtbmpiddjakdebaaGreatN94
namespace Go.Proofs.YtbmpiddjakdebaaGreat
open Go.RowKit
set_option linter.unusedVariables false
set_option linter.unusedSimpArgs false
set_option maxRecDepth 100000

namespace Ln
/-- Each Y one more; each X turned about. -/
def upF (f : Nat → Pt) (j : Nat) : Pt := ((f j).1, IntKind.i64.wrap ((f j).2 + 1))
def ngF (f : Nat → Pt) (j : Nat) : Pt := (IntKind.i64.wrap (-(f j).1), (f j).2)
theorem wr_bd (x : Int) : -9223372036854775808 ≤ IntKind.i64.wrap x ∧ IntKind.i64.wrap x ≤ 9223372036854775807 := by rw [IntKind.wrap_i64]; omega
theorem upF_ok {f : Nat → Pt} {n : Nat} (h : ∀ j, j < n → PtOk (f j)) : ∀ j, j < n → PtOk (upF f j) := fun j hj => ⟨(h j hj).1, wr_bd _⟩
theorem ngF_ok {f : Nat → Pt} {n : Nat} (h : ∀ j, j < n → PtOk (f j)) : ∀ j, j < n → PtOk (ngF f j) := fun j hj => ⟨wr_bd _, (h j hj).2⟩
theorem fl_set2 : ∀ (ps : List Pt) (k : Nat) (a : Int), k < ps.length → (fl ps).set (k * 2 + 1) (.int .i64 a) = fl (ps.set k ((ps.getD k (0, 0)).1, a))
  | [], k, a, h => by simp at h
  | p :: ps, 0, a, h => rfl
  | p :: ps, k + 1, a, h => by
    rw [show (k + 1) * 2 + 1 = k * 2 + 1 + 1 + 1 by omega]
    show .int .i64 p.1 :: .int .i64 p.2 :: ((fl ps).set (k * 2 + 1) (.int .i64 a)) = .int .i64 p.1 :: .int .i64 p.2 :: fl (ps.set k ((ps.getD k (0, 0)).1, a))
    rw [fl_set2 ps k a (by simp at h; omega)]
set_option maxHeartbeats 8000000 in
theorem nexts_walk (k x y t z : Int) (s1 : Option Addr) (n1 c1 : Nat) (f1 : Nat → Pt) (s2 : Option Addr) (n2 c2 : Nat) (f2 : Nat → Pt) (hk : 0 ≤ k ∧ k ≤ 255) (hx : -9223372036854775808 ≤ x ∧ x ≤ 9223372036854775807) (hy : -9223372036854775808 ≤ y ∧ y ≤ 9223372036854775807) (ht : 0 ≤ t ∧ t ≤ 255) (hz : -9223372036854775808 ≤ z ∧ z ≤ 9223372036854775807) (z1 : s1 = none → n1 = 0 ∧ c1 = 0) (m1 : n1 ≤ 8796093021952) (o1 : ∀ j, j < n1 → PtOk (f1 j)) (z2 : s2 = none → n2 = 0 ∧ c2 = 0) (m2 : n2 ≤ 8796093021952) (o2 : ∀ j, j < n2 → PtOk (f2 j)) (w : World) (H1 : Pl w s1 n1 f1) (H2 : Pl w s2 n2 f2) :
    Calls Tryz.prog 3 #[.agg #[.int .u8 k, .int .i64 x, .int .i64 y, .int .u8 t, .int .i64 z], .slice s1 n1 c1, .slice s2 n2 c2] w fun e w' => e = .returned (.bool true) ∧ Below w.heap.size w w' := by
  obtain ⟨W1, hW1, sz1, g1, B1⟩ := boxn w #[.int .u8 k, .int .i64 x, .int .i64 y, .int .u8 t, .int .i64 z] 23
  have kA := aliveC W1
  have kS := fun w1 => smallC k x y t z w1
  clear hk hx hy hz
  by_cases hs : smB x y = false
  · rw [hs] at kS
    clear z1 o1 z2 o2 H1 H2 ht m1 m2 hs
    go_enter Tryz.func3, Tryz.ntmps3
    go_wp2_with (first | (go_at_call 5; refine kA.mono ?_; rintro e w2 ⟨rfl, g2⟩; clear kA; have B2 := B1.kept g2 (by simp); have b0 := B2.cell 0 (v := .int .u8 k) rfl; have b1 := B2.cell 1 (v := .int .i64 x) rfl; have b2 := B2.cell 2 (v := .int .i64 y) rfl; have b3 := B2.cell 3 (v := .int .u8 t) rfl; have b4 := B2.cell 4 (v := .int .i64 z) rfl; have kS2 := kS w2; clear kS) | (go_at_call 6; refine kS2.mono ?_; rintro e w3 ⟨rfl, g3⟩; clear kS2) | go_in)
    go_ret
    exact ⟨rfl, gb_below (gb_trans g1 (gb_trans g2 g3))⟩
  have hs : smB x y = true := by cases e : smB x y with | true => rfl | false => exact absurd e hs
  rw [hs] at kS
  by_cases hb1 : 300 < n1
  · have hb' : (300 : Int) < (n1 : Int) := by omega
    clear z1 o1 z2 o2 H1 H2 ht hs
    go_enter Tryz.func3, Tryz.ntmps3
    go_wp2_with (first | (go_at_call 5; refine kA.mono ?_; rintro e w2 ⟨rfl, g2⟩; clear kA; have B2 := B1.kept g2 (by simp); have b0 := B2.cell 0 (v := .int .u8 k) rfl; have b1 := B2.cell 1 (v := .int .i64 x) rfl; have b2 := B2.cell 2 (v := .int .i64 y) rfl; have b3 := B2.cell 3 (v := .int .u8 t) rfl; have b4 := B2.cell 4 (v := .int .i64 z) rfl; have kS2 := kS w2; clear kS) | (go_at_call 6; refine kS2.mono ?_; rintro e w3 ⟨rfl, g3⟩; clear kS2) | go_in)
    go_ret
    exact ⟨rfl, gb_below (gb_trans g1 (gb_trans g2 g3))⟩
  have hb1' : ¬ (300 : Int) < (n1 : Int) := by omega
  by_cases hb2 : 3000 < n2
  · have hb' : (3000 : Int) < (n2 : Int) := by omega
    clear z1 o1 z2 o2 H1 H2 ht hs
    go_enter Tryz.func3, Tryz.ntmps3
    go_wp2_with (first | (go_at_call 5; refine kA.mono ?_; rintro e w2 ⟨rfl, g2⟩; clear kA; have B2 := B1.kept g2 (by simp); have b0 := B2.cell 0 (v := .int .u8 k) rfl; have b1 := B2.cell 1 (v := .int .i64 x) rfl; have b2 := B2.cell 2 (v := .int .i64 y) rfl; have b3 := B2.cell 3 (v := .int .u8 t) rfl; have b4 := B2.cell 4 (v := .int .i64 z) rfl; have kS2 := kS w2; clear kS) | (go_at_call 6; refine kS2.mono ?_; rintro e w3 ⟨rfl, g3⟩; clear kS2) | go_in)
    go_ret
    exact ⟨rfl, gb_below (gb_trans g1 (gb_trans g2 g3))⟩
  have hb2' : ¬ (3000 : Int) < (n2 : Int) := by omega
  obtain ⟨D, hDl, hDf⟩ := list_of n1 f1
  obtain ⟨C, hCl, hCf⟩ := list_of n2 f2
  obtain ⟨D', hDl', hDf'⟩ := list_of n1 (upF f1)
  obtain ⟨C', hCl', hCf'⟩ := list_of n2 (ngF f2)
  have HO1 : Hid (∀ j, j < n1 → PtOk (f1 j)) := o1
  have HO2 : Hid (∀ j, j < n2 → PtOk (f2 j)) := o2
  have oD : ∀ j, j < D.length → PtOk (D.getD j (0, 0)) := fun j hj => by rw [hDf j (by omega)]; exact o1 j (by omega)
  have oC : ∀ j, j < C.length → PtOk (C.getD j (0, 0)) := fun j hj => by rw [hCf j (by omega)]; exact o2 j (by omega)
  have oD' : ∀ j, j < D'.length → PtOk (D'.getD j (0, 0)) := fun j hj => by rw [hDf' j (by omega)]; exact upF_ok o1 j (by omega)
  have oC' : ∀ j, j < C'.length → PtOk (C'.getD j (0, 0)) := fun j hj => by rw [hCf' j (by omega)]; exact ngF_ok o2 j (by omega)
  have kX := fun w1 (g1 : w.grownBy w1 none) => lentC s1 n1 c1 f1 (by omega) z1 w1 (H1.kept g1 (by simp))
  have kY := fun w1 (g1 : w.grownBy w1 none) => lentC s2 n2 c2 f2 (by omega) z2 w1 (H2.kept g1 (by simp))
  have kR := fun w1 (g1 : w.grownBy w1 none) => nextDL k x y t z ht.1 s1 c1 D oD (by omega) (fun e => by have := z1 e; omega) s2 c2 C oC (by omega) (fun e => by have := z2 e; omega) w1 ((H1.kept g1 (by simp)).as hDl hDf) ((H2.kept g1 (by simp)).as hCl hCf)
  have kP := fun w1 gx cx bx gy cy by_ (X : Le w1 bx gx cx n1 f1) (Y : Le w1 by_ gy cy n2 f2) => nextPL k x y t z ht.1 (some ⟨gx, 0, none⟩) cx D oD (by omega) (fun e => by cases e) (some ⟨gy, 0, none⟩) cy C oC (by omega) (fun e => by cases e) w1 (X.pl.as hDl hDf) (Y.pl.as hCl hCf)
  have kR' := fun w1 gx cx bx gy cy by_ (X : Le w1 bx gx cx n1 (upF f1)) (Y : Le w1 by_ gy cy n2 (ngF f2)) => nextDL k x y t z ht.1 (some ⟨gx, 0, none⟩) cx D' oD' (by omega) (fun e => by cases e) (some ⟨gy, 0, none⟩) cy C' oC' (by omega) (fun e => by cases e) w1 (X.pl.as hDl' hDf') (Y.pl.as hCl' hCf')
  have kP' := fun w1 gx cx gy cy (X : Pl w1 (some ⟨gx, 0, none⟩) n1 (upF f1)) (Y : Pl w1 (some ⟨gy, 0, none⟩) n2 (ngF f2)) => nextPL k x y t z ht.1 (some ⟨gx, 0, none⟩) cx D' oD' (by omega) (fun e => by cases e) (some ⟨gy, 0, none⟩) cy C' oC' (by omega) (fun e => by cases e) w1 (X.as hDl' hDf') (Y.as hCl' hCf')
  have kK1 := fun w1 (g1 : w.grownBy w1 none) gx cx bx (X : Le w1 bx gx cx n1 f1) => keptC gx cx n1 bx f1 HO1.out (by omega) s1 c1 w1 X (H1.kept g1 (by simp))
  have kK2 := fun w1 (g1 : w.grownBy w1 none) gy cy by_ (Y : Le w1 by_ gy cy n2 f2) => keptC gy cy n2 by_ f2 HO2.out (by omega) s2 c2 w1 Y (H2.kept g1 (by simp))
  have HOJ : Hid (∀ X, An x y t z (jpE k x y t z (fun k => D.getD k (0, 0)) D.length (fun k => C.getD k (0, 0)) C.length 1) (mulL (pwL (D.map neg) (1 : Int).toNat) C) X → Okp X) := fun X h => an_ok hs h
  have HOP : Hid (∀ X, An x y t z (jpE k x y t z (fun k => D'.getD k (0, 0)) D'.length (fun k => C'.getD k (0, 0)) C'.length 1) (mulL (pwL (D'.map neg) (1 : Int).toNat) C') X → Okp X) := fun X h => an_ok hs h
  generalize (jpE k x y t z (fun k => D.getD k (0, 0)) D.length (fun k => C.getD k (0, 0)) C.length 1) = eJ at kR kP HOJ
  generalize (jpE k x y t z (fun k => D'.getD k (0, 0)) D'.length (fun k => C'.getD k (0, 0)) C'.length 1) = eP at kR' kP' HOP
  generalize mulL (pwL (D.map neg) (1 : Int).toNat) C = AJ at kR kP HOJ
  generalize mulL (pwL (D'.map neg) (1 : Int).toNat) C' = AP at kR' kP' HOP
  rw [hDl, hCl] at kR kP
  rw [hDl', hCl'] at kR' kP'
  clear o1 o2 z1 z2 oD oC oD' oC' hDf hCf hDl hCl hDf' hCf' hDl' hCl' ht hs
  have kSt := fun w1 (g1 : w.grownBy w1 none) gv uv b base (hb : w.heap.size ≤ b) V U P (hB : Bk w1 base b gv uv V U P) (hN : V.length < 100) (hP : ∀ i, Okp (P i)) => standsC w w1 g1 base b hb gv uv V U P hB hN (fun i _ => ⟨by have := (hP i).1; omega, (hP i).2⟩)
  go_enter Tryz.func3, Tryz.ntmps3
  go_wp2_with (first | (go_at_call 5; refine kA.mono ?_; rintro e w2 ⟨rfl, g2⟩; clear kA; have B2 := B1.kept g2 (by simp); have b0 := B2.cell 0 (v := .int .u8 k) rfl; have b1 := B2.cell 1 (v := .int .i64 x) rfl; have b2 := B2.cell 2 (v := .int .i64 y) rfl; have b3 := B2.cell 3 (v := .int .u8 t) rfl; have b4 := B2.cell 4 (v := .int .i64 z) rfl; have kS2 := kS w2; clear kS) | (go_at_call 6; refine kS2.mono ?_; rintro e w3 ⟨rfl, g3⟩; clear kS2; clear b0 b1 b2 b3 b4; have G3 := gb_trans g1 (gb_trans g2 g3); have B3 := B2.kept g3 (by simp); have kX3 := kX w3 G3; clear kX) | (go_at_call 7; refine kX3.mono ?_; rintro e w4 ⟨gx, cx, rfl, X4, g4⟩; clear kX3; have G4 := gb_trans G3 g4; have kY4 := kY w4 G4; clear kY; have B4 := B3.kept g4 (by simp)) | (go_at_call 7; refine kY4.mono ?_; rintro e w5 ⟨gy, cy, rfl, Y5, g5⟩; clear kY4; have G5 := gb_trans G4 g5; have X5 := X4.kept g5 (by simp); obtain ⟨W6, hW6, sz6, g6, B6⟩ := boxn w5 #[.slice none 0 0, .slice none 0 0, .bool false] 31; have hBk6 := Bk.made B6; have G6 := gb_trans G5 g6; have BT6 := (B4.kept g5 (by simp)).kept g6 (by simp); have c0 := BT6.cell 0 (v := .int .u8 k) rfl; have c1 := BT6.cell 1 (v := .int .i64 x) rfl; have c2 := BT6.cell 2 (v := .int .i64 y) rfl; have c3 := BT6.cell 3 (v := .int .u8 t) rfl; have c4 := BT6.cell 4 (v := .int .i64 z) rfl; have kR6 := kR W6 G6; clear kR) | (go_at_call 8; refine kR6.mono ?_; rintro e w7 ⟨u1, X1, rfl, ou1, HN1, g7⟩; clear kR6; clear c0 c1 c2 c3 c4; have BT7 := BT6.kept g7 (by simp); have d0 := BT7.cell 0 (v := .int .u8 k) rfl; have d1 := BT7.cell 1 (v := .int .i64 x) rfl; have d2 := BT7.cell 2 (v := .int .i64 y) rfl; have d3 := BT7.cell 3 (v := .int .u8 t) rfl; have d4 := BT7.cell 4 (v := .int .i64 z) rfl; have kP7 := kP w7 gx cx _ gy cy _ ((X5.kept g6 (by simp)).kept g7 (by simp)) ((Y5.kept g6 (by simp)).kept g7 (by simp))) | (go_at_call 9; refine kP7.mono ?_; rintro e w8 ⟨v1, X1', rfl, ov1, HN1', g8⟩; clear kP7; clear d0 d1 d2 d3 d4; have heq : X1' = X1 := HN1'.out.eq HN1.out; subst heq; have HV1 : Hid (Okp X1') := HOJ.out X1' HN1.out; have kD8 := addsF w5 W6 w7 w8 g6 W6.heap.size w5.heap.size (Nat.le_refl _) _ _ [] [] _ hBk6 (by decide) g7 g8 v1 u1 X1' ou1 ov1 HV1.out eJ; have BT8 := BT7.kept g8 (by simp)) | (go_at_call 10; refine kD8.mono ?_; rintro e w9 ⟨rfl, gv9, uv9, hBk9, g9⟩; clear kD8; have BT9 := (B4.kept g5 (by simp)).kept g9 (by simp); have f0 := BT9.cell 0 (v := .int .u8 k) rfl; have f1 := BT9.cell 1 (v := .int .i64 x) rfl; have f2 := BT9.cell 2 (v := .int .i64 y) rfl; have f3 := BT9.cell 3 (v := .int .u8 t) rfl; have f4 := BT9.cell 4 (v := .int .i64 z) rfl; have kP9 := kP w9 gx cx _ gy cy _ (X5.kept g9 (by simp)) (Y5.kept g9 (by simp)); clear kP) | (go_at_call 9; refine kP9.mono ?_; rintro e w13 ⟨v3, X3, rfl, ov3, HN3, g13⟩; clear kP9; clear f0 f1 f2 f3 f4; have heq : X3 = X1' := HN3.out.eq HN1.out; subst heq; have kD13 := addsO w5 w9 w13 g9 W6.heap.size w5.heap.size (Nat.le_refl _) _ _ _ _ _ hBk9 (by simp) g13 v3 0 (by simp) ov3 HV1.out eJ; rw [getDc] at kD13) | (go_at_call 10; refine kD13.mono ?_; rintro e w16 ⟨rfl, gv16, uv16, hBk16, g16⟩; clear kD13; have kK16 := kK1 w16 (gb_trans G5 g16) gx cx _ (X5.kept g16 (by simp)); clear kK1) | (go_at_call 11; refine kK16.mono ?_; rintro e w17 ⟨rfl, g17⟩; clear kK16; have kK17 := kK2 w17 (gb_trans G5 (gb_trans g16 g17)) gy cy _ ((Y5.kept g16 (by simp)).kept g17 (by simp)); clear kK2) | (go_at_call 11; refine kK17.mono ?_; rintro e w18 ⟨rfl, g18⟩; clear kK17) | go_in)
  have g5' := gb_trans g16 (gb_trans g17 g18)
  have G18 := gb_trans G5 g5'
  have hBk18 := (hBk16.kept g17).kept g18
  have X18 := X5.kept g5' (by simp)
  have Y18 := Y5.kept g5' (by simp)
  have BT18 := (B4.kept g5 (by simp)).kept g5' (by simp)
  have HBT : Hid (Bo w18 w.heap.size 23 #[.int .u8 k, .int .i64 x, .int .i64 y, .int .u8 t, .int .i64 z]) := BT18
  have lx := X4.lt
  have ly := Y5.lt
  have sg1 := g1.size
  have sg2 := g2.size
  have sg3 := g3.size
  have sg4 := g4.size
  have sg5 := g5.size
  have hgxy : gx ≠ gy := by omega
  have hX0 : w18.ownsRow w3.heap.size 40 2 (.slice (some ⟨gx, 0, none⟩) (n1 + 70) cx) (n1 + 70) (fl (psL (lentF f1 n1) (n1 + 70))) := X18
  have HQ0 : Hid (∀ j, j < n1 → (psL (lentF f1 n1) (n1 + 70)).getD j (0, 0) = if j < 0 then upF f1 j else f1 j) := fun j hj => by rw [psL_at _ _ j (by omega), if_neg (by omega)]; unfold lentF; rw [if_pos hj]
  obtain ⟨V16, hV16⟩ : ∃ V, ([] ++ [v1] ++ [v3] : List Value) = V := ⟨_, rfl⟩
  have hVl : V16.length = 2 := by rw [← hV16]; rfl
  rw [hV16] at hBk18
  generalize ([] ++ [u1] ++ [u1] : List Value) = U16 at hBk18
  have HPP : Hid (∃ P : Nat → List Pt, (∀ i, Okp (P i)) ∧ Bk w18 W6.heap.size w5.heap.size gv16 uv16 V16 U16 P) := ⟨_, okp_if HV1.out (okp_if HV1.out (fun _ => okp_nil)), hBk18⟩
  obtain ⟨PP, HOK, hBkP⟩ := HPP.out
  have HBkP : Hid (Bk w18 W6.heap.size w5.heap.size gv16 uv16 V16 U16 PP) := hBkP
  have HOKh : Hid (∀ i, Okp (PP i)) := HOK
  have HY18 : Hid (Le w18 w4.heap.size gy cy n2 f2) := Y18
  have szw : W1.heap.size = w.heap.size + 1 := sz1
  clear hBk6 hBk9 hBk16 hBk18 hBkP HPP HOK X18 Y18 Y5 X5 X4 hV16 ou1 ov1 ov3 B6 hW6 BT18 BT9 BT8 BT7 BT6 B4 B3 B2 B1 hW1 HOJ HN1 HN1' HN3 HV1
  go_loopw [20] (fun v wr => ∃ (i : Nat) (Q : List Pt), i ≤ n1 ∧ v = .int .i64 i ∧ Hid (Q.length = n1 + 70) ∧ wr.ownsRow w3.heap.size 40 2 (.slice (some ⟨gx, 0, none⟩) (n1 + 70) cx) (n1 + 70) (fl Q) ∧ Hid (∀ j, j < n1 → Q.getD j (0, 0) = if j < i then upF f1 j else f1 j) ∧ Hid (Bk wr W6.heap.size w5.heap.size gv16 uv16 V16 U16 PP) ∧ Hid (Le wr w4.heap.size gy cy n2 f2) ∧ Hid (Bo wr w.heap.size 23 #[.int .u8 k, .int .i64 x, .int .i64 y, .int .u8 t, .int .i64 z]) ∧ w.grownBy wr none) (fun v _ => n1 - (intOf v).toNat)
  case atStart => exact ⟨0, _, Nat.zero_le _, rfl, psL_len _ _, hX0, HQ0.out, HBkP.out, HY18.out, HBT.out, G18⟩
  case round =>
    obtain ⟨i, Q, hi, rfl, HQL, own, HQ, HB, HY, HT, gi⟩ := hrel
    by_cases hlt : i < n1
    · have hlt' : (i : Int) < (n1 : Int) := by omega
      have hq := HQ.out i hlt
      rw [if_neg (Nat.lt_irrefl _)] at hq
      obtain ⟨t0, t1⟩ := fl_at Q i (by rw [HQL.out]; omega)
      have x0 := (own.cellAt (i * 2 + 1) (by omega)).trans t1
      have y0 := own.frozenAt (i * 2 + 1)
      obtain ⟨a, ha⟩ : ∃ a, (f1 i).2 = a := ⟨_, rfl⟩
      rw [hq, ha] at x0
      obtain ⟨d, hd⟩ : ∃ d, IntKind.i64.wrap (a + 1) = d := ⟨_, rfl⟩
      obtain ⟨own1, gs⟩ := own.stored (i * 2 + 1) (.int .i64 d)
      rw [fl_set2 Q i d (by rw [HQL.out]; omega)] at own1
      have HQL1 : Hid ((Q.set i ((Q.getD i (0, 0)).1, d)).length = n1 + 70) := by unfold Hid; rw [List.length_set]; exact HQL.out
      have HQ1 : Hid (∀ j, j < n1 → (Q.set i ((Q.getD i (0, 0)).1, d)).getD j (0, 0) = if j < i + 1 then upF f1 j else f1 j) := fun j hj => by
        rw [set_getD _ _ _ _ (by rw [HQL.out]; omega)]
        by_cases e : j = i
        · subst e
          rw [if_pos rfl, if_pos (by omega), hq]
          unfold upF
          rw [ha, hd]
        · rw [if_neg e, HQ.out j hj]
          by_cases e2 : j < i
          · rw [if_pos e2, if_pos (by omega)]
          · rw [if_neg e2, if_neg (by omega)]
      have HB1 : Hid (Bk (wr.setCell ⟨gx, i * 2 + 1, none⟩ (.int .i64 d)) W6.heap.size w5.heap.size gv16 uv16 V16 U16 PP) := HB.out.by gs (by omega)
      have HY1 : Hid (Le (wr.setCell ⟨gx, i * 2 + 1, none⟩ (.int .i64 d)) w4.heap.size gy cy n2 f2) := HY.out.kept gs (fun e => hgxy (Option.some.inj e).symm)
      have HT1 : Hid (Bo (wr.setCell ⟨gx, i * 2 + 1, none⟩ (.int .i64 d)) w.heap.size 23 #[.int .u8 k, .int .i64 x, .int .i64 y, .int .u8 t, .int .i64 z]) := HT.out.kept gs (fun e => by have e := Option.some.inj e; omega)
      have gi1 : w.grownBy (wr.setCell ⟨gx, i * 2 + 1, none⟩ (.int .i64 d)) none := gb_new gi (a := ⟨gx, i * 2 + 1, none⟩) (by simp only; omega) _
      clear t0 t1 HQ HB HY HT own hq ha
      go_wp2
      first | go_roundw | (go_quiet (fail); go_wp2; go_roundw)
      case rel => exact ⟨i + 1, _, by omega, by go_num, HQL1.out, own1, HQ1.out, HB1.out, HY1.out, HT1.out, gi1⟩
      case measure => simp [intOf]; omega
    · obtain rfl : i = n1 := by omega
      have hlt' : ¬ (i : Int) < (i : Int) := by omega
      have HPX : Hid (Pl wr (some ⟨gx, 0, none⟩) i (upF f1)) := fun k hk => by
        obtain ⟨q, o, e, c0, c1⟩ := (pl_own own HQL.out) k (by omega)
        simp only at c0 c1
        rw [HQ.out k hk, if_pos (by omega)] at c0 c1
        exact ⟨q, o, e, c0, c1⟩
      have hY0 : wr.ownsRow w4.heap.size 40 2 (.slice (some ⟨gy, 0, none⟩) (n2 + 70) cy) (n2 + 70) (fl (psL (lentF f2 n2) (n2 + 70))) := HY.out
      have HQ0 : Hid (∀ j, j < n2 → (psL (lentF f2 n2) (n2 + 70)).getD j (0, 0) = if j < 0 then ngF f2 j else f2 j) := fun j hj => by rw [psL_at _ _ j (by omega), if_neg (by omega)]; unfold lentF; rw [if_pos hj]
      clear own HQ HQL HY hX0
      go_wp2
      go_loopw [21] (fun v wr => ∃ (i2 : Nat) (Q : List Pt), i2 ≤ n2 ∧ v = .int .i64 i2 ∧ Hid (Q.length = n2 + 70) ∧ wr.ownsRow w4.heap.size 40 2 (.slice (some ⟨gy, 0, none⟩) (n2 + 70) cy) (n2 + 70) (fl Q) ∧ Hid (∀ j, j < n2 → Q.getD j (0, 0) = if j < i2 then ngF f2 j else f2 j) ∧ Hid (Bk wr W6.heap.size w5.heap.size gv16 uv16 V16 U16 PP) ∧ Hid (Pl wr (some ⟨gx, 0, none⟩) i (upF f1)) ∧ Hid (Bo wr w.heap.size 23 #[.int .u8 k, .int .i64 x, .int .i64 y, .int .u8 t, .int .i64 z]) ∧ w.grownBy wr none) (fun v _ => n2 - (intOf v).toNat)
      case atStart => exact ⟨0, _, Nat.zero_le _, rfl, psL_len _ _, hY0, HQ0.out, HB.out, HPX.out, HT.out, gi⟩
      case round =>
        clear HB HT HPX hY0 gi
        obtain ⟨j2, Q, hi2, rfl, HQL, own, HQ, HB, HX, HT, gi⟩ := hrel
        by_cases hlt2 : j2 < n2
        · have hlt2' : (j2 : Int) < (n2 : Int) := by omega
          have hq := HQ.out j2 hlt2
          rw [if_neg (Nat.lt_irrefl _)] at hq
          obtain ⟨t0, t1⟩ := fl_at Q j2 (by rw [HQL.out]; omega)
          have x0 := (own.cellAt (j2 * 2) (by omega)).trans t0
          have y0 := own.frozenAt (j2 * 2)
          obtain ⟨a, ha⟩ : ∃ a, (f2 j2).1 = a := ⟨_, rfl⟩
          rw [hq, ha] at x0
          obtain ⟨d, hd⟩ : ∃ d, IntKind.i64.wrap (-a) = d := ⟨_, rfl⟩
          obtain ⟨own1, gs⟩ := own.stored (j2 * 2) (.int .i64 d)
          rw [fl_set1 Q j2 d (by rw [HQL.out]; omega)] at own1
          have HQL1 : Hid ((Q.set j2 (d, (Q.getD j2 (0, 0)).2)).length = n2 + 70) := by unfold Hid; rw [List.length_set]; exact HQL.out
          have HQ1 : Hid (∀ j, j < n2 → (Q.set j2 (d, (Q.getD j2 (0, 0)).2)).getD j (0, 0) = if j < j2 + 1 then ngF f2 j else f2 j) := fun j hj => by
            rw [set_getD _ _ _ _ (by rw [HQL.out]; omega)]
            by_cases e : j = j2
            · subst e
              rw [if_pos rfl, if_pos (by omega), hq]
              unfold ngF
              rw [ha, hd]
            · rw [if_neg e, HQ.out j hj]
              by_cases e2 : j < j2
              · rw [if_pos e2, if_pos (by omega)]
              · rw [if_neg e2, if_neg (by omega)]
          have HB1 : Hid (Bk (wr.setCell ⟨gy, j2 * 2, none⟩ (.int .i64 d)) W6.heap.size w5.heap.size gv16 uv16 V16 U16 PP) := HB.out.by gs (by omega)
          have HX1 : Hid (Pl (wr.setCell ⟨gy, j2 * 2, none⟩ (.int .i64 d)) (some ⟨gx, 0, none⟩) i (upF f1)) := HX.out.kept gs (fun a e e2 => by injection e with e; subst e; exact hgxy (Option.some.inj e2))
          have HT1 : Hid (Bo (wr.setCell ⟨gy, j2 * 2, none⟩ (.int .i64 d)) w.heap.size 23 #[.int .u8 k, .int .i64 x, .int .i64 y, .int .u8 t, .int .i64 z]) := HT.out.kept gs (fun e => by have e := Option.some.inj e; omega)
          have gi1 : w.grownBy (wr.setCell ⟨gy, j2 * 2, none⟩ (.int .i64 d)) none := gb_new gi (a := ⟨gy, j2 * 2, none⟩) (by simp only; omega) _
          clear t0 t1 HQ HB HX HT own hq ha
          go_wp2
          first | go_roundw | (go_quiet (fail); go_wp2; go_roundw)
          case rel => exact ⟨j2 + 1, _, by omega, by go_num, HQL1.out, own1, HQ1.out, HB1.out, HX1.out, HT1.out, gi1⟩
          case measure => simp [intOf]; omega
        · obtain rfl : j2 = n2 := by omega
          have hlt2' : ¬ (j2 : Int) < (j2 : Int) := by omega
          have HPY : Hid (Pl wr (some ⟨gy, 0, none⟩) j2 (ngF f2)) := fun k hk => by
            obtain ⟨q, o, e, c0, c1⟩ := (pl_own own HQL.out) k (by omega)
            simp only at c0 c1
            rw [HQ.out k hk, if_pos (by omega)] at c0 c1
            exact ⟨q, o, e, c0, c1⟩
          clear own HQ HQL HQ0
          obtain ⟨U0, hU0⟩ : ∃ U, U = wr := ⟨_, rfl⟩
          subst hU0
          go_wp2
          have gd : U0.grownBy U0.drew none := gb_drew (World.grownBy.refl _ none)
          have Bd := HT.out.kept gd (by simp)
          have p0 := Bd.cell 0 (v := .int .u8 k) rfl; have p1 := Bd.cell 1 (v := .int .i64 x) rfl; have p2 := Bd.cell 2 (v := .int .i64 y) rfl; have p3 := Bd.cell 3 (v := .int .u8 t) rfl; have p4 := Bd.cell 4 (v := .int .i64 z) rfl
          have kL1 := lentC (some ⟨gx, 0, none⟩) i cx (upF f1) (by omega) (fun e => by cases e) U0.drew (HX.out.kept gd (by simp))
          have kL2 := fun w1 (g1 : U0.drew.grownBy w1 none) => lentC (some ⟨gy, 0, none⟩) j2 cy (ngF f2) (by omega) (fun e => by cases e) w1 ((HPY.out.kept gd (by simp)).kept g1 (by simp))
          go_region_held2 (fun w' => w'.cell? ⟨w.heap.size, 0, none⟩ = some (.int .u8 k) ∧ w'.cell? ⟨w.heap.size, 1, none⟩ = some (.int .i64 x) ∧ w'.cell? ⟨w.heap.size, 2, none⟩ = some (.int .i64 y) ∧ w'.cell? ⟨w.heap.size, 3, none⟩ = some (.int .u8 t) ∧ w'.cell? ⟨w.heap.size, 4, none⟩ = some (.int .i64 z)) (go_keep) (first | (go_at_call 7; refine kL1.mono ?_; rintro e w20 ⟨ga, ca, rfl, L20, g20⟩; clear kL1; have kL3 := kL2 w20 g20; clear kL2; have B20 := Bd.kept g20 (by simp); have q0 := B20.cell 0 (v := .int .u8 k) rfl; have q1 := B20.cell 1 (v := .int .i64 x) rfl; have q2 := B20.cell 2 (v := .int .i64 y) rfl; have q3 := B20.cell 3 (v := .int .u8 t) rfl; have q4 := B20.cell 4 (v := .int .i64 z) rfl) | (go_at_call 7; refine kL3.mono ?_; rintro e w21 ⟨gb, cb, rfl, L21, g21⟩; clear kL3; have B21 := B20.kept g21 (by simp); have r0 := B21.cell 0 (v := .int .u8 k) rfl; have r1 := B21.cell 1 (v := .int .i64 x) rfl; have r2 := B21.cell 2 (v := .int .i64 y) rfl; have r3 := B21.cell 3 (v := .int .u8 t) rfl; have r4 := B21.cell 4 (v := .int .i64 z) rfl; have kR21 := kR' w21 ga ca _ gb cb _ (L20.kept g21 (by simp)) L21; clear kR') | (go_at_call 8; refine kR21.mono ?_; rintro e w22 ⟨u5, X5, rfl, ou5, HN5, g22⟩; clear kR21; have B22 := B21.kept g22 (by simp); have s0 := B22.cell 0 (v := .int .u8 k) rfl; have s1 := B22.cell 1 (v := .int .i64 x) rfl; have s2 := B22.cell 2 (v := .int .i64 y) rfl; have s3 := B22.cell 3 (v := .int .u8 t) rfl; have s4 := B22.cell 4 (v := .int .i64 z) rfl))
          have g021 := gb_trans gd (gb_trans g20 g21)
          have g022 := gb_trans g021 g22
          have kP22 := kP' w22 gx cx gy cy (HX.out.kept g022 (by simp)) (HPY.out.kept g022 (by simp))
          have sgi := gi.size
          have HB21 : Hid (Bk w21 W6.heap.size w5.heap.size gv16 uv16 V16 U16 PP) := HB.out.kept g021
          have G21 : w.grownBy w21 none := gb_trans gi g021
          have hw5 : w.heap.size ≤ w5.heap.size := by omega
          clear kP' HX HPY HB HT
          go_wp2_with (first | (go_at_call 9; refine kP22.mono ?_; rintro e w23 ⟨v5, X5', rfl, ov5, HN5', g23⟩; clear kP22; have heq : X5' = X5 := HN5'.out.eq HN5.out; subst heq; have HV5 : Hid (Okp X5') := HOP.out X5' HN5.out; have kD23 := addsF w w21 w22 w23 G21 W6.heap.size w5.heap.size hw5 _ _ _ _ _ HB21.out (by omega) g22 g23 v5 u5 X5' ou5 ov5 HV5.out eP) | (go_at_call 10; refine kD23.mono ?_; rintro e w24 ⟨rfl, gv24, uv24, hBk24, g24⟩; clear kD23; have kS24 := kSt w24 g24 _ _ _ _ hw5 _ _ _ hBk24 (by rw [List.length_append]; simp; omega) (okp_if HV5.out HOKh.out); clear kSt) | (go_at_call 12; refine kS24.mono ?_; rintro e w25 ⟨rfl, g25⟩; clear kS24) | go_in)
          go_ret
          exact ⟨rfl, gb_below g25⟩
end Ln
end Go.Proofs.YtbmpiddjakdebaaGreat
