/- LinearTimeses: the walk. -/
import Derived.Test.YtijjbejilpglnaaGreatN48
namespace Go.Proofs.YtijjbejilpglnaaGreat
open Go.RowKit
set_option linter.unusedVariables false
set_option linter.unusedSimpArgs false
set_option maxRecDepth 100000

namespace Ln
def Okp (ps : List Pt) : Prop := ps.length ≤ 4096 ∧ ∀ k, k < ps.length → PtOk (ps.getD k (0, 0))
theorem okp_nil : Okp [] := ⟨Nat.zero_le _, fun k hk => absurd hk (Nat.not_lt_zero _)⟩
theorem okp_if {ps : List Pt} {P : Nat → List Pt} {k : Nat} (h : Okp ps) (hP : ∀ i, Okp (P i)) (i : Nat) : Okp ((fun i => if i = k then ps else P i) i) := by
  show Okp (if i = k then ps else P i)
  split
  · exact h
  · exact hP i
theorem getD1 (v u : Value) : ([] ++ [v] ++ [u] : List Value).getD 0 nv = v := rfl
set_option maxHeartbeats 3000000 in
theorem timeses_walk (s1 : Option Addr) (n1 c1 : Nat) (f1 : Nat → Pt) (s2 : Option Addr) (n2 c2 : Nat) (f2 : Nat → Pt) (z1 : s1 = none → n1 = 0 ∧ c1 = 0) (m1 : n1 ≤ 8796093021952) (o1 : ∀ j, j < n1 → PtOk (f1 j)) (z2 : s2 = none → n2 = 0 ∧ c2 = 0) (m2 : n2 ≤ 8796093021952) (o2 : ∀ j, j < n2 → PtOk (f2 j)) (w : World) (H1 : Pl w s1 n1 f1) (H2 : Pl w s2 n2 f2) :
    Calls Tryz.prog 5 #[.slice s1 n1 c1, .slice s2 n2 c2] w fun e w' => e = .returned (.bool true) ∧ Below w.heap.size w w' := by
  have kA := aliveC w
  by_cases hb1 : 300 < n1
  · have hb' : (300 : Int) < (n1 : Int) := by omega
    clear z1 o1 z2 o2 H1 H2
    go_enter Tryz.func5, Tryz.ntmps5
    go_wp2_with (first | (go_at_call 9; refine kA.mono ?_; rintro e w1 ⟨rfl, g1⟩; clear kA) | go_in)
    go_ret
    exact ⟨rfl, gb_below g1⟩
  have hb' : ¬ (300 : Int) < (n1 : Int) := by omega
  by_cases hb2 : 300 < n2
  · have hb2' : (300 : Int) < (n2 : Int) := by omega
    clear z1 o1 z2 o2 H1 H2
    go_enter Tryz.func5, Tryz.ntmps5
    go_wp2_with (first | (go_at_call 9; refine kA.mono ?_; rintro e w1 ⟨rfl, g1⟩; clear kA) | go_in)
    go_ret
    exact ⟨rfl, gb_below g1⟩
  have hb2' : ¬ (300 : Int) < (n2 : Int) := by omega
  have HO1 : Hid (∀ j, j < n1 → PtOk (f1 j)) := o1
  have HO2 : Hid (∀ j, j < n2 → PtOk (f2 j)) := o2
  have kX := fun w1 (g1 : w.grownBy w1 none) => lentC s1 n1 c1 f1 (by omega) z1 w1 (H1.kept g1 (by simp))
  have kY := fun w1 (g1 : w.grownBy w1 none) => lentC s2 n2 c2 f2 (by omega) z2 w1 (H2.kept g1 (by simp))
  have kR := fun w1 (g1 : w.grownBy w1 none) => refTimesG s1 s2 n1 c1 n2 c2 f1 f2 (by omega) (by omega) w1 (H1.kept g1 (by simp)) (H2.kept g1 (by simp))
  have kR2 := fun w1 (g1 : w.grownBy w1 none) => refTimesG s1 s1 n1 c1 n1 c1 f1 f1 (by omega) (by omega) w1 (H1.kept g1 (by simp)) (H1.kept g1 (by simp))
  have kT := fun w1 gx cx bx gy cy by_ (X : Le w1 bx gx cx n1 f1) (Y : Le w1 by_ gy cy n2 f2) => timesG (some ⟨gx, 0, none⟩) (some ⟨gy, 0, none⟩) n1 cx n2 cy f1 f2 HO1.out HO2.out (by omega) (by omega) w1 X.pl Y.pl
  have kT2 := fun w1 gx cx bx (X : Le w1 bx gx cx n1 f1) => timesG (some ⟨gx, 0, none⟩) (some ⟨gx, 0, none⟩) n1 cx n1 cx f1 f1 HO1.out HO1.out (by omega) (by omega) w1 X.pl X.pl
  have kK1 := fun w1 (g1 : w.grownBy w1 none) gx cx bx (X : Le w1 bx gx cx n1 f1) => keptC gx cx n1 bx f1 HO1.out (by omega) s1 c1 w1 X (H1.kept g1 (by simp))
  have kK2 := fun w1 (g1 : w.grownBy w1 none) gy cy by_ (Y : Le w1 by_ gy cy n2 f2) => keptC gy cy n2 by_ f2 HO2.out (by omega) s2 c2 w1 Y (H2.kept g1 (by simp))
  have HV := tmV_ok f1 n1 f2 n2
  have HV2 := tmV_ok f1 n1 f1 n1
  obtain ⟨vA, hvA⟩ : ∃ x, tmV f1 n1 f2 n2 = x := ⟨_, rfl⟩
  obtain ⟨eA, heA⟩ : ∃ x, tmE f1 n1 f2 n2 = x := ⟨_, rfl⟩
  obtain ⟨vB, hvB⟩ : ∃ x, tmV f1 n1 f1 n1 = x := ⟨_, rfl⟩
  obtain ⟨eB, heB⟩ : ∃ x, tmE f1 n1 f1 n1 = x := ⟨_, rfl⟩
  rw [hvA, heA] at kR kT
  rw [hvB, heB] at kR2 kT2
  rw [hvA] at HV
  rw [hvB] at HV2
  have HVh : Hid (vA.length ≤ 4096 ∧ ∀ k, k < vA.length → PtOk (vA.getD k (0, 0))) := HV
  have HV2h : Hid (vB.length ≤ 4096 ∧ ∀ k, k < vB.length → PtOk (vB.getD k (0, 0))) := HV2
  clear hvA heA hvB heB HV HV2 o1 o2 z1 z2
  go_enter Tryz.func5, Tryz.ntmps5
  go_wp2_with (first | (go_at_call 9; refine kA.mono ?_; rintro e w1 ⟨rfl, g1⟩; clear kA; have kX1 := kX w1 g1; clear kX) | (go_at_call 11; refine kX1.mono ?_; rintro e w2 ⟨gx, cx, rfl, X2, g2⟩; clear kX1; have G2 := gb_trans g1 g2; have kY2 := kY w2 G2; clear kY) | (go_at_call 11; refine kY2.mono ?_; rintro e w3 ⟨gy, cy, rfl, Y3, g3⟩; clear kY2; have G3 := gb_trans G2 g3; have X3 := X2.kept g3 (by simp); obtain ⟨W4, hW4, sz4, g4, B4⟩ := boxn w3 #[.slice none 0 0, .slice none 0 0, .bool false] 35; have hBk4 := Bk.made B4; have G4 := gb_trans G3 g4; have kR4 := kR W4 G4) | (go_at_call 14; refine kR4.mono ?_; rintro e w5 ⟨u1, rfl, ou1, g5⟩; clear kR4; have kT5 := kT w5 gx cx _ gy cy _ ((X3.kept g4 (by simp)).kept g5 (by simp)) ((Y3.kept g4 (by simp)).kept g5 (by simp))) | (go_at_call 15; refine kT5.mono ?_; rintro e w6 ⟨v1, rfl, ov1, g6⟩; clear kT5; have kD6 := addsF w3 W4 w5 w6 g4 W4.heap.size w3.heap.size (Nat.le_refl _) _ _ [] [] _ hBk4 (by decide) g5 g6 v1 u1 vA ou1 ov1 HVh.out eA) | (go_at_call 16; refine kD6.mono ?_; rintro e w7 ⟨rfl, gv7, uv7, hBk7, g7⟩; clear kD6; have kR7 := kR2 w7 (gb_trans G3 g7); clear kR2) | (go_at_call 14; refine kR7.mono ?_; rintro e w8 ⟨u2, rfl, ou2, g8⟩; clear kR7; have kT8 := kT2 w8 gx cx _ ((X3.kept g7 (by simp)).kept g8 (by simp)); clear kT2) | (go_at_call 15; refine kT8.mono ?_; rintro e w9 ⟨v2, rfl, ov2, g9⟩; clear kT8; have kD9 := addsF w3 w7 w8 w9 g7 W4.heap.size w3.heap.size (Nat.le_refl _) _ _ _ _ _ hBk7 (by simp) g8 g9 v2 u2 vB ou2 ov2 HV2h.out eB) | (go_at_call 16; refine kD9.mono ?_; rintro e w10 ⟨rfl, gv10, uv10, hBk10, g10⟩; clear kD9; have kT10 := kT w10 gx cx _ gy cy _ (X3.kept g10 (by simp)) (Y3.kept g10 (by simp)); clear kT) | (go_at_call 15; refine kT10.mono ?_; rintro e w11 ⟨v3, rfl, ov3, g11⟩; clear kT10; have kD11 := addsO w3 w10 w11 g10 W4.heap.size w3.heap.size (Nat.le_refl _) _ _ _ _ _ hBk10 (by simp) g11 v3 0 (by simp) ov3 HVh.out eA; rw [getD1] at kD11) | (go_at_call 16; refine kD11.mono ?_; rintro e w12 ⟨rfl, gv12, uv12, hBk12, g12⟩; clear kD11; have kK12 := kK1 w12 (gb_trans G3 g12) gx cx _ (X3.kept g12 (by simp)); clear kK1) | (go_at_call 12; refine kK12.mono ?_; rintro e w13 ⟨rfl, g13⟩; clear kK12; have kK13 := kK2 w13 (gb_trans G3 (gb_trans g12 g13)) gy cy _ ((Y3.kept g12 (by simp)).kept g13 (by simp)); clear kK2) | (go_at_call 12; refine kK13.mono ?_; rintro e w14 ⟨rfl, g14⟩; clear kK13) | go_in)
  have G14 := gb_trans G3 (gb_trans g12 (gb_trans g13 g14))
  have hBk14 := (hBk12.kept g13).kept g14
  have X14 := ((X3.kept g12 (by simp)).kept g13 (by simp)).kept g14 (by simp)
  have Y14 := ((Y3.kept g12 (by simp)).kept g13 (by simp)).kept g14 (by simp)
  have lx := X2.lt
  have ly := Y3.lt
  have sg1 := g1.size
  have sg2 := g2.size
  have sg3 := g3.size
  have hgxy : gx ≠ gy := by omega
  have hX0 : w14.ownsRow w1.heap.size 25 2 (.slice (some ⟨gx, 0, none⟩) (n1 + 70) cx) (n1 + 70) (fl (psL (lentF f1 n1) (n1 + 70))) := X14
  have HQ0 : Hid (∀ j, j < n1 → (psL (lentF f1 n1) (n1 + 70)).getD j (0, 0) = if j < 0 then hF f1 j else f1 j) := fun j hj => by rw [psL_at _ _ j (by omega), if_neg (by omega)]; unfold lentF; rw [if_pos hj]
  obtain ⟨V12, hV12⟩ : ∃ V, ([] ++ [v1] ++ [v2] ++ [v3] : List Value) = V := ⟨_, rfl⟩
  have hVl : V12.length = 3 := by rw [← hV12]; rfl
  rw [hV12] at hBk14
  generalize ([] ++ [u1] ++ [u2] ++ [u1] : List Value) = U12 at hBk14
  have HPP : Hid (∃ P : Nat → List Pt, (∀ i, Okp (P i)) ∧ Bk w14 W4.heap.size w3.heap.size gv12 uv12 V12 U12 P) := ⟨_, okp_if HVh.out (okp_if HV2h.out (okp_if HVh.out (fun _ => okp_nil))), hBk14⟩
  obtain ⟨PP, HOK, hBkP⟩ := HPP.out
  have HBkP : Hid (Bk w14 W4.heap.size w3.heap.size gv12 uv12 V12 U12 PP) := hBkP
  have HOKh : Hid (∀ i, Okp (PP i)) := HOK
  have HY14 : Hid (Le w14 w2.heap.size gy cy n2 f2) := Y14
  clear hBk4 hBk7 hBk10 hBk12 hBk14 hBkP HPP HOK X14 Y14 Y3 X3 X2 hV12 ou1 ou2 ov1 ov2 ov3 B4 hW4 kR
  go_loopw [21] (fun v wr => ∃ (i : Nat) (Q : List Pt), i ≤ n1 ∧ v = .int .i64 i ∧ Hid (Q.length = n1 + 70) ∧ wr.ownsRow w1.heap.size 25 2 (.slice (some ⟨gx, 0, none⟩) (n1 + 70) cx) (n1 + 70) (fl Q) ∧ Hid (∀ j, j < n1 → Q.getD j (0, 0) = if j < i then hF f1 j else f1 j) ∧ Hid (Bk wr W4.heap.size w3.heap.size gv12 uv12 V12 U12 PP) ∧ Hid (Le wr w2.heap.size gy cy n2 f2) ∧ w.grownBy wr none) (fun v _ => n1 - (intOf v).toNat)
  case atStart => exact ⟨0, _, Nat.zero_le _, rfl, psL_len _ _, hX0, HQ0.out, HBkP.out, HY14.out, G14⟩
  case round =>
    obtain ⟨i, Q, hi, rfl, HQL, own, HQ, HB, HY, gi⟩ := hrel
    by_cases hlt : i < n1
    · have hlt' : (i : Int) < (n1 : Int) := by omega
      have hq := HQ.out i hlt
      rw [if_neg (Nat.lt_irrefl _)] at hq
      obtain ⟨t0, t1⟩ := fl_at Q i (by rw [HQL.out]; omega)
      have x0 := (own.cellAt (i * 2) (by omega)).trans t0
      have y0 := own.frozenAt (i * 2)
      have hok := HO1.out i hlt
      obtain ⟨x, hx⟩ : ∃ x, (f1 i).1 = x := ⟨_, rfl⟩
      have hbd := tdiv2_bd hok.1
      rw [hq, hx] at x0
      rw [hx] at hbd
      obtain ⟨d, hd⟩ : ∃ d, Int.tdiv x 2 = d := ⟨_, rfl⟩
      rw [hd] at hbd
      have hwd : IntKind.i64.wrap d = d := by rw [IntKind.wrap_i64]; omega
      obtain ⟨own1, gs⟩ := own.stored (i * 2) (.int .i64 d)
      rw [fl_set1 Q i d (by rw [HQL.out]; omega)] at own1
      have HQL1 : Hid ((Q.set i (d, (Q.getD i (0, 0)).2)).length = n1 + 70) := by unfold Hid; rw [List.length_set]; exact HQL.out
      have HQ1 : Hid (∀ j, j < n1 → (Q.set i (d, (Q.getD i (0, 0)).2)).getD j (0, 0) = if j < i + 1 then hF f1 j else f1 j) := fun j hj => by
        rw [set_getD _ _ _ _ (by rw [HQL.out]; omega)]
        by_cases e : j = i
        · subst e
          rw [if_pos rfl, if_pos (by omega), hq]
          unfold hF
          rw [hx, hd]
        · rw [if_neg e, HQ.out j hj]
          by_cases e2 : j < i
          · rw [if_pos e2, if_pos (by omega)]
          · rw [if_neg e2, if_neg (by omega)]
      have HB1 : Hid (Bk (wr.setCell ⟨gx, i * 2, none⟩ (.int .i64 d)) W4.heap.size w3.heap.size gv12 uv12 V12 U12 PP) := HB.out.by gs (by omega)
      have HY1 : Hid (Le (wr.setCell ⟨gx, i * 2, none⟩ (.int .i64 d)) w2.heap.size gy cy n2 f2) := HY.out.kept gs (fun e => hgxy (Option.some.inj e).symm)
      have gi1 : w.grownBy (wr.setCell ⟨gx, i * 2, none⟩ (.int .i64 d)) none := gb_new gi (a := ⟨gx, i * 2, none⟩) (by simp only; omega) _
      clear hok t0 t1 HQ HB HY own hq hx
      go_wp2
      first | go_roundw | (go_quiet (fail); go_wp2; go_roundw)
      case rel => exact ⟨i + 1, _, by omega, by go_num, HQL1.out, own1, HQ1.out, HB1.out, HY1.out, gi1⟩
      case measure => simp [intOf]; omega
    · have hin : i = n1 := by omega
      have hlt' : ¬ (i : Int) < (n1 : Int) := by omega
      have PX : Pl wr (some ⟨gx, 0, none⟩) n1 (hF f1) := fun k hk => by
        obtain ⟨q, o, e, c0, c1⟩ := (pl_own own HQL.out) k (by omega)
        simp only at c0 c1
        rw [HQ.out k hk, if_pos (by omega)] at c0 c1
        exact ⟨q, o, e, c0, c1⟩
      have PY := HY.out.pl
      have oF := hF_ok HO1.out
      have kL := lentC (some ⟨gx, 0, none⟩) n1 cx (hF f1) (by omega) (fun e => by cases e) wr PX
      have kR := fun w1 (g1 : w.grownBy w1 none) gl cl bl (X : Le w1 bl gl cl n1 (hF f1)) => refTimesG (some ⟨gl, 0, none⟩) s2 n1 cl n2 c2 (hF f1) f2 (by omega) (by omega) w1 X.pl (H2.kept g1 (by simp))
      have kT := fun w1 (g1 : wr.grownBy w1 none) => timesG (some ⟨gx, 0, none⟩) (some ⟨gy, 0, none⟩) n1 cx n2 cy (hF f1) f2 oF HO2.out (by omega) (by omega) w1 (PX.kept g1 (by simp)) (PY.kept g1 (by simp))
      have HVC : Hid (Okp (tmV (hF f1) n1 f2 n2)) := tmV_ok (hF f1) n1 f2 n2
      obtain ⟨vC, hvC⟩ : ∃ x, tmV (hF f1) n1 f2 n2 = x := ⟨_, rfl⟩
      obtain ⟨eC, heC⟩ : ∃ x, tmE (hF f1) n1 f2 n2 = x := ⟨_, rfl⟩
      rw [hvC, heC] at kR kT
      rw [hvC] at HVC
      clear hvC heC own PX PY oF
      have kS := fun w1 (g1 : w.grownBy w1 none) gv uv V U P (hB : Bk w1 W4.heap.size w3.heap.size gv uv V U P) (hN : V.length < 100) (hP : ∀ i, Okp (P i)) => standsC w w1 g1 W4.heap.size w3.heap.size (by omega) gv uv V U P hB hN (fun i _ => ⟨by have := (hP i).1; omega, (hP i).2⟩)
      have sgi := gi.size
      go_wp2_with (first | (go_at_call 11; refine kL.mono ?_; rintro e w16 ⟨gl, cl, rfl, L16, g16⟩; clear kL; have kR16 := kR w16 (gb_trans gi g16) gl cl _ L16; clear kR) | (go_at_call 14; refine kR16.mono ?_; rintro e w17 ⟨u4, rfl, ou4, g17⟩; clear kR16; have kT17 := kT w17 (gb_trans g16 g17); clear kT) | (go_at_call 15; refine kT17.mono ?_; rintro e w18 ⟨v4, rfl, ov4, g18⟩; clear kT17; have kD18 := addsF w w16 w17 w18 (gb_trans gi g16) W4.heap.size w3.heap.size (by omega) _ _ _ _ _ (HB.out.kept g16) (by omega) g17 g18 v4 u4 vC ou4 ov4 HVC.out eC) | (go_at_call 16; refine kD18.mono ?_; rintro e w19 ⟨rfl, gv19, uv19, hBk19, g19⟩; clear kD18; have kS19 := kS w19 g19 _ _ _ _ _ hBk19 (by rw [List.length_append]; simp; omega) (okp_if HVC.out HOKh.out); clear kS) | (go_at_call 17; refine kS19.mono ?_; rintro e w20 ⟨rfl, g20⟩; clear kS19) | go_in)
      go_ret
      exact ⟨rfl, gb_below g20⟩
end Ln
end Go.Proofs.YtijjbejilpglnaaGreat
