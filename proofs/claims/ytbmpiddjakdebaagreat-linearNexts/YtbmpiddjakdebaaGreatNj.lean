/- laid across. -/
import Derived.Test.YtbmpiddjakdebaaGreatNt
namespace Go.Proofs.YtbmpiddjakdebaaGreat
open Go.RowKit
set_option linter.unusedVariables false
set_option linter.unusedSimpArgs false
set_option maxRecDepth 100000

namespace Ln
/-- Rows and columns exchanged. -/
theorem fl_set' : ∀ (ps : List Pt) (k : Nat) (a b : Int), ((fl ps).set (k * 2) (.int .i64 a)).set (k * 2 + 1) (.int .i64 b) = fl (ps.set k (a, b))
  | [], k, a, b => by simp [fl]
  | p :: ps, 0, a, b => rfl
  | p :: ps, k + 1, a, b => by
    rw [show (k + 1) * 2 = k * 2 + 1 + 1 by omega, show k * 2 + 1 + 1 + 1 = (k * 2 + 1) + 1 + 1 by omega]
    show .int .i64 p.1 :: .int .i64 p.2 :: (((fl ps).set (k * 2) (.int .i64 a)).set (k * 2 + 1) (.int .i64 b)) = .int .i64 p.1 :: .int .i64 p.2 :: fl (ps.set k (a, b))
    rw [fl_set' ps k a b]
theorem set_getD' (L : List Pt) (k : Nat) (p : Pt) (t : Nat) (hk : k < L.length) : (L.set k p).getD t (0, 0) = if t = k then p else L.getD t (0, 0) := by
  rw [List.getD_eq_getElem?_getD, List.getD_eq_getElem?_getD, List.getElem?_set]
  by_cases e : k = t
  · subst e; rw [if_pos rfl, if_pos hk, if_pos rfl]; rfl
  · rw [if_neg e, if_neg (fun e2 => e e2.symm)]
def swp (p : Pt) : Pt := (p.2, p.1)
set_option maxHeartbeats 2000000 in
theorem laidA (k x y t z X Y U V : Int) (sp : Option Addr) (n c : Nat) (f : Nat → Pt) (hn : n < 1000000000) (h0 : sp = none → n = 0 ∧ c = 0) (w : World) (h : Pl w sp n f) : Calls Tryz.prog 28 #[.agg #[.int .u8 k, .int .i64 x, .int .i64 y, .int .u8 t, .int .i64 z, .int .i64 X, .int .i64 Y, .int .i64 U, .int .i64 V, .bool true], .slice sp n c] w fun e w' => ∃ v, e = .returned v ∧ w'.ownsRow w.heap.size 40 2 v n (fl (psL (fun j => swp (f j)) n)) ∧ w.grownBy w' none := by
  obtain ⟨W1, hW1, sz1, g1, B1⟩ := boxn w #[.int .u8 k, .int .i64 x, .int .i64 y, .int .u8 t, .int .i64 z, .int .i64 X, .int .i64 Y, .int .i64 U, .int .i64 V, .bool true] 62
  have c0 := B1.cell 0 (v := .int .u8 k) rfl; have c1 := B1.cell 1 (v := .int .i64 x) rfl; have c2 := B1.cell 2 (v := .int .i64 y) rfl; have c3 := B1.cell 3 (v := .int .u8 t) rfl; have c4 := B1.cell 4 (v := .int .i64 z) rfl; have c5 := B1.cell 5 (v := .int .i64 X) rfl; have c6 := B1.cell 6 (v := .int .i64 Y) rfl; have c7 := B1.cell 7 (v := .int .i64 U) rfl; have c8 := B1.cell 8 (v := .int .i64 V) rfl; have c9 := B1.cell 9 (v := .bool true) rfl
  have kc := cloneC sp n c f hn h0 W1 (h.kept g1 (by simp))
  go_enter Tryz.func28, Tryz.ntmps28
  go_wp2_with (first | (go_at_call 55; refine kc.mono ?_; rintro e w2 ⟨v, rfl, own2, g2⟩; clear kc; have B2 := B1.kept g2 (by simp); have d0 := B2.cell 0 (v := .int .u8 k) rfl; have d1 := B2.cell 1 (v := .int .i64 x) rfl; have d2 := B2.cell 2 (v := .int .i64 y) rfl; have d3 := B2.cell 3 (v := .int .u8 t) rfl; have d4 := B2.cell 4 (v := .int .i64 z) rfl; have d5 := B2.cell 5 (v := .int .i64 X) rfl; have d6 := B2.cell 6 (v := .int .i64 Y) rfl; have d7 := B2.cell 7 (v := .int .i64 U) rfl; have d8 := B2.cell 8 (v := .int .i64 V) rfl; have d9 := B2.cell 9 (v := .bool true) rfl; obtain ⟨sv, cv, rfl, _, _⟩ := own_shape0 own2 (psL_len f n)) | go_in)
  have G2 := gb_trans g1 g2
  have HQ0 : Hid (∀ j, j < n → (psL f n).getD j (0, 0) = if j < 0 then swp (f j) else f j) := fun j hj => by rw [psL_at f n j hj, if_neg (by omega)]
  have s1 := g1.size
  have hb1 := B1.lt
  go_loopw [14] (fun v wr => ∃ (i : Nat) (Q : List Pt), i ≤ n ∧ v = .int .i64 i ∧ Hid (Q.length = n) ∧ wr.ownsRow W1.heap.size 40 2 (.slice sv n cv) n (fl Q) ∧ Hid (∀ j, j < n → Q.getD j (0, 0) = if j < i then swp (f j) else f j) ∧ w.grownBy wr none) (fun v _ => n - (intOf v).toNat)
  case atStart => exact ⟨0, _, Nat.zero_le _, rfl, psL_len _ _, own2, HQ0.out, G2⟩
  case round =>
    obtain ⟨i, Q, hi, rfl, HQL, own, HQ, gi⟩ := hrel
    by_cases hlt : i < n
    · have hlt' : (i : Int) < (n : Int) := by omega
      obtain ⟨g, cap, hv, hgb, hglt⟩ := own.form (by omega)
      injection hv with hv1 hv2 hv3
      subst hv1
      subst hv3
      have hq := HQ.out i hlt
      rw [if_neg (Nat.lt_irrefl _)] at hq
      obtain ⟨t0, t1⟩ := fl_at Q i (by rw [HQL.out]; exact hlt)
      rw [hq] at t0 t1
      have x0 := (own.cellAt (i * 2) (by omega)).trans t0
      have x1 := (own.cellAt (i * 2 + 1) (by omega)).trans t1
      obtain ⟨pp, hpp⟩ : ∃ p, f i = p := ⟨_, rfl⟩
      have HPP : Hid (f i = pp) := hpp
      rw [hpp] at x0 x1
      clear hpp t0 t1
      obtain ⟨a, b⟩ := pp
      simp only at x0 x1
      obtain ⟨W3, hW3, sz3, g3, B3⟩ := boxn wr #[.int .i64 a, .int .i64 b] 40
      have e0 := B3.cell 0 (v := .int .i64 a) rfl
      have e1 := B3.cell 1 (v := .int .i64 b) rfl
      have own3 := own.kept g3 (Classical.em _)
      have y0 := g3.cell x0 (by simp)
      have y1 := g3.cell x1 (by simp)
      have z0 := own3.frozenAt (i * 2)
      have z1 := own3.frozenAt (i * 2 + 1)
      obtain ⟨ow1, gs1⟩ := own3.stored (i * 2) (.int .i64 b)
      obtain ⟨ow2, gs2⟩ := ow1.stored (i * 2 + 1) (.int .i64 a)
      rw [fl_set'] at ow2
      have hgne : wr.heap.size ≠ g := by omega
      have hgne2 : g ≠ wr.heap.size := by omega
      have HQL1 : Hid ((Q.set i (b, a)).length = n) := by unfold Hid; rw [List.length_set]; exact HQL.out
      have HQ1 : Hid (∀ j, j < n → (Q.set i (b, a)).getD j (0, 0) = if j < i + 1 then swp (f j) else f j) := fun j hj => by
        rw [set_getD' _ _ _ _ (by rw [HQL.out]; exact hlt)]
        by_cases e : j = i
        · subst e
          rw [if_pos rfl, if_pos (by omega), HPP.out]
          rfl
        · rw [if_neg e, HQ.out j hj]
          by_cases e2 : j < i
          · rw [if_pos e2, if_pos (by omega)]
          · rw [if_neg e2, if_neg (by omega)]
      have gi1 : w.grownBy ((W3.setCell ⟨g, i * 2, none⟩ (.int .i64 b)).setCell ⟨g, i * 2 + 1, none⟩ (.int .i64 a)) none := gb_new (gb_new (gb_trans gi g3) (a := ⟨g, i * 2, none⟩) (by simp only; omega) _) (a := ⟨g, i * 2 + 1, none⟩) (by simp only; omega) _
      clear own own3 ow1 HQ hq
      go_wp2
      first | go_roundw | (go_quiet (fail); go_wp2; go_roundw)
      case rel => exact ⟨i + 1, _, by omega, by go_num, HQL1.out, ow2, HQ1.out, gi1⟩
      case measure => simp [intOf]; omega
    · have hin : i = n := by omega
      subst hin
      have hlt' : ¬ (i : Int) < (i : Int) := by omega
      have hQ : Q = psL (fun j => swp (f j)) i := by
        apply List.ext_getElem?
        intro t
        by_cases ht : t < i
        · have := HQ.out t ht
          rw [if_pos ht, List.getD_eq_getElem?_getD, List.getElem?_eq_getElem (by rw [HQL.out]; exact ht)] at this
          rw [List.getElem?_eq_getElem (by rw [HQL.out]; exact ht)]
          have h2 := psL_at (fun j => swp (f j)) i t ht
          rw [List.getD_eq_getElem?_getD, List.getElem?_eq_getElem (by rw [psL_len]; exact ht)] at h2
          rw [List.getElem?_eq_getElem (by rw [psL_len]; exact ht)]
          congr 1
          exact this.trans h2.symm
        · rw [List.getElem?_eq_none (by have := HQL.out; omega), List.getElem?_eq_none (by rw [psL_len]; omega)]
      rw [hQ] at own
      go_wp2
      go_ret
      exact ⟨_, rfl, own_less own g1.size, gi⟩
end Ln
end Go.Proofs.YtbmpiddjakdebaaGreat
namespace Go.Proofs.YtbmpiddjakdebaaGreat
open Go.RowKit
set_option linter.unusedVariables false
set_option linter.unusedSimpArgs false
set_option maxRecDepth 100000

namespace Ln
theorem chk_ac {k x y t z : Int} (ht : 0 ≤ t) (h : Tp.chk k x y t z = 0) : Tp.chk k y x (To.acT t) z = 0 ∧ 0 ≤ To.acT t := by
  unfold Tp.chk at h
  unfold Tp.chk To.acT
  split at h
  · omega
  · split at h
    · omega
    · split at h
      · omega
      · split at h
        · omega
        · rename_i h1 h2 h3 h4
          have ht2 : t = 0 ∨ t = 1 ∨ t = 2 := by omega
          rcases ht2 with rfl | rfl | rfl
          · simp at h ⊢
            rw [if_neg (by omega), if_neg (by omega), if_neg (by omega), if_neg (by omega), if_pos h]
          · have e1 : Tp.sd y x 2 = x := rfl
            have e2 : Tp.sd x y 1 = x := rfl
            simp at h ⊢
            rw [e2] at h
            rw [e1, if_neg (by omega), if_neg (by omega), if_neg (by omega), if_neg (by omega)]
            split at h
            · omega
            · split at h
              · omega
              · rw [if_neg (by omega), if_neg (by omega)]
          · have e1 : Tp.sd y x 1 = y := rfl
            have e2 : Tp.sd x y 2 = y := rfl
            simp at h ⊢
            rw [e2] at h
            rw [e1, if_neg (by omega), if_neg (by omega), if_neg (by omega), if_neg (by omega)]
            split at h
            · omega
            · split at h
              · omega
              · rw [if_neg (by omega), if_neg (by omega)]
set_option maxHeartbeats 2000000 in
theorem torusOfA (k x y t z : Int) (ht : 0 ≤ t) (hc : Tp.chk k x y t z = 0) (ha : t = 2 ∨ (t = 0 ∧ x < y)) (w : World) : Calls Tryz.prog 27 #[.agg #[.int .u8 k, .int .i64 x, .int .i64 y, .int .u8 t, .int .i64 z]] w fun e w' => e = .returned (.agg #[.int .u8 k, .int .i64 y, .int .i64 x, .int .u8 (To.acT t), .int .i64 z, .int .i64 (To.fi y), .int .i64 (To.fi x), .int .i64 y, .int .i64 x, .bool true]) ∧ w.grownBy w' none := by
  obtain ⟨hc2, ht2⟩ := chk_ac ht hc
  have ka := fun w1 => To.acrossC k x y t z ht w1
  unfold To.acrossV at ka
  rw [if_pos hc, hc] at ka
  have kh := fun w1 => To.homeC k y x (To.acT t) z ht2 w1
  unfold To.homeV at kh
  rw [if_pos hc2, hc2] at kh
  generalize To.acT t = t2 at ka kh ⊢
  generalize To.fi y = X at kh ⊢
  generalize To.fi x = Y at kh ⊢
  obtain ⟨W1, hW1, sz1, g1, B1⟩ := boxn w #[.int .u8 k, .int .i64 x, .int .i64 y, .int .u8 t, .int .i64 z] 23
  obtain ⟨W2, hW2, sz2, g2, B2⟩ := boxn W1 #[.int .u8 0, .int .i64 0, .int .i64 0, .int .u8 0, .int .i64 0, .int .i64 0, .int .i64 0, .int .i64 0, .int .i64 0, .bool false] 62
  have B12 := B1.kept g2 (by simp)
  have c0 := B12.cell 0 (v := .int .u8 k) rfl; have c1 := B12.cell 1 (v := .int .i64 x) rfl; have c2 := B12.cell 2 (v := .int .i64 y) rfl; have c3 := B12.cell 3 (v := .int .u8 t) rfl; have c4 := B12.cell 4 (v := .int .i64 z) rfl
  obtain ⟨fs, hfs⟩ := underG
  have hl1 := B1.lt
  have hne : w.heap.size ≠ W1.heap.size := by omega
  have hne2 : W1.heap.size ≠ w.heap.size := by omega
  have s1 := g1.size
  clear hc hc2 ht2
  rcases ha with rfl | ⟨rfl, hxy⟩
  · go_enter Tryz.func27, Tryz.ntmps27
    go_wp2_with (first | (go_at_call 53; refine (ka _).mono ?_; rintro e w3 ⟨rfl, g3⟩; have B13 := B12.kept g3 (by simp); have B23 := B2.kept g3 (by simp); have m0 := B13.cell 0 (v := .int .u8 k) rfl; have m1 := B13.cell 1 (v := .int .i64 x) rfl; have m2 := B13.cell 2 (v := .int .i64 y) rfl; have m3 := B13.cell 3 (v := .int .u8 2) rfl; have m4 := B13.cell 4 (v := .int .i64 z) rfl; have f0 := B13.frozen 0; have f1 := B13.frozen 1; have f2 := B13.frozen 2; have f3 := B13.frozen 3; have f4 := B13.frozen 4; obtain ⟨W5, hW5⟩ : ∃ W, (((((w3.setCell ⟨w.heap.size, 0, none⟩ (.int .u8 k)).setCell ⟨w.heap.size, 1, none⟩ (.int .i64 y)).setCell ⟨w.heap.size, 2, none⟩ (.int .i64 x)).setCell ⟨w.heap.size, 3, none⟩ (.int .u8 t2)).setCell ⟨w.heap.size, 4, none⟩ (.int .i64 z)) = W := ⟨_, rfl⟩; have B15 : Bo W5 w.heap.size 23 #[.int .u8 k, .int .i64 y, .int .i64 x, .int .u8 t2, .int .i64 z] := (by rw [← hW5]; simpa using (((((B13.set 0 (.int .u8 k)).set 1 (.int .i64 y)).set 2 (.int .i64 x)).set 3 (.int .u8 t2)).set 4 (.int .i64 z))); have g35 : w3.grownBy W5 (some w.heap.size) := (by rw [← hW5]; exact (gb_set (gb_set (gb_set (gb_set (gb_set (World.grownBy.refl _ _) 0 (.int .u8 k)) 1 (.int .i64 y)) 2 (.int .i64 x)) 3 (.int .u8 t2)) 4 (.int .i64 z))); have B25 := B23.kept g35 (fun e => hne2 (Option.some.inj e)); have n0 := B15.cell 0 (v := .int .u8 k) rfl; have n1 := B15.cell 1 (v := .int .i64 y) rfl; have n2 := B15.cell 2 (v := .int .i64 x) rfl; have n3 := B15.cell 3 (v := .int .u8 t2) rfl; have n4 := B15.cell 4 (v := .int .i64 z) rfl; have G5 : w.grownBy W5 none := (gb_trans g1 (gb_trans g2 g3)).andThen g35 (fun j hj => .inl (by injection hj with hj; omega))) | (go_at_call 54; refine (kh _).mono ?_; rintro e w6 ⟨rfl, g6⟩; obtain ⟨W7, hW7, sz7, g7, B7⟩ := boxn w6 #[.int .i64 X, .int .i64 Y, .int .i64 y, .int .i64 x] 60; have B17 := (B15.kept g6 (by simp)).kept g7 (by simp); have B27 := (B25.kept g6 (by simp)).kept g7 (by simp); have G7 := gb_trans G5 (gb_trans g6 g7); have p0 := B17.cell 0 (v := .int .u8 k) rfl; have p1 := B17.cell 1 (v := .int .i64 y) rfl; have p2 := B17.cell 2 (v := .int .i64 x) rfl; have p3 := B17.cell 3 (v := .int .u8 t2) rfl; have p4 := B17.cell 4 (v := .int .i64 z) rfl; have q0 := B27.cell 0 (v := .int .u8 0) rfl; have q1 := B27.cell 1 (v := .int .i64 0) rfl; have q2 := B27.cell 2 (v := .int .i64 0) rfl; have q3 := B27.cell 3 (v := .int .u8 0) rfl; have q4 := B27.cell 4 (v := .int .i64 0) rfl; have q5 := B27.cell 5 (v := .int .i64 0) rfl; have q6 := B27.cell 6 (v := .int .i64 0) rfl; have q7 := B27.cell 7 (v := .int .i64 0) rfl; have q8 := B27.cell 8 (v := .int .i64 0) rfl; have q9 := B27.cell 9 (v := .bool false) rfl; have r0 := B27.frozen 0; have r1 := B27.frozen 1; have r2 := B27.frozen 2; have r3 := B27.frozen 3; have r4 := B27.frozen 4; have r5 := B27.frozen 5; have r6 := B27.frozen 6; have r7 := B27.frozen 7; have r8 := B27.frozen 8; have r9 := B27.frozen 9; have h0 := B7.cell 0 (v := .int .i64 X) rfl; have h1 := B7.cell 1 (v := .int .i64 Y) rfl; have h2 := B7.cell 2 (v := .int .i64 y) rfl; have h3 := B7.cell 3 (v := .int .i64 x) rfl) | go_in)
    refine ret_c1 (g := W1.heap.size) (cs := #[.int .u8 k, .int .i64 y, .int .i64 x, .int .u8 t2, .int .i64 z, .int .i64 X, .int .i64 Y, .int .i64 y, .int .i64 x, .bool true]) rfl hfs infoG10 rfl (bo10 B27) rfl ⟨rfl, gb10 G7 g1.size⟩
  · go_enter Tryz.func27, Tryz.ntmps27
    go_wp2_with (first | (go_at_call 53; refine (ka _).mono ?_; rintro e w3 ⟨rfl, g3⟩; have B13 := B12.kept g3 (by simp); have B23 := B2.kept g3 (by simp); have m0 := B13.cell 0 (v := .int .u8 k) rfl; have m1 := B13.cell 1 (v := .int .i64 x) rfl; have m2 := B13.cell 2 (v := .int .i64 y) rfl; have m3 := B13.cell 3 (v := .int .u8 0) rfl; have m4 := B13.cell 4 (v := .int .i64 z) rfl; have f0 := B13.frozen 0; have f1 := B13.frozen 1; have f2 := B13.frozen 2; have f3 := B13.frozen 3; have f4 := B13.frozen 4; obtain ⟨W5, hW5⟩ : ∃ W, (((((w3.setCell ⟨w.heap.size, 0, none⟩ (.int .u8 k)).setCell ⟨w.heap.size, 1, none⟩ (.int .i64 y)).setCell ⟨w.heap.size, 2, none⟩ (.int .i64 x)).setCell ⟨w.heap.size, 3, none⟩ (.int .u8 t2)).setCell ⟨w.heap.size, 4, none⟩ (.int .i64 z)) = W := ⟨_, rfl⟩; have B15 : Bo W5 w.heap.size 23 #[.int .u8 k, .int .i64 y, .int .i64 x, .int .u8 t2, .int .i64 z] := (by rw [← hW5]; simpa using (((((B13.set 0 (.int .u8 k)).set 1 (.int .i64 y)).set 2 (.int .i64 x)).set 3 (.int .u8 t2)).set 4 (.int .i64 z))); have g35 : w3.grownBy W5 (some w.heap.size) := (by rw [← hW5]; exact (gb_set (gb_set (gb_set (gb_set (gb_set (World.grownBy.refl _ _) 0 (.int .u8 k)) 1 (.int .i64 y)) 2 (.int .i64 x)) 3 (.int .u8 t2)) 4 (.int .i64 z))); have B25 := B23.kept g35 (fun e => hne2 (Option.some.inj e)); have n0 := B15.cell 0 (v := .int .u8 k) rfl; have n1 := B15.cell 1 (v := .int .i64 y) rfl; have n2 := B15.cell 2 (v := .int .i64 x) rfl; have n3 := B15.cell 3 (v := .int .u8 t2) rfl; have n4 := B15.cell 4 (v := .int .i64 z) rfl; have G5 : w.grownBy W5 none := (gb_trans g1 (gb_trans g2 g3)).andThen g35 (fun j hj => .inl (by injection hj with hj; omega))) | (go_at_call 54; refine (kh _).mono ?_; rintro e w6 ⟨rfl, g6⟩; obtain ⟨W7, hW7, sz7, g7, B7⟩ := boxn w6 #[.int .i64 X, .int .i64 Y, .int .i64 y, .int .i64 x] 60; have B17 := (B15.kept g6 (by simp)).kept g7 (by simp); have B27 := (B25.kept g6 (by simp)).kept g7 (by simp); have G7 := gb_trans G5 (gb_trans g6 g7); have p0 := B17.cell 0 (v := .int .u8 k) rfl; have p1 := B17.cell 1 (v := .int .i64 y) rfl; have p2 := B17.cell 2 (v := .int .i64 x) rfl; have p3 := B17.cell 3 (v := .int .u8 t2) rfl; have p4 := B17.cell 4 (v := .int .i64 z) rfl; have q0 := B27.cell 0 (v := .int .u8 0) rfl; have q1 := B27.cell 1 (v := .int .i64 0) rfl; have q2 := B27.cell 2 (v := .int .i64 0) rfl; have q3 := B27.cell 3 (v := .int .u8 0) rfl; have q4 := B27.cell 4 (v := .int .i64 0) rfl; have q5 := B27.cell 5 (v := .int .i64 0) rfl; have q6 := B27.cell 6 (v := .int .i64 0) rfl; have q7 := B27.cell 7 (v := .int .i64 0) rfl; have q8 := B27.cell 8 (v := .int .i64 0) rfl; have q9 := B27.cell 9 (v := .bool false) rfl; have r0 := B27.frozen 0; have r1 := B27.frozen 1; have r2 := B27.frozen 2; have r3 := B27.frozen 3; have r4 := B27.frozen 4; have r5 := B27.frozen 5; have r6 := B27.frozen 6; have r7 := B27.frozen 7; have r8 := B27.frozen 8; have r9 := B27.frozen 9; have h0 := B7.cell 0 (v := .int .i64 X) rfl; have h1 := B7.cell 1 (v := .int .i64 Y) rfl; have h2 := B7.cell 2 (v := .int .i64 y) rfl; have h3 := B7.cell 3 (v := .int .i64 x) rfl) | go_in)
    refine ret_c1 (g := W1.heap.size) (cs := #[.int .u8 k, .int .i64 y, .int .i64 x, .int .u8 t2, .int .i64 z, .int .i64 X, .int .i64 Y, .int .i64 y, .int .i64 x, .bool true]) rfl hfs infoG10 rfl (bo10 B27) rfl ⟨rfl, gb10 G7 g1.size⟩
end Ln
end Go.Proofs.YtbmpiddjakdebaaGreat
namespace Go.Proofs.YtbmpiddjakdebaaGreat
open Go.RowKit
set_option linter.unusedVariables false
set_option linter.unusedSimpArgs false
set_option maxRecDepth 100000

namespace Ln
theorem psL_map (cs : List Pt) : psL (fun k => swp (cs.getD k (0, 0))) cs.length = cs.map swp := by
  have h := psL_self cs
  unfold psL at h ⊢
  conv => rhs; rw [← h]
  rw [List.map_map]
  rfl
set_option maxHeartbeats 4000000 in
theorem jumpYA (k x y t z : Int) (ht : 0 ≤ t) (ha : t = 2 ∨ (t = 0 ∧ x < y)) (s1 : Option Addr) (n c1 : Nat) (f : Nat → Pt) (hf : ∀ k, k < n → PtOk (f k)) (hn : n < 1073741824) (h01 : s1 = none → n = 0 ∧ c1 = 0) (s2 : Option Addr) (m c2 : Nat) (h : Nat → Pt) (hh : ∀ k, k < m → PtOk (h k)) (hm : m < 1000000000) (h02 : s2 = none → m = 0 ∧ c2 = 0) (g : Nat) (hg : g ≤ 1125899906842624) (hgl : (lpL k y x (To.acT t) z (mvT k y x (To.acT t) z 1 (fun j => neg (swp (f j))) n) g).length ≤ 64) (w : World) (H1 : Pl w s1 n f) (H2 : Pl w s2 m h) (hE : jpE k x y t z f n h m g = 0) :
    Calls Tryz.prog 14 #[.agg #[.int .u8 k, .int .i64 x, .int .i64 y, .int .u8 t, .int .i64 z], .slice s1 n c1, .slice s2 m c2, .int .i64 g] w fun e w' => ∃ (v : Value) (L : List (List Pt)) (nx : List Pt), e = .returned (.tuple #[v, .int .i64 0]) ∧ w'.ownsRow w.heap.size 40 2 v nx.length (fl (srt (nx.map swp))) ∧ L.Perm (lpL k y x (To.acT t) z (mvT k y x (To.acT t) z 1 (fun j => neg (swp (f j))) n) g) ∧ runI k y x (To.acT t) z (To.fi y) (fun i => L.getD i []) L.length (psL (fun j => swp (h j)) m) nx ∧ w.grownBy w' none := by
  obtain ⟨hc, hk, hx, hy, hO, hL, hG, hxy⟩ := jpE_zero hE
  obtain ⟨htw, hin⟩ := ceL_zero hx.1 hy.1 hL
  obtain ⟨hn64, haw, htw1⟩ := ckO_zero hO
  have hfb : ∀ j, j < n → (-1099511627776 ≤ (f j).1 ∧ (f j).1 ≤ 1099511627776) ∧ (-1099511627776 ≤ (f j).2 ∧ (f j).2 ≤ 1099511627776) := fun j hj => by
    have := (alW_is _ f n).1 haw j hj
    rw [inW_is, inW_is] at this
    exact this
  obtain ⟨hc2, ht2⟩ := chk_ac ht hc
  have hCell := fun p => cellP_in (t := To.acT t) (z := z) hk hy.1 hx.1 p
  have kJ := fun w1 (g1 : w.grownBy w1 none) => checkJumpC k x y t z ht s1 n c1 f hf hn s2 m c2 h hh (by omega) (g : Int) w1 (H1.kept g1 (by simp)) (H2.kept g1 (by simp))
  have kT := fun w1 => torusOfA k x y t z ht hc ha w1
  have hfx : To.fi y = -(y / 2) := rfl
  have hfy : To.fi x = -(x / 2) := rfl
  rw [hE] at kJ
  obtain ⟨t2, ht2e⟩ : ∃ t2, To.acT t = t2 := ⟨_, rfl⟩
  rw [ht2e] at kT hCell ht2 hgl ⊢
  obtain ⟨X, hX⟩ : ∃ X, To.fi y = X := ⟨_, rfl⟩
  obtain ⟨Y, hY⟩ : ∃ Y, To.fi x = Y := ⟨_, rfl⟩
  rw [hX] at hfx
  rw [hY] at hfy
  rw [hX, hY] at kT hCell hin
  rw [hX]
  clear hX hY ht2e hc2
  have hXb : -65536 ≤ X ∧ X ≤ 65536 := by omega
  have hB : ∀ p, -65536 ≤ (cellP k y x t2 z p).1 ∧ (cellP k y x t2 z p).1 ≤ 65536 ∧ -65536 ≤ (cellP k y x t2 z p).2 ∧ (cellP k y x t2 z p).2 ≤ 65536 := fun p => by have := hCell p; omega
  have hI0 : InT y x X Y (psL (fun j => swp (h j)) m) := fun p hp => by
    unfold psL at hp
    obtain ⟨j, hj, rfl⟩ := List.mem_map.1 hp
    have := hin j (List.mem_range.1 hj)
    exact ⟨this.2, this.1⟩
  have HI0 : Hid (InT y x X Y (psL (fun j => swp (h j)) m)) := hI0
  have hyx : x.toNat * y.toNat ≤ 1048576 := by
    have e : ((x.toNat * y.toNat : Nat) : Int) = x * y := by
      rw [Int.natCast_mul, Int.toNat_of_nonneg (by omega), Int.toNat_of_nonneg (by omega)]
    omega
  have kLc := fun w1 (g1 : w.grownBy w1 none) => laidA k y x t2 z X Y y x s2 m c2 h hm h02 w1 (H2.kept g1 (by simp))
  have kLo := fun w1 (g1 : w.grownBy w1 none) => laidA k y x t2 z X Y y x s1 n c1 f (by omega) h01 w1 (H1.kept g1 (by simp))
  have kB := fun (w1 : World) (sp : Option Addr) (cap : Nat) (hP : Pl w1 sp n (fun j => swp (f j))) => backwardC sp n cap (fun j => swp (f j)) (fun j hj => by have := hfb j hj; unfold swp; simp only; omega) (by omega) w1 hP
  have kP := fun (w1 : World) (gb : Nat) (hP : Pl w1 (some ⟨gb, 0, none⟩) n (fun j => neg (swp (f j)))) => leapsC k y x t2 z X Y y x true ht2 hB (some ⟨gb, 0, none⟩) n n (fun j => neg (swp (f j))) (fun j hj => by have := hfb j hj; unfold neg swp; simp only; omega) (by omega) g hg hgl w1 hP
  obtain ⟨LL, hLL⟩ : ∃ LL, lpL k y x t2 z (mvT k y x t2 z 1 (fun j => neg (swp (f j))) n) g = LL := ⟨_, rfl⟩
  have HLF : Hid (∀ l ∈ LL, (∀ p ∈ l, ∃ q, p = cellP k y x t2 z q) ∧ l.length ≤ n) := fun l hl => by
    rw [← hLL] at hl
    obtain ⟨a, b⟩ := lpL_facts k y x t2 z g _ (fun p hp => mvT_mem hp) l hl
    exact ⟨a, Nat.le_trans b (mvT_len _ _ _ _ _ _ _ _)⟩
  have hLg : LL.length ≤ 64 := by rw [← hLL]; exact hgl
  rw [hLL] at kP ⊢
  clear hLL
  have hpf : ∀ j, j < n → (psL (fun j => swp (f j)) n).getD j (0, 0) = swp (f j) := fun j hj => psL_at (fun j => swp (f j)) n j hj
  have HPF : Hid (∀ j, j < n → (psL (fun j => swp (f j)) n).getD j (0, 0) = swp (f j)) := hpf
  have HPL : Hid ((psL (fun j => swp (f j)) n).length = n) := psL_len (fun j => swp (f j)) n
  have HHL : Hid ((psL (fun j => swp (h j)) m).length = m) := psL_len (fun j => swp (h j)) m
  obtain ⟨cs0, hcs0⟩ : ∃ cs0, psL (fun j => swp (h j)) m = cs0 := ⟨_, rfl⟩
  obtain ⟨fs0, hfs0⟩ : ∃ fs0, psL (fun j => swp (f j)) n = fs0 := ⟨_, rfl⟩
  rw [hcs0] at kLc HI0 HHL ⊢
  rw [hfs0] at kLo HPF HPL
  clear hcs0 hfs0 hpf hI0 hin hfb htw htw1 haw hO hL hE hc hgl
  obtain ⟨W1, hW1, sz1, g1, B1⟩ := boxn w #[.int .u8 k, .int .i64 x, .int .i64 y, .int .u8 t, .int .i64 z] 23
  have c0 := B1.cell 0 (v := .int .u8 k) rfl; have c1 := B1.cell 1 (v := .int .i64 x) rfl; have c2 := B1.cell 2 (v := .int .i64 y) rfl; have c3 := B1.cell 3 (v := .int .u8 t) rfl; have c4 := B1.cell 4 (v := .int .i64 z) rfl
  have kJ1 := kJ W1 g1
  clear kJ
  have HCell : Hid (∀ p, (X ≤ (cellP k y x t2 z p).1 ∧ (cellP k y x t2 z p).1 < X + y) ∧ (Y ≤ (cellP k y x t2 z p).2 ∧ (cellP k y x t2 z p).2 < Y + x)) := hCell
  have HB : Hid (∀ p, -65536 ≤ (cellP k y x t2 z p).1 ∧ (cellP k y x t2 z p).1 ≤ 65536 ∧ -65536 ≤ (cellP k y x t2 z p).2 ∧ (cellP k y x t2 z p).2 ≤ 65536) := hB
  have HX : Hid ((1 ≤ y ∧ y ≤ 65536) ∧ (-65536 ≤ X ∧ X ≤ 65536)) := ⟨hy, hXb⟩
  have HYX : Hid (x.toNat * y.toNat ≤ 1048576 ∧ 0 ≤ t2 ∧ n ≤ 64) := ⟨hyx, ht2, hn64⟩
  have HXY : Hid (X = -(y / 2) ∧ Y = -(x / 2) ∧ 1 ≤ x ∧ x ≤ 65536) := ⟨hfx, hfy, hx.1, hx.2⟩
  clear hCell hB hk hx hy hG hxy hyx hfx hfy hXb h01 h02 ha hf hh hn64 hn ht ht2
  go_enter Tryz.func14, Tryz.ntmps14
  go_wp2_with (first | (go_at_call 26; refine kJ1.mono ?_; rintro e w2 ⟨rfl, g2⟩; have B2 := B1.kept g2 (by simp); have d0 := B2.cell 0 (v := .int .u8 k) rfl; have d1 := B2.cell 1 (v := .int .i64 x) rfl; have d2 := B2.cell 2 (v := .int .i64 y) rfl; have d3 := B2.cell 3 (v := .int .u8 t) rfl; have d4 := B2.cell 4 (v := .int .i64 z) rfl) | (go_at_call 27; refine (kT _).mono ?_; rintro e w3 ⟨rfl, g3⟩; obtain ⟨W4, hW4, sz4, g4, B4⟩ := boxn w3 #[.int .u8 0, .int .i64 0, .int .i64 0, .int .u8 0, .int .i64 0, .int .i64 0, .int .i64 0, .int .i64 0, .int .i64 0, .bool false] 62; have e0 := B4.cell 0 (v := .int .u8 0) rfl; have e1 := B4.cell 1 (v := .int .i64 0) rfl; have e2 := B4.cell 2 (v := .int .i64 0) rfl; have e3 := B4.cell 3 (v := .int .u8 0) rfl; have e4 := B4.cell 4 (v := .int .i64 0) rfl; have e5 := B4.cell 5 (v := .int .i64 0) rfl; have e6 := B4.cell 6 (v := .int .i64 0) rfl; have e7 := B4.cell 7 (v := .int .i64 0) rfl; have e8 := B4.cell 8 (v := .int .i64 0) rfl; have e9 := B4.cell 9 (v := .bool false) rfl; have f0 := B4.frozen 0; have f1 := B4.frozen 1; have f2 := B4.frozen 2; have f3 := B4.frozen 3; have f4 := B4.frozen 4; have f5 := B4.frozen 5; have f6 := B4.frozen 6; have f7 := B4.frozen 7; have f8 := B4.frozen 8; have f9 := B4.frozen 9; have G4z := gb_trans g1 (gb_trans g2 (gb_trans g3 g4)); have hs3 : w.heap.size ≤ w3.heap.size := (gb_trans g1 (gb_trans g2 g3)).size; have B5z : Bo ((((((((((W4.setCell ⟨w3.heap.size, 0, none⟩ (.int .u8 k)).setCell ⟨w3.heap.size, 1, none⟩ (.int .i64 y)).setCell ⟨w3.heap.size, 2, none⟩ (.int .i64 x)).setCell ⟨w3.heap.size, 3, none⟩ (.int .u8 t2)).setCell ⟨w3.heap.size, 4, none⟩ (.int .i64 z)).setCell ⟨w3.heap.size, 5, none⟩ (.int .i64 X)).setCell ⟨w3.heap.size, 6, none⟩ (.int .i64 Y)).setCell ⟨w3.heap.size, 7, none⟩ (.int .i64 y)).setCell ⟨w3.heap.size, 8, none⟩ (.int .i64 x)).setCell ⟨w3.heap.size, 9, none⟩ (.bool true)) w3.heap.size 62 #[.int .u8 k, .int .i64 y, .int .i64 x, .int .u8 t2, .int .i64 z, .int .i64 X, .int .i64 Y, .int .i64 y, .int .i64 x, .bool true] := bo10 B4; have G4 : w.grownBy ((((((((((W4.setCell ⟨w3.heap.size, 0, none⟩ (.int .u8 k)).setCell ⟨w3.heap.size, 1, none⟩ (.int .i64 y)).setCell ⟨w3.heap.size, 2, none⟩ (.int .i64 x)).setCell ⟨w3.heap.size, 3, none⟩ (.int .u8 t2)).setCell ⟨w3.heap.size, 4, none⟩ (.int .i64 z)).setCell ⟨w3.heap.size, 5, none⟩ (.int .i64 X)).setCell ⟨w3.heap.size, 6, none⟩ (.int .i64 Y)).setCell ⟨w3.heap.size, 7, none⟩ (.int .i64 y)).setCell ⟨w3.heap.size, 8, none⟩ (.int .i64 x)).setCell ⟨w3.heap.size, 9, none⟩ (.bool true)) none := gb10 G4z hs3; obtain ⟨W5, hW5⟩ : ∃ W, ((((((((((W4.setCell ⟨w3.heap.size, 0, none⟩ (.int .u8 k)).setCell ⟨w3.heap.size, 1, none⟩ (.int .i64 y)).setCell ⟨w3.heap.size, 2, none⟩ (.int .i64 x)).setCell ⟨w3.heap.size, 3, none⟩ (.int .u8 t2)).setCell ⟨w3.heap.size, 4, none⟩ (.int .i64 z)).setCell ⟨w3.heap.size, 5, none⟩ (.int .i64 X)).setCell ⟨w3.heap.size, 6, none⟩ (.int .i64 Y)).setCell ⟨w3.heap.size, 7, none⟩ (.int .i64 y)).setCell ⟨w3.heap.size, 8, none⟩ (.int .i64 x)).setCell ⟨w3.heap.size, 9, none⟩ (.bool true)) = W := ⟨_, rfl⟩; rw [hW5] at B5z G4; have y0 := B5z.cell 0 (v := .int .u8 k) rfl; have y1 := B5z.cell 1 (v := .int .i64 y) rfl; have y2 := B5z.cell 2 (v := .int .i64 x) rfl; have y3 := B5z.cell 3 (v := .int .u8 t2) rfl; have y4 := B5z.cell 4 (v := .int .i64 z) rfl; have y5 := B5z.cell 5 (v := .int .i64 X) rfl; have y6 := B5z.cell 6 (v := .int .i64 Y) rfl; have y7 := B5z.cell 7 (v := .int .i64 y) rfl; have y8 := B5z.cell 8 (v := .int .i64 x) rfl; have y9 := B5z.cell 9 (v := .bool true) rfl; have kLc4 := kLc W5 G4) | (go_at_call 28; refine kLc4.mono ?_; rintro e w5 ⟨vl, rfl, ownL, g5⟩; have B5 := (B5z.kept g5 (by simp)).dr; have a0 := B5.cell 0 (v := .int .u8 k) rfl; have a1 := B5.cell 1 (v := .int .i64 y) rfl; have a2 := B5.cell 2 (v := .int .i64 x) rfl; have a3 := B5.cell 3 (v := .int .u8 t2) rfl; have a4 := B5.cell 4 (v := .int .i64 z) rfl; have a5 := B5.cell 5 (v := .int .i64 X) rfl; have a6 := B5.cell 6 (v := .int .i64 Y) rfl; have a7 := B5.cell 7 (v := .int .i64 y) rfl; have a8 := B5.cell 8 (v := .int .i64 x) rfl; have a9 := B5.cell 9 (v := .bool true) rfl; have G5 := gb_drew (gb_trans G4 g5); have kLo5 := kLo w5.drew G5) | go_in)
  go_region_held2 (fun w' => w'.cell? ⟨w3.heap.size, 0, none⟩ = some (.int .u8 k) ∧ w'.cell? ⟨w3.heap.size, 1, none⟩ = some (.int .i64 y) ∧ w'.cell? ⟨w3.heap.size, 2, none⟩ = some (.int .i64 x) ∧ w'.cell? ⟨w3.heap.size, 3, none⟩ = some (.int .u8 t2) ∧ w'.cell? ⟨w3.heap.size, 4, none⟩ = some (.int .i64 z) ∧ w'.cell? ⟨w3.heap.size, 5, none⟩ = some (.int .i64 X) ∧ w'.cell? ⟨w3.heap.size, 6, none⟩ = some (.int .i64 Y) ∧ w'.cell? ⟨w3.heap.size, 7, none⟩ = some (.int .i64 y) ∧ w'.cell? ⟨w3.heap.size, 8, none⟩ = some (.int .i64 x) ∧ w'.cell? ⟨w3.heap.size, 9, none⟩ = some (.bool true)) (go_keep) (first | (go_at_call 28; refine kLo5.mono ?_; rintro e w6 ⟨vo, rfl, ownO, g6⟩; obtain ⟨so, co, rfl, PO, _⟩ := own_shape0 ownO HPL.out; have B6 := B5.kept g6 (by simp); have b0 := B6.cell 0 (v := .int .u8 k) rfl; have b1 := B6.cell 1 (v := .int .i64 y) rfl; have b2 := B6.cell 2 (v := .int .i64 x) rfl; have b3 := B6.cell 3 (v := .int .u8 t2) rfl; have b4 := B6.cell 4 (v := .int .i64 z) rfl; have b5 := B6.cell 5 (v := .int .i64 X) rfl; have b6 := B6.cell 6 (v := .int .i64 Y) rfl; have b7 := B6.cell 7 (v := .int .i64 y) rfl; have b8 := B6.cell 8 (v := .int .i64 x) rfl; have b9 := B6.cell 9 (v := .bool true) rfl; have kB6 := kB w6 so co (PO.congr HPF.out)) | (go_at_call 30; refine kB6.mono ?_; rintro e w7 ⟨gb, rfl, rowB, hgb, g7⟩; have B7 := B6.kept g7 (by simp); have p0 := B7.cell 0 (v := .int .u8 k) rfl; have p1 := B7.cell 1 (v := .int .i64 y) rfl; have p2 := B7.cell 2 (v := .int .i64 x) rfl; have p3 := B7.cell 3 (v := .int .u8 t2) rfl; have p4 := B7.cell 4 (v := .int .i64 z) rfl; have p5 := B7.cell 5 (v := .int .i64 X) rfl; have p6 := B7.cell 6 (v := .int .i64 Y) rfl; have p7 := B7.cell 7 (v := .int .i64 y) rfl; have p8 := B7.cell 8 (v := .int .i64 x) rfl; have p9 := B7.cell 9 (v := .bool true) rfl; have kP7 := kP w7 gb (pl_row rowB)) | (go_at_call 29; refine kP7.mono ?_; rintro e w8 ⟨vL, L, rfl, ownR, hOw, hPerm, g8⟩; obtain ⟨sL, cL, rfl, hLm⟩ := lm_own ownR; have B8 := B7.kept g8 (by simp); have u0 := B8.cell 0 (v := .int .u8 k) rfl; have u1 := B8.cell 1 (v := .int .i64 y) rfl; have u2 := B8.cell 2 (v := .int .i64 x) rfl; have u3 := B8.cell 3 (v := .int .u8 t2) rfl; have u4 := B8.cell 4 (v := .int .i64 z) rfl; have u5 := B8.cell 5 (v := .int .i64 X) rfl; have u6 := B8.cell 6 (v := .int .i64 Y) rfl; have u7 := B8.cell 7 (v := .int .i64 y) rfl; have u8 := B8.cell 8 (v := .int .i64 x) rfl; have u9 := B8.cell 9 (v := .bool true) rfl))
  go_wp2
  have G8 := gb_trans G5 (gb_trans g6 (gb_trans g7 g8))
  have ownL8 := (((ownL.kept (gb_drew (World.grownBy.refl _ none)) (Classical.em _)).kept g6 (Classical.em _)).kept g7 (Classical.em _)).kept g8 (Classical.em _)
  have HOw : Hid (Ow w8 w7.heap.size L) := hOw
  have HPerm : Hid ((L.map Ml.ps).Perm LL) := hPerm
  have HLm : Hid (Lm w8 sL L) := hLm
  have hLl : L.length ≤ 64 := by have := hPerm.length_eq; rw [List.length_map] at this; omega
  clear kLc kLo kB kP kJ1 kLc4 kLo5 kB6 kP7 hOw hPerm hLm ownR
  go_loopw [36, 12] (fun a b wr => ∃ (i : Nat) (cs : List Pt) (nc : Nat) (ov : Value), i ≤ L.length ∧ a = .int .i64 i ∧ b = ov ∧ Hid (cs.length = nc) ∧ wr.ownsRow w.heap.size 40 2 ov nc (fl cs) ∧ Hid (InT y x X Y cs) ∧ nc < 1000000000 ∧ Hid (runI k y x t2 z X (fun i => (L.map Ml.ps).getD i []) i cs0 cs) ∧ Bo wr w3.heap.size 62 #[.int .u8 k, .int .i64 y, .int .i64 x, .int .u8 t2, .int .i64 z, .int .i64 X, .int .i64 Y, .int .i64 y, .int .i64 x, .bool true] ∧ w8.grownBy wr none) (fun a _ _ => L.length - (intOf a).toNat)
  case atStart => exact ⟨0, cs0, m, _, Nat.zero_le _, rfl, rfl, HHL.out, own_less ownL8 G4.size, HI0.out, hm, rfl, B8, World.grownBy.refl _ _⟩
  case round =>
    have hx := HX.out.1
    have hXb := HX.out.2
    have hyx := HYX.out.1
    have ht := HYX.out.2.1
    have hn64 := HYX.out.2.2
    obtain ⟨i, cs, nc, ov, hi, rfl, hov, HNC, own, HIN, hnc, HRUN, Bq, gq⟩ := hrel
    obtain ⟨sp, cap, rfl, PC, h0c⟩ := own_shape0 own HNC.out
    subst hov
    have gw := gb_trans G8 gq
    have gws := gw.size
    have r0 := Bq.cell 0 (v := .int .u8 k) rfl; have r1 := Bq.cell 1 (v := .int .i64 y) rfl; have r2 := Bq.cell 2 (v := .int .i64 x) rfl; have r3 := Bq.cell 3 (v := .int .u8 t2) rfl; have r4 := Bq.cell 4 (v := .int .i64 z) rfl; have r5 := Bq.cell 5 (v := .int .i64 X) rfl; have r6 := Bq.cell 6 (v := .int .i64 Y) rfl; have r7 := Bq.cell 7 (v := .int .i64 y) rfl; have r8 := Bq.cell 8 (v := .int .i64 x) rfl; have r9 := Bq.cell 9 (v := .bool true) rfl
    by_cases hlt : i < L.length
    · have hlt' : (i : Int) < (L.length : Int) := by omega
      obtain ⟨q, l, rfl, hli, cl⟩ := (HLm.out.kept gq (by simp)) i hlt
      have hlm : l ∈ L := List.mem_of_getElem? hli
      have ownl := (HOw.out l hlm).kept gq (Classical.em _)
      obtain ⟨hcl, hll⟩ := HLF.out l.ps (HPerm.out.mem_iff.1 (List.mem_map.2 ⟨l, hlm, rfl⟩))
      have hget : (L.map Ml.ps).getD i [] = l.ps := by simp [List.getD, hli]
      have HGET : Hid ((L.map Ml.ps).getD i [] = l.ps) := hget
      obtain ⟨lg, lc, ps⟩ := l
      simp only [encM] at cl ownl hcl hll HGET
      have PM := pl_own ownl rfl
      have kL := leapC k y x t2 z X Y y x true ht hx hXb HB.out sp nc cap (fun k => cs.getD k (0, 0)) (fun j hj => by have := HIN.out _ (getD_mem cs j (by rw [HNC.out]; exact hj)); have := HXY.out; omega) hnc (some ⟨lg, 0, none⟩) ps.length lc (fun j => ps.getD j (0, 0)) (fun j hj => by obtain ⟨r, hr⟩ := hcl _ (getD_mem ps j hj); have := HB.out r; rw [hr]; omega) (by omega) wr PC PM
      clear hget hcl ownl PM PC hlm
      go_wp2_with (first | (go_at_call 31; refine kL.mono ?_; rintro e w9 ⟨v9, nx, Ks, T, rfl, own9, hKs, hRc, hTn, hPm, g9⟩) | go_in)
      have hLR : leapR k y x t2 z X ps cs nx := ⟨Ks, T, by rw [HNC.out]; exact hKs, hRc, hTn, by rw [HNC.out]; exact hPm⟩
      have hIn := leapR_in hx.1 (fun p => (HCell.out p).2) hLR
      have HLR : Hid (leapR k y x t2 z X ps cs nx) := hLR
      clear hKs hRc hTn hPm hLR kL
      go_roundw
      case rel => exact ⟨i + 1, nx, nx.length, v9, by omega, by go_num, rfl, rfl, own_less own9 gws, hIn.1, by omega, ⟨cs, HRUN.out, by show leapR k y x t2 z X ((L.map Ml.ps).getD i []) cs nx; rw [HGET.out]; exact HLR.out⟩, Bq.kept g9 (by simp), gb_trans gq g9⟩
      case measure => simp [intOf]; omega
    · have hin : i = L.length := by omega
      have hlt' : ¬ (i : Int) < (L.length : Int) := by omega
      have hps : psL (fun k => swp (cs.getD k (0, 0))) nc = cs.map swp := by rw [← HNC.out]; exact psL_map cs
      have kF := laidA k y x t2 z X Y y x sp nc cap (fun k => cs.getD k (0, 0)) hnc h0c wr PC
      rw [hps] at kF
      clear hps
      go_wp2_with (first | (go_at_call 28; refine kF.mono ?_; rintro e w9 ⟨v9, rfl, own9, g9⟩; have kS := sortAny w9 wr.heap.size nc v9 (cs.map swp) (by rw [List.length_map]; exact HNC.out) own9 hnc) | (go_at_call 32; refine kS.mono ?_; rintro e w10 ⟨rfl, own10, g10⟩) | go_in)
      go_ret2
      refine ⟨v9, L.map Ml.ps, cs, rfl, by rw [HNC.out]; exact own_less own10 gws, HPerm.out, by rw [List.length_map, ← hin]; exact HRUN.out, (gb_trans gw g9).andThen g10 (fun j hj => .inl (by have := own9.lt j hj; omega))⟩
end Ln
end Go.Proofs.YtbmpiddjakdebaaGreat
