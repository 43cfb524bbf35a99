/- What the document's Cell and Same answer, in plain words. -/
import Derived.Test.YtgiiaokkmnjckaaF11
namespace Go.Proofs.Ytgiiaokkmnjckaa
open Go.RowKit
open Fl
set_option linter.unusedVariables false
set_option linter.unusedSimpArgs false
set_option maxRecDepth 100000

theorem refCellC (k x y t z a b : Int) (ht : 0 ≤ t) (w : World) : Calls Try.prog 11 #[.agg #[.int .u8 k, .int .i64 x, .int .i64 y, .int .u8 t, .int .i64 z], .agg #[.int .i64 a, .int .i64 b]] w fun e w' => e = .returned (.tuple #[.agg (ceV k x y t z a b), .int .i64 (ceE k x y t z a b)]) ∧ w.grownBy w' none := by
  have hr := refusedC k x y t z a b ht
  by_cases h : Tp.chk k x y t z = 0
  · cases hf : (To.frB a || To.frB b)
    · have h1 := Bool.or_eq_false_iff.1 hf
      have ok := Tp.ok_of h
      have hx := ok.wide
      have hy := ok.high
      have bx := fi_bd hx
      have by' := fi_bd hy
      have ba := fr_bd h1.1
      have bb := fr_bd h1.2
      have r0 : rfE k x y t z a b = 0 := by unfold rfE; rw [if_pos h, if_neg (by rw [hf]; decide)]
      rw [r0] at hr
      have e0 : ceE k x y t z a b = if glB k = false ∧ giB x y a b = false then 60 else 0 := by unfold ceE; rw [if_pos h, if_neg (by rw [hf]; decide)]
      cases hg : glB k
      · have hi := refInC k x y t z a b ok h1.1 h1.2
        cases hin : giB x y a b
        · rw [hg, hin, if_pos ⟨rfl, rfl⟩] at e0
          rw [hin] at hi
          rw [ce_zero (by rw [e0]; decide), e0]
          exact refCellO k x y t z a b hr hg hi w
        · rw [hin, if_neg (fun q => absurd q.2 (by decide))] at e0
          rw [hin] at hi
          rw [ce_yes e0, e0]
          unfold ceX ceY
          rw [hg]
          exact refCellI k x y t z a b hr hg hi w
      · have hk := gl_iff.1 hg
        rw [hg, if_neg (fun q => absurd q.1 (by decide))] at e0
        rw [ce_yes e0, e0]
        unfold ceX ceY
        rw [hg, if_pos rfl, if_pos rfl]
        have c1 := wi_abs hx (B := 2199023255552) (by omega) (p := (a - To.fi x)) (by omega)
        obtain ⟨p1, e1⟩ := Fo.cx_form k x y t z (a - To.fi x) (b - To.fi y)
        obtain ⟨p2, e2⟩ := Fo.cx_form k y x (3 - t) z (b - To.fi y) (a - To.fi x)
        have gl := Fo.gl_of ht ok hk
        have q1 : -4398046511104 ≤ Fo.cx k x y t z (a - To.fi x) (b - To.fi y) ∧ Fo.cx k x y t z (a - To.fi x) (b - To.fi y) ≤ 4398046511104 := by
          obtain z0 | z0 : x = 0 ∨ 1 ≤ x := by omega
          · have t1 : ¬ (t = 1 ∨ t = 2) ∧ k = 2 := by
              have := gl.ended; have := gl.torus; have := gl.kind; have := gl.klein
              omega
            obtain ⟨t1, rfl⟩ := t1
            subst z0; rw [Fo.cx_2 (by omega), Fo.wi_zero]; omega
          · have := Fo.cx_bd k y t z (a - To.fi x) (b - To.fi y) z0; omega
        have q2 : -4398046511104 ≤ Fo.cy k x y t z (a - To.fi x) (b - To.fi y) ∧ Fo.cy k x y t z (a - To.fi x) (b - To.fi y) ≤ 4398046511104 := by
          obtain z0 | z0 : y = 0 ∨ 1 ≤ y := by omega
          · have t1 : ¬ (t = 1 ∨ t = 2) ∧ k = 2 := by
              have := gl.ended; have := gl.torus; have := gl.kind; have := gl.klein
              omega
            obtain ⟨t1, rfl⟩ := t1
            subst z0; rw [Fo.cy, Fo.cx_2 (by omega), Fo.wi_zero]; omega
          · have := Fo.cy_bd k x t z (a - To.fi x) (b - To.fi y) z0; omega
        exact refCellG k x y t z a b hx.1 hx.2 hy.1 hy.2 ba.1 ba.2 bb.1 bb.2 hr hg _ _ _ _ (refFoldedC k x y t z _ _ ht ok hk (by omega) (by omega)) (by rw [IntKind.wrap_i64]; omega) (by rw [IntKind.wrap_i64]; omega) w
    · have r0 : rfE k x y t z a b = 5 := by unfold rfE; rw [if_pos h, if_pos hf]
      have e0 : ceE k x y t z a b = 5 := by unfold ceE; rw [if_pos h, if_pos hf]
      rw [r0] at hr
      rw [ce_zero (by rw [e0]; decide), e0]
      exact refCellX k x y t z a b 5 rfl hr w
  · have r0 : rfE k x y t z a b = 9 := by unfold rfE; rw [if_neg h]
    have e0 : ceE k x y t z a b = 9 := by unfold ceE; rw [if_neg h]
    rw [r0] at hr
    rw [ce_zero (by rw [e0]; decide), e0]
    exact refCellX k x y t z a b 9 rfl hr w

set_option maxHeartbeats 1000000 in
theorem rsX1 (k x y t z a b a2 b2 : Int) (E : Int) (hE : (E == 0) = false) (h1 : ∀ w, Calls Try.prog 30 #[.agg #[.int .u8 k, .int .i64 x, .int .i64 y, .int .u8 t, .int .i64 z], .agg #[.int .i64 a, .int .i64 b]] w fun e w' => e = .returned (.int .i64 E) ∧ w.grownBy w' none) (w : World) : Calls Try.prog 20 #[.agg #[.int .u8 k, .int .i64 x, .int .i64 y, .int .u8 t, .int .i64 z], .agg #[.int .i64 a, .int .i64 b], .agg #[.int .i64 a2, .int .i64 b2]] w fun e w' => e = .returned (.tuple #[.bool false, .int .i64 E]) ∧ w.grownBy w' none := by
  obtain ⟨W1, hW1, sz1, g1, B1⟩ := boxn w #[.int .u8 k, .int .i64 x, .int .i64 y, .int .u8 t, .int .i64 z] 23
  obtain ⟨W2, hW2, sz2, g2, B2⟩ := boxn W1 #[.int .i64 a, .int .i64 b] 25
  have G2 := gb_trans g1 g2
  have B1x := B1.kept g2 (by simp)
  obtain ⟨W3, hW3, sz3, g3, B3⟩ := boxn W2 #[.int .i64 a2, .int .i64 b2] 25
  have G3 := gb_trans G2 g3
  have B1xx := B1x.kept g3 (by simp)
  have B2x := B2.kept g3 (by simp)
  have b1_3_0 := B1xx.cell 0 (v := .int .u8 k) rfl
  have b1_3_1 := B1xx.cell 1 (v := .int .i64 x) rfl
  have b1_3_2 := B1xx.cell 2 (v := .int .i64 y) rfl
  have b1_3_3 := B1xx.cell 3 (v := .int .u8 t) rfl
  have b1_3_4 := B1xx.cell 4 (v := .int .i64 z) rfl
  have b2_3_0 := B2x.cell 0 (v := .int .i64 a) rfl
  have b2_3_1 := B2x.cell 1 (v := .int .i64 b) rfl
  have b3_3_0 := B3.cell 0 (v := .int .i64 a2) rfl
  have b3_3_1 := B3.cell 1 (v := .int .i64 b2) rfl
  go_enter Try.func20, Try.ntmps20
  go_wp2_with (first | (go_at_call 30; (fail_if_success (guard_hyp g4)); refine (h1 _).mono ?_; rintro e w4 ⟨rfl, g4⟩; have G4 := gb_trans G3 g4; have B1xxx := B1xx.kept g4 (by simp); have B2xx := B2x.kept g4 (by simp); have B3x := B3.kept g4 (by simp); clear b1_3_0 b1_3_1 b1_3_2 b1_3_3 b1_3_4 b2_3_0 b2_3_1 b3_3_0 b3_3_1; have b1_4_0 := B1xxx.cell 0 (v := .int .u8 k) rfl; have b1_4_1 := B1xxx.cell 1 (v := .int .i64 x) rfl; have b1_4_2 := B1xxx.cell 2 (v := .int .i64 y) rfl; have b1_4_3 := B1xxx.cell 3 (v := .int .u8 t) rfl; have b1_4_4 := B1xxx.cell 4 (v := .int .i64 z) rfl; have b2_4_0 := B2xx.cell 0 (v := .int .i64 a) rfl; have b2_4_1 := B2xx.cell 1 (v := .int .i64 b) rfl; have b3_4_0 := B3x.cell 0 (v := .int .i64 a2) rfl; have b3_4_1 := B3x.cell 1 (v := .int .i64 b2) rfl))
  go_ret2
  exact ⟨rfl, G4⟩

set_option maxHeartbeats 1000000 in
theorem rsX2 (k x y t z a b a2 b2 : Int) (E : Int) (hE : (E == 0) = false) (h1 : ∀ w, Calls Try.prog 30 #[.agg #[.int .u8 k, .int .i64 x, .int .i64 y, .int .u8 t, .int .i64 z], .agg #[.int .i64 a, .int .i64 b]] w fun e w' => e = .returned (.int .i64 0) ∧ w.grownBy w' none) (h2 : ∀ w, Calls Try.prog 30 #[.agg #[.int .u8 k, .int .i64 x, .int .i64 y, .int .u8 t, .int .i64 z], .agg #[.int .i64 a2, .int .i64 b2]] w fun e w' => e = .returned (.int .i64 E) ∧ w.grownBy w' none) (w : World) : Calls Try.prog 20 #[.agg #[.int .u8 k, .int .i64 x, .int .i64 y, .int .u8 t, .int .i64 z], .agg #[.int .i64 a, .int .i64 b], .agg #[.int .i64 a2, .int .i64 b2]] w fun e w' => e = .returned (.tuple #[.bool false, .int .i64 E]) ∧ w.grownBy w' none := by
  obtain ⟨W1, hW1, sz1, g1, B1⟩ := boxn w #[.int .u8 k, .int .i64 x, .int .i64 y, .int .u8 t, .int .i64 z] 23
  obtain ⟨W2, hW2, sz2, g2, B2⟩ := boxn W1 #[.int .i64 a, .int .i64 b] 25
  have G2 := gb_trans g1 g2
  have B1x := B1.kept g2 (by simp)
  obtain ⟨W3, hW3, sz3, g3, B3⟩ := boxn W2 #[.int .i64 a2, .int .i64 b2] 25
  have G3 := gb_trans G2 g3
  have B1xx := B1x.kept g3 (by simp)
  have B2x := B2.kept g3 (by simp)
  have b1_3_0 := B1xx.cell 0 (v := .int .u8 k) rfl
  have b1_3_1 := B1xx.cell 1 (v := .int .i64 x) rfl
  have b1_3_2 := B1xx.cell 2 (v := .int .i64 y) rfl
  have b1_3_3 := B1xx.cell 3 (v := .int .u8 t) rfl
  have b1_3_4 := B1xx.cell 4 (v := .int .i64 z) rfl
  have b2_3_0 := B2x.cell 0 (v := .int .i64 a) rfl
  have b2_3_1 := B2x.cell 1 (v := .int .i64 b) rfl
  have b3_3_0 := B3.cell 0 (v := .int .i64 a2) rfl
  have b3_3_1 := B3.cell 1 (v := .int .i64 b2) rfl
  go_enter Try.func20, Try.ntmps20
  go_wp2_with (first | (go_at_call 30; (fail_if_success (guard_hyp g4)); refine (h1 _).mono ?_; rintro e w4 ⟨rfl, g4⟩; have G4 := gb_trans G3 g4; have B1xxx := B1xx.kept g4 (by simp); have B2xx := B2x.kept g4 (by simp); have B3x := B3.kept g4 (by simp); clear b1_3_0 b1_3_1 b1_3_2 b1_3_3 b1_3_4 b2_3_0 b2_3_1 b3_3_0 b3_3_1; have b1_4_0 := B1xxx.cell 0 (v := .int .u8 k) rfl; have b1_4_1 := B1xxx.cell 1 (v := .int .i64 x) rfl; have b1_4_2 := B1xxx.cell 2 (v := .int .i64 y) rfl; have b1_4_3 := B1xxx.cell 3 (v := .int .u8 t) rfl; have b1_4_4 := B1xxx.cell 4 (v := .int .i64 z) rfl; have b2_4_0 := B2xx.cell 0 (v := .int .i64 a) rfl; have b2_4_1 := B2xx.cell 1 (v := .int .i64 b) rfl; have b3_4_0 := B3x.cell 0 (v := .int .i64 a2) rfl; have b3_4_1 := B3x.cell 1 (v := .int .i64 b2) rfl) | (go_at_call 30; (fail_if_success (guard_hyp g5)); refine (h2 _).mono ?_; rintro e w5 ⟨rfl, g5⟩; have G5 := gb_trans G4 g5; have B1xxxx := B1xxx.kept g5 (by simp); have B2xxx := B2xx.kept g5 (by simp); have B3xx := B3x.kept g5 (by simp); clear b1_4_0 b1_4_1 b1_4_2 b1_4_3 b1_4_4 b2_4_0 b2_4_1 b3_4_0 b3_4_1; have b1_5_0 := B1xxxx.cell 0 (v := .int .u8 k) rfl; have b1_5_1 := B1xxxx.cell 1 (v := .int .i64 x) rfl; have b1_5_2 := B1xxxx.cell 2 (v := .int .i64 y) rfl; have b1_5_3 := B1xxxx.cell 3 (v := .int .u8 t) rfl; have b1_5_4 := B1xxxx.cell 4 (v := .int .i64 z) rfl; have b2_5_0 := B2xxx.cell 0 (v := .int .i64 a) rfl; have b2_5_1 := B2xxx.cell 1 (v := .int .i64 b) rfl; have b3_5_0 := B3xx.cell 0 (v := .int .i64 a2) rfl; have b3_5_1 := B3xx.cell 1 (v := .int .i64 b2) rfl))
  go_ret2
  exact ⟨rfl, G5⟩

set_option maxHeartbeats 1000000 in
theorem rsE1 (k x y t z a b a2 b2 : Int) (E : Int) (hE : (E == 0) = false) (E2 : Int) (A1 A2 D1 D2 : Int) (h1 : ∀ w, Calls Try.prog 30 #[.agg #[.int .u8 k, .int .i64 x, .int .i64 y, .int .u8 t, .int .i64 z], .agg #[.int .i64 a, .int .i64 b]] w fun e w' => e = .returned (.int .i64 0) ∧ w.grownBy w' none) (h2 : ∀ w, Calls Try.prog 30 #[.agg #[.int .u8 k, .int .i64 x, .int .i64 y, .int .u8 t, .int .i64 z], .agg #[.int .i64 a2, .int .i64 b2]] w fun e w' => e = .returned (.int .i64 0) ∧ w.grownBy w' none) (h3 : ∀ w, Calls Try.prog 11 #[.agg #[.int .u8 k, .int .i64 x, .int .i64 y, .int .u8 t, .int .i64 z], .agg #[.int .i64 a, .int .i64 b]] w fun e w' => e = .returned (.tuple #[.agg #[.int .i64 A1, .int .i64 A2], .int .i64 E]) ∧ w.grownBy w' none) (h4 : ∀ w, Calls Try.prog 11 #[.agg #[.int .u8 k, .int .i64 x, .int .i64 y, .int .u8 t, .int .i64 z], .agg #[.int .i64 a2, .int .i64 b2]] w fun e w' => e = .returned (.tuple #[.agg #[.int .i64 D1, .int .i64 D2], .int .i64 E2]) ∧ w.grownBy w' none) (w : World) : Calls Try.prog 20 #[.agg #[.int .u8 k, .int .i64 x, .int .i64 y, .int .u8 t, .int .i64 z], .agg #[.int .i64 a, .int .i64 b], .agg #[.int .i64 a2, .int .i64 b2]] w fun e w' => e = .returned (.tuple #[.bool false, .int .i64 60]) ∧ w.grownBy w' none := by
  obtain ⟨W1, hW1, sz1, g1, B1⟩ := boxn w #[.int .u8 k, .int .i64 x, .int .i64 y, .int .u8 t, .int .i64 z] 23
  obtain ⟨W2, hW2, sz2, g2, B2⟩ := boxn W1 #[.int .i64 a, .int .i64 b] 25
  have G2 := gb_trans g1 g2
  have B1x := B1.kept g2 (by simp)
  obtain ⟨W3, hW3, sz3, g3, B3⟩ := boxn W2 #[.int .i64 a2, .int .i64 b2] 25
  have G3 := gb_trans G2 g3
  have B1xx := B1x.kept g3 (by simp)
  have B2x := B2.kept g3 (by simp)
  have b1_3_0 := B1xx.cell 0 (v := .int .u8 k) rfl
  have b1_3_1 := B1xx.cell 1 (v := .int .i64 x) rfl
  have b1_3_2 := B1xx.cell 2 (v := .int .i64 y) rfl
  have b1_3_3 := B1xx.cell 3 (v := .int .u8 t) rfl
  have b1_3_4 := B1xx.cell 4 (v := .int .i64 z) rfl
  have b2_3_0 := B2x.cell 0 (v := .int .i64 a) rfl
  have b2_3_1 := B2x.cell 1 (v := .int .i64 b) rfl
  have b3_3_0 := B3.cell 0 (v := .int .i64 a2) rfl
  have b3_3_1 := B3.cell 1 (v := .int .i64 b2) rfl
  go_enter Try.func20, Try.ntmps20
  go_wp2_with (first | (go_at_call 30; (fail_if_success (guard_hyp g4)); refine (h1 _).mono ?_; rintro e w4 ⟨rfl, g4⟩; have G4 := gb_trans G3 g4; have B1xxx := B1xx.kept g4 (by simp); have B2xx := B2x.kept g4 (by simp); have B3x := B3.kept g4 (by simp); clear b1_3_0 b1_3_1 b1_3_2 b1_3_3 b1_3_4 b2_3_0 b2_3_1 b3_3_0 b3_3_1; have b1_4_0 := B1xxx.cell 0 (v := .int .u8 k) rfl; have b1_4_1 := B1xxx.cell 1 (v := .int .i64 x) rfl; have b1_4_2 := B1xxx.cell 2 (v := .int .i64 y) rfl; have b1_4_3 := B1xxx.cell 3 (v := .int .u8 t) rfl; have b1_4_4 := B1xxx.cell 4 (v := .int .i64 z) rfl; have b2_4_0 := B2xx.cell 0 (v := .int .i64 a) rfl; have b2_4_1 := B2xx.cell 1 (v := .int .i64 b) rfl; have b3_4_0 := B3x.cell 0 (v := .int .i64 a2) rfl; have b3_4_1 := B3x.cell 1 (v := .int .i64 b2) rfl) | (go_at_call 30; (fail_if_success (guard_hyp g5)); refine (h2 _).mono ?_; rintro e w5 ⟨rfl, g5⟩; have G5 := gb_trans G4 g5; have B1xxxx := B1xxx.kept g5 (by simp); have B2xxx := B2xx.kept g5 (by simp); have B3xx := B3x.kept g5 (by simp); clear b1_4_0 b1_4_1 b1_4_2 b1_4_3 b1_4_4 b2_4_0 b2_4_1 b3_4_0 b3_4_1; have b1_5_0 := B1xxxx.cell 0 (v := .int .u8 k) rfl; have b1_5_1 := B1xxxx.cell 1 (v := .int .i64 x) rfl; have b1_5_2 := B1xxxx.cell 2 (v := .int .i64 y) rfl; have b1_5_3 := B1xxxx.cell 3 (v := .int .u8 t) rfl; have b1_5_4 := B1xxxx.cell 4 (v := .int .i64 z) rfl; have b2_5_0 := B2xxx.cell 0 (v := .int .i64 a) rfl; have b2_5_1 := B2xxx.cell 1 (v := .int .i64 b) rfl; have b3_5_0 := B3xx.cell 0 (v := .int .i64 a2) rfl; have b3_5_1 := B3xx.cell 1 (v := .int .i64 b2) rfl) | (go_at_call 11; (fail_if_success (guard_hyp g6)); refine (h3 _).mono ?_; rintro e w6 ⟨rfl, g6⟩; have G6 := gb_trans G5 g6; have B1xxxxx := B1xxxx.kept g6 (by simp); have B2xxxx := B2xxx.kept g6 (by simp); have B3xxx := B3xx.kept g6 (by simp); obtain ⟨W7, hW7, sz7, g7, B7⟩ := boxn w6 #[.int .i64 A1, .int .i64 A2] 25; have G7 := gb_trans G6 g7; have B1xxxxxx := B1xxxxx.kept g7 (by simp); have B2xxxxx := B2xxxx.kept g7 (by simp); have B3xxxx := B3xxx.kept g7 (by simp); clear b1_5_0 b1_5_1 b1_5_2 b1_5_3 b1_5_4 b2_5_0 b2_5_1 b3_5_0 b3_5_1; have b1_7_0 := B1xxxxxx.cell 0 (v := .int .u8 k) rfl; have b1_7_1 := B1xxxxxx.cell 1 (v := .int .i64 x) rfl; have b1_7_2 := B1xxxxxx.cell 2 (v := .int .i64 y) rfl; have b1_7_3 := B1xxxxxx.cell 3 (v := .int .u8 t) rfl; have b1_7_4 := B1xxxxxx.cell 4 (v := .int .i64 z) rfl; have b2_7_0 := B2xxxxx.cell 0 (v := .int .i64 a) rfl; have b2_7_1 := B2xxxxx.cell 1 (v := .int .i64 b) rfl; have b3_7_0 := B3xxxx.cell 0 (v := .int .i64 a2) rfl; have b3_7_1 := B3xxxx.cell 1 (v := .int .i64 b2) rfl; have b7_7_0 := B7.cell 0 (v := .int .i64 A1) rfl; have b7_7_1 := B7.cell 1 (v := .int .i64 A2) rfl) | (go_at_call 11; (fail_if_success (guard_hyp g8)); refine (h4 _).mono ?_; rintro e w8 ⟨rfl, g8⟩; have G8 := gb_trans G7 g8; have B1xxxxxxx := B1xxxxxx.kept g8 (by simp); have B2xxxxxx := B2xxxxx.kept g8 (by simp); have B3xxxxx := B3xxxx.kept g8 (by simp); have B7x := B7.kept g8 (by simp); obtain ⟨W9, hW9, sz9, g9, B9⟩ := boxn w8 #[.int .i64 D1, .int .i64 D2] 25; have G9 := gb_trans G8 g9; have B1xxxxxxxx := B1xxxxxxx.kept g9 (by simp); have B2xxxxxxx := B2xxxxxx.kept g9 (by simp); have B3xxxxxx := B3xxxxx.kept g9 (by simp); have B7xx := B7x.kept g9 (by simp); clear b1_7_0 b1_7_1 b1_7_2 b1_7_3 b1_7_4 b2_7_0 b2_7_1 b3_7_0 b3_7_1 b7_7_0 b7_7_1; have b1_9_0 := B1xxxxxxxx.cell 0 (v := .int .u8 k) rfl; have b1_9_1 := B1xxxxxxxx.cell 1 (v := .int .i64 x) rfl; have b1_9_2 := B1xxxxxxxx.cell 2 (v := .int .i64 y) rfl; have b1_9_3 := B1xxxxxxxx.cell 3 (v := .int .u8 t) rfl; have b1_9_4 := B1xxxxxxxx.cell 4 (v := .int .i64 z) rfl; have b2_9_0 := B2xxxxxxx.cell 0 (v := .int .i64 a) rfl; have b2_9_1 := B2xxxxxxx.cell 1 (v := .int .i64 b) rfl; have b3_9_0 := B3xxxxxx.cell 0 (v := .int .i64 a2) rfl; have b3_9_1 := B3xxxxxx.cell 1 (v := .int .i64 b2) rfl; have b7_9_0 := B7xx.cell 0 (v := .int .i64 A1) rfl; have b7_9_1 := B7xx.cell 1 (v := .int .i64 A2) rfl; have b9_9_0 := B9.cell 0 (v := .int .i64 D1) rfl; have b9_9_1 := B9.cell 1 (v := .int .i64 D2) rfl))
  go_ret2
  exact ⟨rfl, G9⟩

set_option maxHeartbeats 1000000 in
theorem rsE2 (k x y t z a b a2 b2 : Int) (E : Int) (hE : (E == 0) = false) (A1 A2 D1 D2 : Int) (h1 : ∀ w, Calls Try.prog 30 #[.agg #[.int .u8 k, .int .i64 x, .int .i64 y, .int .u8 t, .int .i64 z], .agg #[.int .i64 a, .int .i64 b]] w fun e w' => e = .returned (.int .i64 0) ∧ w.grownBy w' none) (h2 : ∀ w, Calls Try.prog 30 #[.agg #[.int .u8 k, .int .i64 x, .int .i64 y, .int .u8 t, .int .i64 z], .agg #[.int .i64 a2, .int .i64 b2]] w fun e w' => e = .returned (.int .i64 0) ∧ w.grownBy w' none) (h3 : ∀ w, Calls Try.prog 11 #[.agg #[.int .u8 k, .int .i64 x, .int .i64 y, .int .u8 t, .int .i64 z], .agg #[.int .i64 a, .int .i64 b]] w fun e w' => e = .returned (.tuple #[.agg #[.int .i64 A1, .int .i64 A2], .int .i64 0]) ∧ w.grownBy w' none) (h4 : ∀ w, Calls Try.prog 11 #[.agg #[.int .u8 k, .int .i64 x, .int .i64 y, .int .u8 t, .int .i64 z], .agg #[.int .i64 a2, .int .i64 b2]] w fun e w' => e = .returned (.tuple #[.agg #[.int .i64 D1, .int .i64 D2], .int .i64 E]) ∧ w.grownBy w' none) (w : World) : Calls Try.prog 20 #[.agg #[.int .u8 k, .int .i64 x, .int .i64 y, .int .u8 t, .int .i64 z], .agg #[.int .i64 a, .int .i64 b], .agg #[.int .i64 a2, .int .i64 b2]] w fun e w' => e = .returned (.tuple #[.bool false, .int .i64 60]) ∧ w.grownBy w' none := by
  obtain ⟨W1, hW1, sz1, g1, B1⟩ := boxn w #[.int .u8 k, .int .i64 x, .int .i64 y, .int .u8 t, .int .i64 z] 23
  obtain ⟨W2, hW2, sz2, g2, B2⟩ := boxn W1 #[.int .i64 a, .int .i64 b] 25
  have G2 := gb_trans g1 g2
  have B1x := B1.kept g2 (by simp)
  obtain ⟨W3, hW3, sz3, g3, B3⟩ := boxn W2 #[.int .i64 a2, .int .i64 b2] 25
  have G3 := gb_trans G2 g3
  have B1xx := B1x.kept g3 (by simp)
  have B2x := B2.kept g3 (by simp)
  have b1_3_0 := B1xx.cell 0 (v := .int .u8 k) rfl
  have b1_3_1 := B1xx.cell 1 (v := .int .i64 x) rfl
  have b1_3_2 := B1xx.cell 2 (v := .int .i64 y) rfl
  have b1_3_3 := B1xx.cell 3 (v := .int .u8 t) rfl
  have b1_3_4 := B1xx.cell 4 (v := .int .i64 z) rfl
  have b2_3_0 := B2x.cell 0 (v := .int .i64 a) rfl
  have b2_3_1 := B2x.cell 1 (v := .int .i64 b) rfl
  have b3_3_0 := B3.cell 0 (v := .int .i64 a2) rfl
  have b3_3_1 := B3.cell 1 (v := .int .i64 b2) rfl
  go_enter Try.func20, Try.ntmps20
  go_wp2_with (first | (go_at_call 30; (fail_if_success (guard_hyp g4)); refine (h1 _).mono ?_; rintro e w4 ⟨rfl, g4⟩; have G4 := gb_trans G3 g4; have B1xxx := B1xx.kept g4 (by simp); have B2xx := B2x.kept g4 (by simp); have B3x := B3.kept g4 (by simp); clear b1_3_0 b1_3_1 b1_3_2 b1_3_3 b1_3_4 b2_3_0 b2_3_1 b3_3_0 b3_3_1; have b1_4_0 := B1xxx.cell 0 (v := .int .u8 k) rfl; have b1_4_1 := B1xxx.cell 1 (v := .int .i64 x) rfl; have b1_4_2 := B1xxx.cell 2 (v := .int .i64 y) rfl; have b1_4_3 := B1xxx.cell 3 (v := .int .u8 t) rfl; have b1_4_4 := B1xxx.cell 4 (v := .int .i64 z) rfl; have b2_4_0 := B2xx.cell 0 (v := .int .i64 a) rfl; have b2_4_1 := B2xx.cell 1 (v := .int .i64 b) rfl; have b3_4_0 := B3x.cell 0 (v := .int .i64 a2) rfl; have b3_4_1 := B3x.cell 1 (v := .int .i64 b2) rfl) | (go_at_call 30; (fail_if_success (guard_hyp g5)); refine (h2 _).mono ?_; rintro e w5 ⟨rfl, g5⟩; have G5 := gb_trans G4 g5; have B1xxxx := B1xxx.kept g5 (by simp); have B2xxx := B2xx.kept g5 (by simp); have B3xx := B3x.kept g5 (by simp); clear b1_4_0 b1_4_1 b1_4_2 b1_4_3 b1_4_4 b2_4_0 b2_4_1 b3_4_0 b3_4_1; have b1_5_0 := B1xxxx.cell 0 (v := .int .u8 k) rfl; have b1_5_1 := B1xxxx.cell 1 (v := .int .i64 x) rfl; have b1_5_2 := B1xxxx.cell 2 (v := .int .i64 y) rfl; have b1_5_3 := B1xxxx.cell 3 (v := .int .u8 t) rfl; have b1_5_4 := B1xxxx.cell 4 (v := .int .i64 z) rfl; have b2_5_0 := B2xxx.cell 0 (v := .int .i64 a) rfl; have b2_5_1 := B2xxx.cell 1 (v := .int .i64 b) rfl; have b3_5_0 := B3xx.cell 0 (v := .int .i64 a2) rfl; have b3_5_1 := B3xx.cell 1 (v := .int .i64 b2) rfl) | (go_at_call 11; (fail_if_success (guard_hyp g6)); refine (h3 _).mono ?_; rintro e w6 ⟨rfl, g6⟩; have G6 := gb_trans G5 g6; have B1xxxxx := B1xxxx.kept g6 (by simp); have B2xxxx := B2xxx.kept g6 (by simp); have B3xxx := B3xx.kept g6 (by simp); obtain ⟨W7, hW7, sz7, g7, B7⟩ := boxn w6 #[.int .i64 A1, .int .i64 A2] 25; have G7 := gb_trans G6 g7; have B1xxxxxx := B1xxxxx.kept g7 (by simp); have B2xxxxx := B2xxxx.kept g7 (by simp); have B3xxxx := B3xxx.kept g7 (by simp); clear b1_5_0 b1_5_1 b1_5_2 b1_5_3 b1_5_4 b2_5_0 b2_5_1 b3_5_0 b3_5_1; have b1_7_0 := B1xxxxxx.cell 0 (v := .int .u8 k) rfl; have b1_7_1 := B1xxxxxx.cell 1 (v := .int .i64 x) rfl; have b1_7_2 := B1xxxxxx.cell 2 (v := .int .i64 y) rfl; have b1_7_3 := B1xxxxxx.cell 3 (v := .int .u8 t) rfl; have b1_7_4 := B1xxxxxx.cell 4 (v := .int .i64 z) rfl; have b2_7_0 := B2xxxxx.cell 0 (v := .int .i64 a) rfl; have b2_7_1 := B2xxxxx.cell 1 (v := .int .i64 b) rfl; have b3_7_0 := B3xxxx.cell 0 (v := .int .i64 a2) rfl; have b3_7_1 := B3xxxx.cell 1 (v := .int .i64 b2) rfl; have b7_7_0 := B7.cell 0 (v := .int .i64 A1) rfl; have b7_7_1 := B7.cell 1 (v := .int .i64 A2) rfl) | (go_at_call 11; (fail_if_success (guard_hyp g8)); refine (h4 _).mono ?_; rintro e w8 ⟨rfl, g8⟩; have G8 := gb_trans G7 g8; have B1xxxxxxx := B1xxxxxx.kept g8 (by simp); have B2xxxxxx := B2xxxxx.kept g8 (by simp); have B3xxxxx := B3xxxx.kept g8 (by simp); have B7x := B7.kept g8 (by simp); obtain ⟨W9, hW9, sz9, g9, B9⟩ := boxn w8 #[.int .i64 D1, .int .i64 D2] 25; have G9 := gb_trans G8 g9; have B1xxxxxxxx := B1xxxxxxx.kept g9 (by simp); have B2xxxxxxx := B2xxxxxx.kept g9 (by simp); have B3xxxxxx := B3xxxxx.kept g9 (by simp); have B7xx := B7x.kept g9 (by simp); clear b1_7_0 b1_7_1 b1_7_2 b1_7_3 b1_7_4 b2_7_0 b2_7_1 b3_7_0 b3_7_1 b7_7_0 b7_7_1; have b1_9_0 := B1xxxxxxxx.cell 0 (v := .int .u8 k) rfl; have b1_9_1 := B1xxxxxxxx.cell 1 (v := .int .i64 x) rfl; have b1_9_2 := B1xxxxxxxx.cell 2 (v := .int .i64 y) rfl; have b1_9_3 := B1xxxxxxxx.cell 3 (v := .int .u8 t) rfl; have b1_9_4 := B1xxxxxxxx.cell 4 (v := .int .i64 z) rfl; have b2_9_0 := B2xxxxxxx.cell 0 (v := .int .i64 a) rfl; have b2_9_1 := B2xxxxxxx.cell 1 (v := .int .i64 b) rfl; have b3_9_0 := B3xxxxxx.cell 0 (v := .int .i64 a2) rfl; have b3_9_1 := B3xxxxxx.cell 1 (v := .int .i64 b2) rfl; have b7_9_0 := B7xx.cell 0 (v := .int .i64 A1) rfl; have b7_9_1 := B7xx.cell 1 (v := .int .i64 A2) rfl; have b9_9_0 := B9.cell 0 (v := .int .i64 D1) rfl; have b9_9_1 := B9.cell 1 (v := .int .i64 D2) rfl))
  go_ret2
  exact ⟨rfl, G9⟩

set_option maxHeartbeats 1000000 in
theorem rsT (k x y t z a b a2 b2 : Int) (A1 A2 D1 D2 : Int) (h1 : ∀ w, Calls Try.prog 30 #[.agg #[.int .u8 k, .int .i64 x, .int .i64 y, .int .u8 t, .int .i64 z], .agg #[.int .i64 a, .int .i64 b]] w fun e w' => e = .returned (.int .i64 0) ∧ w.grownBy w' none) (h2 : ∀ w, Calls Try.prog 30 #[.agg #[.int .u8 k, .int .i64 x, .int .i64 y, .int .u8 t, .int .i64 z], .agg #[.int .i64 a2, .int .i64 b2]] w fun e w' => e = .returned (.int .i64 0) ∧ w.grownBy w' none) (h3 : ∀ w, Calls Try.prog 11 #[.agg #[.int .u8 k, .int .i64 x, .int .i64 y, .int .u8 t, .int .i64 z], .agg #[.int .i64 a, .int .i64 b]] w fun e w' => e = .returned (.tuple #[.agg #[.int .i64 A1, .int .i64 A2], .int .i64 0]) ∧ w.grownBy w' none) (h4 : ∀ w, Calls Try.prog 11 #[.agg #[.int .u8 k, .int .i64 x, .int .i64 y, .int .u8 t, .int .i64 z], .agg #[.int .i64 a2, .int .i64 b2]] w fun e w' => e = .returned (.tuple #[.agg #[.int .i64 D1, .int .i64 D2], .int .i64 0]) ∧ w.grownBy w' none) (q1 : (A1 == D1) = true) (q2 : (A2 == D2) = true) (w : World) : Calls Try.prog 20 #[.agg #[.int .u8 k, .int .i64 x, .int .i64 y, .int .u8 t, .int .i64 z], .agg #[.int .i64 a, .int .i64 b], .agg #[.int .i64 a2, .int .i64 b2]] w fun e w' => e = .returned (.tuple #[.bool true, .int .i64 0]) ∧ w.grownBy w' none := by
  obtain ⟨W1, hW1, sz1, g1, B1⟩ := boxn w #[.int .u8 k, .int .i64 x, .int .i64 y, .int .u8 t, .int .i64 z] 23
  obtain ⟨W2, hW2, sz2, g2, B2⟩ := boxn W1 #[.int .i64 a, .int .i64 b] 25
  have G2 := gb_trans g1 g2
  have B1x := B1.kept g2 (by simp)
  obtain ⟨W3, hW3, sz3, g3, B3⟩ := boxn W2 #[.int .i64 a2, .int .i64 b2] 25
  have G3 := gb_trans G2 g3
  have B1xx := B1x.kept g3 (by simp)
  have B2x := B2.kept g3 (by simp)
  have b1_3_0 := B1xx.cell 0 (v := .int .u8 k) rfl
  have b1_3_1 := B1xx.cell 1 (v := .int .i64 x) rfl
  have b1_3_2 := B1xx.cell 2 (v := .int .i64 y) rfl
  have b1_3_3 := B1xx.cell 3 (v := .int .u8 t) rfl
  have b1_3_4 := B1xx.cell 4 (v := .int .i64 z) rfl
  have b2_3_0 := B2x.cell 0 (v := .int .i64 a) rfl
  have b2_3_1 := B2x.cell 1 (v := .int .i64 b) rfl
  have b3_3_0 := B3.cell 0 (v := .int .i64 a2) rfl
  have b3_3_1 := B3.cell 1 (v := .int .i64 b2) rfl
  go_enter Try.func20, Try.ntmps20
  go_wp2_with (first | (go_at_call 30; (fail_if_success (guard_hyp g4)); refine (h1 _).mono ?_; rintro e w4 ⟨rfl, g4⟩; have G4 := gb_trans G3 g4; have B1xxx := B1xx.kept g4 (by simp); have B2xx := B2x.kept g4 (by simp); have B3x := B3.kept g4 (by simp); clear b1_3_0 b1_3_1 b1_3_2 b1_3_3 b1_3_4 b2_3_0 b2_3_1 b3_3_0 b3_3_1; have b1_4_0 := B1xxx.cell 0 (v := .int .u8 k) rfl; have b1_4_1 := B1xxx.cell 1 (v := .int .i64 x) rfl; have b1_4_2 := B1xxx.cell 2 (v := .int .i64 y) rfl; have b1_4_3 := B1xxx.cell 3 (v := .int .u8 t) rfl; have b1_4_4 := B1xxx.cell 4 (v := .int .i64 z) rfl; have b2_4_0 := B2xx.cell 0 (v := .int .i64 a) rfl; have b2_4_1 := B2xx.cell 1 (v := .int .i64 b) rfl; have b3_4_0 := B3x.cell 0 (v := .int .i64 a2) rfl; have b3_4_1 := B3x.cell 1 (v := .int .i64 b2) rfl) | (go_at_call 30; (fail_if_success (guard_hyp g5)); refine (h2 _).mono ?_; rintro e w5 ⟨rfl, g5⟩; have G5 := gb_trans G4 g5; have B1xxxx := B1xxx.kept g5 (by simp); have B2xxx := B2xx.kept g5 (by simp); have B3xx := B3x.kept g5 (by simp); clear b1_4_0 b1_4_1 b1_4_2 b1_4_3 b1_4_4 b2_4_0 b2_4_1 b3_4_0 b3_4_1; have b1_5_0 := B1xxxx.cell 0 (v := .int .u8 k) rfl; have b1_5_1 := B1xxxx.cell 1 (v := .int .i64 x) rfl; have b1_5_2 := B1xxxx.cell 2 (v := .int .i64 y) rfl; have b1_5_3 := B1xxxx.cell 3 (v := .int .u8 t) rfl; have b1_5_4 := B1xxxx.cell 4 (v := .int .i64 z) rfl; have b2_5_0 := B2xxx.cell 0 (v := .int .i64 a) rfl; have b2_5_1 := B2xxx.cell 1 (v := .int .i64 b) rfl; have b3_5_0 := B3xx.cell 0 (v := .int .i64 a2) rfl; have b3_5_1 := B3xx.cell 1 (v := .int .i64 b2) rfl) | (go_at_call 11; (fail_if_success (guard_hyp g6)); refine (h3 _).mono ?_; rintro e w6 ⟨rfl, g6⟩; have G6 := gb_trans G5 g6; have B1xxxxx := B1xxxx.kept g6 (by simp); have B2xxxx := B2xxx.kept g6 (by simp); have B3xxx := B3xx.kept g6 (by simp); obtain ⟨W7, hW7, sz7, g7, B7⟩ := boxn w6 #[.int .i64 A1, .int .i64 A2] 25; have G7 := gb_trans G6 g7; have B1xxxxxx := B1xxxxx.kept g7 (by simp); have B2xxxxx := B2xxxx.kept g7 (by simp); have B3xxxx := B3xxx.kept g7 (by simp); clear b1_5_0 b1_5_1 b1_5_2 b1_5_3 b1_5_4 b2_5_0 b2_5_1 b3_5_0 b3_5_1; have b1_7_0 := B1xxxxxx.cell 0 (v := .int .u8 k) rfl; have b1_7_1 := B1xxxxxx.cell 1 (v := .int .i64 x) rfl; have b1_7_2 := B1xxxxxx.cell 2 (v := .int .i64 y) rfl; have b1_7_3 := B1xxxxxx.cell 3 (v := .int .u8 t) rfl; have b1_7_4 := B1xxxxxx.cell 4 (v := .int .i64 z) rfl; have b2_7_0 := B2xxxxx.cell 0 (v := .int .i64 a) rfl; have b2_7_1 := B2xxxxx.cell 1 (v := .int .i64 b) rfl; have b3_7_0 := B3xxxx.cell 0 (v := .int .i64 a2) rfl; have b3_7_1 := B3xxxx.cell 1 (v := .int .i64 b2) rfl; have b7_7_0 := B7.cell 0 (v := .int .i64 A1) rfl; have b7_7_1 := B7.cell 1 (v := .int .i64 A2) rfl) | (go_at_call 11; (fail_if_success (guard_hyp g8)); refine (h4 _).mono ?_; rintro e w8 ⟨rfl, g8⟩; have G8 := gb_trans G7 g8; have B1xxxxxxx := B1xxxxxx.kept g8 (by simp); have B2xxxxxx := B2xxxxx.kept g8 (by simp); have B3xxxxx := B3xxxx.kept g8 (by simp); have B7x := B7.kept g8 (by simp); obtain ⟨W9, hW9, sz9, g9, B9⟩ := boxn w8 #[.int .i64 D1, .int .i64 D2] 25; have G9 := gb_trans G8 g9; have B1xxxxxxxx := B1xxxxxxx.kept g9 (by simp); have B2xxxxxxx := B2xxxxxx.kept g9 (by simp); have B3xxxxxx := B3xxxxx.kept g9 (by simp); have B7xx := B7x.kept g9 (by simp); clear b1_7_0 b1_7_1 b1_7_2 b1_7_3 b1_7_4 b2_7_0 b2_7_1 b3_7_0 b3_7_1 b7_7_0 b7_7_1; have b1_9_0 := B1xxxxxxxx.cell 0 (v := .int .u8 k) rfl; have b1_9_1 := B1xxxxxxxx.cell 1 (v := .int .i64 x) rfl; have b1_9_2 := B1xxxxxxxx.cell 2 (v := .int .i64 y) rfl; have b1_9_3 := B1xxxxxxxx.cell 3 (v := .int .u8 t) rfl; have b1_9_4 := B1xxxxxxxx.cell 4 (v := .int .i64 z) rfl; have b2_9_0 := B2xxxxxxx.cell 0 (v := .int .i64 a) rfl; have b2_9_1 := B2xxxxxxx.cell 1 (v := .int .i64 b) rfl; have b3_9_0 := B3xxxxxx.cell 0 (v := .int .i64 a2) rfl; have b3_9_1 := B3xxxxxx.cell 1 (v := .int .i64 b2) rfl; have b7_9_0 := B7xx.cell 0 (v := .int .i64 A1) rfl; have b7_9_1 := B7xx.cell 1 (v := .int .i64 A2) rfl; have b9_9_0 := B9.cell 0 (v := .int .i64 D1) rfl; have b9_9_1 := B9.cell 1 (v := .int .i64 D2) rfl))
  go_ret2
  exact ⟨rfl, G9⟩

set_option maxHeartbeats 1000000 in
theorem rsF1 (k x y t z a b a2 b2 : Int) (A1 A2 D1 D2 : Int) (h1 : ∀ w, Calls Try.prog 30 #[.agg #[.int .u8 k, .int .i64 x, .int .i64 y, .int .u8 t, .int .i64 z], .agg #[.int .i64 a, .int .i64 b]] w fun e w' => e = .returned (.int .i64 0) ∧ w.grownBy w' none) (h2 : ∀ w, Calls Try.prog 30 #[.agg #[.int .u8 k, .int .i64 x, .int .i64 y, .int .u8 t, .int .i64 z], .agg #[.int .i64 a2, .int .i64 b2]] w fun e w' => e = .returned (.int .i64 0) ∧ w.grownBy w' none) (h3 : ∀ w, Calls Try.prog 11 #[.agg #[.int .u8 k, .int .i64 x, .int .i64 y, .int .u8 t, .int .i64 z], .agg #[.int .i64 a, .int .i64 b]] w fun e w' => e = .returned (.tuple #[.agg #[.int .i64 A1, .int .i64 A2], .int .i64 0]) ∧ w.grownBy w' none) (h4 : ∀ w, Calls Try.prog 11 #[.agg #[.int .u8 k, .int .i64 x, .int .i64 y, .int .u8 t, .int .i64 z], .agg #[.int .i64 a2, .int .i64 b2]] w fun e w' => e = .returned (.tuple #[.agg #[.int .i64 D1, .int .i64 D2], .int .i64 0]) ∧ w.grownBy w' none) (q1 : (A1 == D1) = false) (w : World) : Calls Try.prog 20 #[.agg #[.int .u8 k, .int .i64 x, .int .i64 y, .int .u8 t, .int .i64 z], .agg #[.int .i64 a, .int .i64 b], .agg #[.int .i64 a2, .int .i64 b2]] w fun e w' => e = .returned (.tuple #[.bool false, .int .i64 0]) ∧ w.grownBy w' none := by
  obtain ⟨W1, hW1, sz1, g1, B1⟩ := boxn w #[.int .u8 k, .int .i64 x, .int .i64 y, .int .u8 t, .int .i64 z] 23
  obtain ⟨W2, hW2, sz2, g2, B2⟩ := boxn W1 #[.int .i64 a, .int .i64 b] 25
  have G2 := gb_trans g1 g2
  have B1x := B1.kept g2 (by simp)
  obtain ⟨W3, hW3, sz3, g3, B3⟩ := boxn W2 #[.int .i64 a2, .int .i64 b2] 25
  have G3 := gb_trans G2 g3
  have B1xx := B1x.kept g3 (by simp)
  have B2x := B2.kept g3 (by simp)
  have b1_3_0 := B1xx.cell 0 (v := .int .u8 k) rfl
  have b1_3_1 := B1xx.cell 1 (v := .int .i64 x) rfl
  have b1_3_2 := B1xx.cell 2 (v := .int .i64 y) rfl
  have b1_3_3 := B1xx.cell 3 (v := .int .u8 t) rfl
  have b1_3_4 := B1xx.cell 4 (v := .int .i64 z) rfl
  have b2_3_0 := B2x.cell 0 (v := .int .i64 a) rfl
  have b2_3_1 := B2x.cell 1 (v := .int .i64 b) rfl
  have b3_3_0 := B3.cell 0 (v := .int .i64 a2) rfl
  have b3_3_1 := B3.cell 1 (v := .int .i64 b2) rfl
  go_enter Try.func20, Try.ntmps20
  go_wp2_with (first | (go_at_call 30; (fail_if_success (guard_hyp g4)); refine (h1 _).mono ?_; rintro e w4 ⟨rfl, g4⟩; have G4 := gb_trans G3 g4; have B1xxx := B1xx.kept g4 (by simp); have B2xx := B2x.kept g4 (by simp); have B3x := B3.kept g4 (by simp); clear b1_3_0 b1_3_1 b1_3_2 b1_3_3 b1_3_4 b2_3_0 b2_3_1 b3_3_0 b3_3_1; have b1_4_0 := B1xxx.cell 0 (v := .int .u8 k) rfl; have b1_4_1 := B1xxx.cell 1 (v := .int .i64 x) rfl; have b1_4_2 := B1xxx.cell 2 (v := .int .i64 y) rfl; have b1_4_3 := B1xxx.cell 3 (v := .int .u8 t) rfl; have b1_4_4 := B1xxx.cell 4 (v := .int .i64 z) rfl; have b2_4_0 := B2xx.cell 0 (v := .int .i64 a) rfl; have b2_4_1 := B2xx.cell 1 (v := .int .i64 b) rfl; have b3_4_0 := B3x.cell 0 (v := .int .i64 a2) rfl; have b3_4_1 := B3x.cell 1 (v := .int .i64 b2) rfl) | (go_at_call 30; (fail_if_success (guard_hyp g5)); refine (h2 _).mono ?_; rintro e w5 ⟨rfl, g5⟩; have G5 := gb_trans G4 g5; have B1xxxx := B1xxx.kept g5 (by simp); have B2xxx := B2xx.kept g5 (by simp); have B3xx := B3x.kept g5 (by simp); clear b1_4_0 b1_4_1 b1_4_2 b1_4_3 b1_4_4 b2_4_0 b2_4_1 b3_4_0 b3_4_1; have b1_5_0 := B1xxxx.cell 0 (v := .int .u8 k) rfl; have b1_5_1 := B1xxxx.cell 1 (v := .int .i64 x) rfl; have b1_5_2 := B1xxxx.cell 2 (v := .int .i64 y) rfl; have b1_5_3 := B1xxxx.cell 3 (v := .int .u8 t) rfl; have b1_5_4 := B1xxxx.cell 4 (v := .int .i64 z) rfl; have b2_5_0 := B2xxx.cell 0 (v := .int .i64 a) rfl; have b2_5_1 := B2xxx.cell 1 (v := .int .i64 b) rfl; have b3_5_0 := B3xx.cell 0 (v := .int .i64 a2) rfl; have b3_5_1 := B3xx.cell 1 (v := .int .i64 b2) rfl) | (go_at_call 11; (fail_if_success (guard_hyp g6)); refine (h3 _).mono ?_; rintro e w6 ⟨rfl, g6⟩; have G6 := gb_trans G5 g6; have B1xxxxx := B1xxxx.kept g6 (by simp); have B2xxxx := B2xxx.kept g6 (by simp); have B3xxx := B3xx.kept g6 (by simp); obtain ⟨W7, hW7, sz7, g7, B7⟩ := boxn w6 #[.int .i64 A1, .int .i64 A2] 25; have G7 := gb_trans G6 g7; have B1xxxxxx := B1xxxxx.kept g7 (by simp); have B2xxxxx := B2xxxx.kept g7 (by simp); have B3xxxx := B3xxx.kept g7 (by simp); clear b1_5_0 b1_5_1 b1_5_2 b1_5_3 b1_5_4 b2_5_0 b2_5_1 b3_5_0 b3_5_1; have b1_7_0 := B1xxxxxx.cell 0 (v := .int .u8 k) rfl; have b1_7_1 := B1xxxxxx.cell 1 (v := .int .i64 x) rfl; have b1_7_2 := B1xxxxxx.cell 2 (v := .int .i64 y) rfl; have b1_7_3 := B1xxxxxx.cell 3 (v := .int .u8 t) rfl; have b1_7_4 := B1xxxxxx.cell 4 (v := .int .i64 z) rfl; have b2_7_0 := B2xxxxx.cell 0 (v := .int .i64 a) rfl; have b2_7_1 := B2xxxxx.cell 1 (v := .int .i64 b) rfl; have b3_7_0 := B3xxxx.cell 0 (v := .int .i64 a2) rfl; have b3_7_1 := B3xxxx.cell 1 (v := .int .i64 b2) rfl; have b7_7_0 := B7.cell 0 (v := .int .i64 A1) rfl; have b7_7_1 := B7.cell 1 (v := .int .i64 A2) rfl) | (go_at_call 11; (fail_if_success (guard_hyp g8)); refine (h4 _).mono ?_; rintro e w8 ⟨rfl, g8⟩; have G8 := gb_trans G7 g8; have B1xxxxxxx := B1xxxxxx.kept g8 (by simp); have B2xxxxxx := B2xxxxx.kept g8 (by simp); have B3xxxxx := B3xxxx.kept g8 (by simp); have B7x := B7.kept g8 (by simp); obtain ⟨W9, hW9, sz9, g9, B9⟩ := boxn w8 #[.int .i64 D1, .int .i64 D2] 25; have G9 := gb_trans G8 g9; have B1xxxxxxxx := B1xxxxxxx.kept g9 (by simp); have B2xxxxxxx := B2xxxxxx.kept g9 (by simp); have B3xxxxxx := B3xxxxx.kept g9 (by simp); have B7xx := B7x.kept g9 (by simp); clear b1_7_0 b1_7_1 b1_7_2 b1_7_3 b1_7_4 b2_7_0 b2_7_1 b3_7_0 b3_7_1 b7_7_0 b7_7_1; have b1_9_0 := B1xxxxxxxx.cell 0 (v := .int .u8 k) rfl; have b1_9_1 := B1xxxxxxxx.cell 1 (v := .int .i64 x) rfl; have b1_9_2 := B1xxxxxxxx.cell 2 (v := .int .i64 y) rfl; have b1_9_3 := B1xxxxxxxx.cell 3 (v := .int .u8 t) rfl; have b1_9_4 := B1xxxxxxxx.cell 4 (v := .int .i64 z) rfl; have b2_9_0 := B2xxxxxxx.cell 0 (v := .int .i64 a) rfl; have b2_9_1 := B2xxxxxxx.cell 1 (v := .int .i64 b) rfl; have b3_9_0 := B3xxxxxx.cell 0 (v := .int .i64 a2) rfl; have b3_9_1 := B3xxxxxx.cell 1 (v := .int .i64 b2) rfl; have b7_9_0 := B7xx.cell 0 (v := .int .i64 A1) rfl; have b7_9_1 := B7xx.cell 1 (v := .int .i64 A2) rfl; have b9_9_0 := B9.cell 0 (v := .int .i64 D1) rfl; have b9_9_1 := B9.cell 1 (v := .int .i64 D2) rfl))
  go_ret2
  exact ⟨rfl, G9⟩

set_option maxHeartbeats 1000000 in
theorem rsF2 (k x y t z a b a2 b2 : Int) (A1 A2 D1 D2 : Int) (h1 : ∀ w, Calls Try.prog 30 #[.agg #[.int .u8 k, .int .i64 x, .int .i64 y, .int .u8 t, .int .i64 z], .agg #[.int .i64 a, .int .i64 b]] w fun e w' => e = .returned (.int .i64 0) ∧ w.grownBy w' none) (h2 : ∀ w, Calls Try.prog 30 #[.agg #[.int .u8 k, .int .i64 x, .int .i64 y, .int .u8 t, .int .i64 z], .agg #[.int .i64 a2, .int .i64 b2]] w fun e w' => e = .returned (.int .i64 0) ∧ w.grownBy w' none) (h3 : ∀ w, Calls Try.prog 11 #[.agg #[.int .u8 k, .int .i64 x, .int .i64 y, .int .u8 t, .int .i64 z], .agg #[.int .i64 a, .int .i64 b]] w fun e w' => e = .returned (.tuple #[.agg #[.int .i64 A1, .int .i64 A2], .int .i64 0]) ∧ w.grownBy w' none) (h4 : ∀ w, Calls Try.prog 11 #[.agg #[.int .u8 k, .int .i64 x, .int .i64 y, .int .u8 t, .int .i64 z], .agg #[.int .i64 a2, .int .i64 b2]] w fun e w' => e = .returned (.tuple #[.agg #[.int .i64 D1, .int .i64 D2], .int .i64 0]) ∧ w.grownBy w' none) (q1 : (A1 == D1) = true) (q2 : (A2 == D2) = false) (w : World) : Calls Try.prog 20 #[.agg #[.int .u8 k, .int .i64 x, .int .i64 y, .int .u8 t, .int .i64 z], .agg #[.int .i64 a, .int .i64 b], .agg #[.int .i64 a2, .int .i64 b2]] w fun e w' => e = .returned (.tuple #[.bool false, .int .i64 0]) ∧ w.grownBy w' none := by
  obtain ⟨W1, hW1, sz1, g1, B1⟩ := boxn w #[.int .u8 k, .int .i64 x, .int .i64 y, .int .u8 t, .int .i64 z] 23
  obtain ⟨W2, hW2, sz2, g2, B2⟩ := boxn W1 #[.int .i64 a, .int .i64 b] 25
  have G2 := gb_trans g1 g2
  have B1x := B1.kept g2 (by simp)
  obtain ⟨W3, hW3, sz3, g3, B3⟩ := boxn W2 #[.int .i64 a2, .int .i64 b2] 25
  have G3 := gb_trans G2 g3
  have B1xx := B1x.kept g3 (by simp)
  have B2x := B2.kept g3 (by simp)
  have b1_3_0 := B1xx.cell 0 (v := .int .u8 k) rfl
  have b1_3_1 := B1xx.cell 1 (v := .int .i64 x) rfl
  have b1_3_2 := B1xx.cell 2 (v := .int .i64 y) rfl
  have b1_3_3 := B1xx.cell 3 (v := .int .u8 t) rfl
  have b1_3_4 := B1xx.cell 4 (v := .int .i64 z) rfl
  have b2_3_0 := B2x.cell 0 (v := .int .i64 a) rfl
  have b2_3_1 := B2x.cell 1 (v := .int .i64 b) rfl
  have b3_3_0 := B3.cell 0 (v := .int .i64 a2) rfl
  have b3_3_1 := B3.cell 1 (v := .int .i64 b2) rfl
  go_enter Try.func20, Try.ntmps20
  go_wp2_with (first | (go_at_call 30; (fail_if_success (guard_hyp g4)); refine (h1 _).mono ?_; rintro e w4 ⟨rfl, g4⟩; have G4 := gb_trans G3 g4; have B1xxx := B1xx.kept g4 (by simp); have B2xx := B2x.kept g4 (by simp); have B3x := B3.kept g4 (by simp); clear b1_3_0 b1_3_1 b1_3_2 b1_3_3 b1_3_4 b2_3_0 b2_3_1 b3_3_0 b3_3_1; have b1_4_0 := B1xxx.cell 0 (v := .int .u8 k) rfl; have b1_4_1 := B1xxx.cell 1 (v := .int .i64 x) rfl; have b1_4_2 := B1xxx.cell 2 (v := .int .i64 y) rfl; have b1_4_3 := B1xxx.cell 3 (v := .int .u8 t) rfl; have b1_4_4 := B1xxx.cell 4 (v := .int .i64 z) rfl; have b2_4_0 := B2xx.cell 0 (v := .int .i64 a) rfl; have b2_4_1 := B2xx.cell 1 (v := .int .i64 b) rfl; have b3_4_0 := B3x.cell 0 (v := .int .i64 a2) rfl; have b3_4_1 := B3x.cell 1 (v := .int .i64 b2) rfl) | (go_at_call 30; (fail_if_success (guard_hyp g5)); refine (h2 _).mono ?_; rintro e w5 ⟨rfl, g5⟩; have G5 := gb_trans G4 g5; have B1xxxx := B1xxx.kept g5 (by simp); have B2xxx := B2xx.kept g5 (by simp); have B3xx := B3x.kept g5 (by simp); clear b1_4_0 b1_4_1 b1_4_2 b1_4_3 b1_4_4 b2_4_0 b2_4_1 b3_4_0 b3_4_1; have b1_5_0 := B1xxxx.cell 0 (v := .int .u8 k) rfl; have b1_5_1 := B1xxxx.cell 1 (v := .int .i64 x) rfl; have b1_5_2 := B1xxxx.cell 2 (v := .int .i64 y) rfl; have b1_5_3 := B1xxxx.cell 3 (v := .int .u8 t) rfl; have b1_5_4 := B1xxxx.cell 4 (v := .int .i64 z) rfl; have b2_5_0 := B2xxx.cell 0 (v := .int .i64 a) rfl; have b2_5_1 := B2xxx.cell 1 (v := .int .i64 b) rfl; have b3_5_0 := B3xx.cell 0 (v := .int .i64 a2) rfl; have b3_5_1 := B3xx.cell 1 (v := .int .i64 b2) rfl) | (go_at_call 11; (fail_if_success (guard_hyp g6)); refine (h3 _).mono ?_; rintro e w6 ⟨rfl, g6⟩; have G6 := gb_trans G5 g6; have B1xxxxx := B1xxxx.kept g6 (by simp); have B2xxxx := B2xxx.kept g6 (by simp); have B3xxx := B3xx.kept g6 (by simp); obtain ⟨W7, hW7, sz7, g7, B7⟩ := boxn w6 #[.int .i64 A1, .int .i64 A2] 25; have G7 := gb_trans G6 g7; have B1xxxxxx := B1xxxxx.kept g7 (by simp); have B2xxxxx := B2xxxx.kept g7 (by simp); have B3xxxx := B3xxx.kept g7 (by simp); clear b1_5_0 b1_5_1 b1_5_2 b1_5_3 b1_5_4 b2_5_0 b2_5_1 b3_5_0 b3_5_1; have b1_7_0 := B1xxxxxx.cell 0 (v := .int .u8 k) rfl; have b1_7_1 := B1xxxxxx.cell 1 (v := .int .i64 x) rfl; have b1_7_2 := B1xxxxxx.cell 2 (v := .int .i64 y) rfl; have b1_7_3 := B1xxxxxx.cell 3 (v := .int .u8 t) rfl; have b1_7_4 := B1xxxxxx.cell 4 (v := .int .i64 z) rfl; have b2_7_0 := B2xxxxx.cell 0 (v := .int .i64 a) rfl; have b2_7_1 := B2xxxxx.cell 1 (v := .int .i64 b) rfl; have b3_7_0 := B3xxxx.cell 0 (v := .int .i64 a2) rfl; have b3_7_1 := B3xxxx.cell 1 (v := .int .i64 b2) rfl; have b7_7_0 := B7.cell 0 (v := .int .i64 A1) rfl; have b7_7_1 := B7.cell 1 (v := .int .i64 A2) rfl) | (go_at_call 11; (fail_if_success (guard_hyp g8)); refine (h4 _).mono ?_; rintro e w8 ⟨rfl, g8⟩; have G8 := gb_trans G7 g8; have B1xxxxxxx := B1xxxxxx.kept g8 (by simp); have B2xxxxxx := B2xxxxx.kept g8 (by simp); have B3xxxxx := B3xxxx.kept g8 (by simp); have B7x := B7.kept g8 (by simp); obtain ⟨W9, hW9, sz9, g9, B9⟩ := boxn w8 #[.int .i64 D1, .int .i64 D2] 25; have G9 := gb_trans G8 g9; have B1xxxxxxxx := B1xxxxxxx.kept g9 (by simp); have B2xxxxxxx := B2xxxxxx.kept g9 (by simp); have B3xxxxxx := B3xxxxx.kept g9 (by simp); have B7xx := B7x.kept g9 (by simp); clear b1_7_0 b1_7_1 b1_7_2 b1_7_3 b1_7_4 b2_7_0 b2_7_1 b3_7_0 b3_7_1 b7_7_0 b7_7_1; have b1_9_0 := B1xxxxxxxx.cell 0 (v := .int .u8 k) rfl; have b1_9_1 := B1xxxxxxxx.cell 1 (v := .int .i64 x) rfl; have b1_9_2 := B1xxxxxxxx.cell 2 (v := .int .i64 y) rfl; have b1_9_3 := B1xxxxxxxx.cell 3 (v := .int .u8 t) rfl; have b1_9_4 := B1xxxxxxxx.cell 4 (v := .int .i64 z) rfl; have b2_9_0 := B2xxxxxxx.cell 0 (v := .int .i64 a) rfl; have b2_9_1 := B2xxxxxxx.cell 1 (v := .int .i64 b) rfl; have b3_9_0 := B3xxxxxx.cell 0 (v := .int .i64 a2) rfl; have b3_9_1 := B3xxxxxx.cell 1 (v := .int .i64 b2) rfl; have b7_9_0 := B7xx.cell 0 (v := .int .i64 A1) rfl; have b7_9_1 := B7xx.cell 1 (v := .int .i64 A2) rfl; have b9_9_0 := B9.cell 0 (v := .int .i64 D1) rfl; have b9_9_1 := B9.cell 1 (v := .int .i64 D2) rfl))
  go_ret2
  exact ⟨rfl, G9⟩

theorem ce_cases {k x y t z a b : Int} (h : Tp.chk k x y t z = 0) (hf : (To.frB a || To.frB b) = false) : ceE k x y t z a b = 0 ∨ ceE k x y t z a b = 60 := by
  unfold ceE
  rw [if_pos h, if_neg (by rw [hf]; decide)]
  split
  · exact .inr rfl
  · exact .inl rfl
theorem refSameC (k x y t z a b a2 b2 : Int) (ht : 0 ≤ t) (w : World) : Calls Try.prog 20 #[.agg #[.int .u8 k, .int .i64 x, .int .i64 y, .int .u8 t, .int .i64 z], .agg #[.int .i64 a, .int .i64 b], .agg #[.int .i64 a2, .int .i64 b2]] w fun e w' => e = .returned (.tuple #[.bool (saB k x y t z a b a2 b2), .int .i64 (saE k x y t z a b a2 b2)]) ∧ w.grownBy w' none := by
  have key : ∀ E, saE k x y t z a b a2 b2 = E → (E == 0) = false → saB k x y t z a b a2 b2 = false := by
    intro E h1 h2
    unfold saB
    rw [h1, decide_eq_false (beq_eq_false_iff_ne.1 h2)]; rfl
  have r1 := refusedC k x y t z a b ht
  have r2 := refusedC k x y t z a2 b2 ht
  by_cases h : Tp.chk k x y t z = 0
  · cases hf : (To.frB a || To.frB b)
    · have f1 : rfE k x y t z a b = 0 := by unfold rfE; rw [if_pos h, if_neg (by rw [hf]; decide)]
      rw [f1] at r1
      cases hf2 : (To.frB a2 || To.frB b2)
      · have f2 : rfE k x y t z a2 b2 = 0 := by unfold rfE; rw [if_pos h, if_neg (by rw [hf2]; decide)]
        rw [f2] at r2
        have s1 := refCellC k x y t z a b ht
        have s2 := refCellC k x y t z a2 b2 ht
        have e0 : saE k x y t z a b a2 b2 = if ceE k x y t z a b = 0 then ceE k x y t z a2 b2 else ceE k x y t z a b := by
          unfold saE; rw [if_pos h, if_neg (by rw [hf]; decide), if_neg (by rw [hf2]; decide)]
        rcases ce_cases h hf with e1 | e1
        · rw [if_pos e1] at e0
          rw [ce_yes e1, e1] at s1
          rcases ce_cases h hf2 with e2 | e2
          · rw [ce_yes e2, e2] at s2
            rw [e2] at e0
            unfold saB
            rw [e0, show decide ((0 : Int) = 0) = true from rfl, Bool.true_and]
            by_cases q1 : ceX k x y t z a b = ceX k x y t z a2 b2
            · by_cases q2 : ceY k x y t z a b = ceY k x y t z a2 b2
              · rw [decide_eq_true q1, decide_eq_true q2]
                exact rsT k x y t z a b a2 b2 _ _ _ _ r1 r2 s1 s2 (beq_iff_eq.2 q1) (beq_iff_eq.2 q2) w
              · rw [decide_eq_true q1, decide_eq_false q2]
                exact rsF2 k x y t z a b a2 b2 _ _ _ _ r1 r2 s1 s2 (beq_iff_eq.2 q1) (beq_eq_false_iff_ne.2 q2) w
            · rw [decide_eq_false q1]
              exact rsF1 k x y t z a b a2 b2 _ _ _ _ r1 r2 s1 s2 (beq_eq_false_iff_ne.2 q1) w
          · rw [ce_zero (by rw [e2]; decide), e2] at s2
            rw [e2] at e0
            rw [key 60 e0 rfl, e0]
            exact rsE2 k x y t z a b a2 b2 60 rfl _ _ _ _ r1 r2 s1 s2 w
        · rw [if_neg (by rw [e1]; decide), e1] at e0
          rw [ce_zero (by rw [e1]; decide), e1] at s1
          rw [key 60 e0 rfl, e0]
          rcases ce_cases h hf2 with e2 | e2
          · rw [ce_yes e2] at s2
            exact rsE1 k x y t z a b a2 b2 60 rfl _ _ _ _ _ r1 r2 s1 s2 w
          · rw [ce_zero (by rw [e2]; decide)] at s2
            exact rsE1 k x y t z a b a2 b2 60 rfl _ _ _ _ _ r1 r2 s1 s2 w
      · have f2 : rfE k x y t z a2 b2 = 5 := by unfold rfE; rw [if_pos h, if_pos hf2]
        rw [f2] at r2
        have e0 : saE k x y t z a b a2 b2 = 5 := by unfold saE; rw [if_pos h, if_neg (by rw [hf]; decide), if_pos hf2]
        rw [key 5 e0 rfl, e0]
        exact rsX2 k x y t z a b a2 b2 5 rfl r1 r2 w
    · have f1 : rfE k x y t z a b = 5 := by unfold rfE; rw [if_pos h, if_pos hf]
      rw [f1] at r1
      have e0 : saE k x y t z a b a2 b2 = 5 := by unfold saE; rw [if_pos h, if_pos hf]
      rw [key 5 e0 rfl, e0]
      exact rsX1 k x y t z a b a2 b2 5 rfl r1 w
  · have f1 : rfE k x y t z a b = 9 := by unfold rfE; rw [if_neg h]
    rw [f1] at r1
    have e0 : saE k x y t z a b a2 b2 = 9 := by unfold saE; rw [if_neg h]
    rw [key 9 e0 rfl, e0]
    exact rsX1 k x y t z a b a2 b2 9 rfl r1 w
end Go.Proofs.Ytgiiaokkmnjckaa
