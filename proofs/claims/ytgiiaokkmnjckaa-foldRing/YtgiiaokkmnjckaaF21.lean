/- The document's Ring in plain words; the walk of FoldRing. -/
import Derived.Test.YtgiiaokkmnjckaaF17
import Derived.Test.YtgiiaokkmnjckaaF20
namespace Go.Proofs.Ytgiiaokkmnjckaa
open Go.RowKit
open Fl
set_option linter.unusedVariables false
set_option linter.unusedSimpArgs false
set_option maxRecDepth 100000

theorem gi_ri {x y a b : Int} (h : giB x y a b = true) : toB (a - To.fi x) x = true ∧ toB (b - To.fi y) y = true := by
  have h' := Bool.and_eq_true_iff.1 h
  have h1 := li_iff.1 h'.1
  have h2 := li_iff.1 h'.2
  unfold toB
  simp only [Bool.or_eq_true, Bool.and_eq_true, decide_eq_true_eq]
  omega
theorem refRingC (k x y t z a b : Int) (ht : 0 ≤ t) (w : World) : Calls Try.prog 15 #[.agg #[.int .u8 k, .int .i64 x, .int .i64 y, .int .u8 t, .int .i64 z], .agg #[.int .i64 a, .int .i64 b]] w fun e w' => e = .returned (.tuple #[.agg (riV k x y t z a b), .bool (riB k x y t z a b), .int .i64 (riE k x y t z a b)]) ∧ w.grownBy w' none := by
  have hr := refusedC k x y t z a b ht
  by_cases h : Tp.chk k x y t z = 0
  · cases hf : (To.frB a || To.frB b)
    · have h1 := Bool.or_eq_false_iff.1 hf
      have ok := Tp.ok_of h
      have hx := ok.wide
      have hy := ok.high
      have bx := fi_bd hx
      have by' := fi_bd hy
      have ba := fr_bd h1.1
      have bb := fr_bd h1.2
      have hkk := ok.kind
      have hin := refInC k x y t z a b ok h1.1 h1.2
      have r0 : rfE k x y t z a b = 0 := by unfold rfE; rw [if_pos h, if_neg (by rw [hf]; decide)]
      rw [r0] at hr
      have e0 : riE k x y t z a b = if giB x y a b = true then 0 else if riN x y a b = true then 0 else 60 := by unfold riE; rw [if_pos h, if_neg (by rw [hf]; decide)]
      cases hg : giB x y a b
      · rw [hg, if_neg (by decide)] at e0
        rw [hg] at hin
        cases t1 : toB (a - To.fi x) x
        · have hr0 : riN x y a b = false := by unfold riN; rw [t1]; rfl
          rw [hr0, if_neg (by decide)] at e0
          have e1 : riB k x y t z a b = false := by unfold riB; rw [e0]; rfl
          rw [riV_no e1, e1, e0]
          exact rrN1 k x y t z a b hx.1 hx.2 hy.1 hy.2 ba.1 ba.2 bb.1 bb.2 hr t1 w
        · cases t2 : toB (b - To.fi y) y
          · have hr0 : riN x y a b = false := by unfold riN; rw [t1, t2]; rfl
            rw [hr0, if_neg (by decide)] at e0
            have e1 : riB k x y t z a b = false := by unfold riB; rw [e0]; rfl
            rw [riV_no e1, e1, e0]
            exact rrN2 k x y t z a b hx.1 hx.2 hy.1 hy.2 ba.1 ba.2 bb.1 bb.2 hr t1 t2 w
          · have hr0 : riN x y a b = true := by unfold riN; rw [t1, t2]; rfl
            rw [hr0, if_pos rfl] at e0
            by_cases k1 : k = 1
            · subst k1
              have e1 : riB 1 x y t z a b = false := by unfold riB; rw [hg]; simp
              rw [riV_no e1, e1, e0]
              exact rrPl 1 x y t z a b hx.1 hx.2 hy.1 hy.2 ba.1 ba.2 bb.1 bb.2 hr t1 t2 hin rfl w
            · have e1 : riB k x y t z a b = true := by unfold riB; rw [e0]; simp [k1]
              rw [riV_yes e1, e1, e0]
              unfold riX riY
              rw [hg]
              simp only [Bool.false_eq_true, if_false]
              by_cases k5 : k = 5
              · subst k5
                rw [if_pos rfl, if_pos rfl]
                have hxy := ok.alike rfl
                have hen := ok.ended (by omega)
                have n1 : ¬ (To.liB a x = true ∧ To.liB b y = true) := by
                  intro q
                  have := Bool.and_eq_true_iff.2 q
                  unfold giB at hg
                  rw [this] at hg
                  exact absurd hg (by decide)
                rw [li_iff, li_iff] at n1
                have t1' : -1 ≤ (a - To.fi x) ∧ (a - To.fi x) ≤ x := by
                  unfold toB at t1
                  simp only [Bool.or_eq_true, Bool.and_eq_true, decide_eq_true_eq] at t1
                  omega
                have t2' : -1 ≤ (b - To.fi y) ∧ (b - To.fi y) ≤ y := by
                  unfold toB at t2
                  simp only [Bool.or_eq_true, Bool.and_eq_true, decide_eq_true_eq] at t2
                  omega
                have m1 : -1 ≤ Nm.nearZ (b - To.fi y) 0 (x - 1) ∧ Nm.nearZ (b - To.fi y) 0 (x - 1) ≤ 65536 := by
                  unfold Nm.nearZ
                  repeat' split
                  all_goals omega
                have m2 : -1 ≤ Nm.nearZ (a - To.fi x) 0 (x - 1) ∧ Nm.nearZ (a - To.fi x) 0 (x - 1) ≤ 65536 := by
                  unfold Nm.nearZ
                  repeat' split
                  all_goals omega
                rw [show y - 1 = x - 1 by omega]
                exact rrSp 5 x y t z a b hx.1 hx.2 hy.1 hy.2 ba.1 ba.2 bb.1 bb.2 hr t1 t2 hin rfl rfl _ _ _ _ (ballC x (a - To.fi x) (b - To.fi y) (by omega) (by omega) (by omega) (by omega) (by omega) (by omega) (by omega)) (by rw [IntKind.wrap_i64]; omega) (by rw [IntKind.wrap_i64]; omega) w
              · rw [if_neg k5, if_neg k5]
                have hk : k = 2 ∨ k = 3 ∨ k = 4 := by omega
                have hgl := gl_iff.2 hk
                have c0 : ceE k x y t z a b = 0 := by unfold ceE; rw [if_pos h, if_neg (by rw [hf]; decide), if_neg (by rw [hgl]; simp)]
                have hc := refCellC k x y t z a b ht
                rw [ce_yes c0, c0] at hc
                unfold ceX ceY at hc
                rw [hgl] at hc
                simp only [if_true] at hc
                exact rrGl k x y t z a b hx.1 hx.2 hy.1 hy.2 ba.1 ba.2 bb.1 bb.2 hr t1 t2 hin (beq_eq_false_iff_ne.2 k1) (beq_eq_false_iff_ne.2 k5) _ _ _ hc w
      · rw [hg, if_pos rfl] at e0
        rw [hg] at hin
        have tt := gi_ri hg
        have e1 : riB k x y t z a b = true := by unfold riB; rw [e0, hg]; simp
        rw [riV_yes e1, e1, e0]
        unfold riX riY
        rw [hg, if_pos rfl, if_pos rfl]
        exact rrIn k x y t z a b hx.1 hx.2 hy.1 hy.2 ba.1 ba.2 bb.1 bb.2 hr tt.1 tt.2 hin w
    · have r0 : rfE k x y t z a b = 5 := by unfold rfE; rw [if_pos h, if_pos hf]
      have e0 : riE k x y t z a b = 5 := by unfold riE; rw [if_pos h, if_pos hf]
      have e1 : riB k x y t z a b = false := by unfold riB; rw [e0]; rfl
      rw [r0] at hr
      rw [riV_no e1, e1, e0]
      exact rrX k x y t z a b 5 rfl hr w
  · have r0 : rfE k x y t z a b = 9 := by unfold rfE; rw [if_neg h]
    have e0 : riE k x y t z a b = 9 := by unfold riE; rw [if_neg h]
    have e1 : riB k x y t z a b = false := by unfold riB; rw [e0]; rfl
    rw [r0] at hr
    rw [riV_no e1, e1, e0]
    exact rrX k x y t z a b 9 rfl hr w

set_option maxHeartbeats 1000000 in
theorem ring_w1 (k x y t z a b : Int) (X Y : Int) (B : Bool) (E : Int) (hp : ∀ w, Calls Try.prog 14 #[.agg #[.int .u8 k, .int .i64 x, .int .i64 y, .int .u8 t, .int .i64 z], .agg #[.int .i64 a, .int .i64 b]] w fun e w' => e = .returned (.tuple #[.agg #[.int .i64 X, .int .i64 Y], .bool B, .int .i64 E]) ∧ w.grownBy w' none) (hq : ∀ w, Calls Try.prog 15 #[.agg #[.int .u8 k, .int .i64 x, .int .i64 y, .int .u8 t, .int .i64 z], .agg #[.int .i64 a, .int .i64 b]] w fun e w' => e = .returned (.tuple #[.agg #[.int .i64 X, .int .i64 Y], .bool B, .int .i64 E]) ∧ w.grownBy w' none) (w : World) : Calls Try.prog 4 #[.agg #[.int .u8 k, .int .i64 x, .int .i64 y, .int .u8 t, .int .i64 z], .agg #[.int .i64 a, .int .i64 b]] w fun e w' => e = .returned (.bool true) ∧ Below w.heap.size w w' := by
  obtain ⟨W1, hW1, sz1, g1, B1⟩ := boxn w #[.int .u8 k, .int .i64 x, .int .i64 y, .int .u8 t, .int .i64 z] 23
  obtain ⟨W2, hW2, sz2, g2, B2⟩ := boxn W1 #[.int .i64 a, .int .i64 b] 25
  have G2 := gb_trans g1 g2
  have B1x := B1.kept g2 (by simp)
  have b1_2_0 := B1x.cell 0 (v := .int .u8 k) rfl
  have b1_2_1 := B1x.cell 1 (v := .int .i64 x) rfl
  have b1_2_2 := B1x.cell 2 (v := .int .i64 y) rfl
  have b1_2_3 := B1x.cell 3 (v := .int .u8 t) rfl
  have b1_2_4 := B1x.cell 4 (v := .int .i64 z) rfl
  have b2_2_0 := B2.cell 0 (v := .int .i64 a) rfl
  have b2_2_1 := B2.cell 1 (v := .int .i64 b) rfl
  go_enter Try.func4, Try.ntmps4
  go_wp2_with (first | (go_at_call 9; (fail_if_success (guard_hyp g3)); refine (awakeC _).mono ?_; rintro e w3 ⟨rfl, g3⟩; have G3 := gb_trans G2 g3; have B1xx := B1x.kept g3 (by simp); have B2x := B2.kept g3 (by simp); clear b1_2_0 b1_2_1 b1_2_2 b1_2_3 b1_2_4 b2_2_0 b2_2_1; have b1_3_0 := B1xx.cell 0 (v := .int .u8 k) rfl; have b1_3_1 := B1xx.cell 1 (v := .int .i64 x) rfl; have b1_3_2 := B1xx.cell 2 (v := .int .i64 y) rfl; have b1_3_3 := B1xx.cell 3 (v := .int .u8 t) rfl; have b1_3_4 := B1xx.cell 4 (v := .int .i64 z) rfl; have b2_3_0 := B2x.cell 0 (v := .int .i64 a) rfl; have b2_3_1 := B2x.cell 1 (v := .int .i64 b) rfl) | (go_at_call 14; (fail_if_success (guard_hyp g4)); refine (hp _).mono ?_; rintro e w4 ⟨rfl, g4⟩; have G4 := gb_trans G3 g4; have B1xxx := B1xx.kept g4 (by simp); have B2xx := B2x.kept g4 (by simp); obtain ⟨W5, hW5, sz5, g5, B5⟩ := boxn w4 #[.int .i64 X, .int .i64 Y] 25; have G5 := gb_trans G4 g5; have B1xxxx := B1xxx.kept g5 (by simp); have B2xxx := B2xx.kept g5 (by simp); have sm5_0 := Bo.same B5 0 (v := .int .i64 X) rfl; have sm5_1 := Bo.same B5 1 (v := .int .i64 Y) rfl; have fz5_0 := B5.frozen 0; have fz5_1 := B5.frozen 1; clear b1_3_0 b1_3_1 b1_3_2 b1_3_3 b1_3_4 b2_3_0 b2_3_1; have b1_5_0 := B1xxxx.cell 0 (v := .int .u8 k) rfl; have b1_5_1 := B1xxxx.cell 1 (v := .int .i64 x) rfl; have b1_5_2 := B1xxxx.cell 2 (v := .int .i64 y) rfl; have b1_5_3 := B1xxxx.cell 3 (v := .int .u8 t) rfl; have b1_5_4 := B1xxxx.cell 4 (v := .int .i64 z) rfl; have b2_5_0 := B2xxx.cell 0 (v := .int .i64 a) rfl; have b2_5_1 := B2xxx.cell 1 (v := .int .i64 b) rfl; have b5_5_0 := B5.cell 0 (v := .int .i64 X) rfl; have b5_5_1 := B5.cell 1 (v := .int .i64 Y) rfl) | (go_at_call 15; (fail_if_success (guard_hyp g6)); refine (hq _).mono ?_; rintro e w6 ⟨rfl, g6⟩; have G6 := gb_trans G5 g6; have B1xxxxx := B1xxxx.kept g6 (by simp); have B2xxxx := B2xxx.kept g6 (by simp); have B5x := B5.kept g6 (by simp); obtain ⟨W7, hW7, sz7, g7, B7⟩ := boxn w6 #[.int .i64 X, .int .i64 Y] 25; have G7 := gb_trans G6 g7; have B1xxxxxx := B1xxxxx.kept g7 (by simp); have B2xxxxx := B2xxxx.kept g7 (by simp); have B5xx := B5x.kept g7 (by simp); have sm7_0 := Bo.same B7 0 (v := .int .i64 X) rfl; have sm7_1 := Bo.same B7 1 (v := .int .i64 Y) rfl; have fz7_0 := B7.frozen 0; have fz7_1 := B7.frozen 1; clear b1_5_0 b1_5_1 b1_5_2 b1_5_3 b1_5_4 b2_5_0 b2_5_1 b5_5_0 b5_5_1; have b1_7_0 := B1xxxxxx.cell 0 (v := .int .u8 k) rfl; have b1_7_1 := B1xxxxxx.cell 1 (v := .int .i64 x) rfl; have b1_7_2 := B1xxxxxx.cell 2 (v := .int .i64 y) rfl; have b1_7_3 := B1xxxxxx.cell 3 (v := .int .u8 t) rfl; have b1_7_4 := B1xxxxxx.cell 4 (v := .int .i64 z) rfl; have b2_7_0 := B2xxxxx.cell 0 (v := .int .i64 a) rfl; have b2_7_1 := B2xxxxx.cell 1 (v := .int .i64 b) rfl; have b5_7_0 := B5xx.cell 0 (v := .int .i64 X) rfl; have b5_7_1 := B5xx.cell 1 (v := .int .i64 Y) rfl; have b7_7_0 := B7.cell 0 (v := .int .i64 X) rfl; have b7_7_1 := B7.cell 1 (v := .int .i64 Y) rfl))
  go_ret
  refine ⟨retB ?_, gb_below G7⟩
  simp

set_option maxHeartbeats 1000000 in
theorem ring_w0 (k x y t z a b : Int)  (B : Bool) (E : Int) (hp : ∀ w, Calls Try.prog 14 #[.agg #[.int .u8 k, .int .i64 x, .int .i64 y, .int .u8 t, .int .i64 z], .agg #[.int .i64 a, .int .i64 b]] w fun e w' => e = .returned (.tuple #[.agg #[.int .i64 0, .int .i64 0], .bool B, .int .i64 E]) ∧ w.grownBy w' none) (hq : ∀ w, Calls Try.prog 15 #[.agg #[.int .u8 k, .int .i64 x, .int .i64 y, .int .u8 t, .int .i64 z], .agg #[.int .i64 a, .int .i64 b]] w fun e w' => e = .returned (.tuple #[.agg #[.int .i64 0, .int .i64 0], .bool B, .int .i64 E]) ∧ w.grownBy w' none) (w : World) : Calls Try.prog 4 #[.agg #[.int .u8 k, .int .i64 x, .int .i64 y, .int .u8 t, .int .i64 z], .agg #[.int .i64 a, .int .i64 b]] w fun e w' => e = .returned (.bool true) ∧ Below w.heap.size w w' := by
  obtain ⟨W1, hW1, sz1, g1, B1⟩ := boxn w #[.int .u8 k, .int .i64 x, .int .i64 y, .int .u8 t, .int .i64 z] 23
  obtain ⟨W2, hW2, sz2, g2, B2⟩ := boxn W1 #[.int .i64 a, .int .i64 b] 25
  have G2 := gb_trans g1 g2
  have B1x := B1.kept g2 (by simp)
  have b1_2_0 := B1x.cell 0 (v := .int .u8 k) rfl
  have b1_2_1 := B1x.cell 1 (v := .int .i64 x) rfl
  have b1_2_2 := B1x.cell 2 (v := .int .i64 y) rfl
  have b1_2_3 := B1x.cell 3 (v := .int .u8 t) rfl
  have b1_2_4 := B1x.cell 4 (v := .int .i64 z) rfl
  have b2_2_0 := B2.cell 0 (v := .int .i64 a) rfl
  have b2_2_1 := B2.cell 1 (v := .int .i64 b) rfl
  go_enter Try.func4, Try.ntmps4
  go_wp2_with (first | (go_at_call 9; (fail_if_success (guard_hyp g3)); refine (awakeC _).mono ?_; rintro e w3 ⟨rfl, g3⟩; have G3 := gb_trans G2 g3; have B1xx := B1x.kept g3 (by simp); have B2x := B2.kept g3 (by simp); clear b1_2_0 b1_2_1 b1_2_2 b1_2_3 b1_2_4 b2_2_0 b2_2_1; have b1_3_0 := B1xx.cell 0 (v := .int .u8 k) rfl; have b1_3_1 := B1xx.cell 1 (v := .int .i64 x) rfl; have b1_3_2 := B1xx.cell 2 (v := .int .i64 y) rfl; have b1_3_3 := B1xx.cell 3 (v := .int .u8 t) rfl; have b1_3_4 := B1xx.cell 4 (v := .int .i64 z) rfl; have b2_3_0 := B2x.cell 0 (v := .int .i64 a) rfl; have b2_3_1 := B2x.cell 1 (v := .int .i64 b) rfl) | (go_at_call 14; (fail_if_success (guard_hyp g4)); refine (hp _).mono ?_; rintro e w4 ⟨rfl, g4⟩; have G4 := gb_trans G3 g4; have B1xxx := B1xx.kept g4 (by simp); have B2xx := B2x.kept g4 (by simp); obtain ⟨W5, hW5, sz5, g5, B5⟩ := boxn w4 #[.int .i64 0, .int .i64 0] 25; have G5 := gb_trans G4 g5; have B1xxxx := B1xxx.kept g5 (by simp); have B2xxx := B2xx.kept g5 (by simp); have sm5_0 := Bo.same B5 0 (v := .int .i64 0) rfl; have sm5_1 := Bo.same B5 1 (v := .int .i64 0) rfl; have fz5_0 := B5.frozen 0; have fz5_1 := B5.frozen 1; clear b1_3_0 b1_3_1 b1_3_2 b1_3_3 b1_3_4 b2_3_0 b2_3_1; have b1_5_0 := B1xxxx.cell 0 (v := .int .u8 k) rfl; have b1_5_1 := B1xxxx.cell 1 (v := .int .i64 x) rfl; have b1_5_2 := B1xxxx.cell 2 (v := .int .i64 y) rfl; have b1_5_3 := B1xxxx.cell 3 (v := .int .u8 t) rfl; have b1_5_4 := B1xxxx.cell 4 (v := .int .i64 z) rfl; have b2_5_0 := B2xxx.cell 0 (v := .int .i64 a) rfl; have b2_5_1 := B2xxx.cell 1 (v := .int .i64 b) rfl; have b5_5_0 := B5.cell 0 (v := .int .i64 0) rfl; have b5_5_1 := B5.cell 1 (v := .int .i64 0) rfl) | (go_at_call 15; (fail_if_success (guard_hyp g6)); refine (hq _).mono ?_; rintro e w6 ⟨rfl, g6⟩; have G6 := gb_trans G5 g6; have B1xxxxx := B1xxxx.kept g6 (by simp); have B2xxxx := B2xxx.kept g6 (by simp); have B5x := B5.kept g6 (by simp); obtain ⟨W7, hW7, sz7, g7, B7⟩ := boxn w6 #[.int .i64 0, .int .i64 0] 25; have G7 := gb_trans G6 g7; have B1xxxxxx := B1xxxxx.kept g7 (by simp); have B2xxxxx := B2xxxx.kept g7 (by simp); have B5xx := B5x.kept g7 (by simp); have sm7_0 := Bo.same B7 0 (v := .int .i64 0) rfl; have sm7_1 := Bo.same B7 1 (v := .int .i64 0) rfl; have fz7_0 := B7.frozen 0; have fz7_1 := B7.frozen 1; clear b1_5_0 b1_5_1 b1_5_2 b1_5_3 b1_5_4 b2_5_0 b2_5_1 b5_5_0 b5_5_1; have b1_7_0 := B1xxxxxx.cell 0 (v := .int .u8 k) rfl; have b1_7_1 := B1xxxxxx.cell 1 (v := .int .i64 x) rfl; have b1_7_2 := B1xxxxxx.cell 2 (v := .int .i64 y) rfl; have b1_7_3 := B1xxxxxx.cell 3 (v := .int .u8 t) rfl; have b1_7_4 := B1xxxxxx.cell 4 (v := .int .i64 z) rfl; have b2_7_0 := B2xxxxx.cell 0 (v := .int .i64 a) rfl; have b2_7_1 := B2xxxxx.cell 1 (v := .int .i64 b) rfl; have b5_7_0 := B5xx.cell 0 (v := .int .i64 0) rfl; have b5_7_1 := B5xx.cell 1 (v := .int .i64 0) rfl; have b7_7_0 := B7.cell 0 (v := .int .i64 0) rfl; have b7_7_1 := B7.cell 1 (v := .int .i64 0) rfl))
  go_ret
  refine ⟨retB ?_, gb_below G7⟩
  simp

theorem ring_top (k x y t z a b : Int) (_ : 0 ≤ k ∧ k ≤ 255) (_ : -9223372036854775808 ≤ x ∧ x ≤ 9223372036854775807) (_ : -9223372036854775808 ≤ y ∧ y ≤ 9223372036854775807) (ht : 0 ≤ t ∧ t ≤ 255) (_ : -9223372036854775808 ≤ z ∧ z ≤ 9223372036854775807) (_ : -9223372036854775808 ≤ a ∧ a ≤ 9223372036854775807) (_ : -9223372036854775808 ≤ b ∧ b ≤ 9223372036854775807) (w : World) : Calls Try.prog 4 #[.agg #[.int .u8 k, .int .i64 x, .int .i64 y, .int .u8 t, .int .i64 z], .agg #[.int .i64 a, .int .i64 b]] w fun e w' => e = .returned (.bool true) ∧ Below w.heap.size w w' := by
  have hp := ringC k x y t z a b ht.1
  have hq := refRingC k x y t z a b ht.1
  cases h : riB k x y t z a b
  · rw [riV_no h, h] at hp hq
    exact ring_w0 k x y t z a b _ _ hp hq w
  · rw [riV_yes h, h] at hp hq
    exact ring_w1 k x y t z a b _ _ _ _ hp hq w
end Go.Proofs.Ytgiiaokkmnjckaa
