/- FoldGlued: what its walk asks for, of every glued grid; the walk whole. -/
import Derived.Test.YtgiiaokkmnjckaaF41
import Derived.Test.YtgiiaokkmnjckaaF44
import Derived.Test.YtgiiaokkmnjckaaF45
import Derived.Test.YtgiiaokkmnjckaaF47
import Derived.Test.YtgiiaokkmnjckaaF17
namespace Go.Proofs.Ytgiiaokkmnjckaa
open Go.RowKit
open Fl
set_option linter.unusedVariables false
set_option linter.unusedSimpArgs false
set_option maxRecDepth 100000

theorem gluedN (k x y t z a b : Int) (gd : ∀ w, Calls Try.prog 21 #[.agg #[.int .u8 k, .int .i64 x, .int .i64 y, .int .u8 t, .int .i64 z]] w fun e w' => e = .returned (.bool false) ∧ w.grownBy w' none) (w : World) : Calls Try.prog 7 #[.agg #[.int .u8 k, .int .i64 x, .int .i64 y, .int .u8 t, .int .i64 z], .agg #[.int .i64 a, .int .i64 b]] w fun e w' => e = .returned (.bool true) ∧ w.grownBy w' none := by
  obtain ⟨W1, hW1, sz1, g1, B1⟩ := boxn w #[.int .u8 k, .int .i64 x, .int .i64 y, .int .u8 t, .int .i64 z] 23
  obtain ⟨W2, hW2, sz2, g2, B2⟩ := boxn W1 #[.int .i64 a, .int .i64 b] 25
  have G2 := gb_trans g1 g2
  have B1x := B1.kept g2 (by simp)
  have b1_2_0 := B1x.cell 0 (v := .int .u8 k) rfl
  have b1_2_1 := B1x.cell 1 (v := .int .i64 x) rfl
  have b1_2_2 := B1x.cell 2 (v := .int .i64 y) rfl
  have b1_2_3 := B1x.cell 3 (v := .int .u8 t) rfl
  have b1_2_4 := B1x.cell 4 (v := .int .i64 z) rfl
  have b2_2_0 := B2.cell 0 (v := .int .i64 a) rfl
  have b2_2_1 := B2.cell 1 (v := .int .i64 b) rfl
  go_enter Try.func7, Try.ntmps7
  go_wp2_with (first | (go_at_call 9; (fail_if_success (guard_hyp g3)); refine (awakeC _).mono ?_; rintro e w3 ⟨rfl, g3⟩; have G3 := gb_trans G2 g3; have B1xx := B1x.kept g3 (by simp); have B2x := B2.kept g3 (by simp); clear b1_2_0 b1_2_1 b1_2_2 b1_2_3 b1_2_4 b2_2_0 b2_2_1; have b1_3_0 := B1xx.cell 0 (v := .int .u8 k) rfl; have b1_3_1 := B1xx.cell 1 (v := .int .i64 x) rfl; have b1_3_2 := B1xx.cell 2 (v := .int .i64 y) rfl; have b1_3_3 := B1xx.cell 3 (v := .int .u8 t) rfl; have b1_3_4 := B1xx.cell 4 (v := .int .i64 z) rfl; have b2_3_0 := B2x.cell 0 (v := .int .i64 a) rfl; have b2_3_1 := B2x.cell 1 (v := .int .i64 b) rfl) | (go_at_call 21; (fail_if_success (guard_hyp g4)); refine (gd _).mono ?_; rintro e w4 ⟨rfl, g4⟩; have G4 := gb_trans G3 g4; have B1xxx := B1xx.kept g4 (by simp); have B2xx := B2x.kept g4 (by simp); clear b1_3_0 b1_3_1 b1_3_2 b1_3_3 b1_3_4 b2_3_0 b2_3_1; have b1_4_0 := B1xxx.cell 0 (v := .int .u8 k) rfl; have b1_4_1 := B1xxx.cell 1 (v := .int .i64 x) rfl; have b1_4_2 := B1xxx.cell 2 (v := .int .i64 y) rfl; have b1_4_3 := B1xxx.cell 3 (v := .int .u8 t) rfl; have b1_4_4 := B1xxx.cell 4 (v := .int .i64 z) rfl; have b2_4_0 := B2xx.cell 0 (v := .int .i64 a) rfl; have b2_4_1 := B2xx.cell 1 (v := .int .i64 b) rfl))
  go_ret
  exact ⟨rfl, G4⟩

theorem gluedX (k x y t z a b : Int) (gd : ∀ w, Calls Try.prog 21 #[.agg #[.int .u8 k, .int .i64 x, .int .i64 y, .int .u8 t, .int .i64 z]] w fun e w' => e = .returned (.bool true) ∧ w.grownBy w' none) (hx : decide (64 < x) = true) (w : World) : Calls Try.prog 7 #[.agg #[.int .u8 k, .int .i64 x, .int .i64 y, .int .u8 t, .int .i64 z], .agg #[.int .i64 a, .int .i64 b]] w fun e w' => e = .returned (.bool true) ∧ w.grownBy w' none := by
  obtain ⟨W1, hW1, sz1, g1, B1⟩ := boxn w #[.int .u8 k, .int .i64 x, .int .i64 y, .int .u8 t, .int .i64 z] 23
  obtain ⟨W2, hW2, sz2, g2, B2⟩ := boxn W1 #[.int .i64 a, .int .i64 b] 25
  have G2 := gb_trans g1 g2
  have B1x := B1.kept g2 (by simp)
  have b1_2_0 := B1x.cell 0 (v := .int .u8 k) rfl
  have b1_2_1 := B1x.cell 1 (v := .int .i64 x) rfl
  have b1_2_2 := B1x.cell 2 (v := .int .i64 y) rfl
  have b1_2_3 := B1x.cell 3 (v := .int .u8 t) rfl
  have b1_2_4 := B1x.cell 4 (v := .int .i64 z) rfl
  have b2_2_0 := B2.cell 0 (v := .int .i64 a) rfl
  have b2_2_1 := B2.cell 1 (v := .int .i64 b) rfl
  go_enter Try.func7, Try.ntmps7
  go_wp2_with (first | (go_at_call 9; (fail_if_success (guard_hyp g3)); refine (awakeC _).mono ?_; rintro e w3 ⟨rfl, g3⟩; have G3 := gb_trans G2 g3; have B1xx := B1x.kept g3 (by simp); have B2x := B2.kept g3 (by simp); clear b1_2_0 b1_2_1 b1_2_2 b1_2_3 b1_2_4 b2_2_0 b2_2_1; have b1_3_0 := B1xx.cell 0 (v := .int .u8 k) rfl; have b1_3_1 := B1xx.cell 1 (v := .int .i64 x) rfl; have b1_3_2 := B1xx.cell 2 (v := .int .i64 y) rfl; have b1_3_3 := B1xx.cell 3 (v := .int .u8 t) rfl; have b1_3_4 := B1xx.cell 4 (v := .int .i64 z) rfl; have b2_3_0 := B2x.cell 0 (v := .int .i64 a) rfl; have b2_3_1 := B2x.cell 1 (v := .int .i64 b) rfl) | (go_at_call 21; (fail_if_success (guard_hyp g4)); refine (gd _).mono ?_; rintro e w4 ⟨rfl, g4⟩; have G4 := gb_trans G3 g4; have B1xxx := B1xx.kept g4 (by simp); have B2xx := B2x.kept g4 (by simp); clear b1_3_0 b1_3_1 b1_3_2 b1_3_3 b1_3_4 b2_3_0 b2_3_1; have b1_4_0 := B1xxx.cell 0 (v := .int .u8 k) rfl; have b1_4_1 := B1xxx.cell 1 (v := .int .i64 x) rfl; have b1_4_2 := B1xxx.cell 2 (v := .int .i64 y) rfl; have b1_4_3 := B1xxx.cell 3 (v := .int .u8 t) rfl; have b1_4_4 := B1xxx.cell 4 (v := .int .i64 z) rfl; have b2_4_0 := B2xx.cell 0 (v := .int .i64 a) rfl; have b2_4_1 := B2xx.cell 1 (v := .int .i64 b) rfl))
  go_ret
  exact ⟨rfl, G4⟩

theorem gluedY (k x y t z a b : Int) (gd : ∀ w, Calls Try.prog 21 #[.agg #[.int .u8 k, .int .i64 x, .int .i64 y, .int .u8 t, .int .i64 z]] w fun e w' => e = .returned (.bool true) ∧ w.grownBy w' none) (hx : decide (64 < x) = false) (hy : decide (64 < y) = true) (w : World) : Calls Try.prog 7 #[.agg #[.int .u8 k, .int .i64 x, .int .i64 y, .int .u8 t, .int .i64 z], .agg #[.int .i64 a, .int .i64 b]] w fun e w' => e = .returned (.bool true) ∧ w.grownBy w' none := by
  obtain ⟨W1, hW1, sz1, g1, B1⟩ := boxn w #[.int .u8 k, .int .i64 x, .int .i64 y, .int .u8 t, .int .i64 z] 23
  obtain ⟨W2, hW2, sz2, g2, B2⟩ := boxn W1 #[.int .i64 a, .int .i64 b] 25
  have G2 := gb_trans g1 g2
  have B1x := B1.kept g2 (by simp)
  have b1_2_0 := B1x.cell 0 (v := .int .u8 k) rfl
  have b1_2_1 := B1x.cell 1 (v := .int .i64 x) rfl
  have b1_2_2 := B1x.cell 2 (v := .int .i64 y) rfl
  have b1_2_3 := B1x.cell 3 (v := .int .u8 t) rfl
  have b1_2_4 := B1x.cell 4 (v := .int .i64 z) rfl
  have b2_2_0 := B2.cell 0 (v := .int .i64 a) rfl
  have b2_2_1 := B2.cell 1 (v := .int .i64 b) rfl
  go_enter Try.func7, Try.ntmps7
  go_wp2_with (first | (go_at_call 9; (fail_if_success (guard_hyp g3)); refine (awakeC _).mono ?_; rintro e w3 ⟨rfl, g3⟩; have G3 := gb_trans G2 g3; have B1xx := B1x.kept g3 (by simp); have B2x := B2.kept g3 (by simp); clear b1_2_0 b1_2_1 b1_2_2 b1_2_3 b1_2_4 b2_2_0 b2_2_1; have b1_3_0 := B1xx.cell 0 (v := .int .u8 k) rfl; have b1_3_1 := B1xx.cell 1 (v := .int .i64 x) rfl; have b1_3_2 := B1xx.cell 2 (v := .int .i64 y) rfl; have b1_3_3 := B1xx.cell 3 (v := .int .u8 t) rfl; have b1_3_4 := B1xx.cell 4 (v := .int .i64 z) rfl; have b2_3_0 := B2x.cell 0 (v := .int .i64 a) rfl; have b2_3_1 := B2x.cell 1 (v := .int .i64 b) rfl) | (go_at_call 21; (fail_if_success (guard_hyp g4)); refine (gd _).mono ?_; rintro e w4 ⟨rfl, g4⟩; have G4 := gb_trans G3 g4; have B1xxx := B1xx.kept g4 (by simp); have B2xx := B2x.kept g4 (by simp); clear b1_3_0 b1_3_1 b1_3_2 b1_3_3 b1_3_4 b2_3_0 b2_3_1; have b1_4_0 := B1xxx.cell 0 (v := .int .u8 k) rfl; have b1_4_1 := B1xxx.cell 1 (v := .int .i64 x) rfl; have b1_4_2 := B1xxx.cell 2 (v := .int .i64 y) rfl; have b1_4_3 := B1xxx.cell 3 (v := .int .u8 t) rfl; have b1_4_4 := B1xxx.cell 4 (v := .int .i64 z) rfl; have b2_4_0 := B2xx.cell 0 (v := .int .i64 a) rfl; have b2_4_1 := B2xx.cell 1 (v := .int .i64 b) rfl))
  go_ret
  exact ⟨rfl, G4⟩

def fXd (k x y t z : Int) (i : Nat) (A B : Int) : Int := (if 0 < x ∧ i = 0 then A + x else Fo.gv k x (3 - t) z (A - To.fi x) + To.fi x)
def fYd (k x y t z : Int) (i : Nat) (A B : Int) : Int := (if 0 < x ∧ i = 0 then Fo.gv k y t z (B - To.fi y) + To.fi y else B + y)
def gXd (k x y t z : Int) (i : Nat) (A B : Int) : Int := (if 0 < x ∧ i = 0 then A - x else Fo.gw k x (3 - t) z (A - To.fi x) + To.fi x)
def gYd (k x y t z : Int) (i : Nat) (A B : Int) : Int := (if 0 < x ∧ i = 0 then Fo.gw k y t z (B - To.fi y) + To.fi y else B - y)
theorem glu_at (k x y t z : Int) (hx : 0 ≤ x) (hy : 0 ≤ y) (i P : Nat) (X Y : Int) (h : (gluL k x y t z)[i]? = some (P, X, Y)) : (0 < x ∧ i = 0 ∧ gluA k x y t z = (P, X, Y)) ∨ (¬ (0 < x ∧ i = 0) ∧ 0 < y ∧ gluB k x y t z = (P, X, Y)) := by
  unfold gluL at h
  by_cases x0 : 0 < x
  · by_cases y0 : 0 < y
    · rw [if_pos x0, if_pos y0] at h
      match i, h with
      | 0, h => exact .inl ⟨x0, rfl, by simpa using h⟩
      | 1, h => exact .inr ⟨by simp, y0, by simpa using h⟩
      | n + 2, h => simp at h
    · rw [if_pos x0, if_neg y0] at h
      match i, h with
      | 0, h => exact .inl ⟨x0, rfl, by simpa using h⟩
      | n + 1, h => simp at h
  · by_cases y0 : 0 < y
    · rw [if_neg x0, if_pos y0] at h
      match i, h with
      | 0, h => exact .inr ⟨fun q => x0 q.1, y0, by simpa using h⟩
      | n + 1, h => simp at h
    · rw [if_neg x0, if_neg y0] at h
      simp at h
theorem glu_len (k x y t z : Int) : ((gluL k x y t z).length : Int) = (if 0 < x then 1 else 0) + (if 0 < y then 1 else 0) := by
  unfold gluL
  split <;> split <;> simp
theorem glu_act (k x y t z : Int) (hk : k = 2 ∨ k = 3 ∨ k = 4) (hx : 0 ≤ x) (hy : 0 ≤ y) (i P : Nat) (X Y : Int) (h : (gluL k x y t z)[i]? = some (P, X, Y)) (a b : Int) : lx P a b + X = fXd k x y t z i a b ∧ ly P a b + Y = fYd k x y t z i a b ∧ lx (back P) a b + -(lx (back P) X Y) = gXd k x y t z i a b ∧ ly (back P) a b + -(ly (back P) X Y) = gYd k x y t z i a b := by
  unfold fXd fYd gXd gYd
  rcases glu_at k x y t z hx hy i P X Y h with ⟨h1, h2, h3⟩ | ⟨h1, h2, h3⟩
  · have := actA k x y t z hk a b
    rw [h3] at this
    rw [if_pos ⟨h1, h2⟩, if_pos ⟨h1, h2⟩, if_pos ⟨h1, h2⟩, if_pos ⟨h1, h2⟩]
    exact this
  · have := actB k x y t z hk a b
    rw [h3] at this
    rw [if_neg h1, if_neg h1, if_neg h1, if_neg h1]
    exact this
theorem tm_bd (n m : Int) (h : 0 ≤ m) : -m ≤ n.tmod (m+1) ∧ n.tmod (m+1) ≤ m := by
  have h1 : (n.tmod (m+1)).natAbs < (m+1).natAbs := by rw [Int.natAbs_tmod]; exact Nat.mod_lt _ (by omega)
  omega
theorem fr_of {n : Int} (h : -1000000 ≤ n ∧ n ≤ 1000000) : To.frB n = false := by
  unfold To.frB
  simp
  omega
/-- The calls Same of two places of one cell. -/
theorem same_one (k x y t z a b a2 b2 : Int) (ht : 0 ≤ t) (h : Tp.chk k x y t z = 0) (hg : glB k = true) (f1 : -1000000 ≤ a ∧ a ≤ 1000000) (f2 : -1000000 ≤ b ∧ b ≤ 1000000) (f3 : -1000000 ≤ a2 ∧ a2 ≤ 1000000) (f4 : -1000000 ≤ b2 ∧ b2 ≤ 1000000)
    (e1 : Fo.cx k x y t z (a - To.fi x) (b - To.fi y) = Fo.cx k x y t z (a2 - To.fi x) (b2 - To.fi y)) (e2 : Fo.cy k x y t z (a - To.fi x) (b - To.fi y) = Fo.cy k x y t z (a2 - To.fi x) (b2 - To.fi y)) (w : World) :
    Calls Try.prog 19 #[.agg #[.int .u8 k, .int .i64 x, .int .i64 y, .int .u8 t, .int .i64 z], .agg #[.int .i64 a, .int .i64 b], .agg #[.int .i64 a2, .int .i64 b2]] w fun e w' => e = .returned (.tuple #[.bool true, .int .i64 0]) ∧ w.grownBy w' none := by
  have z1 : ceE k x y t z a b = 0 := by unfold ceE; rw [if_pos h, fr_of f1, fr_of f2, hg]; simp
  have z2 : ceE k x y t z a2 b2 = 0 := by unfold ceE; rw [if_pos h, fr_of f3, fr_of f4, hg]; simp
  have z3 : saE k x y t z a b a2 b2 = 0 := by unfold saE; rw [if_pos h, fr_of f1, fr_of f2, fr_of f3, fr_of f4, if_pos z1, z2]; simp
  have z4 : saB k x y t z a b a2 b2 = true := by
    unfold saB
    rw [z3, ceX_gl hg, ceX_gl hg, ceY_gl hg, ceY_gl hg, e1, e2]
    simp
  have := sameC k x y t z a b a2 b2 ht w
  rw [z3, z4] at this
  exact this
theorem cell_one (k x y t z a b : Int) (ht : 0 ≤ t) (h : Tp.chk k x y t z = 0) (hg : glB k = true) (f1 : -1000000 ≤ a ∧ a ≤ 1000000) (f2 : -1000000 ≤ b ∧ b ≤ 1000000) (CX CY : Int) (e1 : Fo.cx k x y t z (a - To.fi x) (b - To.fi y) = CX) (e2 : Fo.cy k x y t z (a - To.fi x) (b - To.fi y) = CY) (w : World) :
    Calls Try.prog 10 #[.agg #[.int .u8 k, .int .i64 x, .int .i64 y, .int .u8 t, .int .i64 z], .agg #[.int .i64 a, .int .i64 b]] w fun e w' => e = .returned (.tuple #[.agg #[.int .i64 (CX + To.fi x), .int .i64 (CY + To.fi y)], .int .i64 0]) ∧ w.grownBy w' none := by
  have z1 : ceE k x y t z a b = 0 := by unfold ceE; rw [if_pos h, fr_of f1, fr_of f2, hg]; simp
  have := cellC k x y t z a b ht w
  rw [ce_yes z1, z1, ceX_gl hg, ceY_gl hg, e1, e2] at this
  exact this
theorem cx_sm {k x y t z u v : Int} (G : Fo.Gl k x y t) (sx : x ≤ 64) (hu : -1032 ≤ u ∧ u ≤ 1032) : -1032 ≤ Fo.cx k x y t z u v ∧ Fo.cx k x y t z u v ≤ 1032 := by
  by_cases hx : 1 ≤ x
  · have := Fo.cx_bd k y t z u v hx
    omega
  · have a := G.ended; have b := G.torus; have c := G.kind; have d := G.wide
    have hk : k = 2 := by rcases c with q | q | q <;> first | exact q | (have := a (by omega); omega)
    have t1 : ¬ t = 1 := fun q => by have := b hk (.inl q); omega
    have x0 : x = 0 := by omega
    subst hk x0
    rw [Fo.cx_2 t1, Fo.wi_zero]
    exact hu
theorem nr' {A m : Int} (h : -200000 ≤ A - m ∧ A - m ≤ 200000) (hm : -32768 ≤ m ∧ m ≤ 0) : nearB A = true := decide_eq_true (by omega)
theorem co_is {x y : Int} {tn : Nat} {A B : Int} : coV x y tn A B = Fp.cou x y tn (A - To.fi x) (B - To.fi y) := rfl
theorem sd_is {x y : Int} {tn : Nat} : sdV x y tn = Fp.sdu x y tn := rfl
theorem homeC' (k x y t z : Int) (ht : 0 ≤ t) (h : Tp.chk k x y t z = 0) (w : World) : Calls Try.prog 23 #[.agg #[.int .u8 k, .int .i64 x, .int .i64 y, .int .u8 t, .int .i64 z]] w fun e w' => e = .returned (.tuple #[.agg #[.int .i64 (To.fi x), .int .i64 (To.fi y), .int .i64 x, .int .i64 y], .int .i64 0]) ∧ w.grownBy w' none := by
  have := To.homeC k x y t z ht w
  unfold To.homeV at this
  rw [if_pos h, h] at this
  exact this
set_option maxHeartbeats 1000000 in
theorem glued_all (k x y t z a b : Int) (ht : 0 ≤ t) (w : World) : Calls Try.prog 7 #[.agg #[.int .u8 k, .int .i64 x, .int .i64 y, .int .u8 t, .int .i64 z], .agg #[.int .i64 a, .int .i64 b]] w fun e w' => e = .returned (.bool true) ∧ w.grownBy w' none := by
  have gd := gluedLC k x y t z ht
  by_cases h : Tp.chk k x y t z = 0
  · rw [decide_eq_true h, Bool.true_and] at gd
    cases hg : glB k with
    | false => rw [hg] at gd; exact gluedN k x y t z a b gd w
    | true =>
      rw [hg] at gd
      by_cases sx : 64 < x
      · exact gluedX k x y t z a b gd (decide_eq_true sx) w
      · by_cases sy : 64 < y
        · exact gluedY k x y t z a b gd (decide_eq_false sx) (decide_eq_true sy) w
        · have ok := Tp.ok_of h
          have hk := gl_iff.1 hg
          have G := Fo.gl_of ht ok hk
          have hx := ok.wide
          have hy := ok.high
          have fx := fi_bd hx
          have fy := fi_bd hy
          have fx' : -32 ≤ To.fi x := by unfold To.fi; omega
          have fy' : -32 ≤ To.fi y := by unfold To.fi; omega
          have sx' : x ≤ 64 := by omega
          have sy' : y ≤ 64 := by omega
          have zA : k = 2 ∨ k = 3 → t = 2 → -y ≤ z ∧ z ≤ y := fun _ q => by
            have h1 := ok.near (by omega)
            unfold Tp.sd at h1
            rw [if_pos q] at h1
            omega
          have zB : k = 2 ∨ k = 3 → 3 - t = 2 → -x ≤ z ∧ z ≤ x := fun _ q => by
            have h1 := ok.near (by omega)
            unfold Tp.sd at h1
            rw [if_neg (by omega)] at h1
            omega
          have na := nearLC a 1000 (by decide) (by decide)
          have nb := nearLC b 1000 (by decide) (by decide)
          have ba : -1000 ≤ a.tmod 1001 ∧ a.tmod 1001 ≤ 1000 := tm_bd a 1000 (by decide)
          have bb : -1000 ≤ b.tmod 1001 ∧ b.tmod 1001 ≤ 1000 := tm_bd b 1000 (by decide)
          have na' : ∀ w, Calls Try.prog 22 #[.int .i64 a, .int .i64 1000] w fun e w' => e = .returned (.int .i64 (a.tmod 1001)) ∧ w' = w := na
          have nb' : ∀ w, Calls Try.prog 22 #[.int .i64 b, .int .i64 1000] w fun e w' => e = .returned (.int .i64 (b.tmod 1001)) ∧ w' = w := nb
          generalize a.tmod 1001 = a0 at ba na'
          generalize b.tmod 1001 = b0 at bb nb'
          clear na nb
          obtain ⟨CX, hCX⟩ : ∃ c, Fo.cx k x y t z (a0 - To.fi x) (b0 - To.fi y) = c := ⟨_, rfl⟩
          obtain ⟨CY, hCY⟩ : ∃ c, Fo.cy k x y t z (a0 - To.fi x) (b0 - To.fi y) = c := ⟨_, rfl⟩
          have cb : -1032 ≤ CX ∧ CX ≤ 1032 := by rw [← hCX]; exact cx_sm G sx' (by omega)
          have cb2 : -1032 ≤ CY ∧ CY ≤ 1032 := by rw [← hCY]; exact cx_sm G.swap sy' (by omega)
          have iX : x = 0 ∨ (0 ≤ CX ∧ CX < x) := by
            by_cases q : 1 ≤ x
            · right; rw [← hCX]; exact Fo.cx_bd k y t z _ _ q
            · left; omega
          have iY : y = 0 ∨ (0 ≤ CY ∧ CY < y) := by
            by_cases q : 1 ≤ y
            · right; rw [← hCY]; exact Fo.cy_bd k x t z _ _ q
            · left; omega
          have hh := homeC' k x y t z ht h
          have hn := glu_len k x y t z
          have S0 : Fp.STu k x y t z CX CY 0 (a0 - To.fi x) (b0 - To.fi y) := ⟨⟨hCX, hCY⟩, fun _ => by omega, fun q => absurd q (by decide), fun q => absurd q (by decide), fun q => absurd q (by decide), fun q => absurd q (by decide)⟩
          have eX : ∀ (i : Nat) (A B : Int), fXd k x y t z i A B - To.fi x = (if 0 < x ∧ i = 0 then (A - To.fi x) + x else Fo.gv k x (3 - t) z (A - To.fi x)) := fun i A B => by unfold fXd; split <;> omega
          have eY : ∀ (i : Nat) (A B : Int), fYd k x y t z i A B - To.fi y = (if 0 < x ∧ i = 0 then Fo.gv k y t z (B - To.fi y) else (B - To.fi y) + y) := fun i A B => by unfold fYd; split <;> omega
          have eX' : ∀ (i : Nat) (A B : Int), gXd k x y t z i A B - To.fi x = (if 0 < x ∧ i = 0 then (A - To.fi x) - x else Fo.gw k x (3 - t) z (A - To.fi x)) := fun i A B => by unfold gXd; split <;> omega
          have eY' : ∀ (i : Nat) (A B : Int), gYd k x y t z i A B - To.fi y = (if 0 < x ∧ i = 0 then Fo.gw k y t z (B - To.fi y) else (B - To.fi y) - y) := fun i A B => by unfold gYd; split <;> omega
          -- one step keeps the cell
          have cl : ∀ i : Nat, i < (gluL k x y t z).length → ∀ A B : Int, (Fo.cx k x y t z (fXd k x y t z i A B - To.fi x) (fYd k x y t z i A B - To.fi y) = Fo.cx k x y t z (A - To.fi x) (B - To.fi y) ∧ Fo.cy k x y t z (fXd k x y t z i A B - To.fi x) (fYd k x y t z i A B - To.fi y) = Fo.cy k x y t z (A - To.fi x) (B - To.fi y)) ∧ (Fo.cx k x y t z (gXd k x y t z i A B - To.fi x) (gYd k x y t z i A B - To.fi y) = Fo.cx k x y t z (A - To.fi x) (B - To.fi y) ∧ Fo.cy k x y t z (gXd k x y t z i A B - To.fi x) (gYd k x y t z i A B - To.fi y) = Fo.cy k x y t z (A - To.fi x) (B - To.fi y)) := fun i hi A B => by
            rw [eX, eY, eX', eY']
            by_cases q : 0 < x ∧ i = 0
            · rw [if_pos q, if_pos q, if_pos q, if_pos q]
              exact ⟨Fo.gl_a z _ _ G (by omega), Fo.gl_a' z _ _ G (by omega)⟩
            · have y0 : 0 < y := by
                obtain ⟨⟨P, X, Y⟩, hP⟩ : ∃ m, (gluL k x y t z)[i]? = some m := ⟨_, List.getElem?_eq_getElem hi⟩
                rcases glu_at k x y t z hx.1 hy.1 i P X Y hP with r | r
                · exact absurd ⟨r.1, r.2.1⟩ q
                · exact r.2.1
              rw [if_neg q, if_neg q, if_neg q, if_neg q]
              exact ⟨Fo.gl_b z _ _ G (by omega), Fo.gl_b' z _ _ G (by omega)⟩
          -- how far one step goes from the place asked for
          have fr : ∀ i : Nat, (-200000 ≤ fXd k x y t z i a0 b0 ∧ fXd k x y t z i a0 b0 ≤ 200000) ∧ (-200000 ≤ fYd k x y t z i a0 b0 ∧ fYd k x y t z i a0 b0 ≤ 200000) ∧ (-200000 ≤ gXd k x y t z i a0 b0 ∧ gXd k x y t z i a0 b0 ≤ 200000) ∧ (-200000 ≤ gYd k x y t z i a0 b0 ∧ gYd k x y t z i a0 b0 ≤ 200000) := fun i => by
            have bz : -65536 ≤ z ∧ z ≤ 65536 := by
              by_cases q : t = 0
              · have := ok.none q; omega
              · have h1 := ok.near q
                unfold Tp.sd at h1
                split at h1 <;> omega
            unfold fXd fYd gXd gYd Fo.gv Fo.gw
            refine ⟨?_, ?_, ?_, ?_⟩ <;> (repeat' split) <;> omega
          have nr : ∀ n : Int, -200000 ≤ n ∧ n ≤ 200000 → nearB n = true := fun n q => decide_eq_true (by omega)
          have gl := fun w => glueP k x y t z ht h hk w
          exact glued_core k x y t z a b a0 b0 (CX + To.fi x) (CY + To.fi y) awakeC gd (decide_eq_false sx) (decide_eq_false sy) na' nb'
            (cell_one k x y t z a0 b0 ht h hg (by omega) (by omega) CX CY hCX hCY)
            (cell_one k x y t z (CX + To.fi x) (CY + To.fi y) ht h hg (by omega) (by omega) CX CY (by rw [Int.add_sub_cancel, Int.add_sub_cancel]; exact Fo.cx_in k t z iX iY) (by rw [Int.add_sub_cancel, Int.add_sub_cancel]; exact Fo.cy_in k t z iX iY))
            hh (gluL k x y t z) (gluL k x y t z).length rfl (by split at hn <;> split at hn <;> omega) gl
            (fun tn A B => Fp.STu k x y t z CX CY tn (A - To.fi x) (B - To.fi y)) (fun tn m A B => Fp.JJu k x y t z CX CY tn m (A - To.fi x) (B - To.fi y))
            (fXd k x y t z) (fYd k x y t z) (gXd k x y t z) (gYd k x y t z) (glu_act k x y t z hk hx.1 hy.1)
            ⟨nr _ (by omega), nr _ (by omega)⟩ (fun i _ => ⟨nr _ (fr i).1, nr _ (fr i).2.1, nr _ (fr i).2.2.1, nr _ (fr i).2.2.2⟩)
            (fun i hi => same_one k x y t z a0 b0 _ _ ht h hg (by omega) (by omega) (by have := (fr i).1; omega) (by have := (fr i).2.1; omega) (cl i hi a0 b0).1.1.symm (cl i hi a0 b0).1.2.symm)
            (fun i hi => same_one k x y t z _ _ a0 b0 ht h hg (by have := (fr i).2.2.1; omega) (by have := (fr i).2.2.2; omega) (by omega) (by omega) (cl i hi a0 b0).2.1 (cl i hi a0 b0).2.2)
            S0 (fun tn A B hi q => Fp.l_sk G sx' sy' _ hn hi q) (fun tn A B hl hi q => Fp.l_in G sx' sy' _ hn hl hi q)
            (fun tn m A B q => by
              have := Fp.l_J G zA zB sx' sy' q
              exact ⟨nr' this.1 fx, nr' this.2.1 fy, this.2.2⟩)
            (fun tn m A B q r => by
              have := Fp.l_up G zA zB sx' sy' q (by rw [← co_is]; exact r)
              rw [eX, eY]; exact this)
            (fun tn m A B q r => by
              have := Fp.l_dn G zA zB sx' sy' q (by rw [← co_is, ← sd_is]; exact r)
              rw [eX', eY']; exact this)
            (fun tn m A B q r r' => Fp.l_ou G zA zB sx' sy' q (by rw [← co_is]; exact r) (by rw [← co_is, ← sd_is]; exact r'))
            (fun A B q => by have := Fp.l_fin q; omega) hx.1 (fun q => by split at hn <;> first | omega | (split at hn <;> omega)) fx fy w
  · rw [decide_eq_false h, Bool.false_and] at gd
    exact gluedN k x y t z a b gd w
theorem glued_top (k x y t z a b : Int) (_ : 0 ≤ k ∧ k ≤ 255) (_ : -9223372036854775808 ≤ x ∧ x ≤ 9223372036854775807) (_ : -9223372036854775808 ≤ y ∧ y ≤ 9223372036854775807) (ht : 0 ≤ t ∧ t ≤ 255) (_ : -9223372036854775808 ≤ z ∧ z ≤ 9223372036854775807) (_ : -9223372036854775808 ≤ a ∧ a ≤ 9223372036854775807) (_ : -9223372036854775808 ≤ b ∧ b ≤ 9223372036854775807) (w : World) : Calls Try.prog 7 #[.agg #[.int .u8 k, .int .i64 x, .int .i64 y, .int .u8 t, .int .i64 z], .agg #[.int .i64 a, .int .i64 b]] w fun e w' => e = .returned (.bool true) ∧ Below w.heap.size w w' := (glued_all k x y t z a b ht.1 w).mono fun e w' ⟨p, q⟩ => ⟨p, gb_below q⟩
end Go.Proofs.Ytgiiaokkmnjckaa
