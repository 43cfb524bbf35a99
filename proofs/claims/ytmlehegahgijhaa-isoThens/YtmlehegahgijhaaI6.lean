/- The way back of a map; how often a linear part must be done to come round. -/
import Derived.Test.YtmlehegahgijhaaI5
namespace Go.Proofs.Ytmlehegahgijhaa
open Go.RowKit
open Fl
set_option linter.unusedVariables false
set_option linter.unusedSimpArgs false
set_option maxRecDepth 100000

theorem Bo.same {w : World} {g : Nat} {t : TypeId} {cs : Array Value} (h : Bo w g t cs) (i : Nat) {v : Value} (hi : cs[i]? = some v) : w.setCell ⟨g, i, none⟩ v = w := by
  have hcs : cs.setIfInBounds i v = cs := by
    obtain ⟨h1, h2⟩ := Array.getElem?_eq_some_iff.1 hi
    subst h2
    apply Array.ext
    · simp
    · intro j h3 h4
      rw [Array.getElem_setIfInBounds]
      split
      · subst_vars; rfl
      · rfl
  have h2 := h.set i v
  rw [hcs] at h2
  have hh : (w.setCell ⟨g, i, none⟩ v).heap = w.heap := by
    apply Array.ext_getElem?
    intro j
    by_cases hj : j = g
    · subst hj; rw [show (w.setCell ⟨j, i, none⟩ v).heap[j]? = _ from h2, show w.heap[j]? = _ from h]
    · simp [World.setCell, Array.getElem?_modify, Ne.symm hj]
  show { w with heap := _ } = w
  exact congrArg (fun x => { w with heap := x }) hh
/-- Take, whatever stands there. -/
theorem same3 {w : World} {g : Nat} {t : TypeId} {x y z : Value} (h : Bo w g t #[x, y, z]) : ((w.setCell ⟨g, 0, none⟩ x).setCell ⟨g, 1, none⟩ y).setCell ⟨g, 2, none⟩ z = w := by
  rw [Bo.same h 0 (v := x) rfl, Bo.same h 1 (v := y) rfl, Bo.same h 2 (v := z) rfl]
theorem near_neg {n : Int} (h : nearB n = true) : nearB (-n) = true := by
  have := near_of h
  exact decide_eq_true (by omega)
theorem l_near (k : Nat) {x y : Int} (hx : nearB x = true) (hy : nearB y = true) : nearB (lx k x y) = true ∧ nearB (ly k x y) = true := by
  have h1 := near_of hx
  have h2 := near_of hy
  obtain ⟨u1, u2, u3⟩ := unit_t k
  have a1 := unit_mul (x := x) u1
  have a2 := unit_mul (x := cj (fl4 k) y) u2
  have a3 := unit_mul (x := cj (fl4 k) y) u1
  have a4 := unit_mul (x := x) u2
  have a5 := cj_abs (fl4 k) y
  refine ⟨decide_eq_true ?_, decide_eq_true ?_⟩
  · unfold lx
    rcases u3 with q | q
    · rw [q, Int.zero_mul] at *; omega
    · rw [q, Int.zero_mul] at *; omega
  · unfold ly
    rcases u3 with q | q
    · rw [q, Int.zero_mul] at *; omega
    · rw [q, Int.zero_mul] at *; omega

theorem backNo (a b : Nat) (f : Bool) (c d : Nat) (h : vB a b c d = false) (w : World) : Calls Try.prog 21 #[.agg (mv a b f c d)] w fun e w' => e = .returned (.tuple #[.agg (mv 0 0 false 0 0), .int .i64 50]) ∧ w.grownBy w' none := by
  obtain ⟨fs, hfs⟩ := underI
  obtain ⟨W1, hW1, sz1, g1, B1⟩ := boxn w (mv a b f c d) 25
  obtain ⟨W2, hW2, sz2, g2, B2⟩ := boxn W1 #[.complex .f64 0 0, .bool false, .complex .f64 0 0] 25
  have A2 := B1.kept g2 (by simp)
  have G2 := gb_trans g1 g2
  have le := g1.size
  have st := stC
  have k0 := A2.cell 0 (v := .complex .f64 a b) rfl; have k1 := A2.cell 1 (v := .bool f) rfl; have k2 := A2.cell 2 (v := .complex .f64 c d) rfl
  have hv := validC a b f c d
  rw [h] at hv
  go_enter Try.func21, Try.ntmps21
  go_wp2_with (first | (go_at_call 13; refine (hv _).mono ?_; rintro e w4 ⟨rfl, g4⟩; have A4 := A2.kept g4 (by simp); have B4 := B2.kept g4 (by simp); have G4 := gb_trans G2 g4; have l0 := A4.cell 0 (v := .complex .f64 a b) rfl; have l1 := A4.cell 1 (v := .bool f) rfl; have l2 := A4.cell 2 (v := .complex .f64 c d) rfl; have z0 := B4.cell 0 (v := .complex .f64 0 0) rfl; have z1 := B4.cell 1 (v := .bool false) rfl; have z2 := B4.cell 2 (v := .complex .f64 0 0) rfl; have y0 := B4.frozen 0; have y1 := B4.frozen 1; have y2 := B4.frozen 2))
  refine ret_c2 (g := W1.heap.size) (cs := mv 0 0 false 0 0) rfl hfs infoI rfl (bo3 B4) rfl ⟨rfl, gb3 G4 le⟩
theorem back_core (a b b' : Nat) (f : Bool) (c d : Nat) {k : Nat} {x y : Int} (h : May a b f c d k x y) (hb : b' = if f then b else Op.negFloat .f64 b) (w : World) :
    Calls Try.prog 21 #[.agg (mv a b f c d)] w fun e w' => ∃ p q r s, e = .returned (.tuple #[.agg (mv p q f r s), .int .i64 0]) ∧ May p q f r s (back k) (-(lx (back k) x y)) (-(ly (back k) x y)) ∧ Cl p q r s (back k) (-(lx (back k) x y)) (-(ly (back k) x y)) ∧ w.grownBy w' none := by
  obtain ⟨fs, hfs⟩ := underI
  obtain ⟨W1, hW1, sz1, g1, B1⟩ := boxn w (mv a b f c d) 25
  obtain ⟨W2, hW2, sz2, g2, B2⟩ := boxn W1 #[.complex .f64 0 0, .bool false, .complex .f64 0 0] 25
  have A2 := B1.kept g2 (by simp)
  have G2 := gb_trans g1 g2
  have le := g1.size
  have st := stC
  have k0 := A2.cell 0 (v := .complex .f64 a b) rfl; have k1 := A2.cell 1 (v := .bool f) rfl; have k2 := A2.cell 2 (v := .complex .f64 c d) rfl
  have hv := validC a b f c d
  rw [h.v] at hv
  have hU := unsignedC
  have hC := conjC
  have hn := negC
  obtain ⟨b1, b2, b3, b4⟩ := back_tx k h.lt
  have i1 : Is a (tx (back k)) := b1 ▸ h.t1
  have i2 : Is b' (ty (back k)) := by
    rw [b2, hb, h.fl]
    split
    · exact h.t2
    · exact is_neg h.t2
  have hu := unit_t (back k)
  have n1 := near_of h.n1
  have n2 := near_of h.n2
  have hT := turnedC (pl a) (pl b') f 0 0 c d (pl_is i1).1 (pl_is i2).1 h.m1 h.m2 hu.1 hu.2.1 (by omega) (by omega)
  have hfl : f = fl4 (back k) := h.fl.trans b3.symm
  have e1 : tx (back k) * x - ty (back k) * cj f y = lx (back k) x y := by rw [hfl]; rfl
  have e2 : tx (back k) * cj f y + ty (back k) * x = ly (back k) x y := by rw [hfl]; rfl
  rw [e1, e2] at hT
  have hl := l_near (back k) h.n1 h.n2
  have fin : ∀ r s, Is r (lx (back k) x y) → Is s (ly (back k) x y) → May (pl a) (pl b') f (pl (Op.negFloat .f64 r)) (pl (Op.negFloat .f64 s)) (back k) (-(lx (back k) x y)) (-(ly (back k) x y)) ∧ Cl (pl a) (pl b') (pl (Op.negFloat .f64 r)) (pl (Op.negFloat .f64 s)) (back k) (-(lx (back k) x y)) (-(ly (back k) x y)) := by
    intro r s j1 j2
    exact ⟨⟨⟨b4, (pl_is i1).1, (pl_is i2).1, hfl, (pl_is (is_neg j1)).1, (pl_is (is_neg j2)).1⟩, near_neg hl.1, near_neg hl.2⟩, ⟨(pl_is i1).2, (pl_is i2).2, (pl_is (is_neg j1)).2, (pl_is (is_neg j2)).2⟩⟩
  clear i1 i2 hu n1 n2 hfl e1 e2 hl b1 b2 b3 b4 h
  cases f
  · replace hb : b' = Op.negFloat .f64 b := hb
    subst hb
    go_enter Try.func21, Try.ntmps21
    go_wp2_with (first | (go_at_call 13; refine (hv _).mono ?_; rintro e w4 ⟨rfl, g4⟩; have A4 := A2.kept g4 (by simp); have B4 := B2.kept g4 (by simp); have G4 := gb_trans G2 g4; have l0 := A4.cell 0 (v := .complex .f64 a b) rfl; have l1 := A4.cell 1 (v := .bool false) rfl; have l2 := A4.cell 2 (v := .complex .f64 c d) rfl; have z0 := B4.cell 0 (v := .complex .f64 0 0) rfl; have z1 := B4.cell 1 (v := .bool false) rfl; have z2 := B4.cell 2 (v := .complex .f64 0 0) rfl; have y0 := B4.frozen 0; have y1 := B4.frozen 1; have y2 := B4.frozen 2) | (go_at_call 41; refine (hC _ _ _).mono ?_; rintro e w' ⟨rfl, hw'⟩; subst w'))
    have hn1 := World.new_ne w4 ⟨w.heap.size, 0, none⟩ l0
    have hn2 : ¬ w.heap.size = w4.heap.size := fun h => hn1 h.symm
    have hn3 := World.new_ne w4 ⟨W1.heap.size, 0, none⟩ z0
    have HN : Hid (w4.heap.size ≠ W1.heap.size) := hn3
    clear hn3
    go_region_held2 (fun w' => w'.cell? ⟨w.heap.size, 0, none⟩ = some (.complex .f64 a b) ∧ w'.cell? ⟨w.heap.size, 1, none⟩ = some (.bool false) ∧ w'.cell? ⟨w.heap.size, 2, none⟩ = some (.complex .f64 c d)) (go_keep) (first | (go_at_call 42; refine (hU _ _ _).mono ?_; rintro e w' ⟨rfl, hw'⟩; subst w'))
    all_goals obtain ⟨W5, hW5, sz5, g5, B5⟩ := boxn w4 #[.complex .f64 (pl a) (pl (Op.negFloat .f64 b)), .bool false, .complex .f64 (0) (0)] 25
    all_goals have A5 := (A4.kept g5 (by simp)).dr
    all_goals have R5 := (B4.kept g5 (by simp)).dr
    all_goals have D5 := B5.dr
    all_goals have G5 := gb_drew (gb_trans G4 g5)
    all_goals have m0 := A5.cell 0 (v := .complex .f64 a b) rfl; have m1 := A5.cell 1 (v := .bool false) rfl; have m2 := A5.cell 2 (v := .complex .f64 c d) rfl; have n0 := D5.cell 0 (v := .complex .f64 (pl a) (pl (Op.negFloat .f64 b))) rfl; have n1 := D5.cell 1 (v := .bool false) rfl; have n2 := D5.cell 2 (v := .complex .f64 (0) (0)) rfl
    all_goals clear hn1 hn2
    all_goals go_wp2_with (first | (go_at_call 43; refine (hT _).mono ?_; rintro e w6 ⟨r, s, rfl, j1, j2, g6⟩; have B6 := D5.kept g6 (by simp); have R6 := R5.kept g6 (by simp); have G6 := gb_trans G5 g6; have p0 := B6.cell 0 (v := .complex .f64 (pl a) (pl (Op.negFloat .f64 b))) rfl; have p1 := B6.cell 1 (v := .bool false) rfl; have p2 := B6.cell 2 (v := .complex .f64 (0) (0)) rfl; have q0 := B6.frozen 0; have q1 := B6.frozen 1; have q2 := B6.frozen 2; obtain ⟨W7, hW7⟩ : ∃ W7, w6.setCell ⟨w4.heap.size, 2, none⟩ (.complex .f64 (pl (Op.negFloat .f64 r)) (pl (Op.negFloat .f64 s))) = W7 := ⟨_, rfl⟩; have B7 : Bo W7 w4.heap.size 25 #[.complex .f64 (pl a) (pl (Op.negFloat .f64 b)), .bool false, .complex .f64 (pl (Op.negFloat .f64 r)) (pl (Op.negFloat .f64 s))] := hW7 ▸ B6.set 2 _; have R7 : Bo W7 W1.heap.size 25 #[.complex .f64 0 0, .bool false, .complex .f64 0 0] := hW7 ▸ R6.set2 HN.out; have G7 : w.grownBy W7 none := hW7 ▸ gb_new G6 G4.size _; have t0 := B7.cell 0 (v := .complex .f64 (pl a) (pl (Op.negFloat .f64 b))) rfl; have t1 := B7.cell 1 (v := .bool false) rfl; have t2 := B7.cell 2 (v := .complex .f64 (pl (Op.negFloat .f64 r)) (pl (Op.negFloat .f64 s))) rfl; have i0 := R7.cell 0 (v := .complex .f64 0 0) rfl; have i1 := R7.cell 1 (v := .bool false) rfl; have i2 := R7.cell 2 (v := .complex .f64 0 0) rfl; have fz0 := R7.frozen 0; have fz1 := R7.frozen 1; have fz2 := R7.frozen 2) | (go_at_call 42; refine (hU _ _ _).mono ?_; rintro e w' ⟨rfl, hw'⟩; subst w'))
    all_goals refine ret_c2 (g := W1.heap.size) (cs := #[.complex .f64 (pl a) (pl (Op.negFloat .f64 b)), .bool false, .complex .f64 (pl (Op.negFloat .f64 r)) (pl (Op.negFloat .f64 s))]) rfl hfs infoI rfl (bo3 R7) rfl ⟨_, _, _, _, rfl, (fin r s j1 j2).1, (fin r s j1 j2).2, gb3 G7 le⟩
  · replace hb : b' = b := hb
    subst b'
    go_enter Try.func21, Try.ntmps21
    go_wp2_with (first | (go_at_call 13; refine (hv _).mono ?_; rintro e w4 ⟨rfl, g4⟩; have A4 := A2.kept g4 (by simp); have B4 := B2.kept g4 (by simp); have G4 := gb_trans G2 g4; have l0 := A4.cell 0 (v := .complex .f64 a b) rfl; have l1 := A4.cell 1 (v := .bool true) rfl; have l2 := A4.cell 2 (v := .complex .f64 c d) rfl; have z0 := B4.cell 0 (v := .complex .f64 0 0) rfl; have z1 := B4.cell 1 (v := .bool false) rfl; have z2 := B4.cell 2 (v := .complex .f64 0 0) rfl; have y0 := B4.frozen 0; have y1 := B4.frozen 1; have y2 := B4.frozen 2) | (go_at_call 41; refine (hC _ _ _).mono ?_; rintro e w' ⟨rfl, hw'⟩; subst w'))
    have hn1 := World.new_ne w4 ⟨w.heap.size, 0, none⟩ l0
    have hn2 : ¬ w.heap.size = w4.heap.size := fun h => hn1 h.symm
    have hn3 := World.new_ne w4 ⟨W1.heap.size, 0, none⟩ z0
    have HN : Hid (w4.heap.size ≠ W1.heap.size) := hn3
    clear hn3
    go_region_held2 (fun w' => w'.cell? ⟨w.heap.size, 0, none⟩ = some (.complex .f64 a b) ∧ w'.cell? ⟨w.heap.size, 1, none⟩ = some (.bool true) ∧ w'.cell? ⟨w.heap.size, 2, none⟩ = some (.complex .f64 c d)) (go_keep) (first | (go_at_call 42; refine (hU _ _ _).mono ?_; rintro e w' ⟨rfl, hw'⟩; subst w'))
    all_goals obtain ⟨W5, hW5, sz5, g5, B5⟩ := boxn w4 #[.complex .f64 (pl a) (pl (b)), .bool true, .complex .f64 (0) (0)] 25
    all_goals have A5 := (A4.kept g5 (by simp)).dr
    all_goals have R5 := (B4.kept g5 (by simp)).dr
    all_goals have D5 := B5.dr
    all_goals have G5 := gb_drew (gb_trans G4 g5)
    all_goals have m0 := A5.cell 0 (v := .complex .f64 a b) rfl; have m1 := A5.cell 1 (v := .bool true) rfl; have m2 := A5.cell 2 (v := .complex .f64 c d) rfl; have n0 := D5.cell 0 (v := .complex .f64 (pl a) (pl (b))) rfl; have n1 := D5.cell 1 (v := .bool true) rfl; have n2 := D5.cell 2 (v := .complex .f64 (0) (0)) rfl
    all_goals clear hn1 hn2
    all_goals go_wp2_with (first | (go_at_call 43; refine (hT _).mono ?_; rintro e w6 ⟨r, s, rfl, j1, j2, g6⟩; have B6 := D5.kept g6 (by simp); have R6 := R5.kept g6 (by simp); have G6 := gb_trans G5 g6; have p0 := B6.cell 0 (v := .complex .f64 (pl a) (pl (b))) rfl; have p1 := B6.cell 1 (v := .bool true) rfl; have p2 := B6.cell 2 (v := .complex .f64 (0) (0)) rfl; have q0 := B6.frozen 0; have q1 := B6.frozen 1; have q2 := B6.frozen 2; obtain ⟨W7, hW7⟩ : ∃ W7, w6.setCell ⟨w4.heap.size, 2, none⟩ (.complex .f64 (pl (Op.negFloat .f64 r)) (pl (Op.negFloat .f64 s))) = W7 := ⟨_, rfl⟩; have B7 : Bo W7 w4.heap.size 25 #[.complex .f64 (pl a) (pl (b)), .bool true, .complex .f64 (pl (Op.negFloat .f64 r)) (pl (Op.negFloat .f64 s))] := hW7 ▸ B6.set 2 _; have R7 : Bo W7 W1.heap.size 25 #[.complex .f64 0 0, .bool false, .complex .f64 0 0] := hW7 ▸ R6.set2 HN.out; have G7 : w.grownBy W7 none := hW7 ▸ gb_new G6 G4.size _; have t0 := B7.cell 0 (v := .complex .f64 (pl a) (pl (b))) rfl; have t1 := B7.cell 1 (v := .bool true) rfl; have t2 := B7.cell 2 (v := .complex .f64 (pl (Op.negFloat .f64 r)) (pl (Op.negFloat .f64 s))) rfl; have i0 := R7.cell 0 (v := .complex .f64 0 0) rfl; have i1 := R7.cell 1 (v := .bool false) rfl; have i2 := R7.cell 2 (v := .complex .f64 0 0) rfl; have fz0 := R7.frozen 0; have fz1 := R7.frozen 1; have fz2 := R7.frozen 2) | (go_at_call 42; refine (hU _ _ _).mono ?_; rintro e w' ⟨rfl, hw'⟩; subst w'))
    all_goals refine ret_c2 (g := W1.heap.size) (cs := #[.complex .f64 (pl a) (pl (b)), .bool true, .complex .f64 (pl (Op.negFloat .f64 r)) (pl (Op.negFloat .f64 s))]) rfl hfs infoI rfl (bo3 R7) rfl ⟨_, _, _, _, rfl, (fin r s j1 j2).1, (fin r s j1 j2).2, gb3 G7 le⟩

theorem backYes (a b : Nat) (f : Bool) (c d : Nat) {k : Nat} {x y : Int} (h : May a b f c d k x y) (w : World) :
    Calls Try.prog 21 #[.agg (mv a b f c d)] w fun e w' => ∃ p q r s, e = .returned (.tuple #[.agg (mv p q f r s), .int .i64 0]) ∧ May p q f r s (back k) (-(lx (back k) x y)) (-(ly (back k) x y)) ∧ Cl p q r s (back k) (-(lx (back k) x y)) (-(ly (back k) x y)) ∧ w.grownBy w' none :=
  back_core a b _ f c d h rfl w

theorem timesNo (n : Int) (h : n < 0 ∨ 7 < n) (w : World) : Calls Try.prog 16 #[.int .i64 n] w fun e w' => e = .returned (.tuple #[.int .i64 0, .int .i64 2]) ∧ w.grownBy w' none := by
  have hp := partNo n h
  have st := stC
  clear h
  go_enter Try.func16, Try.ntmps16
  go_wp2_with (first | (go_at_call 14; refine (hp _).mono ?_; rintro e w1 ⟨rfl, g1⟩; obtain ⟨WA, hWA, szA, gA, OA⟩ := boxn w1 #[.complex .f64 0 0, .bool false, .complex .f64 0 0] 25; have oa0 := OA.cell 0 (v := .complex .f64 0 0) rfl; have oa1 := OA.cell 1 (v := .bool false) rfl; have oa2 := OA.cell 2 (v := .complex .f64 0 0) rfl; have ob0 := OA.frozen 0; have ob1 := OA.frozen 1; have ob2 := OA.frozen 2; have sm : ((WA.setCell ⟨w1.heap.size, 0, none⟩ (.complex .f64 0 0)).setCell ⟨w1.heap.size, 1, none⟩ (.bool false)).setCell ⟨w1.heap.size, 2, none⟩ (.complex .f64 0 0) = WA := same3 OA))
  go_ret2
  exact ⟨rfl, gb_trans g1 gA⟩
theorem joinF (a b : Nat) (f : Bool) (c d a2 b2 : Nat) (f2 : Bool) (c2 d2 : Nat) (f3 : Bool) (hf : (f != f2) = f3) {k l : Nat} (m : Nat) (hm : both k l = m) (h1 : May a b f c d k 0 0) (h2 : May a2 b2 f2 c2 d2 l 0 0) (w : World) :
    Calls Try.prog 37 #[.agg (mv a b f c d), .agg (mv a2 b2 f2 c2 d2)] w fun e w' => ∃ p q r s, e = .returned (.agg (mv p q f3 r s)) ∧ May p q f3 r s m 0 0 ∧ w.grownBy w' none := by
  refine (joinC a b f c d a2 b2 f2 c2 d2 h1 h2 w).mono ?_
  rintro e w' ⟨p, q, r, s, rfl, mp, cl, g⟩
  have e1 : lx l 0 0 + 0 = 0 := by unfold lx cj; split <;> simp
  have e2 : ly l 0 0 + 0 = 0 := by unfold ly cj; split <;> simp
  rw [hf, hm, e1, e2] at mp
  rw [hf]
  exact ⟨p, q, r, s, rfl, ⟨mp, rfl, rfl⟩, g⟩

set_option maxHeartbeats 1000000 in
theorem times0 (w : World) : Calls Try.prog 16 #[.int .i64 0] w fun e w' => e = .returned (.tuple #[.int .i64 1, .int .i64 0]) ∧ w.grownBy w' none := by
  have hp := part0
  have my0 : May 4607182418800017408 0 false 0 0 0 0 0 := (part_may 0 (by decide)).1
  have eC := eqC
  have st := stC
  have ea0 : Op.floatEq .f64 4607182418800017408 4607182418800017408 = true := feq my0.t1 is1; have eb0 : Op.floatEq .f64 0 0 = true := feq my0.t2 is0; have ec0 : Op.floatEq .f64 0 0 = true := feq my0.m1 is0; have ed0 : Op.floatEq .f64 0 0 = true := feq my0.m2 is0
  go_enter Try.func16, Try.ntmps16
  go_wp2_with (first | (go_at_call 14; refine (hp _).mono ?_; rintro e w1 ⟨rfl, g1⟩; obtain ⟨WA, hWA, szA, gA, OA⟩ := boxn w1 #[.complex .f64 4607182418800017408 0, .bool false, .complex .f64 0 0] 25; obtain ⟨V0, hV0, szV0, gV0, L0⟩ := boxn WA #[.complex .f64 4607182418800017408 0, .bool false, .complex .f64 0 0] 25; have O0 := OA.kept gV0 (by simp); have G0 := gb_trans (gb_trans g1 gA) gV0; have oa0 := OA.cell 0 (v := .complex .f64 4607182418800017408 0) rfl; have oa1 := OA.cell 1 (v := .bool false) rfl; have oa2 := OA.cell 2 (v := .complex .f64 0 0) rfl; have la0 := L0.cell 0 (v := .complex .f64 4607182418800017408 0) rfl; have la1 := L0.cell 1 (v := .bool false) rfl; have la2 := L0.cell 2 (v := .complex .f64 0 0) rfl; have ob0 := O0.cell 0 (v := .complex .f64 4607182418800017408 0) rfl; have ob1 := O0.cell 1 (v := .bool false) rfl; have ob2 := O0.cell 2 (v := .complex .f64 0 0) rfl; have sa0 := Bo.same OA 0 (v := .complex .f64 4607182418800017408 0) rfl; have sa1 := Bo.same OA 1 (v := .bool false) rfl; have sa2 := Bo.same OA 2 (v := .complex .f64 0 0) rfl; have sb0 := Bo.same L0 0 (v := .complex .f64 4607182418800017408 0) rfl; have sb1 := Bo.same L0 1 (v := .bool false) rfl; have sb2 := Bo.same L0 2 (v := .complex .f64 0 0) rfl; have fa0 := OA.frozen 0; have fa1 := OA.frozen 1; have fa2 := OA.frozen 2; have fb0 := L0.frozen 0; have fb1 := L0.frozen 1; have fb2 := L0.frozen 2))
  refine wp_loop_rounds 5 ?_
  rw [rounds_succ]
  go_wp2
  go_ret2
  exact ⟨rfl, G0⟩

set_option maxHeartbeats 1000000 in
theorem times1 (w : World) : Calls Try.prog 16 #[.int .i64 1] w fun e w' => e = .returned (.tuple #[.int .i64 4, .int .i64 0]) ∧ w.grownBy w' none := by
  have hp := part1
  have my0 : May 0 4607182418800017408 false 0 0 1 0 0 := (part_may 1 (by decide)).1
  have eC := eqC
  have st := stC
  have ea0 : Op.floatEq .f64 0 4607182418800017408 = false := feq my0.t1 is1; have eb0 : Op.floatEq .f64 4607182418800017408 0 = false := feq my0.t2 is0; have ec0 : Op.floatEq .f64 0 0 = true := feq my0.m1 is0; have ed0 : Op.floatEq .f64 0 0 = true := feq my0.m2 is0
  go_enter Try.func16, Try.ntmps16
  go_wp2_with (first | (go_at_call 14; refine (hp _).mono ?_; rintro e w1 ⟨rfl, g1⟩; obtain ⟨WA, hWA, szA, gA, OA⟩ := boxn w1 #[.complex .f64 0 4607182418800017408, .bool false, .complex .f64 0 0] 25; obtain ⟨V0, hV0, szV0, gV0, L0⟩ := boxn WA #[.complex .f64 0 4607182418800017408, .bool false, .complex .f64 0 0] 25; have O0 := OA.kept gV0 (by simp); have G0 := gb_trans (gb_trans g1 gA) gV0; have oa0 := OA.cell 0 (v := .complex .f64 0 4607182418800017408) rfl; have oa1 := OA.cell 1 (v := .bool false) rfl; have oa2 := OA.cell 2 (v := .complex .f64 0 0) rfl; have la0 := L0.cell 0 (v := .complex .f64 0 4607182418800017408) rfl; have la1 := L0.cell 1 (v := .bool false) rfl; have la2 := L0.cell 2 (v := .complex .f64 0 0) rfl; have ob0 := O0.cell 0 (v := .complex .f64 0 4607182418800017408) rfl; have ob1 := O0.cell 1 (v := .bool false) rfl; have ob2 := O0.cell 2 (v := .complex .f64 0 0) rfl; have sa0 := Bo.same OA 0 (v := .complex .f64 0 4607182418800017408) rfl; have sa1 := Bo.same OA 1 (v := .bool false) rfl; have sa2 := Bo.same OA 2 (v := .complex .f64 0 0) rfl; have sb0 := Bo.same L0 0 (v := .complex .f64 0 4607182418800017408) rfl; have sb1 := Bo.same L0 1 (v := .bool false) rfl; have sb2 := Bo.same L0 2 (v := .complex .f64 0 0) rfl; have fa0 := OA.frozen 0; have fa1 := OA.frozen 1; have fa2 := OA.frozen 2; have fb0 := L0.frozen 0; have fb1 := L0.frozen 1; have fb2 := L0.frozen 2))
  refine wp_loop_rounds 5 ?_
  obtain ⟨C0, hC0, szC0, gC0, N0⟩ := boxn V0 #[.complex .f64 0 4607182418800017408, .bool false, .complex .f64 0 0] 25
  have OC0 := O0.kept gC0 (by simp)
  have hne0 : Hid (V0.heap.size ≠ w1.heap.size) := Ne.symm (Nat.ne_of_lt O0.lt)
  have na00 := N0.cell 0 (v := .complex .f64 0 4607182418800017408) rfl; have na01 := N0.cell 1 (v := .bool false) rfl; have na02 := N0.cell 2 (v := .complex .f64 0 0) rfl
  have oc00 := OC0.cell 0 (v := .complex .f64 0 4607182418800017408) rfl; have oc01 := OC0.cell 1 (v := .bool false) rfl; have oc02 := OC0.cell 2 (v := .complex .f64 0 0) rfl
  have sn00 := Bo.same N0 0 (v := .complex .f64 0 4607182418800017408) rfl; have sn01 := Bo.same N0 1 (v := .bool false) rfl; have sn02 := Bo.same N0 2 (v := .complex .f64 0 0) rfl
  have fn00 := N0.frozen 0; have fn01 := N0.frozen 1; have fn02 := N0.frozen 2
  rw [rounds_succ]
  go_wp2_with (first | (go_at_call 37; refine (joinF _ _ _ _ _ _ _ _ _ _ false rfl 2 (by decide) my0 my0 _).mono ?_; rintro e u0 ⟨p0, q0, r0, s0, rfl, my1, gu0⟩; have NN0 := N0.kept gu0 (by simp); have OO0 := OC0.kept gu0 (by simp); have nb00 := NN0.cell 0 (v := .complex .f64 0 4607182418800017408) rfl; have nb01 := NN0.cell 1 (v := .bool false) rfl; have nb02 := NN0.cell 2 (v := .complex .f64 0 0) rfl; have nf00 := NN0.frozen 0; have nf01 := NN0.frozen 1; have nf02 := NN0.frozen 2; obtain ⟨V1, hV1⟩ : ∃ V, ((u0.setCell ⟨V0.heap.size, 0, none⟩ (.complex .f64 p0 q0)).setCell ⟨V0.heap.size, 1, none⟩ (.bool false)).setCell ⟨V0.heap.size, 2, none⟩ (.complex .f64 r0 s0) = V := ⟨_, rfl⟩; have L1 : Bo V1 V0.heap.size 25 #[.complex .f64 p0 q0, .bool false, .complex .f64 r0 s0] := hV1 ▸ bo3 NN0; have O1 : Bo V1 w1.heap.size 25 #[.complex .f64 0 4607182418800017408, .bool false, .complex .f64 0 0] := hV1 ▸ ((OO0.set2 hne0.out).set2 hne0.out).set2 hne0.out; have G1 : w.grownBy V1 none := hV1 ▸ gb3 (gb_trans (gb_trans G0 gC0) gu0) G0.size; have lb00 := L1.cell 0 (v := .complex .f64 p0 q0) rfl; have lb01 := L1.cell 1 (v := .bool false) rfl; have lb02 := L1.cell 2 (v := .complex .f64 r0 s0) rfl; have od00 := O1.cell 0 (v := .complex .f64 0 4607182418800017408) rfl; have od01 := O1.cell 1 (v := .bool false) rfl; have od02 := O1.cell 2 (v := .complex .f64 0 0) rfl; have ea1 : Op.floatEq .f64 p0 4607182418800017408 = false := feq my1.t1 is1; have eb1 : Op.floatEq .f64 q0 0 = true := feq my1.t2 is0; have ec1 : Op.floatEq .f64 r0 0 = true := feq my1.m1 is0; have ed1 : Op.floatEq .f64 s0 0 = true := feq my1.m2 is0))
  obtain ⟨C1, hC1, szC1, gC1, N1⟩ := boxn V1 #[.complex .f64 p0 q0, .bool false, .complex .f64 r0 s0] 25
  have OC1 := O1.kept gC1 (by simp)
  have hne1 : Hid (V1.heap.size ≠ w1.heap.size) := Ne.symm (Nat.ne_of_lt O1.lt)
  have na10 := N1.cell 0 (v := .complex .f64 p0 q0) rfl; have na11 := N1.cell 1 (v := .bool false) rfl; have na12 := N1.cell 2 (v := .complex .f64 r0 s0) rfl
  have oc10 := OC1.cell 0 (v := .complex .f64 0 4607182418800017408) rfl; have oc11 := OC1.cell 1 (v := .bool false) rfl; have oc12 := OC1.cell 2 (v := .complex .f64 0 0) rfl
  have sn10 := Bo.same N1 0 (v := .complex .f64 p0 q0) rfl; have sn11 := Bo.same N1 1 (v := .bool false) rfl; have sn12 := Bo.same N1 2 (v := .complex .f64 r0 s0) rfl
  have fn10 := N1.frozen 0; have fn11 := N1.frozen 1; have fn12 := N1.frozen 2
  rw [rounds_succ]
  go_wp2_with (first | (go_at_call 37; refine (joinF _ _ _ _ _ _ _ _ _ _ false rfl 3 (by decide) my1 my0 _).mono ?_; rintro e u1 ⟨p1, q1, r1, s1, rfl, my2, gu1⟩; have NN1 := N1.kept gu1 (by simp); have OO1 := OC1.kept gu1 (by simp); have nb10 := NN1.cell 0 (v := .complex .f64 p0 q0) rfl; have nb11 := NN1.cell 1 (v := .bool false) rfl; have nb12 := NN1.cell 2 (v := .complex .f64 r0 s0) rfl; have nf10 := NN1.frozen 0; have nf11 := NN1.frozen 1; have nf12 := NN1.frozen 2; obtain ⟨V2, hV2⟩ : ∃ V, ((u1.setCell ⟨V1.heap.size, 0, none⟩ (.complex .f64 p1 q1)).setCell ⟨V1.heap.size, 1, none⟩ (.bool false)).setCell ⟨V1.heap.size, 2, none⟩ (.complex .f64 r1 s1) = V := ⟨_, rfl⟩; have L2 : Bo V2 V1.heap.size 25 #[.complex .f64 p1 q1, .bool false, .complex .f64 r1 s1] := hV2 ▸ bo3 NN1; have O2 : Bo V2 w1.heap.size 25 #[.complex .f64 0 4607182418800017408, .bool false, .complex .f64 0 0] := hV2 ▸ ((OO1.set2 hne1.out).set2 hne1.out).set2 hne1.out; have G2 : w.grownBy V2 none := hV2 ▸ gb3 (gb_trans (gb_trans G1 gC1) gu1) G1.size; have lb10 := L2.cell 0 (v := .complex .f64 p1 q1) rfl; have lb11 := L2.cell 1 (v := .bool false) rfl; have lb12 := L2.cell 2 (v := .complex .f64 r1 s1) rfl; have od10 := O2.cell 0 (v := .complex .f64 0 4607182418800017408) rfl; have od11 := O2.cell 1 (v := .bool false) rfl; have od12 := O2.cell 2 (v := .complex .f64 0 0) rfl; have ea2 : Op.floatEq .f64 p1 4607182418800017408 = false := feq my2.t1 is1; have eb2 : Op.floatEq .f64 q1 0 = false := feq my2.t2 is0; have ec2 : Op.floatEq .f64 r1 0 = true := feq my2.m1 is0; have ed2 : Op.floatEq .f64 s1 0 = true := feq my2.m2 is0))
  obtain ⟨C2, hC2, szC2, gC2, N2⟩ := boxn V2 #[.complex .f64 p1 q1, .bool false, .complex .f64 r1 s1] 25
  have OC2 := O2.kept gC2 (by simp)
  have hne2 : Hid (V2.heap.size ≠ w1.heap.size) := Ne.symm (Nat.ne_of_lt O2.lt)
  have na20 := N2.cell 0 (v := .complex .f64 p1 q1) rfl; have na21 := N2.cell 1 (v := .bool false) rfl; have na22 := N2.cell 2 (v := .complex .f64 r1 s1) rfl
  have oc20 := OC2.cell 0 (v := .complex .f64 0 4607182418800017408) rfl; have oc21 := OC2.cell 1 (v := .bool false) rfl; have oc22 := OC2.cell 2 (v := .complex .f64 0 0) rfl
  have sn20 := Bo.same N2 0 (v := .complex .f64 p1 q1) rfl; have sn21 := Bo.same N2 1 (v := .bool false) rfl; have sn22 := Bo.same N2 2 (v := .complex .f64 r1 s1) rfl
  have fn20 := N2.frozen 0; have fn21 := N2.frozen 1; have fn22 := N2.frozen 2
  rw [rounds_succ]
  go_wp2_with (first | (go_at_call 37; refine (joinF _ _ _ _ _ _ _ _ _ _ false rfl 0 (by decide) my2 my0 _).mono ?_; rintro e u2 ⟨p2, q2, r2, s2, rfl, my3, gu2⟩; have NN2 := N2.kept gu2 (by simp); have OO2 := OC2.kept gu2 (by simp); have nb20 := NN2.cell 0 (v := .complex .f64 p1 q1) rfl; have nb21 := NN2.cell 1 (v := .bool false) rfl; have nb22 := NN2.cell 2 (v := .complex .f64 r1 s1) rfl; have nf20 := NN2.frozen 0; have nf21 := NN2.frozen 1; have nf22 := NN2.frozen 2; obtain ⟨V3, hV3⟩ : ∃ V, ((u2.setCell ⟨V2.heap.size, 0, none⟩ (.complex .f64 p2 q2)).setCell ⟨V2.heap.size, 1, none⟩ (.bool false)).setCell ⟨V2.heap.size, 2, none⟩ (.complex .f64 r2 s2) = V := ⟨_, rfl⟩; have L3 : Bo V3 V2.heap.size 25 #[.complex .f64 p2 q2, .bool false, .complex .f64 r2 s2] := hV3 ▸ bo3 NN2; have O3 : Bo V3 w1.heap.size 25 #[.complex .f64 0 4607182418800017408, .bool false, .complex .f64 0 0] := hV3 ▸ ((OO2.set2 hne2.out).set2 hne2.out).set2 hne2.out; have G3 : w.grownBy V3 none := hV3 ▸ gb3 (gb_trans (gb_trans G2 gC2) gu2) G2.size; have lb20 := L3.cell 0 (v := .complex .f64 p2 q2) rfl; have lb21 := L3.cell 1 (v := .bool false) rfl; have lb22 := L3.cell 2 (v := .complex .f64 r2 s2) rfl; have od20 := O3.cell 0 (v := .complex .f64 0 4607182418800017408) rfl; have od21 := O3.cell 1 (v := .bool false) rfl; have od22 := O3.cell 2 (v := .complex .f64 0 0) rfl; have ea3 : Op.floatEq .f64 p2 4607182418800017408 = true := feq my3.t1 is1; have eb3 : Op.floatEq .f64 q2 0 = true := feq my3.t2 is0; have ec3 : Op.floatEq .f64 r2 0 = true := feq my3.m1 is0; have ed3 : Op.floatEq .f64 s2 0 = true := feq my3.m2 is0))
  rw [rounds_succ]
  go_wp2
  go_ret2
  exact ⟨rfl, G3⟩

set_option maxHeartbeats 1000000 in
theorem times2 (w : World) : Calls Try.prog 16 #[.int .i64 2] w fun e w' => e = .returned (.tuple #[.int .i64 2, .int .i64 0]) ∧ w.grownBy w' none := by
  have hp := part2
  have my0 : May 13830554455654793216 0 false 0 0 2 0 0 := (part_may 2 (by decide)).1
  have eC := eqC
  have st := stC
  have ea0 : Op.floatEq .f64 13830554455654793216 4607182418800017408 = false := feq my0.t1 is1; have eb0 : Op.floatEq .f64 0 0 = true := feq my0.t2 is0; have ec0 : Op.floatEq .f64 0 0 = true := feq my0.m1 is0; have ed0 : Op.floatEq .f64 0 0 = true := feq my0.m2 is0
  go_enter Try.func16, Try.ntmps16
  go_wp2_with (first | (go_at_call 14; refine (hp _).mono ?_; rintro e w1 ⟨rfl, g1⟩; obtain ⟨WA, hWA, szA, gA, OA⟩ := boxn w1 #[.complex .f64 13830554455654793216 0, .bool false, .complex .f64 0 0] 25; obtain ⟨V0, hV0, szV0, gV0, L0⟩ := boxn WA #[.complex .f64 13830554455654793216 0, .bool false, .complex .f64 0 0] 25; have O0 := OA.kept gV0 (by simp); have G0 := gb_trans (gb_trans g1 gA) gV0; have oa0 := OA.cell 0 (v := .complex .f64 13830554455654793216 0) rfl; have oa1 := OA.cell 1 (v := .bool false) rfl; have oa2 := OA.cell 2 (v := .complex .f64 0 0) rfl; have la0 := L0.cell 0 (v := .complex .f64 13830554455654793216 0) rfl; have la1 := L0.cell 1 (v := .bool false) rfl; have la2 := L0.cell 2 (v := .complex .f64 0 0) rfl; have ob0 := O0.cell 0 (v := .complex .f64 13830554455654793216 0) rfl; have ob1 := O0.cell 1 (v := .bool false) rfl; have ob2 := O0.cell 2 (v := .complex .f64 0 0) rfl; have sa0 := Bo.same OA 0 (v := .complex .f64 13830554455654793216 0) rfl; have sa1 := Bo.same OA 1 (v := .bool false) rfl; have sa2 := Bo.same OA 2 (v := .complex .f64 0 0) rfl; have sb0 := Bo.same L0 0 (v := .complex .f64 13830554455654793216 0) rfl; have sb1 := Bo.same L0 1 (v := .bool false) rfl; have sb2 := Bo.same L0 2 (v := .complex .f64 0 0) rfl; have fa0 := OA.frozen 0; have fa1 := OA.frozen 1; have fa2 := OA.frozen 2; have fb0 := L0.frozen 0; have fb1 := L0.frozen 1; have fb2 := L0.frozen 2))
  refine wp_loop_rounds 5 ?_
  obtain ⟨C0, hC0, szC0, gC0, N0⟩ := boxn V0 #[.complex .f64 13830554455654793216 0, .bool false, .complex .f64 0 0] 25
  have OC0 := O0.kept gC0 (by simp)
  have hne0 : Hid (V0.heap.size ≠ w1.heap.size) := Ne.symm (Nat.ne_of_lt O0.lt)
  have na00 := N0.cell 0 (v := .complex .f64 13830554455654793216 0) rfl; have na01 := N0.cell 1 (v := .bool false) rfl; have na02 := N0.cell 2 (v := .complex .f64 0 0) rfl
  have oc00 := OC0.cell 0 (v := .complex .f64 13830554455654793216 0) rfl; have oc01 := OC0.cell 1 (v := .bool false) rfl; have oc02 := OC0.cell 2 (v := .complex .f64 0 0) rfl
  have sn00 := Bo.same N0 0 (v := .complex .f64 13830554455654793216 0) rfl; have sn01 := Bo.same N0 1 (v := .bool false) rfl; have sn02 := Bo.same N0 2 (v := .complex .f64 0 0) rfl
  have fn00 := N0.frozen 0; have fn01 := N0.frozen 1; have fn02 := N0.frozen 2
  rw [rounds_succ]
  go_wp2_with (first | (go_at_call 37; refine (joinF _ _ _ _ _ _ _ _ _ _ false rfl 0 (by decide) my0 my0 _).mono ?_; rintro e u0 ⟨p0, q0, r0, s0, rfl, my1, gu0⟩; have NN0 := N0.kept gu0 (by simp); have OO0 := OC0.kept gu0 (by simp); have nb00 := NN0.cell 0 (v := .complex .f64 13830554455654793216 0) rfl; have nb01 := NN0.cell 1 (v := .bool false) rfl; have nb02 := NN0.cell 2 (v := .complex .f64 0 0) rfl; have nf00 := NN0.frozen 0; have nf01 := NN0.frozen 1; have nf02 := NN0.frozen 2; obtain ⟨V1, hV1⟩ : ∃ V, ((u0.setCell ⟨V0.heap.size, 0, none⟩ (.complex .f64 p0 q0)).setCell ⟨V0.heap.size, 1, none⟩ (.bool false)).setCell ⟨V0.heap.size, 2, none⟩ (.complex .f64 r0 s0) = V := ⟨_, rfl⟩; have L1 : Bo V1 V0.heap.size 25 #[.complex .f64 p0 q0, .bool false, .complex .f64 r0 s0] := hV1 ▸ bo3 NN0; have O1 : Bo V1 w1.heap.size 25 #[.complex .f64 13830554455654793216 0, .bool false, .complex .f64 0 0] := hV1 ▸ ((OO0.set2 hne0.out).set2 hne0.out).set2 hne0.out; have G1 : w.grownBy V1 none := hV1 ▸ gb3 (gb_trans (gb_trans G0 gC0) gu0) G0.size; have lb00 := L1.cell 0 (v := .complex .f64 p0 q0) rfl; have lb01 := L1.cell 1 (v := .bool false) rfl; have lb02 := L1.cell 2 (v := .complex .f64 r0 s0) rfl; have od00 := O1.cell 0 (v := .complex .f64 13830554455654793216 0) rfl; have od01 := O1.cell 1 (v := .bool false) rfl; have od02 := O1.cell 2 (v := .complex .f64 0 0) rfl; have ea1 : Op.floatEq .f64 p0 4607182418800017408 = true := feq my1.t1 is1; have eb1 : Op.floatEq .f64 q0 0 = true := feq my1.t2 is0; have ec1 : Op.floatEq .f64 r0 0 = true := feq my1.m1 is0; have ed1 : Op.floatEq .f64 s0 0 = true := feq my1.m2 is0))
  rw [rounds_succ]
  go_wp2
  go_ret2
  exact ⟨rfl, G1⟩

set_option maxHeartbeats 1000000 in
theorem times3 (w : World) : Calls Try.prog 16 #[.int .i64 3] w fun e w' => e = .returned (.tuple #[.int .i64 4, .int .i64 0]) ∧ w.grownBy w' none := by
  have hp := part3
  have my0 : May 0 13830554455654793216 false 0 0 3 0 0 := (part_may 3 (by decide)).1
  have eC := eqC
  have st := stC
  have ea0 : Op.floatEq .f64 0 4607182418800017408 = false := feq my0.t1 is1; have eb0 : Op.floatEq .f64 13830554455654793216 0 = false := feq my0.t2 is0; have ec0 : Op.floatEq .f64 0 0 = true := feq my0.m1 is0; have ed0 : Op.floatEq .f64 0 0 = true := feq my0.m2 is0
  go_enter Try.func16, Try.ntmps16
  go_wp2_with (first | (go_at_call 14; refine (hp _).mono ?_; rintro e w1 ⟨rfl, g1⟩; obtain ⟨WA, hWA, szA, gA, OA⟩ := boxn w1 #[.complex .f64 0 13830554455654793216, .bool false, .complex .f64 0 0] 25; obtain ⟨V0, hV0, szV0, gV0, L0⟩ := boxn WA #[.complex .f64 0 13830554455654793216, .bool false, .complex .f64 0 0] 25; have O0 := OA.kept gV0 (by simp); have G0 := gb_trans (gb_trans g1 gA) gV0; have oa0 := OA.cell 0 (v := .complex .f64 0 13830554455654793216) rfl; have oa1 := OA.cell 1 (v := .bool false) rfl; have oa2 := OA.cell 2 (v := .complex .f64 0 0) rfl; have la0 := L0.cell 0 (v := .complex .f64 0 13830554455654793216) rfl; have la1 := L0.cell 1 (v := .bool false) rfl; have la2 := L0.cell 2 (v := .complex .f64 0 0) rfl; have ob0 := O0.cell 0 (v := .complex .f64 0 13830554455654793216) rfl; have ob1 := O0.cell 1 (v := .bool false) rfl; have ob2 := O0.cell 2 (v := .complex .f64 0 0) rfl; have sa0 := Bo.same OA 0 (v := .complex .f64 0 13830554455654793216) rfl; have sa1 := Bo.same OA 1 (v := .bool false) rfl; have sa2 := Bo.same OA 2 (v := .complex .f64 0 0) rfl; have sb0 := Bo.same L0 0 (v := .complex .f64 0 13830554455654793216) rfl; have sb1 := Bo.same L0 1 (v := .bool false) rfl; have sb2 := Bo.same L0 2 (v := .complex .f64 0 0) rfl; have fa0 := OA.frozen 0; have fa1 := OA.frozen 1; have fa2 := OA.frozen 2; have fb0 := L0.frozen 0; have fb1 := L0.frozen 1; have fb2 := L0.frozen 2))
  refine wp_loop_rounds 5 ?_
  obtain ⟨C0, hC0, szC0, gC0, N0⟩ := boxn V0 #[.complex .f64 0 13830554455654793216, .bool false, .complex .f64 0 0] 25
  have OC0 := O0.kept gC0 (by simp)
  have hne0 : Hid (V0.heap.size ≠ w1.heap.size) := Ne.symm (Nat.ne_of_lt O0.lt)
  have na00 := N0.cell 0 (v := .complex .f64 0 13830554455654793216) rfl; have na01 := N0.cell 1 (v := .bool false) rfl; have na02 := N0.cell 2 (v := .complex .f64 0 0) rfl
  have oc00 := OC0.cell 0 (v := .complex .f64 0 13830554455654793216) rfl; have oc01 := OC0.cell 1 (v := .bool false) rfl; have oc02 := OC0.cell 2 (v := .complex .f64 0 0) rfl
  have sn00 := Bo.same N0 0 (v := .complex .f64 0 13830554455654793216) rfl; have sn01 := Bo.same N0 1 (v := .bool false) rfl; have sn02 := Bo.same N0 2 (v := .complex .f64 0 0) rfl
  have fn00 := N0.frozen 0; have fn01 := N0.frozen 1; have fn02 := N0.frozen 2
  rw [rounds_succ]
  go_wp2_with (first | (go_at_call 37; refine (joinF _ _ _ _ _ _ _ _ _ _ false rfl 2 (by decide) my0 my0 _).mono ?_; rintro e u0 ⟨p0, q0, r0, s0, rfl, my1, gu0⟩; have NN0 := N0.kept gu0 (by simp); have OO0 := OC0.kept gu0 (by simp); have nb00 := NN0.cell 0 (v := .complex .f64 0 13830554455654793216) rfl; have nb01 := NN0.cell 1 (v := .bool false) rfl; have nb02 := NN0.cell 2 (v := .complex .f64 0 0) rfl; have nf00 := NN0.frozen 0; have nf01 := NN0.frozen 1; have nf02 := NN0.frozen 2; obtain ⟨V1, hV1⟩ : ∃ V, ((u0.setCell ⟨V0.heap.size, 0, none⟩ (.complex .f64 p0 q0)).setCell ⟨V0.heap.size, 1, none⟩ (.bool false)).setCell ⟨V0.heap.size, 2, none⟩ (.complex .f64 r0 s0) = V := ⟨_, rfl⟩; have L1 : Bo V1 V0.heap.size 25 #[.complex .f64 p0 q0, .bool false, .complex .f64 r0 s0] := hV1 ▸ bo3 NN0; have O1 : Bo V1 w1.heap.size 25 #[.complex .f64 0 13830554455654793216, .bool false, .complex .f64 0 0] := hV1 ▸ ((OO0.set2 hne0.out).set2 hne0.out).set2 hne0.out; have G1 : w.grownBy V1 none := hV1 ▸ gb3 (gb_trans (gb_trans G0 gC0) gu0) G0.size; have lb00 := L1.cell 0 (v := .complex .f64 p0 q0) rfl; have lb01 := L1.cell 1 (v := .bool false) rfl; have lb02 := L1.cell 2 (v := .complex .f64 r0 s0) rfl; have od00 := O1.cell 0 (v := .complex .f64 0 13830554455654793216) rfl; have od01 := O1.cell 1 (v := .bool false) rfl; have od02 := O1.cell 2 (v := .complex .f64 0 0) rfl; have ea1 : Op.floatEq .f64 p0 4607182418800017408 = false := feq my1.t1 is1; have eb1 : Op.floatEq .f64 q0 0 = true := feq my1.t2 is0; have ec1 : Op.floatEq .f64 r0 0 = true := feq my1.m1 is0; have ed1 : Op.floatEq .f64 s0 0 = true := feq my1.m2 is0))
  obtain ⟨C1, hC1, szC1, gC1, N1⟩ := boxn V1 #[.complex .f64 p0 q0, .bool false, .complex .f64 r0 s0] 25
  have OC1 := O1.kept gC1 (by simp)
  have hne1 : Hid (V1.heap.size ≠ w1.heap.size) := Ne.symm (Nat.ne_of_lt O1.lt)
  have na10 := N1.cell 0 (v := .complex .f64 p0 q0) rfl; have na11 := N1.cell 1 (v := .bool false) rfl; have na12 := N1.cell 2 (v := .complex .f64 r0 s0) rfl
  have oc10 := OC1.cell 0 (v := .complex .f64 0 13830554455654793216) rfl; have oc11 := OC1.cell 1 (v := .bool false) rfl; have oc12 := OC1.cell 2 (v := .complex .f64 0 0) rfl
  have sn10 := Bo.same N1 0 (v := .complex .f64 p0 q0) rfl; have sn11 := Bo.same N1 1 (v := .bool false) rfl; have sn12 := Bo.same N1 2 (v := .complex .f64 r0 s0) rfl
  have fn10 := N1.frozen 0; have fn11 := N1.frozen 1; have fn12 := N1.frozen 2
  rw [rounds_succ]
  go_wp2_with (first | (go_at_call 37; refine (joinF _ _ _ _ _ _ _ _ _ _ false rfl 1 (by decide) my1 my0 _).mono ?_; rintro e u1 ⟨p1, q1, r1, s1, rfl, my2, gu1⟩; have NN1 := N1.kept gu1 (by simp); have OO1 := OC1.kept gu1 (by simp); have nb10 := NN1.cell 0 (v := .complex .f64 p0 q0) rfl; have nb11 := NN1.cell 1 (v := .bool false) rfl; have nb12 := NN1.cell 2 (v := .complex .f64 r0 s0) rfl; have nf10 := NN1.frozen 0; have nf11 := NN1.frozen 1; have nf12 := NN1.frozen 2; obtain ⟨V2, hV2⟩ : ∃ V, ((u1.setCell ⟨V1.heap.size, 0, none⟩ (.complex .f64 p1 q1)).setCell ⟨V1.heap.size, 1, none⟩ (.bool false)).setCell ⟨V1.heap.size, 2, none⟩ (.complex .f64 r1 s1) = V := ⟨_, rfl⟩; have L2 : Bo V2 V1.heap.size 25 #[.complex .f64 p1 q1, .bool false, .complex .f64 r1 s1] := hV2 ▸ bo3 NN1; have O2 : Bo V2 w1.heap.size 25 #[.complex .f64 0 13830554455654793216, .bool false, .complex .f64 0 0] := hV2 ▸ ((OO1.set2 hne1.out).set2 hne1.out).set2 hne1.out; have G2 : w.grownBy V2 none := hV2 ▸ gb3 (gb_trans (gb_trans G1 gC1) gu1) G1.size; have lb10 := L2.cell 0 (v := .complex .f64 p1 q1) rfl; have lb11 := L2.cell 1 (v := .bool false) rfl; have lb12 := L2.cell 2 (v := .complex .f64 r1 s1) rfl; have od10 := O2.cell 0 (v := .complex .f64 0 13830554455654793216) rfl; have od11 := O2.cell 1 (v := .bool false) rfl; have od12 := O2.cell 2 (v := .complex .f64 0 0) rfl; have ea2 : Op.floatEq .f64 p1 4607182418800017408 = false := feq my2.t1 is1; have eb2 : Op.floatEq .f64 q1 0 = false := feq my2.t2 is0; have ec2 : Op.floatEq .f64 r1 0 = true := feq my2.m1 is0; have ed2 : Op.floatEq .f64 s1 0 = true := feq my2.m2 is0))
  obtain ⟨C2, hC2, szC2, gC2, N2⟩ := boxn V2 #[.complex .f64 p1 q1, .bool false, .complex .f64 r1 s1] 25
  have OC2 := O2.kept gC2 (by simp)
  have hne2 : Hid (V2.heap.size ≠ w1.heap.size) := Ne.symm (Nat.ne_of_lt O2.lt)
  have na20 := N2.cell 0 (v := .complex .f64 p1 q1) rfl; have na21 := N2.cell 1 (v := .bool false) rfl; have na22 := N2.cell 2 (v := .complex .f64 r1 s1) rfl
  have oc20 := OC2.cell 0 (v := .complex .f64 0 13830554455654793216) rfl; have oc21 := OC2.cell 1 (v := .bool false) rfl; have oc22 := OC2.cell 2 (v := .complex .f64 0 0) rfl
  have sn20 := Bo.same N2 0 (v := .complex .f64 p1 q1) rfl; have sn21 := Bo.same N2 1 (v := .bool false) rfl; have sn22 := Bo.same N2 2 (v := .complex .f64 r1 s1) rfl
  have fn20 := N2.frozen 0; have fn21 := N2.frozen 1; have fn22 := N2.frozen 2
  rw [rounds_succ]
  go_wp2_with (first | (go_at_call 37; refine (joinF _ _ _ _ _ _ _ _ _ _ false rfl 0 (by decide) my2 my0 _).mono ?_; rintro e u2 ⟨p2, q2, r2, s2, rfl, my3, gu2⟩; have NN2 := N2.kept gu2 (by simp); have OO2 := OC2.kept gu2 (by simp); have nb20 := NN2.cell 0 (v := .complex .f64 p1 q1) rfl; have nb21 := NN2.cell 1 (v := .bool false) rfl; have nb22 := NN2.cell 2 (v := .complex .f64 r1 s1) rfl; have nf20 := NN2.frozen 0; have nf21 := NN2.frozen 1; have nf22 := NN2.frozen 2; obtain ⟨V3, hV3⟩ : ∃ V, ((u2.setCell ⟨V2.heap.size, 0, none⟩ (.complex .f64 p2 q2)).setCell ⟨V2.heap.size, 1, none⟩ (.bool false)).setCell ⟨V2.heap.size, 2, none⟩ (.complex .f64 r2 s2) = V := ⟨_, rfl⟩; have L3 : Bo V3 V2.heap.size 25 #[.complex .f64 p2 q2, .bool false, .complex .f64 r2 s2] := hV3 ▸ bo3 NN2; have O3 : Bo V3 w1.heap.size 25 #[.complex .f64 0 13830554455654793216, .bool false, .complex .f64 0 0] := hV3 ▸ ((OO2.set2 hne2.out).set2 hne2.out).set2 hne2.out; have G3 : w.grownBy V3 none := hV3 ▸ gb3 (gb_trans (gb_trans G2 gC2) gu2) G2.size; have lb20 := L3.cell 0 (v := .complex .f64 p2 q2) rfl; have lb21 := L3.cell 1 (v := .bool false) rfl; have lb22 := L3.cell 2 (v := .complex .f64 r2 s2) rfl; have od20 := O3.cell 0 (v := .complex .f64 0 13830554455654793216) rfl; have od21 := O3.cell 1 (v := .bool false) rfl; have od22 := O3.cell 2 (v := .complex .f64 0 0) rfl; have ea3 : Op.floatEq .f64 p2 4607182418800017408 = true := feq my3.t1 is1; have eb3 : Op.floatEq .f64 q2 0 = true := feq my3.t2 is0; have ec3 : Op.floatEq .f64 r2 0 = true := feq my3.m1 is0; have ed3 : Op.floatEq .f64 s2 0 = true := feq my3.m2 is0))
  rw [rounds_succ]
  go_wp2
  go_ret2
  exact ⟨rfl, G3⟩

set_option maxHeartbeats 1000000 in
theorem times4 (w : World) : Calls Try.prog 16 #[.int .i64 4] w fun e w' => e = .returned (.tuple #[.int .i64 2, .int .i64 0]) ∧ w.grownBy w' none := by
  have hp := part4
  have my0 : May 4607182418800017408 0 true 0 0 4 0 0 := (part_may 4 (by decide)).1
  have eC := eqC
  have st := stC
  have ea0 : Op.floatEq .f64 4607182418800017408 4607182418800017408 = true := feq my0.t1 is1; have eb0 : Op.floatEq .f64 0 0 = true := feq my0.t2 is0; have ec0 : Op.floatEq .f64 0 0 = true := feq my0.m1 is0; have ed0 : Op.floatEq .f64 0 0 = true := feq my0.m2 is0
  go_enter Try.func16, Try.ntmps16
  go_wp2_with (first | (go_at_call 14; refine (hp _).mono ?_; rintro e w1 ⟨rfl, g1⟩; obtain ⟨WA, hWA, szA, gA, OA⟩ := boxn w1 #[.complex .f64 4607182418800017408 0, .bool true, .complex .f64 0 0] 25; obtain ⟨V0, hV0, szV0, gV0, L0⟩ := boxn WA #[.complex .f64 4607182418800017408 0, .bool true, .complex .f64 0 0] 25; have O0 := OA.kept gV0 (by simp); have G0 := gb_trans (gb_trans g1 gA) gV0; have oa0 := OA.cell 0 (v := .complex .f64 4607182418800017408 0) rfl; have oa1 := OA.cell 1 (v := .bool true) rfl; have oa2 := OA.cell 2 (v := .complex .f64 0 0) rfl; have la0 := L0.cell 0 (v := .complex .f64 4607182418800017408 0) rfl; have la1 := L0.cell 1 (v := .bool true) rfl; have la2 := L0.cell 2 (v := .complex .f64 0 0) rfl; have ob0 := O0.cell 0 (v := .complex .f64 4607182418800017408 0) rfl; have ob1 := O0.cell 1 (v := .bool true) rfl; have ob2 := O0.cell 2 (v := .complex .f64 0 0) rfl; have sa0 := Bo.same OA 0 (v := .complex .f64 4607182418800017408 0) rfl; have sa1 := Bo.same OA 1 (v := .bool true) rfl; have sa2 := Bo.same OA 2 (v := .complex .f64 0 0) rfl; have sb0 := Bo.same L0 0 (v := .complex .f64 4607182418800017408 0) rfl; have sb1 := Bo.same L0 1 (v := .bool true) rfl; have sb2 := Bo.same L0 2 (v := .complex .f64 0 0) rfl; have fa0 := OA.frozen 0; have fa1 := OA.frozen 1; have fa2 := OA.frozen 2; have fb0 := L0.frozen 0; have fb1 := L0.frozen 1; have fb2 := L0.frozen 2))
  refine wp_loop_rounds 5 ?_
  obtain ⟨C0, hC0, szC0, gC0, N0⟩ := boxn V0 #[.complex .f64 4607182418800017408 0, .bool true, .complex .f64 0 0] 25
  have OC0 := O0.kept gC0 (by simp)
  have hne0 : Hid (V0.heap.size ≠ w1.heap.size) := Ne.symm (Nat.ne_of_lt O0.lt)
  have na00 := N0.cell 0 (v := .complex .f64 4607182418800017408 0) rfl; have na01 := N0.cell 1 (v := .bool true) rfl; have na02 := N0.cell 2 (v := .complex .f64 0 0) rfl
  have oc00 := OC0.cell 0 (v := .complex .f64 4607182418800017408 0) rfl; have oc01 := OC0.cell 1 (v := .bool true) rfl; have oc02 := OC0.cell 2 (v := .complex .f64 0 0) rfl
  have sn00 := Bo.same N0 0 (v := .complex .f64 4607182418800017408 0) rfl; have sn01 := Bo.same N0 1 (v := .bool true) rfl; have sn02 := Bo.same N0 2 (v := .complex .f64 0 0) rfl
  have fn00 := N0.frozen 0; have fn01 := N0.frozen 1; have fn02 := N0.frozen 2
  rw [rounds_succ]
  go_wp2_with (first | (go_at_call 37; refine (joinF _ _ _ _ _ _ _ _ _ _ false rfl 0 (by decide) my0 my0 _).mono ?_; rintro e u0 ⟨p0, q0, r0, s0, rfl, my1, gu0⟩; have NN0 := N0.kept gu0 (by simp); have OO0 := OC0.kept gu0 (by simp); have nb00 := NN0.cell 0 (v := .complex .f64 4607182418800017408 0) rfl; have nb01 := NN0.cell 1 (v := .bool true) rfl; have nb02 := NN0.cell 2 (v := .complex .f64 0 0) rfl; have nf00 := NN0.frozen 0; have nf01 := NN0.frozen 1; have nf02 := NN0.frozen 2; obtain ⟨V1, hV1⟩ : ∃ V, ((u0.setCell ⟨V0.heap.size, 0, none⟩ (.complex .f64 p0 q0)).setCell ⟨V0.heap.size, 1, none⟩ (.bool false)).setCell ⟨V0.heap.size, 2, none⟩ (.complex .f64 r0 s0) = V := ⟨_, rfl⟩; have L1 : Bo V1 V0.heap.size 25 #[.complex .f64 p0 q0, .bool false, .complex .f64 r0 s0] := hV1 ▸ bo3 NN0; have O1 : Bo V1 w1.heap.size 25 #[.complex .f64 4607182418800017408 0, .bool true, .complex .f64 0 0] := hV1 ▸ ((OO0.set2 hne0.out).set2 hne0.out).set2 hne0.out; have G1 : w.grownBy V1 none := hV1 ▸ gb3 (gb_trans (gb_trans G0 gC0) gu0) G0.size; have lb00 := L1.cell 0 (v := .complex .f64 p0 q0) rfl; have lb01 := L1.cell 1 (v := .bool false) rfl; have lb02 := L1.cell 2 (v := .complex .f64 r0 s0) rfl; have od00 := O1.cell 0 (v := .complex .f64 4607182418800017408 0) rfl; have od01 := O1.cell 1 (v := .bool true) rfl; have od02 := O1.cell 2 (v := .complex .f64 0 0) rfl; have ea1 : Op.floatEq .f64 p0 4607182418800017408 = true := feq my1.t1 is1; have eb1 : Op.floatEq .f64 q0 0 = true := feq my1.t2 is0; have ec1 : Op.floatEq .f64 r0 0 = true := feq my1.m1 is0; have ed1 : Op.floatEq .f64 s0 0 = true := feq my1.m2 is0))
  rw [rounds_succ]
  go_wp2
  go_ret2
  exact ⟨rfl, G1⟩

set_option maxHeartbeats 1000000 in
theorem times5 (w : World) : Calls Try.prog 16 #[.int .i64 5] w fun e w' => e = .returned (.tuple #[.int .i64 2, .int .i64 0]) ∧ w.grownBy w' none := by
  have hp := part5
  have my0 : May 0 4607182418800017408 true 0 0 5 0 0 := (part_may 5 (by decide)).1
  have eC := eqC
  have st := stC
  have ea0 : Op.floatEq .f64 0 4607182418800017408 = false := feq my0.t1 is1; have eb0 : Op.floatEq .f64 4607182418800017408 0 = false := feq my0.t2 is0; have ec0 : Op.floatEq .f64 0 0 = true := feq my0.m1 is0; have ed0 : Op.floatEq .f64 0 0 = true := feq my0.m2 is0
  go_enter Try.func16, Try.ntmps16
  go_wp2_with (first | (go_at_call 14; refine (hp _).mono ?_; rintro e w1 ⟨rfl, g1⟩; obtain ⟨WA, hWA, szA, gA, OA⟩ := boxn w1 #[.complex .f64 0 4607182418800017408, .bool true, .complex .f64 0 0] 25; obtain ⟨V0, hV0, szV0, gV0, L0⟩ := boxn WA #[.complex .f64 0 4607182418800017408, .bool true, .complex .f64 0 0] 25; have O0 := OA.kept gV0 (by simp); have G0 := gb_trans (gb_trans g1 gA) gV0; have oa0 := OA.cell 0 (v := .complex .f64 0 4607182418800017408) rfl; have oa1 := OA.cell 1 (v := .bool true) rfl; have oa2 := OA.cell 2 (v := .complex .f64 0 0) rfl; have la0 := L0.cell 0 (v := .complex .f64 0 4607182418800017408) rfl; have la1 := L0.cell 1 (v := .bool true) rfl; have la2 := L0.cell 2 (v := .complex .f64 0 0) rfl; have ob0 := O0.cell 0 (v := .complex .f64 0 4607182418800017408) rfl; have ob1 := O0.cell 1 (v := .bool true) rfl; have ob2 := O0.cell 2 (v := .complex .f64 0 0) rfl; have sa0 := Bo.same OA 0 (v := .complex .f64 0 4607182418800017408) rfl; have sa1 := Bo.same OA 1 (v := .bool true) rfl; have sa2 := Bo.same OA 2 (v := .complex .f64 0 0) rfl; have sb0 := Bo.same L0 0 (v := .complex .f64 0 4607182418800017408) rfl; have sb1 := Bo.same L0 1 (v := .bool true) rfl; have sb2 := Bo.same L0 2 (v := .complex .f64 0 0) rfl; have fa0 := OA.frozen 0; have fa1 := OA.frozen 1; have fa2 := OA.frozen 2; have fb0 := L0.frozen 0; have fb1 := L0.frozen 1; have fb2 := L0.frozen 2))
  refine wp_loop_rounds 5 ?_
  obtain ⟨C0, hC0, szC0, gC0, N0⟩ := boxn V0 #[.complex .f64 0 4607182418800017408, .bool true, .complex .f64 0 0] 25
  have OC0 := O0.kept gC0 (by simp)
  have hne0 : Hid (V0.heap.size ≠ w1.heap.size) := Ne.symm (Nat.ne_of_lt O0.lt)
  have na00 := N0.cell 0 (v := .complex .f64 0 4607182418800017408) rfl; have na01 := N0.cell 1 (v := .bool true) rfl; have na02 := N0.cell 2 (v := .complex .f64 0 0) rfl
  have oc00 := OC0.cell 0 (v := .complex .f64 0 4607182418800017408) rfl; have oc01 := OC0.cell 1 (v := .bool true) rfl; have oc02 := OC0.cell 2 (v := .complex .f64 0 0) rfl
  have sn00 := Bo.same N0 0 (v := .complex .f64 0 4607182418800017408) rfl; have sn01 := Bo.same N0 1 (v := .bool true) rfl; have sn02 := Bo.same N0 2 (v := .complex .f64 0 0) rfl
  have fn00 := N0.frozen 0; have fn01 := N0.frozen 1; have fn02 := N0.frozen 2
  rw [rounds_succ]
  go_wp2_with (first | (go_at_call 37; refine (joinF _ _ _ _ _ _ _ _ _ _ false rfl 0 (by decide) my0 my0 _).mono ?_; rintro e u0 ⟨p0, q0, r0, s0, rfl, my1, gu0⟩; have NN0 := N0.kept gu0 (by simp); have OO0 := OC0.kept gu0 (by simp); have nb00 := NN0.cell 0 (v := .complex .f64 0 4607182418800017408) rfl; have nb01 := NN0.cell 1 (v := .bool true) rfl; have nb02 := NN0.cell 2 (v := .complex .f64 0 0) rfl; have nf00 := NN0.frozen 0; have nf01 := NN0.frozen 1; have nf02 := NN0.frozen 2; obtain ⟨V1, hV1⟩ : ∃ V, ((u0.setCell ⟨V0.heap.size, 0, none⟩ (.complex .f64 p0 q0)).setCell ⟨V0.heap.size, 1, none⟩ (.bool false)).setCell ⟨V0.heap.size, 2, none⟩ (.complex .f64 r0 s0) = V := ⟨_, rfl⟩; have L1 : Bo V1 V0.heap.size 25 #[.complex .f64 p0 q0, .bool false, .complex .f64 r0 s0] := hV1 ▸ bo3 NN0; have O1 : Bo V1 w1.heap.size 25 #[.complex .f64 0 4607182418800017408, .bool true, .complex .f64 0 0] := hV1 ▸ ((OO0.set2 hne0.out).set2 hne0.out).set2 hne0.out; have G1 : w.grownBy V1 none := hV1 ▸ gb3 (gb_trans (gb_trans G0 gC0) gu0) G0.size; have lb00 := L1.cell 0 (v := .complex .f64 p0 q0) rfl; have lb01 := L1.cell 1 (v := .bool false) rfl; have lb02 := L1.cell 2 (v := .complex .f64 r0 s0) rfl; have od00 := O1.cell 0 (v := .complex .f64 0 4607182418800017408) rfl; have od01 := O1.cell 1 (v := .bool true) rfl; have od02 := O1.cell 2 (v := .complex .f64 0 0) rfl; have ea1 : Op.floatEq .f64 p0 4607182418800017408 = true := feq my1.t1 is1; have eb1 : Op.floatEq .f64 q0 0 = true := feq my1.t2 is0; have ec1 : Op.floatEq .f64 r0 0 = true := feq my1.m1 is0; have ed1 : Op.floatEq .f64 s0 0 = true := feq my1.m2 is0))
  rw [rounds_succ]
  go_wp2
  go_ret2
  exact ⟨rfl, G1⟩

set_option maxHeartbeats 1000000 in
theorem times6 (w : World) : Calls Try.prog 16 #[.int .i64 6] w fun e w' => e = .returned (.tuple #[.int .i64 2, .int .i64 0]) ∧ w.grownBy w' none := by
  have hp := part6
  have my0 : May 13830554455654793216 0 true 0 0 6 0 0 := (part_may 6 (by decide)).1
  have eC := eqC
  have st := stC
  have ea0 : Op.floatEq .f64 13830554455654793216 4607182418800017408 = false := feq my0.t1 is1; have eb0 : Op.floatEq .f64 0 0 = true := feq my0.t2 is0; have ec0 : Op.floatEq .f64 0 0 = true := feq my0.m1 is0; have ed0 : Op.floatEq .f64 0 0 = true := feq my0.m2 is0
  go_enter Try.func16, Try.ntmps16
  go_wp2_with (first | (go_at_call 14; refine (hp _).mono ?_; rintro e w1 ⟨rfl, g1⟩; obtain ⟨WA, hWA, szA, gA, OA⟩ := boxn w1 #[.complex .f64 13830554455654793216 0, .bool true, .complex .f64 0 0] 25; obtain ⟨V0, hV0, szV0, gV0, L0⟩ := boxn WA #[.complex .f64 13830554455654793216 0, .bool true, .complex .f64 0 0] 25; have O0 := OA.kept gV0 (by simp); have G0 := gb_trans (gb_trans g1 gA) gV0; have oa0 := OA.cell 0 (v := .complex .f64 13830554455654793216 0) rfl; have oa1 := OA.cell 1 (v := .bool true) rfl; have oa2 := OA.cell 2 (v := .complex .f64 0 0) rfl; have la0 := L0.cell 0 (v := .complex .f64 13830554455654793216 0) rfl; have la1 := L0.cell 1 (v := .bool true) rfl; have la2 := L0.cell 2 (v := .complex .f64 0 0) rfl; have ob0 := O0.cell 0 (v := .complex .f64 13830554455654793216 0) rfl; have ob1 := O0.cell 1 (v := .bool true) rfl; have ob2 := O0.cell 2 (v := .complex .f64 0 0) rfl; have sa0 := Bo.same OA 0 (v := .complex .f64 13830554455654793216 0) rfl; have sa1 := Bo.same OA 1 (v := .bool true) rfl; have sa2 := Bo.same OA 2 (v := .complex .f64 0 0) rfl; have sb0 := Bo.same L0 0 (v := .complex .f64 13830554455654793216 0) rfl; have sb1 := Bo.same L0 1 (v := .bool true) rfl; have sb2 := Bo.same L0 2 (v := .complex .f64 0 0) rfl; have fa0 := OA.frozen 0; have fa1 := OA.frozen 1; have fa2 := OA.frozen 2; have fb0 := L0.frozen 0; have fb1 := L0.frozen 1; have fb2 := L0.frozen 2))
  refine wp_loop_rounds 5 ?_
  obtain ⟨C0, hC0, szC0, gC0, N0⟩ := boxn V0 #[.complex .f64 13830554455654793216 0, .bool true, .complex .f64 0 0] 25
  have OC0 := O0.kept gC0 (by simp)
  have hne0 : Hid (V0.heap.size ≠ w1.heap.size) := Ne.symm (Nat.ne_of_lt O0.lt)
  have na00 := N0.cell 0 (v := .complex .f64 13830554455654793216 0) rfl; have na01 := N0.cell 1 (v := .bool true) rfl; have na02 := N0.cell 2 (v := .complex .f64 0 0) rfl
  have oc00 := OC0.cell 0 (v := .complex .f64 13830554455654793216 0) rfl; have oc01 := OC0.cell 1 (v := .bool true) rfl; have oc02 := OC0.cell 2 (v := .complex .f64 0 0) rfl
  have sn00 := Bo.same N0 0 (v := .complex .f64 13830554455654793216 0) rfl; have sn01 := Bo.same N0 1 (v := .bool true) rfl; have sn02 := Bo.same N0 2 (v := .complex .f64 0 0) rfl
  have fn00 := N0.frozen 0; have fn01 := N0.frozen 1; have fn02 := N0.frozen 2
  rw [rounds_succ]
  go_wp2_with (first | (go_at_call 37; refine (joinF _ _ _ _ _ _ _ _ _ _ false rfl 0 (by decide) my0 my0 _).mono ?_; rintro e u0 ⟨p0, q0, r0, s0, rfl, my1, gu0⟩; have NN0 := N0.kept gu0 (by simp); have OO0 := OC0.kept gu0 (by simp); have nb00 := NN0.cell 0 (v := .complex .f64 13830554455654793216 0) rfl; have nb01 := NN0.cell 1 (v := .bool true) rfl; have nb02 := NN0.cell 2 (v := .complex .f64 0 0) rfl; have nf00 := NN0.frozen 0; have nf01 := NN0.frozen 1; have nf02 := NN0.frozen 2; obtain ⟨V1, hV1⟩ : ∃ V, ((u0.setCell ⟨V0.heap.size, 0, none⟩ (.complex .f64 p0 q0)).setCell ⟨V0.heap.size, 1, none⟩ (.bool false)).setCell ⟨V0.heap.size, 2, none⟩ (.complex .f64 r0 s0) = V := ⟨_, rfl⟩; have L1 : Bo V1 V0.heap.size 25 #[.complex .f64 p0 q0, .bool false, .complex .f64 r0 s0] := hV1 ▸ bo3 NN0; have O1 : Bo V1 w1.heap.size 25 #[.complex .f64 13830554455654793216 0, .bool true, .complex .f64 0 0] := hV1 ▸ ((OO0.set2 hne0.out).set2 hne0.out).set2 hne0.out; have G1 : w.grownBy V1 none := hV1 ▸ gb3 (gb_trans (gb_trans G0 gC0) gu0) G0.size; have lb00 := L1.cell 0 (v := .complex .f64 p0 q0) rfl; have lb01 := L1.cell 1 (v := .bool false) rfl; have lb02 := L1.cell 2 (v := .complex .f64 r0 s0) rfl; have od00 := O1.cell 0 (v := .complex .f64 13830554455654793216 0) rfl; have od01 := O1.cell 1 (v := .bool true) rfl; have od02 := O1.cell 2 (v := .complex .f64 0 0) rfl; have ea1 : Op.floatEq .f64 p0 4607182418800017408 = true := feq my1.t1 is1; have eb1 : Op.floatEq .f64 q0 0 = true := feq my1.t2 is0; have ec1 : Op.floatEq .f64 r0 0 = true := feq my1.m1 is0; have ed1 : Op.floatEq .f64 s0 0 = true := feq my1.m2 is0))
  rw [rounds_succ]
  go_wp2
  go_ret2
  exact ⟨rfl, G1⟩

set_option maxHeartbeats 1000000 in
theorem times7 (w : World) : Calls Try.prog 16 #[.int .i64 7] w fun e w' => e = .returned (.tuple #[.int .i64 2, .int .i64 0]) ∧ w.grownBy w' none := by
  have hp := part7
  have my0 : May 0 13830554455654793216 true 0 0 7 0 0 := (part_may 7 (by decide)).1
  have eC := eqC
  have st := stC
  have ea0 : Op.floatEq .f64 0 4607182418800017408 = false := feq my0.t1 is1; have eb0 : Op.floatEq .f64 13830554455654793216 0 = false := feq my0.t2 is0; have ec0 : Op.floatEq .f64 0 0 = true := feq my0.m1 is0; have ed0 : Op.floatEq .f64 0 0 = true := feq my0.m2 is0
  go_enter Try.func16, Try.ntmps16
  go_wp2_with (first | (go_at_call 14; refine (hp _).mono ?_; rintro e w1 ⟨rfl, g1⟩; obtain ⟨WA, hWA, szA, gA, OA⟩ := boxn w1 #[.complex .f64 0 13830554455654793216, .bool true, .complex .f64 0 0] 25; obtain ⟨V0, hV0, szV0, gV0, L0⟩ := boxn WA #[.complex .f64 0 13830554455654793216, .bool true, .complex .f64 0 0] 25; have O0 := OA.kept gV0 (by simp); have G0 := gb_trans (gb_trans g1 gA) gV0; have oa0 := OA.cell 0 (v := .complex .f64 0 13830554455654793216) rfl; have oa1 := OA.cell 1 (v := .bool true) rfl; have oa2 := OA.cell 2 (v := .complex .f64 0 0) rfl; have la0 := L0.cell 0 (v := .complex .f64 0 13830554455654793216) rfl; have la1 := L0.cell 1 (v := .bool true) rfl; have la2 := L0.cell 2 (v := .complex .f64 0 0) rfl; have ob0 := O0.cell 0 (v := .complex .f64 0 13830554455654793216) rfl; have ob1 := O0.cell 1 (v := .bool true) rfl; have ob2 := O0.cell 2 (v := .complex .f64 0 0) rfl; have sa0 := Bo.same OA 0 (v := .complex .f64 0 13830554455654793216) rfl; have sa1 := Bo.same OA 1 (v := .bool true) rfl; have sa2 := Bo.same OA 2 (v := .complex .f64 0 0) rfl; have sb0 := Bo.same L0 0 (v := .complex .f64 0 13830554455654793216) rfl; have sb1 := Bo.same L0 1 (v := .bool true) rfl; have sb2 := Bo.same L0 2 (v := .complex .f64 0 0) rfl; have fa0 := OA.frozen 0; have fa1 := OA.frozen 1; have fa2 := OA.frozen 2; have fb0 := L0.frozen 0; have fb1 := L0.frozen 1; have fb2 := L0.frozen 2))
  refine wp_loop_rounds 5 ?_
  obtain ⟨C0, hC0, szC0, gC0, N0⟩ := boxn V0 #[.complex .f64 0 13830554455654793216, .bool true, .complex .f64 0 0] 25
  have OC0 := O0.kept gC0 (by simp)
  have hne0 : Hid (V0.heap.size ≠ w1.heap.size) := Ne.symm (Nat.ne_of_lt O0.lt)
  have na00 := N0.cell 0 (v := .complex .f64 0 13830554455654793216) rfl; have na01 := N0.cell 1 (v := .bool true) rfl; have na02 := N0.cell 2 (v := .complex .f64 0 0) rfl
  have oc00 := OC0.cell 0 (v := .complex .f64 0 13830554455654793216) rfl; have oc01 := OC0.cell 1 (v := .bool true) rfl; have oc02 := OC0.cell 2 (v := .complex .f64 0 0) rfl
  have sn00 := Bo.same N0 0 (v := .complex .f64 0 13830554455654793216) rfl; have sn01 := Bo.same N0 1 (v := .bool true) rfl; have sn02 := Bo.same N0 2 (v := .complex .f64 0 0) rfl
  have fn00 := N0.frozen 0; have fn01 := N0.frozen 1; have fn02 := N0.frozen 2
  rw [rounds_succ]
  go_wp2_with (first | (go_at_call 37; refine (joinF _ _ _ _ _ _ _ _ _ _ false rfl 0 (by decide) my0 my0 _).mono ?_; rintro e u0 ⟨p0, q0, r0, s0, rfl, my1, gu0⟩; have NN0 := N0.kept gu0 (by simp); have OO0 := OC0.kept gu0 (by simp); have nb00 := NN0.cell 0 (v := .complex .f64 0 13830554455654793216) rfl; have nb01 := NN0.cell 1 (v := .bool true) rfl; have nb02 := NN0.cell 2 (v := .complex .f64 0 0) rfl; have nf00 := NN0.frozen 0; have nf01 := NN0.frozen 1; have nf02 := NN0.frozen 2; obtain ⟨V1, hV1⟩ : ∃ V, ((u0.setCell ⟨V0.heap.size, 0, none⟩ (.complex .f64 p0 q0)).setCell ⟨V0.heap.size, 1, none⟩ (.bool false)).setCell ⟨V0.heap.size, 2, none⟩ (.complex .f64 r0 s0) = V := ⟨_, rfl⟩; have L1 : Bo V1 V0.heap.size 25 #[.complex .f64 p0 q0, .bool false, .complex .f64 r0 s0] := hV1 ▸ bo3 NN0; have O1 : Bo V1 w1.heap.size 25 #[.complex .f64 0 13830554455654793216, .bool true, .complex .f64 0 0] := hV1 ▸ ((OO0.set2 hne0.out).set2 hne0.out).set2 hne0.out; have G1 : w.grownBy V1 none := hV1 ▸ gb3 (gb_trans (gb_trans G0 gC0) gu0) G0.size; have lb00 := L1.cell 0 (v := .complex .f64 p0 q0) rfl; have lb01 := L1.cell 1 (v := .bool false) rfl; have lb02 := L1.cell 2 (v := .complex .f64 r0 s0) rfl; have od00 := O1.cell 0 (v := .complex .f64 0 13830554455654793216) rfl; have od01 := O1.cell 1 (v := .bool true) rfl; have od02 := O1.cell 2 (v := .complex .f64 0 0) rfl; have ea1 : Op.floatEq .f64 p0 4607182418800017408 = true := feq my1.t1 is1; have eb1 : Op.floatEq .f64 q0 0 = true := feq my1.t2 is0; have ec1 : Op.floatEq .f64 r0 0 = true := feq my1.m1 is0; have ed1 : Op.floatEq .f64 s0 0 = true := feq my1.m2 is0))
  rw [rounds_succ]
  go_wp2
  go_ret2
  exact ⟨rfl, G1⟩

/-- How often a linear part must be done. -/
def tms (k : Nat) : Int := if k = 0 then 1 else if k = 1 then 4 else if k = 3 then 4 else 2
theorem timesYes (k : Nat) (h : k < 8) (w : World) : Calls Try.prog 16 #[.int .i64 k] w fun e w' => e = .returned (.tuple #[.int .i64 (tms k), .int .i64 0]) ∧ w.grownBy w' none := by
  obtain rfl | rfl | rfl | rfl | rfl | rfl | rfl | rfl : k = 0 ∨ k = 1 ∨ k = 2 ∨ k = 3 ∨ k = 4 ∨ k = 5 ∨ k = 6 ∨ k = 7 := by omega
  · exact times0 w
  · exact times1 w
  · exact times2 w
  · exact times3 w
  · exact times4 w
  · exact times5 w
  · exact times6 w
  · exact times7 w
end Go.Proofs.Ytmlehegahgijhaa
