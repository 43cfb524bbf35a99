/- The way back of a map; how often a linear part must be done to come round. -/
import Derived.Test.YtgiiaokkmnjckabI5
namespace Go.Proofs.Ytgiiaokkmnjckab
open Go.RowKit
open Fl
set_option linter.unusedVariables false
set_option linter.unusedSimpArgs false
set_option maxRecDepth 100000

theorem Bo.same {w : World} {g : Nat} {t : TypeId} {cs : Array Value} (h : Bo w g t cs) (i : Nat) {v : Value} (hi : cs[i]? = some v) : w.setCell ⟨g, i, none⟩ v = w := by
  have hcs : cs.setIfInBounds i v = cs := by
    obtain ⟨h1, h2⟩ := Array.getElem?_eq_some_iff.1 hi
    subst h2
    apply Array.ext
    · simp
    · intro j h3 h4
      rw [Array.getElem_setIfInBounds]
      split
      · subst_vars; rfl
      · rfl
  have h2 := h.set i v
  rw [hcs] at h2
  have hh : (w.setCell ⟨g, i, none⟩ v).heap = w.heap := by
    apply Array.ext_getElem?
    intro j
    by_cases hj : j = g
    · subst hj; rw [show (w.setCell ⟨j, i, none⟩ v).heap[j]? = _ from h2, show w.heap[j]? = _ from h]
    · simp [World.setCell, Array.getElem?_modify, Ne.symm hj]
  show { w with heap := _ } = w
  exact congrArg (fun x => { w with heap := x }) hh
/-- Take, whatever stands there. -/
theorem same3 {w : World} {g : Nat} {t : TypeId} {x y z : Value} (h : Bo w g t #[x, y, z]) : ((w.setCell ⟨g, 0, none⟩ x).setCell ⟨g, 1, none⟩ y).setCell ⟨g, 2, none⟩ z = w := by
  rw [Bo.same h 0 (v := x) rfl, Bo.same h 1 (v := y) rfl, Bo.same h 2 (v := z) rfl]
theorem near_neg {n : Int} (h : nearB n = true) : nearB (-n) = true := by
  have := near_of h
  exact decide_eq_true (by omega)
theorem l_near (k : Nat) {x y : Int} (hx : nearB x = true) (hy : nearB y = true) : nearB (lx k x y) = true ∧ nearB (ly k x y) = true := by
  have h1 := near_of hx
  have h2 := near_of hy
  obtain ⟨u1, u2, u3⟩ := unit_t k
  have a1 := unit_mul (x := x) u1
  have a2 := unit_mul (x := cj (fl4 k) y) u2
  have a3 := unit_mul (x := cj (fl4 k) y) u1
  have a4 := unit_mul (x := x) u2
  have a5 := cj_abs (fl4 k) y
  refine ⟨decide_eq_true ?_, decide_eq_true ?_⟩
  · unfold lx
    rcases u3 with q | q
    · rw [q, Int.zero_mul] at *; omega
    · rw [q, Int.zero_mul] at *; omega
  · unfold ly
    rcases u3 with q | q
    · rw [q, Int.zero_mul] at *; omega
    · rw [q, Int.zero_mul] at *; omega

theorem backNo (a b : Nat) (f : Bool) (c d : Nat) (h : vB a b c d = false) (w : World) : Calls Try.prog 17 #[.agg (mv a b f c d)] w fun e w' => e = .returned (.tuple #[.agg (mv 0 0 false 0 0), .int .i64 50]) ∧ w.grownBy w' none := by
  obtain ⟨fs, hfs⟩ := underI
  obtain ⟨W1, hW1, sz1, g1, B1⟩ := boxn w (mv a b f c d) 48
  obtain ⟨W2, hW2, sz2, g2, B2⟩ := boxn W1 #[.complex .f64 0 0, .bool false, .complex .f64 0 0] 48
  have A2 := B1.kept g2 (by simp)
  have G2 := gb_trans g1 g2
  have le := g1.size
  have st := stC
  have k0 := A2.cell 0 (v := .complex .f64 a b) rfl; have k1 := A2.cell 1 (v := .bool f) rfl; have k2 := A2.cell 2 (v := .complex .f64 c d) rfl
  have hv := validC a b f c d
  rw [h] at hv
  go_enter Try.func17, Try.ntmps17
  go_wp2_with (first | (go_at_call 37; refine (hv _).mono ?_; rintro e w4 ⟨rfl, g4⟩; have A4 := A2.kept g4 (by simp); have B4 := B2.kept g4 (by simp); have G4 := gb_trans G2 g4; have l0 := A4.cell 0 (v := .complex .f64 a b) rfl; have l1 := A4.cell 1 (v := .bool f) rfl; have l2 := A4.cell 2 (v := .complex .f64 c d) rfl; have z0 := B4.cell 0 (v := .complex .f64 0 0) rfl; have z1 := B4.cell 1 (v := .bool false) rfl; have z2 := B4.cell 2 (v := .complex .f64 0 0) rfl; have y0 := B4.frozen 0; have y1 := B4.frozen 1; have y2 := B4.frozen 2))
  refine ret_c2 (g := W1.heap.size) (cs := mv 0 0 false 0 0) rfl hfs infoI rfl (bo3 B4) rfl ⟨rfl, gb3 G4 le⟩
theorem back_core (a b b' : Nat) (f : Bool) (c d : Nat) {k : Nat} {x y : Int} (h : May a b f c d k x y) (hb : b' = if f then b else Op.negFloat .f64 b) (w : World) :
    Calls Try.prog 17 #[.agg (mv a b f c d)] w fun e w' => ∃ p q r s, e = .returned (.tuple #[.agg (mv p q f r s), .int .i64 0]) ∧ May p q f r s (back k) (-(lx (back k) x y)) (-(ly (back k) x y)) ∧ Cl p q r s (back k) (-(lx (back k) x y)) (-(ly (back k) x y)) ∧ w.grownBy w' none := by
  obtain ⟨fs, hfs⟩ := underI
  obtain ⟨W1, hW1, sz1, g1, B1⟩ := boxn w (mv a b f c d) 48
  obtain ⟨W2, hW2, sz2, g2, B2⟩ := boxn W1 #[.complex .f64 0 0, .bool false, .complex .f64 0 0] 48
  have A2 := B1.kept g2 (by simp)
  have G2 := gb_trans g1 g2
  have le := g1.size
  have st := stC
  have k0 := A2.cell 0 (v := .complex .f64 a b) rfl; have k1 := A2.cell 1 (v := .bool f) rfl; have k2 := A2.cell 2 (v := .complex .f64 c d) rfl
  have hv := validC a b f c d
  rw [h.v] at hv
  have hU := unsignedC
  have hC := conjC
  have hn := negC
  obtain ⟨b1, b2, b3, b4⟩ := back_tx k h.lt
  have i1 : Is a (tx (back k)) := b1 ▸ h.t1
  have i2 : Is b' (ty (back k)) := by
    rw [b2, hb, h.fl]
    split
    · exact h.t2
    · exact is_neg h.t2
  have hu := unit_t (back k)
  have n1 := near_of h.n1
  have n2 := near_of h.n2
  have hT := turnedC (pl a) (pl b') f 0 0 c d (pl_is i1).1 (pl_is i2).1 h.m1 h.m2 hu.1 hu.2.1 (by omega) (by omega)
  have hfl : f = fl4 (back k) := h.fl.trans b3.symm
  have e1 : tx (back k) * x - ty (back k) * cj f y = lx (back k) x y := by rw [hfl]; rfl
  have e2 : tx (back k) * cj f y + ty (back k) * x = ly (back k) x y := by rw [hfl]; rfl
  rw [e1, e2] at hT
  have hl := l_near (back k) h.n1 h.n2
  have fin : ∀ r s, Is r (lx (back k) x y) → Is s (ly (back k) x y) → May (pl a) (pl b') f (pl (Op.negFloat .f64 r)) (pl (Op.negFloat .f64 s)) (back k) (-(lx (back k) x y)) (-(ly (back k) x y)) ∧ Cl (pl a) (pl b') (pl (Op.negFloat .f64 r)) (pl (Op.negFloat .f64 s)) (back k) (-(lx (back k) x y)) (-(ly (back k) x y)) := by
    intro r s j1 j2
    exact ⟨⟨⟨b4, (pl_is i1).1, (pl_is i2).1, hfl, (pl_is (is_neg j1)).1, (pl_is (is_neg j2)).1⟩, near_neg hl.1, near_neg hl.2⟩, ⟨(pl_is i1).2, (pl_is i2).2, (pl_is (is_neg j1)).2, (pl_is (is_neg j2)).2⟩⟩
  clear i1 i2 hu n1 n2 hfl e1 e2 hl b1 b2 b3 b4 h
  cases f
  · replace hb : b' = Op.negFloat .f64 b := hb
    subst hb
    go_enter Try.func17, Try.ntmps17
    go_wp2_with (first | (go_at_call 37; refine (hv _).mono ?_; rintro e w4 ⟨rfl, g4⟩; have A4 := A2.kept g4 (by simp); have B4 := B2.kept g4 (by simp); have G4 := gb_trans G2 g4; have l0 := A4.cell 0 (v := .complex .f64 a b) rfl; have l1 := A4.cell 1 (v := .bool false) rfl; have l2 := A4.cell 2 (v := .complex .f64 c d) rfl; have z0 := B4.cell 0 (v := .complex .f64 0 0) rfl; have z1 := B4.cell 1 (v := .bool false) rfl; have z2 := B4.cell 2 (v := .complex .f64 0 0) rfl; have y0 := B4.frozen 0; have y1 := B4.frozen 1; have y2 := B4.frozen 2) | (go_at_call 38; refine (hC _ _ _).mono ?_; rintro e w' ⟨rfl, hw'⟩; subst w'))
    have hn1 := World.new_ne w4 ⟨w.heap.size, 0, none⟩ l0
    have hn2 : ¬ w.heap.size = w4.heap.size := fun h => hn1 h.symm
    have hn3 := World.new_ne w4 ⟨W1.heap.size, 0, none⟩ z0
    have HN : Hid (w4.heap.size ≠ W1.heap.size) := hn3
    clear hn3
    go_region_held2 (fun w' => w'.cell? ⟨w.heap.size, 0, none⟩ = some (.complex .f64 a b) ∧ w'.cell? ⟨w.heap.size, 1, none⟩ = some (.bool false) ∧ w'.cell? ⟨w.heap.size, 2, none⟩ = some (.complex .f64 c d)) (go_keep) (first | (go_at_call 39; refine (hU _ _ _).mono ?_; rintro e w' ⟨rfl, hw'⟩; subst w'))
    all_goals obtain ⟨W5, hW5, sz5, g5, B5⟩ := boxn w4 #[.complex .f64 (pl a) (pl (Op.negFloat .f64 b)), .bool false, .complex .f64 (0) (0)] 48
    all_goals have A5 := (A4.kept g5 (by simp)).dr
    all_goals have R5 := (B4.kept g5 (by simp)).dr
    all_goals have D5 := B5.dr
    all_goals have G5 := gb_drew (gb_trans G4 g5)
    all_goals have m0 := A5.cell 0 (v := .complex .f64 a b) rfl; have m1 := A5.cell 1 (v := .bool false) rfl; have m2 := A5.cell 2 (v := .complex .f64 c d) rfl; have n0 := D5.cell 0 (v := .complex .f64 (pl a) (pl (Op.negFloat .f64 b))) rfl; have n1 := D5.cell 1 (v := .bool false) rfl; have n2 := D5.cell 2 (v := .complex .f64 (0) (0)) rfl
    all_goals clear hn1 hn2
    all_goals go_wp2_with (first | (go_at_call 40; refine (hT _).mono ?_; rintro e w6 ⟨r, s, rfl, j1, j2, g6⟩; have B6 := D5.kept g6 (by simp); have R6 := R5.kept g6 (by simp); have G6 := gb_trans G5 g6; have p0 := B6.cell 0 (v := .complex .f64 (pl a) (pl (Op.negFloat .f64 b))) rfl; have p1 := B6.cell 1 (v := .bool false) rfl; have p2 := B6.cell 2 (v := .complex .f64 (0) (0)) rfl; have q0 := B6.frozen 0; have q1 := B6.frozen 1; have q2 := B6.frozen 2; obtain ⟨W7, hW7⟩ : ∃ W7, w6.setCell ⟨w4.heap.size, 2, none⟩ (.complex .f64 (pl (Op.negFloat .f64 r)) (pl (Op.negFloat .f64 s))) = W7 := ⟨_, rfl⟩; have B7 : Bo W7 w4.heap.size 48 #[.complex .f64 (pl a) (pl (Op.negFloat .f64 b)), .bool false, .complex .f64 (pl (Op.negFloat .f64 r)) (pl (Op.negFloat .f64 s))] := hW7 ▸ B6.set 2 _; have R7 : Bo W7 W1.heap.size 48 #[.complex .f64 0 0, .bool false, .complex .f64 0 0] := hW7 ▸ R6.set2 HN.out; have G7 : w.grownBy W7 none := hW7 ▸ gb_new G6 G4.size _; have t0 := B7.cell 0 (v := .complex .f64 (pl a) (pl (Op.negFloat .f64 b))) rfl; have t1 := B7.cell 1 (v := .bool false) rfl; have t2 := B7.cell 2 (v := .complex .f64 (pl (Op.negFloat .f64 r)) (pl (Op.negFloat .f64 s))) rfl; have i0 := R7.cell 0 (v := .complex .f64 0 0) rfl; have i1 := R7.cell 1 (v := .bool false) rfl; have i2 := R7.cell 2 (v := .complex .f64 0 0) rfl; have fz0 := R7.frozen 0; have fz1 := R7.frozen 1; have fz2 := R7.frozen 2) | (go_at_call 39; refine (hU _ _ _).mono ?_; rintro e w' ⟨rfl, hw'⟩; subst w'))
    all_goals refine ret_c2 (g := W1.heap.size) (cs := #[.complex .f64 (pl a) (pl (Op.negFloat .f64 b)), .bool false, .complex .f64 (pl (Op.negFloat .f64 r)) (pl (Op.negFloat .f64 s))]) rfl hfs infoI rfl (bo3 R7) rfl ⟨_, _, _, _, rfl, (fin r s j1 j2).1, (fin r s j1 j2).2, gb3 G7 le⟩
  · replace hb : b' = b := hb
    subst b'
    go_enter Try.func17, Try.ntmps17
    go_wp2_with (first | (go_at_call 37; refine (hv _).mono ?_; rintro e w4 ⟨rfl, g4⟩; have A4 := A2.kept g4 (by simp); have B4 := B2.kept g4 (by simp); have G4 := gb_trans G2 g4; have l0 := A4.cell 0 (v := .complex .f64 a b) rfl; have l1 := A4.cell 1 (v := .bool true) rfl; have l2 := A4.cell 2 (v := .complex .f64 c d) rfl; have z0 := B4.cell 0 (v := .complex .f64 0 0) rfl; have z1 := B4.cell 1 (v := .bool false) rfl; have z2 := B4.cell 2 (v := .complex .f64 0 0) rfl; have y0 := B4.frozen 0; have y1 := B4.frozen 1; have y2 := B4.frozen 2) | (go_at_call 38; refine (hC _ _ _).mono ?_; rintro e w' ⟨rfl, hw'⟩; subst w'))
    have hn1 := World.new_ne w4 ⟨w.heap.size, 0, none⟩ l0
    have hn2 : ¬ w.heap.size = w4.heap.size := fun h => hn1 h.symm
    have hn3 := World.new_ne w4 ⟨W1.heap.size, 0, none⟩ z0
    have HN : Hid (w4.heap.size ≠ W1.heap.size) := hn3
    clear hn3
    go_region_held2 (fun w' => w'.cell? ⟨w.heap.size, 0, none⟩ = some (.complex .f64 a b) ∧ w'.cell? ⟨w.heap.size, 1, none⟩ = some (.bool true) ∧ w'.cell? ⟨w.heap.size, 2, none⟩ = some (.complex .f64 c d)) (go_keep) (first | (go_at_call 39; refine (hU _ _ _).mono ?_; rintro e w' ⟨rfl, hw'⟩; subst w'))
    all_goals obtain ⟨W5, hW5, sz5, g5, B5⟩ := boxn w4 #[.complex .f64 (pl a) (pl (b)), .bool true, .complex .f64 (0) (0)] 48
    all_goals have A5 := (A4.kept g5 (by simp)).dr
    all_goals have R5 := (B4.kept g5 (by simp)).dr
    all_goals have D5 := B5.dr
    all_goals have G5 := gb_drew (gb_trans G4 g5)
    all_goals have m0 := A5.cell 0 (v := .complex .f64 a b) rfl; have m1 := A5.cell 1 (v := .bool true) rfl; have m2 := A5.cell 2 (v := .complex .f64 c d) rfl; have n0 := D5.cell 0 (v := .complex .f64 (pl a) (pl (b))) rfl; have n1 := D5.cell 1 (v := .bool true) rfl; have n2 := D5.cell 2 (v := .complex .f64 (0) (0)) rfl
    all_goals clear hn1 hn2
    all_goals go_wp2_with (first | (go_at_call 40; refine (hT _).mono ?_; rintro e w6 ⟨r, s, rfl, j1, j2, g6⟩; have B6 := D5.kept g6 (by simp); have R6 := R5.kept g6 (by simp); have G6 := gb_trans G5 g6; have p0 := B6.cell 0 (v := .complex .f64 (pl a) (pl (b))) rfl; have p1 := B6.cell 1 (v := .bool true) rfl; have p2 := B6.cell 2 (v := .complex .f64 (0) (0)) rfl; have q0 := B6.frozen 0; have q1 := B6.frozen 1; have q2 := B6.frozen 2; obtain ⟨W7, hW7⟩ : ∃ W7, w6.setCell ⟨w4.heap.size, 2, none⟩ (.complex .f64 (pl (Op.negFloat .f64 r)) (pl (Op.negFloat .f64 s))) = W7 := ⟨_, rfl⟩; have B7 : Bo W7 w4.heap.size 48 #[.complex .f64 (pl a) (pl (b)), .bool true, .complex .f64 (pl (Op.negFloat .f64 r)) (pl (Op.negFloat .f64 s))] := hW7 ▸ B6.set 2 _; have R7 : Bo W7 W1.heap.size 48 #[.complex .f64 0 0, .bool false, .complex .f64 0 0] := hW7 ▸ R6.set2 HN.out; have G7 : w.grownBy W7 none := hW7 ▸ gb_new G6 G4.size _; have t0 := B7.cell 0 (v := .complex .f64 (pl a) (pl (b))) rfl; have t1 := B7.cell 1 (v := .bool true) rfl; have t2 := B7.cell 2 (v := .complex .f64 (pl (Op.negFloat .f64 r)) (pl (Op.negFloat .f64 s))) rfl; have i0 := R7.cell 0 (v := .complex .f64 0 0) rfl; have i1 := R7.cell 1 (v := .bool false) rfl; have i2 := R7.cell 2 (v := .complex .f64 0 0) rfl; have fz0 := R7.frozen 0; have fz1 := R7.frozen 1; have fz2 := R7.frozen 2) | (go_at_call 39; refine (hU _ _ _).mono ?_; rintro e w' ⟨rfl, hw'⟩; subst w'))
    all_goals refine ret_c2 (g := W1.heap.size) (cs := #[.complex .f64 (pl a) (pl (b)), .bool true, .complex .f64 (pl (Op.negFloat .f64 r)) (pl (Op.negFloat .f64 s))]) rfl hfs infoI rfl (bo3 R7) rfl ⟨_, _, _, _, rfl, (fin r s j1 j2).1, (fin r s j1 j2).2, gb3 G7 le⟩

theorem backYes (a b : Nat) (f : Bool) (c d : Nat) {k : Nat} {x y : Int} (h : May a b f c d k x y) (w : World) :
    Calls Try.prog 17 #[.agg (mv a b f c d)] w fun e w' => ∃ p q r s, e = .returned (.tuple #[.agg (mv p q f r s), .int .i64 0]) ∧ May p q f r s (back k) (-(lx (back k) x y)) (-(ly (back k) x y)) ∧ Cl p q r s (back k) (-(lx (back k) x y)) (-(ly (back k) x y)) ∧ w.grownBy w' none :=
  back_core a b _ f c d h rfl w
end Go.Proofs.Ytgiiaokkmnjckab
