/- Maps one behind the other, however far; which may be; linear parts and their numbers; maps that move. -/
import Derived.Test.YtgiiaokkmnjckabIz
import Derived.Deep.RegionHeld2
namespace Go.Proofs.Ytgiiaokkmnjckab
open Go.RowKit
open Fl
set_option linter.unusedVariables false
set_option linter.unusedSimpArgs false
set_option maxRecDepth 100000

theorem underI : ∃ fs, Try.prog.underlying 48 = some (.struct fs) := by
  first | exact ⟨_, Try.underlying48⟩ | exact ⟨_, by kernel_rfl⟩
theorem infoI : (Try.prog.info? 48).map (·.size) = some 3 := by kernel_rfl
theorem bo3 {w : World} {g : Nat} {t : TypeId} {x y z u v p : Value} (h : Bo w g t #[x, y, z]) : Bo (((w.setCell ⟨g, 0, none⟩ u).setCell ⟨g, 1, none⟩ v).setCell ⟨g, 2, none⟩ p) g t #[u, v, p] := ((h.set 0 u).set 1 v).set 2 p
theorem gb3 {w w' : World} (h : w.grownBy w' none) {b : Nat} (hb : w.heap.size ≤ b) {u v p : Value} : w.grownBy (((w'.setCell ⟨b, 0, none⟩ u).setCell ⟨b, 1, none⟩ v).setCell ⟨b, 2, none⟩ p) none := gb_new (gb_new (gb_new h hb _) hb _) hb _

theorem validC (a b : Nat) (f : Bool) (c d : Nat) (w : World) : Calls Try.prog 37 #[.agg (mv a b f c d)] w fun e w' => e = .returned (.bool (vB a b c d)) ∧ w.grownBy w' none := by
  obtain ⟨W1, hW1, sz1, g1, B1⟩ := boxn w (mv a b f c d) 48
  have c0 := B1.cell 0 (v := .complex .f64 a b) rfl; have c1 := B1.cell 1 (v := .bool f) rfl; have c2 := B1.cell 2 (v := .complex .f64 c d) rfl
  have hp := isPlaceC
  unfold vB
  by_cases h : Tu a b
  · rw [tu_yes h]
    obtain ⟨q, hq, i1, i2⟩ := h
    have hh := quarterYes a b q hq i1 i2
    clear i1 i2 hq
    go_enter Try.func37, Try.ntmps37
    go_wp2_with (first | (go_at_call 60; refine (hh _).mono ?_; rintro e w2 ⟨rfl, g2⟩; have d2 := (B1.kept g2 (by simp)).cell 2 (v := .complex .f64 c d) rfl) | (go_at_call 44; refine (hp _ _ _).mono ?_; rintro e w' ⟨rfl, hw'⟩; subst w'))
    go_ret
    exact ⟨rfl, gb_trans g1 g2⟩
  · rw [tu_no h]
    have hh := quarterNo a b h
    clear h
    go_enter Try.func37, Try.ntmps37
    go_wp2_with (first | (go_at_call 60; refine (hh _).mono ?_; rintro e w2 ⟨rfl, g2⟩; have d2 := (B1.kept g2 (by simp)).cell 2 (v := .complex .f64 c d) rfl) | (go_at_call 44; refine (hp _ _ _).mono ?_; rintro e w' ⟨rfl, hw'⟩; subst w'))
    go_ret
    exact ⟨rfl, gb_trans g1 g2⟩

set_option maxHeartbeats 1000000 in
theorem joinC (a b : Nat) (f : Bool) (c d a2 b2 : Nat) (f2 : Bool) (c2 d2 : Nat) {k l : Nat} {x y u v : Int} (h1 : May a b f c d k x y) (h2 : May a2 b2 f2 c2 d2 l u v) (w : World) :
    Calls Try.prog 73 #[.agg (mv a b f c d), .agg (mv a2 b2 f2 c2 d2)] w fun e w' => ∃ p q r s, e = .returned (.agg (mv p q (f != f2) r s)) ∧ Mp p q (f != f2) r s (both k l) (lx l x y + u) (ly l x y + v) ∧ Cl p q r s (both k l) (lx l x y + u) (ly l x y + v) ∧ w.grownBy w' none := by
  obtain ⟨fs, hfs⟩ := underI
  obtain ⟨W1, hW1, sz1, g1, B1⟩ := boxn w (mv a b f c d) 48
  obtain ⟨W2, hW2, sz2, g2, B2⟩ := boxn W1 (mv a2 b2 f2 c2 d2) 48
  obtain ⟨W3, hW3, sz3, g3, B3⟩ := boxn W2 #[.complex .f64 0 0, .bool false, .complex .f64 0 0] 48
  have G3 := gb_trans (gb_trans g1 g2) g3
  have A3 := (B1.kept g2 (by simp)).kept g3 (by simp)
  have C3 := B2.kept g3 (by simp)
  have st := stC
  have hu := unit_t l
  have hk := unit_t k
  have n1 := near_of h1.n1
  have n2 := near_of h1.n2
  have n3 := near_of h2.n1
  have n4 := near_of h2.n2
  have hT := turnedC a2 b2 f2 c2 d2 a b h2.t1 h2.t2 h1.t1 h1.t2 hu.1 hu.2.1 (by rcases hk.1 with q | q | q <;> rw [q] <;> decide) (by rcases hk.2.1 with q | q | q <;> rw [q] <;> decide)
  have hM := movedC a2 b2 f2 c2 d2 c d h2.t1 h2.t2 h1.m1 h1.m2 h2.m1 h2.m2 hu.1 hu.2.1 (by omega) (by omega) (by omega) (by omega)
  have hb := both_tx k h1.lt l h2.lt
  have hf : (f != f2) = (fl4 k != fl4 l) := by rw [h1.fl, h2.fl]
  clear hu hk n1 n2 n3 n4
  have h2f : Hid (f2 = fl4 l) := h2.fl
  replace hf : Hid ((f != f2) = (fl4 k != fl4 l)) := hf
  clear h1 h2
  have hU := unsignedC
  have k0 := A3.cell 0 (v := .complex .f64 a b) rfl; have k1 := A3.cell 1 (v := .bool f) rfl; have k2 := A3.cell 2 (v := .complex .f64 c d) rfl
  have e0 := C3.cell 0 (v := (.complex .f64 a2 b2)) rfl; have e1 := C3.cell 1 (v := (.bool f2)) rfl; have e2 := C3.cell 2 (v := (.complex .f64 c2 d2)) rfl
  have z0 := B3.cell 0 (v := .complex .f64 0 0) rfl; have z1 := B3.cell 1 (v := .bool false) rfl; have z2 := B3.cell 2 (v := .complex .f64 0 0) rfl
  have y0 := B3.frozen 0; have y1 := B3.frozen 1; have y2 := B3.frozen 2
  go_enter Try.func73, Try.ntmps73
  go_wp2
  have hn1 : ¬ W2.heap.size = w.heap.size := by have := sz1.out; have := sz2.out; omega
  have hn2 : ¬ w.heap.size = W2.heap.size := by have := sz1.out; have := sz2.out; omega
  have hn3 : ¬ W2.heap.size = W1.heap.size := by have := sz2.out; omega
  have hn4 : ¬ W1.heap.size = W2.heap.size := by have := sz2.out; omega
  go_region_held2 (fun w' => w'.cell? ⟨w.heap.size, 0, none⟩ = some (.complex .f64 a b) ∧ w'.cell? ⟨w.heap.size, 1, none⟩ = some (.bool f) ∧ w'.cell? ⟨w.heap.size, 2, none⟩ = some (.complex .f64 c d) ∧ w'.cell? ⟨W1.heap.size, 0, none⟩ = some ((.complex .f64 a2 b2)) ∧ w'.cell? ⟨W1.heap.size, 1, none⟩ = some ((.bool f2)) ∧ w'.cell? ⟨W1.heap.size, 2, none⟩ = some ((.complex .f64 c2 d2))) (go_keep) (first | (go_at_call 40; refine (hT _).mono ?_; rintro e w4 ⟨p, q, rfl, i1, i2, g4⟩; have A4 := A3.dr.kept g4 (by simp); have C4 := C3.dr.kept g4 (by simp); have B4 := B3.dr.kept g4 (by simp); have G4 := gb_trans (gb_drew G3) g4; have l0 := A4.cell 0 (v := .complex .f64 a b) rfl; have l1 := A4.cell 1 (v := .bool f) rfl; have l2 := A4.cell 2 (v := .complex .f64 c d) rfl; have m0 := C4.cell 0 (v := (.complex .f64 a2 b2)) rfl; have m1 := C4.cell 1 (v := (.bool f2)) rfl; have m2 := C4.cell 2 (v := (.complex .f64 c2 d2)) rfl) | (go_at_call 39; refine (hU _ _ _).mono ?_; rintro e w' ⟨rfl, hw'⟩; subst w') | (go_at_call 42; refine (hM _).mono ?_; rintro e w5 ⟨r, s, rfl, j1, j2, g5⟩; have A5 := A4.kept g5 (by simp); have C5 := C4.kept g5 (by simp); have B5 := B4.kept g5 (by simp); have G5 := gb_trans G4 g5; have n0 := A5.cell 0 (v := .complex .f64 a b) rfl; have n1 := A5.cell 1 (v := .bool f) rfl; have n2 := A5.cell 2 (v := .complex .f64 c d) rfl; have o0 := C5.cell 0 (v := (.complex .f64 a2 b2)) rfl; have o1 := C5.cell 1 (v := (.bool f2)) rfl; have o2 := C5.cell 2 (v := (.complex .f64 c2 d2)) rfl; have u0 := B5.cell 0 (v := .complex .f64 0 0) rfl; have u1 := B5.cell 1 (v := .bool false) rfl; have u2 := B5.cell 2 (v := .complex .f64 0 0) rfl; have v0 := B5.frozen 0; have v1 := B5.frozen 1; have v2 := B5.frozen 2))
  all_goals go_wp2
  all_goals refine ret_c1 (g := W2.heap.size) (cs := mv (pl p) (pl q) (f != f2) (pl r) (pl s)) rfl hfs infoI rfl (bo3 B5) rfl ⟨_, _, _, _, rfl, ?_, ?_, gb3 G5 (gb_trans g1 g2).size⟩
  all_goals have e1 : tx l * tx k - ty l * cj f2 (ty k) = tx (both k l) := by rw [h2f.out]; exact hb.1
  all_goals have e2 : tx l * cj f2 (ty k) + ty l * tx k = ty (both k l) := by rw [h2f.out]; exact hb.2.1
  all_goals have e3 : tx l * x - ty l * cj f2 y + u = lx l x y + u := by rw [h2f.out]; rfl
  all_goals have e4 : tx l * cj f2 y + ty l * x + v = ly l x y + v := by rw [h2f.out]; rfl
  all_goals rw [e1] at i1
  all_goals rw [e2] at i2
  all_goals rw [e3] at j1
  all_goals rw [e4] at j2
  · exact ⟨hb.2.2.2, (pl_is i1).1, (pl_is i2).1, hf.out.trans hb.2.2.1.symm, (pl_is j1).1, (pl_is j2).1⟩
  · exact ⟨(pl_is i1).2, (pl_is i2).2, (pl_is j1).2, (pl_is j2).2⟩

/-- The words of the eight linear parts. -/
def pa (k : Nat) : Nat := if k % 4 = 0 then 4607182418800017408 else if k % 4 = 2 then 13830554455654793216 else 0
def pb (k : Nat) : Nat := if k % 4 = 1 then 4607182418800017408 else if k % 4 = 3 then 13830554455654793216 else 0
theorem part_may (k : Nat) (h : k < 8) : May (pa k) (pb k) (fl4 k) 0 0 k 0 0 ∧ Cl (pa k) (pb k) 0 0 k 0 0 := by
  have h0 : nearB 0 = true := rfl
  refine ⟨⟨⟨h, ?_, ?_, rfl, is0, is0⟩, h0, h0⟩, ⟨?_, ?_, fun _ => rfl, fun _ => rfl⟩⟩
  · unfold pa tx; split
    · exact is1
    · split
      · exact isM1
      · exact is0
  · unfold pb ty; split
    · exact is1
    · split
      · exact isM1
      · exact is0
  · unfold pa tx; split
    · intro q; exact absurd q (by decide)
    · split
      · intro q; exact absurd q (by decide)
      · exact fun _ => rfl
  · unfold pb ty; split
    · intro q; exact absurd q (by decide)
    · split
      · intro q; exact absurd q (by decide)
      · exact fun _ => rfl
theorem partNo (n : Int) (h : n < 0 ∨ 7 < n) (w : World) : Calls Try.prog 74 #[.int .i64 n] w fun e w' => e = .returned (.tuple #[.agg (mv 0 0 false 0 0), .int .i64 2]) ∧ w.grownBy w' none := by
  obtain ⟨fs, hfs⟩ := underI
  obtain ⟨W1, hW1, sz1, g1, B1⟩ := boxn w #[.complex .f64 0 0, .bool false, .complex .f64 0 0] 48
  have st := stC
  have c0 := B1.cell 0 (v := .complex .f64 0 0) rfl; have c1 := B1.cell 1 (v := .bool false) rfl; have c2 := B1.cell 2 (v := .complex .f64 0 0) rfl
  have y0 := B1.frozen 0; have y1 := B1.frozen 1; have y2 := B1.frozen 2
  rcases h with h | h
  all_goals
    go_enter Try.func74, Try.ntmps74
    go_wp2
    refine ret_c2 (g := w.heap.size) (cs := mv 0 0 false 0 0) rfl hfs infoI rfl (bo3 B1) rfl ⟨rfl, gb3 g1 (Nat.le_refl _)⟩

theorem part0 (w : World) : Calls Try.prog 74 #[.int .i64 0] w fun e w' => e = .returned (.tuple #[.agg (mv 4607182418800017408 0 false 0 0), .int .i64 0]) ∧ w.grownBy w' none := by
  obtain ⟨fs, hfs⟩ := underI
  obtain ⟨W1, hW1, sz1, g1, B1⟩ := boxn w #[.complex .f64 0 0, .bool false, .complex .f64 0 0] 48
  have st := stC
  have c0 := B1.cell 0 (v := .complex .f64 0 0) rfl; have c1 := B1.cell 1 (v := .bool false) rfl; have c2 := B1.cell 2 (v := .complex .f64 0 0) rfl
  have y0 := B1.frozen 0; have y1 := B1.frozen 1; have y2 := B1.frozen 2
  have i0 := ix0
  go_enter Try.func74, Try.ntmps74
  go_wp2_with (first | (go_at_call 75; refine (turnsC _).mono ?_; rintro e w2 ⟨rfl, g2⟩; have B2 := B1.kept g2 (by simp); have d0 := B2.cell 0 (v := .complex .f64 0 0) rfl; have d1 := B2.cell 1 (v := .bool false) rfl; have d2 := B2.cell 2 (v := .complex .f64 0 0) rfl; have z0 := B2.frozen 0; have z1 := B2.frozen 1; have z2 := B2.frozen 2))
  refine ret_c2 (g := w.heap.size) (cs := mv 4607182418800017408 0 false 0 0) rfl hfs infoI rfl (bo3 B2) rfl ⟨rfl, gb3 (gb_trans g1 g2) (Nat.le_refl _)⟩

theorem part1 (w : World) : Calls Try.prog 74 #[.int .i64 1] w fun e w' => e = .returned (.tuple #[.agg (mv 0 4607182418800017408 false 0 0), .int .i64 0]) ∧ w.grownBy w' none := by
  obtain ⟨fs, hfs⟩ := underI
  obtain ⟨W1, hW1, sz1, g1, B1⟩ := boxn w #[.complex .f64 0 0, .bool false, .complex .f64 0 0] 48
  have st := stC
  have c0 := B1.cell 0 (v := .complex .f64 0 0) rfl; have c1 := B1.cell 1 (v := .bool false) rfl; have c2 := B1.cell 2 (v := .complex .f64 0 0) rfl
  have y0 := B1.frozen 0; have y1 := B1.frozen 1; have y2 := B1.frozen 2
  have i1 := ix1
  go_enter Try.func74, Try.ntmps74
  go_wp2_with (first | (go_at_call 75; refine (turnsC _).mono ?_; rintro e w2 ⟨rfl, g2⟩; have B2 := B1.kept g2 (by simp); have d0 := B2.cell 0 (v := .complex .f64 0 0) rfl; have d1 := B2.cell 1 (v := .bool false) rfl; have d2 := B2.cell 2 (v := .complex .f64 0 0) rfl; have z0 := B2.frozen 0; have z1 := B2.frozen 1; have z2 := B2.frozen 2))
  refine ret_c2 (g := w.heap.size) (cs := mv 0 4607182418800017408 false 0 0) rfl hfs infoI rfl (bo3 B2) rfl ⟨rfl, gb3 (gb_trans g1 g2) (Nat.le_refl _)⟩

theorem part2 (w : World) : Calls Try.prog 74 #[.int .i64 2] w fun e w' => e = .returned (.tuple #[.agg (mv 13830554455654793216 0 false 0 0), .int .i64 0]) ∧ w.grownBy w' none := by
  obtain ⟨fs, hfs⟩ := underI
  obtain ⟨W1, hW1, sz1, g1, B1⟩ := boxn w #[.complex .f64 0 0, .bool false, .complex .f64 0 0] 48
  have st := stC
  have c0 := B1.cell 0 (v := .complex .f64 0 0) rfl; have c1 := B1.cell 1 (v := .bool false) rfl; have c2 := B1.cell 2 (v := .complex .f64 0 0) rfl
  have y0 := B1.frozen 0; have y1 := B1.frozen 1; have y2 := B1.frozen 2
  have i2 := ix2
  go_enter Try.func74, Try.ntmps74
  go_wp2_with (first | (go_at_call 75; refine (turnsC _).mono ?_; rintro e w2 ⟨rfl, g2⟩; have B2 := B1.kept g2 (by simp); have d0 := B2.cell 0 (v := .complex .f64 0 0) rfl; have d1 := B2.cell 1 (v := .bool false) rfl; have d2 := B2.cell 2 (v := .complex .f64 0 0) rfl; have z0 := B2.frozen 0; have z1 := B2.frozen 1; have z2 := B2.frozen 2))
  refine ret_c2 (g := w.heap.size) (cs := mv 13830554455654793216 0 false 0 0) rfl hfs infoI rfl (bo3 B2) rfl ⟨rfl, gb3 (gb_trans g1 g2) (Nat.le_refl _)⟩

theorem part3 (w : World) : Calls Try.prog 74 #[.int .i64 3] w fun e w' => e = .returned (.tuple #[.agg (mv 0 13830554455654793216 false 0 0), .int .i64 0]) ∧ w.grownBy w' none := by
  obtain ⟨fs, hfs⟩ := underI
  obtain ⟨W1, hW1, sz1, g1, B1⟩ := boxn w #[.complex .f64 0 0, .bool false, .complex .f64 0 0] 48
  have st := stC
  have c0 := B1.cell 0 (v := .complex .f64 0 0) rfl; have c1 := B1.cell 1 (v := .bool false) rfl; have c2 := B1.cell 2 (v := .complex .f64 0 0) rfl
  have y0 := B1.frozen 0; have y1 := B1.frozen 1; have y2 := B1.frozen 2
  have i3 := ix3
  go_enter Try.func74, Try.ntmps74
  go_wp2_with (first | (go_at_call 75; refine (turnsC _).mono ?_; rintro e w2 ⟨rfl, g2⟩; have B2 := B1.kept g2 (by simp); have d0 := B2.cell 0 (v := .complex .f64 0 0) rfl; have d1 := B2.cell 1 (v := .bool false) rfl; have d2 := B2.cell 2 (v := .complex .f64 0 0) rfl; have z0 := B2.frozen 0; have z1 := B2.frozen 1; have z2 := B2.frozen 2))
  refine ret_c2 (g := w.heap.size) (cs := mv 0 13830554455654793216 false 0 0) rfl hfs infoI rfl (bo3 B2) rfl ⟨rfl, gb3 (gb_trans g1 g2) (Nat.le_refl _)⟩

theorem part4 (w : World) : Calls Try.prog 74 #[.int .i64 4] w fun e w' => e = .returned (.tuple #[.agg (mv 4607182418800017408 0 true 0 0), .int .i64 0]) ∧ w.grownBy w' none := by
  obtain ⟨fs, hfs⟩ := underI
  obtain ⟨W1, hW1, sz1, g1, B1⟩ := boxn w #[.complex .f64 0 0, .bool false, .complex .f64 0 0] 48
  have st := stC
  have c0 := B1.cell 0 (v := .complex .f64 0 0) rfl; have c1 := B1.cell 1 (v := .bool false) rfl; have c2 := B1.cell 2 (v := .complex .f64 0 0) rfl
  have y0 := B1.frozen 0; have y1 := B1.frozen 1; have y2 := B1.frozen 2
  have i0 := ix0
  go_enter Try.func74, Try.ntmps74
  go_wp2_with (first | (go_at_call 75; refine (turnsC _).mono ?_; rintro e w2 ⟨rfl, g2⟩; have B2 := B1.kept g2 (by simp); have d0 := B2.cell 0 (v := .complex .f64 0 0) rfl; have d1 := B2.cell 1 (v := .bool false) rfl; have d2 := B2.cell 2 (v := .complex .f64 0 0) rfl; have z0 := B2.frozen 0; have z1 := B2.frozen 1; have z2 := B2.frozen 2))
  refine ret_c2 (g := w.heap.size) (cs := mv 4607182418800017408 0 true 0 0) rfl hfs infoI rfl (bo3 B2) rfl ⟨rfl, gb3 (gb_trans g1 g2) (Nat.le_refl _)⟩

theorem part5 (w : World) : Calls Try.prog 74 #[.int .i64 5] w fun e w' => e = .returned (.tuple #[.agg (mv 0 4607182418800017408 true 0 0), .int .i64 0]) ∧ w.grownBy w' none := by
  obtain ⟨fs, hfs⟩ := underI
  obtain ⟨W1, hW1, sz1, g1, B1⟩ := boxn w #[.complex .f64 0 0, .bool false, .complex .f64 0 0] 48
  have st := stC
  have c0 := B1.cell 0 (v := .complex .f64 0 0) rfl; have c1 := B1.cell 1 (v := .bool false) rfl; have c2 := B1.cell 2 (v := .complex .f64 0 0) rfl
  have y0 := B1.frozen 0; have y1 := B1.frozen 1; have y2 := B1.frozen 2
  have i1 := ix1
  go_enter Try.func74, Try.ntmps74
  go_wp2_with (first | (go_at_call 75; refine (turnsC _).mono ?_; rintro e w2 ⟨rfl, g2⟩; have B2 := B1.kept g2 (by simp); have d0 := B2.cell 0 (v := .complex .f64 0 0) rfl; have d1 := B2.cell 1 (v := .bool false) rfl; have d2 := B2.cell 2 (v := .complex .f64 0 0) rfl; have z0 := B2.frozen 0; have z1 := B2.frozen 1; have z2 := B2.frozen 2))
  refine ret_c2 (g := w.heap.size) (cs := mv 0 4607182418800017408 true 0 0) rfl hfs infoI rfl (bo3 B2) rfl ⟨rfl, gb3 (gb_trans g1 g2) (Nat.le_refl _)⟩

theorem part6 (w : World) : Calls Try.prog 74 #[.int .i64 6] w fun e w' => e = .returned (.tuple #[.agg (mv 13830554455654793216 0 true 0 0), .int .i64 0]) ∧ w.grownBy w' none := by
  obtain ⟨fs, hfs⟩ := underI
  obtain ⟨W1, hW1, sz1, g1, B1⟩ := boxn w #[.complex .f64 0 0, .bool false, .complex .f64 0 0] 48
  have st := stC
  have c0 := B1.cell 0 (v := .complex .f64 0 0) rfl; have c1 := B1.cell 1 (v := .bool false) rfl; have c2 := B1.cell 2 (v := .complex .f64 0 0) rfl
  have y0 := B1.frozen 0; have y1 := B1.frozen 1; have y2 := B1.frozen 2
  have i2 := ix2
  go_enter Try.func74, Try.ntmps74
  go_wp2_with (first | (go_at_call 75; refine (turnsC _).mono ?_; rintro e w2 ⟨rfl, g2⟩; have B2 := B1.kept g2 (by simp); have d0 := B2.cell 0 (v := .complex .f64 0 0) rfl; have d1 := B2.cell 1 (v := .bool false) rfl; have d2 := B2.cell 2 (v := .complex .f64 0 0) rfl; have z0 := B2.frozen 0; have z1 := B2.frozen 1; have z2 := B2.frozen 2))
  refine ret_c2 (g := w.heap.size) (cs := mv 13830554455654793216 0 true 0 0) rfl hfs infoI rfl (bo3 B2) rfl ⟨rfl, gb3 (gb_trans g1 g2) (Nat.le_refl _)⟩

theorem part7 (w : World) : Calls Try.prog 74 #[.int .i64 7] w fun e w' => e = .returned (.tuple #[.agg (mv 0 13830554455654793216 true 0 0), .int .i64 0]) ∧ w.grownBy w' none := by
  obtain ⟨fs, hfs⟩ := underI
  obtain ⟨W1, hW1, sz1, g1, B1⟩ := boxn w #[.complex .f64 0 0, .bool false, .complex .f64 0 0] 48
  have st := stC
  have c0 := B1.cell 0 (v := .complex .f64 0 0) rfl; have c1 := B1.cell 1 (v := .bool false) rfl; have c2 := B1.cell 2 (v := .complex .f64 0 0) rfl
  have y0 := B1.frozen 0; have y1 := B1.frozen 1; have y2 := B1.frozen 2
  have i3 := ix3
  go_enter Try.func74, Try.ntmps74
  go_wp2_with (first | (go_at_call 75; refine (turnsC _).mono ?_; rintro e w2 ⟨rfl, g2⟩; have B2 := B1.kept g2 (by simp); have d0 := B2.cell 0 (v := .complex .f64 0 0) rfl; have d1 := B2.cell 1 (v := .bool false) rfl; have d2 := B2.cell 2 (v := .complex .f64 0 0) rfl; have z0 := B2.frozen 0; have z1 := B2.frozen 1; have z2 := B2.frozen 2))
  refine ret_c2 (g := w.heap.size) (cs := mv 0 13830554455654793216 true 0 0) rfl hfs infoI rfl (bo3 B2) rfl ⟨rfl, gb3 (gb_trans g1 g2) (Nat.le_refl _)⟩

theorem partYes (k : Nat) (h : k < 8) (w : World) : Calls Try.prog 74 #[.int .i64 k] w fun e w' => e = .returned (.tuple #[.agg (mv (pa k) (pb k) (fl4 k) 0 0), .int .i64 0]) ∧ w.grownBy w' none := by
  obtain rfl | rfl | rfl | rfl | rfl | rfl | rfl | rfl : k = 0 ∨ k = 1 ∨ k = 2 ∨ k = 3 ∨ k = 4 ∨ k = 5 ∨ k = 6 ∨ k = 7 := by omega
  · exact part0 w
  · exact part1 w
  · exact part2 w
  · exact part3 w
  · exact part4 w
  · exact part5 w
  · exact part6 w
  · exact part7 w

theorem whichNo (a b : Nat) (f : Bool) (c d : Nat) (h : vB a b c d = false) (w : World) : Calls Try.prog 64 #[.agg (mv a b f c d)] w fun e w' => e = .returned (.tuple #[.int .i64 0, .int .i64 50]) ∧ w.grownBy w' none := by
  obtain ⟨W1, hW1, sz1, g1, B1⟩ := boxn w (mv a b f c d) 48
  have c0 := B1.cell 0 (v := .complex .f64 a b) rfl; have c1 := B1.cell 1 (v := .bool f) rfl; have c2 := B1.cell 2 (v := .complex .f64 c d) rfl
  have hv := validC a b f c d
  rw [h] at hv
  go_enter Try.func64, Try.ntmps64
  go_wp2_with (first | (go_at_call 37; refine (hv _).mono ?_; rintro e w2 ⟨rfl, g2⟩))
  go_ret2
  exact ⟨rfl, gb_trans g1 g2⟩
theorem whichYes (a b : Nat) (f : Bool) (c d : Nat) {k : Nat} {x y : Int} (h : May a b f c d k x y) (w : World) : Calls Try.prog 64 #[.agg (mv a b f c d)] w fun e w' => e = .returned (.tuple #[.int .i64 k, .int .i64 0]) ∧ w.grownBy w' none := by
  obtain ⟨W1, hW1, sz1, g1, B1⟩ := boxn w (mv a b f c d) 48
  have c0 := B1.cell 0 (v := .complex .f64 a b) rfl; have c1 := B1.cell 1 (v := .bool f) rfl; have c2 := B1.cell 2 (v := .complex .f64 c d) rfl
  have hv := validC a b f c d
  rw [h.v] at hv
  have hq := quarterYes a b (k % 4) (by omega) ((tx_mod k).1 ▸ h.t1) ((tx_mod k).2 ▸ h.t2)
  have hk := h.lt
  have hf := h.fl
  clear h
  obtain ⟨q, hqe⟩ : ∃ q : Int, ((k % 4 : Nat) : Int) = q := ⟨_, rfl⟩
  rw [hqe] at hq
  have hqb : 0 ≤ q ∧ q ≤ 3 := by omega
  have HQ : Hid ((k : Int) = if f then q + 4 else q) := by
    unfold Hid
    rw [hf]
    unfold fl4
    by_cases h4 : 4 ≤ k
    · rw [decide_eq_true h4]; simp; omega
    · rw [decide_eq_false h4]; simp; omega
  clear hf hqe
  cases f
  all_goals
    have hq1 := hqb.1
    have hq2 := hqb.2
    go_enter Try.func64, Try.ntmps64
    go_wp2_with (first | (go_at_call 37; refine (hv _).mono ?_; rintro e w2 ⟨rfl, g2⟩; have B2 := B1.kept g2 (by simp); have d0 := B2.cell 0 (v := .complex .f64 a b) rfl; have d1 := B2.cell 1 (v := _) rfl; have d2 := B2.cell 2 (v := .complex .f64 c d) rfl) | (go_at_call 60; refine (hq _).mono ?_; rintro e w3 ⟨rfl, g3⟩; have B3 := B2.kept g3 (by simp); have e0 := B3.cell 0 (v := .complex .f64 a b) rfl; have e1 := B3.cell 1 (v := _) rfl; have e2 := B3.cell 2 (v := .complex .f64 c d) rfl))
    go_ret2
    rw [HQ.out]
    exact ⟨rfl, gb_trans (gb_trans g1 g2) g3⟩

theorem shiftNo (x y : Int) (h : (nearB x && nearB y) = false) (w : World) : Calls Try.prog 57 #[.int .i64 x, .int .i64 y] w fun e w' => e = .returned (.tuple #[.agg (mv 0 0 false 0 0), .int .i64 5]) ∧ w.grownBy w' none := by
  obtain ⟨fs, hfs⟩ := underI
  obtain ⟨W1, hW1, sz1, g1, B1⟩ := boxn w #[.complex .f64 0 0, .bool false, .complex .f64 0 0] 48
  have st := stC
  have c0 := B1.cell 0 (v := .complex .f64 0 0) rfl; have c1 := B1.cell 1 (v := .bool false) rfl; have c2 := B1.cell 2 (v := .complex .f64 0 0) rfl
  have y0 := B1.frozen 0; have y1 := B1.frozen 1; have y2 := B1.frozen 2
  have hi := fun n => isFarC n
  simp only [far_near] at hi
  cases hx : nearB x
  · go_enter Try.func57, Try.ntmps57
    go_wp2_with (first | (go_at_call 41; refine (hi _ _).mono ?_; rintro e w' ⟨rfl, hw'⟩; subst w'))
    refine ret_c2 (g := w.heap.size) (cs := mv 0 0 false 0 0) rfl hfs infoI rfl (bo3 B1) rfl ⟨rfl, gb3 g1 (Nat.le_refl _)⟩
  · have hy : nearB y = false := by rw [hx] at h; exact h
    clear h
    go_enter Try.func57, Try.ntmps57
    go_wp2_with (first | (go_at_call 41; refine (hi _ _).mono ?_; rintro e w' ⟨rfl, hw'⟩; subst w'))
    refine ret_c2 (g := w.heap.size) (cs := mv 0 0 false 0 0) rfl hfs infoI rfl (bo3 B1) rfl ⟨rfl, gb3 g1 (Nat.le_refl _)⟩
theorem shiftYes (x y : Int) (hx : nearB x = true) (hy : nearB y = true) (w : World) : Calls Try.prog 57 #[.int .i64 x, .int .i64 y] w fun e w' => e = .returned (.tuple #[.agg (mv 4607182418800017408 0 false (floatOfInt .f64 x) (floatOfInt .f64 y)), .int .i64 0]) ∧ w.grownBy w' none := by
  obtain ⟨fs, hfs⟩ := underI
  obtain ⟨W1, hW1, sz1, g1, B1⟩ := boxn w #[.complex .f64 0 0, .bool false, .complex .f64 0 0] 48
  have st := stC
  have c0 := B1.cell 0 (v := .complex .f64 0 0) rfl; have c1 := B1.cell 1 (v := .bool false) rfl; have c2 := B1.cell 2 (v := .complex .f64 0 0) rfl
  have y0 := B1.frozen 0; have y1 := B1.frozen 1; have y2 := B1.frozen 2
  have hi := fun n => isFarC n
  simp only [far_near] at hi
  go_enter Try.func57, Try.ntmps57
  go_wp2_with (first | (go_at_call 41; refine (hi _ _).mono ?_; rintro e w' ⟨rfl, hw'⟩; subst w') | (go_at_call 43; refine (numberC _ _ _).mono ?_; rintro e w' ⟨rfl, hw'⟩; subst w'))
  refine ret_c2 (g := w.heap.size) (cs := mv 4607182418800017408 0 false (floatOfInt .f64 x) (floatOfInt .f64 y)) rfl hfs infoI rfl (bo3 B1) rfl ⟨rfl, gb3 g1 (Nat.le_refl _)⟩
theorem fl0 : floatOfInt .f64 0 = 0 := by decide
theorem shift_may (x y : Int) (hx : nearB x = true) (hy : nearB y = true) : May 4607182418800017408 0 false (floatOfInt .f64 x) (floatOfInt .f64 y) 0 x y ∧ Cl 4607182418800017408 0 (floatOfInt .f64 x) (floatOfInt .f64 y) 0 x y := by
  have h1 := near_of hx
  have h2 := near_of hy
  refine ⟨⟨⟨by decide, is1, is0, rfl, is_fl (by omega), is_fl (by omega)⟩, hx, hy⟩, ⟨fun q => absurd q (by decide), fun _ => rfl, fun q => ?_, fun q => ?_⟩⟩
  · subst q; exact fl0
  · subst q; exact fl0
end Go.Proofs.Ytgiiaokkmnjckab
