/- Glue of a glued grid, in whole numbers. -/
import Derived.Test.YtgiiaokkmnjckabF36
import Derived.Test.YtgiiaokkmnjckabF39
import Derived.Test.YtgiiaokkmnjckabF30
import Derived.Test.YtgiiaokkmnjckabF10t
namespace Go.Proofs.Ytgiiaokkmnjckab
open Go.RowKit
open Fl
set_option linter.unusedVariables false
set_option linter.unusedSimpArgs false
set_option maxRecDepth 100000

theorem mapP0 (k x y t z : Int) (X1 Y1 : Int) (hx : 0 ≤ x ∧ x ≤ 65536) (hy : 0 ≤ y ∧ y ≤ 65536) (hX1 : -262144 ≤ X1 ∧ X1 ≤ 262144) (hY1 : -262144 ≤ Y1 ∧ Y1 ≤ 262144) (w : World) :
    Calls Try.prog 34 #[.agg #[.int .u8 k, .int .i64 x, .int .i64 y, .int .u8 t, .int .i64 z, .int .i64 (To.fi x), .int .i64 (To.fi y), .int .i64 x, .int .i64 y], .agg #[.bool true, .int .i64 0, .int .i64 X1, .int .i64 Y1]] w fun e w' => ∃ a b f c d, e = .returned (.agg (mv a b f c d)) ∧ May a b f c d 0 (X1) (Y1) ∧ w.grownBy w' none := by
  refine (mapOfC k x y t z true 0 (by decide) X1 Y1 hx hy hX1 hY1 w).mono fun e w' ⟨a, b, f, c, d, he, hm, hg⟩ => ⟨a, b, f, c, d, he, ?_, hg⟩
  rw [(lt0 _ _).1, (lt0 _ _).2] at hm
  have e1 : (X1 : Int) = -To.fi x + (X1 + To.fi x) := by omega
  have e2 : (Y1 : Int) = -To.fi y + (Y1 + To.fi y) := by omega
  rw [e1, e2]
  exact hm

theorem mapP4 (k x y t z : Int) (X1 Y1 : Int) (hx : 0 ≤ x ∧ x ≤ 65536) (hy : 0 ≤ y ∧ y ≤ 65536) (hX1 : -262144 ≤ X1 ∧ X1 ≤ 262144) (hY1 : -262144 ≤ Y1 ∧ Y1 ≤ 262144) (w : World) :
    Calls Try.prog 34 #[.agg #[.int .u8 k, .int .i64 x, .int .i64 y, .int .u8 t, .int .i64 z, .int .i64 (To.fi x), .int .i64 (To.fi y), .int .i64 x, .int .i64 y], .agg #[.bool true, .int .i64 4, .int .i64 X1, .int .i64 Y1]] w fun e w' => ∃ a b f c d, e = .returned (.agg (mv a b f c d)) ∧ May a b f c d 4 (X1) (2 * To.fi y + Y1) ∧ w.grownBy w' none := by
  refine (mapOfC k x y t z true 4 (by decide) X1 Y1 hx hy hX1 hY1 w).mono fun e w' ⟨a, b, f, c, d, he, hm, hg⟩ => ⟨a, b, f, c, d, he, ?_, hg⟩
  rw [(lt4 _ _).1, (lt4 _ _).2] at hm
  have e1 : (X1 : Int) = -To.fi x + (X1 + To.fi x) := by omega
  have e2 : (2 * To.fi y + Y1 : Int) = - -To.fi y + (Y1 + To.fi y) := by omega
  rw [e1, e2]
  exact hm

theorem mapP6 (k x y t z : Int) (X1 Y1 : Int) (hx : 0 ≤ x ∧ x ≤ 65536) (hy : 0 ≤ y ∧ y ≤ 65536) (hX1 : -262144 ≤ X1 ∧ X1 ≤ 262144) (hY1 : -262144 ≤ Y1 ∧ Y1 ≤ 262144) (w : World) :
    Calls Try.prog 34 #[.agg #[.int .u8 k, .int .i64 x, .int .i64 y, .int .u8 t, .int .i64 z, .int .i64 (To.fi x), .int .i64 (To.fi y), .int .i64 x, .int .i64 y], .agg #[.bool true, .int .i64 6, .int .i64 X1, .int .i64 Y1]] w fun e w' => ∃ a b f c d, e = .returned (.agg (mv a b f c d)) ∧ May a b f c d 6 (2 * To.fi x + X1) (Y1) ∧ w.grownBy w' none := by
  refine (mapOfC k x y t z true 6 (by decide) X1 Y1 hx hy hX1 hY1 w).mono fun e w' ⟨a, b, f, c, d, he, hm, hg⟩ => ⟨a, b, f, c, d, he, ?_, hg⟩
  rw [(lt6 _ _).1, (lt6 _ _).2] at hm
  have e1 : (2 * To.fi x + X1 : Int) = - -To.fi x + (X1 + To.fi x) := by omega
  have e2 : (Y1 : Int) = -To.fi y + (Y1 + To.fi y) := by omega
  rw [e1, e2]
  exact hm

set_option maxHeartbeats 2000000 in
theorem glueP (k x y t z : Int) (ht : 0 ≤ t) (h : Tp.chk k x y t z = 0) (hkk : k = 2 ∨ k = 3 ∨ k = 4) (w : World) : Calls Try.prog 15 #[.agg #[.int .u8 k, .int .i64 x, .int .i64 y, .int .u8 t, .int .i64 z]] w fun e w' => ∃ v, e = .returned (.tuple #[v, .int .i64 0]) ∧ Gl w' w.heap.size v (gluL k x y t z) ∧ w.grownBy w' none := by
  have ok := Tp.ok_of h
  have hx := ok.wide
  have hy := ok.high
  have htt := ok.turn
  have fx := fi_bd hx
  have fy := fi_bd hy
  have hz : t ≠ 0 → -65536 ≤ z ∧ z ≤ 65536 := fun h => by
    have h1 := ok.near h
    unfold Tp.sd at h1
    split at h1 <;> omega
  have hz0 := ok.none
  have hen := ok.ended
  have htu := ok.turns
  have hto := ok.torus
  have hfl := ok.flips
  clear ok
  rcases hkk with rfl | rfl | rfl
  · by_cases t1 : t = 1
    · subst t1
      have bz := hz (by omega)
      have bt := hto (by omega) rfl
      rw [show gluL 2 x y 1 z = [(0, x, 0), (0, z, y)] by unfold gluL gluA gluB; rw [if_pos (show 0 < x by omega), if_pos (show 0 < y by omega)]; simp]; exact (glue2 2 x y 1 z (by omega) h _ _ _ _ _ _ (edges2 x y 1 z _ _ _ _ _ _ _ _ (torusC 2 x y 1 z true true (decide_eq_true (by omega)) (decide_eq_true (by omega)) 0 z (.inl ⟨rfl, rfl, rfl⟩))) _ _ (mapP0 2 x y 1 z (x) (0) hx hy (by omega) (by omega)) (mapP0 2 x y 1 z (z) (y) hx hy (by omega) (by omega)) w).mono fun e w' ⟨_, _, _, _, _, _, _, _, _, _, _, _, he, ho, m, m2, hg⟩ => ⟨_, he, gl2 ho m m2, hg⟩
    · by_cases t2 : t = 2
      · subst t2
        have bz := hz (by omega)
        have bt := hto (by omega) rfl
        rw [show gluL 2 x y 2 z = [(0, x, z), (0, 0, y)] by unfold gluL gluA gluB; rw [if_pos (show 0 < x by omega), if_pos (show 0 < y by omega)]; simp]; exact (glue2 2 x y 2 z (by omega) h _ _ _ _ _ _ (edges2 x y 2 z _ _ _ _ _ _ _ _ (torusC 2 x y 2 z true true (decide_eq_true (by omega)) (decide_eq_true (by omega)) z 0 (.inr (.inl ⟨rfl, rfl, rfl, rfl⟩)))) _ _ (mapP0 2 x y 2 z (x) (z) hx hy (by omega) (by omega)) (mapP0 2 x y 2 z (0) (y) hx hy (by omega) (by omega)) w).mono fun e w' ⟨_, _, _, _, _, _, _, _, _, _, _, _, he, ho, m, m2, hg⟩ => ⟨_, he, gl2 ho m m2, hg⟩
      · obtain rfl : t = 0 := by omega
        have he := fun p q hp hq => edges2 x y 0 z p q _ _ _ _ _ _ (torusC 2 x y 0 z p q hp hq 0 0 (.inr (.inr ⟨rfl, rfl, rfl, rfl⟩)))
        by_cases x0 : 0 < x <;> by_cases y0 : 0 < y
        · rw [show gluL 2 x y 0 z = [(0, x, 0), (0, 0, y)] by unfold gluL gluA gluB; rw [if_pos x0, if_pos y0]; simp]; exact (glue2 2 x y 0 z (by omega) h _ _ _ _ _ _ (he true true (decide_eq_true x0) (decide_eq_true y0)) _ _ (mapP0 2 x y 0 z (x) (0) hx hy (by omega) (by omega)) (mapP0 2 x y 0 z (0) (y) hx hy (by omega) (by omega)) w).mono fun e w' ⟨_, _, _, _, _, _, _, _, _, _, _, _, he, ho, m, m2, hg⟩ => ⟨_, he, gl2 ho m m2, hg⟩
        · rw [show gluL 2 x y 0 z = [(0, x, 0)] by unfold gluL gluA gluB; rw [if_pos x0, if_neg y0]; simp]; exact (glueA 2 x y 0 z (by omega) h _ _ _ _ _ _ (he true false (decide_eq_true x0) (decide_eq_false y0)) _ (mapP0 2 x y 0 z (x) (0) hx hy (by omega) (by omega)) w).mono fun e w' ⟨_, _, _, _, _, _, _, he, ho, m, hg⟩ => ⟨_, he, gl1 ho m, hg⟩
        · rw [show gluL 2 x y 0 z = [(0, 0, y)] by unfold gluL gluA gluB; rw [if_neg x0, if_pos y0]; simp]; exact (glueB 2 x y 0 z (by omega) h _ _ _ _ _ _ (he false true (decide_eq_false x0) (decide_eq_true y0)) _ (mapP0 2 x y 0 z (0) (y) hx hy (by omega) (by omega)) w).mono fun e w' ⟨_, _, _, _, _, _, _, he, ho, m, hg⟩ => ⟨_, he, gl1 ho m, hg⟩
        · rw [show gluL 2 x y 0 z = [] by unfold gluL gluA gluB; rw [if_neg x0, if_neg y0]; rfl]; exact (glue0 2 x y 0 z (by omega) h _ _ _ _ _ _ (he false false (decide_eq_false x0) (decide_eq_false y0)) w).mono fun e w' ⟨a, b⟩ => ⟨_, a, gl0 _ _, b⟩
  · have hne : t ≠ 0 := fun e => hfl e rfl
    have bz := hz hne
    have be := hen (by decide)
    obtain rfl | rfl : t = 1 ∨ t = 2 := by omega
    · rw [show gluL 3 x y 1 z = [(0, x, 0), (6, 2 * To.fi x + x - 1 + z, y)] by unfold gluL gluA gluB; rw [if_pos (show 0 < x by omega), if_pos (show 0 < y by omega)]; simp]; exact (glue2 3 x y 1 z (by omega) h _ _ _ _ _ _ (edges3 x y 1 z _ _ _ _ _ _ _ _ (klein1C 3 x y z hx.1 hx.2 hy.1 hy.2 bz.1 bz.2)) _ _ (mapP0 3 x y 1 z (x) (0) hx hy (by omega) (by omega)) (fun w => ((mapP6 3 x y 1 z (x - 1 + z) (y) hx hy (by omega) (by omega)) w).mono fun e w' ⟨a, b, f, c, d, he, hm, hg⟩ => ⟨a, b, f, c, d, he, (show May a b f c d 6 (2 * To.fi x + x - 1 + z) (y) by rw [show (2 * To.fi x + x - 1 + z : Int) = 2 * To.fi x + (x - 1 + z) by omega]; exact hm), hg⟩) w).mono fun e w' ⟨_, _, _, _, _, _, _, _, _, _, _, _, he, ho, m, m2, hg⟩ => ⟨_, he, gl2 ho m m2, hg⟩
    · rw [show gluL 3 x y 2 z = [(4, x, 2 * To.fi y + y - 1 + z), (0, 0, y)] by unfold gluL gluA gluB; rw [if_pos (show 0 < x by omega), if_pos (show 0 < y by omega)]; simp]; exact (glue2 3 x y 2 z (by omega) h _ _ _ _ _ _ (edges3 x y 2 z _ _ _ _ _ _ _ _ (klein2C 3 x y z hx.1 hx.2 hy.1 hy.2 bz.1 bz.2)) _ _ (fun w => ((mapP4 3 x y 2 z (x) (y - 1 + z) hx hy (by omega) (by omega)) w).mono fun e w' ⟨a, b, f, c, d, he, hm, hg⟩ => ⟨a, b, f, c, d, he, (show May a b f c d 4 (x) (2 * To.fi y + y - 1 + z) by rw [show (2 * To.fi y + y - 1 + z : Int) = 2 * To.fi y + (y - 1 + z) by omega]; exact hm), hg⟩) (mapP0 3 x y 2 z (0) (y) hx hy (by omega) (by omega)) w).mono fun e w' ⟨_, _, _, _, _, _, _, _, _, _, _, _, he, ho, m, m2, hg⟩ => ⟨_, he, gl2 ho m m2, hg⟩
  · have be := hen (by decide)
    obtain rfl : t = 0 := Classical.byContradiction fun e => by have := htu e; omega
    have bz : z = 0 := hz0 rfl
    rw [show gluL 4 x y 0 z = [(4, x, 2 * To.fi y + y - 1), (6, 2 * To.fi x + x - 1, y)] by unfold gluL gluA gluB; rw [if_pos (show 0 < x by omega), if_pos (show 0 < y by omega)]; simp]; exact (glue2 4 x y 0 z (by omega) h _ _ _ _ _ _ (edges4 x y 0 z _ _ _ _ _ _ _ _ (crossC 4 x y 0 z hx.1 hx.2 hy.1 hy.2)) _ _ (fun w => ((mapP4 4 x y 0 z (x) (y - 1) hx hy (by omega) (by omega)) w).mono fun e w' ⟨a, b, f, c, d, he, hm, hg⟩ => ⟨a, b, f, c, d, he, (show May a b f c d 4 (x) (2 * To.fi y + y - 1) by rw [show (2 * To.fi y + y - 1 : Int) = 2 * To.fi y + (y - 1) by omega]; exact hm), hg⟩) (fun w => ((mapP6 4 x y 0 z (x - 1) (y) hx hy (by omega) (by omega)) w).mono fun e w' ⟨a, b, f, c, d, he, hm, hg⟩ => ⟨a, b, f, c, d, he, (show May a b f c d 6 (2 * To.fi x + x - 1) (y) by rw [show (2 * To.fi x + x - 1 : Int) = 2 * To.fi x + (x - 1) by omega]; exact hm), hg⟩) w).mono fun e w' ⟨_, _, _, _, _, _, _, _, _, _, _, _, he, ho, m, m2, hg⟩ => ⟨_, he, gl2 ho m m2, hg⟩
end Go.Proofs.Ytgiiaokkmnjckab
