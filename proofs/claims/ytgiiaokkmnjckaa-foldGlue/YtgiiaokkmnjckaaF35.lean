/- Glue, the program's and the document's, of every topology, in one form. -/
import Derived.Test.YtgiiaokkmnjckaaF34
import Derived.Test.YtgiiaokkmnjckaaF14
import Derived.Test.YtgiiaokkmnjckaaF10t
import Derived.Test.YtgiiaokkmnjckaaF36
import Derived.Test.YtgiiaokkmnjckaaF39
namespace Go.Proofs.Ytgiiaokkmnjckaa
open Go.RowKit
open Fl
set_option linter.unusedVariables false
set_option linter.unusedSimpArgs false
set_option maxRecDepth 100000


theorem map0 (k x y t z : Int) (X1 Y1 : Int) (hx : 0 ≤ x ∧ x ≤ 65536) (hy : 0 ≤ y ∧ y ≤ 65536) (hX1 : -262144 ≤ X1 ∧ X1 ≤ 262144) (hY1 : -262144 ≤ Y1 ∧ Y1 ≤ 262144) (w : World) :
    Calls Try.prog 50 #[.agg #[.int .u8 k, .int .i64 x, .int .i64 y, .int .u8 t, .int .i64 z, .int .i64 (To.fi x), .int .i64 (To.fi y), .int .i64 x, .int .i64 y], .agg #[.bool true, .int .i64 0, .int .i64 X1, .int .i64 Y1]] w fun e w' => ∃ a b f c d, e = .returned (.agg (mv a b f c d)) ∧ May a b f c d 0 (X1) (Y1) ∧ w.grownBy w' none := by
  refine (mapOfC k x y t z true 0 (by decide) X1 Y1 hx hy hX1 hY1 w).mono fun e w' ⟨a, b, f, c, d, he, hm, hg⟩ => ⟨a, b, f, c, d, he, ?_, hg⟩
  rw [(lt0 _ _).1, (lt0 _ _).2] at hm
  have e1 : (X1 : Int) = -To.fi x + (X1 + To.fi x) := by omega
  have e2 : (Y1 : Int) = -To.fi y + (Y1 + To.fi y) := by omega
  rw [e1, e2]
  exact hm

theorem map4 (k x y t z : Int) (X1 Y1 : Int) (hx : 0 ≤ x ∧ x ≤ 65536) (hy : 0 ≤ y ∧ y ≤ 65536) (hX1 : -262144 ≤ X1 ∧ X1 ≤ 262144) (hY1 : -262144 ≤ Y1 ∧ Y1 ≤ 262144) (w : World) :
    Calls Try.prog 50 #[.agg #[.int .u8 k, .int .i64 x, .int .i64 y, .int .u8 t, .int .i64 z, .int .i64 (To.fi x), .int .i64 (To.fi y), .int .i64 x, .int .i64 y], .agg #[.bool true, .int .i64 4, .int .i64 X1, .int .i64 Y1]] w fun e w' => ∃ a b f c d, e = .returned (.agg (mv a b f c d)) ∧ May a b f c d 4 (X1) (2 * To.fi y + Y1) ∧ w.grownBy w' none := by
  refine (mapOfC k x y t z true 4 (by decide) X1 Y1 hx hy hX1 hY1 w).mono fun e w' ⟨a, b, f, c, d, he, hm, hg⟩ => ⟨a, b, f, c, d, he, ?_, hg⟩
  rw [(lt4 _ _).1, (lt4 _ _).2] at hm
  have e1 : (X1 : Int) = -To.fi x + (X1 + To.fi x) := by omega
  have e2 : (2 * To.fi y + Y1 : Int) = - -To.fi y + (Y1 + To.fi y) := by omega
  rw [e1, e2]
  exact hm

theorem map6 (k x y t z : Int) (X1 Y1 : Int) (hx : 0 ≤ x ∧ x ≤ 65536) (hy : 0 ≤ y ∧ y ≤ 65536) (hX1 : -262144 ≤ X1 ∧ X1 ≤ 262144) (hY1 : -262144 ≤ Y1 ∧ Y1 ≤ 262144) (w : World) :
    Calls Try.prog 50 #[.agg #[.int .u8 k, .int .i64 x, .int .i64 y, .int .u8 t, .int .i64 z, .int .i64 (To.fi x), .int .i64 (To.fi y), .int .i64 x, .int .i64 y], .agg #[.bool true, .int .i64 6, .int .i64 X1, .int .i64 Y1]] w fun e w' => ∃ a b f c d, e = .returned (.agg (mv a b f c d)) ∧ May a b f c d 6 (2 * To.fi x + X1) (Y1) ∧ w.grownBy w' none := by
  refine (mapOfC k x y t z true 6 (by decide) X1 Y1 hx hy hX1 hY1 w).mono fun e w' ⟨a, b, f, c, d, he, hm, hg⟩ => ⟨a, b, f, c, d, he, ?_, hg⟩
  rw [(lt6 _ _).1, (lt6 _ _).2] at hm
  have e1 : (2 * To.fi x + X1 : Int) = - -To.fi x + (X1 + To.fi x) := by omega
  have e2 : (Y1 : Int) = -To.fi y + (Y1 + To.fi y) := by omega
  rw [e1, e2]
  exact hm

theorem rpl (X Y : Int) (hX : -1048576 ≤ X ∧ X ≤ 1048576) (hY : -1048576 ≤ Y ∧ Y ≤ 1048576) (w : World) : Calls Try.prog 45 #[.int .i64 X, .int .i64 Y] w fun e w' => ∃ a b f c d, e = .returned (.agg (mv a b f c d)) ∧ May a b f c d 0 (X) (Y) ∧ w.grownBy w' none :=
  (refPlainW X Y w).mono fun e w' ⟨he, hg⟩ => ⟨_, _, _, _, _, he, refPlainM X Y (decide_eq_true (by omega)) (decide_eq_true (by omega)), hg⟩

theorem rup (X Y : Int) (hX : -1048576 ≤ X ∧ X ≤ 1048576) (hY : -1048576 ≤ Y ∧ Y ≤ 1048576) (w : World) : Calls Try.prog 47 #[.int .i64 X, .int .i64 Y] w fun e w' => ∃ a b f c d, e = .returned (.agg (mv a b f c d)) ∧ May a b f c d 6 (X) (Y) ∧ w.grownBy w' none :=
  (refUprightW X Y w).mono fun e w' ⟨he, hg⟩ => ⟨_, _, _, _, _, he, refUprightM X Y (decide_eq_true (by omega)) (decide_eq_true (by omega)), hg⟩

theorem rly (X Y : Int) (hX : -1048576 ≤ X ∧ X ≤ 1048576) (hY : -1048576 ≤ Y ∧ Y ≤ 1048576) (w : World) : Calls Try.prog 46 #[.int .i64 X, .int .i64 Y] w fun e w' => ∃ a b f c d, e = .returned (.agg (mv a b f c d)) ∧ May a b f c d 4 (X) (Y) ∧ w.grownBy w' none :=
  (refLyingW X Y w).mono fun e w' ⟨he, hg⟩ => ⟨_, _, _, _, _, he, refLyingM X Y (decide_eq_true (by omega)) (decide_eq_true (by omega)), hg⟩

set_option maxHeartbeats 2000000 in
/-- **Glue, the program's and the document's, of every topology.** -/
theorem glueAll (k x y t z : Int) (ht : 0 ≤ t) : ∃ (L : List (Nat × Int × Int)) (E : Int), L.length ≤ 2 ∧
    (∀ w, Calls Try.prog 17 #[.agg #[.int .u8 k, .int .i64 x, .int .i64 y, .int .u8 t, .int .i64 z]] w fun e w' => ∃ v, e = .returned (.tuple #[v, .int .i64 E]) ∧ Gl w' w.heap.size v L ∧ w.grownBy w' none) ∧ (∀ w, Calls Try.prog 16 #[.agg #[.int .u8 k, .int .i64 x, .int .i64 y, .int .u8 t, .int .i64 z]] w fun e w' => ∃ v, e = .returned (.tuple #[v, .int .i64 E]) ∧ Gl w' w.heap.size v L ∧ w.grownBy w' none) ∧ (Tp.chk k x y t z = 0 → glB k = true → E = 0 ∧ L = gluL k x y t z) := by
  by_cases h : Tp.chk k x y t z = 0
  · have ok := Tp.ok_of h
    have hk := ok.kind
    have hx := ok.wide
    have hy := ok.high
    have htt := ok.turn
    have fx := fi_bd hx
    have fy := fi_bd hy
    have hz : t ≠ 0 → -65536 ≤ z ∧ z ≤ 65536 := fun h => by
      have h1 := ok.near h
      unfold Tp.sd at h1
      split at h1 <;> omega
    have hz0 := ok.none
    have hen := ok.ended
    have htu := ok.turns
    have hto := ok.torus
    have hfl := ok.flips
    have hc := To.refCheckC k x y t z ht
    rw [h] at hc
    have hl := refGluedC k x y t z
    clear ok
    obtain rfl | rfl | rfl | rfl | rfl : k = 1 ∨ k = 2 ∨ k = 3 ∨ k = 4 ∨ k = 5 := by omega
    · exact ⟨[], 0, by simp, fun w => (glue0 1 x y t z ht h _ _ _ _ _ _ (edges1 x y t z _ _ _ _ _ _ _ _ (openC 1 x y t z)) w).mono fun e w' ⟨a, b⟩ => ⟨_, a, gl0 _ _, b⟩, fun w => (rglueN 1 x y t z hc hl w).mono fun e w' ⟨a, b⟩ => ⟨_, a, gl0 _ _, b⟩, (fun _ q => absurd q (by decide))⟩
    · by_cases t1 : t = 1
      · subst t1
        have bz := hz (by omega)
        have bt := hto (by omega) rfl
        exact ⟨[(0, x, 0), (0, z, y)], 0, by simp, fun w => (glue2 2 x y 1 z (by omega) h _ _ _ _ _ _ (edges2 x y 1 z _ _ _ _ _ _ _ _ (torusC 2 x y 1 z true true (decide_eq_true (by omega)) (decide_eq_true (by omega)) 0 z (.inl ⟨rfl, rfl, rfl⟩))) _ _ (map0 2 x y 1 z (x) (0) hx hy (by omega) (by omega)) (map0 2 x y 1 z (z) (y) hx hy (by omega) (by omega)) w).mono fun e w' ⟨_, _, _, _, _, _, _, _, _, _, _, _, he, ho, m, m2, hg⟩ => ⟨_, he, gl2 ho m m2, hg⟩, fun w => (rglue21 x y z (by omega) (by omega) hx.2 hy.2 (by omega) hc hl _ (rpl (x) (0) (by omega) (by omega)) _ (rpl (0) (y) (by omega) (by omega)) _ (rpl (z) (y) (by omega) (by omega)) w).mono fun e w' ⟨_, _, _, _, _, _, _, _, _, _, _, _, he, ho, m, m2, hg⟩ => ⟨_, he, gl2 ho m m2, hg⟩, (fun _ _ => ⟨rfl, by unfold gluL gluA gluB; rw [if_pos (show 0 < x by omega), if_pos (show 0 < y by omega)]; simp⟩)⟩
      · by_cases t2 : t = 2
        · subst t2
          have bz := hz (by omega)
          have bt := hto (by omega) rfl
          exact ⟨[(0, x, z), (0, 0, y)], 0, by simp, fun w => (glue2 2 x y 2 z (by omega) h _ _ _ _ _ _ (edges2 x y 2 z _ _ _ _ _ _ _ _ (torusC 2 x y 2 z true true (decide_eq_true (by omega)) (decide_eq_true (by omega)) z 0 (.inr (.inl ⟨rfl, rfl, rfl, rfl⟩)))) _ _ (map0 2 x y 2 z (x) (z) hx hy (by omega) (by omega)) (map0 2 x y 2 z (0) (y) hx hy (by omega) (by omega)) w).mono fun e w' ⟨_, _, _, _, _, _, _, _, _, _, _, _, he, ho, m, m2, hg⟩ => ⟨_, he, gl2 ho m m2, hg⟩, fun w => (rglue22 x y z (by omega) (by omega) hx.2 hy.2 (by omega) hc hl _ (rpl (x) (0) (by omega) (by omega)) _ (rpl (x) (z) (by omega) (by omega)) _ (rpl (0) (y) (by omega) (by omega)) w).mono fun e w' ⟨_, _, _, _, _, _, _, _, _, _, _, _, he, ho, m, m2, hg⟩ => ⟨_, he, gl2 ho m m2, hg⟩, (fun _ _ => ⟨rfl, by unfold gluL gluA gluB; rw [if_pos (show 0 < x by omega), if_pos (show 0 < y by omega)]; simp⟩)⟩
        · obtain rfl : t = 0 := by omega
          have he := fun p q hp hq => edges2 x y 0 z p q _ _ _ _ _ _ (torusC 2 x y 0 z p q hp hq 0 0 (.inr (.inr ⟨rfl, rfl, rfl, rfl⟩)))
          by_cases x0 : 0 < x <;> by_cases y0 : 0 < y
          · exact ⟨[(0, x, 0), (0, 0, y)], 0, by simp, fun w => (glue2 2 x y 0 z (by omega) h _ _ _ _ _ _ (he true true (decide_eq_true x0) (decide_eq_true y0)) _ _ (map0 2 x y 0 z (x) (0) hx hy (by omega) (by omega)) (map0 2 x y 0 z (0) (y) hx hy (by omega) (by omega)) w).mono fun e w' ⟨_, _, _, _, _, _, _, _, _, _, _, _, he, ho, m, m2, hg⟩ => ⟨_, he, gl2 ho m m2, hg⟩, fun w => (rglue11 x y z x0 y0 hc hl _ (rpl (x) (0) (by omega) (by omega)) _ (rpl (0) (y) (by omega) (by omega)) w).mono fun e w' ⟨_, _, _, _, _, _, _, _, _, _, _, _, he, ho, m, m2, hg⟩ => ⟨_, he, gl2 ho m m2, hg⟩, (fun _ _ => ⟨rfl, by unfold gluL gluA gluB; rw [if_pos x0, if_pos y0]; simp⟩)⟩
          · exact ⟨[(0, x, 0)], 0, by simp, fun w => (glueA 2 x y 0 z (by omega) h _ _ _ _ _ _ (he true false (decide_eq_true x0) (decide_eq_false y0)) _ (map0 2 x y 0 z (x) (0) hx hy (by omega) (by omega)) w).mono fun e w' ⟨_, _, _, _, _, _, _, he, ho, m, hg⟩ => ⟨_, he, gl1 ho m, hg⟩, fun w => (rglue10 x y z x0 (by omega) hc hl _ (rpl (x) (0) (by omega) (by omega)) w).mono fun e w' ⟨_, _, _, _, _, _, _, he, ho, m, hg⟩ => ⟨_, he, gl1 ho m, hg⟩, (fun _ _ => ⟨rfl, by unfold gluL gluA gluB; rw [if_pos x0, if_neg y0]; simp⟩)⟩
          · exact ⟨[(0, 0, y)], 0, by simp, fun w => (glueB 2 x y 0 z (by omega) h _ _ _ _ _ _ (he false true (decide_eq_false x0) (decide_eq_true y0)) _ (map0 2 x y 0 z (0) (y) hx hy (by omega) (by omega)) w).mono fun e w' ⟨_, _, _, _, _, _, _, he, ho, m, hg⟩ => ⟨_, he, gl1 ho m, hg⟩, fun w => (rglue01 x y z (by omega) y0 hc hl _ (rpl (0) (y) (by omega) (by omega)) w).mono fun e w' ⟨_, _, _, _, _, _, _, he, ho, m, hg⟩ => ⟨_, he, gl1 ho m, hg⟩, (fun _ _ => ⟨rfl, by unfold gluL gluA gluB; rw [if_neg x0, if_pos y0]; simp⟩)⟩
          · exact ⟨[], 0, by simp, fun w => (glue0 2 x y 0 z (by omega) h _ _ _ _ _ _ (he false false (decide_eq_false x0) (decide_eq_false y0)) w).mono fun e w' ⟨a, b⟩ => ⟨_, a, gl0 _ _, b⟩, fun w => (rglue00 x y z (by omega) (by omega) hc hl w).mono fun e w' ⟨a, b⟩ => ⟨_, a, gl0 _ _, b⟩, (fun _ _ => ⟨rfl, by unfold gluL gluA gluB; rw [if_neg x0, if_neg y0]; rfl⟩)⟩
    · have hne : t ≠ 0 := fun e => hfl e rfl
      have bz := hz hne
      have be := hen (by decide)
      obtain rfl | rfl : t = 1 ∨ t = 2 := by omega
      · exact ⟨[(0, x, 0), (6, 2 * To.fi x + x - 1 + z, y)], 0, by simp, fun w => (glue2 3 x y 1 z (by omega) h _ _ _ _ _ _ (edges3 x y 1 z _ _ _ _ _ _ _ _ (klein1C 3 x y z hx.1 hx.2 hy.1 hy.2 bz.1 bz.2)) _ _ (map0 3 x y 1 z (x) (0) hx hy (by omega) (by omega)) (fun w => ((map6 3 x y 1 z (x - 1 + z) (y) hx hy (by omega) (by omega)) w).mono fun e w' ⟨a, b, f, c, d, he, hm, hg⟩ => ⟨a, b, f, c, d, he, (show May a b f c d 6 (2 * To.fi x + x - 1 + z) (y) by rw [show (2 * To.fi x + x - 1 + z : Int) = 2 * To.fi x + (x - 1 + z) by omega]; exact hm), hg⟩) w).mono fun e w' ⟨_, _, _, _, _, _, _, _, _, _, _, _, he, ho, m, m2, hg⟩ => ⟨_, he, gl2 ho m m2, hg⟩, fun w => (rglue31 x y z (by omega) (by omega) hx.2 hy.2 (by omega) hc hl _ (rpl (x) (0) (by omega) (by omega)) _ (rpl (0) (y) (by omega) (by omega)) _ (rup (2 * To.fi x + x - 1 + z) (y) (by omega) (by omega)) w).mono fun e w' ⟨_, _, _, _, _, _, _, _, _, _, _, _, he, ho, m, m2, hg⟩ => ⟨_, he, gl2 ho m m2, hg⟩, (fun _ _ => ⟨rfl, by unfold gluL gluA gluB; rw [if_pos (show 0 < x by omega), if_pos (show 0 < y by omega)]; simp⟩)⟩
      · exact ⟨[(4, x, 2 * To.fi y + y - 1 + z), (0, 0, y)], 0, by simp, fun w => (glue2 3 x y 2 z (by omega) h _ _ _ _ _ _ (edges3 x y 2 z _ _ _ _ _ _ _ _ (klein2C 3 x y z hx.1 hx.2 hy.1 hy.2 bz.1 bz.2)) _ _ (fun w => ((map4 3 x y 2 z (x) (y - 1 + z) hx hy (by omega) (by omega)) w).mono fun e w' ⟨a, b, f, c, d, he, hm, hg⟩ => ⟨a, b, f, c, d, he, (show May a b f c d 4 (x) (2 * To.fi y + y - 1 + z) by rw [show (2 * To.fi y + y - 1 + z : Int) = 2 * To.fi y + (y - 1 + z) by omega]; exact hm), hg⟩) (map0 3 x y 2 z (0) (y) hx hy (by omega) (by omega)) w).mono fun e w' ⟨_, _, _, _, _, _, _, _, _, _, _, _, he, ho, m, m2, hg⟩ => ⟨_, he, gl2 ho m m2, hg⟩, fun w => (rglue32 x y z (by omega) (by omega) hx.2 hy.2 (by omega) hc hl _ (rpl (x) (0) (by omega) (by omega)) _ (rly (x) (2 * To.fi y + y - 1 + z) (by omega) (by omega)) _ (rpl (0) (y) (by omega) (by omega)) w).mono fun e w' ⟨_, _, _, _, _, _, _, _, _, _, _, _, he, ho, m, m2, hg⟩ => ⟨_, he, gl2 ho m m2, hg⟩, (fun _ _ => ⟨rfl, by unfold gluL gluA gluB; rw [if_pos (show 0 < x by omega), if_pos (show 0 < y by omega)]; simp⟩)⟩
    · have be := hen (by decide)
      obtain rfl : t = 0 := Classical.byContradiction fun e => by have := htu e; omega
      have bz : z = 0 := hz0 rfl
      exact ⟨[(4, x, 2 * To.fi y + y - 1), (6, 2 * To.fi x + x - 1, y)], 0, by simp, fun w => (glue2 4 x y 0 z (by omega) h _ _ _ _ _ _ (edges4 x y 0 z _ _ _ _ _ _ _ _ (crossC 4 x y 0 z hx.1 hx.2 hy.1 hy.2)) _ _ (fun w => ((map4 4 x y 0 z (x) (y - 1) hx hy (by omega) (by omega)) w).mono fun e w' ⟨a, b, f, c, d, he, hm, hg⟩ => ⟨a, b, f, c, d, he, (show May a b f c d 4 (x) (2 * To.fi y + y - 1) by rw [show (2 * To.fi y + y - 1 : Int) = 2 * To.fi y + (y - 1) by omega]; exact hm), hg⟩) (fun w => ((map6 4 x y 0 z (x - 1) (y) hx hy (by omega) (by omega)) w).mono fun e w' ⟨a, b, f, c, d, he, hm, hg⟩ => ⟨a, b, f, c, d, he, (show May a b f c d 6 (2 * To.fi x + x - 1) (y) by rw [show (2 * To.fi x + x - 1 : Int) = 2 * To.fi x + (x - 1) by omega]; exact hm), hg⟩) w).mono fun e w' ⟨_, _, _, _, _, _, _, _, _, _, _, _, he, ho, m, m2, hg⟩ => ⟨_, he, gl2 ho m m2, hg⟩, fun w => (rglue40 x y z (by omega) (by omega) hx.2 hy.2 (by omega) hc hl _ (rpl (x) (0) (by omega) (by omega)) _ (rly (x) (2 * To.fi y + y - 1) (by omega) (by omega)) _ (rpl (0) (y) (by omega) (by omega)) _ (rup (2 * To.fi x + x - 1) (y) (by omega) (by omega)) w).mono fun e w' ⟨_, _, _, _, _, _, _, _, _, _, _, _, he, ho, m, m2, hg⟩ => ⟨_, he, gl2 ho m m2, hg⟩, (fun _ _ => ⟨rfl, by unfold gluL gluA gluB; rw [if_pos (show 0 < x by omega), if_pos (show 0 < y by omega)]; simp⟩)⟩
    · exact ⟨[], 0, by simp, fun w => (glue0 5 x y t z ht h _ _ _ _ _ _ (edges5 x y t z _ _ _ _ _ _ _ _ (openC 5 x y t z)) w).mono fun e w' ⟨a, b⟩ => ⟨_, a, gl0 _ _, b⟩, fun w => (rglueN 5 x y t z hc hl w).mono fun e w' ⟨a, b⟩ => ⟨_, a, gl0 _ _, b⟩, (fun _ q => absurd q (by decide))⟩
  · have hc := To.refCheckC k x y t z ht
    exact ⟨[], 9, by simp, fun w => (glueX k x y t z ht h w).mono fun e w' ⟨a, b⟩ => ⟨_, a, gl0 _ _, b⟩, fun w => (rglueX k x y t z _ (by simpa using h) hc w).mono fun e w' ⟨a, b⟩ => ⟨_, a, gl0 _ _, b⟩, (fun q => absurd q h)⟩
end Go.Proofs.Ytgiiaokkmnjckaa
