/- Plain facts on gluing: which cell home numbers are, what the gluing maps do to it, by which part a tile lies. Nothing of the program in it. -/
import Derived.Test.YthjiiljglgmkpaaGreatDoorNums
import Derived.Test.YthjiiljglgmkpaaGreatDoorParts
import Derived.Test.YthjiiljglgmkpaaGreatDoorTp
namespace Go.Proofs.YthjiiljglgmkpaaGreatDoor.Fo
open Nm (divZ)

/-- The remainder; the number itself along an endless side. -/
def wi (u s : Int) : Int := if s < 1 then u else u % s
theorem wi_pos {u s : Int} (h : 1 ≤ s) : wi u s = u % s := if_neg (by omega)
theorem wi_zero (u : Int) : wi u 0 = u := if_pos (by omega)
theorem wi_form (u s : Int) : ∃ q, wi u s = u + s * q := by
  unfold wi
  by_cases h : s < 1
  · exact ⟨0, by rw [if_pos h]; omega⟩
  · rw [if_neg h]
    refine ⟨-(u / s), ?_⟩
    have := Int.mul_ediv_add_emod u s
    rw [Int.mul_neg]; omega
/-- What differs by whole sides has one remainder. -/
theorem wi_eq {a b s : Int} (hs : 0 ≤ s) (q : Int) (h : a = b + s * q) : wi a s = wi b s := by
  subst h
  obtain h1 | h1 : s = 0 ∨ 1 ≤ s := by omega
  · subst h1; rw [wi_zero, wi_zero]; omega
  · rw [wi_pos h1, wi_pos h1]; exact Int.add_mul_emod_self_left ..
theorem wi_one {a b s : Int} (hs : 0 ≤ s) (h : a = b + s) : wi a s = wi b s := wi_eq hs 1 (by omega)
theorem wi_neg {a b s : Int} (hs : 0 ≤ s) (h : a = b - s) : wi a s = wi b s := wi_eq hs (-1) (by rw [Int.mul_neg]; omega)
theorem wi_in {u s : Int} (h : s = 0 ∨ (0 ≤ u ∧ u < s)) : wi u s = u := by
  rcases h with rfl | h
  · exact wi_zero u
  · rw [wi_pos (by omega)]; exact Int.emod_eq_of_lt (by omega) (by omega)
theorem wi_bd {s : Int} (u : Int) (h : 1 ≤ s) : 0 ≤ wi u s ∧ wi u s < s := by
  rw [wi_pos h]
  exact ⟨Int.emod_nonneg _ (by omega), Int.emod_lt_of_pos _ (by omega)⟩
theorem div_in {u s : Int} (h : s = 0 ∨ (0 ≤ u ∧ u < s)) : divZ u s = 0 := by
  unfold divZ
  by_cases h1 : s < 1
  · rw [if_pos h1]
  · rw [if_neg h1]; exact Int.ediv_eq_zero_of_lt (by omega) (by omega)
theorem div_pos {u s : Int} (h : 1 ≤ s) : divZ u s = u / s := if_neg (by omega)
theorem div_add {u s : Int} (h : 1 ≤ s) : divZ (u + s) s = divZ u s + 1 := by
  rw [div_pos h, div_pos h, Int.add_ediv_of_dvd_right (Int.dvd_refl s), Int.ediv_self (by omega)]
theorem div_back {u s : Int} (h : 1 ≤ s) : divZ (s - 1 - u) s = -(divZ u s) := by
  rw [div_pos h, div_pos h]
  have h1 := Int.mul_ediv_add_emod u s
  have h2 := Int.emod_nonneg u (show s ≠ 0 by omega)
  have h3 := Int.emod_lt_of_pos u (show 0 < s by omega)
  have := (Int.ediv_emod_unique (a := s - 1 - u) (b := s) (r := s - 1 - u % s) (q := -(u / s)) (by omega)).2 ⟨by rw [Int.mul_neg]; omega, by omega, by omega⟩
  exact this.1
theorem wi_back {u s : Int} (h : 1 ≤ s) : wi (s - 1 - u) s = s - 1 - wi u s := by
  rw [wi_pos h, wi_pos h]
  have h1 := Int.mul_ediv_add_emod u s
  have h2 := Int.emod_nonneg u (show s ≠ 0 by omega)
  have h3 := Int.emod_lt_of_pos u (show 0 < s by omega)
  have := (Int.ediv_emod_unique (a := s - 1 - u) (b := s) (r := s - 1 - u % s) (q := -(u / s)) (by omega)).2 ⟨by rw [Int.mul_neg]; omega, by omega, by omega⟩
  exact this.2

/-- Along the width: the home number of the cell of home numbers. -/
def cx (k x y t z u v : Int) : Int :=
  if k = 2 ∧ t = 1 then wi (u - divZ v y * z) x
  else if k = 3 ∧ t = 1 ∧ divZ v y % 2 = 1 then wi (x - 1 - u + z) x
  else if k = 4 ∧ divZ v y % 2 = 1 then wi (x - 1 - u) x
  else wi u x
/-- Along the height: the same, exchanged. -/
def cy (k x y t z u v : Int) : Int := cx k y x (3 - t) z v u
theorem cy_cy (k x y t z u v : Int) : cy k y x (3 - t) z v u = cx k x y t z u v := by
  unfold cy
  rw [show 3 - (3 - t) = t by omega]
theorem cx_21 {x y z u v : Int} : cx 2 x y 1 z u v = wi (u - divZ v y * z) x := if_pos ⟨rfl, rfl⟩
theorem cx_2 {x y t z u v : Int} (h : ¬ t = 1) : cx 2 x y t z u v = wi u x := by
  unfold cx; rw [if_neg (by omega), if_neg (by omega), if_neg (by omega)]
theorem cx_31 {x y z u v : Int} : cx 3 x y 1 z u v = if divZ v y % 2 = 1 then wi (x - 1 - u + z) x else wi u x := by
  unfold cx; rw [if_neg (by omega)]
  by_cases h : divZ v y % 2 = 1
  · rw [if_pos ⟨rfl, rfl, h⟩, if_pos h]
  · rw [if_neg (fun q => h q.2.2), if_neg (by omega), if_neg h]
theorem cx_3 {x y t z u v : Int} (h : ¬ t = 1) : cx 3 x y t z u v = wi u x := by
  unfold cx; rw [if_neg (by omega), if_neg (by omega), if_neg (by omega)]
theorem cx_4 {x y t z u v : Int} : cx 4 x y t z u v = if divZ v y % 2 = 1 then wi (x - 1 - u) x else wi u x := by
  unfold cx; rw [if_neg (by omega), if_neg (by omega)]
  by_cases h : divZ v y % 2 = 1
  · rw [if_pos ⟨rfl, h⟩, if_pos h]
  · rw [if_neg (fun q => h q.2), if_neg h]
theorem cx_form (k x y t z u v : Int) : ∃ a, cx k x y t z u v = wi a x := by
  unfold cx
  repeat' split
  all_goals exact ⟨_, rfl⟩
theorem cx_bd (k : Int) {x : Int} (y t z u v : Int) (h : 1 ≤ x) : 0 ≤ cx k x y t z u v ∧ cx k x y t z u v < x := by
  obtain ⟨a, e⟩ := cx_form k x y t z u v
  rw [e]; exact wi_bd a h
theorem cy_bd (k x : Int) {y : Int} (t z u v : Int) (h : 1 ≤ y) : 0 ≤ cy k x y t z u v ∧ cy k x y t z u v < y := cx_bd k x _ z v u h
theorem cx_in (k : Int) {x y : Int} (t z : Int) {u v : Int} (h1 : x = 0 ∨ (0 ≤ u ∧ u < x)) (h2 : y = 0 ∨ (0 ≤ v ∧ v < y)) : cx k x y t z u v = u := by
  unfold cx
  rw [div_in h2]
  split
  · rw [Int.zero_mul, Int.sub_zero]; exact wi_in h1
  · rw [if_neg (by omega), if_neg (by omega)]; exact wi_in h1
theorem cy_in (k : Int) {x y : Int} (t z : Int) {u v : Int} (h1 : x = 0 ∨ (0 ≤ u ∧ u < x)) (h2 : y = 0 ∨ (0 ≤ v ∧ v < y)) : cy k x y t z u v = v := cx_in k _ z h2 h1

/-- A glued grid that may be. -/
structure Gl (k x y t : Int) : Prop where
  kind : k = 2 ∨ k = 3 ∨ k = 4
  wide : 0 ≤ x
  high : 0 ≤ y
  ended : 3 ≤ k → 1 ≤ x ∧ 1 ≤ y
  torus : k = 2 → t = 1 ∨ t = 2 → 1 ≤ x ∧ 1 ≤ y
  klein : k = 3 → t = 1 ∨ t = 2
theorem Gl.swap {k x y t : Int} (h : Gl k x y t) : Gl k y x (3 - t) := by
  have a1 := h.kind; have a2 := h.wide; have a3 := h.high; have a4 := h.ended; have a5 := h.torus; have a6 := h.klein
  exact ⟨a1, a3, a2, fun q => (a4 q).symm, fun q r => (a5 q (by omega)).symm, fun q => by have := a6 q; omega⟩
theorem gl_of {k x y t z : Int} (ht : 0 ≤ t) (h : Tp.Ok k x y t z) (hk : k = 2 ∨ k = 3 ∨ k = 4) : Gl k x y t := by
  have a2 := h.wide; have a3 := h.high; have a5 := h.ended; have a6 := h.turn; have a8 := h.flips; have a11 := h.torus; have a7 := h.turns
  refine ⟨hk, by omega, by omega, fun q => by have := a5 q; omega, fun q r => by have := a11 (by omega) q; omega, fun q => ?_⟩
  have := a8
  have := ht
  omega

/-- What the map A does along the height (and B, exchanged, along the width). -/
def gv (k y t z v : Int) : Int := if k = 2 then (if t = 2 then v + z else v) else if k = 3 then (if t = 2 then y - 1 + z - v else v) else y - 1 - v
theorem gl_a {k x y t : Int} (z u v : Int) (h : Gl k x y t) (hx : 1 ≤ x) : cx k x y t z (u + x) (gv k y t z v) = cx k x y t z u v ∧ cy k x y t z (u + x) (gv k y t z v) = cy k x y t z u v := by
  have hx0 := h.wide
  have hy0 := h.high
  have hd := div_add (u := u) hx
  unfold cy
  rcases h.kind with rfl | rfl | rfl
  · by_cases h1 : t = 1
    · subst h1
      have e : gv 2 y 1 z v = v := rfl
      rw [e, cx_21, cx_21, cx_2 (by omega), cx_2 (by omega)]
      exact ⟨wi_one hx0 (by omega), rfl⟩
    · rw [cx_2 h1, cx_2 h1]
      by_cases h2 : t = 2
      · subst h2
        have e : gv 2 y 2 z v = v + z := rfl
        rw [e, show (3 : Int) - 2 = 1 from rfl, cx_21, cx_21, hd, Int.add_mul]
        exact ⟨wi_one hx0 rfl, by congr 1; omega⟩
      · have e : gv 2 y t z v = v := by unfold gv; rw [if_pos rfl, if_neg h2]
        rw [e, cx_2 (by omega), cx_2 (by omega)]
        exact ⟨wi_one hx0 rfl, rfl⟩
  · obtain rfl | rfl := h.klein rfl
    · have e : gv 3 y 1 z v = v := rfl
      rw [e, cx_31, cx_31, cx_3 (by omega), cx_3 (by omega)]
      refine ⟨?_, rfl⟩
      split
      · exact wi_neg hx0 (by omega)
      · exact wi_one hx0 rfl
    · have e : gv 3 y 2 z v = y - 1 + z - v := rfl
      rw [e, cx_3 (by omega), cx_3 (by omega), show (3 : Int) - 2 = 1 from rfl, cx_31, cx_31, hd]
      refine ⟨wi_one hx0 rfl, ?_⟩
      by_cases q : divZ u x % 2 = 1
      · rw [if_neg (by omega), if_pos q]; congr 1; omega
      · rw [if_pos (by omega), if_neg q]; congr 1; omega
  · have hy := (h.ended (by omega)).2
    have e : gv 4 y t z v = y - 1 - v := rfl
    rw [e, cx_4, cx_4, cx_4, cx_4, hd, div_back hy]
    constructor
    · by_cases q : divZ v y % 2 = 1
      · rw [if_pos (by omega), if_pos q]; exact wi_neg hx0 (by omega)
      · rw [if_neg (by omega), if_neg q]; exact wi_one hx0 rfl
    · by_cases q : divZ u x % 2 = 1
      · rw [if_neg (by omega), if_pos q]
      · rw [if_pos (by omega), if_neg q]; congr 1; omega
theorem gl_b {k x y t : Int} (z u v : Int) (h : Gl k x y t) (hy : 1 ≤ y) : cx k x y t z (gv k x (3 - t) z u) (v + y) = cx k x y t z u v ∧ cy k x y t z (gv k x (3 - t) z u) (v + y) = cy k x y t z u v := by
  obtain ⟨a, b⟩ := gl_a z v u h.swap hy
  rw [cy_cy, cy_cy] at b
  exact ⟨b, a⟩
/-- What the maps do is taken back so. -/
def gw (k y t z v : Int) : Int := if k = 2 then (if t = 2 then v - z else v) else if k = 3 then (if t = 2 then y - 1 + z - v else v) else y - 1 - v
theorem gv_gw (k y t z v : Int) : gv k y t z (gw k y t z v) = v := by
  unfold gv gw
  repeat' split
  all_goals omega
theorem gl_a' {k x y t : Int} (z u v : Int) (h : Gl k x y t) (hx : 1 ≤ x) : cx k x y t z (u - x) (gw k y t z v) = cx k x y t z u v ∧ cy k x y t z (u - x) (gw k y t z v) = cy k x y t z u v := by
  have h1 := gl_a z (u - x) (gw k y t z v) h hx
  rw [gv_gw, show u - x + x = u by omega] at h1
  exact ⟨h1.1.symm, h1.2.symm⟩
theorem gl_b' {k x y t : Int} (z u v : Int) (h : Gl k x y t) (hy : 1 ≤ y) : cx k x y t z (gw k x (3 - t) z u) (v - y) = cx k x y t z u v ∧ cy k x y t z (gw k x (3 - t) z u) (v - y) = cy k x y t z u v := by
  have h1 := gl_b z (gw k x (3 - t) z u) (v - y) h hy
  rw [gv_gw, show v - y + y = v by omega] at h1
  exact ⟨h1.1.symm, h1.2.symm⟩

/-- Is the tile turned over from left to right (and, exchanged, from top to bottom)? -/
def ov (k t j : Int) : Bool := decide ((k = 3 ∧ t = 1 ∨ k = 4) ∧ j % 2 = 1)
/-- A tile's part. -/
def pt (k t i j : Int) : Nat := if ov k t j then (if ov k (3 - t) i then 2 else 6) else (if ov k (3 - t) i then 4 else 0)
/-- Within a tile a step is, for the cells, that step or the one turned over, up to whole sides. -/
theorem step_x {k x y t : Int} (z : Int) {u v u2 v2 : Int} (h : Gl k x y t) (hj : divZ v2 y = divZ v y) : ∃ q, cx k x y t z u2 v2 - cx k x y t z u v = (if ov k t (divZ v y) then -(u2 - u) else u2 - u) + x * q := by
  have key : ∀ a b c : Int, b - a = c → ∃ q, wi b x - wi a x = c + x * q := by
    intro a b c e
    obtain ⟨q1, h1⟩ := wi_form a x
    obtain ⟨q2, h2⟩ := wi_form b x
    exact ⟨q2 - q1, by rw [h1, h2, Int.mul_sub]; omega⟩
  rcases h.kind with rfl | rfl | rfl
  · have e : ov 2 t (divZ v y) = false := by unfold ov; exact decide_eq_false (by omega)
    rw [e, if_neg (by decide)]
    by_cases h1 : t = 1
    · subst h1; rw [cx_21, cx_21, hj]; exact key _ _ _ (by omega)
    · rw [cx_2 h1, cx_2 h1]; exact key _ _ _ rfl
  · obtain rfl | rfl := h.klein rfl
    · rw [cx_31, cx_31, hj]
      by_cases q : divZ v y % 2 = 1
      · have e : ov 3 1 (divZ v y) = true := by unfold ov; exact decide_eq_true (by omega)
        rw [e, if_pos rfl, if_pos q, if_pos q]; exact key _ _ _ (by omega)
      · have e : ov 3 1 (divZ v y) = false := by unfold ov; exact decide_eq_false (by omega)
        rw [e, if_neg q, if_neg q]; exact key _ _ _ rfl
    · have e : ov 3 2 (divZ v y) = false := by unfold ov; exact decide_eq_false (by omega)
      rw [e, if_neg (by decide), cx_3 (by omega), cx_3 (by omega)]; exact key _ _ _ rfl
  · rw [cx_4, cx_4, hj]
    by_cases q : divZ v y % 2 = 1
    · have e : ov 4 t (divZ v y) = true := by unfold ov; exact decide_eq_true (by omega)
      rw [e, if_pos rfl, if_pos q, if_pos q]; exact key _ _ _ (by omega)
    · have e : ov 4 t (divZ v y) = false := by unfold ov; exact decide_eq_false (by omega)
      rw [e, if_neg q, if_neg q]; exact key _ _ _ rfl
theorem step_y {k x y t : Int} (z : Int) {u v u2 v2 : Int} (h : Gl k x y t) (hi : divZ u2 x = divZ u x) : ∃ q, cy k x y t z u2 v2 - cy k x y t z u v = (if ov k (3 - t) (divZ u x) then -(v2 - v) else v2 - v) + y * q := step_x z h.swap hi
end Go.Proofs.YthjiiljglgmkpaaGreatDoor.Fo
