/- Maps one behind the other, and where places come to, for a chain of calls; the first lines of every statement. -/
import Derived.Test.YtgiiaokkmnjckabI6
namespace Go.Proofs.Ytgiiaokkmnjckab
open Go.RowKit
open Fl
set_option linter.unusedVariables false
set_option linter.unusedSimpArgs false
set_option maxRecDepth 100000

theorem validYes (a b : Nat) (f : Bool) (c d : Nat) {k : Nat} {x y : Int} (h : May a b f c d k x y) (w : World) : Calls Try.prog 37 #[.agg (mv a b f c d)] w fun e w' => e = .returned (.bool true) ∧ w.grownBy w' none := by
  have hq := validC a b f c d w
  rw [h.v] at hq
  exact hq
theorem thenYes (a b : Nat) (f : Bool) (c d a2 b2 : Nat) (f2 : Bool) (c2 d2 : Nat) (f3 : Bool) (hf : (f != f2) = f3) {k l : Nat} {x y u v : Int} (m : Nat) (hm : both k l = m) (X Y : Int) (hX : lx l x y + u = X) (hY : ly l x y + v = Y) (h1 : May a b f c d k x y) (h2 : May a2 b2 f2 c2 d2 l u v) (n1 : nearB X = true) (n2 : nearB Y = true) (w : World) :
    Calls Try.prog 58 #[.agg (mv a b f c d), .agg (mv a2 b2 f2 c2 d2)] w fun e w' => ∃ p q r s, e = .returned (.tuple #[.agg (mv p q f3 r s), .int .i64 0]) ∧ May p q f3 r s m X Y ∧ Cl p q r s m X Y ∧ w.grownBy w' none := by
  subst hf hm hX hY
  refine (then_core a b f c d a2 b2 f2 c2 d2 h1 h2 w).mono ?_
  rintro e w' ⟨g, hy, hn⟩
  obtain ⟨p, q, r, s, he, my, cl⟩ := hy (by rw [n1, n2]; rfl)
  exact ⟨p, q, r, s, he, my, cl, g⟩
theorem thenFar (a b : Nat) (f : Bool) (c d a2 b2 : Nat) (f2 : Bool) (c2 d2 : Nat) {k l : Nat} {x y u v : Int} (h1 : May a b f c d k x y) (h2 : May a2 b2 f2 c2 d2 l u v) (n : (nearB (lx l x y + u) && nearB (ly l x y + v)) = false) (w : World) :
    Calls Try.prog 58 #[.agg (mv a b f c d), .agg (mv a2 b2 f2 c2 d2)] w fun e w' => e = .returned (.tuple #[.agg (mv 0 0 false 0 0), .int .i64 5]) ∧ w.grownBy w' none := by
  refine (then_core a b f c d a2 b2 f2 c2 d2 h1 h2 w).mono ?_
  rintro e w' ⟨g, hy, hn⟩
  exact ⟨hn n, g⟩
theorem atYes (a b : Nat) (f : Bool) (c d : Nat) (X Y : Int) {k : Nat} {x y : Int} (h : May a b f c d k x y) (hx : nearB X = true) (hy : nearB Y = true) (U V : Int) (hU : lx k X Y + x = U) (hV : ly k X Y + y = V) (nu : nearB U = true) (nv : nearB V = true) (w : World) :
    Calls Try.prog 18 #[.agg (mv a b f c d), .agg #[.int .i64 X, .int .i64 Y]] w fun e w' => e = .returned (.tuple #[.agg #[.int .i64 U, .int .i64 V], .int .i64 0]) ∧ w.grownBy w' none := by
  subst hU hV
  refine (at_core a b f c d X Y h hx hy w).mono ?_
  rw [nu, nv]
  exact fun e w' h => h
theorem atFar2 (a b : Nat) (f : Bool) (c d : Nat) (X Y : Int) {k : Nat} {x y : Int} (h : May a b f c d k x y) (hx : nearB X = true) (hy : nearB Y = true) (n : (nearB (lx k X Y + x) && nearB (ly k X Y + y)) = false) (w : World) :
    Calls Try.prog 18 #[.agg (mv a b f c d), .agg #[.int .i64 X, .int .i64 Y]] w fun e w' => e = .returned (.tuple #[.agg #[.int .i64 0, .int .i64 0], .int .i64 5]) ∧ w.grownBy w' none := by
  refine (at_core a b f c d X Y h hx hy w).mono ?_
  rw [n]
  exact fun e w' h => h
theorem shiftM (x y : Int) (hx : nearB x = true) (hy : nearB y = true) (w : World) : Calls Try.prog 57 #[.int .i64 x, .int .i64 y] w fun e w' => ∃ r s, e = .returned (.tuple #[.agg (mv 4607182418800017408 0 false r s), .int .i64 0]) ∧ May 4607182418800017408 0 false r s 0 x y ∧ Cl 4607182418800017408 0 r s 0 x y ∧ w.grownBy w' none := by
  refine (shiftYes x y hx hy w).mono ?_
  rintro e w' ⟨rfl, g⟩
  exact ⟨_, _, rfl, (shift_may x y hx hy).1, (shift_may x y hx hy).2, g⟩
theorem pm1 : May 0 4607182418800017408 false 0 0 1 0 0 := (part_may 1 (by decide)).1
theorem pm4 : May 4607182418800017408 0 true 0 0 4 0 0 := (part_may 4 (by decide)).1
theorem m10 : May 0 4607182418800017408 false 4621819117588971520 0 1 10 0 := ⟨⟨by decide, is0, is1, rfl, ⟨false, 5629499534213120, -49, by decide, by decide⟩, is0⟩, rfl, rfl⟩
end Go.Proofs.Ytgiiaokkmnjckab
