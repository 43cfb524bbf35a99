/- No nought with a sign; a map of its parts. -/
import Derived.Test.YtmlehegahgijhaaJ5
namespace Go.Proofs.Ytmlehegahgijhaa
open Go.RowKit
open Fl
set_option linter.unusedVariables false
set_option linter.unusedSimpArgs false
set_option maxRecDepth 100000

theorem bits0 : Extern.MathFloatBits.float64bits #[.float .f64 0] = pure (.int .u64 0) := rfl
theorem bits_run (w : World) : (callFunc 53 #[.float .f64 0]).run Try.prog w = .ok (.value (.int .u64 0)) w := by
  rw [run_callFunc_extern (fn := Try.f53) (e := Extern.MathFloatBits.float64bits) (by kernel_rfl) (by kernel_rfl) (by kernel_rfl) (by kernel_rfl) (by kernel_rfl), bits0]
  rfl
theorem signbit0 (w : World) : Calls Try.prog 48 #[.float .f64 0] w fun e w' => e = .returned (.bool false) ∧ w' = w := by
  have h := bits_run
  go_enter Try.func48, Try.ntmps48
  go_wp2
  go_ret
  exact ⟨rfl, rfl⟩
theorem noughtC (b : Nat) {n : Int} (h : Is b n) (hc : n = 0 → b = 0) (w : World) : Calls Try.prog 39 #[.float .f64 b] w fun e w' => e = .returned (.bool true) ∧ w' = w := by
  have o1 := is_order h is0
  replace o1 : FloatKind.f64.format.order b 0 = _ := o1
  by_cases hn : n = 0
  · have hb := hc hn
    subst hb
    subst hn
    clear h hc
    replace o1 : FloatKind.f64.format.order 0 0 = some .eq := o1
    have hs := signbit0
    go_enter Try.func39, Try.ntmps39
    go_wp2_with (first | (go_at_call 48; refine (hs _).mono ?_; rintro e w' ⟨rfl, hw'⟩; subst w'))
    go_ret
    exact ⟨rfl, rfl⟩
  · have o2 : (FloatKind.f64.format.order b 0 != some .eq) = true := by
      rw [o1]
      have : compare n 0 ≠ .eq := fun q => hn (Int.compare_eq_eq.1 q)
      simp [bne, this]
    clear h hc o1 hn
    go_enter Try.func39, Try.ntmps39
    go_wp2
    go_ret
    exact ⟨rfl, rfl⟩
theorem cleanC (a b : Nat) (f : Bool) (c d : Nat) (h1 : ∀ w, Calls Try.prog 39 #[.float .f64 a] w fun e w' => e = .returned (.bool true) ∧ w' = w) (h2 : ∀ w, Calls Try.prog 39 #[.float .f64 b] w fun e w' => e = .returned (.bool true) ∧ w' = w) (h3 : ∀ w, Calls Try.prog 39 #[.float .f64 c] w fun e w' => e = .returned (.bool true) ∧ w' = w) (h4 : ∀ w, Calls Try.prog 39 #[.float .f64 d] w fun e w' => e = .returned (.bool true) ∧ w' = w) (w : World) :
    Calls Try.prog 18 #[.agg (mv a b f c d)] w fun e w' => e = .returned (.bool true) ∧ w.grownBy w' none := by
  obtain ⟨W1, hW1, sz1, g1, B1⟩ := boxn w (mv a b f c d) 25
  have c0 := B1.cell 0 (v := .complex .f64 a b) rfl; have c1 := B1.cell 1 (v := .bool f) rfl; have c2 := B1.cell 2 (v := .complex .f64 c d) rfl
  go_enter Try.func18, Try.ntmps18
  go_wp2_with (first | (go_at_call 39; (fail_if_success (guard_hyp mk1)); have mk1 : True := trivial; refine (h1 _).mono ?_; rintro e w' ⟨rfl, hw'⟩; subst w') | (go_at_call 39; (fail_if_success (guard_hyp mk2)); have mk2 : True := trivial; refine (h2 _).mono ?_; rintro e w' ⟨rfl, hw'⟩; subst w') | (go_at_call 39; (fail_if_success (guard_hyp mk3)); have mk3 : True := trivial; refine (h3 _).mono ?_; rintro e w' ⟨rfl, hw'⟩; subst w') | (go_at_call 39; (fail_if_success (guard_hyp mk4)); have mk4 : True := trivial; refine (h4 _).mono ?_; rintro e w' ⟨rfl, hw'⟩; subst w'))
  go_ret
  exact ⟨rfl, g1⟩
theorem cleanM (a b : Nat) (f : Bool) (c d : Nat) {k : Nat} {x y : Int} (h : Mp a b f c d k x y) (g : Cl a b c d k x y) (w : World) : Calls Try.prog 18 #[.agg (mv a b f c d)] w fun e w' => e = .returned (.bool true) ∧ w.grownBy w' none :=
  cleanC a b f c d (noughtC a h.t1 g.c1) (noughtC b h.t2 g.c2) (noughtC c h.m1 g.c3) (noughtC d h.m2 g.c4) w
theorem cleanZ (w : World) : Calls Try.prog 18 #[.agg (mv 0 0 false 0 0)] w fun e w' => e = .returned (.bool true) ∧ w.grownBy w' none :=
  cleanC 0 0 false 0 0 (noughtC 0 is0 fun _ => rfl) (noughtC 0 is0 fun _ => rfl) (noughtC 0 is0 fun _ => rfl) (noughtC 0 is0 fun _ => rfl) w
theorem isoC (a b : Nat) (f : Bool) (c d : Nat) (w : World) : Calls Try.prog 19 #[.agg #[.float .f64 a, .float .f64 b, .bool f, .float .f64 c, .float .f64 d]] w fun e w' => e = .returned (.agg (mv a b f c d)) ∧ w.grownBy w' none := by
  obtain ⟨fs, hfs⟩ := underI
  obtain ⟨W1, hW1, sz1, g1, B1⟩ := boxn w #[.float .f64 a, .float .f64 b, .bool f, .float .f64 c, .float .f64 d] 45
  obtain ⟨W2, hW2, sz2, g2, B2⟩ := boxn W1 #[.complex .f64 0 0, .bool false, .complex .f64 0 0] 25
  have A2 := B1.kept g2 (by simp)
  have st := stC
  have c0 := A2.cell 0 (v := .float .f64 a) rfl; have c1 := A2.cell 1 (v := .float .f64 b) rfl; have c2 := A2.cell 2 (v := .bool f) rfl; have c3 := A2.cell 3 (v := .float .f64 c) rfl; have c4 := A2.cell 4 (v := .float .f64 d) rfl
  have z0 := B2.cell 0 (v := .complex .f64 0 0) rfl; have z1 := B2.cell 1 (v := .bool false) rfl; have z2 := B2.cell 2 (v := .complex .f64 0 0) rfl
  have y0 := B2.frozen 0; have y1 := B2.frozen 1; have y2 := B2.frozen 2
  go_enter Try.func19, Try.ntmps19
  go_wp2
  refine ret_c1 (g := W1.heap.size) (cs := mv a b f c d) rfl hfs infoI rfl (bo3 B2) rfl ⟨rfl, gb3 (gb_trans g1 g2) g1.size⟩
theorem feqT {a c : Nat} {n : Int} (h : Is a n) (g : Is c n) : Op.floatEq .f64 a c = true := (feq h g).trans (decide_eq_true rfl)
theorem refTimesNoG (n : Int) (h : n < 0 ∨ 7 < n) (w : World) : Calls Try.prog 17 #[.int .i64 n] w fun e w' => e = .returned (.tuple #[.int .i64 0, .int .i64 2]) ∧ w.grownBy w' none :=
  (refTimesNo n h w).mono fun e w' q => ⟨q.1, q.2 ▸ World.grownBy.refl _ _⟩
theorem refTimesYesG (k : Nat) (h : k < 8) (w : World) : Calls Try.prog 17 #[.int .i64 k] w fun e w' => e = .returned (.tuple #[.int .i64 (tms k), .int .i64 0]) ∧ w.grownBy w' none :=
  (refTimesYes k h w).mono fun e w' q => ⟨q.1, q.2 ▸ World.grownBy.refl _ _⟩
theorem refShiftM (x y : Int) (hx : nearB x = true) (hy : nearB y = true) (w : World) : Calls Try.prog 24 #[.int .i64 x, .int .i64 y] w fun e w' => ∃ p q, e = .returned (.tuple #[.agg (mv 4607182418800017408 0 false p q), .int .i64 0]) ∧ May 4607182418800017408 0 false p q 0 x y ∧ w.grownBy w' none := by
  refine (refShiftYes x y hx hy w).mono ?_
  rintro e w' ⟨rfl, g⟩
  exact ⟨_, _, rfl, (shift_may x y hx hy).1, g⟩
theorem refBackM (a b : Nat) (f : Bool) (c d : Nat) {k : Nat} {x y : Int} (h : May a b f c d k x y) (X Y : Int) (hX : Hid (-(lx (back k) x y) = X)) (hY : Hid (-(ly (back k) x y) = Y)) (w : World) :
    Calls Try.prog 22 #[.agg (mv a b f c d)] w fun e w' => ∃ p q u v, e = .returned (.tuple #[.agg (mv p q f u v), .int .i64 0]) ∧ May p q f u v (back k) X Y ∧ w.grownBy w' none := by
  refine (refBackYes a b f c d h w).mono ?_
  rintro e w' ⟨rfl, g⟩
  obtain ⟨_, _, b3, b4⟩ := back_tx k h.lt
  have hl := l_near (back k) h.n1 h.n2
  rw [b3, ← h.fl, hX.out, hY.out]
  have := made_may (back k) b4 X Y (hX.out ▸ near_neg hl.1) (hY.out ▸ near_neg hl.2)
  rw [b3, ← h.fl] at this
  exact ⟨_, _, _, _, rfl, this, g⟩
theorem refThenM (a b : Nat) (f : Bool) (c d a2 b2 : Nat) (f2 : Bool) (c2 d2 : Nat) {k l : Nat} {x y u v : Int} (h1 : May a b f c d k x y) (h2 : May a2 b2 f2 c2 d2 l u v) (m : Nat) (hm : Hid (both k l = m)) (X Y : Int) (hX : Hid (lx l x y + u = X)) (hY : Hid (ly l x y + v = Y)) (n1 : nearB X = true) (n2 : nearB Y = true) (w : World) :
    Calls Try.prog 27 #[.agg (mv a b f c d), .agg (mv a2 b2 f2 c2 d2)] w fun e w' => ∃ p q i j, e = .returned (.tuple #[.agg (mv p q (fl4 m) i j), .int .i64 0]) ∧ May p q (fl4 m) i j m X Y ∧ w.grownBy w' none := by
  refine (refThen_core a b f c d a2 b2 f2 c2 d2 h1 h2 X Y hX.out hY.out w).mono ?_
  rintro e w' ⟨rfl, g⟩
  have hlt := (both_tx k h1.lt l h2.lt).2.2.2
  rw [n1, n2, hm.out]
  rw [hm.out] at hlt
  exact ⟨_, _, _, _, rfl, made_may m hlt X Y n1 n2, g⟩
theorem refThenFar (a b : Nat) (f : Bool) (c d a2 b2 : Nat) (f2 : Bool) (c2 d2 : Nat) {k l : Nat} {x y u v : Int} (h1 : May a b f c d k x y) (h2 : May a2 b2 f2 c2 d2 l u v) (n : (nearB (lx l x y + u) && nearB (ly l x y + v)) = false) (w : World) :
    Calls Try.prog 27 #[.agg (mv a b f c d), .agg (mv a2 b2 f2 c2 d2)] w fun e w' => e = .returned (.tuple #[.agg (mv 0 0 false 0 0), .int .i64 5]) ∧ w.grownBy w' none := by
  refine (refThen_core a b f c d a2 b2 f2 c2 d2 h1 h2 _ _ rfl rfl w).mono ?_
  rw [n]
  exact fun e w' q => q
theorem refAtYes (a b : Nat) (f : Bool) (c d : Nat) (X Y : Int) {k : Nat} {x y : Int} (h : May a b f c d k x y) (hx : nearB X = true) (hy : nearB Y = true) (U V : Int) (hU : Hid (lx k X Y + x = U)) (hV : Hid (ly k X Y + y = V)) (nu : nearB U = true) (nv : nearB V = true) (w : World) :
    Calls Try.prog 25 #[.agg (mv a b f c d), .agg #[.int .i64 X, .int .i64 Y]] w fun e w' => e = .returned (.tuple #[.agg #[.int .i64 U, .int .i64 V], .int .i64 0]) ∧ w.grownBy w' none := by
  refine (refAt_core a b f c d X Y h hx hy U V hU.out hV.out w).mono ?_
  rw [nu, nv]
  exact fun e w' h => h
theorem refAtFar2 (a b : Nat) (f : Bool) (c d : Nat) (X Y : Int) {k : Nat} {x y : Int} (h : May a b f c d k x y) (hx : nearB X = true) (hy : nearB Y = true) (n : (nearB (lx k X Y + x) && nearB (ly k X Y + y)) = false) (w : World) :
    Calls Try.prog 25 #[.agg (mv a b f c d), .agg #[.int .i64 X, .int .i64 Y]] w fun e w' => e = .returned (.tuple #[.agg #[.int .i64 0, .int .i64 0], .int .i64 5]) ∧ w.grownBy w' none := by
  refine (refAt_core a b f c d X Y h hx hy _ _ rfl rfl w).mono ?_
  rw [n]
  exact fun e w' h => h
end Go.Proofs.Ytmlehegahgijhaa
