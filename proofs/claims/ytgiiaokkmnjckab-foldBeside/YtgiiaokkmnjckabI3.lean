/- Where a map takes a number; the four Turns. -/
import Derived.Test.YtgiiaokkmnjckabI2
import Derived.Deep.RegionWith
namespace Go.Proofs.Ytgiiaokkmnjckab
open Go.RowKit
open Fl
set_option linter.unusedVariables false
set_option linter.unusedSimpArgs false
set_option maxRecDepth 100000

/-- The value of a map. -/
abbrev mv (a b : Nat) (f : Bool) (c d : Nat) : Array Value := #[.complex .f64 a b, .bool f, .complex .f64 c d]
/-- A number, or its opposite. -/
def cj (f : Bool) (y : Int) : Int := if f then -y else y
theorem cj_abs (f : Bool) (y : Int) : (cj f y).natAbs = y.natAbs := by unfold cj; split <;> omega
theorem turnedC (a b : Nat) (f : Bool) (c d p q : Nat) {u v x y : Int} (ha : Is a u) (hb : Is b v) (hp : Is p x) (hq : Is q y) (hu : Unit1 u) (hv : Unit1 v) (hx : x.natAbs ≤ 2 ^ 42) (hy : y.natAbs ≤ 2 ^ 42) (w : World) :
    Calls Try.prog 40 #[.agg (mv a b f c d), .complex .f64 p q] w fun e w' => ∃ re im, e = .returned (.complex .f64 re im) ∧ Is re (u * x - v * cj f y) ∧ Is im (u * cj f y + v * x) ∧ w.grownBy w' none := by
  obtain ⟨W1, hW1, sz1, g1, B1⟩ := boxn w (mv a b f c d) 48
  have c0 := B1.cell 0 (v := .complex .f64 a b) rfl
  have c1 := B1.cell 1 (v := .bool f) rfl
  cases f
  · obtain ⟨re, im, hm, i1, i2⟩ := is_cmul ha hb hp hq hu hv hx hy
    have hr := fun t w => run_complex_mul (P := Try.prog) w t a b p q re im hm
    clear hm ha hb hp hq hu hv hx hy
    go_enter Try.func40, Try.ntmps40
    go_wp2
    go_ret
    exact ⟨re, im, rfl, i1, i2, g1⟩
  · obtain ⟨re, im, hm, i1, i2⟩ := is_cmul ha hb hp (is_neg hq) hu hv hx (by omega)
    have hr := fun t w => run_complex_mul (P := Try.prog) w t a b p (Op.negFloat .f64 q) re im hm
    clear hm ha hb hp hq hu hv hx hy
    go_enter Try.func40, Try.ntmps40
    go_wp2_with (first | (go_at_call 38; refine (conjC _ _ _).mono ?_; rintro e w' ⟨rfl, hw'⟩; subst w'))
    go_ret
    exact ⟨re, im, rfl, i1, i2, g1⟩
theorem unit_two {u v x y : Int} (hu : Unit1 u) (hv : Unit1 v) (h : u = 0 ∨ v = 0) : (u * x - v * y).natAbs ≤ max x.natAbs y.natAbs := by
  have h1 := unit_mul (x := x) hu
  have h2 := unit_mul (x := y) hv
  rcases h with rfl | rfl
  · rw [Int.zero_mul]; omega
  · rw [Int.zero_mul]; omega
theorem movedC (a b : Nat) (f : Bool) (c d p q : Nat) {u v x y X Y : Int} (ha : Is a u) (hb : Is b v) (hp : Is p x) (hq : Is q y) (hc : Is c X) (hd : Is d Y) (hu : Unit1 u) (hv : Unit1 v) (hx : x.natAbs ≤ 2 ^ 42) (hy : y.natAbs ≤ 2 ^ 42) (hX : X.natAbs ≤ 2 ^ 42) (hY : Y.natAbs ≤ 2 ^ 42) (w : World) :
    Calls Try.prog 42 #[.agg (mv a b f c d), .complex .f64 p q] w fun e w' => ∃ re im, e = .returned (.complex .f64 re im) ∧ Is re (u * x - v * cj f y + X) ∧ Is im (u * cj f y + v * x + Y) ∧ w.grownBy w' none := by
  obtain ⟨W1, hW1, sz1, g1, B1⟩ := boxn w (mv a b f c d) 48
  have c0 := B1.cell 0 (v := .complex .f64 a b) rfl
  have c1 := B1.cell 1 (v := .bool f) rfl
  have c2 := B1.cell 2 (v := .complex .f64 c d) rfl
  have hh := turnedC a b f c d p q ha hb hp hq hu hv hx hy
  have h1 := unit_mul (x := x) hu
  have h2 := unit_mul (x := cj f y) hv
  have h3 := unit_mul (x := cj f y) hu
  have h4 := unit_mul (x := x) hv
  have h5 := cj_abs f y
  have hadd := fun re im (i1 : Is re (u * x - v * cj f y)) (i2 : Is im (u * cj f y + v * x)) => is_cadd i1 i2 hc hd (by omega) (by omega)
  clear ha hb hp hq hu hv hx hy hc hd hX hY h1 h2 h3 h4 h5
  go_enter Try.func42, Try.ntmps42
  go_wp2
  go_region_with (first | (go_at_call 40; refine (hh _).mono ?_; rintro e w2 ⟨re, im, rfl, i1, i2, g2⟩; have d2 := (B1.dr.kept g2 (by simp)).cell 2 (v := .complex .f64 c d) rfl; obtain ⟨re', im', hs, j1, j2⟩ := hadd re im i1 i2; have hr := fun t w => run_complex_sum (P := Try.prog) w .add (.inl rfl) t .f64 re im c d re' im' hs; clear hs))
  all_goals go_wp2
  all_goals go_ret
  all_goals exact ⟨re', im', rfl, j1, j2, gb_trans (gb_drew g1) g2⟩

theorem ret_a1 {P : Program} {fn : Func} {R : Ending → World → Prop} {a : Act} {w : World} {p : Tmp} {ty : TypeId} (h : fn.results = #[.cell p ty]) {g : Nat} {t : TypeId} {cs : Array Value} {el : TypeId} {n : Nat}
    (hu : P.underlying ty = some (.array n el)) (hi : (P.info? ty).map (·.size) = some cs.size) (hp : a.tmps.getD p undef = .pointer (some ⟨g, 0, none⟩)) (hg : Bo w g t cs) (hdf : a.defers = []) (hR : R (.returned (.agg cs)) w) :
    bodyPost P fn R .ret a w :=
  bodyPost_ret (results_cell_row h a.tmps w g t cs (0, 0) (.array n el) hp hg hu rfl hi) hdf hR
theorem underA : ∃ n el, Try.prog.underlying 105 = some (.array n el) := by
  first | exact ⟨_, _, Try.underlying105⟩ | exact ⟨_, _, by kernel_rfl⟩
theorem infoA : (Try.prog.info? 105).map (·.size) = some 4 := by kernel_rfl
theorem stC (w : World) (a : Addr) (x y : Nat) (m : Mode) : (store a (.complex .f64 x y) m).run Try.prog w = stored Try.prog w a (.complex .f64 x y) m := run_store _ _ _ _ _ rfl
theorem turnsC (w : World) : Calls Try.prog 75 #[] w fun e w' => e = .returned (.agg #[.complex .f64 4607182418800017408 0, .complex .f64 0 4607182418800017408, .complex .f64 13830554455654793216 0, .complex .f64 0 13830554455654793216]) ∧ w.grownBy w' none := by
  obtain ⟨n, el, hu⟩ := underA
  obtain ⟨W1, hW1, sz1, g1, B1⟩ := boxn w #[.complex .f64 0 0, .complex .f64 0 0, .complex .f64 0 0, .complex .f64 0 0] 105
  have c0 := B1.cell 0 (v := .complex .f64 0 0) rfl
  have c1 := B1.cell 1 (v := .complex .f64 0 0) rfl
  have c2 := B1.cell 2 (v := .complex .f64 0 0) rfl
  have c3 := B1.cell 3 (v := .complex .f64 0 0) rfl
  have f0 := B1.frozen 0
  have f1 := B1.frozen 1
  have f2 := B1.frozen 2
  have f3 := B1.frozen 3
  have st := stC
  go_enter Try.func75, Try.ntmps75
  go_wp2
  refine ret_a1 (g := w.heap.size) (cs := #[.complex .f64 4607182418800017408 0, .complex .f64 0 4607182418800017408, .complex .f64 13830554455654793216 0, .complex .f64 0 13830554455654793216]) rfl hu infoA rfl ((((B1.set 0 _).set 1 _).set 2 _).set 3 _) rfl ⟨rfl, gb_new (gb_new (gb_new (gb_new g1 (Nat.le_refl _) _) (Nat.le_refl _) _) (Nat.le_refl _) _) (Nat.le_refl _) _⟩

theorem is1 : Is 4607182418800017408 1 := ⟨false, 2 ^ 52, -52, by decide, by decide⟩
theorem isM1 : Is 13830554455654793216 (-1) := ⟨true, 2 ^ 52, -52, by decide, by decide⟩
/-- The parts of the four Turns. -/
def tx (k : Nat) : Int := if k % 4 = 0 then 1 else if k % 4 = 2 then -1 else 0
def ty (k : Nat) : Int := if k % 4 = 1 then 1 else if k % 4 = 3 then -1 else 0
/-- Is it one of the four? -/
def Tu (a b : Nat) : Prop := ∃ q, q < 4 ∧ Is a (tx q) ∧ Is b (ty q)
theorem ix0 (x0 x1 x2 x3 : Value) (w : World) : (Instr.index 105 (.agg #[x0, x1, x2, x3]) (.int .i64 0)).run Try.prog w = .ok x0 w := by kernel_rfl
theorem ix1 (x0 x1 x2 x3 : Value) (w : World) : (Instr.index 105 (.agg #[x0, x1, x2, x3]) (.int .i64 1)).run Try.prog w = .ok x1 w := by kernel_rfl
theorem ix2 (x0 x1 x2 x3 : Value) (w : World) : (Instr.index 105 (.agg #[x0, x1, x2, x3]) (.int .i64 2)).run Try.prog w = .ok x2 w := by kernel_rfl
theorem ix3 (x0 x1 x2 x3 : Value) (w : World) : (Instr.index 105 (.agg #[x0, x1, x2, x3]) (.int .i64 3)).run Try.prog w = .ok x3 w := by kernel_rfl
theorem quarterYes (a b q : Nat) (hq : q < 4) (ha : Is a (tx q)) (hb : Is b (ty q)) (w : World) : Calls Try.prog 60 #[.complex .f64 a b] w fun e w' => e = .returned (.tuple #[.int .i64 q, .bool true]) ∧ w.grownBy w' none := by
  have o1 := is_order is1 ha
  have o2 := is_order is0 ha
  have o3 := is_order isM1 ha
  have p1 := is_order is1 hb
  have p2 := is_order is0 hb
  have p3 := is_order isM1 hb
  replace o1 : FloatKind.f64.format.order 4607182418800017408 a = _ := o1
  replace o2 : FloatKind.f64.format.order 0 a = _ := o2
  replace o3 : FloatKind.f64.format.order 13830554455654793216 a = _ := o3
  replace p1 : FloatKind.f64.format.order 4607182418800017408 b = _ := p1
  replace p2 : FloatKind.f64.format.order 0 b = _ := p2
  replace p3 : FloatKind.f64.format.order 13830554455654793216 b = _ := p3
  have i0 := ix0
  have i1 := ix1
  have i2 := ix2
  have i3 := ix3
  clear ha hb
  obtain rfl | rfl | rfl | rfl : q = 0 ∨ q = 1 ∨ q = 2 ∨ q = 3 := by omega
  · simp only [show tx 0 = 1 from rfl, show ty 0 = 0 from rfl] at o1 o2 o3 p1 p2 p3
    clear hq
    go_enter Try.func60, Try.ntmps60
    go_wp2_with (first | (go_at_call 75; refine (turnsC _).mono ?_; rintro e w1 ⟨rfl, g1⟩))
    refine wp_loop_rounds 5 ?_
    rw [rounds_succ]
    go_wp2
    go_ret2
    exact ⟨rfl, g1⟩
  · simp only [show tx 1 = 0 from rfl, show ty 1 = 1 from rfl] at o1 o2 o3 p1 p2 p3
    clear hq
    go_enter Try.func60, Try.ntmps60
    go_wp2_with (first | (go_at_call 75; refine (turnsC _).mono ?_; rintro e w1 ⟨rfl, g1⟩))
    refine wp_loop_rounds 5 ?_
    rw [rounds_succ]
    go_wp2
    rw [rounds_succ]
    go_wp2
    go_ret2
    exact ⟨rfl, g1⟩
  · simp only [show tx 2 = -1 from rfl, show ty 2 = 0 from rfl] at o1 o2 o3 p1 p2 p3
    clear hq
    go_enter Try.func60, Try.ntmps60
    go_wp2_with (first | (go_at_call 75; refine (turnsC _).mono ?_; rintro e w1 ⟨rfl, g1⟩))
    refine wp_loop_rounds 5 ?_
    rw [rounds_succ]
    go_wp2
    rw [rounds_succ]
    go_wp2
    rw [rounds_succ]
    go_wp2
    go_ret2
    exact ⟨rfl, g1⟩
  · simp only [show tx 3 = 0 from rfl, show ty 3 = -1 from rfl] at o1 o2 o3 p1 p2 p3
    clear hq
    go_enter Try.func60, Try.ntmps60
    go_wp2_with (first | (go_at_call 75; refine (turnsC _).mono ?_; rintro e w1 ⟨rfl, g1⟩))
    refine wp_loop_rounds 5 ?_
    rw [rounds_succ]
    go_wp2
    rw [rounds_succ]
    go_wp2
    rw [rounds_succ]
    go_wp2
    rw [rounds_succ]
    go_wp2
    go_ret2
    exact ⟨rfl, g1⟩
theorem quarterNo (a b : Nat) (h : ¬ Tu a b) (w : World) : Calls Try.prog 60 #[.complex .f64 a b] w fun e w' => e = .returned (.tuple #[.int .i64 0, .bool false]) ∧ w.grownBy w' none := by
    have n0 : ((FloatKind.f64.format.order 4607182418800017408 a == some .eq) && (FloatKind.f64.format.order 0 b == some .eq)) = false := by
      refine Bool.eq_false_iff.2 fun k => h ⟨0, by decide, ?_, ?_⟩
      · exact (order_is is1).1 (Bool.and_eq_true_iff.1 k).1
      · exact (order_is is0).1 (Bool.and_eq_true_iff.1 k).2
    have n1 : ((FloatKind.f64.format.order 0 a == some .eq) && (FloatKind.f64.format.order 4607182418800017408 b == some .eq)) = false := by
      refine Bool.eq_false_iff.2 fun k => h ⟨1, by decide, ?_, ?_⟩
      · exact (order_is is0).1 (Bool.and_eq_true_iff.1 k).1
      · exact (order_is is1).1 (Bool.and_eq_true_iff.1 k).2
    have n2 : ((FloatKind.f64.format.order 13830554455654793216 a == some .eq) && (FloatKind.f64.format.order 0 b == some .eq)) = false := by
      refine Bool.eq_false_iff.2 fun k => h ⟨2, by decide, ?_, ?_⟩
      · exact (order_is isM1).1 (Bool.and_eq_true_iff.1 k).1
      · exact (order_is is0).1 (Bool.and_eq_true_iff.1 k).2
    have n3 : ((FloatKind.f64.format.order 0 a == some .eq) && (FloatKind.f64.format.order 13830554455654793216 b == some .eq)) = false := by
      refine Bool.eq_false_iff.2 fun k => h ⟨3, by decide, ?_, ?_⟩
      · exact (order_is is0).1 (Bool.and_eq_true_iff.1 k).1
      · exact (order_is isM1).1 (Bool.and_eq_true_iff.1 k).2
    clear h
    have i0 := ix0
    have i1 := ix1
    have i2 := ix2
    have i3 := ix3
    go_enter Try.func60, Try.ntmps60
    go_wp2_with (first | (go_at_call 75; refine (turnsC _).mono ?_; rintro e w1 ⟨rfl, g1⟩))
    refine wp_loop_rounds 5 ?_
    rw [rounds_succ]
    go_wp2
    rw [rounds_succ]
    go_wp2
    rw [rounds_succ]
    go_wp2
    rw [rounds_succ]
    go_wp2
    rw [rounds_succ]
    go_wp2
    go_ret2
    exact ⟨rfl, g1⟩
end Go.Proofs.Ytgiiaokkmnjckab
