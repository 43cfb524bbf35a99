/- What the document's folded answers. -/
import Derived.Test.YtgiiaokkmnjckaaF6
namespace Go.Proofs.Ytgiiaokkmnjckaa
open Go.RowKit
open Fl
set_option linter.unusedVariables false
set_option linter.unusedSimpArgs false
set_option maxRecDepth 100000

set_option maxHeartbeats 1000000 in
theorem rf2n (x y t z u v i j : Int) (lx : 0 ≤ x) (mx : x ≤ 65536) (ly : 0 ≤ y) (my : y ≤ 65536) (lz : -65536 ≤ z) (mz : z ≤ 65536) (lu : -2199023255552 ≤ u) (mu : u ≤ 2199023255552) (lv : -2199023255552 ≤ v) (mv : v ≤ 2199023255552) (h1 : (t == 1) = false) (h2 : (t == 2) = false) (ht1 : ∀ w, Calls Try.prog 38 #[.int .i64 u, .int .i64 x] w fun e w' => e = .returned (.int .i64 i) ∧ w' = w) (ht2 : ∀ w, Calls Try.prog 38 #[.int .i64 v, .int .i64 y] w fun e w' => e = .returned (.int .i64 j) ∧ w' = w) (w : World) : Calls Try.prog 32 #[.agg #[.int .u8 2, .int .i64 x, .int .i64 y, .int .u8 t, .int .i64 z], .int .i64 u, .int .i64 v] w fun e w' => e = .returned (.tuple #[.int .i64 (Fo.wi u x), .int .i64 (Fo.wi v y)]) ∧ w.grownBy w' none := by
  have hw1 := refWithinC u x lx mx
  have hw2 := refWithinC v y ly my
  obtain ⟨W1, hW1, sz1, g1, B1⟩ := boxn w #[.int .u8 2, .int .i64 x, .int .i64 y, .int .u8 t, .int .i64 z] 23
  have b1_1_0 := B1.cell 0 (v := .int .u8 2) rfl
  have b1_1_1 := B1.cell 1 (v := .int .i64 x) rfl
  have b1_1_2 := B1.cell 2 (v := .int .i64 y) rfl
  have b1_1_3 := B1.cell 3 (v := .int .u8 t) rfl
  have b1_1_4 := B1.cell 4 (v := .int .i64 z) rfl
  go_enter Try.func32, Try.ntmps32
  go_wp2_with (first | (go_at_call 38; (fail_if_success (guard_hyp mk1)); refine (ht1 _).mono ?_; rintro e w' ⟨rfl, hw'⟩; subst w'; have mk1 : True := trivial) | (go_at_call 38; (fail_if_success (guard_hyp mk2)); refine (ht2 _).mono ?_; rintro e w' ⟨rfl, hw'⟩; subst w'; have mk2 : True := trivial) | (go_at_call 66; (fail_if_success (guard_hyp mk3)); refine (hw1 _).mono ?_; rintro e w' ⟨rfl, hw'⟩; subst w'; have mk3 : True := trivial) | (go_at_call 66; (fail_if_success (guard_hyp mk4)); refine (hw2 _).mono ?_; rintro e w' ⟨rfl, hw'⟩; subst w'; have mk4 : True := trivial) | (go_at_call 37; refine (refOddC _ _).mono ?_; rintro e w' ⟨rfl, hw'⟩; subst w'))
  go_ret2
  exact ⟨rfl, g1⟩

set_option maxHeartbeats 1000000 in
theorem rf21 (x y z u v i j : Int) (lx : 0 ≤ x) (mx : x ≤ 65536) (ly : 0 ≤ y) (my : y ≤ 65536) (lz : -65536 ≤ z) (mz : z ≤ 65536) (lu : -2199023255552 ≤ u) (mu : u ≤ 2199023255552) (lv : -2199023255552 ≤ v) (mv : v ≤ 2199023255552) (hx1 : 1 ≤ x) (lJ : -144115188075855872 ≤ j * z) (mJ : j * z ≤ 144115188075855872) (ht1 : ∀ w, Calls Try.prog 38 #[.int .i64 u, .int .i64 x] w fun e w' => e = .returned (.int .i64 i) ∧ w' = w) (ht2 : ∀ w, Calls Try.prog 38 #[.int .i64 v, .int .i64 y] w fun e w' => e = .returned (.int .i64 j) ∧ w' = w) (w : World) : Calls Try.prog 32 #[.agg #[.int .u8 2, .int .i64 x, .int .i64 y, .int .u8 1, .int .i64 z], .int .i64 u, .int .i64 v] w fun e w' => e = .returned (.tuple #[.int .i64 ((u - j * z % x) % x), .int .i64 (Fo.wi v y)]) ∧ w.grownBy w' none := by
  have hw1 := refWithinC u x lx mx
  have hw2 := refWithinC v y ly my
  have hm1 := refModC (j * z) x hx1 mx
  have hm2 := refModC (u - j * z % x) x hx1 mx
  have hb := Int.emod_nonneg (j * z) (show x ≠ 0 by omega)
  have hc := Int.emod_lt_of_pos (j * z) (show (0:Int) < x by omega)
  have hwz : IntKind.i64.wrap (j * z) = j * z := by rw [IntKind.wrap_i64]; omega
  have hwu : IntKind.i64.wrap (u - j * z % x) = u - j * z % x := by rw [IntKind.wrap_i64]; omega
  generalize j * z % x = J at *
  obtain ⟨W1, hW1, sz1, g1, B1⟩ := boxn w #[.int .u8 2, .int .i64 x, .int .i64 y, .int .u8 1, .int .i64 z] 23
  have b1_1_0 := B1.cell 0 (v := .int .u8 2) rfl
  have b1_1_1 := B1.cell 1 (v := .int .i64 x) rfl
  have b1_1_2 := B1.cell 2 (v := .int .i64 y) rfl
  have b1_1_3 := B1.cell 3 (v := .int .u8 1) rfl
  have b1_1_4 := B1.cell 4 (v := .int .i64 z) rfl
  go_enter Try.func32, Try.ntmps32
  go_wp2_with (first | (go_at_call 38; (fail_if_success (guard_hyp mk1)); refine (ht1 _).mono ?_; rintro e w' ⟨rfl, hw'⟩; subst w'; have mk1 : True := trivial) | (go_at_call 38; (fail_if_success (guard_hyp mk2)); refine (ht2 _).mono ?_; rintro e w' ⟨rfl, hw'⟩; subst w'; have mk2 : True := trivial) | (go_at_call 66; (fail_if_success (guard_hyp mk3)); refine (hw1 _).mono ?_; rintro e w' ⟨rfl, hw'⟩; subst w'; have mk3 : True := trivial) | (go_at_call 66; (fail_if_success (guard_hyp mk4)); refine (hw2 _).mono ?_; rintro e w' ⟨rfl, hw'⟩; subst w'; have mk4 : True := trivial) | (go_at_call 37; refine (refOddC _ _).mono ?_; rintro e w' ⟨rfl, hw'⟩; subst w'))
  go_region_held2 (fun w' => w'.cell? ⟨w.heap.size, 0, none⟩ = some (.int .u8 2) ∧ w'.cell? ⟨w.heap.size, 1, none⟩ = some (.int .i64 x) ∧ w'.cell? ⟨w.heap.size, 2, none⟩ = some (.int .i64 y) ∧ w'.cell? ⟨w.heap.size, 3, none⟩ = some (.int .u8 1) ∧ w'.cell? ⟨w.heap.size, 4, none⟩ = some (.int .i64 z)) (go_keep) (first | (go_at_call 67; (fail_if_success (guard_hyp mm0)); refine (hm1 _).mono ?_; rintro e w' ⟨rfl, hw'⟩; subst w'; have mm0 : True := trivial) | (go_at_call 67; (fail_if_success (guard_hyp mm1)); refine (hm2 _).mono ?_; rintro e w' ⟨rfl, hw'⟩; subst w'; have mm1 : True := trivial))
  have B1d := B1.dr
  have g1d := gb_drew g1
  clear b1_1_0 b1_1_1 b1_1_2 b1_1_3 b1_1_4
  have b1_2_0 := B1d.cell 0 (v := .int .u8 2) rfl
  have b1_2_1 := B1d.cell 1 (v := .int .i64 x) rfl
  have b1_2_2 := B1d.cell 2 (v := .int .i64 y) rfl
  have b1_2_3 := B1d.cell 3 (v := .int .u8 1) rfl
  have b1_2_4 := B1d.cell 4 (v := .int .i64 z) rfl
  go_wp2
  go_ret2
  exact ⟨rfl, g1d⟩

set_option maxHeartbeats 1000000 in
theorem rf22 (x y z u v i j : Int) (lx : 0 ≤ x) (mx : x ≤ 65536) (ly : 0 ≤ y) (my : y ≤ 65536) (lz : -65536 ≤ z) (mz : z ≤ 65536) (lu : -2199023255552 ≤ u) (mu : u ≤ 2199023255552) (lv : -2199023255552 ≤ v) (mv : v ≤ 2199023255552) (hy1 : 1 ≤ y) (lJ : -144115188075855872 ≤ i * z) (mJ : i * z ≤ 144115188075855872) (ht1 : ∀ w, Calls Try.prog 38 #[.int .i64 u, .int .i64 x] w fun e w' => e = .returned (.int .i64 i) ∧ w' = w) (ht2 : ∀ w, Calls Try.prog 38 #[.int .i64 v, .int .i64 y] w fun e w' => e = .returned (.int .i64 j) ∧ w' = w) (w : World) : Calls Try.prog 32 #[.agg #[.int .u8 2, .int .i64 x, .int .i64 y, .int .u8 2, .int .i64 z], .int .i64 u, .int .i64 v] w fun e w' => e = .returned (.tuple #[.int .i64 (Fo.wi u x), .int .i64 ((v - i * z % y) % y)]) ∧ w.grownBy w' none := by
  have hw1 := refWithinC u x lx mx
  have hw2 := refWithinC v y ly my
  have hm1 := refModC (i * z) y hy1 my
  have hm2 := refModC (v - i * z % y) y hy1 my
  have hb := Int.emod_nonneg (i * z) (show y ≠ 0 by omega)
  have hc := Int.emod_lt_of_pos (i * z) (show (0:Int) < y by omega)
  have hwz : IntKind.i64.wrap (i * z) = i * z := by rw [IntKind.wrap_i64]; omega
  have hwu : IntKind.i64.wrap (v - i * z % y) = v - i * z % y := by rw [IntKind.wrap_i64]; omega
  generalize i * z % y = J at *
  obtain ⟨W1, hW1, sz1, g1, B1⟩ := boxn w #[.int .u8 2, .int .i64 x, .int .i64 y, .int .u8 2, .int .i64 z] 23
  have b1_1_0 := B1.cell 0 (v := .int .u8 2) rfl
  have b1_1_1 := B1.cell 1 (v := .int .i64 x) rfl
  have b1_1_2 := B1.cell 2 (v := .int .i64 y) rfl
  have b1_1_3 := B1.cell 3 (v := .int .u8 2) rfl
  have b1_1_4 := B1.cell 4 (v := .int .i64 z) rfl
  go_enter Try.func32, Try.ntmps32
  go_wp2_with (first | (go_at_call 38; (fail_if_success (guard_hyp mk1)); refine (ht1 _).mono ?_; rintro e w' ⟨rfl, hw'⟩; subst w'; have mk1 : True := trivial) | (go_at_call 38; (fail_if_success (guard_hyp mk2)); refine (ht2 _).mono ?_; rintro e w' ⟨rfl, hw'⟩; subst w'; have mk2 : True := trivial) | (go_at_call 66; (fail_if_success (guard_hyp mk3)); refine (hw1 _).mono ?_; rintro e w' ⟨rfl, hw'⟩; subst w'; have mk3 : True := trivial) | (go_at_call 66; (fail_if_success (guard_hyp mk4)); refine (hw2 _).mono ?_; rintro e w' ⟨rfl, hw'⟩; subst w'; have mk4 : True := trivial) | (go_at_call 37; refine (refOddC _ _).mono ?_; rintro e w' ⟨rfl, hw'⟩; subst w'))
  go_region_held2 (fun w' => w'.cell? ⟨w.heap.size, 0, none⟩ = some (.int .u8 2) ∧ w'.cell? ⟨w.heap.size, 1, none⟩ = some (.int .i64 x) ∧ w'.cell? ⟨w.heap.size, 2, none⟩ = some (.int .i64 y) ∧ w'.cell? ⟨w.heap.size, 3, none⟩ = some (.int .u8 2) ∧ w'.cell? ⟨w.heap.size, 4, none⟩ = some (.int .i64 z)) (go_keep) (first | (go_at_call 67; (fail_if_success (guard_hyp mm0)); refine (hm1 _).mono ?_; rintro e w' ⟨rfl, hw'⟩; subst w'; have mm0 : True := trivial) | (go_at_call 67; (fail_if_success (guard_hyp mm1)); refine (hm2 _).mono ?_; rintro e w' ⟨rfl, hw'⟩; subst w'; have mm1 : True := trivial))
  have B1d := B1.dr
  have g1d := gb_drew g1
  clear b1_1_0 b1_1_1 b1_1_2 b1_1_3 b1_1_4
  have b1_2_0 := B1d.cell 0 (v := .int .u8 2) rfl
  have b1_2_1 := B1d.cell 1 (v := .int .i64 x) rfl
  have b1_2_2 := B1d.cell 2 (v := .int .i64 y) rfl
  have b1_2_3 := B1d.cell 3 (v := .int .u8 2) rfl
  have b1_2_4 := B1d.cell 4 (v := .int .i64 z) rfl
  go_wp2
  go_ret2
  exact ⟨rfl, g1d⟩

set_option maxHeartbeats 1000000 in
theorem rf31n (x y z u v i j : Int) (lx : 0 ≤ x) (mx : x ≤ 65536) (ly : 0 ≤ y) (my : y ≤ 65536) (lz : -65536 ≤ z) (mz : z ≤ 65536) (lu : -2199023255552 ≤ u) (mu : u ≤ 2199023255552) (lv : -2199023255552 ≤ v) (mv : v ≤ 2199023255552) (ho : odB j = false) (ht1 : ∀ w, Calls Try.prog 38 #[.int .i64 u, .int .i64 x] w fun e w' => e = .returned (.int .i64 i) ∧ w' = w) (ht2 : ∀ w, Calls Try.prog 38 #[.int .i64 v, .int .i64 y] w fun e w' => e = .returned (.int .i64 j) ∧ w' = w) (w : World) : Calls Try.prog 32 #[.agg #[.int .u8 3, .int .i64 x, .int .i64 y, .int .u8 1, .int .i64 z], .int .i64 u, .int .i64 v] w fun e w' => e = .returned (.tuple #[.int .i64 (Fo.wi u x), .int .i64 (Fo.wi v y)]) ∧ w.grownBy w' none := by
  have hw1 := refWithinC u x lx mx
  have hw2 := refWithinC v y ly my
  obtain ⟨W1, hW1, sz1, g1, B1⟩ := boxn w #[.int .u8 3, .int .i64 x, .int .i64 y, .int .u8 1, .int .i64 z] 23
  have b1_1_0 := B1.cell 0 (v := .int .u8 3) rfl
  have b1_1_1 := B1.cell 1 (v := .int .i64 x) rfl
  have b1_1_2 := B1.cell 2 (v := .int .i64 y) rfl
  have b1_1_3 := B1.cell 3 (v := .int .u8 1) rfl
  have b1_1_4 := B1.cell 4 (v := .int .i64 z) rfl
  go_enter Try.func32, Try.ntmps32
  go_wp2_with (first | (go_at_call 38; (fail_if_success (guard_hyp mk1)); refine (ht1 _).mono ?_; rintro e w' ⟨rfl, hw'⟩; subst w'; have mk1 : True := trivial) | (go_at_call 38; (fail_if_success (guard_hyp mk2)); refine (ht2 _).mono ?_; rintro e w' ⟨rfl, hw'⟩; subst w'; have mk2 : True := trivial) | (go_at_call 66; (fail_if_success (guard_hyp mk3)); refine (hw1 _).mono ?_; rintro e w' ⟨rfl, hw'⟩; subst w'; have mk3 : True := trivial) | (go_at_call 66; (fail_if_success (guard_hyp mk4)); refine (hw2 _).mono ?_; rintro e w' ⟨rfl, hw'⟩; subst w'; have mk4 : True := trivial) | (go_at_call 37; refine (refOddC _ _).mono ?_; rintro e w' ⟨rfl, hw'⟩; subst w'))
  go_ret2
  exact ⟨rfl, g1⟩

set_option maxHeartbeats 1000000 in
theorem rf31y (x y z u v i j : Int) (lx : 0 ≤ x) (mx : x ≤ 65536) (ly : 0 ≤ y) (my : y ≤ 65536) (lz : -65536 ≤ z) (mz : z ≤ 65536) (lu : -2199023255552 ≤ u) (mu : u ≤ 2199023255552) (lv : -2199023255552 ≤ v) (mv : v ≤ 2199023255552) (hx1 : 1 ≤ x) (ho : odB j = true) (ht1 : ∀ w, Calls Try.prog 38 #[.int .i64 u, .int .i64 x] w fun e w' => e = .returned (.int .i64 i) ∧ w' = w) (ht2 : ∀ w, Calls Try.prog 38 #[.int .i64 v, .int .i64 y] w fun e w' => e = .returned (.int .i64 j) ∧ w' = w) (w : World) : Calls Try.prog 32 #[.agg #[.int .u8 3, .int .i64 x, .int .i64 y, .int .u8 1, .int .i64 z], .int .i64 u, .int .i64 v] w fun e w' => e = .returned (.tuple #[.int .i64 ((x - 1 - u + z) % x), .int .i64 (Fo.wi v y)]) ∧ w.grownBy w' none := by
  have hw1 := refWithinC u x lx mx
  have hw2 := refWithinC v y ly my
  have hm1 := refModC (x - 1 - u + z) x hx1 mx
  obtain ⟨W1, hW1, sz1, g1, B1⟩ := boxn w #[.int .u8 3, .int .i64 x, .int .i64 y, .int .u8 1, .int .i64 z] 23
  have b1_1_0 := B1.cell 0 (v := .int .u8 3) rfl
  have b1_1_1 := B1.cell 1 (v := .int .i64 x) rfl
  have b1_1_2 := B1.cell 2 (v := .int .i64 y) rfl
  have b1_1_3 := B1.cell 3 (v := .int .u8 1) rfl
  have b1_1_4 := B1.cell 4 (v := .int .i64 z) rfl
  go_enter Try.func32, Try.ntmps32
  go_wp2_with (first | (go_at_call 38; (fail_if_success (guard_hyp mk1)); refine (ht1 _).mono ?_; rintro e w' ⟨rfl, hw'⟩; subst w'; have mk1 : True := trivial) | (go_at_call 38; (fail_if_success (guard_hyp mk2)); refine (ht2 _).mono ?_; rintro e w' ⟨rfl, hw'⟩; subst w'; have mk2 : True := trivial) | (go_at_call 66; (fail_if_success (guard_hyp mk3)); refine (hw1 _).mono ?_; rintro e w' ⟨rfl, hw'⟩; subst w'; have mk3 : True := trivial) | (go_at_call 66; (fail_if_success (guard_hyp mk4)); refine (hw2 _).mono ?_; rintro e w' ⟨rfl, hw'⟩; subst w'; have mk4 : True := trivial) | (go_at_call 37; refine (refOddC _ _).mono ?_; rintro e w' ⟨rfl, hw'⟩; subst w') | (go_at_call 67; (fail_if_success (guard_hyp mm0)); refine (hm1 _).mono ?_; rintro e w' ⟨rfl, hw'⟩; subst w'; have mm0 : True := trivial))
  go_ret2
  exact ⟨rfl, g1⟩

set_option maxHeartbeats 1000000 in
theorem rf32n (x y z u v i j : Int) (lx : 0 ≤ x) (mx : x ≤ 65536) (ly : 0 ≤ y) (my : y ≤ 65536) (lz : -65536 ≤ z) (mz : z ≤ 65536) (lu : -2199023255552 ≤ u) (mu : u ≤ 2199023255552) (lv : -2199023255552 ≤ v) (mv : v ≤ 2199023255552) (ho : odB i = false) (ht1 : ∀ w, Calls Try.prog 38 #[.int .i64 u, .int .i64 x] w fun e w' => e = .returned (.int .i64 i) ∧ w' = w) (ht2 : ∀ w, Calls Try.prog 38 #[.int .i64 v, .int .i64 y] w fun e w' => e = .returned (.int .i64 j) ∧ w' = w) (w : World) : Calls Try.prog 32 #[.agg #[.int .u8 3, .int .i64 x, .int .i64 y, .int .u8 2, .int .i64 z], .int .i64 u, .int .i64 v] w fun e w' => e = .returned (.tuple #[.int .i64 (Fo.wi u x), .int .i64 (Fo.wi v y)]) ∧ w.grownBy w' none := by
  have hw1 := refWithinC u x lx mx
  have hw2 := refWithinC v y ly my
  obtain ⟨W1, hW1, sz1, g1, B1⟩ := boxn w #[.int .u8 3, .int .i64 x, .int .i64 y, .int .u8 2, .int .i64 z] 23
  have b1_1_0 := B1.cell 0 (v := .int .u8 3) rfl
  have b1_1_1 := B1.cell 1 (v := .int .i64 x) rfl
  have b1_1_2 := B1.cell 2 (v := .int .i64 y) rfl
  have b1_1_3 := B1.cell 3 (v := .int .u8 2) rfl
  have b1_1_4 := B1.cell 4 (v := .int .i64 z) rfl
  go_enter Try.func32, Try.ntmps32
  go_wp2_with (first | (go_at_call 38; (fail_if_success (guard_hyp mk1)); refine (ht1 _).mono ?_; rintro e w' ⟨rfl, hw'⟩; subst w'; have mk1 : True := trivial) | (go_at_call 38; (fail_if_success (guard_hyp mk2)); refine (ht2 _).mono ?_; rintro e w' ⟨rfl, hw'⟩; subst w'; have mk2 : True := trivial) | (go_at_call 66; (fail_if_success (guard_hyp mk3)); refine (hw1 _).mono ?_; rintro e w' ⟨rfl, hw'⟩; subst w'; have mk3 : True := trivial) | (go_at_call 66; (fail_if_success (guard_hyp mk4)); refine (hw2 _).mono ?_; rintro e w' ⟨rfl, hw'⟩; subst w'; have mk4 : True := trivial) | (go_at_call 37; refine (refOddC _ _).mono ?_; rintro e w' ⟨rfl, hw'⟩; subst w'))
  go_ret2
  exact ⟨rfl, g1⟩

set_option maxHeartbeats 1000000 in
theorem rf32y (x y z u v i j : Int) (lx : 0 ≤ x) (mx : x ≤ 65536) (ly : 0 ≤ y) (my : y ≤ 65536) (lz : -65536 ≤ z) (mz : z ≤ 65536) (lu : -2199023255552 ≤ u) (mu : u ≤ 2199023255552) (lv : -2199023255552 ≤ v) (mv : v ≤ 2199023255552) (hy1 : 1 ≤ y) (ho : odB i = true) (ht1 : ∀ w, Calls Try.prog 38 #[.int .i64 u, .int .i64 x] w fun e w' => e = .returned (.int .i64 i) ∧ w' = w) (ht2 : ∀ w, Calls Try.prog 38 #[.int .i64 v, .int .i64 y] w fun e w' => e = .returned (.int .i64 j) ∧ w' = w) (w : World) : Calls Try.prog 32 #[.agg #[.int .u8 3, .int .i64 x, .int .i64 y, .int .u8 2, .int .i64 z], .int .i64 u, .int .i64 v] w fun e w' => e = .returned (.tuple #[.int .i64 (Fo.wi u x), .int .i64 ((y - 1 - v + z) % y)]) ∧ w.grownBy w' none := by
  have hw1 := refWithinC u x lx mx
  have hw2 := refWithinC v y ly my
  have hm1 := refModC (y - 1 - v + z) y hy1 my
  obtain ⟨W1, hW1, sz1, g1, B1⟩ := boxn w #[.int .u8 3, .int .i64 x, .int .i64 y, .int .u8 2, .int .i64 z] 23
  have b1_1_0 := B1.cell 0 (v := .int .u8 3) rfl
  have b1_1_1 := B1.cell 1 (v := .int .i64 x) rfl
  have b1_1_2 := B1.cell 2 (v := .int .i64 y) rfl
  have b1_1_3 := B1.cell 3 (v := .int .u8 2) rfl
  have b1_1_4 := B1.cell 4 (v := .int .i64 z) rfl
  go_enter Try.func32, Try.ntmps32
  go_wp2_with (first | (go_at_call 38; (fail_if_success (guard_hyp mk1)); refine (ht1 _).mono ?_; rintro e w' ⟨rfl, hw'⟩; subst w'; have mk1 : True := trivial) | (go_at_call 38; (fail_if_success (guard_hyp mk2)); refine (ht2 _).mono ?_; rintro e w' ⟨rfl, hw'⟩; subst w'; have mk2 : True := trivial) | (go_at_call 66; (fail_if_success (guard_hyp mk3)); refine (hw1 _).mono ?_; rintro e w' ⟨rfl, hw'⟩; subst w'; have mk3 : True := trivial) | (go_at_call 66; (fail_if_success (guard_hyp mk4)); refine (hw2 _).mono ?_; rintro e w' ⟨rfl, hw'⟩; subst w'; have mk4 : True := trivial) | (go_at_call 37; refine (refOddC _ _).mono ?_; rintro e w' ⟨rfl, hw'⟩; subst w') | (go_at_call 67; (fail_if_success (guard_hyp mm0)); refine (hm1 _).mono ?_; rintro e w' ⟨rfl, hw'⟩; subst w'; have mm0 : True := trivial))
  go_ret2
  exact ⟨rfl, g1⟩

set_option maxHeartbeats 1000000 in
theorem rf400 (x y t z u v i j : Int) (lx : 0 ≤ x) (mx : x ≤ 65536) (ly : 0 ≤ y) (my : y ≤ 65536) (lz : -65536 ≤ z) (mz : z ≤ 65536) (lu : -2199023255552 ≤ u) (mu : u ≤ 2199023255552) (lv : -2199023255552 ≤ v) (mv : v ≤ 2199023255552) (hx1 : 1 ≤ x) (hy1 : 1 ≤ y) (hj : odB j = false) (hi : odB i = false) (ht1 : ∀ w, Calls Try.prog 38 #[.int .i64 u, .int .i64 x] w fun e w' => e = .returned (.int .i64 i) ∧ w' = w) (ht2 : ∀ w, Calls Try.prog 38 #[.int .i64 v, .int .i64 y] w fun e w' => e = .returned (.int .i64 j) ∧ w' = w) (w : World) : Calls Try.prog 32 #[.agg #[.int .u8 4, .int .i64 x, .int .i64 y, .int .u8 t, .int .i64 z], .int .i64 u, .int .i64 v] w fun e w' => e = .returned (.tuple #[.int .i64 (Fo.wi u x), .int .i64 (Fo.wi v y)]) ∧ w.grownBy w' none := by
  have hw1 := refWithinC u x lx mx
  have hw2 := refWithinC v y ly my
  have ax := Fo.wi_bd u hx1
  have ay := Fo.wi_bd v hy1
  obtain ⟨ax1, ax2⟩ := ax
  obtain ⟨ay1, ay2⟩ := ay
  obtain ⟨W1, hW1, sz1, g1, B1⟩ := boxn w #[.int .u8 4, .int .i64 x, .int .i64 y, .int .u8 t, .int .i64 z] 23
  have b1_1_0 := B1.cell 0 (v := .int .u8 4) rfl
  have b1_1_1 := B1.cell 1 (v := .int .i64 x) rfl
  have b1_1_2 := B1.cell 2 (v := .int .i64 y) rfl
  have b1_1_3 := B1.cell 3 (v := .int .u8 t) rfl
  have b1_1_4 := B1.cell 4 (v := .int .i64 z) rfl
  go_enter Try.func32, Try.ntmps32
  go_wp2_with (first | (go_at_call 38; (fail_if_success (guard_hyp mk1)); refine (ht1 _).mono ?_; rintro e w' ⟨rfl, hw'⟩; subst w'; have mk1 : True := trivial) | (go_at_call 38; (fail_if_success (guard_hyp mk2)); refine (ht2 _).mono ?_; rintro e w' ⟨rfl, hw'⟩; subst w'; have mk2 : True := trivial) | (go_at_call 66; (fail_if_success (guard_hyp mk3)); refine (hw1 _).mono ?_; rintro e w' ⟨rfl, hw'⟩; subst w'; have mk3 : True := trivial) | (go_at_call 66; (fail_if_success (guard_hyp mk4)); refine (hw2 _).mono ?_; rintro e w' ⟨rfl, hw'⟩; subst w'; have mk4 : True := trivial) | (go_at_call 37; refine (refOddC _ _).mono ?_; rintro e w' ⟨rfl, hw'⟩; subst w'))
  go_ret2
  exact ⟨rfl, g1⟩

set_option maxHeartbeats 1000000 in
theorem rf401 (x y t z u v i j : Int) (lx : 0 ≤ x) (mx : x ≤ 65536) (ly : 0 ≤ y) (my : y ≤ 65536) (lz : -65536 ≤ z) (mz : z ≤ 65536) (lu : -2199023255552 ≤ u) (mu : u ≤ 2199023255552) (lv : -2199023255552 ≤ v) (mv : v ≤ 2199023255552) (hx1 : 1 ≤ x) (hy1 : 1 ≤ y) (hj : odB j = false) (hi : odB i = true) (ht1 : ∀ w, Calls Try.prog 38 #[.int .i64 u, .int .i64 x] w fun e w' => e = .returned (.int .i64 i) ∧ w' = w) (ht2 : ∀ w, Calls Try.prog 38 #[.int .i64 v, .int .i64 y] w fun e w' => e = .returned (.int .i64 j) ∧ w' = w) (w : World) : Calls Try.prog 32 #[.agg #[.int .u8 4, .int .i64 x, .int .i64 y, .int .u8 t, .int .i64 z], .int .i64 u, .int .i64 v] w fun e w' => e = .returned (.tuple #[.int .i64 (Fo.wi u x), .int .i64 (y - 1 - Fo.wi v y)]) ∧ w.grownBy w' none := by
  have hw1 := refWithinC u x lx mx
  have hw2 := refWithinC v y ly my
  have ax := Fo.wi_bd u hx1
  have ay := Fo.wi_bd v hy1
  obtain ⟨ax1, ax2⟩ := ax
  obtain ⟨ay1, ay2⟩ := ay
  obtain ⟨W1, hW1, sz1, g1, B1⟩ := boxn w #[.int .u8 4, .int .i64 x, .int .i64 y, .int .u8 t, .int .i64 z] 23
  have b1_1_0 := B1.cell 0 (v := .int .u8 4) rfl
  have b1_1_1 := B1.cell 1 (v := .int .i64 x) rfl
  have b1_1_2 := B1.cell 2 (v := .int .i64 y) rfl
  have b1_1_3 := B1.cell 3 (v := .int .u8 t) rfl
  have b1_1_4 := B1.cell 4 (v := .int .i64 z) rfl
  go_enter Try.func32, Try.ntmps32
  go_wp2_with (first | (go_at_call 38; (fail_if_success (guard_hyp mk1)); refine (ht1 _).mono ?_; rintro e w' ⟨rfl, hw'⟩; subst w'; have mk1 : True := trivial) | (go_at_call 38; (fail_if_success (guard_hyp mk2)); refine (ht2 _).mono ?_; rintro e w' ⟨rfl, hw'⟩; subst w'; have mk2 : True := trivial) | (go_at_call 66; (fail_if_success (guard_hyp mk3)); refine (hw1 _).mono ?_; rintro e w' ⟨rfl, hw'⟩; subst w'; have mk3 : True := trivial) | (go_at_call 66; (fail_if_success (guard_hyp mk4)); refine (hw2 _).mono ?_; rintro e w' ⟨rfl, hw'⟩; subst w'; have mk4 : True := trivial) | (go_at_call 37; refine (refOddC _ _).mono ?_; rintro e w' ⟨rfl, hw'⟩; subst w'))
  go_ret2
  exact ⟨rfl, g1⟩

set_option maxHeartbeats 1000000 in
theorem rf410 (x y t z u v i j : Int) (lx : 0 ≤ x) (mx : x ≤ 65536) (ly : 0 ≤ y) (my : y ≤ 65536) (lz : -65536 ≤ z) (mz : z ≤ 65536) (lu : -2199023255552 ≤ u) (mu : u ≤ 2199023255552) (lv : -2199023255552 ≤ v) (mv : v ≤ 2199023255552) (hx1 : 1 ≤ x) (hy1 : 1 ≤ y) (hj : odB j = true) (hi : odB i = false) (ht1 : ∀ w, Calls Try.prog 38 #[.int .i64 u, .int .i64 x] w fun e w' => e = .returned (.int .i64 i) ∧ w' = w) (ht2 : ∀ w, Calls Try.prog 38 #[.int .i64 v, .int .i64 y] w fun e w' => e = .returned (.int .i64 j) ∧ w' = w) (w : World) : Calls Try.prog 32 #[.agg #[.int .u8 4, .int .i64 x, .int .i64 y, .int .u8 t, .int .i64 z], .int .i64 u, .int .i64 v] w fun e w' => e = .returned (.tuple #[.int .i64 (x - 1 - Fo.wi u x), .int .i64 (Fo.wi v y)]) ∧ w.grownBy w' none := by
  have hw1 := refWithinC u x lx mx
  have hw2 := refWithinC v y ly my
  have ax := Fo.wi_bd u hx1
  have ay := Fo.wi_bd v hy1
  obtain ⟨ax1, ax2⟩ := ax
  obtain ⟨ay1, ay2⟩ := ay
  obtain ⟨W1, hW1, sz1, g1, B1⟩ := boxn w #[.int .u8 4, .int .i64 x, .int .i64 y, .int .u8 t, .int .i64 z] 23
  have b1_1_0 := B1.cell 0 (v := .int .u8 4) rfl
  have b1_1_1 := B1.cell 1 (v := .int .i64 x) rfl
  have b1_1_2 := B1.cell 2 (v := .int .i64 y) rfl
  have b1_1_3 := B1.cell 3 (v := .int .u8 t) rfl
  have b1_1_4 := B1.cell 4 (v := .int .i64 z) rfl
  go_enter Try.func32, Try.ntmps32
  go_wp2_with (first | (go_at_call 38; (fail_if_success (guard_hyp mk1)); refine (ht1 _).mono ?_; rintro e w' ⟨rfl, hw'⟩; subst w'; have mk1 : True := trivial) | (go_at_call 38; (fail_if_success (guard_hyp mk2)); refine (ht2 _).mono ?_; rintro e w' ⟨rfl, hw'⟩; subst w'; have mk2 : True := trivial) | (go_at_call 66; (fail_if_success (guard_hyp mk3)); refine (hw1 _).mono ?_; rintro e w' ⟨rfl, hw'⟩; subst w'; have mk3 : True := trivial) | (go_at_call 66; (fail_if_success (guard_hyp mk4)); refine (hw2 _).mono ?_; rintro e w' ⟨rfl, hw'⟩; subst w'; have mk4 : True := trivial) | (go_at_call 37; refine (refOddC _ _).mono ?_; rintro e w' ⟨rfl, hw'⟩; subst w'))
  go_ret2
  exact ⟨rfl, g1⟩

set_option maxHeartbeats 1000000 in
theorem rf411 (x y t z u v i j : Int) (lx : 0 ≤ x) (mx : x ≤ 65536) (ly : 0 ≤ y) (my : y ≤ 65536) (lz : -65536 ≤ z) (mz : z ≤ 65536) (lu : -2199023255552 ≤ u) (mu : u ≤ 2199023255552) (lv : -2199023255552 ≤ v) (mv : v ≤ 2199023255552) (hx1 : 1 ≤ x) (hy1 : 1 ≤ y) (hj : odB j = true) (hi : odB i = true) (ht1 : ∀ w, Calls Try.prog 38 #[.int .i64 u, .int .i64 x] w fun e w' => e = .returned (.int .i64 i) ∧ w' = w) (ht2 : ∀ w, Calls Try.prog 38 #[.int .i64 v, .int .i64 y] w fun e w' => e = .returned (.int .i64 j) ∧ w' = w) (w : World) : Calls Try.prog 32 #[.agg #[.int .u8 4, .int .i64 x, .int .i64 y, .int .u8 t, .int .i64 z], .int .i64 u, .int .i64 v] w fun e w' => e = .returned (.tuple #[.int .i64 (x - 1 - Fo.wi u x), .int .i64 (y - 1 - Fo.wi v y)]) ∧ w.grownBy w' none := by
  have hw1 := refWithinC u x lx mx
  have hw2 := refWithinC v y ly my
  have ax := Fo.wi_bd u hx1
  have ay := Fo.wi_bd v hy1
  obtain ⟨ax1, ax2⟩ := ax
  obtain ⟨ay1, ay2⟩ := ay
  obtain ⟨W1, hW1, sz1, g1, B1⟩ := boxn w #[.int .u8 4, .int .i64 x, .int .i64 y, .int .u8 t, .int .i64 z] 23
  have b1_1_0 := B1.cell 0 (v := .int .u8 4) rfl
  have b1_1_1 := B1.cell 1 (v := .int .i64 x) rfl
  have b1_1_2 := B1.cell 2 (v := .int .i64 y) rfl
  have b1_1_3 := B1.cell 3 (v := .int .u8 t) rfl
  have b1_1_4 := B1.cell 4 (v := .int .i64 z) rfl
  go_enter Try.func32, Try.ntmps32
  go_wp2_with (first | (go_at_call 38; (fail_if_success (guard_hyp mk1)); refine (ht1 _).mono ?_; rintro e w' ⟨rfl, hw'⟩; subst w'; have mk1 : True := trivial) | (go_at_call 38; (fail_if_success (guard_hyp mk2)); refine (ht2 _).mono ?_; rintro e w' ⟨rfl, hw'⟩; subst w'; have mk2 : True := trivial) | (go_at_call 66; (fail_if_success (guard_hyp mk3)); refine (hw1 _).mono ?_; rintro e w' ⟨rfl, hw'⟩; subst w'; have mk3 : True := trivial) | (go_at_call 66; (fail_if_success (guard_hyp mk4)); refine (hw2 _).mono ?_; rintro e w' ⟨rfl, hw'⟩; subst w'; have mk4 : True := trivial) | (go_at_call 37; refine (refOddC _ _).mono ?_; rintro e w' ⟨rfl, hw'⟩; subst w'))
  go_ret2
  exact ⟨rfl, g1⟩

theorem mul_abs6 {j z J Z : Int} (hJ : 0 ≤ J) (hZ : 0 ≤ Z) (h1 : -J ≤ j ∧ j ≤ J) (h2 : -Z ≤ z ∧ z ≤ Z) : -(J * Z) ≤ j * z ∧ j * z ≤ J * Z := by
  have h := Nat.mul_le_mul (show j.natAbs ≤ J.natAbs by omega) (show z.natAbs ≤ Z.natAbs by omega)
  rw [← Int.natAbs_mul, ← Int.natAbs_mul] at h
  have := Int.mul_nonneg hJ hZ
  omega
theorem sub_mod6 (u a x : Int) : (u - a % x) % x = (u - a) % x := by
  have h1 := Int.mul_ediv_add_emod a x
  rw [show u - a % x = u - a + x * (a / x) by omega, Int.add_mul_emod_self_left]
/-- The document's folding of home numbers. -/
theorem refFoldedC (k x y t z u v : Int) (ht : 0 ≤ t) (ok : Tp.Ok k x y t z) (hk : k = 2 ∨ k = 3 ∨ k = 4) (hu : -2199023255552 ≤ u ∧ u ≤ 2199023255552) (hv : -2199023255552 ≤ v ∧ v ≤ 2199023255552) (w : World) :
    Calls Try.prog 32 #[.agg #[.int .u8 k, .int .i64 x, .int .i64 y, .int .u8 t, .int .i64 z], .int .i64 u, .int .i64 v] w fun e w' => e = .returned (.tuple #[.int .i64 (Fo.cx k x y t z u v), .int .i64 (Fo.cy k x y t z u v)]) ∧ w.grownBy w' none := by
  have hx := ok.wide
  have hy := ok.high
  have gl := Fo.gl_of ht ok hk
  have di : -2199023255552 ≤ Nm.divZ u x ∧ Nm.divZ u x ≤ 2199023255552 := Nm.divZ_bd hu.1 hu.2 (by omega) (by omega)
  have dj : -2199023255552 ≤ Nm.divZ v y ∧ Nm.divZ v y ≤ 2199023255552 := Nm.divZ_bd hv.1 hv.2 (by omega) (by omega)
  have hz : -65536 ≤ z ∧ z ≤ 65536 := by
    by_cases h0 : t = 0
    · have := ok.none h0; omega
    · have := ok.near h0; unfold Tp.sd at this; split at this <;> omega
  have mj := mul_abs6 (by omega) (by omega) dj hz
  have mi := mul_abs6 (by omega) (by omega) di hz
  rcases hk with rfl | rfl | rfl
  · obtain h1 | h1 | ⟨h1, h2⟩ : t = 1 ∨ t = 2 ∨ (¬ t = 1 ∧ ¬ t = 2) := by omega
    · subst h1
      have hx1 := (gl.torus rfl (.inl rfl)).1
      rw [Fo.cx_21, Fo.cy, Fo.cx_2 (by omega), Fo.wi_pos hx1, ← sub_mod6]
      exact rf21 x y z u v _ _ hx.1 hx.2 hy.1 hy.2 hz.1 hz.2 hu.1 hu.2 hv.1 hv.2 hx1 (by omega) (by omega) (refTileC u x hx.1 hx.2 (by omega) (by omega)) (refTileC v y hy.1 hy.2 (by omega) (by omega)) w
    · subst h1
      have hy1 := (gl.torus rfl (.inr rfl)).2
      rw [Fo.cx_2 (by omega), Fo.cy, show (3 : Int) - 2 = 1 from rfl, Fo.cx_21, Fo.wi_pos hy1, ← sub_mod6]
      exact rf22 x y z u v _ _ hx.1 hx.2 hy.1 hy.2 hz.1 hz.2 hu.1 hu.2 hv.1 hv.2 hy1 (by omega) (by omega) (refTileC u x hx.1 hx.2 (by omega) (by omega)) (refTileC v y hy.1 hy.2 (by omega) (by omega)) w
    · rw [Fo.cx_2 h1, Fo.cy, Fo.cx_2 (by omega)]
      exact rf2n x y t z u v _ _ hx.1 hx.2 hy.1 hy.2 hz.1 hz.2 hu.1 hu.2 hv.1 hv.2 (beq_eq_false_iff_ne.2 h1) (beq_eq_false_iff_ne.2 h2) (refTileC u x hx.1 hx.2 (by omega) (by omega)) (refTileC v y hy.1 hy.2 (by omega) (by omega)) w
  · obtain ⟨hx1, hy1⟩ := gl.ended (by omega)
    rcases gl.klein rfl with rfl | rfl
    · cases ho : odB (Nm.divZ v y)
      · have h3 : ¬ Nm.divZ v y % 2 = 1 := of_decide_eq_false ho
        rw [Fo.cx_31, if_neg h3, Fo.cy, Fo.cx_3 (by omega)]
        exact rf31n x y z u v _ _ hx.1 hx.2 hy.1 hy.2 hz.1 hz.2 hu.1 hu.2 hv.1 hv.2 ho (refTileC u x hx.1 hx.2 (by omega) (by omega)) (refTileC v y hy.1 hy.2 (by omega) (by omega)) w
      · have h3 : Nm.divZ v y % 2 = 1 := of_decide_eq_true ho
        rw [Fo.cx_31, if_pos h3, Fo.cy, Fo.cx_3 (by omega), Fo.wi_pos hx1]
        exact rf31y x y z u v _ _ hx.1 hx.2 hy.1 hy.2 hz.1 hz.2 hu.1 hu.2 hv.1 hv.2 hx1 ho (refTileC u x hx.1 hx.2 (by omega) (by omega)) (refTileC v y hy.1 hy.2 (by omega) (by omega)) w
    · cases ho : odB (Nm.divZ u x)
      · have h3 : ¬ Nm.divZ u x % 2 = 1 := of_decide_eq_false ho
        rw [Fo.cx_3 (by omega), Fo.cy, show (3 : Int) - 2 = 1 from rfl, Fo.cx_31, if_neg h3]
        exact rf32n x y z u v _ _ hx.1 hx.2 hy.1 hy.2 hz.1 hz.2 hu.1 hu.2 hv.1 hv.2 ho (refTileC u x hx.1 hx.2 (by omega) (by omega)) (refTileC v y hy.1 hy.2 (by omega) (by omega)) w
      · have h3 : Nm.divZ u x % 2 = 1 := of_decide_eq_true ho
        rw [Fo.cx_3 (by omega), Fo.cy, show (3 : Int) - 2 = 1 from rfl, Fo.cx_31, if_pos h3, Fo.wi_pos hy1]
        exact rf32y x y z u v _ _ hx.1 hx.2 hy.1 hy.2 hz.1 hz.2 hu.1 hu.2 hv.1 hv.2 hy1 ho (refTileC u x hx.1 hx.2 (by omega) (by omega)) (refTileC v y hy.1 hy.2 (by omega) (by omega)) w
  · obtain ⟨hx1, hy1⟩ := gl.ended (by omega)
    cases hj : odB (Nm.divZ v y) <;> cases hi : odB (Nm.divZ u x)
    · rw [Fo.cx_4, if_neg (of_decide_eq_false hj), Fo.cy, Fo.cx_4, if_neg (of_decide_eq_false hi)]
      exact rf400 x y t z u v _ _ hx.1 hx.2 hy.1 hy.2 hz.1 hz.2 hu.1 hu.2 hv.1 hv.2 hx1 hy1 hj hi (refTileC u x hx.1 hx.2 (by omega) (by omega)) (refTileC v y hy.1 hy.2 (by omega) (by omega)) w
    · rw [Fo.cx_4, if_neg (of_decide_eq_false hj), Fo.cy, Fo.cx_4, if_pos (of_decide_eq_true hi), Fo.wi_back hy1]
      exact rf401 x y t z u v _ _ hx.1 hx.2 hy.1 hy.2 hz.1 hz.2 hu.1 hu.2 hv.1 hv.2 hx1 hy1 hj hi (refTileC u x hx.1 hx.2 (by omega) (by omega)) (refTileC v y hy.1 hy.2 (by omega) (by omega)) w
    · rw [Fo.cx_4, if_pos (of_decide_eq_true hj), Fo.cy, Fo.cx_4, if_neg (of_decide_eq_false hi), Fo.wi_back hx1]
      exact rf410 x y t z u v _ _ hx.1 hx.2 hy.1 hy.2 hz.1 hz.2 hu.1 hu.2 hv.1 hv.2 hx1 hy1 hj hi (refTileC u x hx.1 hx.2 (by omega) (by omega)) (refTileC v y hy.1 hy.2 (by omega) (by omega)) w
    · rw [Fo.cx_4, if_pos (of_decide_eq_true hj), Fo.cy, Fo.cx_4, if_pos (of_decide_eq_true hi), Fo.wi_back hx1, Fo.wi_back hy1]
      exact rf411 x y t z u v _ _ hx.1 hx.2 hy.1 hy.2 hz.1 hz.2 hu.1 hu.2 hv.1 hv.2 hx1 hy1 hj hi (refTileC u x hx.1 hx.2 (by omega) (by omega)) (refTileC v y hy.1 hy.2 (by omega) (by omega)) w
end Go.Proofs.Ytgiiaokkmnjckaa
