/- What the document's folded answers. -/
import Derived.Test.YtjndljjpbkfmiaaGreatDoorF6
import Derived.BigQuiet
import Derived.Deep.QuietTactic
import Derived.Test.YtjndljjpbkfmiaaGreatDoorF9
namespace Go.Proofs.YtjndljjpbkfmiaaGreatDoor.Fd
open Go.RowKit
set_option linter.unusedVariables false
set_option linter.unusedSimpArgs false
set_option maxRecDepth 100000

set_option maxHeartbeats 1000000 in
theorem rf2n (x y t z u v i j : Int) (lx : 0 ≤ x) (mx : x ≤ 65536) (ly : 0 ≤ y) (my : y ≤ 65536) (lz : -65536 ≤ z) (mz : z ≤ 65536) (lu : -2199023255552 ≤ u) (mu : u ≤ 2199023255552) (lv : -2199023255552 ≤ v) (mv : v ≤ 2199023255552) (h1 : (t == 1) = false) (h2 : (t == 2) = false) (ht1 : ∀ w, Calls Tryz.prog 116 #[.int .i64 u, .int .i64 x] w fun e w' => e = .returned (.int .i64 i) ∧ w' = w) (ht2 : ∀ w, Calls Tryz.prog 116 #[.int .i64 v, .int .i64 y] w fun e w' => e = .returned (.int .i64 j) ∧ w' = w) (w : World) : Calls Tryz.prog 106 #[.agg #[.int .u8 2, .int .i64 x, .int .i64 y, .int .u8 t, .int .i64 z], .int .i64 u, .int .i64 v] w fun e w' => e = .returned (.tuple #[.int .i64 (Fo.wi u x), .int .i64 (Fo.wi v y)]) ∧ w.grownBy w' none := by
  have hw1 := refWithinC u x lx mx
  have hw2 := refWithinC v y ly my
  obtain ⟨W1, hW1, sz1, g1, B1⟩ := boxn w #[.int .u8 2, .int .i64 x, .int .i64 y, .int .u8 t, .int .i64 z] 23
  have b1_1_0 := B1.cell 0 (v := .int .u8 2) rfl
  have b1_1_1 := B1.cell 1 (v := .int .i64 x) rfl
  have b1_1_2 := B1.cell 2 (v := .int .i64 y) rfl
  have b1_1_3 := B1.cell 3 (v := .int .u8 t) rfl
  have b1_1_4 := B1.cell 4 (v := .int .i64 z) rfl
  go_enter Tryz.func106, Tryz.ntmps106
  go_wp2_with (first | (go_at_call 116; (fail_if_success (guard_hyp mk1)); refine (ht1 _).mono ?_; rintro e w' ⟨rfl, hw'⟩; subst w'; have mk1 : True := trivial) | (go_at_call 116; (fail_if_success (guard_hyp mk2)); refine (ht2 _).mono ?_; rintro e w' ⟨rfl, hw'⟩; subst w'; have mk2 : True := trivial) | (go_at_call 117; (fail_if_success (guard_hyp mk3)); refine (hw1 _).mono ?_; rintro e w' ⟨rfl, hw'⟩; subst w'; have mk3 : True := trivial) | (go_at_call 117; (fail_if_success (guard_hyp mk4)); refine (hw2 _).mono ?_; rintro e w' ⟨rfl, hw'⟩; subst w'; have mk4 : True := trivial) | (go_at_call 119; refine (refOddC _ _).mono ?_; rintro e w' ⟨rfl, hw'⟩; subst w'))
  go_ret2
  exact ⟨rfl, g1⟩

set_option maxHeartbeats 1000000 in
theorem rf21 (x y z u v i j : Int) (lx : 0 ≤ x) (mx : x ≤ 65536) (ly : 0 ≤ y) (my : y ≤ 65536) (lz : -65536 ≤ z) (mz : z ≤ 65536) (lu : -2199023255552 ≤ u) (mu : u ≤ 2199023255552) (lv : -2199023255552 ≤ v) (mv : v ≤ 2199023255552) (hx1 : 1 ≤ x) (lJ : -144115188075855872 ≤ j * z) (mJ : j * z ≤ 144115188075855872) (ht1 : ∀ w, Calls Tryz.prog 116 #[.int .i64 u, .int .i64 x] w fun e w' => e = .returned (.int .i64 i) ∧ w' = w) (ht2 : ∀ w, Calls Tryz.prog 116 #[.int .i64 v, .int .i64 y] w fun e w' => e = .returned (.int .i64 j) ∧ w' = w) (w : World) : Calls Tryz.prog 106 #[.agg #[.int .u8 2, .int .i64 x, .int .i64 y, .int .u8 1, .int .i64 z], .int .i64 u, .int .i64 v] w fun e w' => e = .returned (.tuple #[.int .i64 ((u - j * z % x) % x), .int .i64 (Fo.wi v y)]) ∧ w.grownBy w' none := by
  have hw1 := refWithinC u x lx mx
  have hw2 := refWithinC v y ly my
  have hm1 := refModC (j * z) x hx1 mx
  have hm2 := refModC (u - j * z % x) x hx1 mx
  have hb := Int.emod_nonneg (j * z) (show x ≠ 0 by omega)
  have hc := Int.emod_lt_of_pos (j * z) (show (0:Int) < x by omega)
  have hwz : IntKind.i64.wrap (j * z) = j * z := by rw [IntKind.wrap_i64]; omega
  have hwu : IntKind.i64.wrap (u - j * z % x) = u - j * z % x := by rw [IntKind.wrap_i64]; omega
  generalize j * z % x = J at *
  obtain ⟨W1, hW1, sz1, g1, B1⟩ := boxn w #[.int .u8 2, .int .i64 x, .int .i64 y, .int .u8 1, .int .i64 z] 23
  have b1_1_0 := B1.cell 0 (v := .int .u8 2) rfl
  have b1_1_1 := B1.cell 1 (v := .int .i64 x) rfl
  have b1_1_2 := B1.cell 2 (v := .int .i64 y) rfl
  have b1_1_3 := B1.cell 3 (v := .int .u8 1) rfl
  have b1_1_4 := B1.cell 4 (v := .int .i64 z) rfl
  go_enter Tryz.func106, Tryz.ntmps106
  go_wp2_with (first | (go_at_call 116; (fail_if_success (guard_hyp mk1)); refine (ht1 _).mono ?_; rintro e w' ⟨rfl, hw'⟩; subst w'; have mk1 : True := trivial) | (go_at_call 116; (fail_if_success (guard_hyp mk2)); refine (ht2 _).mono ?_; rintro e w' ⟨rfl, hw'⟩; subst w'; have mk2 : True := trivial) | (go_at_call 117; (fail_if_success (guard_hyp mk3)); refine (hw1 _).mono ?_; rintro e w' ⟨rfl, hw'⟩; subst w'; have mk3 : True := trivial) | (go_at_call 117; (fail_if_success (guard_hyp mk4)); refine (hw2 _).mono ?_; rintro e w' ⟨rfl, hw'⟩; subst w'; have mk4 : True := trivial) | (go_at_call 119; refine (refOddC _ _).mono ?_; rintro e w' ⟨rfl, hw'⟩; subst w'))
  go_region_held2 (fun w' => w'.cell? ⟨w.heap.size, 0, none⟩ = some (.int .u8 2) ∧ w'.cell? ⟨w.heap.size, 1, none⟩ = some (.int .i64 x) ∧ w'.cell? ⟨w.heap.size, 2, none⟩ = some (.int .i64 y) ∧ w'.cell? ⟨w.heap.size, 3, none⟩ = some (.int .u8 1) ∧ w'.cell? ⟨w.heap.size, 4, none⟩ = some (.int .i64 z)) (go_keep) (first | (go_at_call 118; (fail_if_success (guard_hyp mm0)); refine (hm1 _).mono ?_; rintro e w' ⟨rfl, hw'⟩; subst w'; have mm0 : True := trivial) | (go_at_call 118; (fail_if_success (guard_hyp mm1)); refine (hm2 _).mono ?_; rintro e w' ⟨rfl, hw'⟩; subst w'; have mm1 : True := trivial))
  have B1d := B1.dr
  have g1d := gb_drew g1
  clear b1_1_0 b1_1_1 b1_1_2 b1_1_3 b1_1_4
  have b1_2_0 := B1d.cell 0 (v := .int .u8 2) rfl
  have b1_2_1 := B1d.cell 1 (v := .int .i64 x) rfl
  have b1_2_2 := B1d.cell 2 (v := .int .i64 y) rfl
  have b1_2_3 := B1d.cell 3 (v := .int .u8 1) rfl
  have b1_2_4 := B1d.cell 4 (v := .int .i64 z) rfl
  go_wp2
  go_ret2
  exact ⟨rfl, g1d⟩

set_option maxHeartbeats 1000000 in
theorem rf22 (x y z u v i j : Int) (lx : 0 ≤ x) (mx : x ≤ 65536) (ly : 0 ≤ y) (my : y ≤ 65536) (lz : -65536 ≤ z) (mz : z ≤ 65536) (lu : -2199023255552 ≤ u) (mu : u ≤ 2199023255552) (lv : -2199023255552 ≤ v) (mv : v ≤ 2199023255552) (hy1 : 1 ≤ y) (lJ : -144115188075855872 ≤ i * z) (mJ : i * z ≤ 144115188075855872) (ht1 : ∀ w, Calls Tryz.prog 116 #[.int .i64 u, .int .i64 x] w fun e w' => e = .returned (.int .i64 i) ∧ w' = w) (ht2 : ∀ w, Calls Tryz.prog 116 #[.int .i64 v, .int .i64 y] w fun e w' => e = .returned (.int .i64 j) ∧ w' = w) (w : World) : Calls Tryz.prog 106 #[.agg #[.int .u8 2, .int .i64 x, .int .i64 y, .int .u8 2, .int .i64 z], .int .i64 u, .int .i64 v] w fun e w' => e = .returned (.tuple #[.int .i64 (Fo.wi u x), .int .i64 ((v - i * z % y) % y)]) ∧ w.grownBy w' none := by
  have hw1 := refWithinC u x lx mx
  have hw2 := refWithinC v y ly my
  have hm1 := refModC (i * z) y hy1 my
  have hm2 := refModC (v - i * z % y) y hy1 my
  have hb := Int.emod_nonneg (i * z) (show y ≠ 0 by omega)
  have hc := Int.emod_lt_of_pos (i * z) (show (0:Int) < y by omega)
  have hwz : IntKind.i64.wrap (i * z) = i * z := by rw [IntKind.wrap_i64]; omega
  have hwu : IntKind.i64.wrap (v - i * z % y) = v - i * z % y := by rw [IntKind.wrap_i64]; omega
  generalize i * z % y = J at *
  obtain ⟨W1, hW1, sz1, g1, B1⟩ := boxn w #[.int .u8 2, .int .i64 x, .int .i64 y, .int .u8 2, .int .i64 z] 23
  have b1_1_0 := B1.cell 0 (v := .int .u8 2) rfl
  have b1_1_1 := B1.cell 1 (v := .int .i64 x) rfl
  have b1_1_2 := B1.cell 2 (v := .int .i64 y) rfl
  have b1_1_3 := B1.cell 3 (v := .int .u8 2) rfl
  have b1_1_4 := B1.cell 4 (v := .int .i64 z) rfl
  go_enter Tryz.func106, Tryz.ntmps106
  go_wp2_with (first | (go_at_call 116; (fail_if_success (guard_hyp mk1)); refine (ht1 _).mono ?_; rintro e w' ⟨rfl, hw'⟩; subst w'; have mk1 : True := trivial) | (go_at_call 116; (fail_if_success (guard_hyp mk2)); refine (ht2 _).mono ?_; rintro e w' ⟨rfl, hw'⟩; subst w'; have mk2 : True := trivial) | (go_at_call 117; (fail_if_success (guard_hyp mk3)); refine (hw1 _).mono ?_; rintro e w' ⟨rfl, hw'⟩; subst w'; have mk3 : True := trivial) | (go_at_call 117; (fail_if_success (guard_hyp mk4)); refine (hw2 _).mono ?_; rintro e w' ⟨rfl, hw'⟩; subst w'; have mk4 : True := trivial) | (go_at_call 119; refine (refOddC _ _).mono ?_; rintro e w' ⟨rfl, hw'⟩; subst w'))
  go_region_held2 (fun w' => w'.cell? ⟨w.heap.size, 0, none⟩ = some (.int .u8 2) ∧ w'.cell? ⟨w.heap.size, 1, none⟩ = some (.int .i64 x) ∧ w'.cell? ⟨w.heap.size, 2, none⟩ = some (.int .i64 y) ∧ w'.cell? ⟨w.heap.size, 3, none⟩ = some (.int .u8 2) ∧ w'.cell? ⟨w.heap.size, 4, none⟩ = some (.int .i64 z)) (go_keep) (first | (go_at_call 118; (fail_if_success (guard_hyp mm0)); refine (hm1 _).mono ?_; rintro e w' ⟨rfl, hw'⟩; subst w'; have mm0 : True := trivial) | (go_at_call 118; (fail_if_success (guard_hyp mm1)); refine (hm2 _).mono ?_; rintro e w' ⟨rfl, hw'⟩; subst w'; have mm1 : True := trivial))
  have B1d := B1.dr
  have g1d := gb_drew g1
  clear b1_1_0 b1_1_1 b1_1_2 b1_1_3 b1_1_4
  have b1_2_0 := B1d.cell 0 (v := .int .u8 2) rfl
  have b1_2_1 := B1d.cell 1 (v := .int .i64 x) rfl
  have b1_2_2 := B1d.cell 2 (v := .int .i64 y) rfl
  have b1_2_3 := B1d.cell 3 (v := .int .u8 2) rfl
  have b1_2_4 := B1d.cell 4 (v := .int .i64 z) rfl
  go_wp2
  go_ret2
  exact ⟨rfl, g1d⟩

set_option maxHeartbeats 1000000 in
theorem rf31n (x y z u v i j : Int) (lx : 0 ≤ x) (mx : x ≤ 65536) (ly : 0 ≤ y) (my : y ≤ 65536) (lz : -65536 ≤ z) (mz : z ≤ 65536) (lu : -2199023255552 ≤ u) (mu : u ≤ 2199023255552) (lv : -2199023255552 ≤ v) (mv : v ≤ 2199023255552) (ho : odB j = false) (ht1 : ∀ w, Calls Tryz.prog 116 #[.int .i64 u, .int .i64 x] w fun e w' => e = .returned (.int .i64 i) ∧ w' = w) (ht2 : ∀ w, Calls Tryz.prog 116 #[.int .i64 v, .int .i64 y] w fun e w' => e = .returned (.int .i64 j) ∧ w' = w) (w : World) : Calls Tryz.prog 106 #[.agg #[.int .u8 3, .int .i64 x, .int .i64 y, .int .u8 1, .int .i64 z], .int .i64 u, .int .i64 v] w fun e w' => e = .returned (.tuple #[.int .i64 (Fo.wi u x), .int .i64 (Fo.wi v y)]) ∧ w.grownBy w' none := by
  have hw1 := refWithinC u x lx mx
  have hw2 := refWithinC v y ly my
  obtain ⟨W1, hW1, sz1, g1, B1⟩ := boxn w #[.int .u8 3, .int .i64 x, .int .i64 y, .int .u8 1, .int .i64 z] 23
  have b1_1_0 := B1.cell 0 (v := .int .u8 3) rfl
  have b1_1_1 := B1.cell 1 (v := .int .i64 x) rfl
  have b1_1_2 := B1.cell 2 (v := .int .i64 y) rfl
  have b1_1_3 := B1.cell 3 (v := .int .u8 1) rfl
  have b1_1_4 := B1.cell 4 (v := .int .i64 z) rfl
  go_enter Tryz.func106, Tryz.ntmps106
  go_wp2_with (first | (go_at_call 116; (fail_if_success (guard_hyp mk1)); refine (ht1 _).mono ?_; rintro e w' ⟨rfl, hw'⟩; subst w'; have mk1 : True := trivial) | (go_at_call 116; (fail_if_success (guard_hyp mk2)); refine (ht2 _).mono ?_; rintro e w' ⟨rfl, hw'⟩; subst w'; have mk2 : True := trivial) | (go_at_call 117; (fail_if_success (guard_hyp mk3)); refine (hw1 _).mono ?_; rintro e w' ⟨rfl, hw'⟩; subst w'; have mk3 : True := trivial) | (go_at_call 117; (fail_if_success (guard_hyp mk4)); refine (hw2 _).mono ?_; rintro e w' ⟨rfl, hw'⟩; subst w'; have mk4 : True := trivial) | (go_at_call 119; refine (refOddC _ _).mono ?_; rintro e w' ⟨rfl, hw'⟩; subst w'))
  go_ret2
  exact ⟨rfl, g1⟩

set_option maxHeartbeats 1000000 in
theorem rf31y (x y z u v i j : Int) (lx : 0 ≤ x) (mx : x ≤ 65536) (ly : 0 ≤ y) (my : y ≤ 65536) (lz : -65536 ≤ z) (mz : z ≤ 65536) (lu : -2199023255552 ≤ u) (mu : u ≤ 2199023255552) (lv : -2199023255552 ≤ v) (mv : v ≤ 2199023255552) (hx1 : 1 ≤ x) (ho : odB j = true) (ht1 : ∀ w, Calls Tryz.prog 116 #[.int .i64 u, .int .i64 x] w fun e w' => e = .returned (.int .i64 i) ∧ w' = w) (ht2 : ∀ w, Calls Tryz.prog 116 #[.int .i64 v, .int .i64 y] w fun e w' => e = .returned (.int .i64 j) ∧ w' = w) (w : World) : Calls Tryz.prog 106 #[.agg #[.int .u8 3, .int .i64 x, .int .i64 y, .int .u8 1, .int .i64 z], .int .i64 u, .int .i64 v] w fun e w' => e = .returned (.tuple #[.int .i64 ((x - 1 - u + z) % x), .int .i64 (Fo.wi v y)]) ∧ w.grownBy w' none := by
  have hw1 := refWithinC u x lx mx
  have hw2 := refWithinC v y ly my
  have hm1 := refModC (x - 1 - u + z) x hx1 mx
  obtain ⟨W1, hW1, sz1, g1, B1⟩ := boxn w #[.int .u8 3, .int .i64 x, .int .i64 y, .int .u8 1, .int .i64 z] 23
  have b1_1_0 := B1.cell 0 (v := .int .u8 3) rfl
  have b1_1_1 := B1.cell 1 (v := .int .i64 x) rfl
  have b1_1_2 := B1.cell 2 (v := .int .i64 y) rfl
  have b1_1_3 := B1.cell 3 (v := .int .u8 1) rfl
  have b1_1_4 := B1.cell 4 (v := .int .i64 z) rfl
  go_enter Tryz.func106, Tryz.ntmps106
  go_wp2_with (first | (go_at_call 116; (fail_if_success (guard_hyp mk1)); refine (ht1 _).mono ?_; rintro e w' ⟨rfl, hw'⟩; subst w'; have mk1 : True := trivial) | (go_at_call 116; (fail_if_success (guard_hyp mk2)); refine (ht2 _).mono ?_; rintro e w' ⟨rfl, hw'⟩; subst w'; have mk2 : True := trivial) | (go_at_call 117; (fail_if_success (guard_hyp mk3)); refine (hw1 _).mono ?_; rintro e w' ⟨rfl, hw'⟩; subst w'; have mk3 : True := trivial) | (go_at_call 117; (fail_if_success (guard_hyp mk4)); refine (hw2 _).mono ?_; rintro e w' ⟨rfl, hw'⟩; subst w'; have mk4 : True := trivial) | (go_at_call 119; refine (refOddC _ _).mono ?_; rintro e w' ⟨rfl, hw'⟩; subst w') | (go_at_call 118; (fail_if_success (guard_hyp mm0)); refine (hm1 _).mono ?_; rintro e w' ⟨rfl, hw'⟩; subst w'; have mm0 : True := trivial))
  go_ret2
  exact ⟨rfl, g1⟩

set_option maxHeartbeats 1000000 in
theorem rf32n (x y z u v i j : Int) (lx : 0 ≤ x) (mx : x ≤ 65536) (ly : 0 ≤ y) (my : y ≤ 65536) (lz : -65536 ≤ z) (mz : z ≤ 65536) (lu : -2199023255552 ≤ u) (mu : u ≤ 2199023255552) (lv : -2199023255552 ≤ v) (mv : v ≤ 2199023255552) (ho : odB i = false) (ht1 : ∀ w, Calls Tryz.prog 116 #[.int .i64 u, .int .i64 x] w fun e w' => e = .returned (.int .i64 i) ∧ w' = w) (ht2 : ∀ w, Calls Tryz.prog 116 #[.int .i64 v, .int .i64 y] w fun e w' => e = .returned (.int .i64 j) ∧ w' = w) (w : World) : Calls Tryz.prog 106 #[.agg #[.int .u8 3, .int .i64 x, .int .i64 y, .int .u8 2, .int .i64 z], .int .i64 u, .int .i64 v] w fun e w' => e = .returned (.tuple #[.int .i64 (Fo.wi u x), .int .i64 (Fo.wi v y)]) ∧ w.grownBy w' none := by
  have hw1 := refWithinC u x lx mx
  have hw2 := refWithinC v y ly my
  obtain ⟨W1, hW1, sz1, g1, B1⟩ := boxn w #[.int .u8 3, .int .i64 x, .int .i64 y, .int .u8 2, .int .i64 z] 23
  have b1_1_0 := B1.cell 0 (v := .int .u8 3) rfl
  have b1_1_1 := B1.cell 1 (v := .int .i64 x) rfl
  have b1_1_2 := B1.cell 2 (v := .int .i64 y) rfl
  have b1_1_3 := B1.cell 3 (v := .int .u8 2) rfl
  have b1_1_4 := B1.cell 4 (v := .int .i64 z) rfl
  go_enter Tryz.func106, Tryz.ntmps106
  go_wp2_with (first | (go_at_call 116; (fail_if_success (guard_hyp mk1)); refine (ht1 _).mono ?_; rintro e w' ⟨rfl, hw'⟩; subst w'; have mk1 : True := trivial) | (go_at_call 116; (fail_if_success (guard_hyp mk2)); refine (ht2 _).mono ?_; rintro e w' ⟨rfl, hw'⟩; subst w'; have mk2 : True := trivial) | (go_at_call 117; (fail_if_success (guard_hyp mk3)); refine (hw1 _).mono ?_; rintro e w' ⟨rfl, hw'⟩; subst w'; have mk3 : True := trivial) | (go_at_call 117; (fail_if_success (guard_hyp mk4)); refine (hw2 _).mono ?_; rintro e w' ⟨rfl, hw'⟩; subst w'; have mk4 : True := trivial) | (go_at_call 119; refine (refOddC _ _).mono ?_; rintro e w' ⟨rfl, hw'⟩; subst w'))
  go_ret2
  exact ⟨rfl, g1⟩

set_option maxHeartbeats 1000000 in
theorem rf32y (x y z u v i j : Int) (lx : 0 ≤ x) (mx : x ≤ 65536) (ly : 0 ≤ y) (my : y ≤ 65536) (lz : -65536 ≤ z) (mz : z ≤ 65536) (lu : -2199023255552 ≤ u) (mu : u ≤ 2199023255552) (lv : -2199023255552 ≤ v) (mv : v ≤ 2199023255552) (hy1 : 1 ≤ y) (ho : odB i = true) (ht1 : ∀ w, Calls Tryz.prog 116 #[.int .i64 u, .int .i64 x] w fun e w' => e = .returned (.int .i64 i) ∧ w' = w) (ht2 : ∀ w, Calls Tryz.prog 116 #[.int .i64 v, .int .i64 y] w fun e w' => e = .returned (.int .i64 j) ∧ w' = w) (w : World) : Calls Tryz.prog 106 #[.agg #[.int .u8 3, .int .i64 x, .int .i64 y, .int .u8 2, .int .i64 z], .int .i64 u, .int .i64 v] w fun e w' => e = .returned (.tuple #[.int .i64 (Fo.wi u x), .int .i64 ((y - 1 - v + z) % y)]) ∧ w.grownBy w' none := by
  have hw1 := refWithinC u x lx mx
  have hw2 := refWithinC v y ly my
  have hm1 := refModC (y - 1 - v + z) y hy1 my
  obtain ⟨W1, hW1, sz1, g1, B1⟩ := boxn w #[.int .u8 3, .int .i64 x, .int .i64 y, .int .u8 2, .int .i64 z] 23
  have b1_1_0 := B1.cell 0 (v := .int .u8 3) rfl
  have b1_1_1 := B1.cell 1 (v := .int .i64 x) rfl
  have b1_1_2 := B1.cell 2 (v := .int .i64 y) rfl
  have b1_1_3 := B1.cell 3 (v := .int .u8 2) rfl
  have b1_1_4 := B1.cell 4 (v := .int .i64 z) rfl
  go_enter Tryz.func106, Tryz.ntmps106
  go_wp2_with (first | (go_at_call 116; (fail_if_success (guard_hyp mk1)); refine (ht1 _).mono ?_; rintro e w' ⟨rfl, hw'⟩; subst w'; have mk1 : True := trivial) | (go_at_call 116; (fail_if_success (guard_hyp mk2)); refine (ht2 _).mono ?_; rintro e w' ⟨rfl, hw'⟩; subst w'; have mk2 : True := trivial) | (go_at_call 117; (fail_if_success (guard_hyp mk3)); refine (hw1 _).mono ?_; rintro e w' ⟨rfl, hw'⟩; subst w'; have mk3 : True := trivial) | (go_at_call 117; (fail_if_success (guard_hyp mk4)); refine (hw2 _).mono ?_; rintro e w' ⟨rfl, hw'⟩; subst w'; have mk4 : True := trivial) | (go_at_call 119; refine (refOddC _ _).mono ?_; rintro e w' ⟨rfl, hw'⟩; subst w') | (go_at_call 118; (fail_if_success (guard_hyp mm0)); refine (hm1 _).mono ?_; rintro e w' ⟨rfl, hw'⟩; subst w'; have mm0 : True := trivial))
  go_ret2
  exact ⟨rfl, g1⟩

set_option maxHeartbeats 1000000 in
theorem rf400 (x y t z u v i j : Int) (lx : 0 ≤ x) (mx : x ≤ 65536) (ly : 0 ≤ y) (my : y ≤ 65536) (lz : -65536 ≤ z) (mz : z ≤ 65536) (lu : -2199023255552 ≤ u) (mu : u ≤ 2199023255552) (lv : -2199023255552 ≤ v) (mv : v ≤ 2199023255552) (hx1 : 1 ≤ x) (hy1 : 1 ≤ y) (hj : odB j = false) (hi : odB i = false) (ht1 : ∀ w, Calls Tryz.prog 116 #[.int .i64 u, .int .i64 x] w fun e w' => e = .returned (.int .i64 i) ∧ w' = w) (ht2 : ∀ w, Calls Tryz.prog 116 #[.int .i64 v, .int .i64 y] w fun e w' => e = .returned (.int .i64 j) ∧ w' = w) (w : World) : Calls Tryz.prog 106 #[.agg #[.int .u8 4, .int .i64 x, .int .i64 y, .int .u8 t, .int .i64 z], .int .i64 u, .int .i64 v] w fun e w' => e = .returned (.tuple #[.int .i64 (Fo.wi u x), .int .i64 (Fo.wi v y)]) ∧ w.grownBy w' none := by
  have hw1 := refWithinC u x lx mx
  have hw2 := refWithinC v y ly my
  have ax := Fo.wi_bd u hx1
  have ay := Fo.wi_bd v hy1
  obtain ⟨ax1, ax2⟩ := ax
  obtain ⟨ay1, ay2⟩ := ay
  obtain ⟨W1, hW1, sz1, g1, B1⟩ := boxn w #[.int .u8 4, .int .i64 x, .int .i64 y, .int .u8 t, .int .i64 z] 23
  have b1_1_0 := B1.cell 0 (v := .int .u8 4) rfl
  have b1_1_1 := B1.cell 1 (v := .int .i64 x) rfl
  have b1_1_2 := B1.cell 2 (v := .int .i64 y) rfl
  have b1_1_3 := B1.cell 3 (v := .int .u8 t) rfl
  have b1_1_4 := B1.cell 4 (v := .int .i64 z) rfl
  go_enter Tryz.func106, Tryz.ntmps106
  go_wp2_with (first | (go_at_call 116; (fail_if_success (guard_hyp mk1)); refine (ht1 _).mono ?_; rintro e w' ⟨rfl, hw'⟩; subst w'; have mk1 : True := trivial) | (go_at_call 116; (fail_if_success (guard_hyp mk2)); refine (ht2 _).mono ?_; rintro e w' ⟨rfl, hw'⟩; subst w'; have mk2 : True := trivial) | (go_at_call 117; (fail_if_success (guard_hyp mk3)); refine (hw1 _).mono ?_; rintro e w' ⟨rfl, hw'⟩; subst w'; have mk3 : True := trivial) | (go_at_call 117; (fail_if_success (guard_hyp mk4)); refine (hw2 _).mono ?_; rintro e w' ⟨rfl, hw'⟩; subst w'; have mk4 : True := trivial) | (go_at_call 119; refine (refOddC _ _).mono ?_; rintro e w' ⟨rfl, hw'⟩; subst w'))
  go_ret2
  exact ⟨rfl, g1⟩

set_option maxHeartbeats 1000000 in
theorem rf401 (x y t z u v i j : Int) (lx : 0 ≤ x) (mx : x ≤ 65536) (ly : 0 ≤ y) (my : y ≤ 65536) (lz : -65536 ≤ z) (mz : z ≤ 65536) (lu : -2199023255552 ≤ u) (mu : u ≤ 2199023255552) (lv : -2199023255552 ≤ v) (mv : v ≤ 2199023255552) (hx1 : 1 ≤ x) (hy1 : 1 ≤ y) (hj : odB j = false) (hi : odB i = true) (ht1 : ∀ w, Calls Tryz.prog 116 #[.int .i64 u, .int .i64 x] w fun e w' => e = .returned (.int .i64 i) ∧ w' = w) (ht2 : ∀ w, Calls Tryz.prog 116 #[.int .i64 v, .int .i64 y] w fun e w' => e = .returned (.int .i64 j) ∧ w' = w) (w : World) : Calls Tryz.prog 106 #[.agg #[.int .u8 4, .int .i64 x, .int .i64 y, .int .u8 t, .int .i64 z], .int .i64 u, .int .i64 v] w fun e w' => e = .returned (.tuple #[.int .i64 (Fo.wi u x), .int .i64 (y - 1 - Fo.wi v y)]) ∧ w.grownBy w' none := by
  have hw1 := refWithinC u x lx mx
  have hw2 := refWithinC v y ly my
  have ax := Fo.wi_bd u hx1
  have ay := Fo.wi_bd v hy1
  obtain ⟨ax1, ax2⟩ := ax
  obtain ⟨ay1, ay2⟩ := ay
  obtain ⟨W1, hW1, sz1, g1, B1⟩ := boxn w #[.int .u8 4, .int .i64 x, .int .i64 y, .int .u8 t, .int .i64 z] 23
  have b1_1_0 := B1.cell 0 (v := .int .u8 4) rfl
  have b1_1_1 := B1.cell 1 (v := .int .i64 x) rfl
  have b1_1_2 := B1.cell 2 (v := .int .i64 y) rfl
  have b1_1_3 := B1.cell 3 (v := .int .u8 t) rfl
  have b1_1_4 := B1.cell 4 (v := .int .i64 z) rfl
  go_enter Tryz.func106, Tryz.ntmps106
  go_wp2_with (first | (go_at_call 116; (fail_if_success (guard_hyp mk1)); refine (ht1 _).mono ?_; rintro e w' ⟨rfl, hw'⟩; subst w'; have mk1 : True := trivial) | (go_at_call 116; (fail_if_success (guard_hyp mk2)); refine (ht2 _).mono ?_; rintro e w' ⟨rfl, hw'⟩; subst w'; have mk2 : True := trivial) | (go_at_call 117; (fail_if_success (guard_hyp mk3)); refine (hw1 _).mono ?_; rintro e w' ⟨rfl, hw'⟩; subst w'; have mk3 : True := trivial) | (go_at_call 117; (fail_if_success (guard_hyp mk4)); refine (hw2 _).mono ?_; rintro e w' ⟨rfl, hw'⟩; subst w'; have mk4 : True := trivial) | (go_at_call 119; refine (refOddC _ _).mono ?_; rintro e w' ⟨rfl, hw'⟩; subst w'))
  go_ret2
  exact ⟨rfl, g1⟩

set_option maxHeartbeats 1000000 in
theorem rf410 (x y t z u v i j : Int) (lx : 0 ≤ x) (mx : x ≤ 65536) (ly : 0 ≤ y) (my : y ≤ 65536) (lz : -65536 ≤ z) (mz : z ≤ 65536) (lu : -2199023255552 ≤ u) (mu : u ≤ 2199023255552) (lv : -2199023255552 ≤ v) (mv : v ≤ 2199023255552) (hx1 : 1 ≤ x) (hy1 : 1 ≤ y) (hj : odB j = true) (hi : odB i = false) (ht1 : ∀ w, Calls Tryz.prog 116 #[.int .i64 u, .int .i64 x] w fun e w' => e = .returned (.int .i64 i) ∧ w' = w) (ht2 : ∀ w, Calls Tryz.prog 116 #[.int .i64 v, .int .i64 y] w fun e w' => e = .returned (.int .i64 j) ∧ w' = w) (w : World) : Calls Tryz.prog 106 #[.agg #[.int .u8 4, .int .i64 x, .int .i64 y, .int .u8 t, .int .i64 z], .int .i64 u, .int .i64 v] w fun e w' => e = .returned (.tuple #[.int .i64 (x - 1 - Fo.wi u x), .int .i64 (Fo.wi v y)]) ∧ w.grownBy w' none := by
  have hw1 := refWithinC u x lx mx
  have hw2 := refWithinC v y ly my
  have ax := Fo.wi_bd u hx1
  have ay := Fo.wi_bd v hy1
  obtain ⟨ax1, ax2⟩ := ax
  obtain ⟨ay1, ay2⟩ := ay
  obtain ⟨W1, hW1, sz1, g1, B1⟩ := boxn w #[.int .u8 4, .int .i64 x, .int .i64 y, .int .u8 t, .int .i64 z] 23
  have b1_1_0 := B1.cell 0 (v := .int .u8 4) rfl
  have b1_1_1 := B1.cell 1 (v := .int .i64 x) rfl
  have b1_1_2 := B1.cell 2 (v := .int .i64 y) rfl
  have b1_1_3 := B1.cell 3 (v := .int .u8 t) rfl
  have b1_1_4 := B1.cell 4 (v := .int .i64 z) rfl
  go_enter Tryz.func106, Tryz.ntmps106
  go_wp2_with (first | (go_at_call 116; (fail_if_success (guard_hyp mk1)); refine (ht1 _).mono ?_; rintro e w' ⟨rfl, hw'⟩; subst w'; have mk1 : True := trivial) | (go_at_call 116; (fail_if_success (guard_hyp mk2)); refine (ht2 _).mono ?_; rintro e w' ⟨rfl, hw'⟩; subst w'; have mk2 : True := trivial) | (go_at_call 117; (fail_if_success (guard_hyp mk3)); refine (hw1 _).mono ?_; rintro e w' ⟨rfl, hw'⟩; subst w'; have mk3 : True := trivial) | (go_at_call 117; (fail_if_success (guard_hyp mk4)); refine (hw2 _).mono ?_; rintro e w' ⟨rfl, hw'⟩; subst w'; have mk4 : True := trivial) | (go_at_call 119; refine (refOddC _ _).mono ?_; rintro e w' ⟨rfl, hw'⟩; subst w'))
  go_ret2
  exact ⟨rfl, g1⟩

set_option maxHeartbeats 1000000 in
theorem rf411 (x y t z u v i j : Int) (lx : 0 ≤ x) (mx : x ≤ 65536) (ly : 0 ≤ y) (my : y ≤ 65536) (lz : -65536 ≤ z) (mz : z ≤ 65536) (lu : -2199023255552 ≤ u) (mu : u ≤ 2199023255552) (lv : -2199023255552 ≤ v) (mv : v ≤ 2199023255552) (hx1 : 1 ≤ x) (hy1 : 1 ≤ y) (hj : odB j = true) (hi : odB i = true) (ht1 : ∀ w, Calls Tryz.prog 116 #[.int .i64 u, .int .i64 x] w fun e w' => e = .returned (.int .i64 i) ∧ w' = w) (ht2 : ∀ w, Calls Tryz.prog 116 #[.int .i64 v, .int .i64 y] w fun e w' => e = .returned (.int .i64 j) ∧ w' = w) (w : World) : Calls Tryz.prog 106 #[.agg #[.int .u8 4, .int .i64 x, .int .i64 y, .int .u8 t, .int .i64 z], .int .i64 u, .int .i64 v] w fun e w' => e = .returned (.tuple #[.int .i64 (x - 1 - Fo.wi u x), .int .i64 (y - 1 - Fo.wi v y)]) ∧ w.grownBy w' none := by
  have hw1 := refWithinC u x lx mx
  have hw2 := refWithinC v y ly my
  have ax := Fo.wi_bd u hx1
  have ay := Fo.wi_bd v hy1
  obtain ⟨ax1, ax2⟩ := ax
  obtain ⟨ay1, ay2⟩ := ay
  obtain ⟨W1, hW1, sz1, g1, B1⟩ := boxn w #[.int .u8 4, .int .i64 x, .int .i64 y, .int .u8 t, .int .i64 z] 23
  have b1_1_0 := B1.cell 0 (v := .int .u8 4) rfl
  have b1_1_1 := B1.cell 1 (v := .int .i64 x) rfl
  have b1_1_2 := B1.cell 2 (v := .int .i64 y) rfl
  have b1_1_3 := B1.cell 3 (v := .int .u8 t) rfl
  have b1_1_4 := B1.cell 4 (v := .int .i64 z) rfl
  go_enter Tryz.func106, Tryz.ntmps106
  go_wp2_with (first | (go_at_call 116; (fail_if_success (guard_hyp mk1)); refine (ht1 _).mono ?_; rintro e w' ⟨rfl, hw'⟩; subst w'; have mk1 : True := trivial) | (go_at_call 116; (fail_if_success (guard_hyp mk2)); refine (ht2 _).mono ?_; rintro e w' ⟨rfl, hw'⟩; subst w'; have mk2 : True := trivial) | (go_at_call 117; (fail_if_success (guard_hyp mk3)); refine (hw1 _).mono ?_; rintro e w' ⟨rfl, hw'⟩; subst w'; have mk3 : True := trivial) | (go_at_call 117; (fail_if_success (guard_hyp mk4)); refine (hw2 _).mono ?_; rintro e w' ⟨rfl, hw'⟩; subst w'; have mk4 : True := trivial) | (go_at_call 119; refine (refOddC _ _).mono ?_; rintro e w' ⟨rfl, hw'⟩; subst w'))
  go_ret2
  exact ⟨rfl, g1⟩

theorem mul_abs6 {j z J Z : Int} (hJ : 0 ≤ J) (hZ : 0 ≤ Z) (h1 : -J ≤ j ∧ j ≤ J) (h2 : -Z ≤ z ∧ z ≤ Z) : -(J * Z) ≤ j * z ∧ j * z ≤ J * Z := by
  have h := Nat.mul_le_mul (show j.natAbs ≤ J.natAbs by omega) (show z.natAbs ≤ Z.natAbs by omega)
  rw [← Int.natAbs_mul, ← Int.natAbs_mul] at h
  have := Int.mul_nonneg hJ hZ
  omega
theorem sub_mod6 (u a x : Int) : (u - a % x) % x = (u - a) % x := by
  have h1 := Int.mul_ediv_add_emod a x
  rw [show u - a % x = u - a + x * (a / x) by omega, Int.add_mul_emod_self_left]
/-- The document's folding of home numbers. -/
theorem refFoldedC (k x y t z u v : Int) (ht : 0 ≤ t) (ok : Tp.Ok k x y t z) (hk : k = 2 ∨ k = 3 ∨ k = 4) (hu : -2199023255552 ≤ u ∧ u ≤ 2199023255552) (hv : -2199023255552 ≤ v ∧ v ≤ 2199023255552) (w : World) :
    Calls Tryz.prog 106 #[.agg #[.int .u8 k, .int .i64 x, .int .i64 y, .int .u8 t, .int .i64 z], .int .i64 u, .int .i64 v] w fun e w' => e = .returned (.tuple #[.int .i64 (Fo.cx k x y t z u v), .int .i64 (Fo.cy k x y t z u v)]) ∧ w.grownBy w' none := by
  have hx := ok.wide
  have hy := ok.high
  have gl := Fo.gl_of ht ok hk
  have di : -2199023255552 ≤ Nm.divZ u x ∧ Nm.divZ u x ≤ 2199023255552 := Nm.divZ_bd hu.1 hu.2 (by omega) (by omega)
  have dj : -2199023255552 ≤ Nm.divZ v y ∧ Nm.divZ v y ≤ 2199023255552 := Nm.divZ_bd hv.1 hv.2 (by omega) (by omega)
  have hz : -65536 ≤ z ∧ z ≤ 65536 := by
    by_cases h0 : t = 0
    · have := ok.none h0; omega
    · have := ok.near h0; unfold Tp.sd at this; split at this <;> omega
  have mj := mul_abs6 (by omega) (by omega) dj hz
  have mi := mul_abs6 (by omega) (by omega) di hz
  rcases hk with rfl | rfl | rfl
  · obtain h1 | h1 | ⟨h1, h2⟩ : t = 1 ∨ t = 2 ∨ (¬ t = 1 ∧ ¬ t = 2) := by omega
    · subst h1
      have hx1 := (gl.torus rfl (.inl rfl)).1
      rw [Fo.cx_21, Fo.cy, Fo.cx_2 (by omega), Fo.wi_pos hx1, ← sub_mod6]
      exact rf21 x y z u v _ _ hx.1 hx.2 hy.1 hy.2 hz.1 hz.2 hu.1 hu.2 hv.1 hv.2 hx1 (by omega) (by omega) (refTileC u x hx.1 hx.2 (by omega) (by omega)) (refTileC v y hy.1 hy.2 (by omega) (by omega)) w
    · subst h1
      have hy1 := (gl.torus rfl (.inr rfl)).2
      rw [Fo.cx_2 (by omega), Fo.cy, show (3 : Int) - 2 = 1 from rfl, Fo.cx_21, Fo.wi_pos hy1, ← sub_mod6]
      exact rf22 x y z u v _ _ hx.1 hx.2 hy.1 hy.2 hz.1 hz.2 hu.1 hu.2 hv.1 hv.2 hy1 (by omega) (by omega) (refTileC u x hx.1 hx.2 (by omega) (by omega)) (refTileC v y hy.1 hy.2 (by omega) (by omega)) w
    · rw [Fo.cx_2 h1, Fo.cy, Fo.cx_2 (by omega)]
      exact rf2n x y t z u v _ _ hx.1 hx.2 hy.1 hy.2 hz.1 hz.2 hu.1 hu.2 hv.1 hv.2 (beq_eq_false_iff_ne.2 h1) (beq_eq_false_iff_ne.2 h2) (refTileC u x hx.1 hx.2 (by omega) (by omega)) (refTileC v y hy.1 hy.2 (by omega) (by omega)) w
  · obtain ⟨hx1, hy1⟩ := gl.ended (by omega)
    rcases gl.klein rfl with rfl | rfl
    · cases ho : odB (Nm.divZ v y)
      · have h3 : ¬ Nm.divZ v y % 2 = 1 := of_decide_eq_false ho
        rw [Fo.cx_31, if_neg h3, Fo.cy, Fo.cx_3 (by omega)]
        exact rf31n x y z u v _ _ hx.1 hx.2 hy.1 hy.2 hz.1 hz.2 hu.1 hu.2 hv.1 hv.2 ho (refTileC u x hx.1 hx.2 (by omega) (by omega)) (refTileC v y hy.1 hy.2 (by omega) (by omega)) w
      · have h3 : Nm.divZ v y % 2 = 1 := of_decide_eq_true ho
        rw [Fo.cx_31, if_pos h3, Fo.cy, Fo.cx_3 (by omega), Fo.wi_pos hx1]
        exact rf31y x y z u v _ _ hx.1 hx.2 hy.1 hy.2 hz.1 hz.2 hu.1 hu.2 hv.1 hv.2 hx1 ho (refTileC u x hx.1 hx.2 (by omega) (by omega)) (refTileC v y hy.1 hy.2 (by omega) (by omega)) w
    · cases ho : odB (Nm.divZ u x)
      · have h3 : ¬ Nm.divZ u x % 2 = 1 := of_decide_eq_false ho
        rw [Fo.cx_3 (by omega), Fo.cy, show (3 : Int) - 2 = 1 from rfl, Fo.cx_31, if_neg h3]
        exact rf32n x y z u v _ _ hx.1 hx.2 hy.1 hy.2 hz.1 hz.2 hu.1 hu.2 hv.1 hv.2 ho (refTileC u x hx.1 hx.2 (by omega) (by omega)) (refTileC v y hy.1 hy.2 (by omega) (by omega)) w
      · have h3 : Nm.divZ u x % 2 = 1 := of_decide_eq_true ho
        rw [Fo.cx_3 (by omega), Fo.cy, show (3 : Int) - 2 = 1 from rfl, Fo.cx_31, if_pos h3, Fo.wi_pos hy1]
        exact rf32y x y z u v _ _ hx.1 hx.2 hy.1 hy.2 hz.1 hz.2 hu.1 hu.2 hv.1 hv.2 hy1 ho (refTileC u x hx.1 hx.2 (by omega) (by omega)) (refTileC v y hy.1 hy.2 (by omega) (by omega)) w
  · obtain ⟨hx1, hy1⟩ := gl.ended (by omega)
    cases hj : odB (Nm.divZ v y) <;> cases hi : odB (Nm.divZ u x)
    · rw [Fo.cx_4, if_neg (of_decide_eq_false hj), Fo.cy, Fo.cx_4, if_neg (of_decide_eq_false hi)]
      exact rf400 x y t z u v _ _ hx.1 hx.2 hy.1 hy.2 hz.1 hz.2 hu.1 hu.2 hv.1 hv.2 hx1 hy1 hj hi (refTileC u x hx.1 hx.2 (by omega) (by omega)) (refTileC v y hy.1 hy.2 (by omega) (by omega)) w
    · rw [Fo.cx_4, if_neg (of_decide_eq_false hj), Fo.cy, Fo.cx_4, if_pos (of_decide_eq_true hi), Fo.wi_back hy1]
      exact rf401 x y t z u v _ _ hx.1 hx.2 hy.1 hy.2 hz.1 hz.2 hu.1 hu.2 hv.1 hv.2 hx1 hy1 hj hi (refTileC u x hx.1 hx.2 (by omega) (by omega)) (refTileC v y hy.1 hy.2 (by omega) (by omega)) w
    · rw [Fo.cx_4, if_pos (of_decide_eq_true hj), Fo.cy, Fo.cx_4, if_neg (of_decide_eq_false hi), Fo.wi_back hx1]
      exact rf410 x y t z u v _ _ hx.1 hx.2 hy.1 hy.2 hz.1 hz.2 hu.1 hu.2 hv.1 hv.2 hx1 hy1 hj hi (refTileC u x hx.1 hx.2 (by omega) (by omega)) (refTileC v y hy.1 hy.2 (by omega) (by omega)) w
    · rw [Fo.cx_4, if_pos (of_decide_eq_true hj), Fo.cy, Fo.cx_4, if_pos (of_decide_eq_true hi), Fo.wi_back hx1, Fo.wi_back hy1]
      exact rf411 x y t z u v _ _ hx.1 hx.2 hy.1 hy.2 hz.1 hz.2 hu.1 hu.2 hv.1 hv.2 hx1 hy1 hj hi (refTileC u x hx.1 hx.2 (by omega) (by omega)) (refTileC v y hy.1 hy.2 (by omega) (by omega)) w
end Go.Proofs.YtjndljjpbkfmiaaGreatDoor.Fd
namespace Go.Proofs.YtjndljjpbkfmiaaGreatDoor.Fd
open Go.RowKit
set_option linter.unusedVariables false
set_option linter.unusedSimpArgs false
set_option maxRecDepth 100000

/-- What a fault of the topology or of the place is told as. -/
def rfE (k x y t z a b : Int) : Int := if Tp.chk k x y t z = 0 then (if (To.frB a || To.frB b) = true then 5 else 0) else 9

theorem refusedNo (k x y t z a b : Int) (ht : 0 ≤ t) (h : ¬ Tp.chk k x y t z = 0) (w : World) : Calls Tryz.prog 84 #[.agg #[.int .u8 k, .int .i64 x, .int .i64 y, .int .u8 t, .int .i64 z], .agg #[.int .i64 a, .int .i64 b]] w fun e w' => e = .returned (.int .i64 9) ∧ w.grownBy w' none := by
  have hc := To.refCheckC k x y t z ht
  have hn := refNear6
  have hb : ((Tp.chk k x y t z) == 0) = false := beq_eq_false_iff_ne.2 h
  generalize Tp.chk k x y t z = er at *
  obtain ⟨W1, hW1, sz1, g1, B1⟩ := boxn w #[.int .u8 k, .int .i64 x, .int .i64 y, .int .u8 t, .int .i64 z] 23
  obtain ⟨W2, hW2, sz2, g2, B2⟩ := boxn W1 #[.int .i64 a, .int .i64 b] 60
  have G2 := gb_trans g1 g2
  have B1x := B1.kept g2 (by simp)
  have b1_2_0 := B1x.cell 0 (v := .int .u8 k) rfl
  have b1_2_1 := B1x.cell 1 (v := .int .i64 x) rfl
  have b1_2_2 := B1x.cell 2 (v := .int .i64 y) rfl
  have b1_2_3 := B1x.cell 3 (v := .int .u8 t) rfl
  have b1_2_4 := B1x.cell 4 (v := .int .i64 z) rfl
  have b2_2_0 := B2.cell 0 (v := .int .i64 a) rfl
  have b2_2_1 := B2.cell 1 (v := .int .i64 b) rfl
  go_enter Tryz.func84, Tryz.ntmps84
  go_wp2_with (first | (go_at_call 65; (fail_if_success (guard_hyp g3)); refine (hc _).mono ?_; rintro e w3 ⟨rfl, g3⟩; have G3 := gb_trans G2 g3; have B1xx := B1x.kept g3 (by simp); have B2x := B2.kept g3 (by simp); clear b1_2_0 b1_2_1 b1_2_2 b1_2_3 b1_2_4 b2_2_0 b2_2_1; have b1_3_0 := B1xx.cell 0 (v := .int .u8 k) rfl; have b1_3_1 := B1xx.cell 1 (v := .int .i64 x) rfl; have b1_3_2 := B1xx.cell 2 (v := .int .i64 y) rfl; have b1_3_3 := B1xx.cell 3 (v := .int .u8 t) rfl; have b1_3_4 := B1xx.cell 4 (v := .int .i64 z) rfl; have b2_3_0 := B2x.cell 0 (v := .int .i64 a) rfl; have b2_3_1 := B2x.cell 1 (v := .int .i64 b) rfl) | (go_at_call 104; refine (hn _ _).mono ?_; rintro e w' ⟨rfl, hw'⟩; subst w'))
  go_ret
  exact ⟨rfl, G3⟩

theorem refusedF1 (k x y t z a b : Int) (ht : 0 ≤ t) (h : Tp.chk k x y t z = 0) (h1 : To.frB a = true) (w : World) : Calls Tryz.prog 84 #[.agg #[.int .u8 k, .int .i64 x, .int .i64 y, .int .u8 t, .int .i64 z], .agg #[.int .i64 a, .int .i64 b]] w fun e w' => e = .returned (.int .i64 5) ∧ w.grownBy w' none := by
  have hc := To.refCheckC k x y t z ht
  have hn := refNear6
  rw [h] at hc
  clear h
  obtain ⟨W1, hW1, sz1, g1, B1⟩ := boxn w #[.int .u8 k, .int .i64 x, .int .i64 y, .int .u8 t, .int .i64 z] 23
  obtain ⟨W2, hW2, sz2, g2, B2⟩ := boxn W1 #[.int .i64 a, .int .i64 b] 60
  have G2 := gb_trans g1 g2
  have B1x := B1.kept g2 (by simp)
  have b1_2_0 := B1x.cell 0 (v := .int .u8 k) rfl
  have b1_2_1 := B1x.cell 1 (v := .int .i64 x) rfl
  have b1_2_2 := B1x.cell 2 (v := .int .i64 y) rfl
  have b1_2_3 := B1x.cell 3 (v := .int .u8 t) rfl
  have b1_2_4 := B1x.cell 4 (v := .int .i64 z) rfl
  have b2_2_0 := B2.cell 0 (v := .int .i64 a) rfl
  have b2_2_1 := B2.cell 1 (v := .int .i64 b) rfl
  go_enter Tryz.func84, Tryz.ntmps84
  go_wp2_with (first | (go_at_call 65; (fail_if_success (guard_hyp g3)); refine (hc _).mono ?_; rintro e w3 ⟨rfl, g3⟩; have G3 := gb_trans G2 g3; have B1xx := B1x.kept g3 (by simp); have B2x := B2.kept g3 (by simp); clear b1_2_0 b1_2_1 b1_2_2 b1_2_3 b1_2_4 b2_2_0 b2_2_1; have b1_3_0 := B1xx.cell 0 (v := .int .u8 k) rfl; have b1_3_1 := B1xx.cell 1 (v := .int .i64 x) rfl; have b1_3_2 := B1xx.cell 2 (v := .int .i64 y) rfl; have b1_3_3 := B1xx.cell 3 (v := .int .u8 t) rfl; have b1_3_4 := B1xx.cell 4 (v := .int .i64 z) rfl; have b2_3_0 := B2x.cell 0 (v := .int .i64 a) rfl; have b2_3_1 := B2x.cell 1 (v := .int .i64 b) rfl) | (go_at_call 104; refine (hn _ _).mono ?_; rintro e w' ⟨rfl, hw'⟩; subst w'))
  go_ret
  exact ⟨rfl, G3⟩

theorem refusedF2 (k x y t z a b : Int) (ht : 0 ≤ t) (h : Tp.chk k x y t z = 0) (h1 : To.frB a = false) (h2 : To.frB b = true) (w : World) : Calls Tryz.prog 84 #[.agg #[.int .u8 k, .int .i64 x, .int .i64 y, .int .u8 t, .int .i64 z], .agg #[.int .i64 a, .int .i64 b]] w fun e w' => e = .returned (.int .i64 5) ∧ w.grownBy w' none := by
  have hc := To.refCheckC k x y t z ht
  have hn := refNear6
  rw [h] at hc
  clear h
  obtain ⟨W1, hW1, sz1, g1, B1⟩ := boxn w #[.int .u8 k, .int .i64 x, .int .i64 y, .int .u8 t, .int .i64 z] 23
  obtain ⟨W2, hW2, sz2, g2, B2⟩ := boxn W1 #[.int .i64 a, .int .i64 b] 60
  have G2 := gb_trans g1 g2
  have B1x := B1.kept g2 (by simp)
  have b1_2_0 := B1x.cell 0 (v := .int .u8 k) rfl
  have b1_2_1 := B1x.cell 1 (v := .int .i64 x) rfl
  have b1_2_2 := B1x.cell 2 (v := .int .i64 y) rfl
  have b1_2_3 := B1x.cell 3 (v := .int .u8 t) rfl
  have b1_2_4 := B1x.cell 4 (v := .int .i64 z) rfl
  have b2_2_0 := B2.cell 0 (v := .int .i64 a) rfl
  have b2_2_1 := B2.cell 1 (v := .int .i64 b) rfl
  go_enter Tryz.func84, Tryz.ntmps84
  go_wp2_with (first | (go_at_call 65; (fail_if_success (guard_hyp g3)); refine (hc _).mono ?_; rintro e w3 ⟨rfl, g3⟩; have G3 := gb_trans G2 g3; have B1xx := B1x.kept g3 (by simp); have B2x := B2.kept g3 (by simp); clear b1_2_0 b1_2_1 b1_2_2 b1_2_3 b1_2_4 b2_2_0 b2_2_1; have b1_3_0 := B1xx.cell 0 (v := .int .u8 k) rfl; have b1_3_1 := B1xx.cell 1 (v := .int .i64 x) rfl; have b1_3_2 := B1xx.cell 2 (v := .int .i64 y) rfl; have b1_3_3 := B1xx.cell 3 (v := .int .u8 t) rfl; have b1_3_4 := B1xx.cell 4 (v := .int .i64 z) rfl; have b2_3_0 := B2x.cell 0 (v := .int .i64 a) rfl; have b2_3_1 := B2x.cell 1 (v := .int .i64 b) rfl) | (go_at_call 104; refine (hn _ _).mono ?_; rintro e w' ⟨rfl, hw'⟩; subst w'))
  go_ret
  exact ⟨rfl, G3⟩

theorem refusedOk (k x y t z a b : Int) (ht : 0 ≤ t) (h : Tp.chk k x y t z = 0) (h1 : To.frB a = false) (h2 : To.frB b = false) (w : World) : Calls Tryz.prog 84 #[.agg #[.int .u8 k, .int .i64 x, .int .i64 y, .int .u8 t, .int .i64 z], .agg #[.int .i64 a, .int .i64 b]] w fun e w' => e = .returned (.int .i64 0) ∧ w.grownBy w' none := by
  have hc := To.refCheckC k x y t z ht
  have hn := refNear6
  rw [h] at hc
  clear h
  obtain ⟨W1, hW1, sz1, g1, B1⟩ := boxn w #[.int .u8 k, .int .i64 x, .int .i64 y, .int .u8 t, .int .i64 z] 23
  obtain ⟨W2, hW2, sz2, g2, B2⟩ := boxn W1 #[.int .i64 a, .int .i64 b] 60
  have G2 := gb_trans g1 g2
  have B1x := B1.kept g2 (by simp)
  have b1_2_0 := B1x.cell 0 (v := .int .u8 k) rfl
  have b1_2_1 := B1x.cell 1 (v := .int .i64 x) rfl
  have b1_2_2 := B1x.cell 2 (v := .int .i64 y) rfl
  have b1_2_3 := B1x.cell 3 (v := .int .u8 t) rfl
  have b1_2_4 := B1x.cell 4 (v := .int .i64 z) rfl
  have b2_2_0 := B2.cell 0 (v := .int .i64 a) rfl
  have b2_2_1 := B2.cell 1 (v := .int .i64 b) rfl
  go_enter Tryz.func84, Tryz.ntmps84
  go_wp2_with (first | (go_at_call 65; (fail_if_success (guard_hyp g3)); refine (hc _).mono ?_; rintro e w3 ⟨rfl, g3⟩; have G3 := gb_trans G2 g3; have B1xx := B1x.kept g3 (by simp); have B2x := B2.kept g3 (by simp); clear b1_2_0 b1_2_1 b1_2_2 b1_2_3 b1_2_4 b2_2_0 b2_2_1; have b1_3_0 := B1xx.cell 0 (v := .int .u8 k) rfl; have b1_3_1 := B1xx.cell 1 (v := .int .i64 x) rfl; have b1_3_2 := B1xx.cell 2 (v := .int .i64 y) rfl; have b1_3_3 := B1xx.cell 3 (v := .int .u8 t) rfl; have b1_3_4 := B1xx.cell 4 (v := .int .i64 z) rfl; have b2_3_0 := B2x.cell 0 (v := .int .i64 a) rfl; have b2_3_1 := B2x.cell 1 (v := .int .i64 b) rfl) | (go_at_call 104; refine (hn _ _).mono ?_; rintro e w' ⟨rfl, hw'⟩; subst w'))
  go_ret
  exact ⟨rfl, G3⟩

theorem refusedC (k x y t z a b : Int) (ht : 0 ≤ t) (w : World) : Calls Tryz.prog 84 #[.agg #[.int .u8 k, .int .i64 x, .int .i64 y, .int .u8 t, .int .i64 z], .agg #[.int .i64 a, .int .i64 b]] w fun e w' => e = .returned (.int .i64 (rfE k x y t z a b)) ∧ w.grownBy w' none := by
  unfold rfE
  by_cases h : Tp.chk k x y t z = 0
  · rw [if_pos h]
    cases h1 : To.frB a
    · cases h2 : To.frB b
      · exact refusedOk k x y t z a b ht h h1 h2 w
      · exact refusedF2 k x y t z a b ht h h1 h2 w
    · exact refusedF1 k x y t z a b ht h h1 w
  · rw [if_neg h]
    exact refusedNo k x y t z a b ht h w

set_option maxHeartbeats 1000000 in
theorem inF1 (k x y t z a b : Int) (hx : 0 ≤ x) (hx2 : x ≤ 65536) (hy : 0 ≤ y) (hy2 : y ≤ 65536) (ha : -1099511627776 ≤ a) (ha2 : a ≤ 1099511627776) (hb : -1099511627776 ≤ b) (hb2 : b ≤ 1099511627776) (h1 : inB (a - To.fi x) x 0 = false) (w : World) : Calls Tryz.prog 87 #[.agg #[.int .u8 k, .int .i64 x, .int .i64 y, .int .u8 t, .int .i64 z], .agg #[.int .i64 a, .int .i64 b]] w fun e w' => e = .returned (.bool false) ∧ w.grownBy w' none := by
  have bx := fi_bd ⟨hx, hx2⟩
  have by' := fi_bd ⟨hy, hy2⟩
  obtain ⟨bx1, bx2⟩ := bx
  obtain ⟨by1, by2⟩ := by'
  have hf1 := refFirstC x hx hx2
  have hf2 := refFirstC y hy hy2
  have wu : IntKind.i64.wrap (a - To.fi x) = (a - To.fi x) := by rw [IntKind.wrap_i64]; omega
  have wv : IntKind.i64.wrap (b - To.fi y) = (b - To.fi y) := by rw [IntKind.wrap_i64]; omega
  have hi1 := refInsideC (a - To.fi x) x 0 hx hx2 (by omega) (by omega)
  have hi2 := refInsideC (b - To.fi y) y 0 hy hy2 (by omega) (by omega)
  rw [h1] at hi1
  clear h1
  obtain ⟨W1, hW1, sz1, g1, B1⟩ := boxn w #[.int .u8 k, .int .i64 x, .int .i64 y, .int .u8 t, .int .i64 z] 23
  obtain ⟨W2, hW2, sz2, g2, B2⟩ := boxn W1 #[.int .i64 a, .int .i64 b] 60
  have G2 := gb_trans g1 g2
  have B1x := B1.kept g2 (by simp)
  have b1_2_0 := B1x.cell 0 (v := .int .u8 k) rfl
  have b1_2_1 := B1x.cell 1 (v := .int .i64 x) rfl
  have b1_2_2 := B1x.cell 2 (v := .int .i64 y) rfl
  have b1_2_3 := B1x.cell 3 (v := .int .u8 t) rfl
  have b1_2_4 := B1x.cell 4 (v := .int .i64 z) rfl
  have b2_2_0 := B2.cell 0 (v := .int .i64 a) rfl
  have b2_2_1 := B2.cell 1 (v := .int .i64 b) rfl
  go_enter Tryz.func87, Tryz.ntmps87
  go_wp2
  go_quiet (first | (go_at_call_of 85 (Value.int IntKind.i64 x); refine Calls.quiet_of_same (hf1 _)) | (go_at_call_of 86 (Value.int IntKind.i64 (a - To.fi x)); refine Calls.quiet_of_same (hi1 _)) | (go_at_call_of 85 (Value.int IntKind.i64 y); refine Calls.quiet_of_same (hf2 _)) | (go_at_call_of 86 (Value.int IntKind.i64 (b - To.fi y)); refine Calls.quiet_of_same (hi2 _)))
  go_wp2
  go_ret
  exact ⟨rfl, gb_drewN G2 _⟩

set_option maxHeartbeats 1000000 in
theorem inF2 (k x y t z a b : Int) (hx : 0 ≤ x) (hx2 : x ≤ 65536) (hy : 0 ≤ y) (hy2 : y ≤ 65536) (ha : -1099511627776 ≤ a) (ha2 : a ≤ 1099511627776) (hb : -1099511627776 ≤ b) (hb2 : b ≤ 1099511627776) (h1 : inB (a - To.fi x) x 0 = true) (h2 : inB (b - To.fi y) y 0 = false) (w : World) : Calls Tryz.prog 87 #[.agg #[.int .u8 k, .int .i64 x, .int .i64 y, .int .u8 t, .int .i64 z], .agg #[.int .i64 a, .int .i64 b]] w fun e w' => e = .returned (.bool false) ∧ w.grownBy w' none := by
  have bx := fi_bd ⟨hx, hx2⟩
  have by' := fi_bd ⟨hy, hy2⟩
  obtain ⟨bx1, bx2⟩ := bx
  obtain ⟨by1, by2⟩ := by'
  have hf1 := refFirstC x hx hx2
  have hf2 := refFirstC y hy hy2
  have wu : IntKind.i64.wrap (a - To.fi x) = (a - To.fi x) := by rw [IntKind.wrap_i64]; omega
  have wv : IntKind.i64.wrap (b - To.fi y) = (b - To.fi y) := by rw [IntKind.wrap_i64]; omega
  have hi1 := refInsideC (a - To.fi x) x 0 hx hx2 (by omega) (by omega)
  have hi2 := refInsideC (b - To.fi y) y 0 hy hy2 (by omega) (by omega)
  rw [h1] at hi1
  clear h1
  rw [h2] at hi2
  clear h2
  obtain ⟨W1, hW1, sz1, g1, B1⟩ := boxn w #[.int .u8 k, .int .i64 x, .int .i64 y, .int .u8 t, .int .i64 z] 23
  obtain ⟨W2, hW2, sz2, g2, B2⟩ := boxn W1 #[.int .i64 a, .int .i64 b] 60
  have G2 := gb_trans g1 g2
  have B1x := B1.kept g2 (by simp)
  have b1_2_0 := B1x.cell 0 (v := .int .u8 k) rfl
  have b1_2_1 := B1x.cell 1 (v := .int .i64 x) rfl
  have b1_2_2 := B1x.cell 2 (v := .int .i64 y) rfl
  have b1_2_3 := B1x.cell 3 (v := .int .u8 t) rfl
  have b1_2_4 := B1x.cell 4 (v := .int .i64 z) rfl
  have b2_2_0 := B2.cell 0 (v := .int .i64 a) rfl
  have b2_2_1 := B2.cell 1 (v := .int .i64 b) rfl
  go_enter Tryz.func87, Tryz.ntmps87
  go_wp2
  go_quiet (first | (go_at_call_of 85 (Value.int IntKind.i64 x); refine Calls.quiet_of_same (hf1 _)) | (go_at_call_of 86 (Value.int IntKind.i64 (a - To.fi x)); refine Calls.quiet_of_same (hi1 _)) | (go_at_call_of 85 (Value.int IntKind.i64 y); refine Calls.quiet_of_same (hf2 _)) | (go_at_call_of 86 (Value.int IntKind.i64 (b - To.fi y)); refine Calls.quiet_of_same (hi2 _)))
  go_wp2
  go_ret
  exact ⟨rfl, gb_drewN G2 _⟩

set_option maxHeartbeats 1000000 in
theorem inT (k x y t z a b : Int) (hx : 0 ≤ x) (hx2 : x ≤ 65536) (hy : 0 ≤ y) (hy2 : y ≤ 65536) (ha : -1099511627776 ≤ a) (ha2 : a ≤ 1099511627776) (hb : -1099511627776 ≤ b) (hb2 : b ≤ 1099511627776) (h1 : inB (a - To.fi x) x 0 = true) (h2 : inB (b - To.fi y) y 0 = true) (w : World) : Calls Tryz.prog 87 #[.agg #[.int .u8 k, .int .i64 x, .int .i64 y, .int .u8 t, .int .i64 z], .agg #[.int .i64 a, .int .i64 b]] w fun e w' => e = .returned (.bool true) ∧ w.grownBy w' none := by
  have bx := fi_bd ⟨hx, hx2⟩
  have by' := fi_bd ⟨hy, hy2⟩
  obtain ⟨bx1, bx2⟩ := bx
  obtain ⟨by1, by2⟩ := by'
  have hf1 := refFirstC x hx hx2
  have hf2 := refFirstC y hy hy2
  have wu : IntKind.i64.wrap (a - To.fi x) = (a - To.fi x) := by rw [IntKind.wrap_i64]; omega
  have wv : IntKind.i64.wrap (b - To.fi y) = (b - To.fi y) := by rw [IntKind.wrap_i64]; omega
  have hi1 := refInsideC (a - To.fi x) x 0 hx hx2 (by omega) (by omega)
  have hi2 := refInsideC (b - To.fi y) y 0 hy hy2 (by omega) (by omega)
  rw [h1] at hi1
  clear h1
  rw [h2] at hi2
  clear h2
  obtain ⟨W1, hW1, sz1, g1, B1⟩ := boxn w #[.int .u8 k, .int .i64 x, .int .i64 y, .int .u8 t, .int .i64 z] 23
  obtain ⟨W2, hW2, sz2, g2, B2⟩ := boxn W1 #[.int .i64 a, .int .i64 b] 60
  have G2 := gb_trans g1 g2
  have B1x := B1.kept g2 (by simp)
  have b1_2_0 := B1x.cell 0 (v := .int .u8 k) rfl
  have b1_2_1 := B1x.cell 1 (v := .int .i64 x) rfl
  have b1_2_2 := B1x.cell 2 (v := .int .i64 y) rfl
  have b1_2_3 := B1x.cell 3 (v := .int .u8 t) rfl
  have b1_2_4 := B1x.cell 4 (v := .int .i64 z) rfl
  have b2_2_0 := B2.cell 0 (v := .int .i64 a) rfl
  have b2_2_1 := B2.cell 1 (v := .int .i64 b) rfl
  go_enter Tryz.func87, Tryz.ntmps87
  go_wp2
  go_quiet (first | (go_at_call_of 85 (Value.int IntKind.i64 x); refine Calls.quiet_of_same (hf1 _)) | (go_at_call_of 86 (Value.int IntKind.i64 (a - To.fi x)); refine Calls.quiet_of_same (hi1 _)) | (go_at_call_of 85 (Value.int IntKind.i64 y); refine Calls.quiet_of_same (hf2 _)) | (go_at_call_of 86 (Value.int IntKind.i64 (b - To.fi y)); refine Calls.quiet_of_same (hi2 _)))
  go_wp2
  go_ret
  exact ⟨rfl, gb_drewN G2 _⟩

theorem in_li (n l : Int) : inB (n - To.fi l) l 0 = To.liB n l := by
  have h := li_iff (n := n) (l := l)
  have h2 : inB (n - To.fi l) l 0 = true ↔ l = 0 ∨ (0 ≤ n - To.fi l ∧ n - To.fi l < l) := by
    unfold inB
    simp only [Bool.or_eq_true, Bool.and_eq_true, decide_eq_true_eq]
    omega
  exact Bool.eq_iff_iff.2 (h2.trans h.symm)
theorem refInC (k x y t z a b : Int) (ok : Tp.Ok k x y t z) (h1 : To.frB a = false) (h2 : To.frB b = false) (w : World) : Calls Tryz.prog 87 #[.agg #[.int .u8 k, .int .i64 x, .int .i64 y, .int .u8 t, .int .i64 z], .agg #[.int .i64 a, .int .i64 b]] w fun e w' => e = .returned (.bool (giB x y a b)) ∧ w.grownBy w' none := by
  have hx := ok.wide
  have hy := ok.high
  have ba := fr_bd h1
  have bb := fr_bd h2
  unfold giB
  rw [← in_li, ← in_li]
  cases q1 : inB (a - To.fi x) x 0
  · exact inF1 k x y t z a b hx.1 hx.2 hy.1 hy.2 ba.1 ba.2 bb.1 bb.2 q1 w
  · cases q2 : inB (b - To.fi y) y 0
    · exact inF2 k x y t z a b hx.1 hx.2 hy.1 hy.2 ba.1 ba.2 bb.1 bb.2 q1 q2 w
    · exact inT k x y t z a b hx.1 hx.2 hy.1 hy.2 ba.1 ba.2 bb.1 bb.2 q1 q2 w

set_option maxHeartbeats 1000000 in
theorem refCellX (k x y t z a b E : Int) (hE : (E == 0) = false) (hr : ∀ w, Calls Tryz.prog 84 #[.agg #[.int .u8 k, .int .i64 x, .int .i64 y, .int .u8 t, .int .i64 z], .agg #[.int .i64 a, .int .i64 b]] w fun e w' => e = .returned (.int .i64 E) ∧ w.grownBy w' none) (w : World) : Calls Tryz.prog 89 #[.agg #[.int .u8 k, .int .i64 x, .int .i64 y, .int .u8 t, .int .i64 z], .agg #[.int .i64 a, .int .i64 b]] w fun e w' => e = .returned (.tuple #[.agg #[.int .i64 0, .int .i64 0], .int .i64 E]) ∧ w.grownBy w' none := by
  obtain ⟨fs, hfs⟩ := underP
  obtain ⟨W1, hW1, sz1, g1, B1⟩ := boxn w #[.int .u8 k, .int .i64 x, .int .i64 y, .int .u8 t, .int .i64 z] 23
  obtain ⟨W2, hW2, sz2, g2, B2⟩ := boxn W1 #[.int .i64 a, .int .i64 b] 60
  have G2 := gb_trans g1 g2
  have B1x := B1.kept g2 (by simp)
  obtain ⟨W3, hW3, sz3, g3, B3⟩ := boxn W2 #[.int .i64 0, .int .i64 0] 60
  have G3 := gb_trans G2 g3
  have B1xx := B1x.kept g3 (by simp)
  have B2x := B2.kept g3 (by simp)
  have b1_3_0 := B1xx.cell 0 (v := .int .u8 k) rfl
  have b1_3_1 := B1xx.cell 1 (v := .int .i64 x) rfl
  have b1_3_2 := B1xx.cell 2 (v := .int .i64 y) rfl
  have b1_3_3 := B1xx.cell 3 (v := .int .u8 t) rfl
  have b1_3_4 := B1xx.cell 4 (v := .int .i64 z) rfl
  have b2_3_0 := B2x.cell 0 (v := .int .i64 a) rfl
  have b2_3_1 := B2x.cell 1 (v := .int .i64 b) rfl
  have b3_3_0 := B3.cell 0 (v := .int .i64 0) rfl
  have b3_3_1 := B3.cell 1 (v := .int .i64 0) rfl
  have zb3_3_0 := B3.frozen 0
  have zb3_3_1 := B3.frozen 1
  go_enter Tryz.func89, Tryz.ntmps89
  go_wp2_with (first | (go_at_call 84; (fail_if_success (guard_hyp g4)); refine (hr _).mono ?_; rintro e w4 ⟨rfl, g4⟩; have G4 := gb_trans G3 g4; have B1xxx := B1xx.kept g4 (by simp); have B2xx := B2x.kept g4 (by simp); have B3x := B3.kept g4 (by simp); clear b1_3_0 b1_3_1 b1_3_2 b1_3_3 b1_3_4 b2_3_0 b2_3_1 b3_3_0 b3_3_1 zb3_3_0 zb3_3_1; have b1_4_0 := B1xxx.cell 0 (v := .int .u8 k) rfl; have b1_4_1 := B1xxx.cell 1 (v := .int .i64 x) rfl; have b1_4_2 := B1xxx.cell 2 (v := .int .i64 y) rfl; have b1_4_3 := B1xxx.cell 3 (v := .int .u8 t) rfl; have b1_4_4 := B1xxx.cell 4 (v := .int .i64 z) rfl; have b2_4_0 := B2xx.cell 0 (v := .int .i64 a) rfl; have b2_4_1 := B2xx.cell 1 (v := .int .i64 b) rfl; have b3_4_0 := B3x.cell 0 (v := .int .i64 0) rfl; have b3_4_1 := B3x.cell 1 (v := .int .i64 0) rfl; have zb3_4_0 := B3x.frozen 0; have zb3_4_1 := B3x.frozen 1))
  refine ret_c2 (g := W2.heap.size) (cs := #[.int .i64 0, .int .i64 0]) rfl hfs infoP rfl (bo2 B3x) rfl ⟨rfl, gb2 G4 G2.size⟩

set_option maxHeartbeats 1000000 in
theorem refCellO (k x y t z a b : Int) (hr : ∀ w, Calls Tryz.prog 84 #[.agg #[.int .u8 k, .int .i64 x, .int .i64 y, .int .u8 t, .int .i64 z], .agg #[.int .i64 a, .int .i64 b]] w fun e w' => e = .returned (.int .i64 0) ∧ w.grownBy w' none) (hgl : glB k = false) (hi : ∀ w, Calls Tryz.prog 87 #[.agg #[.int .u8 k, .int .i64 x, .int .i64 y, .int .u8 t, .int .i64 z], .agg #[.int .i64 a, .int .i64 b]] w fun e w' => e = .returned (.bool false) ∧ w.grownBy w' none) (w : World) : Calls Tryz.prog 89 #[.agg #[.int .u8 k, .int .i64 x, .int .i64 y, .int .u8 t, .int .i64 z], .agg #[.int .i64 a, .int .i64 b]] w fun e w' => e = .returned (.tuple #[.agg #[.int .i64 0, .int .i64 0], .int .i64 60]) ∧ w.grownBy w' none := by
  obtain ⟨fs, hfs⟩ := underP
  have hg := refGluedC k x y t z
  rw [hgl] at hg
  clear hgl
  obtain ⟨W1, hW1, sz1, g1, B1⟩ := boxn w #[.int .u8 k, .int .i64 x, .int .i64 y, .int .u8 t, .int .i64 z] 23
  obtain ⟨W2, hW2, sz2, g2, B2⟩ := boxn W1 #[.int .i64 a, .int .i64 b] 60
  have G2 := gb_trans g1 g2
  have B1x := B1.kept g2 (by simp)
  obtain ⟨W3, hW3, sz3, g3, B3⟩ := boxn W2 #[.int .i64 0, .int .i64 0] 60
  have G3 := gb_trans G2 g3
  have B1xx := B1x.kept g3 (by simp)
  have B2x := B2.kept g3 (by simp)
  have b1_3_0 := B1xx.cell 0 (v := .int .u8 k) rfl
  have b1_3_1 := B1xx.cell 1 (v := .int .i64 x) rfl
  have b1_3_2 := B1xx.cell 2 (v := .int .i64 y) rfl
  have b1_3_3 := B1xx.cell 3 (v := .int .u8 t) rfl
  have b1_3_4 := B1xx.cell 4 (v := .int .i64 z) rfl
  have b2_3_0 := B2x.cell 0 (v := .int .i64 a) rfl
  have b2_3_1 := B2x.cell 1 (v := .int .i64 b) rfl
  have b3_3_0 := B3.cell 0 (v := .int .i64 0) rfl
  have b3_3_1 := B3.cell 1 (v := .int .i64 0) rfl
  have zb3_3_0 := B3.frozen 0
  have zb3_3_1 := B3.frozen 1
  go_enter Tryz.func89, Tryz.ntmps89
  go_wp2_with (first | (go_at_call 84; (fail_if_success (guard_hyp g4)); refine (hr _).mono ?_; rintro e w4 ⟨rfl, g4⟩; have G4 := gb_trans G3 g4; have B1xxx := B1xx.kept g4 (by simp); have B2xx := B2x.kept g4 (by simp); have B3x := B3.kept g4 (by simp); clear b1_3_0 b1_3_1 b1_3_2 b1_3_3 b1_3_4 b2_3_0 b2_3_1 b3_3_0 b3_3_1 zb3_3_0 zb3_3_1; have b1_4_0 := B1xxx.cell 0 (v := .int .u8 k) rfl; have b1_4_1 := B1xxx.cell 1 (v := .int .i64 x) rfl; have b1_4_2 := B1xxx.cell 2 (v := .int .i64 y) rfl; have b1_4_3 := B1xxx.cell 3 (v := .int .u8 t) rfl; have b1_4_4 := B1xxx.cell 4 (v := .int .i64 z) rfl; have b2_4_0 := B2xx.cell 0 (v := .int .i64 a) rfl; have b2_4_1 := B2xx.cell 1 (v := .int .i64 b) rfl; have b3_4_0 := B3x.cell 0 (v := .int .i64 0) rfl; have b3_4_1 := B3x.cell 1 (v := .int .i64 0) rfl; have zb3_4_0 := B3x.frozen 0; have zb3_4_1 := B3x.frozen 1) | (go_at_call 105; (fail_if_success (guard_hyp g5)); refine (hg _).mono ?_; rintro e w5 ⟨rfl, g5⟩; have G5 := gb_trans G4 g5; have B1xxxx := B1xxx.kept g5 (by simp); have B2xxx := B2xx.kept g5 (by simp); have B3xx := B3x.kept g5 (by simp); clear b1_4_0 b1_4_1 b1_4_2 b1_4_3 b1_4_4 b2_4_0 b2_4_1 b3_4_0 b3_4_1 zb3_4_0 zb3_4_1; have b1_5_0 := B1xxxx.cell 0 (v := .int .u8 k) rfl; have b1_5_1 := B1xxxx.cell 1 (v := .int .i64 x) rfl; have b1_5_2 := B1xxxx.cell 2 (v := .int .i64 y) rfl; have b1_5_3 := B1xxxx.cell 3 (v := .int .u8 t) rfl; have b1_5_4 := B1xxxx.cell 4 (v := .int .i64 z) rfl; have b2_5_0 := B2xxx.cell 0 (v := .int .i64 a) rfl; have b2_5_1 := B2xxx.cell 1 (v := .int .i64 b) rfl; have b3_5_0 := B3xx.cell 0 (v := .int .i64 0) rfl; have b3_5_1 := B3xx.cell 1 (v := .int .i64 0) rfl; have zb3_5_0 := B3xx.frozen 0; have zb3_5_1 := B3xx.frozen 1) | (go_at_call 87; (fail_if_success (guard_hyp g6)); refine (hi _).mono ?_; rintro e w6 ⟨rfl, g6⟩; have G6 := gb_trans G5 g6; have B1xxxxx := B1xxxx.kept g6 (by simp); have B2xxxx := B2xxx.kept g6 (by simp); have B3xxx := B3xx.kept g6 (by simp); clear b1_5_0 b1_5_1 b1_5_2 b1_5_3 b1_5_4 b2_5_0 b2_5_1 b3_5_0 b3_5_1 zb3_5_0 zb3_5_1; have b1_6_0 := B1xxxxx.cell 0 (v := .int .u8 k) rfl; have b1_6_1 := B1xxxxx.cell 1 (v := .int .i64 x) rfl; have b1_6_2 := B1xxxxx.cell 2 (v := .int .i64 y) rfl; have b1_6_3 := B1xxxxx.cell 3 (v := .int .u8 t) rfl; have b1_6_4 := B1xxxxx.cell 4 (v := .int .i64 z) rfl; have b2_6_0 := B2xxxx.cell 0 (v := .int .i64 a) rfl; have b2_6_1 := B2xxxx.cell 1 (v := .int .i64 b) rfl; have b3_6_0 := B3xxx.cell 0 (v := .int .i64 0) rfl; have b3_6_1 := B3xxx.cell 1 (v := .int .i64 0) rfl; have zb3_6_0 := B3xxx.frozen 0; have zb3_6_1 := B3xxx.frozen 1))
  refine ret_c2 (g := W2.heap.size) (cs := #[.int .i64 0, .int .i64 0]) rfl hfs infoP rfl (bo2 B3xxx) rfl ⟨rfl, gb2 G6 G2.size⟩

set_option maxHeartbeats 1000000 in
theorem refCellI (k x y t z a b : Int) (hr : ∀ w, Calls Tryz.prog 84 #[.agg #[.int .u8 k, .int .i64 x, .int .i64 y, .int .u8 t, .int .i64 z], .agg #[.int .i64 a, .int .i64 b]] w fun e w' => e = .returned (.int .i64 0) ∧ w.grownBy w' none) (hgl : glB k = false) (hi : ∀ w, Calls Tryz.prog 87 #[.agg #[.int .u8 k, .int .i64 x, .int .i64 y, .int .u8 t, .int .i64 z], .agg #[.int .i64 a, .int .i64 b]] w fun e w' => e = .returned (.bool true) ∧ w.grownBy w' none) (w : World) : Calls Tryz.prog 89 #[.agg #[.int .u8 k, .int .i64 x, .int .i64 y, .int .u8 t, .int .i64 z], .agg #[.int .i64 a, .int .i64 b]] w fun e w' => e = .returned (.tuple #[.agg #[.int .i64 a, .int .i64 b], .int .i64 0]) ∧ w.grownBy w' none := by
  obtain ⟨fs, hfs⟩ := underP
  have hg := refGluedC k x y t z
  rw [hgl] at hg
  clear hgl
  obtain ⟨W1, hW1, sz1, g1, B1⟩ := boxn w #[.int .u8 k, .int .i64 x, .int .i64 y, .int .u8 t, .int .i64 z] 23
  obtain ⟨W2, hW2, sz2, g2, B2⟩ := boxn W1 #[.int .i64 a, .int .i64 b] 60
  have G2 := gb_trans g1 g2
  have B1x := B1.kept g2 (by simp)
  obtain ⟨W3, hW3, sz3, g3, B3⟩ := boxn W2 #[.int .i64 0, .int .i64 0] 60
  have G3 := gb_trans G2 g3
  have B1xx := B1x.kept g3 (by simp)
  have B2x := B2.kept g3 (by simp)
  have b1_3_0 := B1xx.cell 0 (v := .int .u8 k) rfl
  have b1_3_1 := B1xx.cell 1 (v := .int .i64 x) rfl
  have b1_3_2 := B1xx.cell 2 (v := .int .i64 y) rfl
  have b1_3_3 := B1xx.cell 3 (v := .int .u8 t) rfl
  have b1_3_4 := B1xx.cell 4 (v := .int .i64 z) rfl
  have b2_3_0 := B2x.cell 0 (v := .int .i64 a) rfl
  have b2_3_1 := B2x.cell 1 (v := .int .i64 b) rfl
  have b3_3_0 := B3.cell 0 (v := .int .i64 0) rfl
  have b3_3_1 := B3.cell 1 (v := .int .i64 0) rfl
  have zb3_3_0 := B3.frozen 0
  have zb3_3_1 := B3.frozen 1
  go_enter Tryz.func89, Tryz.ntmps89
  go_wp2_with (first | (go_at_call 84; (fail_if_success (guard_hyp g4)); refine (hr _).mono ?_; rintro e w4 ⟨rfl, g4⟩; have G4 := gb_trans G3 g4; have B1xxx := B1xx.kept g4 (by simp); have B2xx := B2x.kept g4 (by simp); have B3x := B3.kept g4 (by simp); clear b1_3_0 b1_3_1 b1_3_2 b1_3_3 b1_3_4 b2_3_0 b2_3_1 b3_3_0 b3_3_1 zb3_3_0 zb3_3_1; have b1_4_0 := B1xxx.cell 0 (v := .int .u8 k) rfl; have b1_4_1 := B1xxx.cell 1 (v := .int .i64 x) rfl; have b1_4_2 := B1xxx.cell 2 (v := .int .i64 y) rfl; have b1_4_3 := B1xxx.cell 3 (v := .int .u8 t) rfl; have b1_4_4 := B1xxx.cell 4 (v := .int .i64 z) rfl; have b2_4_0 := B2xx.cell 0 (v := .int .i64 a) rfl; have b2_4_1 := B2xx.cell 1 (v := .int .i64 b) rfl; have b3_4_0 := B3x.cell 0 (v := .int .i64 0) rfl; have b3_4_1 := B3x.cell 1 (v := .int .i64 0) rfl; have zb3_4_0 := B3x.frozen 0; have zb3_4_1 := B3x.frozen 1) | (go_at_call 105; (fail_if_success (guard_hyp g5)); refine (hg _).mono ?_; rintro e w5 ⟨rfl, g5⟩; have G5 := gb_trans G4 g5; have B1xxxx := B1xxx.kept g5 (by simp); have B2xxx := B2xx.kept g5 (by simp); have B3xx := B3x.kept g5 (by simp); clear b1_4_0 b1_4_1 b1_4_2 b1_4_3 b1_4_4 b2_4_0 b2_4_1 b3_4_0 b3_4_1 zb3_4_0 zb3_4_1; have b1_5_0 := B1xxxx.cell 0 (v := .int .u8 k) rfl; have b1_5_1 := B1xxxx.cell 1 (v := .int .i64 x) rfl; have b1_5_2 := B1xxxx.cell 2 (v := .int .i64 y) rfl; have b1_5_3 := B1xxxx.cell 3 (v := .int .u8 t) rfl; have b1_5_4 := B1xxxx.cell 4 (v := .int .i64 z) rfl; have b2_5_0 := B2xxx.cell 0 (v := .int .i64 a) rfl; have b2_5_1 := B2xxx.cell 1 (v := .int .i64 b) rfl; have b3_5_0 := B3xx.cell 0 (v := .int .i64 0) rfl; have b3_5_1 := B3xx.cell 1 (v := .int .i64 0) rfl; have zb3_5_0 := B3xx.frozen 0; have zb3_5_1 := B3xx.frozen 1) | (go_at_call 87; (fail_if_success (guard_hyp g6)); refine (hi _).mono ?_; rintro e w6 ⟨rfl, g6⟩; have G6 := gb_trans G5 g6; have B1xxxxx := B1xxxx.kept g6 (by simp); have B2xxxx := B2xxx.kept g6 (by simp); have B3xxx := B3xx.kept g6 (by simp); clear b1_5_0 b1_5_1 b1_5_2 b1_5_3 b1_5_4 b2_5_0 b2_5_1 b3_5_0 b3_5_1 zb3_5_0 zb3_5_1; have b1_6_0 := B1xxxxx.cell 0 (v := .int .u8 k) rfl; have b1_6_1 := B1xxxxx.cell 1 (v := .int .i64 x) rfl; have b1_6_2 := B1xxxxx.cell 2 (v := .int .i64 y) rfl; have b1_6_3 := B1xxxxx.cell 3 (v := .int .u8 t) rfl; have b1_6_4 := B1xxxxx.cell 4 (v := .int .i64 z) rfl; have b2_6_0 := B2xxxx.cell 0 (v := .int .i64 a) rfl; have b2_6_1 := B2xxxx.cell 1 (v := .int .i64 b) rfl; have b3_6_0 := B3xxx.cell 0 (v := .int .i64 0) rfl; have b3_6_1 := B3xxx.cell 1 (v := .int .i64 0) rfl; have zb3_6_0 := B3xxx.frozen 0; have zb3_6_1 := B3xxx.frozen 1))
  refine ret_c2 (g := W2.heap.size) (cs := #[.int .i64 a, .int .i64 b]) rfl hfs infoP rfl (bo2 B3xxx) rfl ⟨rfl, gb2 G6 G2.size⟩

set_option maxHeartbeats 1000000 in
theorem refCellG (k x y t z a b : Int) (hx : 0 ≤ x) (hx2 : x ≤ 65536) (hy : 0 ≤ y) (hy2 : y ≤ 65536) (ha : -1099511627776 ≤ a) (ha2 : a ≤ 1099511627776) (hb : -1099511627776 ≤ b) (hb2 : b ≤ 1099511627776) (hr : ∀ w, Calls Tryz.prog 84 #[.agg #[.int .u8 k, .int .i64 x, .int .i64 y, .int .u8 t, .int .i64 z], .agg #[.int .i64 a, .int .i64 b]] w fun e w' => e = .returned (.int .i64 0) ∧ w.grownBy w' none) (hgl : glB k = true) (X Y P Q : Int) (hfo : ∀ w, Calls Tryz.prog 106 #[.agg #[.int .u8 k, .int .i64 x, .int .i64 y, .int .u8 t, .int .i64 z], .int .i64 (a - To.fi x), .int .i64 (b - To.fi y)] w fun e w' => e = .returned (.tuple #[.int .i64 X, .int .i64 Y]) ∧ w.grownBy w' none) (hP : IntKind.i64.wrap (X + To.fi x) = P) (hQ : IntKind.i64.wrap (Y + To.fi y) = Q) (w : World) : Calls Tryz.prog 89 #[.agg #[.int .u8 k, .int .i64 x, .int .i64 y, .int .u8 t, .int .i64 z], .agg #[.int .i64 a, .int .i64 b]] w fun e w' => e = .returned (.tuple #[.agg #[.int .i64 P, .int .i64 Q], .int .i64 0]) ∧ w.grownBy w' none := by
  obtain ⟨fs, hfs⟩ := underP
  have hg := refGluedC k x y t z
  rw [hgl] at hg
  clear hgl
  have bx := fi_bd ⟨hx, hx2⟩
  have by' := fi_bd ⟨hy, hy2⟩
  obtain ⟨bx1, bx2⟩ := bx
  obtain ⟨by1, by2⟩ := by'
  have hf1 := refFirstC x hx hx2
  have hf2 := refFirstC y hy hy2
  have wu : IntKind.i64.wrap (a - To.fi x) = (a - To.fi x) := by rw [IntKind.wrap_i64]; omega
  have wv : IntKind.i64.wrap (b - To.fi y) = (b - To.fi y) := by rw [IntKind.wrap_i64]; omega
  obtain ⟨W1, hW1, sz1, g1, B1⟩ := boxn w #[.int .u8 k, .int .i64 x, .int .i64 y, .int .u8 t, .int .i64 z] 23
  obtain ⟨W2, hW2, sz2, g2, B2⟩ := boxn W1 #[.int .i64 a, .int .i64 b] 60
  have G2 := gb_trans g1 g2
  have B1x := B1.kept g2 (by simp)
  obtain ⟨W3, hW3, sz3, g3, B3⟩ := boxn W2 #[.int .i64 0, .int .i64 0] 60
  have G3 := gb_trans G2 g3
  have B1xx := B1x.kept g3 (by simp)
  have B2x := B2.kept g3 (by simp)
  have b1_3_0 := B1xx.cell 0 (v := .int .u8 k) rfl
  have b1_3_1 := B1xx.cell 1 (v := .int .i64 x) rfl
  have b1_3_2 := B1xx.cell 2 (v := .int .i64 y) rfl
  have b1_3_3 := B1xx.cell 3 (v := .int .u8 t) rfl
  have b1_3_4 := B1xx.cell 4 (v := .int .i64 z) rfl
  have b2_3_0 := B2x.cell 0 (v := .int .i64 a) rfl
  have b2_3_1 := B2x.cell 1 (v := .int .i64 b) rfl
  have b3_3_0 := B3.cell 0 (v := .int .i64 0) rfl
  have b3_3_1 := B3.cell 1 (v := .int .i64 0) rfl
  have zb3_3_0 := B3.frozen 0
  have zb3_3_1 := B3.frozen 1
  go_enter Tryz.func89, Tryz.ntmps89
  go_wp2_with (first | (go_at_call 84; (fail_if_success (guard_hyp g4)); refine (hr _).mono ?_; rintro e w4 ⟨rfl, g4⟩; have G4 := gb_trans G3 g4; have B1xxx := B1xx.kept g4 (by simp); have B2xx := B2x.kept g4 (by simp); have B3x := B3.kept g4 (by simp); clear b1_3_0 b1_3_1 b1_3_2 b1_3_3 b1_3_4 b2_3_0 b2_3_1 b3_3_0 b3_3_1 zb3_3_0 zb3_3_1; have b1_4_0 := B1xxx.cell 0 (v := .int .u8 k) rfl; have b1_4_1 := B1xxx.cell 1 (v := .int .i64 x) rfl; have b1_4_2 := B1xxx.cell 2 (v := .int .i64 y) rfl; have b1_4_3 := B1xxx.cell 3 (v := .int .u8 t) rfl; have b1_4_4 := B1xxx.cell 4 (v := .int .i64 z) rfl; have b2_4_0 := B2xx.cell 0 (v := .int .i64 a) rfl; have b2_4_1 := B2xx.cell 1 (v := .int .i64 b) rfl; have b3_4_0 := B3x.cell 0 (v := .int .i64 0) rfl; have b3_4_1 := B3x.cell 1 (v := .int .i64 0) rfl; have zb3_4_0 := B3x.frozen 0; have zb3_4_1 := B3x.frozen 1) | (go_at_call 105; (fail_if_success (guard_hyp g5)); refine (hg _).mono ?_; rintro e w5 ⟨rfl, g5⟩; have G5 := gb_trans G4 g5; have B1xxxx := B1xxx.kept g5 (by simp); have B2xxx := B2xx.kept g5 (by simp); have B3xx := B3x.kept g5 (by simp); clear b1_4_0 b1_4_1 b1_4_2 b1_4_3 b1_4_4 b2_4_0 b2_4_1 b3_4_0 b3_4_1 zb3_4_0 zb3_4_1; have b1_5_0 := B1xxxx.cell 0 (v := .int .u8 k) rfl; have b1_5_1 := B1xxxx.cell 1 (v := .int .i64 x) rfl; have b1_5_2 := B1xxxx.cell 2 (v := .int .i64 y) rfl; have b1_5_3 := B1xxxx.cell 3 (v := .int .u8 t) rfl; have b1_5_4 := B1xxxx.cell 4 (v := .int .i64 z) rfl; have b2_5_0 := B2xxx.cell 0 (v := .int .i64 a) rfl; have b2_5_1 := B2xxx.cell 1 (v := .int .i64 b) rfl; have b3_5_0 := B3xx.cell 0 (v := .int .i64 0) rfl; have b3_5_1 := B3xx.cell 1 (v := .int .i64 0) rfl; have zb3_5_0 := B3xx.frozen 0; have zb3_5_1 := B3xx.frozen 1))
  go_region_held2 (fun w' => w'.cell? ⟨w.heap.size, 0, none⟩ = some (.int .u8 k) ∧ w'.cell? ⟨w.heap.size, 1, none⟩ = some (.int .i64 x) ∧ w'.cell? ⟨w.heap.size, 2, none⟩ = some (.int .i64 y) ∧ w'.cell? ⟨w.heap.size, 3, none⟩ = some (.int .u8 t) ∧ w'.cell? ⟨w.heap.size, 4, none⟩ = some (.int .i64 z) ∧ w'.cell? ⟨W1.heap.size, 0, none⟩ = some (.int .i64 a) ∧ w'.cell? ⟨W1.heap.size, 1, none⟩ = some (.int .i64 b)) (go_keep) (first | (go_at_call 85; (fail_if_success (guard_hyp mf1)); refine (hf1 _).mono ?_; rintro e w' ⟨rfl, hw'⟩; subst w'; have mf1 : True := trivial) | (go_at_call 85; (fail_if_success (guard_hyp mf2)); refine (hf2 _).mono ?_; rintro e w' ⟨rfl, hw'⟩; subst w'; have mf2 : True := trivial) | (go_at_call 106; refine (hfo _).mono ?_; rintro e w6 ⟨rfl, g6⟩; have G6 := gb_trans (gb_drew G5) g6; have B1xxxxr := B1xxxx.dr.kept g6 (by simp); have B2xxxr := B2xxx.dr.kept g6 (by simp); have B3xxr := B3xx.dr.kept g6 (by simp); have b1_6_0 := B1xxxxr.cell 0 (v := .int .u8 k) rfl; have b1_6_1 := B1xxxxr.cell 1 (v := .int .i64 x) rfl; have b1_6_2 := B1xxxxr.cell 2 (v := .int .i64 y) rfl; have b1_6_3 := B1xxxxr.cell 3 (v := .int .u8 t) rfl; have b1_6_4 := B1xxxxr.cell 4 (v := .int .i64 z) rfl; have b2_6_0 := B2xxxr.cell 0 (v := .int .i64 a) rfl; have b2_6_1 := B2xxxr.cell 1 (v := .int .i64 b) rfl; have b3_6_0 := B3xxr.cell 0 (v := .int .i64 0) rfl; have b3_6_1 := B3xxr.cell 1 (v := .int .i64 0) rfl; have zb3_6_0 := B3xxr.frozen 0; have zb3_6_1 := B3xxr.frozen 1))
  go_wp2
  have ap0 := Nat.ne_of_lt B1x.lt
  have aq0 := Nat.ne_of_gt B1x.lt
  have ap1 := Nat.ne_of_lt B2.lt
  have aq1 := Nat.ne_of_gt B2.lt
  go_region_held2 (fun w' => w'.cell? ⟨w.heap.size, 0, none⟩ = some (.int .u8 k) ∧ w'.cell? ⟨w.heap.size, 1, none⟩ = some (.int .i64 x) ∧ w'.cell? ⟨w.heap.size, 2, none⟩ = some (.int .i64 y) ∧ w'.cell? ⟨w.heap.size, 3, none⟩ = some (.int .u8 t) ∧ w'.cell? ⟨w.heap.size, 4, none⟩ = some (.int .i64 z) ∧ w'.cell? ⟨W1.heap.size, 0, none⟩ = some (.int .i64 a) ∧ w'.cell? ⟨W1.heap.size, 1, none⟩ = some (.int .i64 b)) (go_keep) (first | (go_at_call 85; (fail_if_success (guard_hyp mf3)); refine (hf1 _).mono ?_; rintro e w' ⟨rfl, hw'⟩; subst w'; have mf3 : True := trivial) | (go_at_call 85; (fail_if_success (guard_hyp mf4)); refine (hf2 _).mono ?_; rintro e w' ⟨rfl, hw'⟩; subst w'; have mf4 : True := trivial))
  all_goals go_wp2
  all_goals refine ret_c2 (g := W2.heap.size) (cs := #[.int .i64 P, .int .i64 Q]) rfl hfs infoP rfl (bo2 B3xxr).dr rfl ⟨rfl, gb_drew (gb2 G6 G2.size)⟩
end Go.Proofs.YtjndljjpbkfmiaaGreatDoor.Fd
namespace Go.Proofs.YtjndljjpbkfmiaaGreatDoor.Fd
open Go.RowKit
set_option linter.unusedVariables false
set_option linter.unusedSimpArgs false
set_option maxRecDepth 100000

theorem refCellC (k x y t z a b : Int) (ht : 0 ≤ t) (w : World) : Calls Tryz.prog 89 #[.agg #[.int .u8 k, .int .i64 x, .int .i64 y, .int .u8 t, .int .i64 z], .agg #[.int .i64 a, .int .i64 b]] w fun e w' => e = .returned (.tuple #[.agg (ceV k x y t z a b), .int .i64 (ceE k x y t z a b)]) ∧ w.grownBy w' none := by
  have hr := refusedC k x y t z a b ht
  by_cases h : Tp.chk k x y t z = 0
  · cases hf : (To.frB a || To.frB b)
    · have h1 := Bool.or_eq_false_iff.1 hf
      have ok := Tp.ok_of h
      have hx := ok.wide
      have hy := ok.high
      have bx := fi_bd hx
      have by' := fi_bd hy
      have ba := fr_bd h1.1
      have bb := fr_bd h1.2
      have r0 : rfE k x y t z a b = 0 := by unfold rfE; rw [if_pos h, if_neg (by rw [hf]; decide)]
      rw [r0] at hr
      have e0 : ceE k x y t z a b = if glB k = false ∧ giB x y a b = false then 60 else 0 := by unfold ceE; rw [if_pos h, if_neg (by rw [hf]; decide)]
      cases hg : glB k
      · have hi := refInC k x y t z a b ok h1.1 h1.2
        cases hin : giB x y a b
        · rw [hg, hin, if_pos ⟨rfl, rfl⟩] at e0
          rw [hin] at hi
          rw [ce_zero (by rw [e0]; decide), e0]
          exact refCellO k x y t z a b hr hg hi w
        · rw [hin, if_neg (fun q => absurd q.2 (by decide))] at e0
          rw [hin] at hi
          rw [ce_yes e0, e0]
          unfold ceX ceY
          rw [hg]
          exact refCellI k x y t z a b hr hg hi w
      · have hk := gl_iff.1 hg
        rw [hg, if_neg (fun q => absurd q.1 (by decide))] at e0
        rw [ce_yes e0, e0]
        unfold ceX ceY
        rw [hg, if_pos rfl, if_pos rfl]
        have c1 := wi_abs hx (B := 2199023255552) (by omega) (p := (a - To.fi x)) (by omega)
        obtain ⟨p1, e1⟩ := Fo.cx_form k x y t z (a - To.fi x) (b - To.fi y)
        obtain ⟨p2, e2⟩ := Fo.cx_form k y x (3 - t) z (b - To.fi y) (a - To.fi x)
        have gl := Fo.gl_of ht ok hk
        have q1 : -4398046511104 ≤ Fo.cx k x y t z (a - To.fi x) (b - To.fi y) ∧ Fo.cx k x y t z (a - To.fi x) (b - To.fi y) ≤ 4398046511104 := by
          obtain z0 | z0 : x = 0 ∨ 1 ≤ x := by omega
          · have t1 : ¬ (t = 1 ∨ t = 2) ∧ k = 2 := by
              have := gl.ended; have := gl.torus; have := gl.kind; have := gl.klein
              omega
            obtain ⟨t1, rfl⟩ := t1
            subst z0; rw [Fo.cx_2 (by omega), Fo.wi_zero]; omega
          · have := Fo.cx_bd k y t z (a - To.fi x) (b - To.fi y) z0; omega
        have q2 : -4398046511104 ≤ Fo.cy k x y t z (a - To.fi x) (b - To.fi y) ∧ Fo.cy k x y t z (a - To.fi x) (b - To.fi y) ≤ 4398046511104 := by
          obtain z0 | z0 : y = 0 ∨ 1 ≤ y := by omega
          · have t1 : ¬ (t = 1 ∨ t = 2) ∧ k = 2 := by
              have := gl.ended; have := gl.torus; have := gl.kind; have := gl.klein
              omega
            obtain ⟨t1, rfl⟩ := t1
            subst z0; rw [Fo.cy, Fo.cx_2 (by omega), Fo.wi_zero]; omega
          · have := Fo.cy_bd k x t z (a - To.fi x) (b - To.fi y) z0; omega
        exact refCellG k x y t z a b hx.1 hx.2 hy.1 hy.2 ba.1 ba.2 bb.1 bb.2 hr hg _ _ _ _ (refFoldedC k x y t z _ _ ht ok hk (by omega) (by omega)) (by rw [IntKind.wrap_i64]; omega) (by rw [IntKind.wrap_i64]; omega) w
    · have r0 : rfE k x y t z a b = 5 := by unfold rfE; rw [if_pos h, if_pos hf]
      have e0 : ceE k x y t z a b = 5 := by unfold ceE; rw [if_pos h, if_pos hf]
      rw [r0] at hr
      rw [ce_zero (by rw [e0]; decide), e0]
      exact refCellX k x y t z a b 5 rfl hr w
  · have r0 : rfE k x y t z a b = 9 := by unfold rfE; rw [if_neg h]
    have e0 : ceE k x y t z a b = 9 := by unfold ceE; rw [if_neg h]
    rw [r0] at hr
    rw [ce_zero (by rw [e0]; decide), e0]
    exact refCellX k x y t z a b 9 rfl hr w

theorem ce_cases {k x y t z a b : Int} (h : Tp.chk k x y t z = 0) (hf : (To.frB a || To.frB b) = false) : ceE k x y t z a b = 0 ∨ ceE k x y t z a b = 60 := by
  unfold ceE
  rw [if_pos h, if_neg (by rw [hf]; decide)]
  split
  · exact .inr rfl
  · exact .inl rfl
end Go.Proofs.YtjndljjpbkfmiaaGreatDoor.Fd
namespace Go.Proofs.YtjndljjpbkfmiaaGreatDoor.Fd
open Go.RowKit
set_option linter.unusedVariables false
set_option linter.unusedSimpArgs false
set_option maxRecDepth 100000

theorem ret_ii {a b c d : Int} (h : a = b) (h2 : c = d) : Ending.returned (.tuple #[.int .i64 a, .int .i64 c]) = .returned (.tuple #[.int .i64 b, .int .i64 d]) := by rw [h, h2]
set_option maxHeartbeats 600000 in
theorem ballC (n u v : Int) (h0 : 1 ≤ n) (h1 : n ≤ 65536) (u0 : -1 ≤ u) (u1 : u ≤ n) (v0 : -1 ≤ v) (v1 : v ≤ n) (hn : u = -1 ∨ u = n ∨ v = -1 ∨ v = n) (w : World) : Calls Tryz.prog 88 #[.int .i64 n, .int .i64 u, .int .i64 v] w fun e w' => e = .returned (.tuple #[.int .i64 (Nm.nearZ v 0 (n - 1)), .int .i64 (Nm.nearZ u 0 (n - 1))]) ∧ w' = w := by
  have HN : Hid (u = -1 ∨ u = n ∨ v = -1 ∨ v = n) := hn
  clear hn
  go_enter Tryz.func88, Tryz.ntmps88
  go_wp2
  all_goals go_ret2
  all_goals have hn := HN.out
  all_goals simp only [beq_iff_eq, beq_eq_false_iff_ne, ne_eq, Bool.and_eq_true, Bool.and_eq_false_iff, decide_eq_true_eq] at *
  all_goals refine ⟨ret_ii ?_ ?_, trivial⟩
  all_goals unfold Nm.nearZ
  all_goals repeat' split
  all_goals omega
theorem in_to (u l : Int) : inB u l 1 = toB u l := by
  unfold inB toB
  by_cases h : l = 0
  · simp [h]
  · rw [decide_eq_false h]
    congr 1
    congr 1
    exact decide_eq_decide.2 (by omega)

set_option maxHeartbeats 600000 in
theorem rrX (k x y t z a b E : Int) (hE : (E == 0) = false) (hr : ∀ w, Calls Tryz.prog 84 #[.agg #[.int .u8 k, .int .i64 x, .int .i64 y, .int .u8 t, .int .i64 z], .agg #[.int .i64 a, .int .i64 b]] w fun e w' => e = .returned (.int .i64 E) ∧ w.grownBy w' none) (w : World) : Calls Tryz.prog 66 #[.agg #[.int .u8 k, .int .i64 x, .int .i64 y, .int .u8 t, .int .i64 z], .agg #[.int .i64 a, .int .i64 b]] w fun e w' => e = .returned (.tuple #[.agg #[.int .i64 0, .int .i64 0], .bool false, .int .i64 E]) ∧ w.grownBy w' none := by
  obtain ⟨fs, hfs⟩ := underP
  obtain ⟨W1, hW1, sz1, g1, B1⟩ := boxn w #[.int .u8 k, .int .i64 x, .int .i64 y, .int .u8 t, .int .i64 z] 23
  obtain ⟨W2, hW2, sz2, g2, B2⟩ := boxn W1 #[.int .i64 a, .int .i64 b] 60
  have G2 := gb_trans g1 g2
  have B1x := B1.kept g2 (by simp)
  obtain ⟨W3, hW3, sz3, g3, B3⟩ := boxn W2 #[.int .i64 0, .int .i64 0] 60
  have G3 := gb_trans G2 g3
  have B1xx := B1x.kept g3 (by simp)
  have B2x := B2.kept g3 (by simp)
  have b1_3_0 := B1xx.cell 0 (v := .int .u8 k) rfl
  have b1_3_1 := B1xx.cell 1 (v := .int .i64 x) rfl
  have b1_3_2 := B1xx.cell 2 (v := .int .i64 y) rfl
  have b1_3_3 := B1xx.cell 3 (v := .int .u8 t) rfl
  have b1_3_4 := B1xx.cell 4 (v := .int .i64 z) rfl
  have b2_3_0 := B2x.cell 0 (v := .int .i64 a) rfl
  have b2_3_1 := B2x.cell 1 (v := .int .i64 b) rfl
  have b3_3_0 := B3.cell 0 (v := .int .i64 0) rfl
  have b3_3_1 := B3.cell 1 (v := .int .i64 0) rfl
  have zb3_3_0 := B3.frozen 0
  have zb3_3_1 := B3.frozen 1
  go_enter Tryz.func66, Tryz.ntmps66
  go_wp2_with (first | (go_at_call 84; (fail_if_success (guard_hyp g4)); refine (hr _).mono ?_; rintro e w4 ⟨rfl, g4⟩; have G4 := gb_trans G3 g4; have B1xxx := B1xx.kept g4 (by simp); have B2xx := B2x.kept g4 (by simp); have B3x := B3.kept g4 (by simp); clear b1_3_0 b1_3_1 b1_3_2 b1_3_3 b1_3_4 b2_3_0 b2_3_1 b3_3_0 b3_3_1 zb3_3_0 zb3_3_1; have b1_4_0 := B1xxx.cell 0 (v := .int .u8 k) rfl; have b1_4_1 := B1xxx.cell 1 (v := .int .i64 x) rfl; have b1_4_2 := B1xxx.cell 2 (v := .int .i64 y) rfl; have b1_4_3 := B1xxx.cell 3 (v := .int .u8 t) rfl; have b1_4_4 := B1xxx.cell 4 (v := .int .i64 z) rfl; have b2_4_0 := B2xx.cell 0 (v := .int .i64 a) rfl; have b2_4_1 := B2xx.cell 1 (v := .int .i64 b) rfl; have b3_4_0 := B3x.cell 0 (v := .int .i64 0) rfl; have b3_4_1 := B3x.cell 1 (v := .int .i64 0) rfl; have zb3_4_0 := B3x.frozen 0; have zb3_4_1 := B3x.frozen 1))
  refine ret_c3 (g := W2.heap.size) (cs := #[.int .i64 0, .int .i64 0]) rfl hfs infoP rfl (bo2 B3x) rfl ⟨rfl, gb2 G4 G2.size⟩

set_option maxHeartbeats 600000 in
theorem rrN1 (k x y t z a b : Int) (hx : 0 ≤ x) (hx2 : x ≤ 65536) (hy : 0 ≤ y) (hy2 : y ≤ 65536) (ha : -1099511627776 ≤ a) (ha2 : a ≤ 1099511627776) (hb : -1099511627776 ≤ b) (hb2 : b ≤ 1099511627776) (hr : ∀ w, Calls Tryz.prog 84 #[.agg #[.int .u8 k, .int .i64 x, .int .i64 y, .int .u8 t, .int .i64 z], .agg #[.int .i64 a, .int .i64 b]] w fun e w' => e = .returned (.int .i64 0) ∧ w.grownBy w' none) (h1 : toB (a - To.fi x) x = false) (w : World) : Calls Tryz.prog 66 #[.agg #[.int .u8 k, .int .i64 x, .int .i64 y, .int .u8 t, .int .i64 z], .agg #[.int .i64 a, .int .i64 b]] w fun e w' => e = .returned (.tuple #[.agg #[.int .i64 0, .int .i64 0], .bool false, .int .i64 60]) ∧ w.grownBy w' none := by
  obtain ⟨fs, hfs⟩ := underP
  have bx := fi_bd ⟨hx, hx2⟩
  have by' := fi_bd ⟨hy, hy2⟩
  obtain ⟨bx1, bx2⟩ := bx
  obtain ⟨by1, by2⟩ := by'
  have hf1 := refFirstC x hx hx2
  have hf2 := refFirstC y hy hy2
  have wu : IntKind.i64.wrap (a - To.fi x) = (a - To.fi x) := by rw [IntKind.wrap_i64]; omega
  have wv : IntKind.i64.wrap (b - To.fi y) = (b - To.fi y) := by rw [IntKind.wrap_i64]; omega
  have hi1 := refInsideC (a - To.fi x) x 1 hx hx2 (by omega) (by omega)
  have hi2 := refInsideC (b - To.fi y) y 1 hy hy2 (by omega) (by omega)
  rw [in_to] at hi1 hi2
  rw [h1] at hi1
  clear h1
  obtain ⟨W1, hW1, sz1, g1, B1⟩ := boxn w #[.int .u8 k, .int .i64 x, .int .i64 y, .int .u8 t, .int .i64 z] 23
  obtain ⟨W2, hW2, sz2, g2, B2⟩ := boxn W1 #[.int .i64 a, .int .i64 b] 60
  have G2 := gb_trans g1 g2
  have B1x := B1.kept g2 (by simp)
  obtain ⟨W3, hW3, sz3, g3, B3⟩ := boxn W2 #[.int .i64 0, .int .i64 0] 60
  have G3 := gb_trans G2 g3
  have B1xx := B1x.kept g3 (by simp)
  have B2x := B2.kept g3 (by simp)
  have b1_3_0 := B1xx.cell 0 (v := .int .u8 k) rfl
  have b1_3_1 := B1xx.cell 1 (v := .int .i64 x) rfl
  have b1_3_2 := B1xx.cell 2 (v := .int .i64 y) rfl
  have b1_3_3 := B1xx.cell 3 (v := .int .u8 t) rfl
  have b1_3_4 := B1xx.cell 4 (v := .int .i64 z) rfl
  have b2_3_0 := B2x.cell 0 (v := .int .i64 a) rfl
  have b2_3_1 := B2x.cell 1 (v := .int .i64 b) rfl
  have b3_3_0 := B3.cell 0 (v := .int .i64 0) rfl
  have b3_3_1 := B3.cell 1 (v := .int .i64 0) rfl
  have zb3_3_0 := B3.frozen 0
  have zb3_3_1 := B3.frozen 1
  go_enter Tryz.func66, Tryz.ntmps66
  go_wp2_with (first | (go_at_call 84; (fail_if_success (guard_hyp g4)); refine (hr _).mono ?_; rintro e w4 ⟨rfl, g4⟩; have G4 := gb_trans G3 g4; have B1xxx := B1xx.kept g4 (by simp); have B2xx := B2x.kept g4 (by simp); have B3x := B3.kept g4 (by simp); clear b1_3_0 b1_3_1 b1_3_2 b1_3_3 b1_3_4 b2_3_0 b2_3_1 b3_3_0 b3_3_1 zb3_3_0 zb3_3_1; have b1_4_0 := B1xxx.cell 0 (v := .int .u8 k) rfl; have b1_4_1 := B1xxx.cell 1 (v := .int .i64 x) rfl; have b1_4_2 := B1xxx.cell 2 (v := .int .i64 y) rfl; have b1_4_3 := B1xxx.cell 3 (v := .int .u8 t) rfl; have b1_4_4 := B1xxx.cell 4 (v := .int .i64 z) rfl; have b2_4_0 := B2xx.cell 0 (v := .int .i64 a) rfl; have b2_4_1 := B2xx.cell 1 (v := .int .i64 b) rfl; have b3_4_0 := B3x.cell 0 (v := .int .i64 0) rfl; have b3_4_1 := B3x.cell 1 (v := .int .i64 0) rfl; have zb3_4_0 := B3x.frozen 0; have zb3_4_1 := B3x.frozen 1))
  go_region_held2 (fun w' => w'.cell? ⟨w.heap.size, 0, none⟩ = some (.int .u8 k) ∧ w'.cell? ⟨w.heap.size, 1, none⟩ = some (.int .i64 x) ∧ w'.cell? ⟨w.heap.size, 2, none⟩ = some (.int .i64 y) ∧ w'.cell? ⟨w.heap.size, 3, none⟩ = some (.int .u8 t) ∧ w'.cell? ⟨w.heap.size, 4, none⟩ = some (.int .i64 z) ∧ w'.cell? ⟨W1.heap.size, 0, none⟩ = some (.int .i64 a) ∧ w'.cell? ⟨W1.heap.size, 1, none⟩ = some (.int .i64 b)) (go_keep) (first | (go_at_call 85; (fail_if_success (guard_hyp mf1)); refine (hf1 _).mono ?_; rintro e w' ⟨rfl, hw'⟩; subst w'; have mf1 : True := trivial))
  have B1xxxd := B1xxx.dr
  have B2xxd := B2xx.dr
  have B3xd := B3x.dr
  have G4d := gb_drew G4
  clear b1_4_0 b1_4_1 b1_4_2 b1_4_3 b1_4_4 b2_4_0 b2_4_1 b3_4_0 b3_4_1 zb3_4_0 zb3_4_1
  have b1_5_0 := B1xxxd.cell 0 (v := .int .u8 k) rfl
  have b1_5_1 := B1xxxd.cell 1 (v := .int .i64 x) rfl
  have b1_5_2 := B1xxxd.cell 2 (v := .int .i64 y) rfl
  have b1_5_3 := B1xxxd.cell 3 (v := .int .u8 t) rfl
  have b1_5_4 := B1xxxd.cell 4 (v := .int .i64 z) rfl
  have b2_5_0 := B2xxd.cell 0 (v := .int .i64 a) rfl
  have b2_5_1 := B2xxd.cell 1 (v := .int .i64 b) rfl
  have b3_5_0 := B3xd.cell 0 (v := .int .i64 0) rfl
  have b3_5_1 := B3xd.cell 1 (v := .int .i64 0) rfl
  have zb3_5_0 := B3xd.frozen 0
  have zb3_5_1 := B3xd.frozen 1
  go_wp2
  go_region_held2 (fun w' => w'.cell? ⟨w.heap.size, 0, none⟩ = some (.int .u8 k) ∧ w'.cell? ⟨w.heap.size, 1, none⟩ = some (.int .i64 x) ∧ w'.cell? ⟨w.heap.size, 2, none⟩ = some (.int .i64 y) ∧ w'.cell? ⟨w.heap.size, 3, none⟩ = some (.int .u8 t) ∧ w'.cell? ⟨w.heap.size, 4, none⟩ = some (.int .i64 z) ∧ w'.cell? ⟨W1.heap.size, 0, none⟩ = some (.int .i64 a) ∧ w'.cell? ⟨W1.heap.size, 1, none⟩ = some (.int .i64 b)) (go_keep) (first | (go_at_call 85; (fail_if_success (guard_hyp mf2)); refine (hf2 _).mono ?_; rintro e w' ⟨rfl, hw'⟩; subst w'; have mf2 : True := trivial))
  have B1xxxdd := B1xxxd.dr
  have B2xxdd := B2xxd.dr
  have B3xdd := B3xd.dr
  have G4dd := gb_drew G4d
  clear b1_5_0 b1_5_1 b1_5_2 b1_5_3 b1_5_4 b2_5_0 b2_5_1 b3_5_0 b3_5_1 zb3_5_0 zb3_5_1
  have b1_6_0 := B1xxxdd.cell 0 (v := .int .u8 k) rfl
  have b1_6_1 := B1xxxdd.cell 1 (v := .int .i64 x) rfl
  have b1_6_2 := B1xxxdd.cell 2 (v := .int .i64 y) rfl
  have b1_6_3 := B1xxxdd.cell 3 (v := .int .u8 t) rfl
  have b1_6_4 := B1xxxdd.cell 4 (v := .int .i64 z) rfl
  have b2_6_0 := B2xxdd.cell 0 (v := .int .i64 a) rfl
  have b2_6_1 := B2xxdd.cell 1 (v := .int .i64 b) rfl
  have b3_6_0 := B3xdd.cell 0 (v := .int .i64 0) rfl
  have b3_6_1 := B3xdd.cell 1 (v := .int .i64 0) rfl
  have zb3_6_0 := B3xdd.frozen 0
  have zb3_6_1 := B3xdd.frozen 1
  have zz0 := B3x.cell 0 (v := .int .i64 0) rfl
  have zz1 := B3x.cell 1 (v := .int .i64 0) rfl
  have zf0 := B3x.frozen 0
  have zf1 := B3x.frozen 1
  go_wp2_with (first | (go_at_call 86; (fail_if_success (guard_hyp mi1)); refine (hi1 _).mono ?_; rintro e w' ⟨rfl, hw'⟩; subst w'; have mi1 : True := trivial) | (go_at_call 86; (fail_if_success (guard_hyp mi2)); refine (hi2 _).mono ?_; rintro e w' ⟨rfl, hw'⟩; subst w'; have mi2 : True := trivial))
  refine ret_c3 (g := W2.heap.size) (cs := #[.int .i64 0, .int .i64 0]) rfl hfs infoP rfl (bo2 B3x).dr.dr rfl ⟨rfl, gb_drew (gb_drew (gb2 G4 G2.size))⟩

set_option maxHeartbeats 600000 in
theorem rrN2 (k x y t z a b : Int) (hx : 0 ≤ x) (hx2 : x ≤ 65536) (hy : 0 ≤ y) (hy2 : y ≤ 65536) (ha : -1099511627776 ≤ a) (ha2 : a ≤ 1099511627776) (hb : -1099511627776 ≤ b) (hb2 : b ≤ 1099511627776) (hr : ∀ w, Calls Tryz.prog 84 #[.agg #[.int .u8 k, .int .i64 x, .int .i64 y, .int .u8 t, .int .i64 z], .agg #[.int .i64 a, .int .i64 b]] w fun e w' => e = .returned (.int .i64 0) ∧ w.grownBy w' none) (h1 : toB (a - To.fi x) x = true) (h2 : toB (b - To.fi y) y = false) (w : World) : Calls Tryz.prog 66 #[.agg #[.int .u8 k, .int .i64 x, .int .i64 y, .int .u8 t, .int .i64 z], .agg #[.int .i64 a, .int .i64 b]] w fun e w' => e = .returned (.tuple #[.agg #[.int .i64 0, .int .i64 0], .bool false, .int .i64 60]) ∧ w.grownBy w' none := by
  obtain ⟨fs, hfs⟩ := underP
  have bx := fi_bd ⟨hx, hx2⟩
  have by' := fi_bd ⟨hy, hy2⟩
  obtain ⟨bx1, bx2⟩ := bx
  obtain ⟨by1, by2⟩ := by'
  have hf1 := refFirstC x hx hx2
  have hf2 := refFirstC y hy hy2
  have wu : IntKind.i64.wrap (a - To.fi x) = (a - To.fi x) := by rw [IntKind.wrap_i64]; omega
  have wv : IntKind.i64.wrap (b - To.fi y) = (b - To.fi y) := by rw [IntKind.wrap_i64]; omega
  have hi1 := refInsideC (a - To.fi x) x 1 hx hx2 (by omega) (by omega)
  have hi2 := refInsideC (b - To.fi y) y 1 hy hy2 (by omega) (by omega)
  rw [in_to] at hi1 hi2
  rw [h1] at hi1
  rw [h2] at hi2
  clear h1 h2
  obtain ⟨W1, hW1, sz1, g1, B1⟩ := boxn w #[.int .u8 k, .int .i64 x, .int .i64 y, .int .u8 t, .int .i64 z] 23
  obtain ⟨W2, hW2, sz2, g2, B2⟩ := boxn W1 #[.int .i64 a, .int .i64 b] 60
  have G2 := gb_trans g1 g2
  have B1x := B1.kept g2 (by simp)
  obtain ⟨W3, hW3, sz3, g3, B3⟩ := boxn W2 #[.int .i64 0, .int .i64 0] 60
  have G3 := gb_trans G2 g3
  have B1xx := B1x.kept g3 (by simp)
  have B2x := B2.kept g3 (by simp)
  have b1_3_0 := B1xx.cell 0 (v := .int .u8 k) rfl
  have b1_3_1 := B1xx.cell 1 (v := .int .i64 x) rfl
  have b1_3_2 := B1xx.cell 2 (v := .int .i64 y) rfl
  have b1_3_3 := B1xx.cell 3 (v := .int .u8 t) rfl
  have b1_3_4 := B1xx.cell 4 (v := .int .i64 z) rfl
  have b2_3_0 := B2x.cell 0 (v := .int .i64 a) rfl
  have b2_3_1 := B2x.cell 1 (v := .int .i64 b) rfl
  have b3_3_0 := B3.cell 0 (v := .int .i64 0) rfl
  have b3_3_1 := B3.cell 1 (v := .int .i64 0) rfl
  have zb3_3_0 := B3.frozen 0
  have zb3_3_1 := B3.frozen 1
  go_enter Tryz.func66, Tryz.ntmps66
  go_wp2_with (first | (go_at_call 84; (fail_if_success (guard_hyp g4)); refine (hr _).mono ?_; rintro e w4 ⟨rfl, g4⟩; have G4 := gb_trans G3 g4; have B1xxx := B1xx.kept g4 (by simp); have B2xx := B2x.kept g4 (by simp); have B3x := B3.kept g4 (by simp); clear b1_3_0 b1_3_1 b1_3_2 b1_3_3 b1_3_4 b2_3_0 b2_3_1 b3_3_0 b3_3_1 zb3_3_0 zb3_3_1; have b1_4_0 := B1xxx.cell 0 (v := .int .u8 k) rfl; have b1_4_1 := B1xxx.cell 1 (v := .int .i64 x) rfl; have b1_4_2 := B1xxx.cell 2 (v := .int .i64 y) rfl; have b1_4_3 := B1xxx.cell 3 (v := .int .u8 t) rfl; have b1_4_4 := B1xxx.cell 4 (v := .int .i64 z) rfl; have b2_4_0 := B2xx.cell 0 (v := .int .i64 a) rfl; have b2_4_1 := B2xx.cell 1 (v := .int .i64 b) rfl; have b3_4_0 := B3x.cell 0 (v := .int .i64 0) rfl; have b3_4_1 := B3x.cell 1 (v := .int .i64 0) rfl; have zb3_4_0 := B3x.frozen 0; have zb3_4_1 := B3x.frozen 1))
  go_region_held2 (fun w' => w'.cell? ⟨w.heap.size, 0, none⟩ = some (.int .u8 k) ∧ w'.cell? ⟨w.heap.size, 1, none⟩ = some (.int .i64 x) ∧ w'.cell? ⟨w.heap.size, 2, none⟩ = some (.int .i64 y) ∧ w'.cell? ⟨w.heap.size, 3, none⟩ = some (.int .u8 t) ∧ w'.cell? ⟨w.heap.size, 4, none⟩ = some (.int .i64 z) ∧ w'.cell? ⟨W1.heap.size, 0, none⟩ = some (.int .i64 a) ∧ w'.cell? ⟨W1.heap.size, 1, none⟩ = some (.int .i64 b)) (go_keep) (first | (go_at_call 85; (fail_if_success (guard_hyp mf1)); refine (hf1 _).mono ?_; rintro e w' ⟨rfl, hw'⟩; subst w'; have mf1 : True := trivial))
  have B1xxxd := B1xxx.dr
  have B2xxd := B2xx.dr
  have B3xd := B3x.dr
  have G4d := gb_drew G4
  clear b1_4_0 b1_4_1 b1_4_2 b1_4_3 b1_4_4 b2_4_0 b2_4_1 b3_4_0 b3_4_1 zb3_4_0 zb3_4_1
  have b1_5_0 := B1xxxd.cell 0 (v := .int .u8 k) rfl
  have b1_5_1 := B1xxxd.cell 1 (v := .int .i64 x) rfl
  have b1_5_2 := B1xxxd.cell 2 (v := .int .i64 y) rfl
  have b1_5_3 := B1xxxd.cell 3 (v := .int .u8 t) rfl
  have b1_5_4 := B1xxxd.cell 4 (v := .int .i64 z) rfl
  have b2_5_0 := B2xxd.cell 0 (v := .int .i64 a) rfl
  have b2_5_1 := B2xxd.cell 1 (v := .int .i64 b) rfl
  have b3_5_0 := B3xd.cell 0 (v := .int .i64 0) rfl
  have b3_5_1 := B3xd.cell 1 (v := .int .i64 0) rfl
  have zb3_5_0 := B3xd.frozen 0
  have zb3_5_1 := B3xd.frozen 1
  go_wp2
  go_region_held2 (fun w' => w'.cell? ⟨w.heap.size, 0, none⟩ = some (.int .u8 k) ∧ w'.cell? ⟨w.heap.size, 1, none⟩ = some (.int .i64 x) ∧ w'.cell? ⟨w.heap.size, 2, none⟩ = some (.int .i64 y) ∧ w'.cell? ⟨w.heap.size, 3, none⟩ = some (.int .u8 t) ∧ w'.cell? ⟨w.heap.size, 4, none⟩ = some (.int .i64 z) ∧ w'.cell? ⟨W1.heap.size, 0, none⟩ = some (.int .i64 a) ∧ w'.cell? ⟨W1.heap.size, 1, none⟩ = some (.int .i64 b)) (go_keep) (first | (go_at_call 85; (fail_if_success (guard_hyp mf2)); refine (hf2 _).mono ?_; rintro e w' ⟨rfl, hw'⟩; subst w'; have mf2 : True := trivial))
  have B1xxxdd := B1xxxd.dr
  have B2xxdd := B2xxd.dr
  have B3xdd := B3xd.dr
  have G4dd := gb_drew G4d
  clear b1_5_0 b1_5_1 b1_5_2 b1_5_3 b1_5_4 b2_5_0 b2_5_1 b3_5_0 b3_5_1 zb3_5_0 zb3_5_1
  have b1_6_0 := B1xxxdd.cell 0 (v := .int .u8 k) rfl
  have b1_6_1 := B1xxxdd.cell 1 (v := .int .i64 x) rfl
  have b1_6_2 := B1xxxdd.cell 2 (v := .int .i64 y) rfl
  have b1_6_3 := B1xxxdd.cell 3 (v := .int .u8 t) rfl
  have b1_6_4 := B1xxxdd.cell 4 (v := .int .i64 z) rfl
  have b2_6_0 := B2xxdd.cell 0 (v := .int .i64 a) rfl
  have b2_6_1 := B2xxdd.cell 1 (v := .int .i64 b) rfl
  have b3_6_0 := B3xdd.cell 0 (v := .int .i64 0) rfl
  have b3_6_1 := B3xdd.cell 1 (v := .int .i64 0) rfl
  have zb3_6_0 := B3xdd.frozen 0
  have zb3_6_1 := B3xdd.frozen 1
  have zz0 := B3x.cell 0 (v := .int .i64 0) rfl
  have zz1 := B3x.cell 1 (v := .int .i64 0) rfl
  have zf0 := B3x.frozen 0
  have zf1 := B3x.frozen 1
  go_wp2_with (first | (go_at_call 86; (fail_if_success (guard_hyp mi1)); refine (hi1 _).mono ?_; rintro e w' ⟨rfl, hw'⟩; subst w'; have mi1 : True := trivial) | (go_at_call 86; (fail_if_success (guard_hyp mi2)); refine (hi2 _).mono ?_; rintro e w' ⟨rfl, hw'⟩; subst w'; have mi2 : True := trivial))
  refine ret_c3 (g := W2.heap.size) (cs := #[.int .i64 0, .int .i64 0]) rfl hfs infoP rfl (bo2 B3x).dr.dr rfl ⟨rfl, gb_drew (gb_drew (gb2 G4 G2.size))⟩

set_option maxHeartbeats 600000 in
theorem rrIn (k x y t z a b : Int) (hx : 0 ≤ x) (hx2 : x ≤ 65536) (hy : 0 ≤ y) (hy2 : y ≤ 65536) (ha : -1099511627776 ≤ a) (ha2 : a ≤ 1099511627776) (hb : -1099511627776 ≤ b) (hb2 : b ≤ 1099511627776) (hr : ∀ w, Calls Tryz.prog 84 #[.agg #[.int .u8 k, .int .i64 x, .int .i64 y, .int .u8 t, .int .i64 z], .agg #[.int .i64 a, .int .i64 b]] w fun e w' => e = .returned (.int .i64 0) ∧ w.grownBy w' none) (h1 : toB (a - To.fi x) x = true) (h2 : toB (b - To.fi y) y = true) (hin : ∀ w, Calls Tryz.prog 87 #[.agg #[.int .u8 k, .int .i64 x, .int .i64 y, .int .u8 t, .int .i64 z], .agg #[.int .i64 a, .int .i64 b]] w fun e w' => e = .returned (.bool true) ∧ w.grownBy w' none) (w : World) : Calls Tryz.prog 66 #[.agg #[.int .u8 k, .int .i64 x, .int .i64 y, .int .u8 t, .int .i64 z], .agg #[.int .i64 a, .int .i64 b]] w fun e w' => e = .returned (.tuple #[.agg #[.int .i64 a, .int .i64 b], .bool true, .int .i64 0]) ∧ w.grownBy w' none := by
  obtain ⟨fs, hfs⟩ := underP
  have bx := fi_bd ⟨hx, hx2⟩
  have by' := fi_bd ⟨hy, hy2⟩
  obtain ⟨bx1, bx2⟩ := bx
  obtain ⟨by1, by2⟩ := by'
  have hf1 := refFirstC x hx hx2
  have hf2 := refFirstC y hy hy2
  have wu : IntKind.i64.wrap (a - To.fi x) = (a - To.fi x) := by rw [IntKind.wrap_i64]; omega
  have wv : IntKind.i64.wrap (b - To.fi y) = (b - To.fi y) := by rw [IntKind.wrap_i64]; omega
  have hi1 := refInsideC (a - To.fi x) x 1 hx hx2 (by omega) (by omega)
  have hi2 := refInsideC (b - To.fi y) y 1 hy hy2 (by omega) (by omega)
  rw [in_to] at hi1 hi2
  rw [h1] at hi1
  rw [h2] at hi2
  clear h1 h2
  obtain ⟨W1, hW1, sz1, g1, B1⟩ := boxn w #[.int .u8 k, .int .i64 x, .int .i64 y, .int .u8 t, .int .i64 z] 23
  obtain ⟨W2, hW2, sz2, g2, B2⟩ := boxn W1 #[.int .i64 a, .int .i64 b] 60
  have G2 := gb_trans g1 g2
  have B1x := B1.kept g2 (by simp)
  obtain ⟨W3, hW3, sz3, g3, B3⟩ := boxn W2 #[.int .i64 0, .int .i64 0] 60
  have G3 := gb_trans G2 g3
  have B1xx := B1x.kept g3 (by simp)
  have B2x := B2.kept g3 (by simp)
  have b1_3_0 := B1xx.cell 0 (v := .int .u8 k) rfl
  have b1_3_1 := B1xx.cell 1 (v := .int .i64 x) rfl
  have b1_3_2 := B1xx.cell 2 (v := .int .i64 y) rfl
  have b1_3_3 := B1xx.cell 3 (v := .int .u8 t) rfl
  have b1_3_4 := B1xx.cell 4 (v := .int .i64 z) rfl
  have b2_3_0 := B2x.cell 0 (v := .int .i64 a) rfl
  have b2_3_1 := B2x.cell 1 (v := .int .i64 b) rfl
  have b3_3_0 := B3.cell 0 (v := .int .i64 0) rfl
  have b3_3_1 := B3.cell 1 (v := .int .i64 0) rfl
  have zb3_3_0 := B3.frozen 0
  have zb3_3_1 := B3.frozen 1
  go_enter Tryz.func66, Tryz.ntmps66
  go_wp2_with (first | (go_at_call 84; (fail_if_success (guard_hyp g4)); refine (hr _).mono ?_; rintro e w4 ⟨rfl, g4⟩; have G4 := gb_trans G3 g4; have B1xxx := B1xx.kept g4 (by simp); have B2xx := B2x.kept g4 (by simp); have B3x := B3.kept g4 (by simp); clear b1_3_0 b1_3_1 b1_3_2 b1_3_3 b1_3_4 b2_3_0 b2_3_1 b3_3_0 b3_3_1 zb3_3_0 zb3_3_1; have b1_4_0 := B1xxx.cell 0 (v := .int .u8 k) rfl; have b1_4_1 := B1xxx.cell 1 (v := .int .i64 x) rfl; have b1_4_2 := B1xxx.cell 2 (v := .int .i64 y) rfl; have b1_4_3 := B1xxx.cell 3 (v := .int .u8 t) rfl; have b1_4_4 := B1xxx.cell 4 (v := .int .i64 z) rfl; have b2_4_0 := B2xx.cell 0 (v := .int .i64 a) rfl; have b2_4_1 := B2xx.cell 1 (v := .int .i64 b) rfl; have b3_4_0 := B3x.cell 0 (v := .int .i64 0) rfl; have b3_4_1 := B3x.cell 1 (v := .int .i64 0) rfl; have zb3_4_0 := B3x.frozen 0; have zb3_4_1 := B3x.frozen 1))
  go_region_held2 (fun w' => w'.cell? ⟨w.heap.size, 0, none⟩ = some (.int .u8 k) ∧ w'.cell? ⟨w.heap.size, 1, none⟩ = some (.int .i64 x) ∧ w'.cell? ⟨w.heap.size, 2, none⟩ = some (.int .i64 y) ∧ w'.cell? ⟨w.heap.size, 3, none⟩ = some (.int .u8 t) ∧ w'.cell? ⟨w.heap.size, 4, none⟩ = some (.int .i64 z) ∧ w'.cell? ⟨W1.heap.size, 0, none⟩ = some (.int .i64 a) ∧ w'.cell? ⟨W1.heap.size, 1, none⟩ = some (.int .i64 b)) (go_keep) (first | (go_at_call 85; (fail_if_success (guard_hyp mf1)); refine (hf1 _).mono ?_; rintro e w' ⟨rfl, hw'⟩; subst w'; have mf1 : True := trivial))
  have B1xxxd := B1xxx.dr
  have B2xxd := B2xx.dr
  have B3xd := B3x.dr
  have G4d := gb_drew G4
  clear b1_4_0 b1_4_1 b1_4_2 b1_4_3 b1_4_4 b2_4_0 b2_4_1 b3_4_0 b3_4_1 zb3_4_0 zb3_4_1
  have b1_5_0 := B1xxxd.cell 0 (v := .int .u8 k) rfl
  have b1_5_1 := B1xxxd.cell 1 (v := .int .i64 x) rfl
  have b1_5_2 := B1xxxd.cell 2 (v := .int .i64 y) rfl
  have b1_5_3 := B1xxxd.cell 3 (v := .int .u8 t) rfl
  have b1_5_4 := B1xxxd.cell 4 (v := .int .i64 z) rfl
  have b2_5_0 := B2xxd.cell 0 (v := .int .i64 a) rfl
  have b2_5_1 := B2xxd.cell 1 (v := .int .i64 b) rfl
  have b3_5_0 := B3xd.cell 0 (v := .int .i64 0) rfl
  have b3_5_1 := B3xd.cell 1 (v := .int .i64 0) rfl
  have zb3_5_0 := B3xd.frozen 0
  have zb3_5_1 := B3xd.frozen 1
  go_wp2
  go_region_held2 (fun w' => w'.cell? ⟨w.heap.size, 0, none⟩ = some (.int .u8 k) ∧ w'.cell? ⟨w.heap.size, 1, none⟩ = some (.int .i64 x) ∧ w'.cell? ⟨w.heap.size, 2, none⟩ = some (.int .i64 y) ∧ w'.cell? ⟨w.heap.size, 3, none⟩ = some (.int .u8 t) ∧ w'.cell? ⟨w.heap.size, 4, none⟩ = some (.int .i64 z) ∧ w'.cell? ⟨W1.heap.size, 0, none⟩ = some (.int .i64 a) ∧ w'.cell? ⟨W1.heap.size, 1, none⟩ = some (.int .i64 b)) (go_keep) (first | (go_at_call 85; (fail_if_success (guard_hyp mf2)); refine (hf2 _).mono ?_; rintro e w' ⟨rfl, hw'⟩; subst w'; have mf2 : True := trivial))
  have B1xxxdd := B1xxxd.dr
  have B2xxdd := B2xxd.dr
  have B3xdd := B3xd.dr
  have G4dd := gb_drew G4d
  clear b1_5_0 b1_5_1 b1_5_2 b1_5_3 b1_5_4 b2_5_0 b2_5_1 b3_5_0 b3_5_1 zb3_5_0 zb3_5_1
  have b1_6_0 := B1xxxdd.cell 0 (v := .int .u8 k) rfl
  have b1_6_1 := B1xxxdd.cell 1 (v := .int .i64 x) rfl
  have b1_6_2 := B1xxxdd.cell 2 (v := .int .i64 y) rfl
  have b1_6_3 := B1xxxdd.cell 3 (v := .int .u8 t) rfl
  have b1_6_4 := B1xxxdd.cell 4 (v := .int .i64 z) rfl
  have b2_6_0 := B2xxdd.cell 0 (v := .int .i64 a) rfl
  have b2_6_1 := B2xxdd.cell 1 (v := .int .i64 b) rfl
  have b3_6_0 := B3xdd.cell 0 (v := .int .i64 0) rfl
  have b3_6_1 := B3xdd.cell 1 (v := .int .i64 0) rfl
  have zb3_6_0 := B3xdd.frozen 0
  have zb3_6_1 := B3xdd.frozen 1
  go_wp2_with (first | (go_at_call 87; (fail_if_success (guard_hyp g7)); refine (hin _).mono ?_; rintro e w7 ⟨rfl, g7⟩; have G7 := gb_trans G4dd g7; have B1xxxddx := B1xxxdd.kept g7 (by simp); have B2xxddx := B2xxdd.kept g7 (by simp); have B3xddx := B3xdd.kept g7 (by simp); clear b1_6_0 b1_6_1 b1_6_2 b1_6_3 b1_6_4 b2_6_0 b2_6_1 b3_6_0 b3_6_1 zb3_6_0 zb3_6_1; have b1_7_0 := B1xxxddx.cell 0 (v := .int .u8 k) rfl; have b1_7_1 := B1xxxddx.cell 1 (v := .int .i64 x) rfl; have b1_7_2 := B1xxxddx.cell 2 (v := .int .i64 y) rfl; have b1_7_3 := B1xxxddx.cell 3 (v := .int .u8 t) rfl; have b1_7_4 := B1xxxddx.cell 4 (v := .int .i64 z) rfl; have b2_7_0 := B2xxddx.cell 0 (v := .int .i64 a) rfl; have b2_7_1 := B2xxddx.cell 1 (v := .int .i64 b) rfl; have b3_7_0 := B3xddx.cell 0 (v := .int .i64 0) rfl; have b3_7_1 := B3xddx.cell 1 (v := .int .i64 0) rfl; have zb3_7_0 := B3xddx.frozen 0; have zb3_7_1 := B3xddx.frozen 1) | (go_at_call 86; (fail_if_success (guard_hyp mi1)); refine (hi1 _).mono ?_; rintro e w' ⟨rfl, hw'⟩; subst w'; have mi1 : True := trivial) | (go_at_call 86; (fail_if_success (guard_hyp mi2)); refine (hi2 _).mono ?_; rintro e w' ⟨rfl, hw'⟩; subst w'; have mi2 : True := trivial))
  refine ret_c3 (g := W2.heap.size) (cs := #[.int .i64 a, .int .i64 b]) rfl hfs infoP rfl (bo2 B3xddx) rfl ⟨rfl, gb2 G7 G2.size⟩

set_option maxHeartbeats 600000 in
theorem rrPl (k x y t z a b : Int) (hx : 0 ≤ x) (hx2 : x ≤ 65536) (hy : 0 ≤ y) (hy2 : y ≤ 65536) (ha : -1099511627776 ≤ a) (ha2 : a ≤ 1099511627776) (hb : -1099511627776 ≤ b) (hb2 : b ≤ 1099511627776) (hr : ∀ w, Calls Tryz.prog 84 #[.agg #[.int .u8 k, .int .i64 x, .int .i64 y, .int .u8 t, .int .i64 z], .agg #[.int .i64 a, .int .i64 b]] w fun e w' => e = .returned (.int .i64 0) ∧ w.grownBy w' none) (h1 : toB (a - To.fi x) x = true) (h2 : toB (b - To.fi y) y = true) (hin : ∀ w, Calls Tryz.prog 87 #[.agg #[.int .u8 k, .int .i64 x, .int .i64 y, .int .u8 t, .int .i64 z], .agg #[.int .i64 a, .int .i64 b]] w fun e w' => e = .returned (.bool false) ∧ w.grownBy w' none) (k1 : (k == 1) = true) (w : World) : Calls Tryz.prog 66 #[.agg #[.int .u8 k, .int .i64 x, .int .i64 y, .int .u8 t, .int .i64 z], .agg #[.int .i64 a, .int .i64 b]] w fun e w' => e = .returned (.tuple #[.agg #[.int .i64 0, .int .i64 0], .bool false, .int .i64 0]) ∧ w.grownBy w' none := by
  obtain ⟨fs, hfs⟩ := underP
  have bx := fi_bd ⟨hx, hx2⟩
  have by' := fi_bd ⟨hy, hy2⟩
  obtain ⟨bx1, bx2⟩ := bx
  obtain ⟨by1, by2⟩ := by'
  have hf1 := refFirstC x hx hx2
  have hf2 := refFirstC y hy hy2
  have wu : IntKind.i64.wrap (a - To.fi x) = (a - To.fi x) := by rw [IntKind.wrap_i64]; omega
  have wv : IntKind.i64.wrap (b - To.fi y) = (b - To.fi y) := by rw [IntKind.wrap_i64]; omega
  have hi1 := refInsideC (a - To.fi x) x 1 hx hx2 (by omega) (by omega)
  have hi2 := refInsideC (b - To.fi y) y 1 hy hy2 (by omega) (by omega)
  rw [in_to] at hi1 hi2
  rw [h1] at hi1
  rw [h2] at hi2
  clear h1 h2
  obtain ⟨W1, hW1, sz1, g1, B1⟩ := boxn w #[.int .u8 k, .int .i64 x, .int .i64 y, .int .u8 t, .int .i64 z] 23
  obtain ⟨W2, hW2, sz2, g2, B2⟩ := boxn W1 #[.int .i64 a, .int .i64 b] 60
  have G2 := gb_trans g1 g2
  have B1x := B1.kept g2 (by simp)
  obtain ⟨W3, hW3, sz3, g3, B3⟩ := boxn W2 #[.int .i64 0, .int .i64 0] 60
  have G3 := gb_trans G2 g3
  have B1xx := B1x.kept g3 (by simp)
  have B2x := B2.kept g3 (by simp)
  have b1_3_0 := B1xx.cell 0 (v := .int .u8 k) rfl
  have b1_3_1 := B1xx.cell 1 (v := .int .i64 x) rfl
  have b1_3_2 := B1xx.cell 2 (v := .int .i64 y) rfl
  have b1_3_3 := B1xx.cell 3 (v := .int .u8 t) rfl
  have b1_3_4 := B1xx.cell 4 (v := .int .i64 z) rfl
  have b2_3_0 := B2x.cell 0 (v := .int .i64 a) rfl
  have b2_3_1 := B2x.cell 1 (v := .int .i64 b) rfl
  have b3_3_0 := B3.cell 0 (v := .int .i64 0) rfl
  have b3_3_1 := B3.cell 1 (v := .int .i64 0) rfl
  have zb3_3_0 := B3.frozen 0
  have zb3_3_1 := B3.frozen 1
  go_enter Tryz.func66, Tryz.ntmps66
  go_wp2_with (first | (go_at_call 84; (fail_if_success (guard_hyp g4)); refine (hr _).mono ?_; rintro e w4 ⟨rfl, g4⟩; have G4 := gb_trans G3 g4; have B1xxx := B1xx.kept g4 (by simp); have B2xx := B2x.kept g4 (by simp); have B3x := B3.kept g4 (by simp); clear b1_3_0 b1_3_1 b1_3_2 b1_3_3 b1_3_4 b2_3_0 b2_3_1 b3_3_0 b3_3_1 zb3_3_0 zb3_3_1; have b1_4_0 := B1xxx.cell 0 (v := .int .u8 k) rfl; have b1_4_1 := B1xxx.cell 1 (v := .int .i64 x) rfl; have b1_4_2 := B1xxx.cell 2 (v := .int .i64 y) rfl; have b1_4_3 := B1xxx.cell 3 (v := .int .u8 t) rfl; have b1_4_4 := B1xxx.cell 4 (v := .int .i64 z) rfl; have b2_4_0 := B2xx.cell 0 (v := .int .i64 a) rfl; have b2_4_1 := B2xx.cell 1 (v := .int .i64 b) rfl; have b3_4_0 := B3x.cell 0 (v := .int .i64 0) rfl; have b3_4_1 := B3x.cell 1 (v := .int .i64 0) rfl; have zb3_4_0 := B3x.frozen 0; have zb3_4_1 := B3x.frozen 1))
  go_region_held2 (fun w' => w'.cell? ⟨w.heap.size, 0, none⟩ = some (.int .u8 k) ∧ w'.cell? ⟨w.heap.size, 1, none⟩ = some (.int .i64 x) ∧ w'.cell? ⟨w.heap.size, 2, none⟩ = some (.int .i64 y) ∧ w'.cell? ⟨w.heap.size, 3, none⟩ = some (.int .u8 t) ∧ w'.cell? ⟨w.heap.size, 4, none⟩ = some (.int .i64 z) ∧ w'.cell? ⟨W1.heap.size, 0, none⟩ = some (.int .i64 a) ∧ w'.cell? ⟨W1.heap.size, 1, none⟩ = some (.int .i64 b)) (go_keep) (first | (go_at_call 85; (fail_if_success (guard_hyp mf1)); refine (hf1 _).mono ?_; rintro e w' ⟨rfl, hw'⟩; subst w'; have mf1 : True := trivial))
  have B1xxxd := B1xxx.dr
  have B2xxd := B2xx.dr
  have B3xd := B3x.dr
  have G4d := gb_drew G4
  clear b1_4_0 b1_4_1 b1_4_2 b1_4_3 b1_4_4 b2_4_0 b2_4_1 b3_4_0 b3_4_1 zb3_4_0 zb3_4_1
  have b1_5_0 := B1xxxd.cell 0 (v := .int .u8 k) rfl
  have b1_5_1 := B1xxxd.cell 1 (v := .int .i64 x) rfl
  have b1_5_2 := B1xxxd.cell 2 (v := .int .i64 y) rfl
  have b1_5_3 := B1xxxd.cell 3 (v := .int .u8 t) rfl
  have b1_5_4 := B1xxxd.cell 4 (v := .int .i64 z) rfl
  have b2_5_0 := B2xxd.cell 0 (v := .int .i64 a) rfl
  have b2_5_1 := B2xxd.cell 1 (v := .int .i64 b) rfl
  have b3_5_0 := B3xd.cell 0 (v := .int .i64 0) rfl
  have b3_5_1 := B3xd.cell 1 (v := .int .i64 0) rfl
  have zb3_5_0 := B3xd.frozen 0
  have zb3_5_1 := B3xd.frozen 1
  go_wp2
  go_region_held2 (fun w' => w'.cell? ⟨w.heap.size, 0, none⟩ = some (.int .u8 k) ∧ w'.cell? ⟨w.heap.size, 1, none⟩ = some (.int .i64 x) ∧ w'.cell? ⟨w.heap.size, 2, none⟩ = some (.int .i64 y) ∧ w'.cell? ⟨w.heap.size, 3, none⟩ = some (.int .u8 t) ∧ w'.cell? ⟨w.heap.size, 4, none⟩ = some (.int .i64 z) ∧ w'.cell? ⟨W1.heap.size, 0, none⟩ = some (.int .i64 a) ∧ w'.cell? ⟨W1.heap.size, 1, none⟩ = some (.int .i64 b)) (go_keep) (first | (go_at_call 85; (fail_if_success (guard_hyp mf2)); refine (hf2 _).mono ?_; rintro e w' ⟨rfl, hw'⟩; subst w'; have mf2 : True := trivial))
  have B1xxxdd := B1xxxd.dr
  have B2xxdd := B2xxd.dr
  have B3xdd := B3xd.dr
  have G4dd := gb_drew G4d
  clear b1_5_0 b1_5_1 b1_5_2 b1_5_3 b1_5_4 b2_5_0 b2_5_1 b3_5_0 b3_5_1 zb3_5_0 zb3_5_1
  have b1_6_0 := B1xxxdd.cell 0 (v := .int .u8 k) rfl
  have b1_6_1 := B1xxxdd.cell 1 (v := .int .i64 x) rfl
  have b1_6_2 := B1xxxdd.cell 2 (v := .int .i64 y) rfl
  have b1_6_3 := B1xxxdd.cell 3 (v := .int .u8 t) rfl
  have b1_6_4 := B1xxxdd.cell 4 (v := .int .i64 z) rfl
  have b2_6_0 := B2xxdd.cell 0 (v := .int .i64 a) rfl
  have b2_6_1 := B2xxdd.cell 1 (v := .int .i64 b) rfl
  have b3_6_0 := B3xdd.cell 0 (v := .int .i64 0) rfl
  have b3_6_1 := B3xdd.cell 1 (v := .int .i64 0) rfl
  have zb3_6_0 := B3xdd.frozen 0
  have zb3_6_1 := B3xdd.frozen 1
  go_wp2_with (first | (go_at_call 87; (fail_if_success (guard_hyp g7)); refine (hin _).mono ?_; rintro e w7 ⟨rfl, g7⟩; have G7 := gb_trans G4dd g7; have B1xxxddx := B1xxxdd.kept g7 (by simp); have B2xxddx := B2xxdd.kept g7 (by simp); have B3xddx := B3xdd.kept g7 (by simp); clear b1_6_0 b1_6_1 b1_6_2 b1_6_3 b1_6_4 b2_6_0 b2_6_1 b3_6_0 b3_6_1 zb3_6_0 zb3_6_1; have b1_7_0 := B1xxxddx.cell 0 (v := .int .u8 k) rfl; have b1_7_1 := B1xxxddx.cell 1 (v := .int .i64 x) rfl; have b1_7_2 := B1xxxddx.cell 2 (v := .int .i64 y) rfl; have b1_7_3 := B1xxxddx.cell 3 (v := .int .u8 t) rfl; have b1_7_4 := B1xxxddx.cell 4 (v := .int .i64 z) rfl; have b2_7_0 := B2xxddx.cell 0 (v := .int .i64 a) rfl; have b2_7_1 := B2xxddx.cell 1 (v := .int .i64 b) rfl; have b3_7_0 := B3xddx.cell 0 (v := .int .i64 0) rfl; have b3_7_1 := B3xddx.cell 1 (v := .int .i64 0) rfl; have zb3_7_0 := B3xddx.frozen 0; have zb3_7_1 := B3xddx.frozen 1) | (go_at_call 86; (fail_if_success (guard_hyp mi1)); refine (hi1 _).mono ?_; rintro e w' ⟨rfl, hw'⟩; subst w'; have mi1 : True := trivial) | (go_at_call 86; (fail_if_success (guard_hyp mi2)); refine (hi2 _).mono ?_; rintro e w' ⟨rfl, hw'⟩; subst w'; have mi2 : True := trivial))
  refine ret_c3 (g := W2.heap.size) (cs := #[.int .i64 0, .int .i64 0]) rfl hfs infoP rfl (bo2 B3xddx) rfl ⟨rfl, gb2 G7 G2.size⟩

set_option maxHeartbeats 600000 in
theorem rrGl (k x y t z a b : Int) (hx : 0 ≤ x) (hx2 : x ≤ 65536) (hy : 0 ≤ y) (hy2 : y ≤ 65536) (ha : -1099511627776 ≤ a) (ha2 : a ≤ 1099511627776) (hb : -1099511627776 ≤ b) (hb2 : b ≤ 1099511627776) (hr : ∀ w, Calls Tryz.prog 84 #[.agg #[.int .u8 k, .int .i64 x, .int .i64 y, .int .u8 t, .int .i64 z], .agg #[.int .i64 a, .int .i64 b]] w fun e w' => e = .returned (.int .i64 0) ∧ w.grownBy w' none) (h1 : toB (a - To.fi x) x = true) (h2 : toB (b - To.fi y) y = true) (hin : ∀ w, Calls Tryz.prog 87 #[.agg #[.int .u8 k, .int .i64 x, .int .i64 y, .int .u8 t, .int .i64 z], .agg #[.int .i64 a, .int .i64 b]] w fun e w' => e = .returned (.bool false) ∧ w.grownBy w' none) (k1 : (k == 1) = false) (k5 : (k == 5) = false) (P Q er : Int) (hc : ∀ w, Calls Tryz.prog 89 #[.agg #[.int .u8 k, .int .i64 x, .int .i64 y, .int .u8 t, .int .i64 z], .agg #[.int .i64 a, .int .i64 b]] w fun e w' => e = .returned (.tuple #[.agg #[.int .i64 P, .int .i64 Q], .int .i64 er]) ∧ w.grownBy w' none) (w : World) : Calls Tryz.prog 66 #[.agg #[.int .u8 k, .int .i64 x, .int .i64 y, .int .u8 t, .int .i64 z], .agg #[.int .i64 a, .int .i64 b]] w fun e w' => e = .returned (.tuple #[.agg #[.int .i64 P, .int .i64 Q], .bool true, .int .i64 er]) ∧ w.grownBy w' none := by
  obtain ⟨fs, hfs⟩ := underP
  have bx := fi_bd ⟨hx, hx2⟩
  have by' := fi_bd ⟨hy, hy2⟩
  obtain ⟨bx1, bx2⟩ := bx
  obtain ⟨by1, by2⟩ := by'
  have hf1 := refFirstC x hx hx2
  have hf2 := refFirstC y hy hy2
  have wu : IntKind.i64.wrap (a - To.fi x) = (a - To.fi x) := by rw [IntKind.wrap_i64]; omega
  have wv : IntKind.i64.wrap (b - To.fi y) = (b - To.fi y) := by rw [IntKind.wrap_i64]; omega
  have hi1 := refInsideC (a - To.fi x) x 1 hx hx2 (by omega) (by omega)
  have hi2 := refInsideC (b - To.fi y) y 1 hy hy2 (by omega) (by omega)
  rw [in_to] at hi1 hi2
  rw [h1] at hi1
  rw [h2] at hi2
  clear h1 h2
  obtain ⟨W1, hW1, sz1, g1, B1⟩ := boxn w #[.int .u8 k, .int .i64 x, .int .i64 y, .int .u8 t, .int .i64 z] 23
  obtain ⟨W2, hW2, sz2, g2, B2⟩ := boxn W1 #[.int .i64 a, .int .i64 b] 60
  have G2 := gb_trans g1 g2
  have B1x := B1.kept g2 (by simp)
  obtain ⟨W3, hW3, sz3, g3, B3⟩ := boxn W2 #[.int .i64 0, .int .i64 0] 60
  have G3 := gb_trans G2 g3
  have B1xx := B1x.kept g3 (by simp)
  have B2x := B2.kept g3 (by simp)
  have b1_3_0 := B1xx.cell 0 (v := .int .u8 k) rfl
  have b1_3_1 := B1xx.cell 1 (v := .int .i64 x) rfl
  have b1_3_2 := B1xx.cell 2 (v := .int .i64 y) rfl
  have b1_3_3 := B1xx.cell 3 (v := .int .u8 t) rfl
  have b1_3_4 := B1xx.cell 4 (v := .int .i64 z) rfl
  have b2_3_0 := B2x.cell 0 (v := .int .i64 a) rfl
  have b2_3_1 := B2x.cell 1 (v := .int .i64 b) rfl
  have b3_3_0 := B3.cell 0 (v := .int .i64 0) rfl
  have b3_3_1 := B3.cell 1 (v := .int .i64 0) rfl
  have zb3_3_0 := B3.frozen 0
  have zb3_3_1 := B3.frozen 1
  go_enter Tryz.func66, Tryz.ntmps66
  go_wp2_with (first | (go_at_call 84; (fail_if_success (guard_hyp g4)); refine (hr _).mono ?_; rintro e w4 ⟨rfl, g4⟩; have G4 := gb_trans G3 g4; have B1xxx := B1xx.kept g4 (by simp); have B2xx := B2x.kept g4 (by simp); have B3x := B3.kept g4 (by simp); clear b1_3_0 b1_3_1 b1_3_2 b1_3_3 b1_3_4 b2_3_0 b2_3_1 b3_3_0 b3_3_1 zb3_3_0 zb3_3_1; have b1_4_0 := B1xxx.cell 0 (v := .int .u8 k) rfl; have b1_4_1 := B1xxx.cell 1 (v := .int .i64 x) rfl; have b1_4_2 := B1xxx.cell 2 (v := .int .i64 y) rfl; have b1_4_3 := B1xxx.cell 3 (v := .int .u8 t) rfl; have b1_4_4 := B1xxx.cell 4 (v := .int .i64 z) rfl; have b2_4_0 := B2xx.cell 0 (v := .int .i64 a) rfl; have b2_4_1 := B2xx.cell 1 (v := .int .i64 b) rfl; have b3_4_0 := B3x.cell 0 (v := .int .i64 0) rfl; have b3_4_1 := B3x.cell 1 (v := .int .i64 0) rfl; have zb3_4_0 := B3x.frozen 0; have zb3_4_1 := B3x.frozen 1))
  go_region_held2 (fun w' => w'.cell? ⟨w.heap.size, 0, none⟩ = some (.int .u8 k) ∧ w'.cell? ⟨w.heap.size, 1, none⟩ = some (.int .i64 x) ∧ w'.cell? ⟨w.heap.size, 2, none⟩ = some (.int .i64 y) ∧ w'.cell? ⟨w.heap.size, 3, none⟩ = some (.int .u8 t) ∧ w'.cell? ⟨w.heap.size, 4, none⟩ = some (.int .i64 z) ∧ w'.cell? ⟨W1.heap.size, 0, none⟩ = some (.int .i64 a) ∧ w'.cell? ⟨W1.heap.size, 1, none⟩ = some (.int .i64 b)) (go_keep) (first | (go_at_call 85; (fail_if_success (guard_hyp mf1)); refine (hf1 _).mono ?_; rintro e w' ⟨rfl, hw'⟩; subst w'; have mf1 : True := trivial))
  have B1xxxd := B1xxx.dr
  have B2xxd := B2xx.dr
  have B3xd := B3x.dr
  have G4d := gb_drew G4
  clear b1_4_0 b1_4_1 b1_4_2 b1_4_3 b1_4_4 b2_4_0 b2_4_1 b3_4_0 b3_4_1 zb3_4_0 zb3_4_1
  have b1_5_0 := B1xxxd.cell 0 (v := .int .u8 k) rfl
  have b1_5_1 := B1xxxd.cell 1 (v := .int .i64 x) rfl
  have b1_5_2 := B1xxxd.cell 2 (v := .int .i64 y) rfl
  have b1_5_3 := B1xxxd.cell 3 (v := .int .u8 t) rfl
  have b1_5_4 := B1xxxd.cell 4 (v := .int .i64 z) rfl
  have b2_5_0 := B2xxd.cell 0 (v := .int .i64 a) rfl
  have b2_5_1 := B2xxd.cell 1 (v := .int .i64 b) rfl
  have b3_5_0 := B3xd.cell 0 (v := .int .i64 0) rfl
  have b3_5_1 := B3xd.cell 1 (v := .int .i64 0) rfl
  have zb3_5_0 := B3xd.frozen 0
  have zb3_5_1 := B3xd.frozen 1
  go_wp2
  go_region_held2 (fun w' => w'.cell? ⟨w.heap.size, 0, none⟩ = some (.int .u8 k) ∧ w'.cell? ⟨w.heap.size, 1, none⟩ = some (.int .i64 x) ∧ w'.cell? ⟨w.heap.size, 2, none⟩ = some (.int .i64 y) ∧ w'.cell? ⟨w.heap.size, 3, none⟩ = some (.int .u8 t) ∧ w'.cell? ⟨w.heap.size, 4, none⟩ = some (.int .i64 z) ∧ w'.cell? ⟨W1.heap.size, 0, none⟩ = some (.int .i64 a) ∧ w'.cell? ⟨W1.heap.size, 1, none⟩ = some (.int .i64 b)) (go_keep) (first | (go_at_call 85; (fail_if_success (guard_hyp mf2)); refine (hf2 _).mono ?_; rintro e w' ⟨rfl, hw'⟩; subst w'; have mf2 : True := trivial))
  have B1xxxdd := B1xxxd.dr
  have B2xxdd := B2xxd.dr
  have B3xdd := B3xd.dr
  have G4dd := gb_drew G4d
  clear b1_5_0 b1_5_1 b1_5_2 b1_5_3 b1_5_4 b2_5_0 b2_5_1 b3_5_0 b3_5_1 zb3_5_0 zb3_5_1
  have b1_6_0 := B1xxxdd.cell 0 (v := .int .u8 k) rfl
  have b1_6_1 := B1xxxdd.cell 1 (v := .int .i64 x) rfl
  have b1_6_2 := B1xxxdd.cell 2 (v := .int .i64 y) rfl
  have b1_6_3 := B1xxxdd.cell 3 (v := .int .u8 t) rfl
  have b1_6_4 := B1xxxdd.cell 4 (v := .int .i64 z) rfl
  have b2_6_0 := B2xxdd.cell 0 (v := .int .i64 a) rfl
  have b2_6_1 := B2xxdd.cell 1 (v := .int .i64 b) rfl
  have b3_6_0 := B3xdd.cell 0 (v := .int .i64 0) rfl
  have b3_6_1 := B3xdd.cell 1 (v := .int .i64 0) rfl
  have zb3_6_0 := B3xdd.frozen 0
  have zb3_6_1 := B3xdd.frozen 1
  go_wp2_with (first | (go_at_call 87; (fail_if_success (guard_hyp g7)); refine (hin _).mono ?_; rintro e w7 ⟨rfl, g7⟩; have G7 := gb_trans G4dd g7; have B1xxxddx := B1xxxdd.kept g7 (by simp); have B2xxddx := B2xxdd.kept g7 (by simp); have B3xddx := B3xdd.kept g7 (by simp); clear b1_6_0 b1_6_1 b1_6_2 b1_6_3 b1_6_4 b2_6_0 b2_6_1 b3_6_0 b3_6_1 zb3_6_0 zb3_6_1; have b1_7_0 := B1xxxddx.cell 0 (v := .int .u8 k) rfl; have b1_7_1 := B1xxxddx.cell 1 (v := .int .i64 x) rfl; have b1_7_2 := B1xxxddx.cell 2 (v := .int .i64 y) rfl; have b1_7_3 := B1xxxddx.cell 3 (v := .int .u8 t) rfl; have b1_7_4 := B1xxxddx.cell 4 (v := .int .i64 z) rfl; have b2_7_0 := B2xxddx.cell 0 (v := .int .i64 a) rfl; have b2_7_1 := B2xxddx.cell 1 (v := .int .i64 b) rfl; have b3_7_0 := B3xddx.cell 0 (v := .int .i64 0) rfl; have b3_7_1 := B3xddx.cell 1 (v := .int .i64 0) rfl; have zb3_7_0 := B3xddx.frozen 0; have zb3_7_1 := B3xddx.frozen 1) | (go_at_call 89; (fail_if_success (guard_hyp g8)); refine (hc _).mono ?_; rintro e w8 ⟨rfl, g8⟩; have G8 := gb_trans G7 g8; have B1xxxddxx := B1xxxddx.kept g8 (by simp); have B2xxddxx := B2xxddx.kept g8 (by simp); have B3xddxx := B3xddx.kept g8 (by simp); obtain ⟨W9, hW9, sz9, g9, B9⟩ := boxn w8 #[.int .i64 P, .int .i64 Q] 60; have G9 := gb_trans G8 g9; have B1xxxddxxx := B1xxxddxx.kept g9 (by simp); have B2xxddxxx := B2xxddxx.kept g9 (by simp); have B3xddxxx := B3xddxx.kept g9 (by simp); clear b1_7_0 b1_7_1 b1_7_2 b1_7_3 b1_7_4 b2_7_0 b2_7_1 b3_7_0 b3_7_1 zb3_7_0 zb3_7_1; have b1_9_0 := B1xxxddxxx.cell 0 (v := .int .u8 k) rfl; have b1_9_1 := B1xxxddxxx.cell 1 (v := .int .i64 x) rfl; have b1_9_2 := B1xxxddxxx.cell 2 (v := .int .i64 y) rfl; have b1_9_3 := B1xxxddxxx.cell 3 (v := .int .u8 t) rfl; have b1_9_4 := B1xxxddxxx.cell 4 (v := .int .i64 z) rfl; have b2_9_0 := B2xxddxxx.cell 0 (v := .int .i64 a) rfl; have b2_9_1 := B2xxddxxx.cell 1 (v := .int .i64 b) rfl; have b3_9_0 := B3xddxxx.cell 0 (v := .int .i64 0) rfl; have b3_9_1 := B3xddxxx.cell 1 (v := .int .i64 0) rfl; have zb3_9_0 := B3xddxxx.frozen 0; have zb3_9_1 := B3xddxxx.frozen 1; have b9_9_0 := B9.cell 0 (v := .int .i64 P) rfl; have b9_9_1 := B9.cell 1 (v := .int .i64 Q) rfl) | (go_at_call 86; (fail_if_success (guard_hyp mi1)); refine (hi1 _).mono ?_; rintro e w' ⟨rfl, hw'⟩; subst w'; have mi1 : True := trivial) | (go_at_call 86; (fail_if_success (guard_hyp mi2)); refine (hi2 _).mono ?_; rintro e w' ⟨rfl, hw'⟩; subst w'; have mi2 : True := trivial))
  refine ret_c3 (g := W2.heap.size) (cs := #[.int .i64 P, .int .i64 Q]) rfl hfs infoP rfl (bo2 B3xddxxx) rfl ⟨rfl, gb2 G9 G2.size⟩

set_option maxHeartbeats 600000 in
theorem rrSp (k x y t z a b : Int) (hx : 0 ≤ x) (hx2 : x ≤ 65536) (hy : 0 ≤ y) (hy2 : y ≤ 65536) (ha : -1099511627776 ≤ a) (ha2 : a ≤ 1099511627776) (hb : -1099511627776 ≤ b) (hb2 : b ≤ 1099511627776) (hr : ∀ w, Calls Tryz.prog 84 #[.agg #[.int .u8 k, .int .i64 x, .int .i64 y, .int .u8 t, .int .i64 z], .agg #[.int .i64 a, .int .i64 b]] w fun e w' => e = .returned (.int .i64 0) ∧ w.grownBy w' none) (h1 : toB (a - To.fi x) x = true) (h2 : toB (b - To.fi y) y = true) (hin : ∀ w, Calls Tryz.prog 87 #[.agg #[.int .u8 k, .int .i64 x, .int .i64 y, .int .u8 t, .int .i64 z], .agg #[.int .i64 a, .int .i64 b]] w fun e w' => e = .returned (.bool false) ∧ w.grownBy w' none) (k1 : (k == 1) = false) (k5 : (k == 5) = true) (X Y P Q : Int) (hba : ∀ w, Calls Tryz.prog 88 #[.int .i64 x, .int .i64 (a - To.fi x), .int .i64 (b - To.fi y)] w fun e w' => e = .returned (.tuple #[.int .i64 X, .int .i64 Y]) ∧ w' = w) (hP : IntKind.i64.wrap (X + To.fi x) = P) (hQ : IntKind.i64.wrap (Y + To.fi y) = Q) (w : World) : Calls Tryz.prog 66 #[.agg #[.int .u8 k, .int .i64 x, .int .i64 y, .int .u8 t, .int .i64 z], .agg #[.int .i64 a, .int .i64 b]] w fun e w' => e = .returned (.tuple #[.agg #[.int .i64 P, .int .i64 Q], .bool true, .int .i64 0]) ∧ w.grownBy w' none := by
  obtain ⟨fs, hfs⟩ := underP
  have bx := fi_bd ⟨hx, hx2⟩
  have by' := fi_bd ⟨hy, hy2⟩
  obtain ⟨bx1, bx2⟩ := bx
  obtain ⟨by1, by2⟩ := by'
  have hf1 := refFirstC x hx hx2
  have hf2 := refFirstC y hy hy2
  have wu : IntKind.i64.wrap (a - To.fi x) = (a - To.fi x) := by rw [IntKind.wrap_i64]; omega
  have wv : IntKind.i64.wrap (b - To.fi y) = (b - To.fi y) := by rw [IntKind.wrap_i64]; omega
  have hi1 := refInsideC (a - To.fi x) x 1 hx hx2 (by omega) (by omega)
  have hi2 := refInsideC (b - To.fi y) y 1 hy hy2 (by omega) (by omega)
  rw [in_to] at hi1 hi2
  rw [h1] at hi1
  rw [h2] at hi2
  clear h1 h2
  obtain ⟨W1, hW1, sz1, g1, B1⟩ := boxn w #[.int .u8 k, .int .i64 x, .int .i64 y, .int .u8 t, .int .i64 z] 23
  obtain ⟨W2, hW2, sz2, g2, B2⟩ := boxn W1 #[.int .i64 a, .int .i64 b] 60
  have G2 := gb_trans g1 g2
  have B1x := B1.kept g2 (by simp)
  obtain ⟨W3, hW3, sz3, g3, B3⟩ := boxn W2 #[.int .i64 0, .int .i64 0] 60
  have G3 := gb_trans G2 g3
  have B1xx := B1x.kept g3 (by simp)
  have B2x := B2.kept g3 (by simp)
  have b1_3_0 := B1xx.cell 0 (v := .int .u8 k) rfl
  have b1_3_1 := B1xx.cell 1 (v := .int .i64 x) rfl
  have b1_3_2 := B1xx.cell 2 (v := .int .i64 y) rfl
  have b1_3_3 := B1xx.cell 3 (v := .int .u8 t) rfl
  have b1_3_4 := B1xx.cell 4 (v := .int .i64 z) rfl
  have b2_3_0 := B2x.cell 0 (v := .int .i64 a) rfl
  have b2_3_1 := B2x.cell 1 (v := .int .i64 b) rfl
  have b3_3_0 := B3.cell 0 (v := .int .i64 0) rfl
  have b3_3_1 := B3.cell 1 (v := .int .i64 0) rfl
  have zb3_3_0 := B3.frozen 0
  have zb3_3_1 := B3.frozen 1
  go_enter Tryz.func66, Tryz.ntmps66
  go_wp2_with (first | (go_at_call 84; (fail_if_success (guard_hyp g4)); refine (hr _).mono ?_; rintro e w4 ⟨rfl, g4⟩; have G4 := gb_trans G3 g4; have B1xxx := B1xx.kept g4 (by simp); have B2xx := B2x.kept g4 (by simp); have B3x := B3.kept g4 (by simp); clear b1_3_0 b1_3_1 b1_3_2 b1_3_3 b1_3_4 b2_3_0 b2_3_1 b3_3_0 b3_3_1 zb3_3_0 zb3_3_1; have b1_4_0 := B1xxx.cell 0 (v := .int .u8 k) rfl; have b1_4_1 := B1xxx.cell 1 (v := .int .i64 x) rfl; have b1_4_2 := B1xxx.cell 2 (v := .int .i64 y) rfl; have b1_4_3 := B1xxx.cell 3 (v := .int .u8 t) rfl; have b1_4_4 := B1xxx.cell 4 (v := .int .i64 z) rfl; have b2_4_0 := B2xx.cell 0 (v := .int .i64 a) rfl; have b2_4_1 := B2xx.cell 1 (v := .int .i64 b) rfl; have b3_4_0 := B3x.cell 0 (v := .int .i64 0) rfl; have b3_4_1 := B3x.cell 1 (v := .int .i64 0) rfl; have zb3_4_0 := B3x.frozen 0; have zb3_4_1 := B3x.frozen 1))
  go_region_held2 (fun w' => w'.cell? ⟨w.heap.size, 0, none⟩ = some (.int .u8 k) ∧ w'.cell? ⟨w.heap.size, 1, none⟩ = some (.int .i64 x) ∧ w'.cell? ⟨w.heap.size, 2, none⟩ = some (.int .i64 y) ∧ w'.cell? ⟨w.heap.size, 3, none⟩ = some (.int .u8 t) ∧ w'.cell? ⟨w.heap.size, 4, none⟩ = some (.int .i64 z) ∧ w'.cell? ⟨W1.heap.size, 0, none⟩ = some (.int .i64 a) ∧ w'.cell? ⟨W1.heap.size, 1, none⟩ = some (.int .i64 b)) (go_keep) (first | (go_at_call 85; (fail_if_success (guard_hyp mf1)); refine (hf1 _).mono ?_; rintro e w' ⟨rfl, hw'⟩; subst w'; have mf1 : True := trivial))
  have B1xxxd := B1xxx.dr
  have B2xxd := B2xx.dr
  have B3xd := B3x.dr
  have G4d := gb_drew G4
  clear b1_4_0 b1_4_1 b1_4_2 b1_4_3 b1_4_4 b2_4_0 b2_4_1 b3_4_0 b3_4_1 zb3_4_0 zb3_4_1
  have b1_5_0 := B1xxxd.cell 0 (v := .int .u8 k) rfl
  have b1_5_1 := B1xxxd.cell 1 (v := .int .i64 x) rfl
  have b1_5_2 := B1xxxd.cell 2 (v := .int .i64 y) rfl
  have b1_5_3 := B1xxxd.cell 3 (v := .int .u8 t) rfl
  have b1_5_4 := B1xxxd.cell 4 (v := .int .i64 z) rfl
  have b2_5_0 := B2xxd.cell 0 (v := .int .i64 a) rfl
  have b2_5_1 := B2xxd.cell 1 (v := .int .i64 b) rfl
  have b3_5_0 := B3xd.cell 0 (v := .int .i64 0) rfl
  have b3_5_1 := B3xd.cell 1 (v := .int .i64 0) rfl
  have zb3_5_0 := B3xd.frozen 0
  have zb3_5_1 := B3xd.frozen 1
  go_wp2
  go_region_held2 (fun w' => w'.cell? ⟨w.heap.size, 0, none⟩ = some (.int .u8 k) ∧ w'.cell? ⟨w.heap.size, 1, none⟩ = some (.int .i64 x) ∧ w'.cell? ⟨w.heap.size, 2, none⟩ = some (.int .i64 y) ∧ w'.cell? ⟨w.heap.size, 3, none⟩ = some (.int .u8 t) ∧ w'.cell? ⟨w.heap.size, 4, none⟩ = some (.int .i64 z) ∧ w'.cell? ⟨W1.heap.size, 0, none⟩ = some (.int .i64 a) ∧ w'.cell? ⟨W1.heap.size, 1, none⟩ = some (.int .i64 b)) (go_keep) (first | (go_at_call 85; (fail_if_success (guard_hyp mf2)); refine (hf2 _).mono ?_; rintro e w' ⟨rfl, hw'⟩; subst w'; have mf2 : True := trivial))
  have B1xxxdd := B1xxxd.dr
  have B2xxdd := B2xxd.dr
  have B3xdd := B3xd.dr
  have G4dd := gb_drew G4d
  clear b1_5_0 b1_5_1 b1_5_2 b1_5_3 b1_5_4 b2_5_0 b2_5_1 b3_5_0 b3_5_1 zb3_5_0 zb3_5_1
  have b1_6_0 := B1xxxdd.cell 0 (v := .int .u8 k) rfl
  have b1_6_1 := B1xxxdd.cell 1 (v := .int .i64 x) rfl
  have b1_6_2 := B1xxxdd.cell 2 (v := .int .i64 y) rfl
  have b1_6_3 := B1xxxdd.cell 3 (v := .int .u8 t) rfl
  have b1_6_4 := B1xxxdd.cell 4 (v := .int .i64 z) rfl
  have b2_6_0 := B2xxdd.cell 0 (v := .int .i64 a) rfl
  have b2_6_1 := B2xxdd.cell 1 (v := .int .i64 b) rfl
  have b3_6_0 := B3xdd.cell 0 (v := .int .i64 0) rfl
  have b3_6_1 := B3xdd.cell 1 (v := .int .i64 0) rfl
  have zb3_6_0 := B3xdd.frozen 0
  have zb3_6_1 := B3xdd.frozen 1
  go_wp2_with (first | (go_at_call 87; (fail_if_success (guard_hyp g7)); refine (hin _).mono ?_; rintro e w7 ⟨rfl, g7⟩; have G7 := gb_trans G4dd g7; have B1xxxddx := B1xxxdd.kept g7 (by simp); have B2xxddx := B2xxdd.kept g7 (by simp); have B3xddx := B3xdd.kept g7 (by simp); clear b1_6_0 b1_6_1 b1_6_2 b1_6_3 b1_6_4 b2_6_0 b2_6_1 b3_6_0 b3_6_1 zb3_6_0 zb3_6_1; have b1_7_0 := B1xxxddx.cell 0 (v := .int .u8 k) rfl; have b1_7_1 := B1xxxddx.cell 1 (v := .int .i64 x) rfl; have b1_7_2 := B1xxxddx.cell 2 (v := .int .i64 y) rfl; have b1_7_3 := B1xxxddx.cell 3 (v := .int .u8 t) rfl; have b1_7_4 := B1xxxddx.cell 4 (v := .int .i64 z) rfl; have b2_7_0 := B2xxddx.cell 0 (v := .int .i64 a) rfl; have b2_7_1 := B2xxddx.cell 1 (v := .int .i64 b) rfl; have b3_7_0 := B3xddx.cell 0 (v := .int .i64 0) rfl; have b3_7_1 := B3xddx.cell 1 (v := .int .i64 0) rfl; have zb3_7_0 := B3xddx.frozen 0; have zb3_7_1 := B3xddx.frozen 1) | (go_at_call 86; (fail_if_success (guard_hyp mi1)); refine (hi1 _).mono ?_; rintro e w' ⟨rfl, hw'⟩; subst w'; have mi1 : True := trivial) | (go_at_call 86; (fail_if_success (guard_hyp mi2)); refine (hi2 _).mono ?_; rintro e w' ⟨rfl, hw'⟩; subst w'; have mi2 : True := trivial) | (go_at_call 88; refine (hba _).mono ?_; rintro e w' ⟨rfl, hw'⟩; subst w'))
  have ap0 := Nat.ne_of_lt B1x.lt
  have aq0 := Nat.ne_of_gt B1x.lt
  have ap1 := Nat.ne_of_lt B2.lt
  have aq1 := Nat.ne_of_gt B2.lt
  go_region_held2 (fun w' => w'.cell? ⟨w.heap.size, 0, none⟩ = some (.int .u8 k) ∧ w'.cell? ⟨w.heap.size, 1, none⟩ = some (.int .i64 x) ∧ w'.cell? ⟨w.heap.size, 2, none⟩ = some (.int .i64 y) ∧ w'.cell? ⟨w.heap.size, 3, none⟩ = some (.int .u8 t) ∧ w'.cell? ⟨w.heap.size, 4, none⟩ = some (.int .i64 z) ∧ w'.cell? ⟨W1.heap.size, 0, none⟩ = some (.int .i64 a) ∧ w'.cell? ⟨W1.heap.size, 1, none⟩ = some (.int .i64 b)) (go_keep) (first | (go_at_call 85; (fail_if_success (guard_hyp mf3)); refine (hf1 _).mono ?_; rintro e w' ⟨rfl, hw'⟩; subst w'; have mf3 : True := trivial) | (go_at_call 85; (fail_if_success (guard_hyp mf4)); refine (hf2 _).mono ?_; rintro e w' ⟨rfl, hw'⟩; subst w'; have mf4 : True := trivial))
  all_goals go_wp2
  all_goals refine ret_c3 (g := W2.heap.size) (cs := #[.int .i64 P, .int .i64 Q]) rfl hfs infoP rfl (bo2 B3xddx).dr rfl ⟨rfl, gb_drew (gb2 G7 G2.size)⟩
end Go.Proofs.YtjndljjpbkfmiaaGreatDoor.Fd
namespace Go.Proofs.YtjndljjpbkfmiaaGreatDoor.Fd
open Go.RowKit
set_option linter.unusedVariables false
set_option linter.unusedSimpArgs false
set_option maxRecDepth 100000

theorem gi_ri {x y a b : Int} (h : giB x y a b = true) : toB (a - To.fi x) x = true ∧ toB (b - To.fi y) y = true := by
  have h' := Bool.and_eq_true_iff.1 h
  have h1 := li_iff.1 h'.1
  have h2 := li_iff.1 h'.2
  unfold toB
  simp only [Bool.or_eq_true, Bool.and_eq_true, decide_eq_true_eq]
  omega
theorem refRingC (k x y t z a b : Int) (ht : 0 ≤ t) (w : World) : Calls Tryz.prog 66 #[.agg #[.int .u8 k, .int .i64 x, .int .i64 y, .int .u8 t, .int .i64 z], .agg #[.int .i64 a, .int .i64 b]] w fun e w' => e = .returned (.tuple #[.agg (riV k x y t z a b), .bool (riB k x y t z a b), .int .i64 (riE k x y t z a b)]) ∧ w.grownBy w' none := by
  have hr := refusedC k x y t z a b ht
  by_cases h : Tp.chk k x y t z = 0
  · cases hf : (To.frB a || To.frB b)
    · have h1 := Bool.or_eq_false_iff.1 hf
      have ok := Tp.ok_of h
      have hx := ok.wide
      have hy := ok.high
      have bx := fi_bd hx
      have by' := fi_bd hy
      have ba := fr_bd h1.1
      have bb := fr_bd h1.2
      have hkk := ok.kind
      have hin := refInC k x y t z a b ok h1.1 h1.2
      have r0 : rfE k x y t z a b = 0 := by unfold rfE; rw [if_pos h, if_neg (by rw [hf]; decide)]
      rw [r0] at hr
      have e0 : riE k x y t z a b = if giB x y a b = true then 0 else if riN x y a b = true then 0 else 60 := by unfold riE; rw [if_pos h, if_neg (by rw [hf]; decide)]
      cases hg : giB x y a b
      · rw [hg, if_neg (by decide)] at e0
        rw [hg] at hin
        cases t1 : toB (a - To.fi x) x
        · have hr0 : riN x y a b = false := by unfold riN; rw [t1]; rfl
          rw [hr0, if_neg (by decide)] at e0
          have e1 : riB k x y t z a b = false := by unfold riB; rw [e0]; rfl
          rw [riV_no e1, e1, e0]
          exact rrN1 k x y t z a b hx.1 hx.2 hy.1 hy.2 ba.1 ba.2 bb.1 bb.2 hr t1 w
        · cases t2 : toB (b - To.fi y) y
          · have hr0 : riN x y a b = false := by unfold riN; rw [t1, t2]; rfl
            rw [hr0, if_neg (by decide)] at e0
            have e1 : riB k x y t z a b = false := by unfold riB; rw [e0]; rfl
            rw [riV_no e1, e1, e0]
            exact rrN2 k x y t z a b hx.1 hx.2 hy.1 hy.2 ba.1 ba.2 bb.1 bb.2 hr t1 t2 w
          · have hr0 : riN x y a b = true := by unfold riN; rw [t1, t2]; rfl
            rw [hr0, if_pos rfl] at e0
            by_cases k1 : k = 1
            · subst k1
              have e1 : riB 1 x y t z a b = false := by unfold riB; rw [hg]; simp
              rw [riV_no e1, e1, e0]
              exact rrPl 1 x y t z a b hx.1 hx.2 hy.1 hy.2 ba.1 ba.2 bb.1 bb.2 hr t1 t2 hin rfl w
            · have e1 : riB k x y t z a b = true := by unfold riB; rw [e0]; simp [k1]
              rw [riV_yes e1, e1, e0]
              unfold riX riY
              rw [hg]
              simp only [Bool.false_eq_true, if_false]
              by_cases k5 : k = 5
              · subst k5
                rw [if_pos rfl, if_pos rfl]
                have hxy := ok.alike rfl
                have hen := ok.ended (by omega)
                have n1 : ¬ (To.liB a x = true ∧ To.liB b y = true) := by
                  intro q
                  have := Bool.and_eq_true_iff.2 q
                  unfold giB at hg
                  rw [this] at hg
                  exact absurd hg (by decide)
                rw [li_iff, li_iff] at n1
                have t1' : -1 ≤ (a - To.fi x) ∧ (a - To.fi x) ≤ x := by
                  unfold toB at t1
                  simp only [Bool.or_eq_true, Bool.and_eq_true, decide_eq_true_eq] at t1
                  omega
                have t2' : -1 ≤ (b - To.fi y) ∧ (b - To.fi y) ≤ y := by
                  unfold toB at t2
                  simp only [Bool.or_eq_true, Bool.and_eq_true, decide_eq_true_eq] at t2
                  omega
                have m1 : -1 ≤ Nm.nearZ (b - To.fi y) 0 (x - 1) ∧ Nm.nearZ (b - To.fi y) 0 (x - 1) ≤ 65536 := by
                  unfold Nm.nearZ
                  repeat' split
                  all_goals omega
                have m2 : -1 ≤ Nm.nearZ (a - To.fi x) 0 (x - 1) ∧ Nm.nearZ (a - To.fi x) 0 (x - 1) ≤ 65536 := by
                  unfold Nm.nearZ
                  repeat' split
                  all_goals omega
                rw [show y - 1 = x - 1 by omega]
                exact rrSp 5 x y t z a b hx.1 hx.2 hy.1 hy.2 ba.1 ba.2 bb.1 bb.2 hr t1 t2 hin rfl rfl _ _ _ _ (ballC x (a - To.fi x) (b - To.fi y) (by omega) (by omega) (by omega) (by omega) (by omega) (by omega) (by omega)) (by rw [IntKind.wrap_i64]; omega) (by rw [IntKind.wrap_i64]; omega) w
              · rw [if_neg k5, if_neg k5]
                have hk : k = 2 ∨ k = 3 ∨ k = 4 := by omega
                have hgl := gl_iff.2 hk
                have c0 : ceE k x y t z a b = 0 := by unfold ceE; rw [if_pos h, if_neg (by rw [hf]; decide), if_neg (by rw [hgl]; simp)]
                have hc := refCellC k x y t z a b ht
                rw [ce_yes c0, c0] at hc
                unfold ceX ceY at hc
                rw [hgl] at hc
                simp only [if_true] at hc
                exact rrGl k x y t z a b hx.1 hx.2 hy.1 hy.2 ba.1 ba.2 bb.1 bb.2 hr t1 t2 hin (beq_eq_false_iff_ne.2 k1) (beq_eq_false_iff_ne.2 k5) _ _ _ hc w
      · rw [hg, if_pos rfl] at e0
        rw [hg] at hin
        have tt := gi_ri hg
        have e1 : riB k x y t z a b = true := by unfold riB; rw [e0, hg]; simp
        rw [riV_yes e1, e1, e0]
        unfold riX riY
        rw [hg, if_pos rfl, if_pos rfl]
        exact rrIn k x y t z a b hx.1 hx.2 hy.1 hy.2 ba.1 ba.2 bb.1 bb.2 hr tt.1 tt.2 hin w
    · have r0 : rfE k x y t z a b = 5 := by unfold rfE; rw [if_pos h, if_pos hf]
      have e0 : riE k x y t z a b = 5 := by unfold riE; rw [if_pos h, if_pos hf]
      have e1 : riB k x y t z a b = false := by unfold riB; rw [e0]; rfl
      rw [r0] at hr
      rw [riV_no e1, e1, e0]
      exact rrX k x y t z a b 5 rfl hr w
  · have r0 : rfE k x y t z a b = 9 := by unfold rfE; rw [if_neg h]
    have e0 : riE k x y t z a b = 9 := by unfold riE; rw [if_neg h]
    have e1 : riB k x y t z a b = false := by unfold riB; rw [e0]; rfl
    rw [r0] at hr
    rw [riV_no e1, e1, e0]
    exact rrX k x y t z a b 9 rfl hr w

end Go.Proofs.YtjndljjpbkfmiaaGreatDoor.Fd
