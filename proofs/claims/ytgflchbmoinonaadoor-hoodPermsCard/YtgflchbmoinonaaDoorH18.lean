/- The document's Turned, Perm, Parts. -/
import Derived.Test.YtgflchbmoinonaaDoorH7
import Derived.Test.YtgflchbmoinonaaDoorH14
import Derived.Maps.AppendAt
import Derived.Deep.RegionHeld2
namespace Go.Proofs.YtgflchbmoinonaaDoor
open Go.RowKit
open Fl
set_option linter.unusedVariables false
set_option linter.unusedSimpArgs false
set_option maxRecDepth 100000

set_option maxHeartbeats 1000000 in
theorem refTurn0 (x y : Int) (hx : -1 ≤ x ∧ x ≤ 1) (hy : -1 ≤ y ∧ y ≤ 1) (w : World) : Calls Tryd.prog 27 #[.int .i64 0, .agg #[.int .i64 x, .int .i64 y]] w fun e w' => e = .returned (.agg #[.int .i64 (x), .int .i64 (y)]) ∧ w.grownBy w' none := by
  obtain ⟨W1, hW1, sz1, g1, B1⟩ := boxn w #[.int .i64 x, .int .i64 y] 37
  obtain ⟨W2, hW2, sz2, g2, B2⟩ := boxn W1 #[.int .i64 0, .int .i64 0] 37
  have B12 := B1.kept g2 (by simp)
  have c0 := B12.cell 0 (v := .int .i64 x) rfl
  have c1 := B12.cell 1 (v := .int .i64 y) rfl
  have n1 : IntKind.i64.wrap (-x) = -x := by rw [IntKind.wrap_i64]; omega
  have n2 : IntKind.i64.wrap (-y) = -y := by rw [IntKind.wrap_i64]; omega
  have d0 := B2.cell 0 (v := .int .i64 0) rfl
  have d1 := B2.cell 1 (v := .int .i64 0) rfl
  have f0 := B2.frozen 0
  have f1 := B2.frozen 1
  have c0' := B12.dr.cell 0 (v := .int .i64 x) rfl
  have c1' := B12.dr.cell 1 (v := .int .i64 y) rfl
  go_enter Tryd.func27, Tryd.ntmps27
  go_wp2
  go_region_held2 (fun w' => w'.cell? ⟨w.heap.size, 0, none⟩ = some (.int .i64 x) ∧ w'.cell? ⟨w.heap.size, 1, none⟩ = some (.int .i64 y)) (go_keep) (fail)
  go_wp2
  refine ret_c1 (g := W1.heap.size) (cs := #[.int .i64 (x), .int .i64 (y)]) rfl Tryd.underlying37 (by kernel_rfl) rfl (bo2 B2).dr rfl ⟨rfl, gb_drew (gb2 (gb_trans g1 g2) g1.size)⟩

set_option maxHeartbeats 1000000 in
theorem refTurn1 (x y : Int) (hx : -1 ≤ x ∧ x ≤ 1) (hy : -1 ≤ y ∧ y ≤ 1) (w : World) : Calls Tryd.prog 27 #[.int .i64 1, .agg #[.int .i64 x, .int .i64 y]] w fun e w' => e = .returned (.agg #[.int .i64 (-y), .int .i64 (x)]) ∧ w.grownBy w' none := by
  obtain ⟨W1, hW1, sz1, g1, B1⟩ := boxn w #[.int .i64 x, .int .i64 y] 37
  obtain ⟨W2, hW2, sz2, g2, B2⟩ := boxn W1 #[.int .i64 0, .int .i64 0] 37
  have B12 := B1.kept g2 (by simp)
  have c0 := B12.cell 0 (v := .int .i64 x) rfl
  have c1 := B12.cell 1 (v := .int .i64 y) rfl
  have n1 : IntKind.i64.wrap (-x) = -x := by rw [IntKind.wrap_i64]; omega
  have n2 : IntKind.i64.wrap (-y) = -y := by rw [IntKind.wrap_i64]; omega
  have d0 := B2.cell 0 (v := .int .i64 0) rfl
  have d1 := B2.cell 1 (v := .int .i64 0) rfl
  have f0 := B2.frozen 0
  have f1 := B2.frozen 1
  have c0' := B12.dr.cell 0 (v := .int .i64 x) rfl
  have c1' := B12.dr.cell 1 (v := .int .i64 y) rfl
  go_enter Tryd.func27, Tryd.ntmps27
  go_wp2
  go_region_held2 (fun w' => w'.cell? ⟨w.heap.size, 0, none⟩ = some (.int .i64 x) ∧ w'.cell? ⟨w.heap.size, 1, none⟩ = some (.int .i64 y)) (go_keep) (fail)
  go_wp2
  refine ret_c1 (g := W1.heap.size) (cs := #[.int .i64 (-y), .int .i64 (x)]) rfl Tryd.underlying37 (by kernel_rfl) rfl (bo2 B2).dr rfl ⟨rfl, gb_drew (gb2 (gb_trans g1 g2) g1.size)⟩

set_option maxHeartbeats 1000000 in
theorem refTurn2 (x y : Int) (hx : -1 ≤ x ∧ x ≤ 1) (hy : -1 ≤ y ∧ y ≤ 1) (w : World) : Calls Tryd.prog 27 #[.int .i64 2, .agg #[.int .i64 x, .int .i64 y]] w fun e w' => e = .returned (.agg #[.int .i64 (-x), .int .i64 (-y)]) ∧ w.grownBy w' none := by
  obtain ⟨W1, hW1, sz1, g1, B1⟩ := boxn w #[.int .i64 x, .int .i64 y] 37
  obtain ⟨W2, hW2, sz2, g2, B2⟩ := boxn W1 #[.int .i64 0, .int .i64 0] 37
  have B12 := B1.kept g2 (by simp)
  have c0 := B12.cell 0 (v := .int .i64 x) rfl
  have c1 := B12.cell 1 (v := .int .i64 y) rfl
  have n1 : IntKind.i64.wrap (-x) = -x := by rw [IntKind.wrap_i64]; omega
  have n2 : IntKind.i64.wrap (-y) = -y := by rw [IntKind.wrap_i64]; omega
  have d0 := B2.cell 0 (v := .int .i64 0) rfl
  have d1 := B2.cell 1 (v := .int .i64 0) rfl
  have f0 := B2.frozen 0
  have f1 := B2.frozen 1
  have c0' := B12.dr.cell 0 (v := .int .i64 x) rfl
  have c1' := B12.dr.cell 1 (v := .int .i64 y) rfl
  go_enter Tryd.func27, Tryd.ntmps27
  go_wp2
  go_region_held2 (fun w' => w'.cell? ⟨w.heap.size, 0, none⟩ = some (.int .i64 x) ∧ w'.cell? ⟨w.heap.size, 1, none⟩ = some (.int .i64 y)) (go_keep) (fail)
  go_wp2
  refine ret_c1 (g := W1.heap.size) (cs := #[.int .i64 (-x), .int .i64 (-y)]) rfl Tryd.underlying37 (by kernel_rfl) rfl (bo2 B2).dr rfl ⟨rfl, gb_drew (gb2 (gb_trans g1 g2) g1.size)⟩

set_option maxHeartbeats 1000000 in
theorem refTurn3 (x y : Int) (hx : -1 ≤ x ∧ x ≤ 1) (hy : -1 ≤ y ∧ y ≤ 1) (w : World) : Calls Tryd.prog 27 #[.int .i64 3, .agg #[.int .i64 x, .int .i64 y]] w fun e w' => e = .returned (.agg #[.int .i64 (y), .int .i64 (-x)]) ∧ w.grownBy w' none := by
  obtain ⟨W1, hW1, sz1, g1, B1⟩ := boxn w #[.int .i64 x, .int .i64 y] 37
  obtain ⟨W2, hW2, sz2, g2, B2⟩ := boxn W1 #[.int .i64 0, .int .i64 0] 37
  have B12 := B1.kept g2 (by simp)
  have c0 := B12.cell 0 (v := .int .i64 x) rfl
  have c1 := B12.cell 1 (v := .int .i64 y) rfl
  have n1 : IntKind.i64.wrap (-x) = -x := by rw [IntKind.wrap_i64]; omega
  have n2 : IntKind.i64.wrap (-y) = -y := by rw [IntKind.wrap_i64]; omega
  have d0 := B2.cell 0 (v := .int .i64 0) rfl
  have d1 := B2.cell 1 (v := .int .i64 0) rfl
  have f0 := B2.frozen 0
  have f1 := B2.frozen 1
  have c0' := B12.dr.cell 0 (v := .int .i64 x) rfl
  have c1' := B12.dr.cell 1 (v := .int .i64 y) rfl
  go_enter Tryd.func27, Tryd.ntmps27
  go_wp2
  go_region_held2 (fun w' => w'.cell? ⟨w.heap.size, 0, none⟩ = some (.int .i64 x) ∧ w'.cell? ⟨w.heap.size, 1, none⟩ = some (.int .i64 y)) (go_keep) (fail)
  go_wp2
  refine ret_c1 (g := W1.heap.size) (cs := #[.int .i64 (y), .int .i64 (-x)]) rfl Tryd.underlying37 (by kernel_rfl) rfl (bo2 B2).dr rfl ⟨rfl, gb_drew (gb2 (gb_trans g1 g2) g1.size)⟩

set_option maxHeartbeats 1000000 in
theorem refTurn4 (x y : Int) (hx : -1 ≤ x ∧ x ≤ 1) (hy : -1 ≤ y ∧ y ≤ 1) (w : World) : Calls Tryd.prog 27 #[.int .i64 4, .agg #[.int .i64 x, .int .i64 y]] w fun e w' => e = .returned (.agg #[.int .i64 (x), .int .i64 (-y)]) ∧ w.grownBy w' none := by
  obtain ⟨W1, hW1, sz1, g1, B1⟩ := boxn w #[.int .i64 x, .int .i64 y] 37
  obtain ⟨W2, hW2, sz2, g2, B2⟩ := boxn W1 #[.int .i64 0, .int .i64 0] 37
  have B12 := B1.kept g2 (by simp)
  have c0 := B12.cell 0 (v := .int .i64 x) rfl
  have c1 := B12.cell 1 (v := .int .i64 y) rfl
  have n1 : IntKind.i64.wrap (-x) = -x := by rw [IntKind.wrap_i64]; omega
  have n2 : IntKind.i64.wrap (-y) = -y := by rw [IntKind.wrap_i64]; omega
  have d0 := B2.cell 0 (v := .int .i64 0) rfl
  have d1 := B2.cell 1 (v := .int .i64 0) rfl
  have f0 := B2.frozen 0
  have f1 := B2.frozen 1
  have c0' := B12.dr.cell 0 (v := .int .i64 x) rfl
  have c1' := B12.dr.cell 1 (v := .int .i64 y) rfl
  go_enter Tryd.func27, Tryd.ntmps27
  go_wp2
  go_region_held2 (fun w' => w'.cell? ⟨w.heap.size, 0, none⟩ = some (.int .i64 x) ∧ w'.cell? ⟨w.heap.size, 1, none⟩ = some (.int .i64 y)) (go_keep) (fail)
  go_wp2
  refine ret_c1 (g := W1.heap.size) (cs := #[.int .i64 (x), .int .i64 (-y)]) rfl Tryd.underlying37 (by kernel_rfl) rfl (bo2 B2).dr rfl ⟨rfl, gb_drew (gb2 (gb_trans g1 g2) g1.size)⟩

set_option maxHeartbeats 1000000 in
theorem refTurn5 (x y : Int) (hx : -1 ≤ x ∧ x ≤ 1) (hy : -1 ≤ y ∧ y ≤ 1) (w : World) : Calls Tryd.prog 27 #[.int .i64 5, .agg #[.int .i64 x, .int .i64 y]] w fun e w' => e = .returned (.agg #[.int .i64 (y), .int .i64 (x)]) ∧ w.grownBy w' none := by
  obtain ⟨W1, hW1, sz1, g1, B1⟩ := boxn w #[.int .i64 x, .int .i64 y] 37
  obtain ⟨W2, hW2, sz2, g2, B2⟩ := boxn W1 #[.int .i64 0, .int .i64 0] 37
  have B12 := B1.kept g2 (by simp)
  have c0 := B12.cell 0 (v := .int .i64 x) rfl
  have c1 := B12.cell 1 (v := .int .i64 y) rfl
  have n1 : IntKind.i64.wrap (-x) = -x := by rw [IntKind.wrap_i64]; omega
  have n2 : IntKind.i64.wrap (-y) = -y := by rw [IntKind.wrap_i64]; omega
  have d0 := B2.cell 0 (v := .int .i64 0) rfl
  have d1 := B2.cell 1 (v := .int .i64 0) rfl
  have f0 := B2.frozen 0
  have f1 := B2.frozen 1
  have c0' := B12.dr.cell 0 (v := .int .i64 x) rfl
  have c1' := B12.dr.cell 1 (v := .int .i64 y) rfl
  go_enter Tryd.func27, Tryd.ntmps27
  go_wp2
  go_region_held2 (fun w' => w'.cell? ⟨w.heap.size, 0, none⟩ = some (.int .i64 x) ∧ w'.cell? ⟨w.heap.size, 1, none⟩ = some (.int .i64 y)) (go_keep) (fail)
  go_wp2
  refine ret_c1 (g := W1.heap.size) (cs := #[.int .i64 (y), .int .i64 (x)]) rfl Tryd.underlying37 (by kernel_rfl) rfl (bo2 B2).dr rfl ⟨rfl, gb_drew (gb2 (gb_trans g1 g2) g1.size)⟩

set_option maxHeartbeats 1000000 in
theorem refTurn6 (x y : Int) (hx : -1 ≤ x ∧ x ≤ 1) (hy : -1 ≤ y ∧ y ≤ 1) (w : World) : Calls Tryd.prog 27 #[.int .i64 6, .agg #[.int .i64 x, .int .i64 y]] w fun e w' => e = .returned (.agg #[.int .i64 (-x), .int .i64 (y)]) ∧ w.grownBy w' none := by
  obtain ⟨W1, hW1, sz1, g1, B1⟩ := boxn w #[.int .i64 x, .int .i64 y] 37
  obtain ⟨W2, hW2, sz2, g2, B2⟩ := boxn W1 #[.int .i64 0, .int .i64 0] 37
  have B12 := B1.kept g2 (by simp)
  have c0 := B12.cell 0 (v := .int .i64 x) rfl
  have c1 := B12.cell 1 (v := .int .i64 y) rfl
  have n1 : IntKind.i64.wrap (-x) = -x := by rw [IntKind.wrap_i64]; omega
  have n2 : IntKind.i64.wrap (-y) = -y := by rw [IntKind.wrap_i64]; omega
  have d0 := B2.cell 0 (v := .int .i64 0) rfl
  have d1 := B2.cell 1 (v := .int .i64 0) rfl
  have f0 := B2.frozen 0
  have f1 := B2.frozen 1
  have c0' := B12.dr.cell 0 (v := .int .i64 x) rfl
  have c1' := B12.dr.cell 1 (v := .int .i64 y) rfl
  go_enter Tryd.func27, Tryd.ntmps27
  go_wp2
  go_region_held2 (fun w' => w'.cell? ⟨w.heap.size, 0, none⟩ = some (.int .i64 x) ∧ w'.cell? ⟨w.heap.size, 1, none⟩ = some (.int .i64 y)) (go_keep) (fail)
  go_wp2
  refine ret_c1 (g := W1.heap.size) (cs := #[.int .i64 (-x), .int .i64 (y)]) rfl Tryd.underlying37 (by kernel_rfl) rfl (bo2 B2).dr rfl ⟨rfl, gb_drew (gb2 (gb_trans g1 g2) g1.size)⟩

set_option maxHeartbeats 1000000 in
theorem refTurn7 (x y : Int) (hx : -1 ≤ x ∧ x ≤ 1) (hy : -1 ≤ y ∧ y ≤ 1) (w : World) : Calls Tryd.prog 27 #[.int .i64 7, .agg #[.int .i64 x, .int .i64 y]] w fun e w' => e = .returned (.agg #[.int .i64 (-y), .int .i64 (-x)]) ∧ w.grownBy w' none := by
  obtain ⟨W1, hW1, sz1, g1, B1⟩ := boxn w #[.int .i64 x, .int .i64 y] 37
  obtain ⟨W2, hW2, sz2, g2, B2⟩ := boxn W1 #[.int .i64 0, .int .i64 0] 37
  have B12 := B1.kept g2 (by simp)
  have c0 := B12.cell 0 (v := .int .i64 x) rfl
  have c1 := B12.cell 1 (v := .int .i64 y) rfl
  have n1 : IntKind.i64.wrap (-x) = -x := by rw [IntKind.wrap_i64]; omega
  have n2 : IntKind.i64.wrap (-y) = -y := by rw [IntKind.wrap_i64]; omega
  have d0 := B2.cell 0 (v := .int .i64 0) rfl
  have d1 := B2.cell 1 (v := .int .i64 0) rfl
  have f0 := B2.frozen 0
  have f1 := B2.frozen 1
  have c0' := B12.dr.cell 0 (v := .int .i64 x) rfl
  have c1' := B12.dr.cell 1 (v := .int .i64 y) rfl
  go_enter Tryd.func27, Tryd.ntmps27
  go_wp2
  go_region_held2 (fun w' => w'.cell? ⟨w.heap.size, 0, none⟩ = some (.int .i64 x) ∧ w'.cell? ⟨w.heap.size, 1, none⟩ = some (.int .i64 y)) (go_keep) (fail)
  go_wp2
  refine ret_c1 (g := W1.heap.size) (cs := #[.int .i64 (-y), .int .i64 (-x)]) rfl Tryd.underlying37 (by kernel_rfl) rfl (bo2 B2).dr rfl ⟨rfl, gb_drew (gb2 (gb_trans g1 g2) g1.size)⟩

theorem refTurnC (k : Nat) (hk : k < 8) (x y : Int) (hx : -1 ≤ x ∧ x ≤ 1) (hy : -1 ≤ y ∧ y ≤ 1) (w : World) : Calls Tryd.prog 27 #[.int .i64 k, .agg #[.int .i64 x, .int .i64 y]] w fun e w' => e = .returned (.agg #[.int .i64 (lx k x y + 0), .int .i64 (ly k x y + 0)]) ∧ w.grownBy w' none := by
  match k, hk with
  | 0, _ =>
    have e1 : lx 0 x y + 0 = x := by simp [lx, tx, ty, cj, fl4]
    have e2 : ly 0 x y + 0 = y := by simp [ly, tx, ty, cj, fl4]
    rw [e1, e2]
    exact refTurn0 x y hx hy w
  | 1, _ =>
    have e1 : lx 1 x y + 0 = -y := by simp [lx, tx, ty, cj, fl4]
    have e2 : ly 1 x y + 0 = x := by simp [ly, tx, ty, cj, fl4]
    rw [e1, e2]
    exact refTurn1 x y hx hy w
  | 2, _ =>
    have e1 : lx 2 x y + 0 = -x := by simp [lx, tx, ty, cj, fl4]
    have e2 : ly 2 x y + 0 = -y := by simp [ly, tx, ty, cj, fl4]
    rw [e1, e2]
    exact refTurn2 x y hx hy w
  | 3, _ =>
    have e1 : lx 3 x y + 0 = y := by simp [lx, tx, ty, cj, fl4]
    have e2 : ly 3 x y + 0 = -x := by simp [ly, tx, ty, cj, fl4]
    rw [e1, e2]
    exact refTurn3 x y hx hy w
  | 4, _ =>
    have e1 : lx 4 x y + 0 = x := by simp [lx, tx, ty, cj, fl4]
    have e2 : ly 4 x y + 0 = -y := by simp [ly, tx, ty, cj, fl4]
    rw [e1, e2]
    exact refTurn4 x y hx hy w
  | 5, _ =>
    have e1 : lx 5 x y + 0 = y := by simp [lx, tx, ty, cj, fl4]
    have e2 : ly 5 x y + 0 = x := by simp [ly, tx, ty, cj, fl4]
    rw [e1, e2]
    exact refTurn5 x y hx hy w
  | 6, _ =>
    have e1 : lx 6 x y + 0 = -x := by simp [lx, tx, ty, cj, fl4]
    have e2 : ly 6 x y + 0 = y := by simp [ly, tx, ty, cj, fl4]
    rw [e1, e2]
    exact refTurn6 x y hx hy w
  | 7, _ =>
    have e1 : lx 7 x y + 0 = -y := by simp [lx, tx, ty, cj, fl4]
    have e2 : ly 7 x y + 0 = -x := by simp [ly, tx, ty, cj, fl4]
    rw [e1, e2]
    exact refTurn7 x y hx hy w
end Go.Proofs.YtgflchbmoinonaaDoor
