/- What Check of package topo answers, and the document's. -/
import Derived.Test.YthjiiljglgmkpaaGreatDoorProg
import Derived.Test.YthjiiljglgmkpaaGreatDoorTp
import Derived.Test.YthjiiljglgmkpaaGreatDoorBo
import Derived.WalkKit
import Derived.RowKit
import Derived.Lib.SmallJoins
import Derived.Deep.QuietTactic
import Derived.BigQuiet
namespace Go.Proofs.YthjiiljglgmkpaaGreatDoor.To
open Go.RowKit
set_option linter.unusedVariables false
set_option linter.unusedSimpArgs false
set_option maxRecDepth 100000

def nA (k : Int) : Bool := decide (k = 5)
def nE (k : Int) : Bool := decide (k = 5) || decide (k = 3) || decide (k = 4)
def nT (k : Int) : Bool := decide (k = 3) || decide (k = 2)
def nF (k : Int) : Bool := decide (k = 3)
theorem underT : ∃ fs, Tryz.prog.underlying 30 = some (.struct fs) := by
  first | exact ⟨_, Tryz.underlying30⟩ | exact ⟨_, by kernel_rfl⟩
theorem infoT : (Tryz.prog.info? 30).map (·.size) = some 5 := by kernel_rfl
theorem underN : ∃ fs, Tryz.prog.underlying 194 = some (.struct fs) := by
  first | exact ⟨_, Tryz.underlying194⟩ | exact ⟨_, by kernel_rfl⟩
theorem infoN : (Tryz.prog.info? 194).map (·.size) = some 4 := by kernel_rfl

theorem natureC (k : Int) (w : World) : Calls Tryz.prog 119 #[.int .u8 k] w fun e w' => e = .returned (.agg #[.bool (nA k), .bool (nE k), .bool (nT k), .bool (nF k)]) ∧ w.grownBy w' none := by
  obtain ⟨fs, hfs⟩ := underN
  by_cases k5 : k = 5
  · subst k5
    go_enter Tryz.func119, Tryz.ntmps119
    go_wp2
    refine ret_c1 (g := w.heap.size) (cs := #[.bool true, .bool true, .bool false, .bool false]) rfl hfs infoN rfl (Bo.new _ _ _) rfl ⟨?_, World.grownBy_alloc _ _ _⟩
    simp [nA, nE, nT, nF]
  by_cases k4 : k = 4
  · subst k4
    go_enter Tryz.func119, Tryz.ntmps119
    go_wp2
    refine ret_c1 (g := w.heap.size) (cs := #[.bool false, .bool true, .bool false, .bool false]) rfl hfs infoN rfl (Bo.new _ _ _) rfl ⟨?_, World.grownBy_alloc _ _ _⟩
    simp [nA, nE, nT, nF]
  by_cases k3 : k = 3
  · subst k3
    go_enter Tryz.func119, Tryz.ntmps119
    go_wp2
    refine ret_c1 (g := w.heap.size) (cs := #[.bool false, .bool true, .bool true, .bool true]) rfl hfs infoN rfl (Bo.new _ _ _) rfl ⟨?_, World.grownBy_alloc _ _ _⟩
    simp [nA, nE, nT, nF]
  by_cases k2 : k = 2
  · subst k2
    go_enter Tryz.func119, Tryz.ntmps119
    go_wp2
    refine ret_c1 (g := w.heap.size) (cs := #[.bool false, .bool false, .bool true, .bool false]) rfl hfs infoN rfl (Bo.new _ _ _) rfl ⟨?_, World.grownBy_alloc _ _ _⟩
    simp [nA, nE, nT, nF]
  · go_enter Tryz.func119, Tryz.ntmps119
    go_wp2
    refine ret_c1 (g := w.heap.size) (cs := #[.bool false, .bool false, .bool false, .bool false]) rfl hfs infoN rfl (Bo.new _ _ _) rfl ⟨?_, World.grownBy_alloc _ _ _⟩
    simp [nA, nE, nT, nF, k2, k3, k4, k5]
theorem retB {a b : Bool} (h : a = b) : Ending.returned (.bool a) = .returned (.bool b) := by rw [h]
theorem retI {k : IntKind} {a b : Int} (h : a = b) : Ending.returned (.int k a) = .returned (.int k b) := by rw [h]
def isS (x : Int) : Bool := decide (0 ≤ x) && decide (x ≤ 65536)
def heB (x y : Int) : Bool := decide (x = 0) || decide (y = 0)

theorem isSideC (x : Int) (w : World) : Calls Tryz.prog 120 #[.int .i64 x] w fun e w' => e = .returned (.bool (isS x)) ∧ w' = w := by
  by_cases h1 : 0 ≤ x <;> by_cases h2 : x ≤ 65536
  all_goals
    go_enter Tryz.func120, Tryz.ntmps120
    go_wp2
    all_goals go_ret
    all_goals refine ⟨retB ?_, rfl⟩
    all_goals simp [isS, h1, h2]

theorem endlessC (k x y t z : Int) (w : World) : Calls Tryz.prog 121 #[.agg #[.int .u8 k, .int .i64 x, .int .i64 y, .int .u8 t, .int .i64 z]] w fun e w' => e = .returned (.bool (heB x y)) ∧ w.grownBy w' none := by
  by_cases h1 : x = 0 <;> by_cases h2 : y = 0
  all_goals
    go_enter Tryz.func121, Tryz.ntmps121
    go_wp2
    all_goals go_ret
    all_goals refine ⟨retB ?_, World.grownBy_alloc _ _ _⟩
    all_goals simp [heB, h1, h2]
def mT (fl tn : Bool) (t : Int) : Bool := if t = 0 then !fl else tn && decide (t ≤ 2)

theorem mayTurn0 (k x y z : Int) (al en tn fl : Bool)  (w : World) : Calls Tryz.prog 122 #[.agg #[.int .u8 k, .int .i64 x, .int .i64 y, .int .u8 0, .int .i64 z], .agg #[.bool al, .bool en, .bool tn, .bool fl]] w fun e w' => e = .returned (.bool (mT fl tn 0)) ∧ w.grownBy w' none := by
  obtain ⟨W1, hW1, sz1, g1, B1⟩ := boxn w #[.int .u8 k, .int .i64 x, .int .i64 y, .int .u8 0, .int .i64 z] 30
  obtain ⟨W2, hW2, sz2, g2, B2⟩ := boxn W1 #[.bool al, .bool en, .bool tn, .bool fl] 194
  have B1' := B1.kept g2 (by simp)
  have c1_0 := B1'.cell 0 (v := .int .u8 k) rfl
  have c1_1 := B1'.cell 1 (v := .int .i64 x) rfl
  have c1_2 := B1'.cell 2 (v := .int .i64 y) rfl
  have c1_3 := B1'.cell 3 (v := .int .u8 0) rfl
  have c1_4 := B1'.cell 4 (v := .int .i64 z) rfl
  have c2_0 := B2.cell 0 (v := .bool al) rfl
  have c2_1 := B2.cell 1 (v := .bool en) rfl
  have c2_2 := B2.cell 2 (v := .bool tn) rfl
  have c2_3 := B2.cell 3 (v := .bool fl) rfl
  go_enter Tryz.func122, Tryz.ntmps122
  go_wp2
  first | go_ret | (go_quiet (fail); go_wp2; go_ret)
  refine ⟨retB ?_, by first | exact (gb_trans g1 g2) | exact gb_drewN (gb_trans g1 g2) _⟩
  first | rfl | simp [mT, *]

theorem mayTurnN (k x y t z : Int) (al en fl : Bool) (h1 : ¬ t = 0) (w : World) : Calls Tryz.prog 122 #[.agg #[.int .u8 k, .int .i64 x, .int .i64 y, .int .u8 t, .int .i64 z], .agg #[.bool al, .bool en, .bool false, .bool fl]] w fun e w' => e = .returned (.bool (mT fl false t)) ∧ w.grownBy w' none := by
  obtain ⟨W1, hW1, sz1, g1, B1⟩ := boxn w #[.int .u8 k, .int .i64 x, .int .i64 y, .int .u8 t, .int .i64 z] 30
  obtain ⟨W2, hW2, sz2, g2, B2⟩ := boxn W1 #[.bool al, .bool en, .bool false, .bool fl] 194
  have B1' := B1.kept g2 (by simp)
  have c1_0 := B1'.cell 0 (v := .int .u8 k) rfl
  have c1_1 := B1'.cell 1 (v := .int .i64 x) rfl
  have c1_2 := B1'.cell 2 (v := .int .i64 y) rfl
  have c1_3 := B1'.cell 3 (v := .int .u8 t) rfl
  have c1_4 := B1'.cell 4 (v := .int .i64 z) rfl
  have c2_0 := B2.cell 0 (v := .bool al) rfl
  have c2_1 := B2.cell 1 (v := .bool en) rfl
  have c2_2 := B2.cell 2 (v := .bool false) rfl
  have c2_3 := B2.cell 3 (v := .bool fl) rfl
  go_enter Tryz.func122, Tryz.ntmps122
  go_wp2
  first | go_ret | (go_quiet (fail); go_wp2; go_ret)
  refine ⟨retB ?_, by first | exact (gb_trans g1 g2) | exact gb_drewN (gb_trans g1 g2) _⟩
  first | rfl | simp [mT, *]

theorem mayTurnT (k x y t z : Int) (al en fl : Bool) (h1 : ¬ t = 0) (h2 : t ≤ 2) (w : World) : Calls Tryz.prog 122 #[.agg #[.int .u8 k, .int .i64 x, .int .i64 y, .int .u8 t, .int .i64 z], .agg #[.bool al, .bool en, .bool true, .bool fl]] w fun e w' => e = .returned (.bool (mT fl true t)) ∧ w.grownBy w' none := by
  obtain ⟨W1, hW1, sz1, g1, B1⟩ := boxn w #[.int .u8 k, .int .i64 x, .int .i64 y, .int .u8 t, .int .i64 z] 30
  obtain ⟨W2, hW2, sz2, g2, B2⟩ := boxn W1 #[.bool al, .bool en, .bool true, .bool fl] 194
  have B1' := B1.kept g2 (by simp)
  have c1_0 := B1'.cell 0 (v := .int .u8 k) rfl
  have c1_1 := B1'.cell 1 (v := .int .i64 x) rfl
  have c1_2 := B1'.cell 2 (v := .int .i64 y) rfl
  have c1_3 := B1'.cell 3 (v := .int .u8 t) rfl
  have c1_4 := B1'.cell 4 (v := .int .i64 z) rfl
  have c2_0 := B2.cell 0 (v := .bool al) rfl
  have c2_1 := B2.cell 1 (v := .bool en) rfl
  have c2_2 := B2.cell 2 (v := .bool true) rfl
  have c2_3 := B2.cell 3 (v := .bool fl) rfl
  go_enter Tryz.func122, Tryz.ntmps122
  go_wp2
  first | go_ret | (go_quiet (fail); go_wp2; go_ret)
  refine ⟨retB ?_, by first | exact (gb_trans g1 g2) | exact gb_drewN (gb_trans g1 g2) _⟩
  first | rfl | simp [mT, *]

theorem mayTurnU (k x y t z : Int) (al en fl : Bool) (h1 : ¬ t = 0) (h2 : ¬ t ≤ 2) (w : World) : Calls Tryz.prog 122 #[.agg #[.int .u8 k, .int .i64 x, .int .i64 y, .int .u8 t, .int .i64 z], .agg #[.bool al, .bool en, .bool true, .bool fl]] w fun e w' => e = .returned (.bool (mT fl true t)) ∧ w.grownBy w' none := by
  obtain ⟨W1, hW1, sz1, g1, B1⟩ := boxn w #[.int .u8 k, .int .i64 x, .int .i64 y, .int .u8 t, .int .i64 z] 30
  obtain ⟨W2, hW2, sz2, g2, B2⟩ := boxn W1 #[.bool al, .bool en, .bool true, .bool fl] 194
  have B1' := B1.kept g2 (by simp)
  have c1_0 := B1'.cell 0 (v := .int .u8 k) rfl
  have c1_1 := B1'.cell 1 (v := .int .i64 x) rfl
  have c1_2 := B1'.cell 2 (v := .int .i64 y) rfl
  have c1_3 := B1'.cell 3 (v := .int .u8 t) rfl
  have c1_4 := B1'.cell 4 (v := .int .i64 z) rfl
  have c2_0 := B2.cell 0 (v := .bool al) rfl
  have c2_1 := B2.cell 1 (v := .bool en) rfl
  have c2_2 := B2.cell 2 (v := .bool true) rfl
  have c2_3 := B2.cell 3 (v := .bool fl) rfl
  go_enter Tryz.func122, Tryz.ntmps122
  go_wp2
  first | go_ret | (go_quiet (fail); go_wp2; go_ret)
  refine ⟨retB ?_, by first | exact (gb_trans g1 g2) | exact gb_drewN (gb_trans g1 g2) _⟩
  first | rfl | simp [mT, *]

theorem mayTurnC (k x y t z : Int) (al en tn fl : Bool) (w : World) : Calls Tryz.prog 122 #[.agg #[.int .u8 k, .int .i64 x, .int .i64 y, .int .u8 t, .int .i64 z], .agg #[.bool al, .bool en, .bool tn, .bool fl]] w fun e w' => e = .returned (.bool (mT fl tn t)) ∧ w.grownBy w' none := by
  by_cases h1 : t = 0
  · subst h1; exact mayTurn0 k x y z al en tn fl w
  · cases tn with
    | false => exact mayTurnN k x y t z al en fl h1 w
    | true =>
      by_cases h2 : t ≤ 2
      · exact mayTurnT k x y t z al en fl h1 h2 w
      · exact mayTurnU k x y t z al en fl h1 h2 w

def tS (x y t : Int) : Int := if t = 1 then x else y
theorem turnedC (k x y t z : Int) (w : World) : Calls Tryz.prog 134 #[.agg #[.int .u8 k, .int .i64 x, .int .i64 y, .int .u8 t, .int .i64 z]] w fun e w' => e = .returned (.int .i64 (tS x y t)) ∧ w.grownBy w' none := by
  by_cases h1 : t = 1
  all_goals
    go_enter Tryz.func134, Tryz.ntmps134
    go_wp2
    all_goals go_ret
    all_goals refine ⟨retI ?_, World.grownBy_alloc _ _ _⟩
    all_goals simp [tS, h1]

def mS (fl : Bool) (x y t z : Int) : Bool := if t = 0 then decide (z = 0) else if (!fl && (decide (z = 0) || heB x y)) = true then false else decide (-(tS x y t) < z) && decide (z < tS x y t)
theorem mS_no {fl : Bool} {x y t z : Int} (h1 : ¬ t = 0) (h : (!fl && (decide (z = 0) || heB x y)) = true) : mS fl x y t z = false := by unfold mS; rw [if_neg h1, if_pos h]
theorem mS_at {fl : Bool} {x y t z : Int} (h1 : ¬ t = 0) (h : (!fl && (decide (z = 0) || heB x y)) = false) : mS fl x y t z = (decide (-(tS x y t) < z) && decide (z < tS x y t)) := by unfold mS; rw [if_neg h1, if_neg (by rw [h]; decide)]

set_option maxHeartbeats 1000000 in
theorem mayShift0 (k x y z : Int) (al en tn : Bool) (hx : 0 ≤ x ∧ x ≤ 65536) (hy : 0 ≤ y ∧ y ≤ 65536) (fl : Bool) (w : World) : Calls Tryz.prog 123 #[.agg #[.int .u8 k, .int .i64 x, .int .i64 y, .int .u8 0, .int .i64 z], .agg #[.bool al, .bool en, .bool tn, .bool fl]] w fun e w' => e = .returned (.bool (mS fl x y 0 z)) ∧ w.grownBy w' none := by
  obtain ⟨W1, hW1, sz1, g1, B1⟩ := boxn w #[.int .u8 k, .int .i64 x, .int .i64 y, .int .u8 0, .int .i64 z] 30
  obtain ⟨W2, hW2, sz2, g2, B2⟩ := boxn W1 #[.bool al, .bool en, .bool tn, .bool fl] 194
  have B1' := B1.kept g2 (by simp)
  have c1_0 := B1'.cell 0 (v := .int .u8 k) rfl
  have c1_1 := B1'.cell 1 (v := .int .i64 x) rfl
  have c1_2 := B1'.cell 2 (v := .int .i64 y) rfl
  have c1_3 := B1'.cell 3 (v := .int .u8 0) rfl
  have c1_4 := B1'.cell 4 (v := .int .i64 z) rfl
  have c2_0 := B2.cell 0 (v := .bool al) rfl
  have c2_1 := B2.cell 1 (v := .bool en) rfl
  have c2_2 := B2.cell 2 (v := .bool tn) rfl
  have c2_3 := B2.cell 3 (v := .bool fl) rfl
  skip
  all_goals
    go_enter Tryz.func123, Tryz.ntmps123
    go_wp2_with (fail)
    go_ret
    refine ⟨retB ?_, (gb_trans g1 g2)⟩
    unfold mS; rw [if_pos rfl]; rfl

set_option maxHeartbeats 1000000 in
theorem mayShiftA (k x y t : Int) (al en tn : Bool) (hx : 0 ≤ x ∧ x ≤ 65536) (hy : 0 ≤ y ∧ y ≤ 65536) (h1 : ¬ t = 0) (w : World) : Calls Tryz.prog 123 #[.agg #[.int .u8 k, .int .i64 x, .int .i64 y, .int .u8 t, .int .i64 0], .agg #[.bool al, .bool en, .bool tn, .bool false]] w fun e w' => e = .returned (.bool (mS false x y t 0)) ∧ w.grownBy w' none := by
  have ht : 0 ≤ tS x y t ∧ tS x y t ≤ 65536 := by unfold tS; split <;> omega
  have hw : IntKind.i64.wrap (-(tS x y t)) = -(tS x y t) := by rw [IntKind.wrap_i64]; omega
  obtain ⟨W1, hW1, sz1, g1, B1⟩ := boxn w #[.int .u8 k, .int .i64 x, .int .i64 y, .int .u8 t, .int .i64 0] 30
  obtain ⟨W2, hW2, sz2, g2, B2⟩ := boxn W1 #[.bool al, .bool en, .bool tn, .bool false] 194
  have B1' := B1.kept g2 (by simp)
  have c1_0 := B1'.cell 0 (v := .int .u8 k) rfl
  have c1_1 := B1'.cell 1 (v := .int .i64 x) rfl
  have c1_2 := B1'.cell 2 (v := .int .i64 y) rfl
  have c1_3 := B1'.cell 3 (v := .int .u8 t) rfl
  have c1_4 := B1'.cell 4 (v := .int .i64 0) rfl
  have c2_0 := B2.cell 0 (v := .bool al) rfl
  have c2_1 := B2.cell 1 (v := .bool en) rfl
  have c2_2 := B2.cell 2 (v := .bool tn) rfl
  have c2_3 := B2.cell 3 (v := .bool false) rfl
  skip
  all_goals
    go_enter Tryz.func123, Tryz.ntmps123
    go_wp2_with (fail)
    go_ret
    refine ⟨retB ?_, (gb_trans g1 g2)⟩
    exact (mS_no h1 (by simp)).symm

set_option maxHeartbeats 1000000 in
theorem mayShiftB (k x y t z : Int) (al en tn : Bool) (hx : 0 ≤ x ∧ x ≤ 65536) (hy : 0 ≤ y ∧ y ≤ 65536) (h1 : ¬ t = 0) (h2 : ¬ z = 0) (hE : heB x y = true) (w : World) : Calls Tryz.prog 123 #[.agg #[.int .u8 k, .int .i64 x, .int .i64 y, .int .u8 t, .int .i64 z], .agg #[.bool al, .bool en, .bool tn, .bool false]] w fun e w' => e = .returned (.bool (mS false x y t z)) ∧ w.grownBy w' none := by
  have ht : 0 ≤ tS x y t ∧ tS x y t ≤ 65536 := by unfold tS; split <;> omega
  have hw : IntKind.i64.wrap (-(tS x y t)) = -(tS x y t) := by rw [IntKind.wrap_i64]; omega
  obtain ⟨W1, hW1, sz1, g1, B1⟩ := boxn w #[.int .u8 k, .int .i64 x, .int .i64 y, .int .u8 t, .int .i64 z] 30
  obtain ⟨W2, hW2, sz2, g2, B2⟩ := boxn W1 #[.bool al, .bool en, .bool tn, .bool false] 194
  have B1' := B1.kept g2 (by simp)
  have c1_0 := B1'.cell 0 (v := .int .u8 k) rfl
  have c1_1 := B1'.cell 1 (v := .int .i64 x) rfl
  have c1_2 := B1'.cell 2 (v := .int .i64 y) rfl
  have c1_3 := B1'.cell 3 (v := .int .u8 t) rfl
  have c1_4 := B1'.cell 4 (v := .int .i64 z) rfl
  have c2_0 := B2.cell 0 (v := .bool al) rfl
  have c2_1 := B2.cell 1 (v := .bool en) rfl
  have c2_2 := B2.cell 2 (v := .bool tn) rfl
  have c2_3 := B2.cell 3 (v := .bool false) rfl
  skip
  all_goals
    go_enter Tryz.func123, Tryz.ntmps123
    go_wp2_with (go_at_call 121; refine (endlessC _ _ _ _ _ _).mono ?_; rintro e w3 ⟨rfl, g3⟩; have B1k := B1'.kept g3 (by simp); have y0 := B1k.cell 0 (v := .int .u8 k) rfl; have y1 := B1k.cell 1 (v := .int .i64 x) rfl; have y2 := B1k.cell 2 (v := .int .i64 y) rfl; have y3 := B1k.cell 3 (v := .int .u8 t) rfl; have y4 := B1k.cell 4 (v := .int .i64 z) rfl)
    go_ret
    refine ⟨retB ?_, gb_trans (gb_trans g1 g2) g3⟩
    exact (mS_no h1 (by simp [hE])).symm

set_option maxHeartbeats 1000000 in
theorem mayShiftC' (k x y t z : Int) (al en tn : Bool) (hx : 0 ≤ x ∧ x ≤ 65536) (hy : 0 ≤ y ∧ y ≤ 65536) (h1 : ¬ t = 0) (h2 : ¬ z = 0) (hE : heB x y = false) (w : World) : Calls Tryz.prog 123 #[.agg #[.int .u8 k, .int .i64 x, .int .i64 y, .int .u8 t, .int .i64 z], .agg #[.bool al, .bool en, .bool tn, .bool false]] w fun e w' => e = .returned (.bool (mS false x y t z)) ∧ w.grownBy w' none := by
  have ht : 0 ≤ tS x y t ∧ tS x y t ≤ 65536 := by unfold tS; split <;> omega
  have hw : IntKind.i64.wrap (-(tS x y t)) = -(tS x y t) := by rw [IntKind.wrap_i64]; omega
  obtain ⟨W1, hW1, sz1, g1, B1⟩ := boxn w #[.int .u8 k, .int .i64 x, .int .i64 y, .int .u8 t, .int .i64 z] 30
  obtain ⟨W2, hW2, sz2, g2, B2⟩ := boxn W1 #[.bool al, .bool en, .bool tn, .bool false] 194
  have B1' := B1.kept g2 (by simp)
  have c1_0 := B1'.cell 0 (v := .int .u8 k) rfl
  have c1_1 := B1'.cell 1 (v := .int .i64 x) rfl
  have c1_2 := B1'.cell 2 (v := .int .i64 y) rfl
  have c1_3 := B1'.cell 3 (v := .int .u8 t) rfl
  have c1_4 := B1'.cell 4 (v := .int .i64 z) rfl
  have c2_0 := B2.cell 0 (v := .bool al) rfl
  have c2_1 := B2.cell 1 (v := .bool en) rfl
  have c2_2 := B2.cell 2 (v := .bool tn) rfl
  have c2_3 := B2.cell 3 (v := .bool false) rfl
  by_cases h3 : -(tS x y t) < z <;> by_cases h4 : z < tS x y t <;> try (exfalso; omega)
  all_goals
    go_enter Tryz.func123, Tryz.ntmps123
    go_wp2_with (first | (go_at_call 121; refine (endlessC _ _ _ _ _ _).mono ?_; rintro e w3 ⟨rfl, g3⟩; have B1k := B1'.kept g3 (by simp); have y0 := B1k.cell 0 (v := .int .u8 k) rfl; have y1 := B1k.cell 1 (v := .int .i64 x) rfl; have y2 := B1k.cell 2 (v := .int .i64 y) rfl; have y3 := B1k.cell 3 (v := .int .u8 t) rfl; have y4 := B1k.cell 4 (v := .int .i64 z) rfl) | (go_at_call 134; refine (turnedC _ _ _ _ _ _).mono ?_; rintro e w4 ⟨rfl, g4⟩; have B1m := B1k.kept g4 (by simp); have x4 := B1m.cell 4 (v := .int .i64 z) rfl))
    go_ret
    refine ⟨retB ?_, gb_trans (gb_trans g1 g2) (gb_trans g3 g4)⟩
    rw [mS_at h1 (by simp [hE, h2])]; simp [h3, h4]

set_option maxHeartbeats 1000000 in
theorem mayShiftD (k x y t z : Int) (al en tn : Bool) (hx : 0 ≤ x ∧ x ≤ 65536) (hy : 0 ≤ y ∧ y ≤ 65536) (h1 : ¬ t = 0) (w : World) : Calls Tryz.prog 123 #[.agg #[.int .u8 k, .int .i64 x, .int .i64 y, .int .u8 t, .int .i64 z], .agg #[.bool al, .bool en, .bool tn, .bool true]] w fun e w' => e = .returned (.bool (mS true x y t z)) ∧ w.grownBy w' none := by
  have ht : 0 ≤ tS x y t ∧ tS x y t ≤ 65536 := by unfold tS; split <;> omega
  have hw : IntKind.i64.wrap (-(tS x y t)) = -(tS x y t) := by rw [IntKind.wrap_i64]; omega
  obtain ⟨W1, hW1, sz1, g1, B1⟩ := boxn w #[.int .u8 k, .int .i64 x, .int .i64 y, .int .u8 t, .int .i64 z] 30
  obtain ⟨W2, hW2, sz2, g2, B2⟩ := boxn W1 #[.bool al, .bool en, .bool tn, .bool true] 194
  have B1' := B1.kept g2 (by simp)
  have c1_0 := B1'.cell 0 (v := .int .u8 k) rfl
  have c1_1 := B1'.cell 1 (v := .int .i64 x) rfl
  have c1_2 := B1'.cell 2 (v := .int .i64 y) rfl
  have c1_3 := B1'.cell 3 (v := .int .u8 t) rfl
  have c1_4 := B1'.cell 4 (v := .int .i64 z) rfl
  have c2_0 := B2.cell 0 (v := .bool al) rfl
  have c2_1 := B2.cell 1 (v := .bool en) rfl
  have c2_2 := B2.cell 2 (v := .bool tn) rfl
  have c2_3 := B2.cell 3 (v := .bool true) rfl
  by_cases h3 : -(tS x y t) < z <;> by_cases h4 : z < tS x y t <;> try (exfalso; omega)
  all_goals
    go_enter Tryz.func123, Tryz.ntmps123
    go_wp2_with (go_at_call 134; refine (turnedC _ _ _ _ _ _).mono ?_; rintro e w3 ⟨rfl, g3⟩; have B1m := B1'.kept g3 (by simp); have x4 := B1m.cell 4 (v := .int .i64 z) rfl)
    go_ret
    refine ⟨retB ?_, gb_trans (gb_trans g1 g2) g3⟩
    rw [mS_at h1 rfl]; simp [h3, h4]

theorem mayShiftC (k x y t z : Int) (al en tn fl : Bool) (hx : 0 ≤ x ∧ x ≤ 65536) (hy : 0 ≤ y ∧ y ≤ 65536) (w : World) : Calls Tryz.prog 123 #[.agg #[.int .u8 k, .int .i64 x, .int .i64 y, .int .u8 t, .int .i64 z], .agg #[.bool al, .bool en, .bool tn, .bool fl]] w fun e w' => e = .returned (.bool (mS fl x y t z)) ∧ w.grownBy w' none := by
  by_cases h1 : t = 0
  · subst h1; exact mayShift0 k x y z al en tn hx hy fl w
  · cases fl with
    | true => exact mayShiftD k x y t z al en tn hx hy h1 w
    | false =>
      by_cases h2 : z = 0
      · subst h2; exact mayShiftA k x y t al en tn hx hy h1 w
      · cases hE : heB x y with
        | true => exact mayShiftB k x y t z al en tn hx hy h1 h2 hE w
        | false => exact mayShiftC' k x y t z al en tn hx hy h1 h2 hE w

def chkB (k x y t z : Int) : Int := if k < 1 ∨ 5 < k then 40 else if isS x = false ∨ isS y = false ∨ (nA k = true ∧ (x != y) = true) then 41 else if nE k = true ∧ heB x y = true then 42 else if mT (nF k) (nT k) t = false then 44 else if mS (nF k) x y t z = false then 43 else 0
theorem isS_iff (x : Int) : isS x = true ↔ 0 ≤ x ∧ x ≤ 65536 := by unfold isS; simp
theorem isS_no (x : Int) : isS x = false ↔ ¬ (0 ≤ x ∧ x ≤ 65536) := by rw [← isS_iff]; simp
theorem heB_iff (x y : Int) : heB x y = true ↔ x = 0 ∨ y = 0 := by unfold heB; simp
theorem mT_no (k t : Int) (ht : 0 ≤ t) : mT (nF k) (nT k) t = false ↔ (2 < t ∨ (t ≠ 0 ∧ k ≠ 2 ∧ k ≠ 3) ∨ (t = 0 ∧ k = 3)) := by
  unfold mT nF nT
  by_cases h0 : t = 0
  · rw [if_pos h0]; simp [h0]
  · rw [if_neg h0]; simp; omega
theorem mS_no' (k x y t z : Int) (ht : 0 ≤ t) (h2 : t ≤ 2) (hk : t ≠ 0 → k = 2 ∨ k = 3) : mS (nF k) x y t z = false ↔ ¬ (if t = 0 then (if z = 0 then (0 : Int) else 43) else if Tp.sd x y t ≤ z ∨ z ≤ -(Tp.sd x y t) then 43 else if k = 2 ∧ (z = 0 ∨ x = 0 ∨ y = 0) then 43 else 0) = 0 := by
  unfold mS nF heB
  by_cases h0 : t = 0
  · rw [if_pos h0, if_pos h0]; by_cases hz : z = 0 <;> simp [hz]
  · rw [if_neg h0, if_neg h0]
    have hs : Tp.sd x y t = tS x y t := by
      unfold Tp.sd tS
      by_cases t1 : t = 1
      · rw [if_neg (by omega), if_pos t1]
      · rw [if_pos (by omega), if_neg t1]
    rw [hs]
    generalize tS x y t = n
    obtain h3 | h3 := hk h0
    · subst h3
      by_cases hz : z = 0 ∨ x = 0 ∨ y = 0
      · rw [if_pos (by simpa using hz)]
        by_cases hn : n ≤ z ∨ z ≤ -n
        · rw [if_pos hn]; simp
        · rw [if_neg hn, if_pos ⟨rfl, hz⟩]; simp
      · rw [if_neg (by simpa using hz)]
        by_cases hn : n ≤ z ∨ z ≤ -n
        · rw [if_pos hn]; simp; omega
        · rw [if_neg hn, if_neg (by simpa using hz)]; simp; omega
    · subst h3
      rw [if_neg (by simp)]
      by_cases hn : n ≤ z ∨ z ≤ -n
      · rw [if_pos hn]; simp; omega
      · rw [if_neg hn, if_neg (by simp)]; simp; omega
theorem chkB_eq (k x y t z : Int) (ht : 0 ≤ t) : chkB k x y t z = Tp.chk k x y t z := by
  unfold chkB Tp.chk
  by_cases h1 : k < 1 ∨ 5 < k
  · rw [if_pos h1, if_pos h1]
  rw [if_neg h1, if_neg h1]
  by_cases h2 : x < 0 ∨ 65536 < x ∨ y < 0 ∨ 65536 < y ∨ (k = 5 ∧ x ≠ y)
  · rw [if_pos h2, if_pos]
    rw [isS_no, isS_no]; simp [nA]; omega
  rw [if_neg h2, if_neg (by rw [isS_no, isS_no]; simp [nA]; omega)]
  by_cases h3 : 3 ≤ k ∧ (x = 0 ∨ y = 0)
  · rw [if_pos h3, if_pos]
    rw [heB_iff]; simp [nE]; omega
  rw [if_neg h3, if_neg (by rw [heB_iff]; simp [nE]; omega)]
  by_cases h4 : 2 < t ∨ (t ≠ 0 ∧ k ≠ 2 ∧ k ≠ 3) ∨ (t = 0 ∧ k = 3)
  · rw [if_pos h4, if_pos ((mT_no k t ht).2 h4)]
  rw [if_neg h4, if_neg (fun h => h4 ((mT_no k t ht).1 h))]
  have hm := mS_no' k x y t z ht (by omega) (by omega)
  by_cases h5 : mS (nF k) x y t z = false
  · have := hm.1 h5
    rw [if_pos h5]
    revert this
    repeat' split
    all_goals simp
  · have := fun h => h5 (hm.2 h)
    rw [if_neg h5]
    exact (Classical.not_not.1 this).symm

set_option maxHeartbeats 1000000 in
theorem check1 (k x y t z : Int) (h1 : k < 1) (w : World) : Calls Tryz.prog 109 #[.agg #[.int .u8 k, .int .i64 x, .int .i64 y, .int .u8 t, .int .i64 z]] w fun e w' => e = .returned (.int .i64 (chkB k x y t z)) ∧ w.grownBy w' none := by
  have HE : Hid (40 = chkB k x y t z) := by
    unfold Hid chkB
    rw [if_pos (Or.inl h1)]
  obtain ⟨W1, hW1, sz1, g1, B1⟩ := boxn w #[.int .u8 k, .int .i64 x, .int .i64 y, .int .u8 t, .int .i64 z] 30
  have c1_0 := B1.cell 0 (v := .int .u8 k) rfl
  have c1_1 := B1.cell 1 (v := .int .i64 x) rfl
  have c1_2 := B1.cell 2 (v := .int .i64 y) rfl
  have c1_3 := B1.cell 3 (v := .int .u8 t) rfl
  have c1_4 := B1.cell 4 (v := .int .i64 z) rfl
  go_enter Tryz.func109, Tryz.ntmps109
  go_wp2_with (first | (go_at_call 119; refine (natureC _ _).mono ?_; rintro e w2 ⟨rfl, G2⟩; obtain ⟨W3, hW3, sz3, G3, BN3⟩ := boxn w2 #[.bool (nA k), .bool (nE k), .bool (nT k), .bool (nF k)] 194; have BT3 := (B1.kept G2 (by simp)).kept G3 (by simp); have ct3_0 := BT3.cell 0 (v := .int .u8 k) rfl; have ct3_1 := BT3.cell 1 (v := .int .i64 x) rfl; have ct3_2 := BT3.cell 2 (v := .int .i64 y) rfl; have ct3_3 := BT3.cell 3 (v := .int .u8 t) rfl; have ct3_4 := BT3.cell 4 (v := .int .i64 z) rfl; have cn3_0 := BN3.cell 0 (v := .bool (nA k)) rfl; have cn3_1 := BN3.cell 1 (v := .bool (nE k)) rfl; have cn3_2 := BN3.cell 2 (v := .bool (nT k)) rfl; have cn3_3 := BN3.cell 3 (v := .bool (nF k)) rfl))
  go_ret
  exact ⟨retI HE.out, (gb_trans (gb_trans g1 G2) G3)⟩

set_option maxHeartbeats 1000000 in
theorem check2 (k x y t z : Int) (h1 : ¬ k < 1) (h2 : 5 < k) (w : World) : Calls Tryz.prog 109 #[.agg #[.int .u8 k, .int .i64 x, .int .i64 y, .int .u8 t, .int .i64 z]] w fun e w' => e = .returned (.int .i64 (chkB k x y t z)) ∧ w.grownBy w' none := by
  have HE : Hid (40 = chkB k x y t z) := by
    unfold Hid chkB
    rw [if_pos (Or.inr h2)]
  obtain ⟨W1, hW1, sz1, g1, B1⟩ := boxn w #[.int .u8 k, .int .i64 x, .int .i64 y, .int .u8 t, .int .i64 z] 30
  have c1_0 := B1.cell 0 (v := .int .u8 k) rfl
  have c1_1 := B1.cell 1 (v := .int .i64 x) rfl
  have c1_2 := B1.cell 2 (v := .int .i64 y) rfl
  have c1_3 := B1.cell 3 (v := .int .u8 t) rfl
  have c1_4 := B1.cell 4 (v := .int .i64 z) rfl
  go_enter Tryz.func109, Tryz.ntmps109
  go_wp2_with (first | (go_at_call 119; refine (natureC _ _).mono ?_; rintro e w2 ⟨rfl, G2⟩; obtain ⟨W3, hW3, sz3, G3, BN3⟩ := boxn w2 #[.bool (nA k), .bool (nE k), .bool (nT k), .bool (nF k)] 194; have BT3 := (B1.kept G2 (by simp)).kept G3 (by simp); have ct3_0 := BT3.cell 0 (v := .int .u8 k) rfl; have ct3_1 := BT3.cell 1 (v := .int .i64 x) rfl; have ct3_2 := BT3.cell 2 (v := .int .i64 y) rfl; have ct3_3 := BT3.cell 3 (v := .int .u8 t) rfl; have ct3_4 := BT3.cell 4 (v := .int .i64 z) rfl; have cn3_0 := BN3.cell 0 (v := .bool (nA k)) rfl; have cn3_1 := BN3.cell 1 (v := .bool (nE k)) rfl; have cn3_2 := BN3.cell 2 (v := .bool (nT k)) rfl; have cn3_3 := BN3.cell 3 (v := .bool (nF k)) rfl))
  go_ret
  exact ⟨retI HE.out, (gb_trans (gb_trans g1 G2) G3)⟩

set_option maxHeartbeats 1000000 in
theorem check3 (k x y t z : Int) (h1 : ¬ k < 1) (h2 : ¬ 5 < k) (h3 : isS x = false) (w : World) : Calls Tryz.prog 109 #[.agg #[.int .u8 k, .int .i64 x, .int .i64 y, .int .u8 t, .int .i64 z]] w fun e w' => e = .returned (.int .i64 (chkB k x y t z)) ∧ w.grownBy w' none := by
  have HE : Hid (41 = chkB k x y t z) := by
    unfold Hid chkB
    rw [if_neg (by omega), if_pos (Or.inl h3)]
  obtain ⟨W1, hW1, sz1, g1, B1⟩ := boxn w #[.int .u8 k, .int .i64 x, .int .i64 y, .int .u8 t, .int .i64 z] 30
  have c1_0 := B1.cell 0 (v := .int .u8 k) rfl
  have c1_1 := B1.cell 1 (v := .int .i64 x) rfl
  have c1_2 := B1.cell 2 (v := .int .i64 y) rfl
  have c1_3 := B1.cell 3 (v := .int .u8 t) rfl
  have c1_4 := B1.cell 4 (v := .int .i64 z) rfl
  go_enter Tryz.func109, Tryz.ntmps109
  go_wp2_with (first | (go_at_call 119; refine (natureC _ _).mono ?_; rintro e w2 ⟨rfl, G2⟩; obtain ⟨W3, hW3, sz3, G3, BN3⟩ := boxn w2 #[.bool (nA k), .bool (nE k), .bool (nT k), .bool (nF k)] 194; have BT3 := (B1.kept G2 (by simp)).kept G3 (by simp); have ct3_0 := BT3.cell 0 (v := .int .u8 k) rfl; have ct3_1 := BT3.cell 1 (v := .int .i64 x) rfl; have ct3_2 := BT3.cell 2 (v := .int .i64 y) rfl; have ct3_3 := BT3.cell 3 (v := .int .u8 t) rfl; have ct3_4 := BT3.cell 4 (v := .int .i64 z) rfl; have cn3_0 := BN3.cell 0 (v := .bool (nA k)) rfl; have cn3_1 := BN3.cell 1 (v := .bool (nE k)) rfl; have cn3_2 := BN3.cell 2 (v := .bool (nT k)) rfl; have cn3_3 := BN3.cell 3 (v := .bool (nF k)) rfl) | (go_at_call 120; refine (isSideC _ _).mono ?_; rintro e w' ⟨rfl, rfl⟩))
  go_ret
  exact ⟨retI HE.out, (gb_trans (gb_trans g1 G2) G3)⟩

set_option maxHeartbeats 1000000 in
theorem check4 (k x y t z : Int) (h1 : ¬ k < 1) (h2 : ¬ 5 < k) (h3 : isS x = true) (h4 : isS y = false) (w : World) : Calls Tryz.prog 109 #[.agg #[.int .u8 k, .int .i64 x, .int .i64 y, .int .u8 t, .int .i64 z]] w fun e w' => e = .returned (.int .i64 (chkB k x y t z)) ∧ w.grownBy w' none := by
  have HE : Hid (41 = chkB k x y t z) := by
    unfold Hid chkB
    rw [if_neg (by omega), if_pos (Or.inr (Or.inl h4))]
  obtain ⟨W1, hW1, sz1, g1, B1⟩ := boxn w #[.int .u8 k, .int .i64 x, .int .i64 y, .int .u8 t, .int .i64 z] 30
  have c1_0 := B1.cell 0 (v := .int .u8 k) rfl
  have c1_1 := B1.cell 1 (v := .int .i64 x) rfl
  have c1_2 := B1.cell 2 (v := .int .i64 y) rfl
  have c1_3 := B1.cell 3 (v := .int .u8 t) rfl
  have c1_4 := B1.cell 4 (v := .int .i64 z) rfl
  go_enter Tryz.func109, Tryz.ntmps109
  go_wp2_with (first | (go_at_call 119; refine (natureC _ _).mono ?_; rintro e w2 ⟨rfl, G2⟩; obtain ⟨W3, hW3, sz3, G3, BN3⟩ := boxn w2 #[.bool (nA k), .bool (nE k), .bool (nT k), .bool (nF k)] 194; have BT3 := (B1.kept G2 (by simp)).kept G3 (by simp); have ct3_0 := BT3.cell 0 (v := .int .u8 k) rfl; have ct3_1 := BT3.cell 1 (v := .int .i64 x) rfl; have ct3_2 := BT3.cell 2 (v := .int .i64 y) rfl; have ct3_3 := BT3.cell 3 (v := .int .u8 t) rfl; have ct3_4 := BT3.cell 4 (v := .int .i64 z) rfl; have cn3_0 := BN3.cell 0 (v := .bool (nA k)) rfl; have cn3_1 := BN3.cell 1 (v := .bool (nE k)) rfl; have cn3_2 := BN3.cell 2 (v := .bool (nT k)) rfl; have cn3_3 := BN3.cell 3 (v := .bool (nF k)) rfl) | (go_at_call 120; refine (isSideC _ _).mono ?_; rintro e w' ⟨rfl, rfl⟩))
  go_ret
  exact ⟨retI HE.out, (gb_trans (gb_trans g1 G2) G3)⟩

set_option maxHeartbeats 1000000 in
theorem check5 (k x y t z : Int) (h1 : ¬ k < 1) (h2 : ¬ 5 < k) (h3 : isS x = true) (h4 : isS y = true) (h5 : nA k = true) (h6 : (x != y) = true) (w : World) : Calls Tryz.prog 109 #[.agg #[.int .u8 k, .int .i64 x, .int .i64 y, .int .u8 t, .int .i64 z]] w fun e w' => e = .returned (.int .i64 (chkB k x y t z)) ∧ w.grownBy w' none := by
  have HE : Hid (41 = chkB k x y t z) := by
    unfold Hid chkB
    rw [if_neg (by omega), if_pos (Or.inr (Or.inr ⟨h5, h6⟩))]
  obtain ⟨W1, hW1, sz1, g1, B1⟩ := boxn w #[.int .u8 k, .int .i64 x, .int .i64 y, .int .u8 t, .int .i64 z] 30
  have c1_0 := B1.cell 0 (v := .int .u8 k) rfl
  have c1_1 := B1.cell 1 (v := .int .i64 x) rfl
  have c1_2 := B1.cell 2 (v := .int .i64 y) rfl
  have c1_3 := B1.cell 3 (v := .int .u8 t) rfl
  have c1_4 := B1.cell 4 (v := .int .i64 z) rfl
  go_enter Tryz.func109, Tryz.ntmps109
  go_wp2_with (first | (go_at_call 119; refine (natureC _ _).mono ?_; rintro e w2 ⟨rfl, G2⟩; obtain ⟨W3, hW3, sz3, G3, BN3⟩ := boxn w2 #[.bool true, .bool (nE k), .bool (nT k), .bool (nF k)] 194; have BT3 := (B1.kept G2 (by simp)).kept G3 (by simp); have ct3_0 := BT3.cell 0 (v := .int .u8 k) rfl; have ct3_1 := BT3.cell 1 (v := .int .i64 x) rfl; have ct3_2 := BT3.cell 2 (v := .int .i64 y) rfl; have ct3_3 := BT3.cell 3 (v := .int .u8 t) rfl; have ct3_4 := BT3.cell 4 (v := .int .i64 z) rfl; have cn3_0 := BN3.cell 0 (v := .bool true) rfl; have cn3_1 := BN3.cell 1 (v := .bool (nE k)) rfl; have cn3_2 := BN3.cell 2 (v := .bool (nT k)) rfl; have cn3_3 := BN3.cell 3 (v := .bool (nF k)) rfl) | (go_at_call 120; refine (isSideC _ _).mono ?_; rintro e w' ⟨rfl, rfl⟩))
  go_ret
  exact ⟨retI HE.out, (gb_trans (gb_trans g1 G2) G3)⟩

set_option maxHeartbeats 1000000 in
theorem check6a (k x y t z : Int) (h1 : ¬ k < 1) (h2 : ¬ 5 < k) (h3 : isS x = true) (h4 : isS y = true) (h5 : nA k = true) (h6 : (x != y) = false) (h7 : nE k = true) (h8 : heB x y = true) (w : World) : Calls Tryz.prog 109 #[.agg #[.int .u8 k, .int .i64 x, .int .i64 y, .int .u8 t, .int .i64 z]] w fun e w' => e = .returned (.int .i64 (chkB k x y t z)) ∧ w.grownBy w' none := by
  have HE : Hid (42 = chkB k x y t z) := by
    unfold Hid chkB
    rw [if_neg (by omega), if_neg (by simp [h3, h4, h5, h6]), if_pos ⟨h7, h8⟩]
  obtain ⟨W1, hW1, sz1, g1, B1⟩ := boxn w #[.int .u8 k, .int .i64 x, .int .i64 y, .int .u8 t, .int .i64 z] 30
  have c1_0 := B1.cell 0 (v := .int .u8 k) rfl
  have c1_1 := B1.cell 1 (v := .int .i64 x) rfl
  have c1_2 := B1.cell 2 (v := .int .i64 y) rfl
  have c1_3 := B1.cell 3 (v := .int .u8 t) rfl
  have c1_4 := B1.cell 4 (v := .int .i64 z) rfl
  go_enter Tryz.func109, Tryz.ntmps109
  go_wp2_with (first | (go_at_call 119; refine (natureC _ _).mono ?_; rintro e w2 ⟨rfl, G2⟩; obtain ⟨W3, hW3, sz3, G3, BN3⟩ := boxn w2 #[.bool true, .bool true, .bool (nT k), .bool (nF k)] 194; have BT3 := (B1.kept G2 (by simp)).kept G3 (by simp); have ct3_0 := BT3.cell 0 (v := .int .u8 k) rfl; have ct3_1 := BT3.cell 1 (v := .int .i64 x) rfl; have ct3_2 := BT3.cell 2 (v := .int .i64 y) rfl; have ct3_3 := BT3.cell 3 (v := .int .u8 t) rfl; have ct3_4 := BT3.cell 4 (v := .int .i64 z) rfl; have cn3_0 := BN3.cell 0 (v := .bool true) rfl; have cn3_1 := BN3.cell 1 (v := .bool true) rfl; have cn3_2 := BN3.cell 2 (v := .bool (nT k)) rfl; have cn3_3 := BN3.cell 3 (v := .bool (nF k)) rfl) | (go_at_call 120; refine (isSideC _ _).mono ?_; rintro e w' ⟨rfl, rfl⟩) | (go_at_call 121; refine (endlessC _ _ _ _ _ _).mono ?_; rintro e w4 ⟨rfl, G4⟩; have BT4 := BT3.kept G4 (by simp); have BN4 := BN3.kept G4 (by simp); have ct4_0 := BT4.cell 0 (v := .int .u8 k) rfl; have ct4_1 := BT4.cell 1 (v := .int .i64 x) rfl; have ct4_2 := BT4.cell 2 (v := .int .i64 y) rfl; have ct4_3 := BT4.cell 3 (v := .int .u8 t) rfl; have ct4_4 := BT4.cell 4 (v := .int .i64 z) rfl; have cn4_0 := BN4.cell 0 (v := .bool true) rfl; have cn4_1 := BN4.cell 1 (v := .bool true) rfl; have cn4_2 := BN4.cell 2 (v := .bool (nT k)) rfl; have cn4_3 := BN4.cell 3 (v := .bool (nF k)) rfl))
  go_ret
  exact ⟨retI HE.out, (gb_trans (gb_trans (gb_trans g1 G2) G3) G4)⟩

set_option maxHeartbeats 1000000 in
theorem check7aa (k x y t z : Int) (h1 : ¬ k < 1) (h2 : ¬ 5 < k) (h3 : isS x = true) (h4 : isS y = true) (h5 : nA k = true) (h6 : (x != y) = false) (h7 : nE k = true) (h8 : heB x y = false) (h9 : mT (nF k) (nT k) t = false) (w : World) : Calls Tryz.prog 109 #[.agg #[.int .u8 k, .int .i64 x, .int .i64 y, .int .u8 t, .int .i64 z]] w fun e w' => e = .returned (.int .i64 (chkB k x y t z)) ∧ w.grownBy w' none := by
  have HE : Hid (44 = chkB k x y t z) := by
    unfold Hid chkB
    rw [if_neg (by omega), if_neg (by simp [h3, h4, h5, h6]), if_neg (by simp [h7, h8]), if_pos h9]
  obtain ⟨W1, hW1, sz1, g1, B1⟩ := boxn w #[.int .u8 k, .int .i64 x, .int .i64 y, .int .u8 t, .int .i64 z] 30
  have c1_0 := B1.cell 0 (v := .int .u8 k) rfl
  have c1_1 := B1.cell 1 (v := .int .i64 x) rfl
  have c1_2 := B1.cell 2 (v := .int .i64 y) rfl
  have c1_3 := B1.cell 3 (v := .int .u8 t) rfl
  have c1_4 := B1.cell 4 (v := .int .i64 z) rfl
  go_enter Tryz.func109, Tryz.ntmps109
  go_wp2_with (first | (go_at_call 119; refine (natureC _ _).mono ?_; rintro e w2 ⟨rfl, G2⟩; obtain ⟨W3, hW3, sz3, G3, BN3⟩ := boxn w2 #[.bool true, .bool true, .bool (nT k), .bool (nF k)] 194; have BT3 := (B1.kept G2 (by simp)).kept G3 (by simp); have ct3_0 := BT3.cell 0 (v := .int .u8 k) rfl; have ct3_1 := BT3.cell 1 (v := .int .i64 x) rfl; have ct3_2 := BT3.cell 2 (v := .int .i64 y) rfl; have ct3_3 := BT3.cell 3 (v := .int .u8 t) rfl; have ct3_4 := BT3.cell 4 (v := .int .i64 z) rfl; have cn3_0 := BN3.cell 0 (v := .bool true) rfl; have cn3_1 := BN3.cell 1 (v := .bool true) rfl; have cn3_2 := BN3.cell 2 (v := .bool (nT k)) rfl; have cn3_3 := BN3.cell 3 (v := .bool (nF k)) rfl) | (go_at_call 120; refine (isSideC _ _).mono ?_; rintro e w' ⟨rfl, rfl⟩) | (go_at_call 121; refine (endlessC _ _ _ _ _ _).mono ?_; rintro e w4 ⟨rfl, G4⟩; have BT4 := BT3.kept G4 (by simp); have BN4 := BN3.kept G4 (by simp); have ct4_0 := BT4.cell 0 (v := .int .u8 k) rfl; have ct4_1 := BT4.cell 1 (v := .int .i64 x) rfl; have ct4_2 := BT4.cell 2 (v := .int .i64 y) rfl; have ct4_3 := BT4.cell 3 (v := .int .u8 t) rfl; have ct4_4 := BT4.cell 4 (v := .int .i64 z) rfl; have cn4_0 := BN4.cell 0 (v := .bool true) rfl; have cn4_1 := BN4.cell 1 (v := .bool true) rfl; have cn4_2 := BN4.cell 2 (v := .bool (nT k)) rfl; have cn4_3 := BN4.cell 3 (v := .bool (nF k)) rfl) | (go_at_call 122; refine (mayTurnC _ _ _ _ _ _ _ _ _ _).mono ?_; rintro e w5 ⟨rfl, G5⟩; have BT5 := BT4.kept G5 (by simp); have BN5 := BN4.kept G5 (by simp); have ct5_0 := BT5.cell 0 (v := .int .u8 k) rfl; have ct5_1 := BT5.cell 1 (v := .int .i64 x) rfl; have ct5_2 := BT5.cell 2 (v := .int .i64 y) rfl; have ct5_3 := BT5.cell 3 (v := .int .u8 t) rfl; have ct5_4 := BT5.cell 4 (v := .int .i64 z) rfl; have cn5_0 := BN5.cell 0 (v := .bool true) rfl; have cn5_1 := BN5.cell 1 (v := .bool true) rfl; have cn5_2 := BN5.cell 2 (v := .bool (nT k)) rfl; have cn5_3 := BN5.cell 3 (v := .bool (nF k)) rfl))
  go_ret
  exact ⟨retI HE.out, (gb_trans (gb_trans (gb_trans (gb_trans g1 G2) G3) G4) G5)⟩

set_option maxHeartbeats 1000000 in
theorem check8aa (k x y t z : Int) (h1 : ¬ k < 1) (h2 : ¬ 5 < k) (h3 : isS x = true) (h4 : isS y = true) (h5 : nA k = true) (h6 : (x != y) = false) (h7 : nE k = true) (h8 : heB x y = false) (h9 : mT (nF k) (nT k) t = true) (hx : 0 ≤ x ∧ x ≤ 65536) (hy : 0 ≤ y ∧ y ≤ 65536) (ha : mS (nF k) x y t z = false) (w : World) : Calls Tryz.prog 109 #[.agg #[.int .u8 k, .int .i64 x, .int .i64 y, .int .u8 t, .int .i64 z]] w fun e w' => e = .returned (.int .i64 (chkB k x y t z)) ∧ w.grownBy w' none := by
  have HE : Hid (43 = chkB k x y t z) := by
    unfold Hid chkB
    rw [if_neg (by omega), if_neg (by simp [h3, h4, h5, h6]), if_neg (by simp [h7, h8]), if_neg (by simp [h9]), if_pos ha]
  obtain ⟨W1, hW1, sz1, g1, B1⟩ := boxn w #[.int .u8 k, .int .i64 x, .int .i64 y, .int .u8 t, .int .i64 z] 30
  have c1_0 := B1.cell 0 (v := .int .u8 k) rfl
  have c1_1 := B1.cell 1 (v := .int .i64 x) rfl
  have c1_2 := B1.cell 2 (v := .int .i64 y) rfl
  have c1_3 := B1.cell 3 (v := .int .u8 t) rfl
  have c1_4 := B1.cell 4 (v := .int .i64 z) rfl
  go_enter Tryz.func109, Tryz.ntmps109
  go_wp2_with (first | (go_at_call 119; refine (natureC _ _).mono ?_; rintro e w2 ⟨rfl, G2⟩; obtain ⟨W3, hW3, sz3, G3, BN3⟩ := boxn w2 #[.bool true, .bool true, .bool (nT k), .bool (nF k)] 194; have BT3 := (B1.kept G2 (by simp)).kept G3 (by simp); have ct3_0 := BT3.cell 0 (v := .int .u8 k) rfl; have ct3_1 := BT3.cell 1 (v := .int .i64 x) rfl; have ct3_2 := BT3.cell 2 (v := .int .i64 y) rfl; have ct3_3 := BT3.cell 3 (v := .int .u8 t) rfl; have ct3_4 := BT3.cell 4 (v := .int .i64 z) rfl; have cn3_0 := BN3.cell 0 (v := .bool true) rfl; have cn3_1 := BN3.cell 1 (v := .bool true) rfl; have cn3_2 := BN3.cell 2 (v := .bool (nT k)) rfl; have cn3_3 := BN3.cell 3 (v := .bool (nF k)) rfl) | (go_at_call 120; refine (isSideC _ _).mono ?_; rintro e w' ⟨rfl, rfl⟩) | (go_at_call 121; refine (endlessC _ _ _ _ _ _).mono ?_; rintro e w4 ⟨rfl, G4⟩; have BT4 := BT3.kept G4 (by simp); have BN4 := BN3.kept G4 (by simp); have ct4_0 := BT4.cell 0 (v := .int .u8 k) rfl; have ct4_1 := BT4.cell 1 (v := .int .i64 x) rfl; have ct4_2 := BT4.cell 2 (v := .int .i64 y) rfl; have ct4_3 := BT4.cell 3 (v := .int .u8 t) rfl; have ct4_4 := BT4.cell 4 (v := .int .i64 z) rfl; have cn4_0 := BN4.cell 0 (v := .bool true) rfl; have cn4_1 := BN4.cell 1 (v := .bool true) rfl; have cn4_2 := BN4.cell 2 (v := .bool (nT k)) rfl; have cn4_3 := BN4.cell 3 (v := .bool (nF k)) rfl) | (go_at_call 122; refine (mayTurnC _ _ _ _ _ _ _ _ _ _).mono ?_; rintro e w5 ⟨rfl, G5⟩; have BT5 := BT4.kept G5 (by simp); have BN5 := BN4.kept G5 (by simp); have ct5_0 := BT5.cell 0 (v := .int .u8 k) rfl; have ct5_1 := BT5.cell 1 (v := .int .i64 x) rfl; have ct5_2 := BT5.cell 2 (v := .int .i64 y) rfl; have ct5_3 := BT5.cell 3 (v := .int .u8 t) rfl; have ct5_4 := BT5.cell 4 (v := .int .i64 z) rfl; have cn5_0 := BN5.cell 0 (v := .bool true) rfl; have cn5_1 := BN5.cell 1 (v := .bool true) rfl; have cn5_2 := BN5.cell 2 (v := .bool (nT k)) rfl; have cn5_3 := BN5.cell 3 (v := .bool (nF k)) rfl) | (go_at_call 123; refine (mayShiftC _ _ _ _ _ _ _ _ _ hx hy _).mono ?_; rintro e w6 ⟨rfl, G6⟩))
  go_ret
  exact ⟨retI HE.out, (gb_trans (gb_trans (gb_trans (gb_trans (gb_trans g1 G2) G3) G4) G5) G6)⟩

set_option maxHeartbeats 1000000 in
theorem check9aa (k x y t z : Int) (h1 : ¬ k < 1) (h2 : ¬ 5 < k) (h3 : isS x = true) (h4 : isS y = true) (h5 : nA k = true) (h6 : (x != y) = false) (h7 : nE k = true) (h8 : heB x y = false) (h9 : mT (nF k) (nT k) t = true) (hx : 0 ≤ x ∧ x ≤ 65536) (hy : 0 ≤ y ∧ y ≤ 65536) (ha : mS (nF k) x y t z = true) (w : World) : Calls Tryz.prog 109 #[.agg #[.int .u8 k, .int .i64 x, .int .i64 y, .int .u8 t, .int .i64 z]] w fun e w' => e = .returned (.int .i64 (chkB k x y t z)) ∧ w.grownBy w' none := by
  have HE : Hid (0 = chkB k x y t z) := by
    unfold Hid chkB
    rw [if_neg (by omega), if_neg (by simp [h3, h4, h5, h6]), if_neg (by simp [h7, h8]), if_neg (by simp [h9]), if_neg (by simp [ha])]
  obtain ⟨W1, hW1, sz1, g1, B1⟩ := boxn w #[.int .u8 k, .int .i64 x, .int .i64 y, .int .u8 t, .int .i64 z] 30
  have c1_0 := B1.cell 0 (v := .int .u8 k) rfl
  have c1_1 := B1.cell 1 (v := .int .i64 x) rfl
  have c1_2 := B1.cell 2 (v := .int .i64 y) rfl
  have c1_3 := B1.cell 3 (v := .int .u8 t) rfl
  have c1_4 := B1.cell 4 (v := .int .i64 z) rfl
  go_enter Tryz.func109, Tryz.ntmps109
  go_wp2_with (first | (go_at_call 119; refine (natureC _ _).mono ?_; rintro e w2 ⟨rfl, G2⟩; obtain ⟨W3, hW3, sz3, G3, BN3⟩ := boxn w2 #[.bool true, .bool true, .bool (nT k), .bool (nF k)] 194; have BT3 := (B1.kept G2 (by simp)).kept G3 (by simp); have ct3_0 := BT3.cell 0 (v := .int .u8 k) rfl; have ct3_1 := BT3.cell 1 (v := .int .i64 x) rfl; have ct3_2 := BT3.cell 2 (v := .int .i64 y) rfl; have ct3_3 := BT3.cell 3 (v := .int .u8 t) rfl; have ct3_4 := BT3.cell 4 (v := .int .i64 z) rfl; have cn3_0 := BN3.cell 0 (v := .bool true) rfl; have cn3_1 := BN3.cell 1 (v := .bool true) rfl; have cn3_2 := BN3.cell 2 (v := .bool (nT k)) rfl; have cn3_3 := BN3.cell 3 (v := .bool (nF k)) rfl) | (go_at_call 120; refine (isSideC _ _).mono ?_; rintro e w' ⟨rfl, rfl⟩) | (go_at_call 121; refine (endlessC _ _ _ _ _ _).mono ?_; rintro e w4 ⟨rfl, G4⟩; have BT4 := BT3.kept G4 (by simp); have BN4 := BN3.kept G4 (by simp); have ct4_0 := BT4.cell 0 (v := .int .u8 k) rfl; have ct4_1 := BT4.cell 1 (v := .int .i64 x) rfl; have ct4_2 := BT4.cell 2 (v := .int .i64 y) rfl; have ct4_3 := BT4.cell 3 (v := .int .u8 t) rfl; have ct4_4 := BT4.cell 4 (v := .int .i64 z) rfl; have cn4_0 := BN4.cell 0 (v := .bool true) rfl; have cn4_1 := BN4.cell 1 (v := .bool true) rfl; have cn4_2 := BN4.cell 2 (v := .bool (nT k)) rfl; have cn4_3 := BN4.cell 3 (v := .bool (nF k)) rfl) | (go_at_call 122; refine (mayTurnC _ _ _ _ _ _ _ _ _ _).mono ?_; rintro e w5 ⟨rfl, G5⟩; have BT5 := BT4.kept G5 (by simp); have BN5 := BN4.kept G5 (by simp); have ct5_0 := BT5.cell 0 (v := .int .u8 k) rfl; have ct5_1 := BT5.cell 1 (v := .int .i64 x) rfl; have ct5_2 := BT5.cell 2 (v := .int .i64 y) rfl; have ct5_3 := BT5.cell 3 (v := .int .u8 t) rfl; have ct5_4 := BT5.cell 4 (v := .int .i64 z) rfl; have cn5_0 := BN5.cell 0 (v := .bool true) rfl; have cn5_1 := BN5.cell 1 (v := .bool true) rfl; have cn5_2 := BN5.cell 2 (v := .bool (nT k)) rfl; have cn5_3 := BN5.cell 3 (v := .bool (nF k)) rfl) | (go_at_call 123; refine (mayShiftC _ _ _ _ _ _ _ _ _ hx hy _).mono ?_; rintro e w6 ⟨rfl, G6⟩))
  go_ret
  exact ⟨retI HE.out, (gb_trans (gb_trans (gb_trans (gb_trans (gb_trans g1 G2) G3) G4) G5) G6)⟩

set_option maxHeartbeats 1000000 in
theorem check7ab (k x y t z : Int) (h1 : ¬ k < 1) (h2 : ¬ 5 < k) (h3 : isS x = true) (h4 : isS y = true) (h5 : nA k = true) (h6 : (x != y) = false) (h7 : nE k = false) (h9 : mT (nF k) (nT k) t = false) (w : World) : Calls Tryz.prog 109 #[.agg #[.int .u8 k, .int .i64 x, .int .i64 y, .int .u8 t, .int .i64 z]] w fun e w' => e = .returned (.int .i64 (chkB k x y t z)) ∧ w.grownBy w' none := by
  have HE : Hid (44 = chkB k x y t z) := by
    unfold Hid chkB
    rw [if_neg (by omega), if_neg (by simp [h3, h4, h5, h6]), if_neg (by simp [h7]), if_pos h9]
  obtain ⟨W1, hW1, sz1, g1, B1⟩ := boxn w #[.int .u8 k, .int .i64 x, .int .i64 y, .int .u8 t, .int .i64 z] 30
  have c1_0 := B1.cell 0 (v := .int .u8 k) rfl
  have c1_1 := B1.cell 1 (v := .int .i64 x) rfl
  have c1_2 := B1.cell 2 (v := .int .i64 y) rfl
  have c1_3 := B1.cell 3 (v := .int .u8 t) rfl
  have c1_4 := B1.cell 4 (v := .int .i64 z) rfl
  go_enter Tryz.func109, Tryz.ntmps109
  go_wp2_with (first | (go_at_call 119; refine (natureC _ _).mono ?_; rintro e w2 ⟨rfl, G2⟩; obtain ⟨W3, hW3, sz3, G3, BN3⟩ := boxn w2 #[.bool true, .bool false, .bool (nT k), .bool (nF k)] 194; have BT3 := (B1.kept G2 (by simp)).kept G3 (by simp); have ct3_0 := BT3.cell 0 (v := .int .u8 k) rfl; have ct3_1 := BT3.cell 1 (v := .int .i64 x) rfl; have ct3_2 := BT3.cell 2 (v := .int .i64 y) rfl; have ct3_3 := BT3.cell 3 (v := .int .u8 t) rfl; have ct3_4 := BT3.cell 4 (v := .int .i64 z) rfl; have cn3_0 := BN3.cell 0 (v := .bool true) rfl; have cn3_1 := BN3.cell 1 (v := .bool false) rfl; have cn3_2 := BN3.cell 2 (v := .bool (nT k)) rfl; have cn3_3 := BN3.cell 3 (v := .bool (nF k)) rfl) | (go_at_call 120; refine (isSideC _ _).mono ?_; rintro e w' ⟨rfl, rfl⟩) | (go_at_call 122; refine (mayTurnC _ _ _ _ _ _ _ _ _ _).mono ?_; rintro e w5 ⟨rfl, G5⟩; have BT5 := BT3.kept G5 (by simp); have BN5 := BN3.kept G5 (by simp); have ct5_0 := BT5.cell 0 (v := .int .u8 k) rfl; have ct5_1 := BT5.cell 1 (v := .int .i64 x) rfl; have ct5_2 := BT5.cell 2 (v := .int .i64 y) rfl; have ct5_3 := BT5.cell 3 (v := .int .u8 t) rfl; have ct5_4 := BT5.cell 4 (v := .int .i64 z) rfl; have cn5_0 := BN5.cell 0 (v := .bool true) rfl; have cn5_1 := BN5.cell 1 (v := .bool false) rfl; have cn5_2 := BN5.cell 2 (v := .bool (nT k)) rfl; have cn5_3 := BN5.cell 3 (v := .bool (nF k)) rfl))
  go_ret
  exact ⟨retI HE.out, (gb_trans (gb_trans (gb_trans g1 G2) G3) G5)⟩

set_option maxHeartbeats 1000000 in
theorem check8ab (k x y t z : Int) (h1 : ¬ k < 1) (h2 : ¬ 5 < k) (h3 : isS x = true) (h4 : isS y = true) (h5 : nA k = true) (h6 : (x != y) = false) (h7 : nE k = false) (h9 : mT (nF k) (nT k) t = true) (hx : 0 ≤ x ∧ x ≤ 65536) (hy : 0 ≤ y ∧ y ≤ 65536) (ha : mS (nF k) x y t z = false) (w : World) : Calls Tryz.prog 109 #[.agg #[.int .u8 k, .int .i64 x, .int .i64 y, .int .u8 t, .int .i64 z]] w fun e w' => e = .returned (.int .i64 (chkB k x y t z)) ∧ w.grownBy w' none := by
  have HE : Hid (43 = chkB k x y t z) := by
    unfold Hid chkB
    rw [if_neg (by omega), if_neg (by simp [h3, h4, h5, h6]), if_neg (by simp [h7]), if_neg (by simp [h9]), if_pos ha]
  obtain ⟨W1, hW1, sz1, g1, B1⟩ := boxn w #[.int .u8 k, .int .i64 x, .int .i64 y, .int .u8 t, .int .i64 z] 30
  have c1_0 := B1.cell 0 (v := .int .u8 k) rfl
  have c1_1 := B1.cell 1 (v := .int .i64 x) rfl
  have c1_2 := B1.cell 2 (v := .int .i64 y) rfl
  have c1_3 := B1.cell 3 (v := .int .u8 t) rfl
  have c1_4 := B1.cell 4 (v := .int .i64 z) rfl
  go_enter Tryz.func109, Tryz.ntmps109
  go_wp2_with (first | (go_at_call 119; refine (natureC _ _).mono ?_; rintro e w2 ⟨rfl, G2⟩; obtain ⟨W3, hW3, sz3, G3, BN3⟩ := boxn w2 #[.bool true, .bool false, .bool (nT k), .bool (nF k)] 194; have BT3 := (B1.kept G2 (by simp)).kept G3 (by simp); have ct3_0 := BT3.cell 0 (v := .int .u8 k) rfl; have ct3_1 := BT3.cell 1 (v := .int .i64 x) rfl; have ct3_2 := BT3.cell 2 (v := .int .i64 y) rfl; have ct3_3 := BT3.cell 3 (v := .int .u8 t) rfl; have ct3_4 := BT3.cell 4 (v := .int .i64 z) rfl; have cn3_0 := BN3.cell 0 (v := .bool true) rfl; have cn3_1 := BN3.cell 1 (v := .bool false) rfl; have cn3_2 := BN3.cell 2 (v := .bool (nT k)) rfl; have cn3_3 := BN3.cell 3 (v := .bool (nF k)) rfl) | (go_at_call 120; refine (isSideC _ _).mono ?_; rintro e w' ⟨rfl, rfl⟩) | (go_at_call 122; refine (mayTurnC _ _ _ _ _ _ _ _ _ _).mono ?_; rintro e w5 ⟨rfl, G5⟩; have BT5 := BT3.kept G5 (by simp); have BN5 := BN3.kept G5 (by simp); have ct5_0 := BT5.cell 0 (v := .int .u8 k) rfl; have ct5_1 := BT5.cell 1 (v := .int .i64 x) rfl; have ct5_2 := BT5.cell 2 (v := .int .i64 y) rfl; have ct5_3 := BT5.cell 3 (v := .int .u8 t) rfl; have ct5_4 := BT5.cell 4 (v := .int .i64 z) rfl; have cn5_0 := BN5.cell 0 (v := .bool true) rfl; have cn5_1 := BN5.cell 1 (v := .bool false) rfl; have cn5_2 := BN5.cell 2 (v := .bool (nT k)) rfl; have cn5_3 := BN5.cell 3 (v := .bool (nF k)) rfl) | (go_at_call 123; refine (mayShiftC _ _ _ _ _ _ _ _ _ hx hy _).mono ?_; rintro e w6 ⟨rfl, G6⟩))
  go_ret
  exact ⟨retI HE.out, (gb_trans (gb_trans (gb_trans (gb_trans g1 G2) G3) G5) G6)⟩

set_option maxHeartbeats 1000000 in
theorem check9ab (k x y t z : Int) (h1 : ¬ k < 1) (h2 : ¬ 5 < k) (h3 : isS x = true) (h4 : isS y = true) (h5 : nA k = true) (h6 : (x != y) = false) (h7 : nE k = false) (h9 : mT (nF k) (nT k) t = true) (hx : 0 ≤ x ∧ x ≤ 65536) (hy : 0 ≤ y ∧ y ≤ 65536) (ha : mS (nF k) x y t z = true) (w : World) : Calls Tryz.prog 109 #[.agg #[.int .u8 k, .int .i64 x, .int .i64 y, .int .u8 t, .int .i64 z]] w fun e w' => e = .returned (.int .i64 (chkB k x y t z)) ∧ w.grownBy w' none := by
  have HE : Hid (0 = chkB k x y t z) := by
    unfold Hid chkB
    rw [if_neg (by omega), if_neg (by simp [h3, h4, h5, h6]), if_neg (by simp [h7]), if_neg (by simp [h9]), if_neg (by simp [ha])]
  obtain ⟨W1, hW1, sz1, g1, B1⟩ := boxn w #[.int .u8 k, .int .i64 x, .int .i64 y, .int .u8 t, .int .i64 z] 30
  have c1_0 := B1.cell 0 (v := .int .u8 k) rfl
  have c1_1 := B1.cell 1 (v := .int .i64 x) rfl
  have c1_2 := B1.cell 2 (v := .int .i64 y) rfl
  have c1_3 := B1.cell 3 (v := .int .u8 t) rfl
  have c1_4 := B1.cell 4 (v := .int .i64 z) rfl
  go_enter Tryz.func109, Tryz.ntmps109
  go_wp2_with (first | (go_at_call 119; refine (natureC _ _).mono ?_; rintro e w2 ⟨rfl, G2⟩; obtain ⟨W3, hW3, sz3, G3, BN3⟩ := boxn w2 #[.bool true, .bool false, .bool (nT k), .bool (nF k)] 194; have BT3 := (B1.kept G2 (by simp)).kept G3 (by simp); have ct3_0 := BT3.cell 0 (v := .int .u8 k) rfl; have ct3_1 := BT3.cell 1 (v := .int .i64 x) rfl; have ct3_2 := BT3.cell 2 (v := .int .i64 y) rfl; have ct3_3 := BT3.cell 3 (v := .int .u8 t) rfl; have ct3_4 := BT3.cell 4 (v := .int .i64 z) rfl; have cn3_0 := BN3.cell 0 (v := .bool true) rfl; have cn3_1 := BN3.cell 1 (v := .bool false) rfl; have cn3_2 := BN3.cell 2 (v := .bool (nT k)) rfl; have cn3_3 := BN3.cell 3 (v := .bool (nF k)) rfl) | (go_at_call 120; refine (isSideC _ _).mono ?_; rintro e w' ⟨rfl, rfl⟩) | (go_at_call 122; refine (mayTurnC _ _ _ _ _ _ _ _ _ _).mono ?_; rintro e w5 ⟨rfl, G5⟩; have BT5 := BT3.kept G5 (by simp); have BN5 := BN3.kept G5 (by simp); have ct5_0 := BT5.cell 0 (v := .int .u8 k) rfl; have ct5_1 := BT5.cell 1 (v := .int .i64 x) rfl; have ct5_2 := BT5.cell 2 (v := .int .i64 y) rfl; have ct5_3 := BT5.cell 3 (v := .int .u8 t) rfl; have ct5_4 := BT5.cell 4 (v := .int .i64 z) rfl; have cn5_0 := BN5.cell 0 (v := .bool true) rfl; have cn5_1 := BN5.cell 1 (v := .bool false) rfl; have cn5_2 := BN5.cell 2 (v := .bool (nT k)) rfl; have cn5_3 := BN5.cell 3 (v := .bool (nF k)) rfl) | (go_at_call 123; refine (mayShiftC _ _ _ _ _ _ _ _ _ hx hy _).mono ?_; rintro e w6 ⟨rfl, G6⟩))
  go_ret
  exact ⟨retI HE.out, (gb_trans (gb_trans (gb_trans (gb_trans g1 G2) G3) G5) G6)⟩

set_option maxHeartbeats 1000000 in
theorem check6b (k x y t z : Int) (h1 : ¬ k < 1) (h2 : ¬ 5 < k) (h3 : isS x = true) (h4 : isS y = true) (h5 : nA k = false) (h7 : nE k = true) (h8 : heB x y = true) (w : World) : Calls Tryz.prog 109 #[.agg #[.int .u8 k, .int .i64 x, .int .i64 y, .int .u8 t, .int .i64 z]] w fun e w' => e = .returned (.int .i64 (chkB k x y t z)) ∧ w.grownBy w' none := by
  have HE : Hid (42 = chkB k x y t z) := by
    unfold Hid chkB
    rw [if_neg (by omega), if_neg (by simp [h3, h4, h5]), if_pos ⟨h7, h8⟩]
  obtain ⟨W1, hW1, sz1, g1, B1⟩ := boxn w #[.int .u8 k, .int .i64 x, .int .i64 y, .int .u8 t, .int .i64 z] 30
  have c1_0 := B1.cell 0 (v := .int .u8 k) rfl
  have c1_1 := B1.cell 1 (v := .int .i64 x) rfl
  have c1_2 := B1.cell 2 (v := .int .i64 y) rfl
  have c1_3 := B1.cell 3 (v := .int .u8 t) rfl
  have c1_4 := B1.cell 4 (v := .int .i64 z) rfl
  go_enter Tryz.func109, Tryz.ntmps109
  go_wp2_with (first | (go_at_call 119; refine (natureC _ _).mono ?_; rintro e w2 ⟨rfl, G2⟩; obtain ⟨W3, hW3, sz3, G3, BN3⟩ := boxn w2 #[.bool false, .bool true, .bool (nT k), .bool (nF k)] 194; have BT3 := (B1.kept G2 (by simp)).kept G3 (by simp); have ct3_0 := BT3.cell 0 (v := .int .u8 k) rfl; have ct3_1 := BT3.cell 1 (v := .int .i64 x) rfl; have ct3_2 := BT3.cell 2 (v := .int .i64 y) rfl; have ct3_3 := BT3.cell 3 (v := .int .u8 t) rfl; have ct3_4 := BT3.cell 4 (v := .int .i64 z) rfl; have cn3_0 := BN3.cell 0 (v := .bool false) rfl; have cn3_1 := BN3.cell 1 (v := .bool true) rfl; have cn3_2 := BN3.cell 2 (v := .bool (nT k)) rfl; have cn3_3 := BN3.cell 3 (v := .bool (nF k)) rfl) | (go_at_call 120; refine (isSideC _ _).mono ?_; rintro e w' ⟨rfl, rfl⟩) | (go_at_call 121; refine (endlessC _ _ _ _ _ _).mono ?_; rintro e w4 ⟨rfl, G4⟩; have BT4 := BT3.kept G4 (by simp); have BN4 := BN3.kept G4 (by simp); have ct4_0 := BT4.cell 0 (v := .int .u8 k) rfl; have ct4_1 := BT4.cell 1 (v := .int .i64 x) rfl; have ct4_2 := BT4.cell 2 (v := .int .i64 y) rfl; have ct4_3 := BT4.cell 3 (v := .int .u8 t) rfl; have ct4_4 := BT4.cell 4 (v := .int .i64 z) rfl; have cn4_0 := BN4.cell 0 (v := .bool false) rfl; have cn4_1 := BN4.cell 1 (v := .bool true) rfl; have cn4_2 := BN4.cell 2 (v := .bool (nT k)) rfl; have cn4_3 := BN4.cell 3 (v := .bool (nF k)) rfl))
  go_ret
  exact ⟨retI HE.out, (gb_trans (gb_trans (gb_trans g1 G2) G3) G4)⟩

set_option maxHeartbeats 1000000 in
theorem check7ba (k x y t z : Int) (h1 : ¬ k < 1) (h2 : ¬ 5 < k) (h3 : isS x = true) (h4 : isS y = true) (h5 : nA k = false) (h7 : nE k = true) (h8 : heB x y = false) (h9 : mT (nF k) (nT k) t = false) (w : World) : Calls Tryz.prog 109 #[.agg #[.int .u8 k, .int .i64 x, .int .i64 y, .int .u8 t, .int .i64 z]] w fun e w' => e = .returned (.int .i64 (chkB k x y t z)) ∧ w.grownBy w' none := by
  have HE : Hid (44 = chkB k x y t z) := by
    unfold Hid chkB
    rw [if_neg (by omega), if_neg (by simp [h3, h4, h5]), if_neg (by simp [h7, h8]), if_pos h9]
  obtain ⟨W1, hW1, sz1, g1, B1⟩ := boxn w #[.int .u8 k, .int .i64 x, .int .i64 y, .int .u8 t, .int .i64 z] 30
  have c1_0 := B1.cell 0 (v := .int .u8 k) rfl
  have c1_1 := B1.cell 1 (v := .int .i64 x) rfl
  have c1_2 := B1.cell 2 (v := .int .i64 y) rfl
  have c1_3 := B1.cell 3 (v := .int .u8 t) rfl
  have c1_4 := B1.cell 4 (v := .int .i64 z) rfl
  go_enter Tryz.func109, Tryz.ntmps109
  go_wp2_with (first | (go_at_call 119; refine (natureC _ _).mono ?_; rintro e w2 ⟨rfl, G2⟩; obtain ⟨W3, hW3, sz3, G3, BN3⟩ := boxn w2 #[.bool false, .bool true, .bool (nT k), .bool (nF k)] 194; have BT3 := (B1.kept G2 (by simp)).kept G3 (by simp); have ct3_0 := BT3.cell 0 (v := .int .u8 k) rfl; have ct3_1 := BT3.cell 1 (v := .int .i64 x) rfl; have ct3_2 := BT3.cell 2 (v := .int .i64 y) rfl; have ct3_3 := BT3.cell 3 (v := .int .u8 t) rfl; have ct3_4 := BT3.cell 4 (v := .int .i64 z) rfl; have cn3_0 := BN3.cell 0 (v := .bool false) rfl; have cn3_1 := BN3.cell 1 (v := .bool true) rfl; have cn3_2 := BN3.cell 2 (v := .bool (nT k)) rfl; have cn3_3 := BN3.cell 3 (v := .bool (nF k)) rfl) | (go_at_call 120; refine (isSideC _ _).mono ?_; rintro e w' ⟨rfl, rfl⟩) | (go_at_call 121; refine (endlessC _ _ _ _ _ _).mono ?_; rintro e w4 ⟨rfl, G4⟩; have BT4 := BT3.kept G4 (by simp); have BN4 := BN3.kept G4 (by simp); have ct4_0 := BT4.cell 0 (v := .int .u8 k) rfl; have ct4_1 := BT4.cell 1 (v := .int .i64 x) rfl; have ct4_2 := BT4.cell 2 (v := .int .i64 y) rfl; have ct4_3 := BT4.cell 3 (v := .int .u8 t) rfl; have ct4_4 := BT4.cell 4 (v := .int .i64 z) rfl; have cn4_0 := BN4.cell 0 (v := .bool false) rfl; have cn4_1 := BN4.cell 1 (v := .bool true) rfl; have cn4_2 := BN4.cell 2 (v := .bool (nT k)) rfl; have cn4_3 := BN4.cell 3 (v := .bool (nF k)) rfl) | (go_at_call 122; refine (mayTurnC _ _ _ _ _ _ _ _ _ _).mono ?_; rintro e w5 ⟨rfl, G5⟩; have BT5 := BT4.kept G5 (by simp); have BN5 := BN4.kept G5 (by simp); have ct5_0 := BT5.cell 0 (v := .int .u8 k) rfl; have ct5_1 := BT5.cell 1 (v := .int .i64 x) rfl; have ct5_2 := BT5.cell 2 (v := .int .i64 y) rfl; have ct5_3 := BT5.cell 3 (v := .int .u8 t) rfl; have ct5_4 := BT5.cell 4 (v := .int .i64 z) rfl; have cn5_0 := BN5.cell 0 (v := .bool false) rfl; have cn5_1 := BN5.cell 1 (v := .bool true) rfl; have cn5_2 := BN5.cell 2 (v := .bool (nT k)) rfl; have cn5_3 := BN5.cell 3 (v := .bool (nF k)) rfl))
  go_ret
  exact ⟨retI HE.out, (gb_trans (gb_trans (gb_trans (gb_trans g1 G2) G3) G4) G5)⟩

set_option maxHeartbeats 1000000 in
theorem check8ba (k x y t z : Int) (h1 : ¬ k < 1) (h2 : ¬ 5 < k) (h3 : isS x = true) (h4 : isS y = true) (h5 : nA k = false) (h7 : nE k = true) (h8 : heB x y = false) (h9 : mT (nF k) (nT k) t = true) (hx : 0 ≤ x ∧ x ≤ 65536) (hy : 0 ≤ y ∧ y ≤ 65536) (ha : mS (nF k) x y t z = false) (w : World) : Calls Tryz.prog 109 #[.agg #[.int .u8 k, .int .i64 x, .int .i64 y, .int .u8 t, .int .i64 z]] w fun e w' => e = .returned (.int .i64 (chkB k x y t z)) ∧ w.grownBy w' none := by
  have HE : Hid (43 = chkB k x y t z) := by
    unfold Hid chkB
    rw [if_neg (by omega), if_neg (by simp [h3, h4, h5]), if_neg (by simp [h7, h8]), if_neg (by simp [h9]), if_pos ha]
  obtain ⟨W1, hW1, sz1, g1, B1⟩ := boxn w #[.int .u8 k, .int .i64 x, .int .i64 y, .int .u8 t, .int .i64 z] 30
  have c1_0 := B1.cell 0 (v := .int .u8 k) rfl
  have c1_1 := B1.cell 1 (v := .int .i64 x) rfl
  have c1_2 := B1.cell 2 (v := .int .i64 y) rfl
  have c1_3 := B1.cell 3 (v := .int .u8 t) rfl
  have c1_4 := B1.cell 4 (v := .int .i64 z) rfl
  go_enter Tryz.func109, Tryz.ntmps109
  go_wp2_with (first | (go_at_call 119; refine (natureC _ _).mono ?_; rintro e w2 ⟨rfl, G2⟩; obtain ⟨W3, hW3, sz3, G3, BN3⟩ := boxn w2 #[.bool false, .bool true, .bool (nT k), .bool (nF k)] 194; have BT3 := (B1.kept G2 (by simp)).kept G3 (by simp); have ct3_0 := BT3.cell 0 (v := .int .u8 k) rfl; have ct3_1 := BT3.cell 1 (v := .int .i64 x) rfl; have ct3_2 := BT3.cell 2 (v := .int .i64 y) rfl; have ct3_3 := BT3.cell 3 (v := .int .u8 t) rfl; have ct3_4 := BT3.cell 4 (v := .int .i64 z) rfl; have cn3_0 := BN3.cell 0 (v := .bool false) rfl; have cn3_1 := BN3.cell 1 (v := .bool true) rfl; have cn3_2 := BN3.cell 2 (v := .bool (nT k)) rfl; have cn3_3 := BN3.cell 3 (v := .bool (nF k)) rfl) | (go_at_call 120; refine (isSideC _ _).mono ?_; rintro e w' ⟨rfl, rfl⟩) | (go_at_call 121; refine (endlessC _ _ _ _ _ _).mono ?_; rintro e w4 ⟨rfl, G4⟩; have BT4 := BT3.kept G4 (by simp); have BN4 := BN3.kept G4 (by simp); have ct4_0 := BT4.cell 0 (v := .int .u8 k) rfl; have ct4_1 := BT4.cell 1 (v := .int .i64 x) rfl; have ct4_2 := BT4.cell 2 (v := .int .i64 y) rfl; have ct4_3 := BT4.cell 3 (v := .int .u8 t) rfl; have ct4_4 := BT4.cell 4 (v := .int .i64 z) rfl; have cn4_0 := BN4.cell 0 (v := .bool false) rfl; have cn4_1 := BN4.cell 1 (v := .bool true) rfl; have cn4_2 := BN4.cell 2 (v := .bool (nT k)) rfl; have cn4_3 := BN4.cell 3 (v := .bool (nF k)) rfl) | (go_at_call 122; refine (mayTurnC _ _ _ _ _ _ _ _ _ _).mono ?_; rintro e w5 ⟨rfl, G5⟩; have BT5 := BT4.kept G5 (by simp); have BN5 := BN4.kept G5 (by simp); have ct5_0 := BT5.cell 0 (v := .int .u8 k) rfl; have ct5_1 := BT5.cell 1 (v := .int .i64 x) rfl; have ct5_2 := BT5.cell 2 (v := .int .i64 y) rfl; have ct5_3 := BT5.cell 3 (v := .int .u8 t) rfl; have ct5_4 := BT5.cell 4 (v := .int .i64 z) rfl; have cn5_0 := BN5.cell 0 (v := .bool false) rfl; have cn5_1 := BN5.cell 1 (v := .bool true) rfl; have cn5_2 := BN5.cell 2 (v := .bool (nT k)) rfl; have cn5_3 := BN5.cell 3 (v := .bool (nF k)) rfl) | (go_at_call 123; refine (mayShiftC _ _ _ _ _ _ _ _ _ hx hy _).mono ?_; rintro e w6 ⟨rfl, G6⟩))
  go_ret
  exact ⟨retI HE.out, (gb_trans (gb_trans (gb_trans (gb_trans (gb_trans g1 G2) G3) G4) G5) G6)⟩

set_option maxHeartbeats 1000000 in
theorem check9ba (k x y t z : Int) (h1 : ¬ k < 1) (h2 : ¬ 5 < k) (h3 : isS x = true) (h4 : isS y = true) (h5 : nA k = false) (h7 : nE k = true) (h8 : heB x y = false) (h9 : mT (nF k) (nT k) t = true) (hx : 0 ≤ x ∧ x ≤ 65536) (hy : 0 ≤ y ∧ y ≤ 65536) (ha : mS (nF k) x y t z = true) (w : World) : Calls Tryz.prog 109 #[.agg #[.int .u8 k, .int .i64 x, .int .i64 y, .int .u8 t, .int .i64 z]] w fun e w' => e = .returned (.int .i64 (chkB k x y t z)) ∧ w.grownBy w' none := by
  have HE : Hid (0 = chkB k x y t z) := by
    unfold Hid chkB
    rw [if_neg (by omega), if_neg (by simp [h3, h4, h5]), if_neg (by simp [h7, h8]), if_neg (by simp [h9]), if_neg (by simp [ha])]
  obtain ⟨W1, hW1, sz1, g1, B1⟩ := boxn w #[.int .u8 k, .int .i64 x, .int .i64 y, .int .u8 t, .int .i64 z] 30
  have c1_0 := B1.cell 0 (v := .int .u8 k) rfl
  have c1_1 := B1.cell 1 (v := .int .i64 x) rfl
  have c1_2 := B1.cell 2 (v := .int .i64 y) rfl
  have c1_3 := B1.cell 3 (v := .int .u8 t) rfl
  have c1_4 := B1.cell 4 (v := .int .i64 z) rfl
  go_enter Tryz.func109, Tryz.ntmps109
  go_wp2_with (first | (go_at_call 119; refine (natureC _ _).mono ?_; rintro e w2 ⟨rfl, G2⟩; obtain ⟨W3, hW3, sz3, G3, BN3⟩ := boxn w2 #[.bool false, .bool true, .bool (nT k), .bool (nF k)] 194; have BT3 := (B1.kept G2 (by simp)).kept G3 (by simp); have ct3_0 := BT3.cell 0 (v := .int .u8 k) rfl; have ct3_1 := BT3.cell 1 (v := .int .i64 x) rfl; have ct3_2 := BT3.cell 2 (v := .int .i64 y) rfl; have ct3_3 := BT3.cell 3 (v := .int .u8 t) rfl; have ct3_4 := BT3.cell 4 (v := .int .i64 z) rfl; have cn3_0 := BN3.cell 0 (v := .bool false) rfl; have cn3_1 := BN3.cell 1 (v := .bool true) rfl; have cn3_2 := BN3.cell 2 (v := .bool (nT k)) rfl; have cn3_3 := BN3.cell 3 (v := .bool (nF k)) rfl) | (go_at_call 120; refine (isSideC _ _).mono ?_; rintro e w' ⟨rfl, rfl⟩) | (go_at_call 121; refine (endlessC _ _ _ _ _ _).mono ?_; rintro e w4 ⟨rfl, G4⟩; have BT4 := BT3.kept G4 (by simp); have BN4 := BN3.kept G4 (by simp); have ct4_0 := BT4.cell 0 (v := .int .u8 k) rfl; have ct4_1 := BT4.cell 1 (v := .int .i64 x) rfl; have ct4_2 := BT4.cell 2 (v := .int .i64 y) rfl; have ct4_3 := BT4.cell 3 (v := .int .u8 t) rfl; have ct4_4 := BT4.cell 4 (v := .int .i64 z) rfl; have cn4_0 := BN4.cell 0 (v := .bool false) rfl; have cn4_1 := BN4.cell 1 (v := .bool true) rfl; have cn4_2 := BN4.cell 2 (v := .bool (nT k)) rfl; have cn4_3 := BN4.cell 3 (v := .bool (nF k)) rfl) | (go_at_call 122; refine (mayTurnC _ _ _ _ _ _ _ _ _ _).mono ?_; rintro e w5 ⟨rfl, G5⟩; have BT5 := BT4.kept G5 (by simp); have BN5 := BN4.kept G5 (by simp); have ct5_0 := BT5.cell 0 (v := .int .u8 k) rfl; have ct5_1 := BT5.cell 1 (v := .int .i64 x) rfl; have ct5_2 := BT5.cell 2 (v := .int .i64 y) rfl; have ct5_3 := BT5.cell 3 (v := .int .u8 t) rfl; have ct5_4 := BT5.cell 4 (v := .int .i64 z) rfl; have cn5_0 := BN5.cell 0 (v := .bool false) rfl; have cn5_1 := BN5.cell 1 (v := .bool true) rfl; have cn5_2 := BN5.cell 2 (v := .bool (nT k)) rfl; have cn5_3 := BN5.cell 3 (v := .bool (nF k)) rfl) | (go_at_call 123; refine (mayShiftC _ _ _ _ _ _ _ _ _ hx hy _).mono ?_; rintro e w6 ⟨rfl, G6⟩))
  go_ret
  exact ⟨retI HE.out, (gb_trans (gb_trans (gb_trans (gb_trans (gb_trans g1 G2) G3) G4) G5) G6)⟩

set_option maxHeartbeats 1000000 in
theorem check7bb (k x y t z : Int) (h1 : ¬ k < 1) (h2 : ¬ 5 < k) (h3 : isS x = true) (h4 : isS y = true) (h5 : nA k = false) (h7 : nE k = false) (h9 : mT (nF k) (nT k) t = false) (w : World) : Calls Tryz.prog 109 #[.agg #[.int .u8 k, .int .i64 x, .int .i64 y, .int .u8 t, .int .i64 z]] w fun e w' => e = .returned (.int .i64 (chkB k x y t z)) ∧ w.grownBy w' none := by
  have HE : Hid (44 = chkB k x y t z) := by
    unfold Hid chkB
    rw [if_neg (by omega), if_neg (by simp [h3, h4, h5]), if_neg (by simp [h7]), if_pos h9]
  obtain ⟨W1, hW1, sz1, g1, B1⟩ := boxn w #[.int .u8 k, .int .i64 x, .int .i64 y, .int .u8 t, .int .i64 z] 30
  have c1_0 := B1.cell 0 (v := .int .u8 k) rfl
  have c1_1 := B1.cell 1 (v := .int .i64 x) rfl
  have c1_2 := B1.cell 2 (v := .int .i64 y) rfl
  have c1_3 := B1.cell 3 (v := .int .u8 t) rfl
  have c1_4 := B1.cell 4 (v := .int .i64 z) rfl
  go_enter Tryz.func109, Tryz.ntmps109
  go_wp2_with (first | (go_at_call 119; refine (natureC _ _).mono ?_; rintro e w2 ⟨rfl, G2⟩; obtain ⟨W3, hW3, sz3, G3, BN3⟩ := boxn w2 #[.bool false, .bool false, .bool (nT k), .bool (nF k)] 194; have BT3 := (B1.kept G2 (by simp)).kept G3 (by simp); have ct3_0 := BT3.cell 0 (v := .int .u8 k) rfl; have ct3_1 := BT3.cell 1 (v := .int .i64 x) rfl; have ct3_2 := BT3.cell 2 (v := .int .i64 y) rfl; have ct3_3 := BT3.cell 3 (v := .int .u8 t) rfl; have ct3_4 := BT3.cell 4 (v := .int .i64 z) rfl; have cn3_0 := BN3.cell 0 (v := .bool false) rfl; have cn3_1 := BN3.cell 1 (v := .bool false) rfl; have cn3_2 := BN3.cell 2 (v := .bool (nT k)) rfl; have cn3_3 := BN3.cell 3 (v := .bool (nF k)) rfl) | (go_at_call 120; refine (isSideC _ _).mono ?_; rintro e w' ⟨rfl, rfl⟩) | (go_at_call 122; refine (mayTurnC _ _ _ _ _ _ _ _ _ _).mono ?_; rintro e w5 ⟨rfl, G5⟩; have BT5 := BT3.kept G5 (by simp); have BN5 := BN3.kept G5 (by simp); have ct5_0 := BT5.cell 0 (v := .int .u8 k) rfl; have ct5_1 := BT5.cell 1 (v := .int .i64 x) rfl; have ct5_2 := BT5.cell 2 (v := .int .i64 y) rfl; have ct5_3 := BT5.cell 3 (v := .int .u8 t) rfl; have ct5_4 := BT5.cell 4 (v := .int .i64 z) rfl; have cn5_0 := BN5.cell 0 (v := .bool false) rfl; have cn5_1 := BN5.cell 1 (v := .bool false) rfl; have cn5_2 := BN5.cell 2 (v := .bool (nT k)) rfl; have cn5_3 := BN5.cell 3 (v := .bool (nF k)) rfl))
  go_ret
  exact ⟨retI HE.out, (gb_trans (gb_trans (gb_trans g1 G2) G3) G5)⟩

set_option maxHeartbeats 1000000 in
theorem check8bb (k x y t z : Int) (h1 : ¬ k < 1) (h2 : ¬ 5 < k) (h3 : isS x = true) (h4 : isS y = true) (h5 : nA k = false) (h7 : nE k = false) (h9 : mT (nF k) (nT k) t = true) (hx : 0 ≤ x ∧ x ≤ 65536) (hy : 0 ≤ y ∧ y ≤ 65536) (ha : mS (nF k) x y t z = false) (w : World) : Calls Tryz.prog 109 #[.agg #[.int .u8 k, .int .i64 x, .int .i64 y, .int .u8 t, .int .i64 z]] w fun e w' => e = .returned (.int .i64 (chkB k x y t z)) ∧ w.grownBy w' none := by
  have HE : Hid (43 = chkB k x y t z) := by
    unfold Hid chkB
    rw [if_neg (by omega), if_neg (by simp [h3, h4, h5]), if_neg (by simp [h7]), if_neg (by simp [h9]), if_pos ha]
  obtain ⟨W1, hW1, sz1, g1, B1⟩ := boxn w #[.int .u8 k, .int .i64 x, .int .i64 y, .int .u8 t, .int .i64 z] 30
  have c1_0 := B1.cell 0 (v := .int .u8 k) rfl
  have c1_1 := B1.cell 1 (v := .int .i64 x) rfl
  have c1_2 := B1.cell 2 (v := .int .i64 y) rfl
  have c1_3 := B1.cell 3 (v := .int .u8 t) rfl
  have c1_4 := B1.cell 4 (v := .int .i64 z) rfl
  go_enter Tryz.func109, Tryz.ntmps109
  go_wp2_with (first | (go_at_call 119; refine (natureC _ _).mono ?_; rintro e w2 ⟨rfl, G2⟩; obtain ⟨W3, hW3, sz3, G3, BN3⟩ := boxn w2 #[.bool false, .bool false, .bool (nT k), .bool (nF k)] 194; have BT3 := (B1.kept G2 (by simp)).kept G3 (by simp); have ct3_0 := BT3.cell 0 (v := .int .u8 k) rfl; have ct3_1 := BT3.cell 1 (v := .int .i64 x) rfl; have ct3_2 := BT3.cell 2 (v := .int .i64 y) rfl; have ct3_3 := BT3.cell 3 (v := .int .u8 t) rfl; have ct3_4 := BT3.cell 4 (v := .int .i64 z) rfl; have cn3_0 := BN3.cell 0 (v := .bool false) rfl; have cn3_1 := BN3.cell 1 (v := .bool false) rfl; have cn3_2 := BN3.cell 2 (v := .bool (nT k)) rfl; have cn3_3 := BN3.cell 3 (v := .bool (nF k)) rfl) | (go_at_call 120; refine (isSideC _ _).mono ?_; rintro e w' ⟨rfl, rfl⟩) | (go_at_call 122; refine (mayTurnC _ _ _ _ _ _ _ _ _ _).mono ?_; rintro e w5 ⟨rfl, G5⟩; have BT5 := BT3.kept G5 (by simp); have BN5 := BN3.kept G5 (by simp); have ct5_0 := BT5.cell 0 (v := .int .u8 k) rfl; have ct5_1 := BT5.cell 1 (v := .int .i64 x) rfl; have ct5_2 := BT5.cell 2 (v := .int .i64 y) rfl; have ct5_3 := BT5.cell 3 (v := .int .u8 t) rfl; have ct5_4 := BT5.cell 4 (v := .int .i64 z) rfl; have cn5_0 := BN5.cell 0 (v := .bool false) rfl; have cn5_1 := BN5.cell 1 (v := .bool false) rfl; have cn5_2 := BN5.cell 2 (v := .bool (nT k)) rfl; have cn5_3 := BN5.cell 3 (v := .bool (nF k)) rfl) | (go_at_call 123; refine (mayShiftC _ _ _ _ _ _ _ _ _ hx hy _).mono ?_; rintro e w6 ⟨rfl, G6⟩))
  go_ret
  exact ⟨retI HE.out, (gb_trans (gb_trans (gb_trans (gb_trans g1 G2) G3) G5) G6)⟩

set_option maxHeartbeats 1000000 in
theorem check9bb (k x y t z : Int) (h1 : ¬ k < 1) (h2 : ¬ 5 < k) (h3 : isS x = true) (h4 : isS y = true) (h5 : nA k = false) (h7 : nE k = false) (h9 : mT (nF k) (nT k) t = true) (hx : 0 ≤ x ∧ x ≤ 65536) (hy : 0 ≤ y ∧ y ≤ 65536) (ha : mS (nF k) x y t z = true) (w : World) : Calls Tryz.prog 109 #[.agg #[.int .u8 k, .int .i64 x, .int .i64 y, .int .u8 t, .int .i64 z]] w fun e w' => e = .returned (.int .i64 (chkB k x y t z)) ∧ w.grownBy w' none := by
  have HE : Hid (0 = chkB k x y t z) := by
    unfold Hid chkB
    rw [if_neg (by omega), if_neg (by simp [h3, h4, h5]), if_neg (by simp [h7]), if_neg (by simp [h9]), if_neg (by simp [ha])]
  obtain ⟨W1, hW1, sz1, g1, B1⟩ := boxn w #[.int .u8 k, .int .i64 x, .int .i64 y, .int .u8 t, .int .i64 z] 30
  have c1_0 := B1.cell 0 (v := .int .u8 k) rfl
  have c1_1 := B1.cell 1 (v := .int .i64 x) rfl
  have c1_2 := B1.cell 2 (v := .int .i64 y) rfl
  have c1_3 := B1.cell 3 (v := .int .u8 t) rfl
  have c1_4 := B1.cell 4 (v := .int .i64 z) rfl
  go_enter Tryz.func109, Tryz.ntmps109
  go_wp2_with (first | (go_at_call 119; refine (natureC _ _).mono ?_; rintro e w2 ⟨rfl, G2⟩; obtain ⟨W3, hW3, sz3, G3, BN3⟩ := boxn w2 #[.bool false, .bool false, .bool (nT k), .bool (nF k)] 194; have BT3 := (B1.kept G2 (by simp)).kept G3 (by simp); have ct3_0 := BT3.cell 0 (v := .int .u8 k) rfl; have ct3_1 := BT3.cell 1 (v := .int .i64 x) rfl; have ct3_2 := BT3.cell 2 (v := .int .i64 y) rfl; have ct3_3 := BT3.cell 3 (v := .int .u8 t) rfl; have ct3_4 := BT3.cell 4 (v := .int .i64 z) rfl; have cn3_0 := BN3.cell 0 (v := .bool false) rfl; have cn3_1 := BN3.cell 1 (v := .bool false) rfl; have cn3_2 := BN3.cell 2 (v := .bool (nT k)) rfl; have cn3_3 := BN3.cell 3 (v := .bool (nF k)) rfl) | (go_at_call 120; refine (isSideC _ _).mono ?_; rintro e w' ⟨rfl, rfl⟩) | (go_at_call 122; refine (mayTurnC _ _ _ _ _ _ _ _ _ _).mono ?_; rintro e w5 ⟨rfl, G5⟩; have BT5 := BT3.kept G5 (by simp); have BN5 := BN3.kept G5 (by simp); have ct5_0 := BT5.cell 0 (v := .int .u8 k) rfl; have ct5_1 := BT5.cell 1 (v := .int .i64 x) rfl; have ct5_2 := BT5.cell 2 (v := .int .i64 y) rfl; have ct5_3 := BT5.cell 3 (v := .int .u8 t) rfl; have ct5_4 := BT5.cell 4 (v := .int .i64 z) rfl; have cn5_0 := BN5.cell 0 (v := .bool false) rfl; have cn5_1 := BN5.cell 1 (v := .bool false) rfl; have cn5_2 := BN5.cell 2 (v := .bool (nT k)) rfl; have cn5_3 := BN5.cell 3 (v := .bool (nF k)) rfl) | (go_at_call 123; refine (mayShiftC _ _ _ _ _ _ _ _ _ hx hy _).mono ?_; rintro e w6 ⟨rfl, G6⟩))
  go_ret
  exact ⟨retI HE.out, (gb_trans (gb_trans (gb_trans (gb_trans g1 G2) G3) G5) G6)⟩

theorem checkC (k x y t z : Int) (ht : 0 ≤ t) (w : World) : Calls Tryz.prog 109 #[.agg #[.int .u8 k, .int .i64 x, .int .i64 y, .int .u8 t, .int .i64 z]] w fun e w' => e = .returned (.int .i64 (Tp.chk k x y t z)) ∧ w.grownBy w' none := by
  rw [← chkB_eq k x y t z ht]
  by_cases h1 : k < 1
  · exact check1 k x y t z h1 w
  by_cases h2 : 5 < k
  · exact check2 k x y t z h1 h2 w
  cases h3 : isS x with
  | false => exact check3 k x y t z h1 h2 h3 w
  | true =>
  cases h4 : isS y with
  | false => exact check4 k x y t z h1 h2 h3 h4 w
  | true =>
  have hx := (isS_iff x).1 h3
  have hy := (isS_iff y).1 h4
  cases h5 : nA k with
  | true =>
    cases h6 : (x != y) with
    | true => exact check5 k x y t z h1 h2 h3 h4 h5 h6 w
    | false =>
      cases h7 : nE k with
      | true =>
        cases h8 : heB x y with
        | true => exact check6a k x y t z h1 h2 h3 h4 h5 h6 h7 h8 w
        | false =>
          cases h9 : mT (nF k) (nT k) t with
          | false => exact check7aa k x y t z h1 h2 h3 h4 h5 h6 h7 h8 h9 w
          | true =>
            cases ha : mS (nF k) x y t z with
            | false => exact check8aa k x y t z h1 h2 h3 h4 h5 h6 h7 h8 h9 hx hy ha w
            | true => exact check9aa k x y t z h1 h2 h3 h4 h5 h6 h7 h8 h9 hx hy ha w
      | false =>
        cases h9 : mT (nF k) (nT k) t with
        | false => exact check7ab k x y t z h1 h2 h3 h4 h5 h6 h7 h9 w
        | true =>
          cases ha : mS (nF k) x y t z with
          | false => exact check8ab k x y t z h1 h2 h3 h4 h5 h6 h7 h9 hx hy ha w
          | true => exact check9ab k x y t z h1 h2 h3 h4 h5 h6 h7 h9 hx hy ha w
  | false =>
      cases h7 : nE k with
      | true =>
        cases h8 : heB x y with
        | true => exact check6b k x y t z h1 h2 h3 h4 h5 h7 h8 w
        | false =>
          cases h9 : mT (nF k) (nT k) t with
          | false => exact check7ba k x y t z h1 h2 h3 h4 h5 h7 h8 h9 w
          | true =>
            cases ha : mS (nF k) x y t z with
            | false => exact check8ba k x y t z h1 h2 h3 h4 h5 h7 h8 h9 hx hy ha w
            | true => exact check9ba k x y t z h1 h2 h3 h4 h5 h7 h8 h9 hx hy ha w
      | false =>
        cases h9 : mT (nF k) (nT k) t with
        | false => exact check7bb k x y t z h1 h2 h3 h4 h5 h7 h9 w
        | true =>
          cases ha : mS (nF k) x y t z with
          | false => exact check8bb k x y t z h1 h2 h3 h4 h5 h7 h9 hx hy ha w
          | true => exact check9bb k x y t z h1 h2 h3 h4 h5 h7 h9 hx hy ha w
end Go.Proofs.YthjiiljglgmkpaaGreatDoor.To
