/- What Canon, Across, Endless, Home and Has of package topo answer, and the document's. -/
import Derived.Test.YthjiiljglgmkpaaGreatDoorT5
import Derived.Deep.RegionWith
import Derived.Deep.QuietTactic
namespace Go.Proofs.YthjiiljglgmkpaaGreatDoor.To
open Go.RowKit
set_option linter.unusedVariables false
set_option linter.unusedSimpArgs false
set_option maxRecDepth 100000

theorem ret_tb {a b : Int} {c d : Array Value} (h : c = d) (hp : a = b) : Ending.returned (.tuple #[.agg c, .int .i64 a]) = .returned (.tuple #[.agg d, .int .i64 b]) := by rw [h, hp]
theorem parts_up {a n : Int} (hn : 1 ≤ n) (h : 0 ≤ a.tmod n) : a.tmod n = a % n := by
  have h1 := Int.mul_tdiv_add_tmod a n
  have h2 := Int.tmod_lt_of_pos a (show (0:Int) < n by omega)
  exact ((Int.ediv_emod_unique (a := a) (b := n) (r := a.tmod n) (q := a.tdiv n) (by omega)).2 ⟨by omega, h, h2⟩).2.symm
theorem parts_down {a n : Int} (hn : 1 ≤ n) (h : a.tmod n < 0) : a.tmod n + n = a % n := by
  have h1 := Int.mul_tdiv_add_tmod a n
  have h2 := Int.lt_tmod_of_pos a (show (0:Int) < n by omega)
  exact ((Int.ediv_emod_unique (a := a) (b := n) (r := a.tmod n + n) (q := a.tdiv n - 1) (by omega)).2 ⟨by rw [Int.mul_sub]; omega, by omega, by omega⟩).2.symm
theorem ret_ib {k : IntKind} {a b : Int} {c d : Bool} (h : a = b) (hp : c = d) : Ending.returned (.tuple #[.int k a, .bool c]) = .returned (.tuple #[.int k b, .bool d]) := by rw [h, hp]
theorem ret_bi {k : IntKind} {a b : Int} {c d : Bool} (h : c = d) (hp : a = b) : Ending.returned (.tuple #[.bool c, .int k a]) = .returned (.tuple #[.bool d, .int k b]) := by rw [h, hp]

theorem modP (a n : Int) (w : World) (h3 : 1 ≤ n) (h4 : n ≤ 65536) :
    Calls Tryz.prog 154 #[.int .i64 a, .int .i64 n] w fun e w' => e = .returned (.tuple #[.int .i64 (a % n), .bool true]) ∧ w' = w := by
  by_cases hm : a.tmod n < 0
  · have hb := Int.lt_tmod_of_pos a (show (0:Int) < n by omega)
    go_enter Tryz.func154, Tryz.ntmps154
    go_wp2
    go_ret2
    exact ⟨ret_ib (parts_down h3 hm) rfl, rfl⟩
  · have hm1 : 0 ≤ a.tmod n := by omega
    clear hm
    go_enter Tryz.func154, Tryz.ntmps154
    go_wp2
    go_ret2
    exact ⟨ret_ib (parts_up h3 hm1) rfl, rfl⟩

def canZ (x y t z : Int) : Int := if t = 0 then z else z % (Tp.sd x y t)
theorem tS_sd {x y t : Int} (h0 : ¬ t = 0) (h2 : t ≤ 2) (ht : 0 ≤ t) : tS x y t = Tp.sd x y t := by
  unfold Tp.sd tS
  by_cases t1 : t = 1
  · rw [if_pos t1, if_neg (show ¬ t = 2 by omega)]
  · rw [if_neg t1, if_pos (show t = 2 by omega)]
theorem sd_bd {k x y t z : Int} (ok : Tp.Ok k x y t z) (h0 : ¬ t = 0) : 1 ≤ Tp.sd x y t ∧ Tp.sd x y t ≤ 65536 := by
  have h1 := ok.near h0
  have h2 := ok.wide
  have h3 := ok.high
  have : Tp.sd x y t ≤ 65536 := by unfold Tp.sd; split <;> omega
  omega
end Go.Proofs.YthjiiljglgmkpaaGreatDoor.To
namespace Go.Proofs.YthjiiljglgmkpaaGreatDoor.To
open Go.RowKit
set_option linter.unusedVariables false
set_option linter.unusedSimpArgs false
set_option maxRecDepth 100000

def acT (t : Int) : Int := if t = 1 then 2 else if t = 2 then 1 else t

theorem underR : ∃ fs, Tryz.prog.underlying 131 = some (.struct fs) := by
  first | exact ⟨_, Tryz.underlying131⟩ | exact ⟨_, by kernel_rfl⟩
theorem infoR : (Tryz.prog.info? 131).map (·.size) = some 4 := by kernel_rfl
theorem mixed : Tryz.prog.follows .mixedOrders = true := by kernel_rfl
def fi (n : Int) : Int := -(n / 2)
theorem half_is {n : Int} (h : 0 ≤ n) : n.tdiv 2 = n / 2 := Int.tdiv_eq_ediv_of_nonneg h
def frB (n : Int) : Bool := decide (n < -1099511627776) || decide (1099511627776 < n)
def liB (n l : Int) : Bool := decide (l = 0) || (decide (fi l ≤ n) && decide (n < fi l + l))

theorem firstC (n : Int) (h0 : 0 ≤ n) (h1 : n ≤ 65536) (w : World) : Calls Tryz.prog 110 #[.int .i64 n] w fun e w' => e = .returned (.int .i64 (fi n)) ∧ w' = w := by
  have h2 := half_is h0
  have h3 : IntKind.i64.wrap (-(n / 2)) = -(n / 2) := by rw [IntKind.wrap_i64]; omega
  have h4 : IntKind.i64.wrap (n / 2) = n / 2 := by rw [IntKind.wrap_i64]; omega
  go_enter Tryz.func110, Tryz.ntmps110
  go_wp2
  go_ret
  exact ⟨retI (by first | rfl | (unfold fi; omega)), rfl⟩

theorem isFarC (n : Int) (w : World) : Calls Tryz.prog 141 #[.int .i64 n] w fun e w' => e = .returned (.bool (frB n)) ∧ w' = w := by
  by_cases h1 : n < -1099511627776 <;> by_cases h2 : 1099511627776 < n
  all_goals
    go_enter Tryz.func141, Tryz.ntmps141
    go_wp2
    all_goals go_ret
    all_goals refine ⟨retB ?_, rfl⟩
    all_goals simp [frB, h1, h2]

theorem liesC (n l : Int) (h0 : 0 ≤ l) (h1 : l ≤ 65536) (w : World) : Calls Tryz.prog 142 #[.int .i64 n, .int .i64 l] w fun e w' => e = .returned (.bool (liB n l)) ∧ ∃ q, w' = w.drewN q := by
  have hb : -32768 ≤ fi l ∧ fi l ≤ 0 := by unfold fi; omega
  have hw : IntKind.i64.wrap (fi l + l) = fi l + l := by rw [IntKind.wrap_i64]; omega
  cases h2 : (l == 0) with
  | true =>
    have h3 : l = 0 := by simpa using h2
    clear h2
    subst h3
    go_enter Tryz.func142, Tryz.ntmps142
    go_wp2
    go_ret
    exact ⟨retB (by simp [liB]), 0, rfl⟩
  | false =>
    have h3 : ¬ l = 0 := by simpa using h2
    by_cases h4 : fi l ≤ n <;> by_cases h5 : n < fi l + l
    all_goals
      go_enter Tryz.func142, Tryz.ntmps142
      go_wp2_with (go_at_call 110; refine (firstC _ h0 h1 _).mono ?_; rintro e w' ⟨rfl, rfl⟩)
      all_goals (try (go_quiet (first | (go_at_call 110; refine Calls.quiet_of_same (firstC _ h0 h1 _))); go_wp2_with (go_at_call 110; refine (firstC _ h0 h1 _).mono ?_; rintro e w' ⟨rfl, rfl⟩)))
      all_goals (try (go_quiet (first | (go_at_call 110; refine Calls.quiet_of_same (firstC _ h0 h1 _))); go_wp2_with (go_at_call 110; refine (firstC _ h0 h1 _).mono ?_; rintro e w' ⟨rfl, rfl⟩)))
      all_goals go_ret
      all_goals refine ⟨retB (by simp [liB, h3, h4, h5]), by first | exact ⟨0, rfl⟩ | exact ⟨_, rfl⟩⟩

theorem ret_bbi {a b c d : Bool} {i j : Int} (h1 : a = b) (h2 : c = d) (h3 : i = j) : Ending.returned (.tuple #[.bool a, .bool c, .int .i64 i]) = .returned (.tuple #[.bool b, .bool d, .int .i64 j]) := by rw [h1, h2, h3]
def enB (k x y t z n : Int) : Bool := decide (Tp.chk k x y t z = 0) && decide (n = 0)

theorem endlC (k x y t z : Int) (ht : 0 ≤ t) (w : World) : Calls Tryz.prog 82 #[.agg #[.int .u8 k, .int .i64 x, .int .i64 y, .int .u8 t, .int .i64 z]] w fun e w' => e = .returned (.tuple #[.bool (enB k x y t z x), .bool (enB k x y t z y), .int .i64 (Tp.chk k x y t z)]) ∧ w.grownBy w' none := by
  obtain ⟨W1, hW1, sz1, g1, B1⟩ := boxn w #[.int .u8 k, .int .i64 x, .int .i64 y, .int .u8 t, .int .i64 z] 30
  have c0 := B1.cell 0 (v := .int .u8 k) rfl; have c1 := B1.cell 1 (v := .int .i64 x) rfl; have c2 := B1.cell 2 (v := .int .i64 y) rfl; have c3 := B1.cell 3 (v := .int .u8 t) rfl; have c4 := B1.cell 4 (v := .int .i64 z) rfl
  by_cases h : Tp.chk k x y t z = 0
  · have HC : Hid (0 = Tp.chk k x y t z) := h.symm
    go_enter Tryz.func82, Tryz.ntmps82
    go_wp2_with (first | (go_at_call 109; refine (checkC _ _ _ _ _ ht _).mono ?_; rintro e w3 ⟨rfl, g3⟩; have BT := B1.kept g3 (by simp); have t0 := BT.cell 0 (v := .int .u8 k) rfl; have t1 := BT.cell 1 (v := .int .i64 x) rfl; have t2 := BT.cell 2 (v := .int .i64 y) rfl; have t3 := BT.cell 3 (v := .int .u8 t) rfl; have t4 := BT.cell 4 (v := .int .i64 z) rfl))
    first | go_ret2 | go_ret3 | go_ret | (go_quiet (fail); go_wp2; first | go_ret2 | go_ret3 | go_ret)
    exact ⟨ret_bbi (by unfold enB; rw [h]; rfl) (by unfold enB; rw [h]; rfl) HC.out, by first | exact gb_trans g1 g3 | exact gb_drewN (gb_trans g1 g3) _⟩
  · have HX : Hid (enB k x y t z x = false ∧ enB k x y t z y = false) := by unfold Hid enB; simp [h]
    go_enter Tryz.func82, Tryz.ntmps82
    go_wp2_with (first | (go_at_call 109; refine (checkC _ _ _ _ _ ht _).mono ?_; rintro e w3 ⟨rfl, g3⟩; have BT := B1.kept g3 (by simp); have t0 := BT.cell 0 (v := .int .u8 k) rfl; have t1 := BT.cell 1 (v := .int .i64 x) rfl; have t2 := BT.cell 2 (v := .int .i64 y) rfl; have t3 := BT.cell 3 (v := .int .u8 t) rfl; have t4 := BT.cell 4 (v := .int .i64 z) rfl))
    first | go_ret2 | go_ret3 | go_ret
    exact ⟨ret_bbi HX.out.1.symm HX.out.2.symm rfl, gb_trans g1 g3⟩

def homeV (k x y t z : Int) : Array Value := if Tp.chk k x y t z = 0 then #[.int .i64 (fi x), .int .i64 (fi y), .int .i64 x, .int .i64 y] else #[.int .i64 0, .int .i64 0, .int .i64 0, .int .i64 0]

set_option maxHeartbeats 1000000 in
theorem homeNo (k x y t z : Int) (ht : 0 ≤ t) (h : ¬ Tp.chk k x y t z = 0) (w : World) : Calls Tryz.prog 84 #[.agg #[.int .u8 k, .int .i64 x, .int .i64 y, .int .u8 t, .int .i64 z]] w fun e w' => e = .returned (.tuple #[.agg #[.int .i64 0, .int .i64 0, .int .i64 0, .int .i64 0], .int .i64 (Tp.chk k x y t z)]) ∧ w.grownBy w' none := by
  obtain ⟨fs, hfs⟩ := underR
  obtain ⟨W1, hW1, sz1, g1, B1⟩ := boxn w #[.int .u8 k, .int .i64 x, .int .i64 y, .int .u8 t, .int .i64 z] 30
  obtain ⟨W2, hW2, sz2, g2, B2⟩ := boxn W1 #[.int .i64 0, .int .i64 0, .int .i64 0, .int .i64 0] 131
  have B1' := B1.kept g2 (by simp)
  have G2 := gb_trans g1 g2
  have c0 := B1'.cell 0 (v := .int .u8 k) rfl; have c1 := B1'.cell 1 (v := .int .i64 x) rfl; have c2 := B1'.cell 2 (v := .int .i64 y) rfl; have c3 := B1'.cell 3 (v := .int .u8 t) rfl; have c4 := B1'.cell 4 (v := .int .i64 z) rfl
  go_enter Tryz.func84, Tryz.ntmps84
  go_wp2_with (first | (go_at_call 109; refine (checkC _ _ _ _ _ ht _).mono ?_; rintro e w3 ⟨rfl, g3⟩; have G3 := gb_trans G2 g3; have BT := B1'.kept g3 (by simp); have BR := B2.kept g3 (by simp); have t0 := BT.cell 0 (v := .int .u8 k) rfl; have t1 := BT.cell 1 (v := .int .i64 x) rfl; have t2 := BT.cell 2 (v := .int .i64 y) rfl; have t3 := BT.cell 3 (v := .int .u8 t) rfl; have t4 := BT.cell 4 (v := .int .i64 z) rfl; have r0 := BR.cell 0 (v := .int .i64 0) rfl; have r1 := BR.cell 1 (v := .int .i64 0) rfl; have r2 := BR.cell 2 (v := .int .i64 0) rfl; have r3 := BR.cell 3 (v := .int .i64 0) rfl; have f0 := BR.frozen 0; have f1 := BR.frozen 1; have f2 := BR.frozen 2; have f3 := BR.frozen 3))
  refine ret_c2 (g := W1.heap.size) (cs := #[.int .i64 0, .int .i64 0, .int .i64 0, .int .i64 0]) rfl hfs infoR rfl (((((BR).set 0 _).set 1 _).set 2 _).set 3 _) rfl ⟨ret_tb rfl ?_, gb_new (gb_new (gb_new (gb_new (G3) g1.size _) g1.size _) g1.size _) g1.size _⟩
  rfl
set_option maxHeartbeats 1000000 in
theorem homeYes (k x y t z : Int) (ht : 0 ≤ t) (h : Tp.chk k x y t z = 0) (hx : 0 ≤ x ∧ x ≤ 65536) (hy : 0 ≤ y ∧ y ≤ 65536) (w : World) : Calls Tryz.prog 84 #[.agg #[.int .u8 k, .int .i64 x, .int .i64 y, .int .u8 t, .int .i64 z]] w fun e w' => e = .returned (.tuple #[.agg #[.int .i64 (fi x), .int .i64 (fi y), .int .i64 x, .int .i64 y], .int .i64 0]) ∧ w.grownBy w' none := by
  have d1 := half_is hx.1
  have d2 := half_is hy.1
  have d3 : IntKind.i64.wrap (-(x / 2)) = fi x := by unfold fi; rw [IntKind.wrap_i64]; omega
  have d4 : IntKind.i64.wrap (-(y / 2)) = fi y := by unfold fi; rw [IntKind.wrap_i64]; omega
  have d5 : IntKind.i64.wrap (x / 2) = x / 2 := by rw [IntKind.wrap_i64]; omega
  have d6 : IntKind.i64.wrap (y / 2) = y / 2 := by rw [IntKind.wrap_i64]; omega
  obtain ⟨fs, hfs⟩ := underR
  obtain ⟨W1, hW1, sz1, g1, B1⟩ := boxn w #[.int .u8 k, .int .i64 x, .int .i64 y, .int .u8 t, .int .i64 z] 30
  obtain ⟨W2, hW2, sz2, g2, B2⟩ := boxn W1 #[.int .i64 0, .int .i64 0, .int .i64 0, .int .i64 0] 131
  have B1' := B1.kept g2 (by simp)
  have G2 := gb_trans g1 g2
  have c0 := B1'.cell 0 (v := .int .u8 k) rfl; have c1 := B1'.cell 1 (v := .int .i64 x) rfl; have c2 := B1'.cell 2 (v := .int .i64 y) rfl; have c3 := B1'.cell 3 (v := .int .u8 t) rfl; have c4 := B1'.cell 4 (v := .int .i64 z) rfl
  go_enter Tryz.func84, Tryz.ntmps84
  go_wp2_with (first | (go_at_call 109; refine (checkC _ _ _ _ _ ht _).mono ?_; rintro e w3 ⟨rfl, g3⟩; have G3 := gb_trans G2 g3; have BT := B1'.kept g3 (by simp); have BR := B2.kept g3 (by simp); have t0 := BT.cell 0 (v := .int .u8 k) rfl; have t1 := BT.cell 1 (v := .int .i64 x) rfl; have t2 := BT.cell 2 (v := .int .i64 y) rfl; have t3 := BT.cell 3 (v := .int .u8 t) rfl; have t4 := BT.cell 4 (v := .int .i64 z) rfl; have r0 := BR.cell 0 (v := .int .i64 0) rfl; have r1 := BR.cell 1 (v := .int .i64 0) rfl; have r2 := BR.cell 2 (v := .int .i64 0) rfl; have r3 := BR.cell 3 (v := .int .i64 0) rfl; have f0 := BR.frozen 0; have f1 := BR.frozen 1; have f2 := BR.frozen 2; have f3 := BR.frozen 3))
  refine region_tail 11 mixed (by kernel_rfl) ?_
  simp only [List.take_succ_cons, List.take_zero, List.drop_succ_cons, List.drop_zero]
  repeat still_step
  still_call (firstC x hx.1 hx.2 _)
  repeat still_step
  still_call (firstC y hy.1 hy.2 _)
  repeat still_step
  refine wpStill_nil ?_
  go_wp2
  refine ret_c2 (g := W1.heap.size) (cs := #[.int .i64 (fi x), .int .i64 (fi y), .int .i64 x, .int .i64 y]) rfl hfs infoR rfl (((((BR.dr).set 0 _).set 1 _).set 2 _).set 3 _) rfl ⟨ret_tb rfl ?_, gb_new (gb_new (gb_new (gb_new (gb_drew G3) g1.size _) g1.size _) g1.size _) g1.size _⟩
  rfl
theorem homeC (k x y t z : Int) (ht : 0 ≤ t) (w : World) : Calls Tryz.prog 84 #[.agg #[.int .u8 k, .int .i64 x, .int .i64 y, .int .u8 t, .int .i64 z]] w fun e w' => e = .returned (.tuple #[.agg (homeV k x y t z), .int .i64 (Tp.chk k x y t z)]) ∧ w.grownBy w' none := by
  unfold homeV
  by_cases h : Tp.chk k x y t z = 0
  · have ok := Tp.ok_of h
    rw [if_pos h, h]
    exact homeYes k x y t z ht h ok.wide ok.high w
  · rw [if_neg h]
    exact homeNo k x y t z ht h w

set_option maxHeartbeats 1000000 in
theorem refHomeNo (k x y t z : Int) (ht : 0 ≤ t) (h : ¬ Tp.chk k x y t z = 0) (w : World) : Calls Tryz.prog 72 #[.agg #[.int .u8 k, .int .i64 x, .int .i64 y, .int .u8 t, .int .i64 z]] w fun e w' => e = .returned (.tuple #[.agg #[.int .i64 0, .int .i64 0, .int .i64 0, .int .i64 0], .int .i64 (Tp.chk k x y t z)]) ∧ w.grownBy w' none := by
  obtain ⟨fs, hfs⟩ := underR
  obtain ⟨W1, hW1, sz1, g1, B1⟩ := boxn w #[.int .u8 k, .int .i64 x, .int .i64 y, .int .u8 t, .int .i64 z] 30
  obtain ⟨W2, hW2, sz2, g2, B2⟩ := boxn W1 #[.int .i64 0, .int .i64 0, .int .i64 0, .int .i64 0] 131
  have B1' := B1.kept g2 (by simp)
  have G2 := gb_trans g1 g2
  have c0 := B1'.cell 0 (v := .int .u8 k) rfl; have c1 := B1'.cell 1 (v := .int .i64 x) rfl; have c2 := B1'.cell 2 (v := .int .i64 y) rfl; have c3 := B1'.cell 3 (v := .int .u8 t) rfl; have c4 := B1'.cell 4 (v := .int .i64 z) rfl
  go_enter Tryz.func72, Tryz.ntmps72
  go_wp2_with (first | (go_at_call 70; refine (refCheckC _ _ _ _ _ ht _).mono ?_; rintro e w3 ⟨rfl, g3⟩; have G3 := gb_trans G2 g3; have BT := B1'.kept g3 (by simp); have BR := B2.kept g3 (by simp); have t0 := BT.cell 0 (v := .int .u8 k) rfl; have t1 := BT.cell 1 (v := .int .i64 x) rfl; have t2 := BT.cell 2 (v := .int .i64 y) rfl; have t3 := BT.cell 3 (v := .int .u8 t) rfl; have t4 := BT.cell 4 (v := .int .i64 z) rfl; have r0 := BR.cell 0 (v := .int .i64 0) rfl; have r1 := BR.cell 1 (v := .int .i64 0) rfl; have r2 := BR.cell 2 (v := .int .i64 0) rfl; have r3 := BR.cell 3 (v := .int .i64 0) rfl; have f0 := BR.frozen 0; have f1 := BR.frozen 1; have f2 := BR.frozen 2; have f3 := BR.frozen 3))
  refine ret_c2 (g := W1.heap.size) (cs := #[.int .i64 0, .int .i64 0, .int .i64 0, .int .i64 0]) rfl hfs infoR rfl (((((BR).set 0 _).set 1 _).set 2 _).set 3 _) rfl ⟨ret_tb rfl ?_, gb_new (gb_new (gb_new (gb_new (G3) g1.size _) g1.size _) g1.size _) g1.size _⟩
  rfl
set_option maxHeartbeats 1000000 in
theorem refHomeYes (k x y t z : Int) (ht : 0 ≤ t) (h : Tp.chk k x y t z = 0) (hx : 0 ≤ x ∧ x ≤ 65536) (hy : 0 ≤ y ∧ y ≤ 65536) (w : World) : Calls Tryz.prog 72 #[.agg #[.int .u8 k, .int .i64 x, .int .i64 y, .int .u8 t, .int .i64 z]] w fun e w' => e = .returned (.tuple #[.agg #[.int .i64 (fi x), .int .i64 (fi y), .int .i64 x, .int .i64 y], .int .i64 0]) ∧ w.grownBy w' none := by
  have d1 := half_is hx.1
  have d2 := half_is hy.1
  have d3 : IntKind.i64.wrap (-(x / 2)) = fi x := by unfold fi; rw [IntKind.wrap_i64]; omega
  have d4 : IntKind.i64.wrap (-(y / 2)) = fi y := by unfold fi; rw [IntKind.wrap_i64]; omega
  have d5 : IntKind.i64.wrap (x / 2) = x / 2 := by rw [IntKind.wrap_i64]; omega
  have d6 : IntKind.i64.wrap (y / 2) = y / 2 := by rw [IntKind.wrap_i64]; omega
  obtain ⟨fs, hfs⟩ := underR
  obtain ⟨W1, hW1, sz1, g1, B1⟩ := boxn w #[.int .u8 k, .int .i64 x, .int .i64 y, .int .u8 t, .int .i64 z] 30
  obtain ⟨W2, hW2, sz2, g2, B2⟩ := boxn W1 #[.int .i64 0, .int .i64 0, .int .i64 0, .int .i64 0] 131
  have B1' := B1.kept g2 (by simp)
  have G2 := gb_trans g1 g2
  have c0 := B1'.cell 0 (v := .int .u8 k) rfl; have c1 := B1'.cell 1 (v := .int .i64 x) rfl; have c2 := B1'.cell 2 (v := .int .i64 y) rfl; have c3 := B1'.cell 3 (v := .int .u8 t) rfl; have c4 := B1'.cell 4 (v := .int .i64 z) rfl
  go_enter Tryz.func72, Tryz.ntmps72
  go_wp2_with (first | (go_at_call 70; refine (refCheckC _ _ _ _ _ ht _).mono ?_; rintro e w3 ⟨rfl, g3⟩; have G3 := gb_trans G2 g3; have BT := B1'.kept g3 (by simp); have BR := B2.kept g3 (by simp); have t0 := BT.cell 0 (v := .int .u8 k) rfl; have t1 := BT.cell 1 (v := .int .i64 x) rfl; have t2 := BT.cell 2 (v := .int .i64 y) rfl; have t3 := BT.cell 3 (v := .int .u8 t) rfl; have t4 := BT.cell 4 (v := .int .i64 z) rfl; have r0 := BR.cell 0 (v := .int .i64 0) rfl; have r1 := BR.cell 1 (v := .int .i64 0) rfl; have r2 := BR.cell 2 (v := .int .i64 0) rfl; have r3 := BR.cell 3 (v := .int .i64 0) rfl; have f0 := BR.frozen 0; have f1 := BR.frozen 1; have f2 := BR.frozen 2; have f3 := BR.frozen 3))
  refine ret_c2 (g := W1.heap.size) (cs := #[.int .i64 (fi x), .int .i64 (fi y), .int .i64 x, .int .i64 y]) rfl hfs infoR rfl (((((BR).set 0 _).set 1 _).set 2 _).set 3 _) rfl ⟨ret_tb rfl ?_, gb_new (gb_new (gb_new (gb_new (G3) g1.size _) g1.size _) g1.size _) g1.size _⟩
  rfl
theorem refHomeC (k x y t z : Int) (ht : 0 ≤ t) (w : World) : Calls Tryz.prog 72 #[.agg #[.int .u8 k, .int .i64 x, .int .i64 y, .int .u8 t, .int .i64 z]] w fun e w' => e = .returned (.tuple #[.agg (homeV k x y t z), .int .i64 (Tp.chk k x y t z)]) ∧ w.grownBy w' none := by
  unfold homeV
  by_cases h : Tp.chk k x y t z = 0
  · have ok := Tp.ok_of h
    rw [if_pos h, h]
    exact refHomeYes k x y t z ht h ok.wide ok.high w
  · rw [if_neg h]
    exact refHomeNo k x y t z ht h w

def hasE (k x y t z a b : Int) : Int := if Tp.chk k x y t z = 0 then (if (frB a || frB b) = true then 5 else 0) else Tp.chk k x y t z
def hasV (k x y t z a b : Int) : Bool := decide (hasE k x y t z a b = 0) && (liB a x && liB b y)

set_option maxHeartbeats 1000000 in
theorem hasNo (k x y t z a b : Int) (ht : 0 ≤ t) (h : ¬ Tp.chk k x y t z = 0) (w : World) : Calls Tryz.prog 136 #[.agg #[.int .u8 k, .int .i64 x, .int .i64 y, .int .u8 t, .int .i64 z], .agg #[.int .i64 a, .int .i64 b]] w fun e w' => e = .returned (.tuple #[.bool false, .int .i64 (Tp.chk k x y t z)]) ∧ w.grownBy w' none := by
  obtain ⟨W1, hW1, sz1, g1, B1⟩ := boxn w #[.int .u8 k, .int .i64 x, .int .i64 y, .int .u8 t, .int .i64 z] 30
  obtain ⟨W2, hW2, sz2, g2, B2⟩ := boxn W1 #[.int .i64 a, .int .i64 b] 135
  have B1' := B1.kept g2 (by simp)
  have G2 := gb_trans g1 g2
  have c0 := B1'.cell 0 (v := .int .u8 k) rfl; have c1 := B1'.cell 1 (v := .int .i64 x) rfl; have c2 := B1'.cell 2 (v := .int .i64 y) rfl; have c3 := B1'.cell 3 (v := .int .u8 t) rfl; have c4 := B1'.cell 4 (v := .int .i64 z) rfl
  go_enter Tryz.func136, Tryz.ntmps136
  go_wp2_with (first | (go_at_call 109; refine (checkC _ _ _ _ _ ht _).mono ?_; rintro e w3 ⟨rfl, g3⟩; have G3 := gb_trans G2 g3; have BT := B1'.kept g3 (by simp); have BP := B2.kept g3 (by simp); have t0 := BT.cell 0 (v := .int .u8 k) rfl; have t1 := BT.cell 1 (v := .int .i64 x) rfl; have t2 := BT.cell 2 (v := .int .i64 y) rfl; have t3 := BT.cell 3 (v := .int .u8 t) rfl; have t4 := BT.cell 4 (v := .int .i64 z) rfl; have p0 := BP.cell 0 (v := .int .i64 a) rfl; have p1 := BP.cell 1 (v := .int .i64 b) rfl))
  go_ret2
  exact ⟨rfl, G3⟩
set_option maxHeartbeats 1000000 in
theorem hasFar (k x y t z a b : Int) (ht : 0 ≤ t) (h : Tp.chk k x y t z = 0) (hf : (frB a || frB b) = true) (w : World) : Calls Tryz.prog 136 #[.agg #[.int .u8 k, .int .i64 x, .int .i64 y, .int .u8 t, .int .i64 z], .agg #[.int .i64 a, .int .i64 b]] w fun e w' => e = .returned (.tuple #[.bool false, .int .i64 5]) ∧ w.grownBy w' none := by
  obtain ⟨W1, hW1, sz1, g1, B1⟩ := boxn w #[.int .u8 k, .int .i64 x, .int .i64 y, .int .u8 t, .int .i64 z] 30
  obtain ⟨W2, hW2, sz2, g2, B2⟩ := boxn W1 #[.int .i64 a, .int .i64 b] 135
  have B1' := B1.kept g2 (by simp)
  have G2 := gb_trans g1 g2
  have c0 := B1'.cell 0 (v := .int .u8 k) rfl; have c1 := B1'.cell 1 (v := .int .i64 x) rfl; have c2 := B1'.cell 2 (v := .int .i64 y) rfl; have c3 := B1'.cell 3 (v := .int .u8 t) rfl; have c4 := B1'.cell 4 (v := .int .i64 z) rfl
  cases h1 : frB a with
  | true =>
    clear hf
    go_enter Tryz.func136, Tryz.ntmps136
    go_wp2_with (first | (go_at_call 109; refine (checkC _ _ _ _ _ ht _).mono ?_; rintro e w3 ⟨rfl, g3⟩; have G3 := gb_trans G2 g3; have BT := B1'.kept g3 (by simp); have BP := B2.kept g3 (by simp); have t0 := BT.cell 0 (v := .int .u8 k) rfl; have t1 := BT.cell 1 (v := .int .i64 x) rfl; have t2 := BT.cell 2 (v := .int .i64 y) rfl; have t3 := BT.cell 3 (v := .int .u8 t) rfl; have t4 := BT.cell 4 (v := .int .i64 z) rfl; have p0 := BP.cell 0 (v := .int .i64 a) rfl; have p1 := BP.cell 1 (v := .int .i64 b) rfl) | (go_at_call 141; refine (isFarC _ _).mono ?_; rintro e w' ⟨rfl, hw'⟩; subst w'))
    go_ret2
    exact ⟨rfl, G3⟩
  | false =>
    have h2 : frB b = true := by rw [h1] at hf; exact hf
    clear hf
    go_enter Tryz.func136, Tryz.ntmps136
    go_wp2_with (first | (go_at_call 109; refine (checkC _ _ _ _ _ ht _).mono ?_; rintro e w3 ⟨rfl, g3⟩; have G3 := gb_trans G2 g3; have BT := B1'.kept g3 (by simp); have BP := B2.kept g3 (by simp); have t0 := BT.cell 0 (v := .int .u8 k) rfl; have t1 := BT.cell 1 (v := .int .i64 x) rfl; have t2 := BT.cell 2 (v := .int .i64 y) rfl; have t3 := BT.cell 3 (v := .int .u8 t) rfl; have t4 := BT.cell 4 (v := .int .i64 z) rfl; have p0 := BP.cell 0 (v := .int .i64 a) rfl; have p1 := BP.cell 1 (v := .int .i64 b) rfl) | (go_at_call 141; refine (isFarC _ _).mono ?_; rintro e w' ⟨rfl, hw'⟩; subst w'))
    go_ret2
    exact ⟨rfl, G3⟩
set_option maxHeartbeats 1000000 in
theorem hasYes (k x y t z a b : Int) (ht : 0 ≤ t) (h : Tp.chk k x y t z = 0) (h1 : frB a = false) (h2 : frB b = false) (hx : 0 ≤ x ∧ x ≤ 65536) (hy : 0 ≤ y ∧ y ≤ 65536) (w : World) : Calls Tryz.prog 136 #[.agg #[.int .u8 k, .int .i64 x, .int .i64 y, .int .u8 t, .int .i64 z], .agg #[.int .i64 a, .int .i64 b]] w fun e w' => e = .returned (.tuple #[.bool (liB a x && liB b y), .int .i64 0]) ∧ w.grownBy w' none := by
  obtain ⟨W1, hW1, sz1, g1, B1⟩ := boxn w #[.int .u8 k, .int .i64 x, .int .i64 y, .int .u8 t, .int .i64 z] 30
  obtain ⟨W2, hW2, sz2, g2, B2⟩ := boxn W1 #[.int .i64 a, .int .i64 b] 135
  have B1' := B1.kept g2 (by simp)
  have G2 := gb_trans g1 g2
  have c0 := B1'.cell 0 (v := .int .u8 k) rfl; have c1 := B1'.cell 1 (v := .int .i64 x) rfl; have c2 := B1'.cell 2 (v := .int .i64 y) rfl; have c3 := B1'.cell 3 (v := .int .u8 t) rfl; have c4 := B1'.cell 4 (v := .int .i64 z) rfl
  cases h3 : liB a x with
  | true =>
    cases h4 : liB b y
    all_goals
      go_enter Tryz.func136, Tryz.ntmps136
      go_wp2_with (first | (go_at_call 109; refine (checkC _ _ _ _ _ ht _).mono ?_; rintro e w3 ⟨rfl, g3⟩; have G3 := gb_trans G2 g3; have BT := B1'.kept g3 (by simp); have BP := B2.kept g3 (by simp); have t0 := BT.cell 0 (v := .int .u8 k) rfl; have t1 := BT.cell 1 (v := .int .i64 x) rfl; have t2 := BT.cell 2 (v := .int .i64 y) rfl; have t3 := BT.cell 3 (v := .int .u8 t) rfl; have t4 := BT.cell 4 (v := .int .i64 z) rfl; have p0 := BP.cell 0 (v := .int .i64 a) rfl; have p1 := BP.cell 1 (v := .int .i64 b) rfl) | (go_at_call 141; refine (isFarC _ _).mono ?_; rintro e w' ⟨rfl, hw'⟩; subst w') | (go_at_call_of 142 (Value.int IntKind.i64 a); refine (liesC _ _ hx.1 hx.2 _).mono ?_; rintro e w' ⟨rfl, q1, hw'⟩; subst w'; have BT4 : Bo (w3.drewN q1) _ _ _ := BT.drew; have BP4 : Bo (w3.drewN q1) _ _ _ := BP.drew; have u0 := BT4.cell 0 (v := .int .u8 k) rfl; have u1 := BT4.cell 1 (v := .int .i64 x) rfl; have u2 := BT4.cell 2 (v := .int .i64 y) rfl; have u3 := BT4.cell 3 (v := .int .u8 t) rfl; have u4 := BT4.cell 4 (v := .int .i64 z) rfl; have v0 := BP4.cell 0 (v := .int .i64 a) rfl; have v1 := BP4.cell 1 (v := .int .i64 b) rfl) | (go_at_call 142; refine (liesC _ _ hy.1 hy.2 _).mono ?_; rintro e w' ⟨rfl, q2, hw'⟩; subst w'))
      go_ret2
      exact ⟨rfl, by first | exact G3 | exact gb_drewN G3 _ | exact gb_drewN (gb_drewN G3 _) _⟩
  | false =>
      go_enter Tryz.func136, Tryz.ntmps136
      go_wp2_with (first | (go_at_call 109; refine (checkC _ _ _ _ _ ht _).mono ?_; rintro e w3 ⟨rfl, g3⟩; have G3 := gb_trans G2 g3; have BT := B1'.kept g3 (by simp); have BP := B2.kept g3 (by simp); have t0 := BT.cell 0 (v := .int .u8 k) rfl; have t1 := BT.cell 1 (v := .int .i64 x) rfl; have t2 := BT.cell 2 (v := .int .i64 y) rfl; have t3 := BT.cell 3 (v := .int .u8 t) rfl; have t4 := BT.cell 4 (v := .int .i64 z) rfl; have p0 := BP.cell 0 (v := .int .i64 a) rfl; have p1 := BP.cell 1 (v := .int .i64 b) rfl) | (go_at_call 141; refine (isFarC _ _).mono ?_; rintro e w' ⟨rfl, hw'⟩; subst w') | (go_at_call_of 142 (Value.int IntKind.i64 a); refine (liesC _ _ hx.1 hx.2 _).mono ?_; rintro e w' ⟨rfl, q1, hw'⟩; subst w'; have BT4 : Bo (w3.drewN q1) _ _ _ := BT.drew; have BP4 : Bo (w3.drewN q1) _ _ _ := BP.drew; have u0 := BT4.cell 0 (v := .int .u8 k) rfl; have u1 := BT4.cell 1 (v := .int .i64 x) rfl; have u2 := BT4.cell 2 (v := .int .i64 y) rfl; have u3 := BT4.cell 3 (v := .int .u8 t) rfl; have u4 := BT4.cell 4 (v := .int .i64 z) rfl; have v0 := BP4.cell 0 (v := .int .i64 a) rfl; have v1 := BP4.cell 1 (v := .int .i64 b) rfl) | (go_at_call 142; refine (liesC _ _ hy.1 hy.2 _).mono ?_; rintro e w' ⟨rfl, q2, hw'⟩; subst w'))
      go_ret2
      exact ⟨rfl, by first | exact G3 | exact gb_drewN G3 _ | exact gb_drewN (gb_drewN G3 _) _⟩

theorem hasC (k x y t z a b : Int) (ht : 0 ≤ t) (w : World) : Calls Tryz.prog 136 #[.agg #[.int .u8 k, .int .i64 x, .int .i64 y, .int .u8 t, .int .i64 z], .agg #[.int .i64 a, .int .i64 b]] w fun e w' => e = .returned (.tuple #[.bool (hasV k x y t z a b), .int .i64 (hasE k x y t z a b)]) ∧ w.grownBy w' none := by
  by_cases h : Tp.chk k x y t z = 0
  · have ok := Tp.ok_of h
    cases hf : (frB a || frB b) with
    | true =>
      have e1 : hasE k x y t z a b = 5 := by unfold hasE; rw [if_pos h, if_pos hf]
      have e2 : hasV k x y t z a b = false := by unfold hasV; rw [e1]; rfl
      rw [e1, e2]
      exact hasFar k x y t z a b ht h hf w
    | false =>
      have e1 : hasE k x y t z a b = 0 := by unfold hasE; rw [if_pos h, if_neg (by rw [hf]; decide)]
      have e2 : hasV k x y t z a b = (liB a x && liB b y) := by unfold hasV; rw [e1]; rfl
      rw [e1, e2]
      rw [Bool.or_eq_false_iff] at hf
      exact hasYes k x y t z a b ht h hf.1 hf.2 ok.wide ok.high w
  · have e1 : hasE k x y t z a b = Tp.chk k x y t z := by unfold hasE; rw [if_neg h]
    have e2 : hasV k x y t z a b = false := by unfold hasV; rw [e1]; simp [h]
    rw [e1, e2]
    exact hasNo k x y t z a b ht h w
end Go.Proofs.YthjiiljglgmkpaaGreatDoor.To
