/- What Canon, Across, Endless, Home and Has of package topo answer, and the document's. -/
import Derived.Test.YtbmpiddjakdebaaGreatT3
import Derived.Deep.RegionWith
import Derived.Deep.QuietTactic
namespace Go.Proofs.YtbmpiddjakdebaaGreat.To
open Go.RowKit
set_option linter.unusedVariables false
set_option linter.unusedSimpArgs false
set_option maxRecDepth 100000

theorem ret_tb {a b : Int} {c d : Array Value} (h : c = d) (hp : a = b) : Ending.returned (.tuple #[.agg c, .int .i64 a]) = .returned (.tuple #[.agg d, .int .i64 b]) := by rw [h, hp]
theorem parts_up {a n : Int} (hn : 1 ≤ n) (h : 0 ≤ a.tmod n) : a.tmod n = a % n := by
  have h1 := Int.mul_tdiv_add_tmod a n
  have h2 := Int.tmod_lt_of_pos a (show (0:Int) < n by omega)
  exact ((Int.ediv_emod_unique (a := a) (b := n) (r := a.tmod n) (q := a.tdiv n) (by omega)).2 ⟨by omega, h, h2⟩).2.symm
theorem parts_down {a n : Int} (hn : 1 ≤ n) (h : a.tmod n < 0) : a.tmod n + n = a % n := by
  have h1 := Int.mul_tdiv_add_tmod a n
  have h2 := Int.lt_tmod_of_pos a (show (0:Int) < n by omega)
  exact ((Int.ediv_emod_unique (a := a) (b := n) (r := a.tmod n + n) (q := a.tdiv n - 1) (by omega)).2 ⟨by rw [Int.mul_sub]; omega, by omega, by omega⟩).2.symm
theorem ret_ib {k : IntKind} {a b : Int} {c d : Bool} (h : a = b) (hp : c = d) : Ending.returned (.tuple #[.int k a, .bool c]) = .returned (.tuple #[.int k b, .bool d]) := by rw [h, hp]
theorem ret_bi {k : IntKind} {a b : Int} {c d : Bool} (h : c = d) (hp : a = b) : Ending.returned (.tuple #[.bool c, .int k a]) = .returned (.tuple #[.bool d, .int k b]) := by rw [h, hp]

theorem modP (a n : Int) (w : World) (h3 : 1 ≤ n) (h4 : n ≤ 65536) :
    Calls Tryz.prog 77 #[.int .i64 a, .int .i64 n] w fun e w' => e = .returned (.tuple #[.int .i64 (a % n), .bool true]) ∧ w' = w := by
  by_cases hm : a.tmod n < 0
  · have hb := Int.lt_tmod_of_pos a (show (0:Int) < n by omega)
    go_enter Tryz.func77, Tryz.ntmps77
    go_wp2
    go_ret2
    exact ⟨ret_ib (parts_down h3 hm) rfl, rfl⟩
  · have hm1 : 0 ≤ a.tmod n := by omega
    clear hm
    go_enter Tryz.func77, Tryz.ntmps77
    go_wp2
    go_ret2
    exact ⟨ret_ib (parts_up h3 hm1) rfl, rfl⟩

def canZ (x y t z : Int) : Int := if t = 0 then z else z % (Tp.sd x y t)
theorem tS_sd {x y t : Int} (h0 : ¬ t = 0) (h2 : t ≤ 2) (ht : 0 ≤ t) : tS x y t = Tp.sd x y t := by
  unfold Tp.sd tS
  by_cases t1 : t = 1
  · rw [if_pos t1, if_neg (show ¬ t = 2 by omega)]
  · rw [if_neg t1, if_pos (show t = 2 by omega)]
theorem sd_bd {k x y t z : Int} (ok : Tp.Ok k x y t z) (h0 : ¬ t = 0) : 1 ≤ Tp.sd x y t ∧ Tp.sd x y t ≤ 65536 := by
  have h1 := ok.near h0
  have h2 := ok.wide
  have h3 := ok.high
  have : Tp.sd x y t ≤ 65536 := by unfold Tp.sd; split <;> omega
  omega
end Go.Proofs.YtbmpiddjakdebaaGreat.To
namespace Go.Proofs.YtbmpiddjakdebaaGreat.To
open Go.RowKit
set_option linter.unusedVariables false
set_option linter.unusedSimpArgs false
set_option maxRecDepth 100000

def acT (t : Int) : Int := if t = 1 then 2 else if t = 2 then 1 else t

set_option maxHeartbeats 1000000 in
theorem acrossNo (k x y t z : Int) (ht : 0 ≤ t) (h : ¬ Tp.chk k x y t z = 0) (w : World) : Calls Tryz.prog 53 #[.agg #[.int .u8 k, .int .i64 x, .int .i64 y, .int .u8 t, .int .i64 z]] w fun e w' => e = .returned (.tuple #[.agg #[.int .u8 0, .int .i64 0, .int .i64 0, .int .u8 0, .int .i64 0], .int .i64 (Tp.chk k x y t z)]) ∧ w.grownBy w' none := by
  obtain ⟨fs, hfs⟩ := underT
  obtain ⟨W1, hW1, sz1, g1, B1⟩ := boxn w #[.int .u8 k, .int .i64 x, .int .i64 y, .int .u8 t, .int .i64 z] 23
  obtain ⟨W2, hW2, sz2, g2, B2⟩ := boxn W1 #[.int .u8 0, .int .i64 0, .int .i64 0, .int .u8 0, .int .i64 0] 23
  have B1' := B1.kept g2 (by simp)
  have ne1 : w.heap.size ≠ W1.heap.size := by have := sz1.out; omega
  have HN : Hid (w.heap.size ≠ W1.heap.size) := ne1
  clear ne1
  have G2 := gb_trans g1 g2
  have c0 := B1'.cell 0 (v := .int .u8 k) rfl; have c1 := B1'.cell 1 (v := .int .i64 x) rfl; have c2 := B1'.cell 2 (v := .int .i64 y) rfl; have c3 := B1'.cell 3 (v := .int .u8 t) rfl; have c4 := B1'.cell 4 (v := .int .i64 z) rfl
  go_enter Tryz.func53, Tryz.ntmps53
  go_wp2_with (first | (go_at_call 72; refine (checkC _ _ _ _ _ ht _).mono ?_; rintro e w3 ⟨rfl, g3⟩; have G3 := gb_trans G2 g3; have BT := B1'.kept g3 (by simp); have BR := B2.kept g3 (by simp); have t0 := BT.cell 0 (v := .int .u8 k) rfl; have t1 := BT.cell 1 (v := .int .i64 x) rfl; have t2 := BT.cell 2 (v := .int .i64 y) rfl; have t3 := BT.cell 3 (v := .int .u8 t) rfl; have t4 := BT.cell 4 (v := .int .i64 z) rfl; have r0 := BR.cell 0 (v := .int .u8 0) rfl; have r1 := BR.cell 1 (v := .int .i64 0) rfl; have r2 := BR.cell 2 (v := .int .i64 0) rfl; have r3 := BR.cell 3 (v := .int .u8 0) rfl; have r4 := BR.cell 4 (v := .int .i64 0) rfl; have f0 := BR.frozen 0; have f1 := BR.frozen 1; have f2 := BR.frozen 2; have f3 := BR.frozen 3; have f4 := BR.frozen 4; have q0 := BT.frozen 0; have q1 := BT.frozen 1; have q2 := BT.frozen 2; have q3 := BT.frozen 3; have q4 := BT.frozen 4))
  refine ret_c2 (g := W1.heap.size) (cs := #[.int .u8 0, .int .i64 0, .int .i64 0, .int .u8 0, .int .i64 0]) rfl hfs infoT rfl ((((((BR).set 0 _).set 1 _).set 2 _).set 3 _).set 4 _) rfl ⟨ret_tb rfl ?_, gb_new (gb_new (gb_new (gb_new (gb_new (G3) g1.size _) g1.size _) g1.size _) g1.size _) g1.size _⟩
  rfl

set_option maxHeartbeats 1000000 in
theorem across0 (k x y z : Int) (ht : (0 : Int) ≤ 0) (h : Tp.chk k x y 0 z = 0) (w : World) : Calls Tryz.prog 53 #[.agg #[.int .u8 k, .int .i64 x, .int .i64 y, .int .u8 0, .int .i64 z]] w fun e w' => e = .returned (.tuple #[.agg #[.int .u8 k, .int .i64 y, .int .i64 x, .int .u8 0, .int .i64 z], .int .i64 0]) ∧ w.grownBy w' none := by
  obtain ⟨fs, hfs⟩ := underT
  obtain ⟨W1, hW1, sz1, g1, B1⟩ := boxn w #[.int .u8 k, .int .i64 x, .int .i64 y, .int .u8 0, .int .i64 z] 23
  obtain ⟨W2, hW2, sz2, g2, B2⟩ := boxn W1 #[.int .u8 0, .int .i64 0, .int .i64 0, .int .u8 0, .int .i64 0] 23
  have B1' := B1.kept g2 (by simp)
  have ne1 : w.heap.size ≠ W1.heap.size := by have := sz1.out; omega
  have HN : Hid (w.heap.size ≠ W1.heap.size) := ne1
  clear ne1
  have G2 := gb_trans g1 g2
  have c0 := B1'.cell 0 (v := .int .u8 k) rfl; have c1 := B1'.cell 1 (v := .int .i64 x) rfl; have c2 := B1'.cell 2 (v := .int .i64 y) rfl; have c3 := B1'.cell 3 (v := .int .u8 0) rfl; have c4 := B1'.cell 4 (v := .int .i64 z) rfl
  go_enter Tryz.func53, Tryz.ntmps53
  go_wp2_with (first | (go_at_call 72; refine (checkC _ _ _ _ _ ht _).mono ?_; rintro e w3 ⟨rfl, g3⟩; have G3 := gb_trans G2 g3; have BT := B1'.kept g3 (by simp); have BR := B2.kept g3 (by simp); have t0 := BT.cell 0 (v := .int .u8 k) rfl; have t1 := BT.cell 1 (v := .int .i64 x) rfl; have t2 := BT.cell 2 (v := .int .i64 y) rfl; have t3 := BT.cell 3 (v := .int .u8 0) rfl; have t4 := BT.cell 4 (v := .int .i64 z) rfl; have r0 := BR.cell 0 (v := .int .u8 0) rfl; have r1 := BR.cell 1 (v := .int .i64 0) rfl; have r2 := BR.cell 2 (v := .int .i64 0) rfl; have r3 := BR.cell 3 (v := .int .u8 0) rfl; have r4 := BR.cell 4 (v := .int .i64 0) rfl; have f0 := BR.frozen 0; have f1 := BR.frozen 1; have f2 := BR.frozen 2; have f3 := BR.frozen 3; have f4 := BR.frozen 4; have q0 := BT.frozen 0; have q1 := BT.frozen 1; have q2 := BT.frozen 2; have q3 := BT.frozen 3; have q4 := BT.frozen 4; obtain ⟨W4, hW4⟩ : ∃ W4, (w3.setCell ⟨w.heap.size, 1, none⟩ (.int .i64 y)).setCell ⟨w.heap.size, 2, none⟩ (.int .i64 x) = W4 := ⟨_, rfl⟩; have BT4 : Bo W4 w.heap.size 23 #[.int .u8 k, .int .i64 y, .int .i64 x, .int .u8 0, .int .i64 z] := hW4 ▸ (BT.set 1 _).set 2 _; have BR4 : Bo W4 W1.heap.size 23 #[.int .u8 0, .int .i64 0, .int .i64 0, .int .u8 0, .int .i64 0] := hW4 ▸ (BR.set2 HN.out).set2 HN.out; have G4 : w.grownBy W4 none := hW4 ▸ gb_new (gb_new G3 (Nat.le_refl _) _) (Nat.le_refl _) _; have u0 := BT4.cell 0 (v := .int .u8 k) rfl; have u1 := BT4.cell 1 (v := .int .i64 y) rfl; have u2 := BT4.cell 2 (v := .int .i64 x) rfl; have u3 := BT4.cell 3 (v := .int .u8 0) rfl; have u4 := BT4.cell 4 (v := .int .i64 z) rfl; have v0 := BR4.cell 0 (v := .int .u8 0) rfl; have v1 := BR4.cell 1 (v := .int .i64 0) rfl; have v2 := BR4.cell 2 (v := .int .i64 0) rfl; have v3 := BR4.cell 3 (v := .int .u8 0) rfl; have v4 := BR4.cell 4 (v := .int .i64 0) rfl; have x0 := BR4.frozen 0; have x1 := BR4.frozen 1; have x2 := BR4.frozen 2; have x3 := BR4.frozen 3; have x4 := BR4.frozen 4; have y0 := BT4.frozen 0; have y1 := BT4.frozen 1; have y2 := BT4.frozen 2; have y3 := BT4.frozen 3; have y4 := BT4.frozen 4))
  refine ret_c2 (g := W1.heap.size) (cs := #[.int .u8 k, .int .i64 y, .int .i64 x, .int .u8 0, .int .i64 z]) rfl hfs infoT rfl ((((((BR4).set 0 _).set 1 _).set 2 _).set 3 _).set 4 _) rfl ⟨ret_tb rfl ?_, gb_new (gb_new (gb_new (gb_new (gb_new (G4) g1.size _) g1.size _) g1.size _) g1.size _) g1.size _⟩
  rfl

set_option maxHeartbeats 1000000 in
theorem across1 (k x y z : Int) (ht : (0 : Int) ≤ 1) (h : Tp.chk k x y 1 z = 0) (w : World) : Calls Tryz.prog 53 #[.agg #[.int .u8 k, .int .i64 x, .int .i64 y, .int .u8 1, .int .i64 z]] w fun e w' => e = .returned (.tuple #[.agg #[.int .u8 k, .int .i64 y, .int .i64 x, .int .u8 2, .int .i64 z], .int .i64 0]) ∧ w.grownBy w' none := by
  obtain ⟨fs, hfs⟩ := underT
  obtain ⟨W1, hW1, sz1, g1, B1⟩ := boxn w #[.int .u8 k, .int .i64 x, .int .i64 y, .int .u8 1, .int .i64 z] 23
  obtain ⟨W2, hW2, sz2, g2, B2⟩ := boxn W1 #[.int .u8 0, .int .i64 0, .int .i64 0, .int .u8 0, .int .i64 0] 23
  have B1' := B1.kept g2 (by simp)
  have ne1 : w.heap.size ≠ W1.heap.size := by have := sz1.out; omega
  have HN : Hid (w.heap.size ≠ W1.heap.size) := ne1
  clear ne1
  have G2 := gb_trans g1 g2
  have c0 := B1'.cell 0 (v := .int .u8 k) rfl; have c1 := B1'.cell 1 (v := .int .i64 x) rfl; have c2 := B1'.cell 2 (v := .int .i64 y) rfl; have c3 := B1'.cell 3 (v := .int .u8 1) rfl; have c4 := B1'.cell 4 (v := .int .i64 z) rfl
  go_enter Tryz.func53, Tryz.ntmps53
  go_wp2_with (first | (go_at_call 72; refine (checkC _ _ _ _ _ ht _).mono ?_; rintro e w3 ⟨rfl, g3⟩; have G3 := gb_trans G2 g3; have BT := B1'.kept g3 (by simp); have BR := B2.kept g3 (by simp); have t0 := BT.cell 0 (v := .int .u8 k) rfl; have t1 := BT.cell 1 (v := .int .i64 x) rfl; have t2 := BT.cell 2 (v := .int .i64 y) rfl; have t3 := BT.cell 3 (v := .int .u8 1) rfl; have t4 := BT.cell 4 (v := .int .i64 z) rfl; have r0 := BR.cell 0 (v := .int .u8 0) rfl; have r1 := BR.cell 1 (v := .int .i64 0) rfl; have r2 := BR.cell 2 (v := .int .i64 0) rfl; have r3 := BR.cell 3 (v := .int .u8 0) rfl; have r4 := BR.cell 4 (v := .int .i64 0) rfl; have f0 := BR.frozen 0; have f1 := BR.frozen 1; have f2 := BR.frozen 2; have f3 := BR.frozen 3; have f4 := BR.frozen 4; have q0 := BT.frozen 0; have q1 := BT.frozen 1; have q2 := BT.frozen 2; have q3 := BT.frozen 3; have q4 := BT.frozen 4; obtain ⟨W4, hW4⟩ : ∃ W4, (w3.setCell ⟨w.heap.size, 1, none⟩ (.int .i64 y)).setCell ⟨w.heap.size, 2, none⟩ (.int .i64 x) = W4 := ⟨_, rfl⟩; have BT4 : Bo W4 w.heap.size 23 #[.int .u8 k, .int .i64 y, .int .i64 x, .int .u8 1, .int .i64 z] := hW4 ▸ (BT.set 1 _).set 2 _; have BR4 : Bo W4 W1.heap.size 23 #[.int .u8 0, .int .i64 0, .int .i64 0, .int .u8 0, .int .i64 0] := hW4 ▸ (BR.set2 HN.out).set2 HN.out; have G4 : w.grownBy W4 none := hW4 ▸ gb_new (gb_new G3 (Nat.le_refl _) _) (Nat.le_refl _) _; have u0 := BT4.cell 0 (v := .int .u8 k) rfl; have u1 := BT4.cell 1 (v := .int .i64 y) rfl; have u2 := BT4.cell 2 (v := .int .i64 x) rfl; have u3 := BT4.cell 3 (v := .int .u8 1) rfl; have u4 := BT4.cell 4 (v := .int .i64 z) rfl; have v0 := BR4.cell 0 (v := .int .u8 0) rfl; have v1 := BR4.cell 1 (v := .int .i64 0) rfl; have v2 := BR4.cell 2 (v := .int .i64 0) rfl; have v3 := BR4.cell 3 (v := .int .u8 0) rfl; have v4 := BR4.cell 4 (v := .int .i64 0) rfl; have x0 := BR4.frozen 0; have x1 := BR4.frozen 1; have x2 := BR4.frozen 2; have x3 := BR4.frozen 3; have x4 := BR4.frozen 4; have y0 := BT4.frozen 0; have y1 := BT4.frozen 1; have y2 := BT4.frozen 2; have y3 := BT4.frozen 3; have y4 := BT4.frozen 4; obtain ⟨W5, hW5⟩ : ∃ W5, W4.setCell ⟨w.heap.size, 3, none⟩ (.int .u8 2) = W5 := ⟨_, rfl⟩; have BT5 : Bo W5 w.heap.size 23 #[.int .u8 k, .int .i64 y, .int .i64 x, .int .u8 2, .int .i64 z] := hW5 ▸ BT4.set 3 _; have BR5 : Bo W5 W1.heap.size 23 #[.int .u8 0, .int .i64 0, .int .i64 0, .int .u8 0, .int .i64 0] := hW5 ▸ BR4.set2 HN.out; have G5 : w.grownBy W5 none := hW5 ▸ gb_new G4 (Nat.le_refl _) _; have s0 := BT5.cell 0 (v := .int .u8 k) rfl; have s1 := BT5.cell 1 (v := .int .i64 y) rfl; have s2 := BT5.cell 2 (v := .int .i64 x) rfl; have s3 := BT5.cell 3 (v := .int .u8 2) rfl; have s4 := BT5.cell 4 (v := .int .i64 z) rfl; have p0 := BR5.cell 0 (v := .int .u8 0) rfl; have p1 := BR5.cell 1 (v := .int .i64 0) rfl; have p2 := BR5.cell 2 (v := .int .i64 0) rfl; have p3 := BR5.cell 3 (v := .int .u8 0) rfl; have p4 := BR5.cell 4 (v := .int .i64 0) rfl; have j0 := BR5.frozen 0; have j1 := BR5.frozen 1; have j2 := BR5.frozen 2; have j3 := BR5.frozen 3; have j4 := BR5.frozen 4))
  refine ret_c2 (g := W1.heap.size) (cs := #[.int .u8 k, .int .i64 y, .int .i64 x, .int .u8 2, .int .i64 z]) rfl hfs infoT rfl ((((((BR5).set 0 _).set 1 _).set 2 _).set 3 _).set 4 _) rfl ⟨ret_tb rfl ?_, gb_new (gb_new (gb_new (gb_new (gb_new (G5) g1.size _) g1.size _) g1.size _) g1.size _) g1.size _⟩
  rfl

set_option maxHeartbeats 1000000 in
theorem across2 (k x y z : Int) (ht : (0 : Int) ≤ 2) (h : Tp.chk k x y 2 z = 0) (w : World) : Calls Tryz.prog 53 #[.agg #[.int .u8 k, .int .i64 x, .int .i64 y, .int .u8 2, .int .i64 z]] w fun e w' => e = .returned (.tuple #[.agg #[.int .u8 k, .int .i64 y, .int .i64 x, .int .u8 1, .int .i64 z], .int .i64 0]) ∧ w.grownBy w' none := by
  obtain ⟨fs, hfs⟩ := underT
  obtain ⟨W1, hW1, sz1, g1, B1⟩ := boxn w #[.int .u8 k, .int .i64 x, .int .i64 y, .int .u8 2, .int .i64 z] 23
  obtain ⟨W2, hW2, sz2, g2, B2⟩ := boxn W1 #[.int .u8 0, .int .i64 0, .int .i64 0, .int .u8 0, .int .i64 0] 23
  have B1' := B1.kept g2 (by simp)
  have ne1 : w.heap.size ≠ W1.heap.size := by have := sz1.out; omega
  have HN : Hid (w.heap.size ≠ W1.heap.size) := ne1
  clear ne1
  have G2 := gb_trans g1 g2
  have c0 := B1'.cell 0 (v := .int .u8 k) rfl; have c1 := B1'.cell 1 (v := .int .i64 x) rfl; have c2 := B1'.cell 2 (v := .int .i64 y) rfl; have c3 := B1'.cell 3 (v := .int .u8 2) rfl; have c4 := B1'.cell 4 (v := .int .i64 z) rfl
  go_enter Tryz.func53, Tryz.ntmps53
  go_wp2_with (first | (go_at_call 72; refine (checkC _ _ _ _ _ ht _).mono ?_; rintro e w3 ⟨rfl, g3⟩; have G3 := gb_trans G2 g3; have BT := B1'.kept g3 (by simp); have BR := B2.kept g3 (by simp); have t0 := BT.cell 0 (v := .int .u8 k) rfl; have t1 := BT.cell 1 (v := .int .i64 x) rfl; have t2 := BT.cell 2 (v := .int .i64 y) rfl; have t3 := BT.cell 3 (v := .int .u8 2) rfl; have t4 := BT.cell 4 (v := .int .i64 z) rfl; have r0 := BR.cell 0 (v := .int .u8 0) rfl; have r1 := BR.cell 1 (v := .int .i64 0) rfl; have r2 := BR.cell 2 (v := .int .i64 0) rfl; have r3 := BR.cell 3 (v := .int .u8 0) rfl; have r4 := BR.cell 4 (v := .int .i64 0) rfl; have f0 := BR.frozen 0; have f1 := BR.frozen 1; have f2 := BR.frozen 2; have f3 := BR.frozen 3; have f4 := BR.frozen 4; have q0 := BT.frozen 0; have q1 := BT.frozen 1; have q2 := BT.frozen 2; have q3 := BT.frozen 3; have q4 := BT.frozen 4; obtain ⟨W4, hW4⟩ : ∃ W4, (w3.setCell ⟨w.heap.size, 1, none⟩ (.int .i64 y)).setCell ⟨w.heap.size, 2, none⟩ (.int .i64 x) = W4 := ⟨_, rfl⟩; have BT4 : Bo W4 w.heap.size 23 #[.int .u8 k, .int .i64 y, .int .i64 x, .int .u8 2, .int .i64 z] := hW4 ▸ (BT.set 1 _).set 2 _; have BR4 : Bo W4 W1.heap.size 23 #[.int .u8 0, .int .i64 0, .int .i64 0, .int .u8 0, .int .i64 0] := hW4 ▸ (BR.set2 HN.out).set2 HN.out; have G4 : w.grownBy W4 none := hW4 ▸ gb_new (gb_new G3 (Nat.le_refl _) _) (Nat.le_refl _) _; have u0 := BT4.cell 0 (v := .int .u8 k) rfl; have u1 := BT4.cell 1 (v := .int .i64 y) rfl; have u2 := BT4.cell 2 (v := .int .i64 x) rfl; have u3 := BT4.cell 3 (v := .int .u8 2) rfl; have u4 := BT4.cell 4 (v := .int .i64 z) rfl; have v0 := BR4.cell 0 (v := .int .u8 0) rfl; have v1 := BR4.cell 1 (v := .int .i64 0) rfl; have v2 := BR4.cell 2 (v := .int .i64 0) rfl; have v3 := BR4.cell 3 (v := .int .u8 0) rfl; have v4 := BR4.cell 4 (v := .int .i64 0) rfl; have x0 := BR4.frozen 0; have x1 := BR4.frozen 1; have x2 := BR4.frozen 2; have x3 := BR4.frozen 3; have x4 := BR4.frozen 4; have y0 := BT4.frozen 0; have y1 := BT4.frozen 1; have y2 := BT4.frozen 2; have y3 := BT4.frozen 3; have y4 := BT4.frozen 4; obtain ⟨W5, hW5⟩ : ∃ W5, W4.setCell ⟨w.heap.size, 3, none⟩ (.int .u8 1) = W5 := ⟨_, rfl⟩; have BT5 : Bo W5 w.heap.size 23 #[.int .u8 k, .int .i64 y, .int .i64 x, .int .u8 1, .int .i64 z] := hW5 ▸ BT4.set 3 _; have BR5 : Bo W5 W1.heap.size 23 #[.int .u8 0, .int .i64 0, .int .i64 0, .int .u8 0, .int .i64 0] := hW5 ▸ BR4.set2 HN.out; have G5 : w.grownBy W5 none := hW5 ▸ gb_new G4 (Nat.le_refl _) _; have s0 := BT5.cell 0 (v := .int .u8 k) rfl; have s1 := BT5.cell 1 (v := .int .i64 y) rfl; have s2 := BT5.cell 2 (v := .int .i64 x) rfl; have s3 := BT5.cell 3 (v := .int .u8 1) rfl; have s4 := BT5.cell 4 (v := .int .i64 z) rfl; have p0 := BR5.cell 0 (v := .int .u8 0) rfl; have p1 := BR5.cell 1 (v := .int .i64 0) rfl; have p2 := BR5.cell 2 (v := .int .i64 0) rfl; have p3 := BR5.cell 3 (v := .int .u8 0) rfl; have p4 := BR5.cell 4 (v := .int .i64 0) rfl; have j0 := BR5.frozen 0; have j1 := BR5.frozen 1; have j2 := BR5.frozen 2; have j3 := BR5.frozen 3; have j4 := BR5.frozen 4))
  refine ret_c2 (g := W1.heap.size) (cs := #[.int .u8 k, .int .i64 y, .int .i64 x, .int .u8 1, .int .i64 z]) rfl hfs infoT rfl ((((((BR5).set 0 _).set 1 _).set 2 _).set 3 _).set 4 _) rfl ⟨ret_tb rfl ?_, gb_new (gb_new (gb_new (gb_new (gb_new (G5) g1.size _) g1.size _) g1.size _) g1.size _) g1.size _⟩
  rfl

def acrossV (k x y t z : Int) : Array Value := if Tp.chk k x y t z = 0 then #[.int .u8 k, .int .i64 y, .int .i64 x, .int .u8 (acT t), .int .i64 z] else #[.int .u8 0, .int .i64 0, .int .i64 0, .int .u8 0, .int .i64 0]
theorem acrossC (k x y t z : Int) (ht : 0 ≤ t) (w : World) : Calls Tryz.prog 53 #[.agg #[.int .u8 k, .int .i64 x, .int .i64 y, .int .u8 t, .int .i64 z]] w fun e w' => e = .returned (.tuple #[.agg (acrossV k x y t z), .int .i64 (Tp.chk k x y t z)]) ∧ w.grownBy w' none := by
  unfold acrossV
  by_cases h : Tp.chk k x y t z = 0
  · have ok := Tp.ok_of h
    have h2 := ok.turn
    rw [if_pos h, h]
    obtain h3 | h3 | h3 : t = 0 ∨ t = 1 ∨ t = 2 := by omega
    · subst h3; exact across0 k x y z (by omega) h w
    · subst h3; exact across1 k x y z (by omega) h w
    · subst h3; exact across2 k x y z (by omega) h w
  · rw [if_neg h]
    exact acrossNo k x y t z ht h w

theorem underR : ∃ fs, Tryz.prog.underlying 60 = some (.struct fs) := by
  first | exact ⟨_, Tryz.underlying60⟩ | exact ⟨_, by kernel_rfl⟩
theorem infoR : (Tryz.prog.info? 60).map (·.size) = some 4 := by kernel_rfl
theorem mixed : Tryz.prog.follows .mixedOrders = true := by kernel_rfl
def fi (n : Int) : Int := -(n / 2)
theorem half_is {n : Int} (h : 0 ≤ n) : n.tdiv 2 = n / 2 := Int.tdiv_eq_ediv_of_nonneg h
def frB (n : Int) : Bool := decide (n < -1099511627776) || decide (1099511627776 < n)
def liB (n l : Int) : Bool := decide (l = 0) || (decide (fi l ≤ n) && decide (n < fi l + l))

theorem firstC (n : Int) (h0 : 0 ≤ n) (h1 : n ≤ 65536) (w : World) : Calls Tryz.prog 73 #[.int .i64 n] w fun e w' => e = .returned (.int .i64 (fi n)) ∧ w' = w := by
  have h2 := half_is h0
  have h3 : IntKind.i64.wrap (-(n / 2)) = -(n / 2) := by rw [IntKind.wrap_i64]; omega
  have h4 : IntKind.i64.wrap (n / 2) = n / 2 := by rw [IntKind.wrap_i64]; omega
  go_enter Tryz.func73, Tryz.ntmps73
  go_wp2
  go_ret
  exact ⟨retI (by first | rfl | (unfold fi; omega)), rfl⟩

theorem isFarC (n : Int) (w : World) : Calls Tryz.prog 81 #[.int .i64 n] w fun e w' => e = .returned (.bool (frB n)) ∧ w' = w := by
  by_cases h1 : n < -1099511627776 <;> by_cases h2 : 1099511627776 < n
  all_goals
    go_enter Tryz.func81, Tryz.ntmps81
    go_wp2
    all_goals go_ret
    all_goals refine ⟨retB ?_, rfl⟩
    all_goals simp [frB, h1, h2]

theorem liesC (n l : Int) (h0 : 0 ≤ l) (h1 : l ≤ 65536) (w : World) : Calls Tryz.prog 82 #[.int .i64 n, .int .i64 l] w fun e w' => e = .returned (.bool (liB n l)) ∧ ∃ q, w' = w.drewN q := by
  have hb : -32768 ≤ fi l ∧ fi l ≤ 0 := by unfold fi; omega
  have hw : IntKind.i64.wrap (fi l + l) = fi l + l := by rw [IntKind.wrap_i64]; omega
  cases h2 : (l == 0) with
  | true =>
    have h3 : l = 0 := by simpa using h2
    clear h2
    subst h3
    go_enter Tryz.func82, Tryz.ntmps82
    go_wp2
    go_ret
    exact ⟨retB (by simp [liB]), 0, rfl⟩
  | false =>
    have h3 : ¬ l = 0 := by simpa using h2
    by_cases h4 : fi l ≤ n <;> by_cases h5 : n < fi l + l
    all_goals
      go_enter Tryz.func82, Tryz.ntmps82
      go_wp2_with (go_at_call 73; refine (firstC _ h0 h1 _).mono ?_; rintro e w' ⟨rfl, rfl⟩)
      all_goals (try (go_quiet (first | (go_at_call 73; refine Calls.quiet_of_same (firstC _ h0 h1 _))); go_wp2_with (go_at_call 73; refine (firstC _ h0 h1 _).mono ?_; rintro e w' ⟨rfl, rfl⟩)))
      all_goals (try (go_quiet (first | (go_at_call 73; refine Calls.quiet_of_same (firstC _ h0 h1 _))); go_wp2_with (go_at_call 73; refine (firstC _ h0 h1 _).mono ?_; rintro e w' ⟨rfl, rfl⟩)))
      all_goals go_ret
      all_goals refine ⟨retB (by simp [liB, h3, h4, h5]), by first | exact ⟨0, rfl⟩ | exact ⟨_, rfl⟩⟩

theorem ret_bbi {a b c d : Bool} {i j : Int} (h1 : a = b) (h2 : c = d) (h3 : i = j) : Ending.returned (.tuple #[.bool a, .bool c, .int .i64 i]) = .returned (.tuple #[.bool b, .bool d, .int .i64 j]) := by rw [h1, h2, h3]
def enB (k x y t z n : Int) : Bool := decide (Tp.chk k x y t z = 0) && decide (n = 0)

theorem endlC (k x y t z : Int) (ht : 0 ≤ t) (w : World) : Calls Tryz.prog 70 #[.agg #[.int .u8 k, .int .i64 x, .int .i64 y, .int .u8 t, .int .i64 z]] w fun e w' => e = .returned (.tuple #[.bool (enB k x y t z x), .bool (enB k x y t z y), .int .i64 (Tp.chk k x y t z)]) ∧ w.grownBy w' none := by
  obtain ⟨W1, hW1, sz1, g1, B1⟩ := boxn w #[.int .u8 k, .int .i64 x, .int .i64 y, .int .u8 t, .int .i64 z] 23
  have c0 := B1.cell 0 (v := .int .u8 k) rfl; have c1 := B1.cell 1 (v := .int .i64 x) rfl; have c2 := B1.cell 2 (v := .int .i64 y) rfl; have c3 := B1.cell 3 (v := .int .u8 t) rfl; have c4 := B1.cell 4 (v := .int .i64 z) rfl
  by_cases h : Tp.chk k x y t z = 0
  · have HC : Hid (0 = Tp.chk k x y t z) := h.symm
    go_enter Tryz.func70, Tryz.ntmps70
    go_wp2_with (first | (go_at_call 72; refine (checkC _ _ _ _ _ ht _).mono ?_; rintro e w3 ⟨rfl, g3⟩; have BT := B1.kept g3 (by simp); have t0 := BT.cell 0 (v := .int .u8 k) rfl; have t1 := BT.cell 1 (v := .int .i64 x) rfl; have t2 := BT.cell 2 (v := .int .i64 y) rfl; have t3 := BT.cell 3 (v := .int .u8 t) rfl; have t4 := BT.cell 4 (v := .int .i64 z) rfl))
    first | go_ret2 | go_ret3 | go_ret | (go_quiet (fail); go_wp2; first | go_ret2 | go_ret3 | go_ret)
    exact ⟨ret_bbi (by unfold enB; rw [h]; rfl) (by unfold enB; rw [h]; rfl) HC.out, by first | exact gb_trans g1 g3 | exact gb_drewN (gb_trans g1 g3) _⟩
  · have HX : Hid (enB k x y t z x = false ∧ enB k x y t z y = false) := by unfold Hid enB; simp [h]
    go_enter Tryz.func70, Tryz.ntmps70
    go_wp2_with (first | (go_at_call 72; refine (checkC _ _ _ _ _ ht _).mono ?_; rintro e w3 ⟨rfl, g3⟩; have BT := B1.kept g3 (by simp); have t0 := BT.cell 0 (v := .int .u8 k) rfl; have t1 := BT.cell 1 (v := .int .i64 x) rfl; have t2 := BT.cell 2 (v := .int .i64 y) rfl; have t3 := BT.cell 3 (v := .int .u8 t) rfl; have t4 := BT.cell 4 (v := .int .i64 z) rfl))
    first | go_ret2 | go_ret3 | go_ret
    exact ⟨ret_bbi HX.out.1.symm HX.out.2.symm rfl, gb_trans g1 g3⟩

def homeV (k x y t z : Int) : Array Value := if Tp.chk k x y t z = 0 then #[.int .i64 (fi x), .int .i64 (fi y), .int .i64 x, .int .i64 y] else #[.int .i64 0, .int .i64 0, .int .i64 0, .int .i64 0]

set_option maxHeartbeats 1000000 in
theorem homeNo (k x y t z : Int) (ht : 0 ≤ t) (h : ¬ Tp.chk k x y t z = 0) (w : World) : Calls Tryz.prog 54 #[.agg #[.int .u8 k, .int .i64 x, .int .i64 y, .int .u8 t, .int .i64 z]] w fun e w' => e = .returned (.tuple #[.agg #[.int .i64 0, .int .i64 0, .int .i64 0, .int .i64 0], .int .i64 (Tp.chk k x y t z)]) ∧ w.grownBy w' none := by
  obtain ⟨fs, hfs⟩ := underR
  obtain ⟨W1, hW1, sz1, g1, B1⟩ := boxn w #[.int .u8 k, .int .i64 x, .int .i64 y, .int .u8 t, .int .i64 z] 23
  obtain ⟨W2, hW2, sz2, g2, B2⟩ := boxn W1 #[.int .i64 0, .int .i64 0, .int .i64 0, .int .i64 0] 60
  have B1' := B1.kept g2 (by simp)
  have G2 := gb_trans g1 g2
  have c0 := B1'.cell 0 (v := .int .u8 k) rfl; have c1 := B1'.cell 1 (v := .int .i64 x) rfl; have c2 := B1'.cell 2 (v := .int .i64 y) rfl; have c3 := B1'.cell 3 (v := .int .u8 t) rfl; have c4 := B1'.cell 4 (v := .int .i64 z) rfl
  go_enter Tryz.func54, Tryz.ntmps54
  go_wp2_with (first | (go_at_call 72; refine (checkC _ _ _ _ _ ht _).mono ?_; rintro e w3 ⟨rfl, g3⟩; have G3 := gb_trans G2 g3; have BT := B1'.kept g3 (by simp); have BR := B2.kept g3 (by simp); have t0 := BT.cell 0 (v := .int .u8 k) rfl; have t1 := BT.cell 1 (v := .int .i64 x) rfl; have t2 := BT.cell 2 (v := .int .i64 y) rfl; have t3 := BT.cell 3 (v := .int .u8 t) rfl; have t4 := BT.cell 4 (v := .int .i64 z) rfl; have r0 := BR.cell 0 (v := .int .i64 0) rfl; have r1 := BR.cell 1 (v := .int .i64 0) rfl; have r2 := BR.cell 2 (v := .int .i64 0) rfl; have r3 := BR.cell 3 (v := .int .i64 0) rfl; have f0 := BR.frozen 0; have f1 := BR.frozen 1; have f2 := BR.frozen 2; have f3 := BR.frozen 3))
  refine ret_c2 (g := W1.heap.size) (cs := #[.int .i64 0, .int .i64 0, .int .i64 0, .int .i64 0]) rfl hfs infoR rfl (((((BR).set 0 _).set 1 _).set 2 _).set 3 _) rfl ⟨ret_tb rfl ?_, gb_new (gb_new (gb_new (gb_new (G3) g1.size _) g1.size _) g1.size _) g1.size _⟩
  rfl
set_option maxHeartbeats 1000000 in
theorem homeYes (k x y t z : Int) (ht : 0 ≤ t) (h : Tp.chk k x y t z = 0) (hx : 0 ≤ x ∧ x ≤ 65536) (hy : 0 ≤ y ∧ y ≤ 65536) (w : World) : Calls Tryz.prog 54 #[.agg #[.int .u8 k, .int .i64 x, .int .i64 y, .int .u8 t, .int .i64 z]] w fun e w' => e = .returned (.tuple #[.agg #[.int .i64 (fi x), .int .i64 (fi y), .int .i64 x, .int .i64 y], .int .i64 0]) ∧ w.grownBy w' none := by
  have d1 := half_is hx.1
  have d2 := half_is hy.1
  have d3 : IntKind.i64.wrap (-(x / 2)) = fi x := by unfold fi; rw [IntKind.wrap_i64]; omega
  have d4 : IntKind.i64.wrap (-(y / 2)) = fi y := by unfold fi; rw [IntKind.wrap_i64]; omega
  have d5 : IntKind.i64.wrap (x / 2) = x / 2 := by rw [IntKind.wrap_i64]; omega
  have d6 : IntKind.i64.wrap (y / 2) = y / 2 := by rw [IntKind.wrap_i64]; omega
  obtain ⟨fs, hfs⟩ := underR
  obtain ⟨W1, hW1, sz1, g1, B1⟩ := boxn w #[.int .u8 k, .int .i64 x, .int .i64 y, .int .u8 t, .int .i64 z] 23
  obtain ⟨W2, hW2, sz2, g2, B2⟩ := boxn W1 #[.int .i64 0, .int .i64 0, .int .i64 0, .int .i64 0] 60
  have B1' := B1.kept g2 (by simp)
  have G2 := gb_trans g1 g2
  have c0 := B1'.cell 0 (v := .int .u8 k) rfl; have c1 := B1'.cell 1 (v := .int .i64 x) rfl; have c2 := B1'.cell 2 (v := .int .i64 y) rfl; have c3 := B1'.cell 3 (v := .int .u8 t) rfl; have c4 := B1'.cell 4 (v := .int .i64 z) rfl
  go_enter Tryz.func54, Tryz.ntmps54
  go_wp2_with (first | (go_at_call 72; refine (checkC _ _ _ _ _ ht _).mono ?_; rintro e w3 ⟨rfl, g3⟩; have G3 := gb_trans G2 g3; have BT := B1'.kept g3 (by simp); have BR := B2.kept g3 (by simp); have t0 := BT.cell 0 (v := .int .u8 k) rfl; have t1 := BT.cell 1 (v := .int .i64 x) rfl; have t2 := BT.cell 2 (v := .int .i64 y) rfl; have t3 := BT.cell 3 (v := .int .u8 t) rfl; have t4 := BT.cell 4 (v := .int .i64 z) rfl; have r0 := BR.cell 0 (v := .int .i64 0) rfl; have r1 := BR.cell 1 (v := .int .i64 0) rfl; have r2 := BR.cell 2 (v := .int .i64 0) rfl; have r3 := BR.cell 3 (v := .int .i64 0) rfl; have f0 := BR.frozen 0; have f1 := BR.frozen 1; have f2 := BR.frozen 2; have f3 := BR.frozen 3))
  refine region_tail 11 mixed (by kernel_rfl) ?_
  simp only [List.take_succ_cons, List.take_zero, List.drop_succ_cons, List.drop_zero]
  repeat still_step
  still_call (firstC x hx.1 hx.2 _)
  repeat still_step
  still_call (firstC y hy.1 hy.2 _)
  repeat still_step
  refine wpStill_nil ?_
  go_wp2
  refine ret_c2 (g := W1.heap.size) (cs := #[.int .i64 (fi x), .int .i64 (fi y), .int .i64 x, .int .i64 y]) rfl hfs infoR rfl (((((BR.dr).set 0 _).set 1 _).set 2 _).set 3 _) rfl ⟨ret_tb rfl ?_, gb_new (gb_new (gb_new (gb_new (gb_drew G3) g1.size _) g1.size _) g1.size _) g1.size _⟩
  rfl
theorem homeC (k x y t z : Int) (ht : 0 ≤ t) (w : World) : Calls Tryz.prog 54 #[.agg #[.int .u8 k, .int .i64 x, .int .i64 y, .int .u8 t, .int .i64 z]] w fun e w' => e = .returned (.tuple #[.agg (homeV k x y t z), .int .i64 (Tp.chk k x y t z)]) ∧ w.grownBy w' none := by
  unfold homeV
  by_cases h : Tp.chk k x y t z = 0
  · have ok := Tp.ok_of h
    rw [if_pos h, h]
    exact homeYes k x y t z ht h ok.wide ok.high w
  · rw [if_neg h]
    exact homeNo k x y t z ht h w

def hasE (k x y t z a b : Int) : Int := if Tp.chk k x y t z = 0 then (if (frB a || frB b) = true then 5 else 0) else Tp.chk k x y t z
def hasV (k x y t z a b : Int) : Bool := decide (hasE k x y t z a b = 0) && (liB a x && liB b y)

set_option maxHeartbeats 1000000 in
theorem hasNo (k x y t z a b : Int) (ht : 0 ≤ t) (h : ¬ Tp.chk k x y t z = 0) (w : World) : Calls Tryz.prog 71 #[.agg #[.int .u8 k, .int .i64 x, .int .i64 y, .int .u8 t, .int .i64 z], .agg #[.int .i64 a, .int .i64 b]] w fun e w' => e = .returned (.tuple #[.bool false, .int .i64 (Tp.chk k x y t z)]) ∧ w.grownBy w' none := by
  obtain ⟨W1, hW1, sz1, g1, B1⟩ := boxn w #[.int .u8 k, .int .i64 x, .int .i64 y, .int .u8 t, .int .i64 z] 23
  obtain ⟨W2, hW2, sz2, g2, B2⟩ := boxn W1 #[.int .i64 a, .int .i64 b] 40
  have B1' := B1.kept g2 (by simp)
  have G2 := gb_trans g1 g2
  have c0 := B1'.cell 0 (v := .int .u8 k) rfl; have c1 := B1'.cell 1 (v := .int .i64 x) rfl; have c2 := B1'.cell 2 (v := .int .i64 y) rfl; have c3 := B1'.cell 3 (v := .int .u8 t) rfl; have c4 := B1'.cell 4 (v := .int .i64 z) rfl
  go_enter Tryz.func71, Tryz.ntmps71
  go_wp2_with (first | (go_at_call 72; refine (checkC _ _ _ _ _ ht _).mono ?_; rintro e w3 ⟨rfl, g3⟩; have G3 := gb_trans G2 g3; have BT := B1'.kept g3 (by simp); have BP := B2.kept g3 (by simp); have t0 := BT.cell 0 (v := .int .u8 k) rfl; have t1 := BT.cell 1 (v := .int .i64 x) rfl; have t2 := BT.cell 2 (v := .int .i64 y) rfl; have t3 := BT.cell 3 (v := .int .u8 t) rfl; have t4 := BT.cell 4 (v := .int .i64 z) rfl; have p0 := BP.cell 0 (v := .int .i64 a) rfl; have p1 := BP.cell 1 (v := .int .i64 b) rfl))
  go_ret2
  exact ⟨rfl, G3⟩
set_option maxHeartbeats 1000000 in
theorem hasFar (k x y t z a b : Int) (ht : 0 ≤ t) (h : Tp.chk k x y t z = 0) (hf : (frB a || frB b) = true) (w : World) : Calls Tryz.prog 71 #[.agg #[.int .u8 k, .int .i64 x, .int .i64 y, .int .u8 t, .int .i64 z], .agg #[.int .i64 a, .int .i64 b]] w fun e w' => e = .returned (.tuple #[.bool false, .int .i64 5]) ∧ w.grownBy w' none := by
  obtain ⟨W1, hW1, sz1, g1, B1⟩ := boxn w #[.int .u8 k, .int .i64 x, .int .i64 y, .int .u8 t, .int .i64 z] 23
  obtain ⟨W2, hW2, sz2, g2, B2⟩ := boxn W1 #[.int .i64 a, .int .i64 b] 40
  have B1' := B1.kept g2 (by simp)
  have G2 := gb_trans g1 g2
  have c0 := B1'.cell 0 (v := .int .u8 k) rfl; have c1 := B1'.cell 1 (v := .int .i64 x) rfl; have c2 := B1'.cell 2 (v := .int .i64 y) rfl; have c3 := B1'.cell 3 (v := .int .u8 t) rfl; have c4 := B1'.cell 4 (v := .int .i64 z) rfl
  cases h1 : frB a with
  | true =>
    clear hf
    go_enter Tryz.func71, Tryz.ntmps71
    go_wp2_with (first | (go_at_call 72; refine (checkC _ _ _ _ _ ht _).mono ?_; rintro e w3 ⟨rfl, g3⟩; have G3 := gb_trans G2 g3; have BT := B1'.kept g3 (by simp); have BP := B2.kept g3 (by simp); have t0 := BT.cell 0 (v := .int .u8 k) rfl; have t1 := BT.cell 1 (v := .int .i64 x) rfl; have t2 := BT.cell 2 (v := .int .i64 y) rfl; have t3 := BT.cell 3 (v := .int .u8 t) rfl; have t4 := BT.cell 4 (v := .int .i64 z) rfl; have p0 := BP.cell 0 (v := .int .i64 a) rfl; have p1 := BP.cell 1 (v := .int .i64 b) rfl) | (go_at_call 81; refine (isFarC _ _).mono ?_; rintro e w' ⟨rfl, hw'⟩; subst w'))
    go_ret2
    exact ⟨rfl, G3⟩
  | false =>
    have h2 : frB b = true := by rw [h1] at hf; exact hf
    clear hf
    go_enter Tryz.func71, Tryz.ntmps71
    go_wp2_with (first | (go_at_call 72; refine (checkC _ _ _ _ _ ht _).mono ?_; rintro e w3 ⟨rfl, g3⟩; have G3 := gb_trans G2 g3; have BT := B1'.kept g3 (by simp); have BP := B2.kept g3 (by simp); have t0 := BT.cell 0 (v := .int .u8 k) rfl; have t1 := BT.cell 1 (v := .int .i64 x) rfl; have t2 := BT.cell 2 (v := .int .i64 y) rfl; have t3 := BT.cell 3 (v := .int .u8 t) rfl; have t4 := BT.cell 4 (v := .int .i64 z) rfl; have p0 := BP.cell 0 (v := .int .i64 a) rfl; have p1 := BP.cell 1 (v := .int .i64 b) rfl) | (go_at_call 81; refine (isFarC _ _).mono ?_; rintro e w' ⟨rfl, hw'⟩; subst w'))
    go_ret2
    exact ⟨rfl, G3⟩
set_option maxHeartbeats 1000000 in
theorem hasYes (k x y t z a b : Int) (ht : 0 ≤ t) (h : Tp.chk k x y t z = 0) (h1 : frB a = false) (h2 : frB b = false) (hx : 0 ≤ x ∧ x ≤ 65536) (hy : 0 ≤ y ∧ y ≤ 65536) (w : World) : Calls Tryz.prog 71 #[.agg #[.int .u8 k, .int .i64 x, .int .i64 y, .int .u8 t, .int .i64 z], .agg #[.int .i64 a, .int .i64 b]] w fun e w' => e = .returned (.tuple #[.bool (liB a x && liB b y), .int .i64 0]) ∧ w.grownBy w' none := by
  obtain ⟨W1, hW1, sz1, g1, B1⟩ := boxn w #[.int .u8 k, .int .i64 x, .int .i64 y, .int .u8 t, .int .i64 z] 23
  obtain ⟨W2, hW2, sz2, g2, B2⟩ := boxn W1 #[.int .i64 a, .int .i64 b] 40
  have B1' := B1.kept g2 (by simp)
  have G2 := gb_trans g1 g2
  have c0 := B1'.cell 0 (v := .int .u8 k) rfl; have c1 := B1'.cell 1 (v := .int .i64 x) rfl; have c2 := B1'.cell 2 (v := .int .i64 y) rfl; have c3 := B1'.cell 3 (v := .int .u8 t) rfl; have c4 := B1'.cell 4 (v := .int .i64 z) rfl
  cases h3 : liB a x with
  | true =>
    cases h4 : liB b y
    all_goals
      go_enter Tryz.func71, Tryz.ntmps71
      go_wp2_with (first | (go_at_call 72; refine (checkC _ _ _ _ _ ht _).mono ?_; rintro e w3 ⟨rfl, g3⟩; have G3 := gb_trans G2 g3; have BT := B1'.kept g3 (by simp); have BP := B2.kept g3 (by simp); have t0 := BT.cell 0 (v := .int .u8 k) rfl; have t1 := BT.cell 1 (v := .int .i64 x) rfl; have t2 := BT.cell 2 (v := .int .i64 y) rfl; have t3 := BT.cell 3 (v := .int .u8 t) rfl; have t4 := BT.cell 4 (v := .int .i64 z) rfl; have p0 := BP.cell 0 (v := .int .i64 a) rfl; have p1 := BP.cell 1 (v := .int .i64 b) rfl) | (go_at_call 81; refine (isFarC _ _).mono ?_; rintro e w' ⟨rfl, hw'⟩; subst w') | (go_at_call_of 82 (Value.int IntKind.i64 a); refine (liesC _ _ hx.1 hx.2 _).mono ?_; rintro e w' ⟨rfl, q1, hw'⟩; subst w'; have BT4 : Bo (w3.drewN q1) _ _ _ := BT.drew; have BP4 : Bo (w3.drewN q1) _ _ _ := BP.drew; have u0 := BT4.cell 0 (v := .int .u8 k) rfl; have u1 := BT4.cell 1 (v := .int .i64 x) rfl; have u2 := BT4.cell 2 (v := .int .i64 y) rfl; have u3 := BT4.cell 3 (v := .int .u8 t) rfl; have u4 := BT4.cell 4 (v := .int .i64 z) rfl; have v0 := BP4.cell 0 (v := .int .i64 a) rfl; have v1 := BP4.cell 1 (v := .int .i64 b) rfl) | (go_at_call 82; refine (liesC _ _ hy.1 hy.2 _).mono ?_; rintro e w' ⟨rfl, q2, hw'⟩; subst w'))
      go_ret2
      exact ⟨rfl, by first | exact G3 | exact gb_drewN G3 _ | exact gb_drewN (gb_drewN G3 _) _⟩
  | false =>
      go_enter Tryz.func71, Tryz.ntmps71
      go_wp2_with (first | (go_at_call 72; refine (checkC _ _ _ _ _ ht _).mono ?_; rintro e w3 ⟨rfl, g3⟩; have G3 := gb_trans G2 g3; have BT := B1'.kept g3 (by simp); have BP := B2.kept g3 (by simp); have t0 := BT.cell 0 (v := .int .u8 k) rfl; have t1 := BT.cell 1 (v := .int .i64 x) rfl; have t2 := BT.cell 2 (v := .int .i64 y) rfl; have t3 := BT.cell 3 (v := .int .u8 t) rfl; have t4 := BT.cell 4 (v := .int .i64 z) rfl; have p0 := BP.cell 0 (v := .int .i64 a) rfl; have p1 := BP.cell 1 (v := .int .i64 b) rfl) | (go_at_call 81; refine (isFarC _ _).mono ?_; rintro e w' ⟨rfl, hw'⟩; subst w') | (go_at_call_of 82 (Value.int IntKind.i64 a); refine (liesC _ _ hx.1 hx.2 _).mono ?_; rintro e w' ⟨rfl, q1, hw'⟩; subst w'; have BT4 : Bo (w3.drewN q1) _ _ _ := BT.drew; have BP4 : Bo (w3.drewN q1) _ _ _ := BP.drew; have u0 := BT4.cell 0 (v := .int .u8 k) rfl; have u1 := BT4.cell 1 (v := .int .i64 x) rfl; have u2 := BT4.cell 2 (v := .int .i64 y) rfl; have u3 := BT4.cell 3 (v := .int .u8 t) rfl; have u4 := BT4.cell 4 (v := .int .i64 z) rfl; have v0 := BP4.cell 0 (v := .int .i64 a) rfl; have v1 := BP4.cell 1 (v := .int .i64 b) rfl) | (go_at_call 82; refine (liesC _ _ hy.1 hy.2 _).mono ?_; rintro e w' ⟨rfl, q2, hw'⟩; subst w'))
      go_ret2
      exact ⟨rfl, by first | exact G3 | exact gb_drewN G3 _ | exact gb_drewN (gb_drewN G3 _) _⟩

theorem hasC (k x y t z a b : Int) (ht : 0 ≤ t) (w : World) : Calls Tryz.prog 71 #[.agg #[.int .u8 k, .int .i64 x, .int .i64 y, .int .u8 t, .int .i64 z], .agg #[.int .i64 a, .int .i64 b]] w fun e w' => e = .returned (.tuple #[.bool (hasV k x y t z a b), .int .i64 (hasE k x y t z a b)]) ∧ w.grownBy w' none := by
  by_cases h : Tp.chk k x y t z = 0
  · have ok := Tp.ok_of h
    cases hf : (frB a || frB b) with
    | true =>
      have e1 : hasE k x y t z a b = 5 := by unfold hasE; rw [if_pos h, if_pos hf]
      have e2 : hasV k x y t z a b = false := by unfold hasV; rw [e1]; rfl
      rw [e1, e2]
      exact hasFar k x y t z a b ht h hf w
    | false =>
      have e1 : hasE k x y t z a b = 0 := by unfold hasE; rw [if_pos h, if_neg (by rw [hf]; decide)]
      have e2 : hasV k x y t z a b = (liB a x && liB b y) := by unfold hasV; rw [e1]; rfl
      rw [e1, e2]
      rw [Bool.or_eq_false_iff] at hf
      exact hasYes k x y t z a b ht h hf.1 hf.2 ok.wide ok.high w
  · have e1 : hasE k x y t z a b = Tp.chk k x y t z := by unfold hasE; rw [if_neg h]
    have e2 : hasV k x y t z a b = false := by unfold hasV; rw [e1]; simp [h]
    rw [e1, e2]
    exact hasNo k x y t z a b ht h w
end Go.Proofs.YtbmpiddjakdebaaGreat.To
