/- What Canon, Across, Endless, Home and Has of package topo answer, and the document's. -/
import Derived.Test.YteegbhnfkcbnoabDoorT3
import Derived.Deep.RegionWith
namespace Go.Proofs.YteegbhnfkcbnoabDoor
open Go.RowKit
set_option linter.unusedVariables false
set_option linter.unusedSimpArgs false
set_option maxRecDepth 100000

theorem ret_tb {a b : Int} {c d : Array Value} (h : c = d) (hp : a = b) : Ending.returned (.tuple #[.agg c, .int .i64 a]) = .returned (.tuple #[.agg d, .int .i64 b]) := by rw [h, hp]
theorem parts_up {a n : Int} (hn : 1 ≤ n) (h : 0 ≤ a.tmod n) : a.tmod n = a % n := by
  have h1 := Int.mul_tdiv_add_tmod a n
  have h2 := Int.tmod_lt_of_pos a (show (0:Int) < n by omega)
  exact ((Int.ediv_emod_unique (a := a) (b := n) (r := a.tmod n) (q := a.tdiv n) (by omega)).2 ⟨by omega, h, h2⟩).2.symm
theorem parts_down {a n : Int} (hn : 1 ≤ n) (h : a.tmod n < 0) : a.tmod n + n = a % n := by
  have h1 := Int.mul_tdiv_add_tmod a n
  have h2 := Int.lt_tmod_of_pos a (show (0:Int) < n by omega)
  exact ((Int.ediv_emod_unique (a := a) (b := n) (r := a.tmod n + n) (q := a.tdiv n - 1) (by omega)).2 ⟨by rw [Int.mul_sub]; omega, by omega, by omega⟩).2.symm
theorem ret_ib {k : IntKind} {a b : Int} {c d : Bool} (h : a = b) (hp : c = d) : Ending.returned (.tuple #[.int k a, .bool c]) = .returned (.tuple #[.int k b, .bool d]) := by rw [h, hp]
theorem ret_bi {k : IntKind} {a b : Int} {c d : Bool} (h : c = d) (hp : a = b) : Ending.returned (.tuple #[.bool c, .int k a]) = .returned (.tuple #[.bool d, .int k b]) := by rw [h, hp]

theorem modP (a n : Int) (w : World) (h3 : 1 ≤ n) (h4 : n ≤ 65536) :
    Calls Tryd.prog 25 #[.int .i64 a, .int .i64 n] w fun e w' => e = .returned (.tuple #[.int .i64 (a % n), .bool true]) ∧ w' = w := by
  by_cases hm : a.tmod n < 0
  · have hb := Int.lt_tmod_of_pos a (show (0:Int) < n by omega)
    go_enter Tryd.func25, Tryd.ntmps25
    go_wp2
    go_ret2
    exact ⟨ret_ib (parts_down h3 hm) rfl, rfl⟩
  · have hm1 : 0 ≤ a.tmod n := by omega
    clear hm
    go_enter Tryd.func25, Tryd.ntmps25
    go_wp2
    go_ret2
    exact ⟨ret_ib (parts_up h3 hm1) rfl, rfl⟩

def canZ (x y t z : Int) : Int := if t = 0 then z else z % (Tp.sd x y t)
theorem tS_sd {x y t : Int} (h0 : ¬ t = 0) (h2 : t ≤ 2) (ht : 0 ≤ t) : tS x y t = Tp.sd x y t := by
  unfold Tp.sd tS
  by_cases t1 : t = 1
  · rw [if_pos t1, if_neg (show ¬ t = 2 by omega)]
  · rw [if_neg t1, if_pos (show t = 2 by omega)]
theorem sd_bd {k x y t z : Int} (ok : Tp.Ok k x y t z) (h0 : ¬ t = 0) : 1 ≤ Tp.sd x y t ∧ Tp.sd x y t ≤ 65536 := by
  have h1 := ok.near h0
  have h2 := ok.wide
  have h3 := ok.high
  have : Tp.sd x y t ≤ 65536 := by unfold Tp.sd; split <;> omega
  omega

set_option maxHeartbeats 1000000 in
theorem canonNo (k x y t z : Int) (ht : 0 ≤ t) (h : ¬ Tp.chk k x y t z = 0) (w : World) : Calls Tryd.prog 14 #[.agg #[.int .u8 k, .int .i64 x, .int .i64 y, .int .u8 t, .int .i64 z]] w fun e w' => e = .returned (.tuple #[.agg #[.int .u8 0, .int .i64 0, .int .i64 0, .int .u8 0, .int .i64 0], .int .i64 (Tp.chk k x y t z)]) ∧ w.grownBy w' none := by
  obtain ⟨fs, hfs⟩ := underT
  obtain ⟨W1, hW1, sz1, g1, B1⟩ := boxn w #[.int .u8 k, .int .i64 x, .int .i64 y, .int .u8 t, .int .i64 z] 23
  obtain ⟨W2, hW2, sz2, g2, B2⟩ := boxn W1 #[.int .u8 0, .int .i64 0, .int .i64 0, .int .u8 0, .int .i64 0] 23
  have B1' := B1.kept g2 (by simp)
  have ne1 : w.heap.size ≠ W1.heap.size := by have := sz1.out; omega
  have HN : Hid (w.heap.size ≠ W1.heap.size) := ne1
  clear ne1
  have G2 := gb_trans g1 g2
  have c0 := B1'.cell 0 (v := .int .u8 k) rfl; have c1 := B1'.cell 1 (v := .int .i64 x) rfl; have c2 := B1'.cell 2 (v := .int .i64 y) rfl; have c3 := B1'.cell 3 (v := .int .u8 t) rfl; have c4 := B1'.cell 4 (v := .int .i64 z) rfl
  go_enter Tryd.func14, Tryd.ntmps14
  go_wp2_with (first | (go_at_call 9; refine (checkC _ _ _ _ _ ht _).mono ?_; rintro e w3 ⟨rfl, g3⟩; have G3 := gb_trans G2 g3; have BT := B1'.kept g3 (by simp); have BR := B2.kept g3 (by simp); have t0 := BT.cell 0 (v := .int .u8 k) rfl; have t1 := BT.cell 1 (v := .int .i64 x) rfl; have t2 := BT.cell 2 (v := .int .i64 y) rfl; have t3 := BT.cell 3 (v := .int .u8 t) rfl; have t4 := BT.cell 4 (v := .int .i64 z) rfl; have r0 := BR.cell 0 (v := .int .u8 0) rfl; have r1 := BR.cell 1 (v := .int .i64 0) rfl; have r2 := BR.cell 2 (v := .int .i64 0) rfl; have r3 := BR.cell 3 (v := .int .u8 0) rfl; have r4 := BR.cell 4 (v := .int .i64 0) rfl; have f0 := BR.frozen 0; have f1 := BR.frozen 1; have f2 := BR.frozen 2; have f3 := BR.frozen 3; have f4 := BR.frozen 4; have q0 := BT.frozen 0; have q1 := BT.frozen 1; have q2 := BT.frozen 2; have q3 := BT.frozen 3; have q4 := BT.frozen 4))
  refine ret_c2 (g := W1.heap.size) (cs := #[.int .u8 0, .int .i64 0, .int .i64 0, .int .u8 0, .int .i64 0]) rfl hfs infoT rfl ((((((BR).set 0 _).set 1 _).set 2 _).set 3 _).set 4 _) rfl ⟨ret_tb rfl ?_, gb_new (gb_new (gb_new (gb_new (gb_new (G3) g1.size _) g1.size _) g1.size _) g1.size _) g1.size _⟩
  rfl

set_option maxHeartbeats 1000000 in
theorem canon0 (k x y z : Int) (ht : (0 : Int) ≤ 0) (h : Tp.chk k x y 0 z = 0) (w : World) : Calls Tryd.prog 14 #[.agg #[.int .u8 k, .int .i64 x, .int .i64 y, .int .u8 0, .int .i64 z]] w fun e w' => e = .returned (.tuple #[.agg #[.int .u8 k, .int .i64 x, .int .i64 y, .int .u8 0, .int .i64 z], .int .i64 0]) ∧ w.grownBy w' none := by
  obtain ⟨fs, hfs⟩ := underT
  obtain ⟨W1, hW1, sz1, g1, B1⟩ := boxn w #[.int .u8 k, .int .i64 x, .int .i64 y, .int .u8 0, .int .i64 z] 23
  obtain ⟨W2, hW2, sz2, g2, B2⟩ := boxn W1 #[.int .u8 0, .int .i64 0, .int .i64 0, .int .u8 0, .int .i64 0] 23
  have B1' := B1.kept g2 (by simp)
  have ne1 : w.heap.size ≠ W1.heap.size := by have := sz1.out; omega
  have HN : Hid (w.heap.size ≠ W1.heap.size) := ne1
  clear ne1
  have G2 := gb_trans g1 g2
  have c0 := B1'.cell 0 (v := .int .u8 k) rfl; have c1 := B1'.cell 1 (v := .int .i64 x) rfl; have c2 := B1'.cell 2 (v := .int .i64 y) rfl; have c3 := B1'.cell 3 (v := .int .u8 0) rfl; have c4 := B1'.cell 4 (v := .int .i64 z) rfl
  go_enter Tryd.func14, Tryd.ntmps14
  go_wp2_with (first | (go_at_call 9; refine (checkC _ _ _ _ _ ht _).mono ?_; rintro e w3 ⟨rfl, g3⟩; have G3 := gb_trans G2 g3; have BT := B1'.kept g3 (by simp); have BR := B2.kept g3 (by simp); have t0 := BT.cell 0 (v := .int .u8 k) rfl; have t1 := BT.cell 1 (v := .int .i64 x) rfl; have t2 := BT.cell 2 (v := .int .i64 y) rfl; have t3 := BT.cell 3 (v := .int .u8 0) rfl; have t4 := BT.cell 4 (v := .int .i64 z) rfl; have r0 := BR.cell 0 (v := .int .u8 0) rfl; have r1 := BR.cell 1 (v := .int .i64 0) rfl; have r2 := BR.cell 2 (v := .int .i64 0) rfl; have r3 := BR.cell 3 (v := .int .u8 0) rfl; have r4 := BR.cell 4 (v := .int .i64 0) rfl; have f0 := BR.frozen 0; have f1 := BR.frozen 1; have f2 := BR.frozen 2; have f3 := BR.frozen 3; have f4 := BR.frozen 4; have q0 := BT.frozen 0; have q1 := BT.frozen 1; have q2 := BT.frozen 2; have q3 := BT.frozen 3; have q4 := BT.frozen 4))
  refine ret_c2 (g := W1.heap.size) (cs := #[.int .u8 k, .int .i64 x, .int .i64 y, .int .u8 0, .int .i64 z]) rfl hfs infoT rfl ((((((BR).set 0 _).set 1 _).set 2 _).set 3 _).set 4 _) rfl ⟨ret_tb rfl ?_, gb_new (gb_new (gb_new (gb_new (gb_new (G3) g1.size _) g1.size _) g1.size _) g1.size _) g1.size _⟩
  rfl

set_option maxHeartbeats 1000000 in
theorem canonT (k x y t z : Int) (ht : 0 ≤ t) (h : Tp.chk k x y t z = 0) (h0 : ¬ t = 0) (hs : 1 ≤ tS x y t ∧ tS x y t ≤ 65536) (w : World) : Calls Tryd.prog 14 #[.agg #[.int .u8 k, .int .i64 x, .int .i64 y, .int .u8 t, .int .i64 z]] w fun e w' => e = .returned (.tuple #[.agg #[.int .u8 k, .int .i64 x, .int .i64 y, .int .u8 t, .int .i64 (z % (tS x y t))], .int .i64 0]) ∧ w.grownBy w' none := by
  obtain ⟨fs, hfs⟩ := underT
  obtain ⟨W1, hW1, sz1, g1, B1⟩ := boxn w #[.int .u8 k, .int .i64 x, .int .i64 y, .int .u8 t, .int .i64 z] 23
  obtain ⟨W2, hW2, sz2, g2, B2⟩ := boxn W1 #[.int .u8 0, .int .i64 0, .int .i64 0, .int .u8 0, .int .i64 0] 23
  have B1' := B1.kept g2 (by simp)
  have ne1 : w.heap.size ≠ W1.heap.size := by have := sz1.out; omega
  have HN : Hid (w.heap.size ≠ W1.heap.size) := ne1
  clear ne1
  have G2 := gb_trans g1 g2
  have c0 := B1'.cell 0 (v := .int .u8 k) rfl; have c1 := B1'.cell 1 (v := .int .i64 x) rfl; have c2 := B1'.cell 2 (v := .int .i64 y) rfl; have c3 := B1'.cell 3 (v := .int .u8 t) rfl; have c4 := B1'.cell 4 (v := .int .i64 z) rfl
  go_enter Tryd.func14, Tryd.ntmps14
  go_wp2_with (first | (go_at_call 9; refine (checkC _ _ _ _ _ ht _).mono ?_; rintro e w3 ⟨rfl, g3⟩; have G3 := gb_trans G2 g3; have BT := B1'.kept g3 (by simp); have BR := B2.kept g3 (by simp); have t0 := BT.cell 0 (v := .int .u8 k) rfl; have t1 := BT.cell 1 (v := .int .i64 x) rfl; have t2 := BT.cell 2 (v := .int .i64 y) rfl; have t3 := BT.cell 3 (v := .int .u8 t) rfl; have t4 := BT.cell 4 (v := .int .i64 z) rfl; have r0 := BR.cell 0 (v := .int .u8 0) rfl; have r1 := BR.cell 1 (v := .int .i64 0) rfl; have r2 := BR.cell 2 (v := .int .i64 0) rfl; have r3 := BR.cell 3 (v := .int .u8 0) rfl; have r4 := BR.cell 4 (v := .int .i64 0) rfl; have f0 := BR.frozen 0; have f1 := BR.frozen 1; have f2 := BR.frozen 2; have f3 := BR.frozen 3; have f4 := BR.frozen 4; have q0 := BT.frozen 0; have q1 := BT.frozen 1; have q2 := BT.frozen 2; have q3 := BT.frozen 3; have q4 := BT.frozen 4))
  go_region_with (first | (go_at_call 26; refine (turnedC _ _ _ _ _ _).mono ?_; rintro e w4 ⟨rfl, g4⟩; have G4 := gb_trans (gb_drew G3) g4; have BT4 := BT.dr.kept g4 (by simp); have BR4 := BR.dr.kept g4 (by simp); have u0 := BT4.cell 0 (v := .int .u8 k) rfl; have u1 := BT4.cell 1 (v := .int .i64 x) rfl; have u2 := BT4.cell 2 (v := .int .i64 y) rfl; have u3 := BT4.cell 3 (v := .int .u8 t) rfl; have u4 := BT4.cell 4 (v := .int .i64 z) rfl; have v0 := BR4.cell 0 (v := .int .u8 0) rfl; have v1 := BR4.cell 1 (v := .int .i64 0) rfl; have v2 := BR4.cell 2 (v := .int .i64 0) rfl; have v3 := BR4.cell 3 (v := .int .u8 0) rfl; have v4 := BR4.cell 4 (v := .int .i64 0) rfl; have x0 := BR4.frozen 0; have x1 := BR4.frozen 1; have x2 := BR4.frozen 2; have x3 := BR4.frozen 3; have x4 := BR4.frozen 4; have y0 := BT4.frozen 0; have y1 := BT4.frozen 1; have y2 := BT4.frozen 2; have y3 := BT4.frozen 3; have y4 := BT4.frozen 4) | (go_at_call 25; refine (modP _ _ _ hs.1 hs.2).mono ?_; rintro e w' ⟨rfl, hw'⟩; subst w'; obtain ⟨W5, hW5⟩ : ∃ W5, w4.setCell ⟨w.heap.size, 4, none⟩ (.int .i64 (z % (tS x y t))) = W5 := ⟨_, rfl⟩; have BT5 : Bo W5 w.heap.size 23 #[.int .u8 k, .int .i64 x, .int .i64 y, .int .u8 t, .int .i64 (z % (tS x y t))] := hW5 ▸ BT4.set 4 _; have BR5 : Bo W5 W1.heap.size 23 #[.int .u8 0, .int .i64 0, .int .i64 0, .int .u8 0, .int .i64 0] := hW5 ▸ BR4.set2 HN.out; have G5 : w.grownBy W5 none := hW5 ▸ gb_new G4 (Nat.le_refl _) _; have s0 := BT5.cell 0 (v := .int .u8 k) rfl; have s1 := BT5.cell 1 (v := .int .i64 x) rfl; have s2 := BT5.cell 2 (v := .int .i64 y) rfl; have s3 := BT5.cell 3 (v := .int .u8 t) rfl; have s4 := BT5.cell 4 (v := .int .i64 (z % (tS x y t))) rfl; have p0 := BR5.cell 0 (v := .int .u8 0) rfl; have p1 := BR5.cell 1 (v := .int .i64 0) rfl; have p2 := BR5.cell 2 (v := .int .i64 0) rfl; have p3 := BR5.cell 3 (v := .int .u8 0) rfl; have p4 := BR5.cell 4 (v := .int .i64 0) rfl; have j0 := BR5.frozen 0; have j1 := BR5.frozen 1; have j2 := BR5.frozen 2; have j3 := BR5.frozen 3; have j4 := BR5.frozen 4))
  all_goals go_wp2
  all_goals first
  | (refine ret_c2 (g := W1.heap.size) (cs := #[.int .u8 k, .int .i64 x, .int .i64 y, .int .u8 t, .int .i64 (z % (tS x y t))]) rfl hfs infoT rfl ((((((BR5).set 0 _).set 1 _).set 2 _).set 3 _).set 4 _) rfl ⟨ret_tb rfl ?_, gb_new (gb_new (gb_new (gb_new (gb_new (G5) g1.size _) g1.size _) g1.size _) g1.size _) g1.size _⟩
     rfl)

def canonV (k x y t z : Int) : Array Value := if Tp.chk k x y t z = 0 then #[.int .u8 k, .int .i64 x, .int .i64 y, .int .u8 t, .int .i64 (canZ x y t z)] else #[.int .u8 0, .int .i64 0, .int .i64 0, .int .u8 0, .int .i64 0]
theorem canonC (k x y t z : Int) (ht : 0 ≤ t) (w : World) : Calls Tryd.prog 14 #[.agg #[.int .u8 k, .int .i64 x, .int .i64 y, .int .u8 t, .int .i64 z]] w fun e w' => e = .returned (.tuple #[.agg (canonV k x y t z), .int .i64 (Tp.chk k x y t z)]) ∧ w.grownBy w' none := by
  unfold canonV canZ
  by_cases h : Tp.chk k x y t z = 0
  · have ok := Tp.ok_of h
    rw [if_pos h, h]
    by_cases h0 : t = 0
    · subst h0
      rw [if_pos rfl]
      exact canon0 k x y z (by omega) h w
    · rw [if_neg h0]
      have := canonT k x y t z ht h h0 (by rw [tS_sd h0 (by have := ok.turn; omega) ht]; exact sd_bd ok h0) w
      rw [tS_sd h0 (by have := ok.turn; omega) ht] at this; exact this
  · rw [if_neg h]
    exact canonNo k x y t z ht h w
end Go.Proofs.YteegbhnfkcbnoabDoor
