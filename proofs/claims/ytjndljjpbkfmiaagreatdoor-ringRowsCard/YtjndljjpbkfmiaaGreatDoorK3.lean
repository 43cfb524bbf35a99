/- index and cellOf of package ring. -/
import Derived.Test.YtjndljjpbkfmiaaGreatDoorK2
namespace Go.Proofs.YtjndljjpbkfmiaaGreatDoor
open Go.RowKit
set_option linter.unusedVariables false
set_option linter.unusedSimpArgs false
set_option maxRecDepth 100000

theorem ix_mul {C : Nat} {v : Int} (hC : C ≤ 65536) (h0 : -1 ≤ v) (h1 : v ≤ 65536) : 0 ≤ (v + 1) * ((C : Int) + 2) ∧ (v + 1) * ((C : Int) + 2) ≤ 4295163906 := by
  obtain ⟨b, hb⟩ := Int.eq_ofNat_of_zero_le (show 0 ≤ v + 1 by omega)
  have h2 : b * (C + 2) ≤ 65537 * 65538 := Nat.mul_le_mul (by omega) (by omega)
  have e : (v + 1) * ((C : Int) + 2) = ((b * (C + 2) : Nat) : Int) := by
    rw [hb, Int.natCast_mul]; rfl
  rw [e]; omega
theorem indexC (C : Nat) (u v : Int) (hC : C ≤ 65536) (hu : -1 ≤ u ∧ u ≤ 65536) (hv : -1 ≤ v ∧ v ≤ 65536) (w : World) : Calls Tryz.prog 56 #[.int .i64 (C : Nat), .int .i64 u, .int .i64 v] w fun e w' => e = .returned (.int .i64 (ixN C u v : Nat)) ∧ w' = w := by
  have hm := ix_mul hC hv.1 hv.2
  have HX : Hid (((ixN C u v : Nat) : Int) = (v + 1) * (C + 2) + u + 1) := ix_int hu.1 hv.1
  have hw : IntKind.i64.wrap ((v + 1) * ((C : Int) + 2)) = (v + 1) * ((C : Int) + 2) := by rw [IntKind.wrap_i64]; omega
  obtain ⟨P, hP⟩ : ∃ P, (v + 1) * ((C : Int) + 2) = P := ⟨_, rfl⟩
  rw [hP] at hm hw
  have hX : ((ixN C u v : Nat) : Int) = P + u + 1 := by rw [HX.out, ← hP]
  rw [hX]
  clear HX hX
  have hQ : Hid ((v + 1) * ((C : Int) + 2) = P) := hP
  go_enter Tryz.func56, Tryz.ntmps56
  go_wp2
  go_ret
  exact ⟨rfl, rfl⟩
theorem cellOfC {k t z : Int} {C R : Nat} (G : Gr k t z C R) (u v : Int) (hu : -1 ≤ u ∧ u ≤ C) (hv : -1 ≤ v ∧ v ≤ R) (w : World) : Calls Tryz.prog 70 #[.agg #[.int .u8 k, .int .i64 (C : Nat), .int .i64 (R : Nat), .int .u8 t, .int .i64 z], .agg #[.int .i64 (To.fi C), .int .i64 (To.fi R), .int .i64 (C : Nat), .int .i64 (R : Nat)], .agg #[.int .i64 u, .int .i64 v]] w fun e w' => (∃ a b : Int, e = .returned (.tuple #[.agg #[.int .i64 a, .int .i64 b], .bool (fcB k t z C R u v)]) ∧ (fcB k t z C R u v = true → a = (fcX k t z C R u v : Nat) ∧ b = (fcY k t z C R u v : Nat))) ∧ w.grownBy w' none := by
  have hb := fc_bd G hu hv
  have b1 := fi_mem C G.c1
  have b2 := fi_mem R G.r1
  have c1 := G.c1
  have r1 := G.r1
  have hr := fun w => Fd.ringC k C R t z (u + To.fi C) (v + To.fi R) G.t0 w
  have hB : Fd.riB k C R t z (u + To.fi C) (v + To.fi R) = fcB k t z C R u v := rfl
  rw [hB] at hr
  obtain ⟨fs, hfs⟩ := underP
  cases h : fcB k t z C R u v
  · rw [Fd.riV_no (hB.trans h), h] at hr
    obtain ⟨W1, hW1, sz1, g1, B1⟩ := boxn w #[.int .u8 k, .int .i64 (C : Nat), .int .i64 (R : Nat), .int .u8 t, .int .i64 z] 23
    obtain ⟨W2, hW2, sz2, g2, B2⟩ := boxn W1 #[.int .i64 (To.fi C), .int .i64 (To.fi R), .int .i64 (C : Nat), .int .i64 (R : Nat)] 105
    have G2 := gb_trans g1 g2
    have B1x := B1.kept g2 (by simp)
    obtain ⟨W3, hW3, sz3, g3, B3⟩ := boxn W2 #[.int .i64 u, .int .i64 v] 60
    have G3 := gb_trans G2 g3
    have B1xx := B1x.kept g3 (by simp)
    have B2x := B2.kept g3 (by simp)
    obtain ⟨W4, hW4, sz4, g4, B4⟩ := boxn W3 #[.int .i64 0, .int .i64 0] 60
    have G4 := gb_trans G3 g4
    have B1xxx := B1xx.kept g4 (by simp)
    have B2xx := B2x.kept g4 (by simp)
    have B3x := B3.kept g4 (by simp)
    have b1_4_0 := B1xxx.cell 0 (v := .int .u8 k) rfl
    have b1_4_1 := B1xxx.cell 1 (v := .int .i64 (C : Nat)) rfl
    have b1_4_2 := B1xxx.cell 2 (v := .int .i64 (R : Nat)) rfl
    have b1_4_3 := B1xxx.cell 3 (v := .int .u8 t) rfl
    have b1_4_4 := B1xxx.cell 4 (v := .int .i64 z) rfl
    have b2_4_0 := B2xx.cell 0 (v := .int .i64 (To.fi C)) rfl
    have b2_4_1 := B2xx.cell 1 (v := .int .i64 (To.fi R)) rfl
    have b2_4_2 := B2xx.cell 2 (v := .int .i64 (C : Nat)) rfl
    have b2_4_3 := B2xx.cell 3 (v := .int .i64 (R : Nat)) rfl
    have b3_4_0 := B3x.cell 0 (v := .int .i64 u) rfl
    have b3_4_1 := B3x.cell 1 (v := .int .i64 v) rfl
    have b4_4_0 := B4.cell 0 (v := .int .i64 0) rfl
    have b4_4_1 := B4.cell 1 (v := .int .i64 0) rfl
    have zb4_4_0 := B4.frozen 0
    have zb4_4_1 := B4.frozen 1
    go_enter Tryz.func70, Tryz.ntmps70
    go_wp2_with (first | (go_at_call 28; (fail_if_success (guard_hyp g5)); refine (hr _).mono ?_; rintro e w5 ⟨rfl, g5⟩; have G5 := gb_trans G4 g5; have B1xxxx := B1xxx.kept g5 (by simp); have B2xxx := B2xx.kept g5 (by simp); have B3xx := B3x.kept g5 (by simp); have B4x := B4.kept g5 (by simp); obtain ⟨W6, hW6, sz6, g6, B6⟩ := boxn w5 #[.int .i64 0, .int .i64 0] 60; have G6 := gb_trans G5 g6; have B1xxxxx := B1xxxx.kept g6 (by simp); have B2xxxx := B2xxx.kept g6 (by simp); have B3xxx := B3xx.kept g6 (by simp); have B4xx := B4x.kept g6 (by simp); have sm6_0 := Bo.same B6 0 (v := .int .i64 0) rfl; have sm6_1 := Bo.same B6 1 (v := .int .i64 0) rfl; have fz6_0 := B6.frozen 0; have fz6_1 := B6.frozen 1; clear b1_4_0 b1_4_1 b1_4_2 b1_4_3 b1_4_4 b2_4_0 b2_4_1 b2_4_2 b2_4_3 b3_4_0 b3_4_1 b4_4_0 b4_4_1 zb4_4_0 zb4_4_1; have b1_6_0 := B1xxxxx.cell 0 (v := .int .u8 k) rfl; have b1_6_1 := B1xxxxx.cell 1 (v := .int .i64 (C : Nat)) rfl; have b1_6_2 := B1xxxxx.cell 2 (v := .int .i64 (R : Nat)) rfl; have b1_6_3 := B1xxxxx.cell 3 (v := .int .u8 t) rfl; have b1_6_4 := B1xxxxx.cell 4 (v := .int .i64 z) rfl; have b2_6_0 := B2xxxx.cell 0 (v := .int .i64 (To.fi C)) rfl; have b2_6_1 := B2xxxx.cell 1 (v := .int .i64 (To.fi R)) rfl; have b2_6_2 := B2xxxx.cell 2 (v := .int .i64 (C : Nat)) rfl; have b2_6_3 := B2xxxx.cell 3 (v := .int .i64 (R : Nat)) rfl; have b3_6_0 := B3xxx.cell 0 (v := .int .i64 u) rfl; have b3_6_1 := B3xxx.cell 1 (v := .int .i64 v) rfl; have b4_6_0 := B4xx.cell 0 (v := .int .i64 0) rfl; have b4_6_1 := B4xx.cell 1 (v := .int .i64 0) rfl; have zb4_6_0 := B4xx.frozen 0; have zb4_6_1 := B4xx.frozen 1; have b6_6_0 := B6.cell 0 (v := .int .i64 0) rfl; have b6_6_1 := B6.cell 1 (v := .int .i64 0) rfl))
    refine ret_c2 (g := W3.heap.size) (cs := #[.int .i64 _, .int .i64 _]) rfl hfs infoP rfl (bo2 B4xx) rfl ⟨⟨_, _, rfl, fun h => by cases h⟩, gb2 G6 G3.size⟩
  · rw [Fd.riV_yes (hB.trans h), h, hb.2.2.1, hb.2.2.2.1] at hr
    have hx := hb.1
    have hy := hb.2.1
    clear hb
    obtain ⟨X, hX⟩ : ∃ X, fcX k t z C R u v = X := ⟨_, rfl⟩
    obtain ⟨Y, hY⟩ : ∃ Y, fcY k t z C R u v = Y := ⟨_, rfl⟩
    rw [hX, hY] at hr
    rw [hX] at hx
    rw [hY] at hy
    rw [hX, hY]
    clear hX hY
    obtain ⟨W1, hW1, sz1, g1, B1⟩ := boxn w #[.int .u8 k, .int .i64 (C : Nat), .int .i64 (R : Nat), .int .u8 t, .int .i64 z] 23
    obtain ⟨W2, hW2, sz2, g2, B2⟩ := boxn W1 #[.int .i64 (To.fi C), .int .i64 (To.fi R), .int .i64 (C : Nat), .int .i64 (R : Nat)] 105
    have G2 := gb_trans g1 g2
    have B1x := B1.kept g2 (by simp)
    obtain ⟨W3, hW3, sz3, g3, B3⟩ := boxn W2 #[.int .i64 u, .int .i64 v] 60
    have G3 := gb_trans G2 g3
    have B1xx := B1x.kept g3 (by simp)
    have B2x := B2.kept g3 (by simp)
    obtain ⟨W4, hW4, sz4, g4, B4⟩ := boxn W3 #[.int .i64 0, .int .i64 0] 60
    have G4 := gb_trans G3 g4
    have B1xxx := B1xx.kept g4 (by simp)
    have B2xx := B2x.kept g4 (by simp)
    have B3x := B3.kept g4 (by simp)
    have b1_4_0 := B1xxx.cell 0 (v := .int .u8 k) rfl
    have b1_4_1 := B1xxx.cell 1 (v := .int .i64 (C : Nat)) rfl
    have b1_4_2 := B1xxx.cell 2 (v := .int .i64 (R : Nat)) rfl
    have b1_4_3 := B1xxx.cell 3 (v := .int .u8 t) rfl
    have b1_4_4 := B1xxx.cell 4 (v := .int .i64 z) rfl
    have b2_4_0 := B2xx.cell 0 (v := .int .i64 (To.fi C)) rfl
    have b2_4_1 := B2xx.cell 1 (v := .int .i64 (To.fi R)) rfl
    have b2_4_2 := B2xx.cell 2 (v := .int .i64 (C : Nat)) rfl
    have b2_4_3 := B2xx.cell 3 (v := .int .i64 (R : Nat)) rfl
    have b3_4_0 := B3x.cell 0 (v := .int .i64 u) rfl
    have b3_4_1 := B3x.cell 1 (v := .int .i64 v) rfl
    have b4_4_0 := B4.cell 0 (v := .int .i64 0) rfl
    have b4_4_1 := B4.cell 1 (v := .int .i64 0) rfl
    have zb4_4_0 := B4.frozen 0
    have zb4_4_1 := B4.frozen 1
    go_enter Tryz.func70, Tryz.ntmps70
    go_wp2_with (first | (go_at_call 28; (fail_if_success (guard_hyp g5)); refine (hr _).mono ?_; rintro e w5 ⟨rfl, g5⟩; have G5 := gb_trans G4 g5; have B1xxxx := B1xxx.kept g5 (by simp); have B2xxx := B2xx.kept g5 (by simp); have B3xx := B3x.kept g5 (by simp); have B4x := B4.kept g5 (by simp); obtain ⟨W6, hW6, sz6, g6, B6⟩ := boxn w5 #[.int .i64 ((X : Nat) + To.fi C), .int .i64 ((Y : Nat) + To.fi R)] 60; have G6 := gb_trans G5 g6; have B1xxxxx := B1xxxx.kept g6 (by simp); have B2xxxx := B2xxx.kept g6 (by simp); have B3xxx := B3xx.kept g6 (by simp); have B4xx := B4x.kept g6 (by simp); clear b1_4_0 b1_4_1 b1_4_2 b1_4_3 b1_4_4 b2_4_0 b2_4_1 b2_4_2 b2_4_3 b3_4_0 b3_4_1 b4_4_0 b4_4_1 zb4_4_0 zb4_4_1; have b1_6_0 := B1xxxxx.cell 0 (v := .int .u8 k) rfl; have b1_6_1 := B1xxxxx.cell 1 (v := .int .i64 (C : Nat)) rfl; have b1_6_2 := B1xxxxx.cell 2 (v := .int .i64 (R : Nat)) rfl; have b1_6_3 := B1xxxxx.cell 3 (v := .int .u8 t) rfl; have b1_6_4 := B1xxxxx.cell 4 (v := .int .i64 z) rfl; have b2_6_0 := B2xxxx.cell 0 (v := .int .i64 (To.fi C)) rfl; have b2_6_1 := B2xxxx.cell 1 (v := .int .i64 (To.fi R)) rfl; have b2_6_2 := B2xxxx.cell 2 (v := .int .i64 (C : Nat)) rfl; have b2_6_3 := B2xxxx.cell 3 (v := .int .i64 (R : Nat)) rfl; have b3_6_0 := B3xxx.cell 0 (v := .int .i64 u) rfl; have b3_6_1 := B3xxx.cell 1 (v := .int .i64 v) rfl; have b4_6_0 := B4xx.cell 0 (v := .int .i64 0) rfl; have b4_6_1 := B4xx.cell 1 (v := .int .i64 0) rfl; have zb4_6_0 := B4xx.frozen 0; have zb4_6_1 := B4xx.frozen 1; have b6_6_0 := B6.cell 0 (v := .int .i64 ((X : Nat) + To.fi C)) rfl; have b6_6_1 := B6.cell 1 (v := .int .i64 ((Y : Nat) + To.fi R)) rfl))
    refine ret_c2 (g := W3.heap.size) (cs := #[.int .i64 _, .int .i64 _]) rfl hfs infoP rfl (bo2 B4xx) rfl ⟨⟨_, _, rfl, fun h => ⟨by omega, by omega⟩⟩, gb2 G6 G3.size⟩
end Go.Proofs.YtjndljjpbkfmiaaGreatDoor
