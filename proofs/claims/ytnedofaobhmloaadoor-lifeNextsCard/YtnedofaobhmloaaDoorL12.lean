/- The walk of LifeNexts. -/
import Derived.Test.YtnedofaobhmloaaDoorL11
namespace Go.Proofs.YtnedofaobhmloaaDoor
open Go.RowKit
set_option linter.unusedVariables false
set_option linter.unusedSimpArgs false
set_option maxRecDepth 100000

set_option maxHeartbeats 1000000 in
theorem nexts_nat (ho bo st t : Nat) (l : Int) (hh : ho < 256) (hb : bo < 65536) (hs : st < 65536) (w : World) (hv : Hid (Hv w)) : Calls Tryd.prog 6 #[.agg #[.int .u8 ho, .int .u16 bo, .int .u16 st], .int .u8 t, .int .i64 l] w fun e w' => e = .returned (.bool true) ∧ w.grownBy w' none := by
  have hn := fun w hv => nextC ho bo st hh hb hs t l w hv
  have hd := fun w => nextD ho bo st hh hb hs t l w
  generalize Lf.nxV ho bo st t l = V at hn hd
  generalize Lf.nxE ho bo st t l = E at hn hd
  obtain ⟨W1, hW1, sz1, g1, B1⟩ := boxn w #[.int .u8 ho, .int .u16 bo, .int .u16 st] 26
  have hv1 := hvK hv g1
  have b1_1_0 := B1.cell 0 (v := .int .u8 ho) rfl
  have b1_1_1 := B1.cell 1 (v := .int .u16 bo) rfl
  have b1_1_2 := B1.cell 2 (v := .int .u16 st) rfl
  go_enter Tryd.func6, Tryd.ntmps6
  go_wp2_with (first | (go_at_call 9; (fail_if_success (guard_hyp g2)); refine (aliveC _ hv1).mono ?_; rintro e w2 ⟨rfl, g2⟩; have G2 := gb_trans g1 g2; have hv2 := hvK hv G2; have B1x := B1.kept g2 (by simp); clear b1_1_0 b1_1_1 b1_1_2; have b1_2_0 := B1x.cell 0 (v := .int .u8 ho) rfl; have b1_2_1 := B1x.cell 1 (v := .int .u16 bo) rfl; have b1_2_2 := B1x.cell 2 (v := .int .u16 st) rfl) | (go_at_call 18; (fail_if_success (guard_hyp g3)); refine (hn _ hv2).mono ?_; rintro e w3 ⟨rfl, g3⟩; have G3 := gb_trans G2 g3; have hv3 := hvK hv G3; have B1xx := B1x.kept g3 (by simp); clear b1_2_0 b1_2_1 b1_2_2; have b1_3_0 := B1xx.cell 0 (v := .int .u8 ho) rfl; have b1_3_1 := B1xx.cell 1 (v := .int .u16 bo) rfl; have b1_3_2 := B1xx.cell 2 (v := .int .u16 st) rfl) | (go_at_call 19; (fail_if_success (guard_hyp g4)); refine (hd _).mono ?_; rintro e w4 ⟨rfl, g4⟩; have G4 := gb_trans G3 g4; have hv4 := hvK hv G4; have B1xxx := B1xx.kept g4 (by simp); clear b1_3_0 b1_3_1 b1_3_2; have b1_4_0 := B1xxx.cell 0 (v := .int .u8 ho) rfl; have b1_4_1 := B1xxx.cell 1 (v := .int .u16 bo) rfl; have b1_4_2 := B1xxx.cell 2 (v := .int .u16 st) rfl))
  go_ret
  exact ⟨rfl, G4⟩
theorem nexts_walk (ho bo st t l : Int) (w : World) (h1 : 0 ≤ ho ∧ ho ≤ 255) (h2 : 0 ≤ bo ∧ bo ≤ 65535) (h3 : 0 ≤ st ∧ st ≤ 65535) (h4 : 0 ≤ t) (h4' : t ≤ 255) (h5 : -9223372036854775808 ≤ l) (h5' : l ≤ 9223372036854775807) (hv : Hv w) : Calls Tryd.prog 6 #[.agg #[.int .u8 ho, .int .u16 bo, .int .u16 st], .int .u8 t, .int .i64 l] w fun e w' => e = .returned (.bool true) ∧ Below w.heap.size w w' := by
  obtain ⟨ho, rfl⟩ := Int.eq_ofNat_of_zero_le h1.1
  obtain ⟨bo, rfl⟩ := Int.eq_ofNat_of_zero_le h2.1
  obtain ⟨st, rfl⟩ := Int.eq_ofNat_of_zero_le h3.1
  obtain ⟨t, rfl⟩ := Int.eq_ofNat_of_zero_le h4
  exact (nexts_nat ho bo st t l (by omega) (by omega) (by omega) w hv).mono fun e w' ⟨a, b⟩ => ⟨a, gb_below b⟩
end Go.Proofs.YtnedofaobhmloaaDoor
