/- Line. -/
import Derived.Test.YthjiiljglgmkpaaGreatDoorYb
import Derived.Test.YthjiiljglgmkpaaGreatDoorLc
namespace Go.Proofs.YthjiiljglgmkpaaGreatDoor.Pd
open Go.RowKit
set_option linter.unusedVariables false
set_option linter.unusedSimpArgs false
set_option maxRecDepth 100000

/-- Which error Line tells. -/
def bad (v : Bool) (N : Int) : Bool := !v || decide (N < 3)
def lE (c : Nat) (va vh vb : Bool) (Na Nh Nb : Int) : Nat := if c ≠ 0 then 8 else if bad va Na || bad vh Nh || bad vb Nb then 20 else if Na ≠ Nh ∨ Nb ≠ Nh then 21 else 0

theorem jx0 (x0 x1 x2 x3 x4 x5 : Value) (w : World) : (Instr.index 75 (.agg #[x0, x1, x2, x3, x4, x5]) (.int .i64 0)).run Tryz.prog w = .ok (.agg #[x0, x1]) w := by kernel_rfl
theorem jx1 (x0 x1 x2 x3 x4 x5 : Value) (w : World) : (Instr.index 75 (.agg #[x0, x1, x2, x3, x4, x5]) (.int .i64 1)).run Tryz.prog w = .ok (.agg #[x2, x3]) w := by kernel_rfl
theorem jx2 (x0 x1 x2 x3 x4 x5 : Value) (w : World) : (Instr.index 75 (.agg #[x0, x1, x2, x3, x4, x5]) (.int .i64 2)).run Tryz.prog w = .ok (.agg #[x4, x5]) w := by kernel_rfl
set_option maxHeartbeats 2000000 in
theorem line8 (ho bo st : Nat) (hh : ho < 256) (hb : bo < 65536) (hs : st < 65536) (Na : Int) (na ca : Nat) (sa : Option Addr) (fa : Nat → Nat) (hfa : ∀ k, k < na → fa k < 18446744073709551616) (hna : na ≤ 9223372036854775807) (Nh : Int) (nh ch : Nat) (sh : Option Addr) (fh : Nat → Nat) (hfh : ∀ k, k < nh → fh k < 18446744073709551616) (hnh : nh ≤ 9223372036854775807) (Nb : Int) (nb cb : Nat) (sb : Option Addr) (fb : Nat → Nat) (hfb : ∀ k, k < nb → fb k < 18446744073709551616) (hnb : nb ≤ 9223372036854775807) (w : World) (hv : Hid (Hv w)) (wa : Wd w sa na fa) (wh : Wd w sh nh fh) (wb : Wd w sb nb fb) (hc : Lf.ck ho bo st ≠ 0) :
    Calls Tryz.prog 9 #[.agg #[.int .u8 (ho : Nat), .int .u16 (bo : Nat), .int .u16 (st : Nat)], .agg #[.int .i64 Na, .slice sa na ca], .agg #[.int .i64 Nh, .slice sh nh ch], .agg #[.int .i64 Nb, .slice sb nb cb]] w fun e w' => e = .returned (.tuple #[.agg #[.int .i64 0, .slice none 0 0], .int .i64 8]) ∧ w.grownBy w' none := by
  obtain ⟨W1, hW1, sz1, g1, B1⟩ := boxn w #[.int .u8 (ho : Nat), .int .u16 (bo : Nat), .int .u16 (st : Nat)] 28
  obtain ⟨W2, hW2, a0, a1, sz2, g2, B2⟩ := box2 W1 (.int .i64 Na) (.slice sa na ca) 33
  obtain ⟨W3, hW3, h0, h1, sz3, g3, B3⟩ := box2 W2 (.int .i64 Nh) (.slice sh nh ch) 33
  obtain ⟨W4, hW4, b0, b1, sz4, g4, B4⟩ := box2 W3 (.int .i64 Nb) (.slice sb nb cb) 33
  obtain ⟨W5, hW5, r0, r1, sz5, g5, B5⟩ := box2 W4 (.int .i64 0) (.slice none 0 0) 33
  have G5 : w.grownBy W5 none := gb_trans g1 (gb_trans g2 (gb_trans g3 (gb_trans g4 g5)))
  have P1 := B1.kept (gb_trans g2 (gb_trans g3 (gb_trans g4 g5))) (by simp)
  have P2 := B2.kept (gb_trans g3 (gb_trans g4 g5)) (by simp)
  have P3 := B3.kept (gb_trans g4 g5) (by simp)
  have P4 := B4.kept g5 (by simp)
  have l0 := P1.cell 0 (v := .int .u8 (ho : Nat)) rfl
  have l1 := P1.cell 1 (v := .int .u16 (bo : Nat)) rfl
  have l2 := P1.cell 2 (v := .int .u16 (st : Nat)) rfl
  have hck := fun w hv => lifeCk ho bo st hh hb hs w hv
  have hcc : ((Lf.ck ho bo st : Nat) : Int) ≠ 0 := by omega
  have hv5 := hvK hv G5
  obtain ⟨c, hc9⟩ : ∃ c : Nat, Lf.ck ho bo st = c := ⟨_, rfl⟩
  rw [hc9] at hck hcc
  clear hc9 hc
  go_enter Tryz.func9, Tryz.ntmps9
  go_wp2_with (go_at_call 30; refine (hck W5 hv5).mono ?_; rintro e V ⟨rfl, gV⟩; have BR := B5.kept gV (by simp); have t0 := BR.cell0; have t1 := BR.cell1; have tf0 := BR.free0; have tf1 := BR.free1)
  obtain ⟨fs, hfs⟩ := Wo.underR
  refine ret_box2 (g := W4.heap.size) (t := 33) rfl hfs Wo.infoR rfl (BR.set _ _) rfl ?_
  exact ⟨rfl, gb_new (gb_new (gb_trans G5 gV) (by have := sz1.out; have := sz2.out; have := sz3.out; have := sz4.out; show w.heap.size ≤ W4.heap.size; omega) _) (by have := sz1.out; have := sz2.out; have := sz3.out; have := sz4.out; show w.heap.size ≤ W4.heap.size; omega) _⟩
set_option maxHeartbeats 2000000 in
theorem bad_v (ho bo st : Nat) (hh : ho < 256) (hb : bo < 65536) (hs : st < 65536) (Na : Int) (na ca : Nat) (sa : Option Addr) (fa : Nat → Nat) (hfa : ∀ k, k < na → fa k < 18446744073709551616) (hna : na ≤ 9223372036854775807) (Nh : Int) (nh ch : Nat) (sh : Option Addr) (fh : Nat → Nat) (hfh : ∀ k, k < nh → fh k < 18446744073709551616) (hnh : nh ≤ 9223372036854775807) (Nb : Int) (nb cb : Nat) (sb : Option Addr) (fb : Nat → Nat) (hfb : ∀ k, k < nb → fb k < 18446744073709551616) (hnb : nb ≤ 9223372036854775807) (w : World) (hv : Hid (Hv w)) (wa : Wd w sa na fa) (wh : Wd w sh nh fh) (wb : Wd w sb nb fb) (hc : Lf.ck ho bo st = 0) (va : Wo.validB Na na fa = false) :
    Calls Tryz.prog 9 #[.agg #[.int .u8 (ho : Nat), .int .u16 (bo : Nat), .int .u16 (st : Nat)], .agg #[.int .i64 Na, .slice sa na ca], .agg #[.int .i64 Nh, .slice sh nh ch], .agg #[.int .i64 Nb, .slice sb nb cb]] w fun e w' => e = .returned (.tuple #[.agg #[.int .i64 0, .slice none 0 0], .int .i64 20]) ∧ w.grownBy w' none := by
  obtain ⟨W1, hW1, sz1, g1, B1⟩ := boxn w #[.int .u8 (ho : Nat), .int .u16 (bo : Nat), .int .u16 (st : Nat)] 28
  obtain ⟨W2, hW2, a0, a1, sz2, g2, B2⟩ := box2 W1 (.int .i64 Na) (.slice sa na ca) 33
  obtain ⟨W3, hW3, h0, h1, sz3, g3, B3⟩ := box2 W2 (.int .i64 Nh) (.slice sh nh ch) 33
  obtain ⟨W4, hW4, b0, b1, sz4, g4, B4⟩ := box2 W3 (.int .i64 Nb) (.slice sb nb cb) 33
  obtain ⟨W5, hW5, r0, r1, sz5, g5, B5⟩ := box2 W4 (.int .i64 0) (.slice none 0 0) 33
  have G5 : w.grownBy W5 none := gb_trans g1 (gb_trans g2 (gb_trans g3 (gb_trans g4 g5)))
  have P1 := B1.kept (gb_trans g2 (gb_trans g3 (gb_trans g4 g5))) (by simp)
  have P2 := B2.kept (gb_trans g3 (gb_trans g4 g5)) (by simp)
  have P3 := B3.kept (gb_trans g4 g5) (by simp)
  have P4 := B4.kept g5 (by simp)
  have l0 := P1.cell 0 (v := .int .u8 (ho : Nat)) rfl
  have l1 := P1.cell 1 (v := .int .u16 (bo : Nat)) rfl
  have l2 := P1.cell 2 (v := .int .u16 (st : Nat)) rfl
  have hck := fun w hv => lifeCk ho bo st hh hb hs w hv
  rw [hc] at hck
  have hv5 := hvK hv G5
  have k0 := jx0
  have k1 := jx1
  have kx2 := jx2
  go_enter Tryz.func9, Tryz.ntmps9
  go_wp2_with (go_at_call 30; refine (hck W5 hv5).mono ?_; rintro e V ⟨rfl, gV⟩; have Q2 := P2.kept gV (by simp); have Q3 := P3.kept gV (by simp); have Q4 := P4.kept gV (by simp); have x0 := Q2.cell0; have x1 := Q2.cell1; have x2 := Q3.cell0; have x3 := Q3.cell1; have x4 := Q4.cell0; have x5 := Q4.cell1)
  have GG0 : W5.grownBy V none := gV
  refine wp_loop_rounds 4 ?_
  obtain ⟨U0, hU0, i00, i10, szU0, gU0, BU0⟩ := box2 V (.int .i64 Na) (.slice sa na ca) 33
  have hval0 := Wo.validC Na na ca sa fa hfa hna U0 (wa.kept (gb_trans (gb_trans G5 GG0) gU0) (by simp))
  rw [va] at hval0
  rw [rounds_succ]
  go_wp2_with (go_at_call 24; refine hval0.mono ?_; rintro e V0 ⟨rfl, gV0⟩; have BV0 := BU0.kept gV0 (by simp); have j00 := BV0.cell0; have j10 := BV0.cell1; have R20 := P2.kept (gb_trans GG0 (gb_trans gU0 gV0)) (by simp); have R30 := P3.kept (gb_trans GG0 (gb_trans gU0 gV0)) (by simp); have R40 := P4.kept (gb_trans GG0 (gb_trans gU0 gV0)) (by simp); have R50 := B5.kept (gb_trans GG0 (gb_trans gU0 gV0)) (by simp); have y00 := R20.cell0; have y10 := R20.cell1; have y20 := R30.cell0; have y30 := R30.cell1; have y40 := R40.cell0; have y50 := R40.cell1; have t00 := R50.cell0; have t10 := R50.cell1; have tf00 := R50.free0; have tf10 := R50.free1)
  have GG1 : W5.grownBy V0 none := gb_trans GG0 (gb_trans gU0 gV0)
  obtain ⟨fs, hfs⟩ := Wo.underR
  refine ret_box2 (g := W4.heap.size) (t := 33) rfl hfs Wo.infoR rfl (R50.set _ _) rfl ?_
  exact ⟨rfl, gb_new (gb_new (gb_trans G5 GG1) (by have := sz1.out; have := sz2.out; have := sz3.out; have := sz4.out; show w.heap.size ≤ W4.heap.size; omega) _) (by have := sz1.out; have := sz2.out; have := sz3.out; have := sz4.out; show w.heap.size ≤ W4.heap.size; omega) _⟩
set_option maxHeartbeats 2000000 in
theorem bad_n (ho bo st : Nat) (hh : ho < 256) (hb : bo < 65536) (hs : st < 65536) (Na : Int) (na ca : Nat) (sa : Option Addr) (fa : Nat → Nat) (hfa : ∀ k, k < na → fa k < 18446744073709551616) (hna : na ≤ 9223372036854775807) (Nh : Int) (nh ch : Nat) (sh : Option Addr) (fh : Nat → Nat) (hfh : ∀ k, k < nh → fh k < 18446744073709551616) (hnh : nh ≤ 9223372036854775807) (Nb : Int) (nb cb : Nat) (sb : Option Addr) (fb : Nat → Nat) (hfb : ∀ k, k < nb → fb k < 18446744073709551616) (hnb : nb ≤ 9223372036854775807) (w : World) (hv : Hid (Hv w)) (wa : Wd w sa na fa) (wh : Wd w sh nh fh) (wb : Wd w sb nb fb) (hc : Lf.ck ho bo st = 0) (va : Wo.validB Na na fa = true) (N3a : Na < 3) :
    Calls Tryz.prog 9 #[.agg #[.int .u8 (ho : Nat), .int .u16 (bo : Nat), .int .u16 (st : Nat)], .agg #[.int .i64 Na, .slice sa na ca], .agg #[.int .i64 Nh, .slice sh nh ch], .agg #[.int .i64 Nb, .slice sb nb cb]] w fun e w' => e = .returned (.tuple #[.agg #[.int .i64 0, .slice none 0 0], .int .i64 20]) ∧ w.grownBy w' none := by
  obtain ⟨W1, hW1, sz1, g1, B1⟩ := boxn w #[.int .u8 (ho : Nat), .int .u16 (bo : Nat), .int .u16 (st : Nat)] 28
  obtain ⟨W2, hW2, a0, a1, sz2, g2, B2⟩ := box2 W1 (.int .i64 Na) (.slice sa na ca) 33
  obtain ⟨W3, hW3, h0, h1, sz3, g3, B3⟩ := box2 W2 (.int .i64 Nh) (.slice sh nh ch) 33
  obtain ⟨W4, hW4, b0, b1, sz4, g4, B4⟩ := box2 W3 (.int .i64 Nb) (.slice sb nb cb) 33
  obtain ⟨W5, hW5, r0, r1, sz5, g5, B5⟩ := box2 W4 (.int .i64 0) (.slice none 0 0) 33
  have G5 : w.grownBy W5 none := gb_trans g1 (gb_trans g2 (gb_trans g3 (gb_trans g4 g5)))
  have P1 := B1.kept (gb_trans g2 (gb_trans g3 (gb_trans g4 g5))) (by simp)
  have P2 := B2.kept (gb_trans g3 (gb_trans g4 g5)) (by simp)
  have P3 := B3.kept (gb_trans g4 g5) (by simp)
  have P4 := B4.kept g5 (by simp)
  have l0 := P1.cell 0 (v := .int .u8 (ho : Nat)) rfl
  have l1 := P1.cell 1 (v := .int .u16 (bo : Nat)) rfl
  have l2 := P1.cell 2 (v := .int .u16 (st : Nat)) rfl
  have hck := fun w hv => lifeCk ho bo st hh hb hs w hv
  rw [hc] at hck
  have hv5 := hvK hv G5
  have k0 := jx0
  have k1 := jx1
  have kx2 := jx2
  go_enter Tryz.func9, Tryz.ntmps9
  go_wp2_with (go_at_call 30; refine (hck W5 hv5).mono ?_; rintro e V ⟨rfl, gV⟩; have Q2 := P2.kept gV (by simp); have Q3 := P3.kept gV (by simp); have Q4 := P4.kept gV (by simp); have x0 := Q2.cell0; have x1 := Q2.cell1; have x2 := Q3.cell0; have x3 := Q3.cell1; have x4 := Q4.cell0; have x5 := Q4.cell1)
  have GG0 : W5.grownBy V none := gV
  refine wp_loop_rounds 4 ?_
  obtain ⟨U0, hU0, i00, i10, szU0, gU0, BU0⟩ := box2 V (.int .i64 Na) (.slice sa na ca) 33
  have hval0 := Wo.validC Na na ca sa fa hfa hna U0 (wa.kept (gb_trans (gb_trans G5 GG0) gU0) (by simp))
  rw [va] at hval0
  rw [rounds_succ]
  go_wp2_with (go_at_call 24; refine hval0.mono ?_; rintro e V0 ⟨rfl, gV0⟩; have BV0 := BU0.kept gV0 (by simp); have j00 := BV0.cell0; have j10 := BV0.cell1; have R20 := P2.kept (gb_trans GG0 (gb_trans gU0 gV0)) (by simp); have R30 := P3.kept (gb_trans GG0 (gb_trans gU0 gV0)) (by simp); have R40 := P4.kept (gb_trans GG0 (gb_trans gU0 gV0)) (by simp); have R50 := B5.kept (gb_trans GG0 (gb_trans gU0 gV0)) (by simp); have y00 := R20.cell0; have y10 := R20.cell1; have y20 := R30.cell0; have y30 := R30.cell1; have y40 := R40.cell0; have y50 := R40.cell1; have t00 := R50.cell0; have t10 := R50.cell1; have tf00 := R50.free0; have tf10 := R50.free1)
  have GG1 : W5.grownBy V0 none := gb_trans GG0 (gb_trans gU0 gV0)
  obtain ⟨fs, hfs⟩ := Wo.underR
  refine ret_box2 (g := W4.heap.size) (t := 33) rfl hfs Wo.infoR rfl (R50.set _ _) rfl ?_
  exact ⟨rfl, gb_new (gb_new (gb_trans G5 GG1) (by have := sz1.out; have := sz2.out; have := sz3.out; have := sz4.out; show w.heap.size ≤ W4.heap.size; omega) _) (by have := sz1.out; have := sz2.out; have := sz3.out; have := sz4.out; show w.heap.size ≤ W4.heap.size; omega) _⟩
set_option maxHeartbeats 2000000 in
theorem bad_gv (ho bo st : Nat) (hh : ho < 256) (hb : bo < 65536) (hs : st < 65536) (Na : Int) (na ca : Nat) (sa : Option Addr) (fa : Nat → Nat) (hfa : ∀ k, k < na → fa k < 18446744073709551616) (hna : na ≤ 9223372036854775807) (Nh : Int) (nh ch : Nat) (sh : Option Addr) (fh : Nat → Nat) (hfh : ∀ k, k < nh → fh k < 18446744073709551616) (hnh : nh ≤ 9223372036854775807) (Nb : Int) (nb cb : Nat) (sb : Option Addr) (fb : Nat → Nat) (hfb : ∀ k, k < nb → fb k < 18446744073709551616) (hnb : nb ≤ 9223372036854775807) (w : World) (hv : Hid (Hv w)) (wa : Wd w sa na fa) (wh : Wd w sh nh fh) (wb : Wd w sb nb fb) (hc : Lf.ck ho bo st = 0) (va : Wo.validB Na na fa = true) (N3a : ¬ Na < 3) (vh : Wo.validB Nh nh fh = false) :
    Calls Tryz.prog 9 #[.agg #[.int .u8 (ho : Nat), .int .u16 (bo : Nat), .int .u16 (st : Nat)], .agg #[.int .i64 Na, .slice sa na ca], .agg #[.int .i64 Nh, .slice sh nh ch], .agg #[.int .i64 Nb, .slice sb nb cb]] w fun e w' => e = .returned (.tuple #[.agg #[.int .i64 0, .slice none 0 0], .int .i64 20]) ∧ w.grownBy w' none := by
  obtain ⟨W1, hW1, sz1, g1, B1⟩ := boxn w #[.int .u8 (ho : Nat), .int .u16 (bo : Nat), .int .u16 (st : Nat)] 28
  obtain ⟨W2, hW2, a0, a1, sz2, g2, B2⟩ := box2 W1 (.int .i64 Na) (.slice sa na ca) 33
  obtain ⟨W3, hW3, h0, h1, sz3, g3, B3⟩ := box2 W2 (.int .i64 Nh) (.slice sh nh ch) 33
  obtain ⟨W4, hW4, b0, b1, sz4, g4, B4⟩ := box2 W3 (.int .i64 Nb) (.slice sb nb cb) 33
  obtain ⟨W5, hW5, r0, r1, sz5, g5, B5⟩ := box2 W4 (.int .i64 0) (.slice none 0 0) 33
  have G5 : w.grownBy W5 none := gb_trans g1 (gb_trans g2 (gb_trans g3 (gb_trans g4 g5)))
  have P1 := B1.kept (gb_trans g2 (gb_trans g3 (gb_trans g4 g5))) (by simp)
  have P2 := B2.kept (gb_trans g3 (gb_trans g4 g5)) (by simp)
  have P3 := B3.kept (gb_trans g4 g5) (by simp)
  have P4 := B4.kept g5 (by simp)
  have l0 := P1.cell 0 (v := .int .u8 (ho : Nat)) rfl
  have l1 := P1.cell 1 (v := .int .u16 (bo : Nat)) rfl
  have l2 := P1.cell 2 (v := .int .u16 (st : Nat)) rfl
  have hck := fun w hv => lifeCk ho bo st hh hb hs w hv
  rw [hc] at hck
  have hv5 := hvK hv G5
  have k0 := jx0
  have k1 := jx1
  have kx2 := jx2
  go_enter Tryz.func9, Tryz.ntmps9
  go_wp2_with (go_at_call 30; refine (hck W5 hv5).mono ?_; rintro e V ⟨rfl, gV⟩; have Q2 := P2.kept gV (by simp); have Q3 := P3.kept gV (by simp); have Q4 := P4.kept gV (by simp); have x0 := Q2.cell0; have x1 := Q2.cell1; have x2 := Q3.cell0; have x3 := Q3.cell1; have x4 := Q4.cell0; have x5 := Q4.cell1)
  have GG0 : W5.grownBy V none := gV
  refine wp_loop_rounds 4 ?_
  obtain ⟨U0, hU0, i00, i10, szU0, gU0, BU0⟩ := box2 V (.int .i64 Na) (.slice sa na ca) 33
  have hval0 := Wo.validC Na na ca sa fa hfa hna U0 (wa.kept (gb_trans (gb_trans G5 GG0) gU0) (by simp))
  rw [va] at hval0
  rw [rounds_succ]
  go_wp2_with (go_at_call 24; refine hval0.mono ?_; rintro e V0 ⟨rfl, gV0⟩; have BV0 := BU0.kept gV0 (by simp); have j00 := BV0.cell0; have j10 := BV0.cell1; have R20 := P2.kept (gb_trans GG0 (gb_trans gU0 gV0)) (by simp); have R30 := P3.kept (gb_trans GG0 (gb_trans gU0 gV0)) (by simp); have R40 := P4.kept (gb_trans GG0 (gb_trans gU0 gV0)) (by simp); have R50 := B5.kept (gb_trans GG0 (gb_trans gU0 gV0)) (by simp); have y00 := R20.cell0; have y10 := R20.cell1; have y20 := R30.cell0; have y30 := R30.cell1; have y40 := R40.cell0; have y50 := R40.cell1; have t00 := R50.cell0; have t10 := R50.cell1; have tf00 := R50.free0; have tf10 := R50.free1)
  have GG1 : W5.grownBy V0 none := gb_trans GG0 (gb_trans gU0 gV0)
  obtain ⟨U1, hU1, i01, i11, szU1, gU1, BU1⟩ := box2 V0 (.int .i64 Nh) (.slice sh nh ch) 33
  have hval1 := Wo.validC Nh nh ch sh fh hfh hnh U1 (wh.kept (gb_trans (gb_trans G5 GG1) gU1) (by simp))
  rw [vh] at hval1
  rw [rounds_succ]
  go_wp2_with (go_at_call 24; refine hval1.mono ?_; rintro e V1 ⟨rfl, gV1⟩; have BV1 := BU1.kept gV1 (by simp); have j01 := BV1.cell0; have j11 := BV1.cell1; have R21 := P2.kept (gb_trans GG1 (gb_trans gU1 gV1)) (by simp); have R31 := P3.kept (gb_trans GG1 (gb_trans gU1 gV1)) (by simp); have R41 := P4.kept (gb_trans GG1 (gb_trans gU1 gV1)) (by simp); have R51 := B5.kept (gb_trans GG1 (gb_trans gU1 gV1)) (by simp); have y01 := R21.cell0; have y11 := R21.cell1; have y21 := R31.cell0; have y31 := R31.cell1; have y41 := R41.cell0; have y51 := R41.cell1; have t01 := R51.cell0; have t11 := R51.cell1; have tf01 := R51.free0; have tf11 := R51.free1)
  have GG2 : W5.grownBy V1 none := gb_trans GG1 (gb_trans gU1 gV1)
  obtain ⟨fs, hfs⟩ := Wo.underR
  refine ret_box2 (g := W4.heap.size) (t := 33) rfl hfs Wo.infoR rfl (R51.set _ _) rfl ?_
  exact ⟨rfl, gb_new (gb_new (gb_trans G5 GG2) (by have := sz1.out; have := sz2.out; have := sz3.out; have := sz4.out; show w.heap.size ≤ W4.heap.size; omega) _) (by have := sz1.out; have := sz2.out; have := sz3.out; have := sz4.out; show w.heap.size ≤ W4.heap.size; omega) _⟩
set_option maxHeartbeats 2000000 in
theorem bad_gn (ho bo st : Nat) (hh : ho < 256) (hb : bo < 65536) (hs : st < 65536) (Na : Int) (na ca : Nat) (sa : Option Addr) (fa : Nat → Nat) (hfa : ∀ k, k < na → fa k < 18446744073709551616) (hna : na ≤ 9223372036854775807) (Nh : Int) (nh ch : Nat) (sh : Option Addr) (fh : Nat → Nat) (hfh : ∀ k, k < nh → fh k < 18446744073709551616) (hnh : nh ≤ 9223372036854775807) (Nb : Int) (nb cb : Nat) (sb : Option Addr) (fb : Nat → Nat) (hfb : ∀ k, k < nb → fb k < 18446744073709551616) (hnb : nb ≤ 9223372036854775807) (w : World) (hv : Hid (Hv w)) (wa : Wd w sa na fa) (wh : Wd w sh nh fh) (wb : Wd w sb nb fb) (hc : Lf.ck ho bo st = 0) (va : Wo.validB Na na fa = true) (N3a : ¬ Na < 3) (vh : Wo.validB Nh nh fh = true) (N3h : Nh < 3) :
    Calls Tryz.prog 9 #[.agg #[.int .u8 (ho : Nat), .int .u16 (bo : Nat), .int .u16 (st : Nat)], .agg #[.int .i64 Na, .slice sa na ca], .agg #[.int .i64 Nh, .slice sh nh ch], .agg #[.int .i64 Nb, .slice sb nb cb]] w fun e w' => e = .returned (.tuple #[.agg #[.int .i64 0, .slice none 0 0], .int .i64 20]) ∧ w.grownBy w' none := by
  obtain ⟨W1, hW1, sz1, g1, B1⟩ := boxn w #[.int .u8 (ho : Nat), .int .u16 (bo : Nat), .int .u16 (st : Nat)] 28
  obtain ⟨W2, hW2, a0, a1, sz2, g2, B2⟩ := box2 W1 (.int .i64 Na) (.slice sa na ca) 33
  obtain ⟨W3, hW3, h0, h1, sz3, g3, B3⟩ := box2 W2 (.int .i64 Nh) (.slice sh nh ch) 33
  obtain ⟨W4, hW4, b0, b1, sz4, g4, B4⟩ := box2 W3 (.int .i64 Nb) (.slice sb nb cb) 33
  obtain ⟨W5, hW5, r0, r1, sz5, g5, B5⟩ := box2 W4 (.int .i64 0) (.slice none 0 0) 33
  have G5 : w.grownBy W5 none := gb_trans g1 (gb_trans g2 (gb_trans g3 (gb_trans g4 g5)))
  have P1 := B1.kept (gb_trans g2 (gb_trans g3 (gb_trans g4 g5))) (by simp)
  have P2 := B2.kept (gb_trans g3 (gb_trans g4 g5)) (by simp)
  have P3 := B3.kept (gb_trans g4 g5) (by simp)
  have P4 := B4.kept g5 (by simp)
  have l0 := P1.cell 0 (v := .int .u8 (ho : Nat)) rfl
  have l1 := P1.cell 1 (v := .int .u16 (bo : Nat)) rfl
  have l2 := P1.cell 2 (v := .int .u16 (st : Nat)) rfl
  have hck := fun w hv => lifeCk ho bo st hh hb hs w hv
  rw [hc] at hck
  have hv5 := hvK hv G5
  have k0 := jx0
  have k1 := jx1
  have kx2 := jx2
  go_enter Tryz.func9, Tryz.ntmps9
  go_wp2_with (go_at_call 30; refine (hck W5 hv5).mono ?_; rintro e V ⟨rfl, gV⟩; have Q2 := P2.kept gV (by simp); have Q3 := P3.kept gV (by simp); have Q4 := P4.kept gV (by simp); have x0 := Q2.cell0; have x1 := Q2.cell1; have x2 := Q3.cell0; have x3 := Q3.cell1; have x4 := Q4.cell0; have x5 := Q4.cell1)
  have GG0 : W5.grownBy V none := gV
  refine wp_loop_rounds 4 ?_
  obtain ⟨U0, hU0, i00, i10, szU0, gU0, BU0⟩ := box2 V (.int .i64 Na) (.slice sa na ca) 33
  have hval0 := Wo.validC Na na ca sa fa hfa hna U0 (wa.kept (gb_trans (gb_trans G5 GG0) gU0) (by simp))
  rw [va] at hval0
  rw [rounds_succ]
  go_wp2_with (go_at_call 24; refine hval0.mono ?_; rintro e V0 ⟨rfl, gV0⟩; have BV0 := BU0.kept gV0 (by simp); have j00 := BV0.cell0; have j10 := BV0.cell1; have R20 := P2.kept (gb_trans GG0 (gb_trans gU0 gV0)) (by simp); have R30 := P3.kept (gb_trans GG0 (gb_trans gU0 gV0)) (by simp); have R40 := P4.kept (gb_trans GG0 (gb_trans gU0 gV0)) (by simp); have R50 := B5.kept (gb_trans GG0 (gb_trans gU0 gV0)) (by simp); have y00 := R20.cell0; have y10 := R20.cell1; have y20 := R30.cell0; have y30 := R30.cell1; have y40 := R40.cell0; have y50 := R40.cell1; have t00 := R50.cell0; have t10 := R50.cell1; have tf00 := R50.free0; have tf10 := R50.free1)
  have GG1 : W5.grownBy V0 none := gb_trans GG0 (gb_trans gU0 gV0)
  obtain ⟨U1, hU1, i01, i11, szU1, gU1, BU1⟩ := box2 V0 (.int .i64 Nh) (.slice sh nh ch) 33
  have hval1 := Wo.validC Nh nh ch sh fh hfh hnh U1 (wh.kept (gb_trans (gb_trans G5 GG1) gU1) (by simp))
  rw [vh] at hval1
  rw [rounds_succ]
  go_wp2_with (go_at_call 24; refine hval1.mono ?_; rintro e V1 ⟨rfl, gV1⟩; have BV1 := BU1.kept gV1 (by simp); have j01 := BV1.cell0; have j11 := BV1.cell1; have R21 := P2.kept (gb_trans GG1 (gb_trans gU1 gV1)) (by simp); have R31 := P3.kept (gb_trans GG1 (gb_trans gU1 gV1)) (by simp); have R41 := P4.kept (gb_trans GG1 (gb_trans gU1 gV1)) (by simp); have R51 := B5.kept (gb_trans GG1 (gb_trans gU1 gV1)) (by simp); have y01 := R21.cell0; have y11 := R21.cell1; have y21 := R31.cell0; have y31 := R31.cell1; have y41 := R41.cell0; have y51 := R41.cell1; have t01 := R51.cell0; have t11 := R51.cell1; have tf01 := R51.free0; have tf11 := R51.free1)
  have GG2 : W5.grownBy V1 none := gb_trans GG1 (gb_trans gU1 gV1)
  obtain ⟨fs, hfs⟩ := Wo.underR
  refine ret_box2 (g := W4.heap.size) (t := 33) rfl hfs Wo.infoR rfl (R51.set _ _) rfl ?_
  exact ⟨rfl, gb_new (gb_new (gb_trans G5 GG2) (by have := sz1.out; have := sz2.out; have := sz3.out; have := sz4.out; show w.heap.size ≤ W4.heap.size; omega) _) (by have := sz1.out; have := sz2.out; have := sz3.out; have := sz4.out; show w.heap.size ≤ W4.heap.size; omega) _⟩
set_option maxHeartbeats 2000000 in
theorem bad_ggv (ho bo st : Nat) (hh : ho < 256) (hb : bo < 65536) (hs : st < 65536) (Na : Int) (na ca : Nat) (sa : Option Addr) (fa : Nat → Nat) (hfa : ∀ k, k < na → fa k < 18446744073709551616) (hna : na ≤ 9223372036854775807) (Nh : Int) (nh ch : Nat) (sh : Option Addr) (fh : Nat → Nat) (hfh : ∀ k, k < nh → fh k < 18446744073709551616) (hnh : nh ≤ 9223372036854775807) (Nb : Int) (nb cb : Nat) (sb : Option Addr) (fb : Nat → Nat) (hfb : ∀ k, k < nb → fb k < 18446744073709551616) (hnb : nb ≤ 9223372036854775807) (w : World) (hv : Hid (Hv w)) (wa : Wd w sa na fa) (wh : Wd w sh nh fh) (wb : Wd w sb nb fb) (hc : Lf.ck ho bo st = 0) (va : Wo.validB Na na fa = true) (N3a : ¬ Na < 3) (vh : Wo.validB Nh nh fh = true) (N3h : ¬ Nh < 3) (vb : Wo.validB Nb nb fb = false) :
    Calls Tryz.prog 9 #[.agg #[.int .u8 (ho : Nat), .int .u16 (bo : Nat), .int .u16 (st : Nat)], .agg #[.int .i64 Na, .slice sa na ca], .agg #[.int .i64 Nh, .slice sh nh ch], .agg #[.int .i64 Nb, .slice sb nb cb]] w fun e w' => e = .returned (.tuple #[.agg #[.int .i64 0, .slice none 0 0], .int .i64 20]) ∧ w.grownBy w' none := by
  obtain ⟨W1, hW1, sz1, g1, B1⟩ := boxn w #[.int .u8 (ho : Nat), .int .u16 (bo : Nat), .int .u16 (st : Nat)] 28
  obtain ⟨W2, hW2, a0, a1, sz2, g2, B2⟩ := box2 W1 (.int .i64 Na) (.slice sa na ca) 33
  obtain ⟨W3, hW3, h0, h1, sz3, g3, B3⟩ := box2 W2 (.int .i64 Nh) (.slice sh nh ch) 33
  obtain ⟨W4, hW4, b0, b1, sz4, g4, B4⟩ := box2 W3 (.int .i64 Nb) (.slice sb nb cb) 33
  obtain ⟨W5, hW5, r0, r1, sz5, g5, B5⟩ := box2 W4 (.int .i64 0) (.slice none 0 0) 33
  have G5 : w.grownBy W5 none := gb_trans g1 (gb_trans g2 (gb_trans g3 (gb_trans g4 g5)))
  have P1 := B1.kept (gb_trans g2 (gb_trans g3 (gb_trans g4 g5))) (by simp)
  have P2 := B2.kept (gb_trans g3 (gb_trans g4 g5)) (by simp)
  have P3 := B3.kept (gb_trans g4 g5) (by simp)
  have P4 := B4.kept g5 (by simp)
  have l0 := P1.cell 0 (v := .int .u8 (ho : Nat)) rfl
  have l1 := P1.cell 1 (v := .int .u16 (bo : Nat)) rfl
  have l2 := P1.cell 2 (v := .int .u16 (st : Nat)) rfl
  have hck := fun w hv => lifeCk ho bo st hh hb hs w hv
  rw [hc] at hck
  have hv5 := hvK hv G5
  have k0 := jx0
  have k1 := jx1
  have kx2 := jx2
  go_enter Tryz.func9, Tryz.ntmps9
  go_wp2_with (go_at_call 30; refine (hck W5 hv5).mono ?_; rintro e V ⟨rfl, gV⟩; have Q2 := P2.kept gV (by simp); have Q3 := P3.kept gV (by simp); have Q4 := P4.kept gV (by simp); have x0 := Q2.cell0; have x1 := Q2.cell1; have x2 := Q3.cell0; have x3 := Q3.cell1; have x4 := Q4.cell0; have x5 := Q4.cell1)
  have GG0 : W5.grownBy V none := gV
  refine wp_loop_rounds 4 ?_
  obtain ⟨U0, hU0, i00, i10, szU0, gU0, BU0⟩ := box2 V (.int .i64 Na) (.slice sa na ca) 33
  have hval0 := Wo.validC Na na ca sa fa hfa hna U0 (wa.kept (gb_trans (gb_trans G5 GG0) gU0) (by simp))
  rw [va] at hval0
  rw [rounds_succ]
  go_wp2_with (go_at_call 24; refine hval0.mono ?_; rintro e V0 ⟨rfl, gV0⟩; have BV0 := BU0.kept gV0 (by simp); have j00 := BV0.cell0; have j10 := BV0.cell1; have R20 := P2.kept (gb_trans GG0 (gb_trans gU0 gV0)) (by simp); have R30 := P3.kept (gb_trans GG0 (gb_trans gU0 gV0)) (by simp); have R40 := P4.kept (gb_trans GG0 (gb_trans gU0 gV0)) (by simp); have R50 := B5.kept (gb_trans GG0 (gb_trans gU0 gV0)) (by simp); have y00 := R20.cell0; have y10 := R20.cell1; have y20 := R30.cell0; have y30 := R30.cell1; have y40 := R40.cell0; have y50 := R40.cell1; have t00 := R50.cell0; have t10 := R50.cell1; have tf00 := R50.free0; have tf10 := R50.free1)
  have GG1 : W5.grownBy V0 none := gb_trans GG0 (gb_trans gU0 gV0)
  obtain ⟨U1, hU1, i01, i11, szU1, gU1, BU1⟩ := box2 V0 (.int .i64 Nh) (.slice sh nh ch) 33
  have hval1 := Wo.validC Nh nh ch sh fh hfh hnh U1 (wh.kept (gb_trans (gb_trans G5 GG1) gU1) (by simp))
  rw [vh] at hval1
  rw [rounds_succ]
  go_wp2_with (go_at_call 24; refine hval1.mono ?_; rintro e V1 ⟨rfl, gV1⟩; have BV1 := BU1.kept gV1 (by simp); have j01 := BV1.cell0; have j11 := BV1.cell1; have R21 := P2.kept (gb_trans GG1 (gb_trans gU1 gV1)) (by simp); have R31 := P3.kept (gb_trans GG1 (gb_trans gU1 gV1)) (by simp); have R41 := P4.kept (gb_trans GG1 (gb_trans gU1 gV1)) (by simp); have R51 := B5.kept (gb_trans GG1 (gb_trans gU1 gV1)) (by simp); have y01 := R21.cell0; have y11 := R21.cell1; have y21 := R31.cell0; have y31 := R31.cell1; have y41 := R41.cell0; have y51 := R41.cell1; have t01 := R51.cell0; have t11 := R51.cell1; have tf01 := R51.free0; have tf11 := R51.free1)
  have GG2 : W5.grownBy V1 none := gb_trans GG1 (gb_trans gU1 gV1)
  obtain ⟨U2, hU2, i02, i12, szU2, gU2, BU2⟩ := box2 V1 (.int .i64 Nb) (.slice sb nb cb) 33
  have hval2 := Wo.validC Nb nb cb sb fb hfb hnb U2 (wb.kept (gb_trans (gb_trans G5 GG2) gU2) (by simp))
  rw [vb] at hval2
  rw [rounds_succ]
  go_wp2_with (go_at_call 24; refine hval2.mono ?_; rintro e V2 ⟨rfl, gV2⟩; have BV2 := BU2.kept gV2 (by simp); have j02 := BV2.cell0; have j12 := BV2.cell1; have R22 := P2.kept (gb_trans GG2 (gb_trans gU2 gV2)) (by simp); have R32 := P3.kept (gb_trans GG2 (gb_trans gU2 gV2)) (by simp); have R42 := P4.kept (gb_trans GG2 (gb_trans gU2 gV2)) (by simp); have R52 := B5.kept (gb_trans GG2 (gb_trans gU2 gV2)) (by simp); have y02 := R22.cell0; have y12 := R22.cell1; have y22 := R32.cell0; have y32 := R32.cell1; have y42 := R42.cell0; have y52 := R42.cell1; have t02 := R52.cell0; have t12 := R52.cell1; have tf02 := R52.free0; have tf12 := R52.free1)
  have GG3 : W5.grownBy V2 none := gb_trans GG2 (gb_trans gU2 gV2)
  obtain ⟨fs, hfs⟩ := Wo.underR
  refine ret_box2 (g := W4.heap.size) (t := 33) rfl hfs Wo.infoR rfl (R52.set _ _) rfl ?_
  exact ⟨rfl, gb_new (gb_new (gb_trans G5 GG3) (by have := sz1.out; have := sz2.out; have := sz3.out; have := sz4.out; show w.heap.size ≤ W4.heap.size; omega) _) (by have := sz1.out; have := sz2.out; have := sz3.out; have := sz4.out; show w.heap.size ≤ W4.heap.size; omega) _⟩
set_option maxHeartbeats 2000000 in
theorem bad_ggn (ho bo st : Nat) (hh : ho < 256) (hb : bo < 65536) (hs : st < 65536) (Na : Int) (na ca : Nat) (sa : Option Addr) (fa : Nat → Nat) (hfa : ∀ k, k < na → fa k < 18446744073709551616) (hna : na ≤ 9223372036854775807) (Nh : Int) (nh ch : Nat) (sh : Option Addr) (fh : Nat → Nat) (hfh : ∀ k, k < nh → fh k < 18446744073709551616) (hnh : nh ≤ 9223372036854775807) (Nb : Int) (nb cb : Nat) (sb : Option Addr) (fb : Nat → Nat) (hfb : ∀ k, k < nb → fb k < 18446744073709551616) (hnb : nb ≤ 9223372036854775807) (w : World) (hv : Hid (Hv w)) (wa : Wd w sa na fa) (wh : Wd w sh nh fh) (wb : Wd w sb nb fb) (hc : Lf.ck ho bo st = 0) (va : Wo.validB Na na fa = true) (N3a : ¬ Na < 3) (vh : Wo.validB Nh nh fh = true) (N3h : ¬ Nh < 3) (vb : Wo.validB Nb nb fb = true) (N3b : Nb < 3) :
    Calls Tryz.prog 9 #[.agg #[.int .u8 (ho : Nat), .int .u16 (bo : Nat), .int .u16 (st : Nat)], .agg #[.int .i64 Na, .slice sa na ca], .agg #[.int .i64 Nh, .slice sh nh ch], .agg #[.int .i64 Nb, .slice sb nb cb]] w fun e w' => e = .returned (.tuple #[.agg #[.int .i64 0, .slice none 0 0], .int .i64 20]) ∧ w.grownBy w' none := by
  obtain ⟨W1, hW1, sz1, g1, B1⟩ := boxn w #[.int .u8 (ho : Nat), .int .u16 (bo : Nat), .int .u16 (st : Nat)] 28
  obtain ⟨W2, hW2, a0, a1, sz2, g2, B2⟩ := box2 W1 (.int .i64 Na) (.slice sa na ca) 33
  obtain ⟨W3, hW3, h0, h1, sz3, g3, B3⟩ := box2 W2 (.int .i64 Nh) (.slice sh nh ch) 33
  obtain ⟨W4, hW4, b0, b1, sz4, g4, B4⟩ := box2 W3 (.int .i64 Nb) (.slice sb nb cb) 33
  obtain ⟨W5, hW5, r0, r1, sz5, g5, B5⟩ := box2 W4 (.int .i64 0) (.slice none 0 0) 33
  have G5 : w.grownBy W5 none := gb_trans g1 (gb_trans g2 (gb_trans g3 (gb_trans g4 g5)))
  have P1 := B1.kept (gb_trans g2 (gb_trans g3 (gb_trans g4 g5))) (by simp)
  have P2 := B2.kept (gb_trans g3 (gb_trans g4 g5)) (by simp)
  have P3 := B3.kept (gb_trans g4 g5) (by simp)
  have P4 := B4.kept g5 (by simp)
  have l0 := P1.cell 0 (v := .int .u8 (ho : Nat)) rfl
  have l1 := P1.cell 1 (v := .int .u16 (bo : Nat)) rfl
  have l2 := P1.cell 2 (v := .int .u16 (st : Nat)) rfl
  have hck := fun w hv => lifeCk ho bo st hh hb hs w hv
  rw [hc] at hck
  have hv5 := hvK hv G5
  have k0 := jx0
  have k1 := jx1
  have kx2 := jx2
  go_enter Tryz.func9, Tryz.ntmps9
  go_wp2_with (go_at_call 30; refine (hck W5 hv5).mono ?_; rintro e V ⟨rfl, gV⟩; have Q2 := P2.kept gV (by simp); have Q3 := P3.kept gV (by simp); have Q4 := P4.kept gV (by simp); have x0 := Q2.cell0; have x1 := Q2.cell1; have x2 := Q3.cell0; have x3 := Q3.cell1; have x4 := Q4.cell0; have x5 := Q4.cell1)
  have GG0 : W5.grownBy V none := gV
  refine wp_loop_rounds 4 ?_
  obtain ⟨U0, hU0, i00, i10, szU0, gU0, BU0⟩ := box2 V (.int .i64 Na) (.slice sa na ca) 33
  have hval0 := Wo.validC Na na ca sa fa hfa hna U0 (wa.kept (gb_trans (gb_trans G5 GG0) gU0) (by simp))
  rw [va] at hval0
  rw [rounds_succ]
  go_wp2_with (go_at_call 24; refine hval0.mono ?_; rintro e V0 ⟨rfl, gV0⟩; have BV0 := BU0.kept gV0 (by simp); have j00 := BV0.cell0; have j10 := BV0.cell1; have R20 := P2.kept (gb_trans GG0 (gb_trans gU0 gV0)) (by simp); have R30 := P3.kept (gb_trans GG0 (gb_trans gU0 gV0)) (by simp); have R40 := P4.kept (gb_trans GG0 (gb_trans gU0 gV0)) (by simp); have R50 := B5.kept (gb_trans GG0 (gb_trans gU0 gV0)) (by simp); have y00 := R20.cell0; have y10 := R20.cell1; have y20 := R30.cell0; have y30 := R30.cell1; have y40 := R40.cell0; have y50 := R40.cell1; have t00 := R50.cell0; have t10 := R50.cell1; have tf00 := R50.free0; have tf10 := R50.free1)
  have GG1 : W5.grownBy V0 none := gb_trans GG0 (gb_trans gU0 gV0)
  obtain ⟨U1, hU1, i01, i11, szU1, gU1, BU1⟩ := box2 V0 (.int .i64 Nh) (.slice sh nh ch) 33
  have hval1 := Wo.validC Nh nh ch sh fh hfh hnh U1 (wh.kept (gb_trans (gb_trans G5 GG1) gU1) (by simp))
  rw [vh] at hval1
  rw [rounds_succ]
  go_wp2_with (go_at_call 24; refine hval1.mono ?_; rintro e V1 ⟨rfl, gV1⟩; have BV1 := BU1.kept gV1 (by simp); have j01 := BV1.cell0; have j11 := BV1.cell1; have R21 := P2.kept (gb_trans GG1 (gb_trans gU1 gV1)) (by simp); have R31 := P3.kept (gb_trans GG1 (gb_trans gU1 gV1)) (by simp); have R41 := P4.kept (gb_trans GG1 (gb_trans gU1 gV1)) (by simp); have R51 := B5.kept (gb_trans GG1 (gb_trans gU1 gV1)) (by simp); have y01 := R21.cell0; have y11 := R21.cell1; have y21 := R31.cell0; have y31 := R31.cell1; have y41 := R41.cell0; have y51 := R41.cell1; have t01 := R51.cell0; have t11 := R51.cell1; have tf01 := R51.free0; have tf11 := R51.free1)
  have GG2 : W5.grownBy V1 none := gb_trans GG1 (gb_trans gU1 gV1)
  obtain ⟨U2, hU2, i02, i12, szU2, gU2, BU2⟩ := box2 V1 (.int .i64 Nb) (.slice sb nb cb) 33
  have hval2 := Wo.validC Nb nb cb sb fb hfb hnb U2 (wb.kept (gb_trans (gb_trans G5 GG2) gU2) (by simp))
  rw [vb] at hval2
  rw [rounds_succ]
  go_wp2_with (go_at_call 24; refine hval2.mono ?_; rintro e V2 ⟨rfl, gV2⟩; have BV2 := BU2.kept gV2 (by simp); have j02 := BV2.cell0; have j12 := BV2.cell1; have R22 := P2.kept (gb_trans GG2 (gb_trans gU2 gV2)) (by simp); have R32 := P3.kept (gb_trans GG2 (gb_trans gU2 gV2)) (by simp); have R42 := P4.kept (gb_trans GG2 (gb_trans gU2 gV2)) (by simp); have R52 := B5.kept (gb_trans GG2 (gb_trans gU2 gV2)) (by simp); have y02 := R22.cell0; have y12 := R22.cell1; have y22 := R32.cell0; have y32 := R32.cell1; have y42 := R42.cell0; have y52 := R42.cell1; have t02 := R52.cell0; have t12 := R52.cell1; have tf02 := R52.free0; have tf12 := R52.free1)
  have GG3 : W5.grownBy V2 none := gb_trans GG2 (gb_trans gU2 gV2)
  obtain ⟨fs, hfs⟩ := Wo.underR
  refine ret_box2 (g := W4.heap.size) (t := 33) rfl hfs Wo.infoR rfl (R52.set _ _) rfl ?_
  exact ⟨rfl, gb_new (gb_new (gb_trans G5 GG3) (by have := sz1.out; have := sz2.out; have := sz3.out; have := sz4.out; show w.heap.size ≤ W4.heap.size; omega) _) (by have := sz1.out; have := sz2.out; have := sz3.out; have := sz4.out; show w.heap.size ≤ W4.heap.size; omega) _⟩
end Go.Proofs.YthjiiljglgmkpaaGreatDoor.Pd
namespace Go.Proofs.YthjiiljglgmkpaaGreatDoor.Pd
open Go.RowKit
set_option linter.unusedVariables false
set_option linter.unusedSimpArgs false
set_option maxRecDepth 100000

set_option maxHeartbeats 2000000 in
theorem un_a (ho bo st : Nat) (hh : ho < 256) (hb : bo < 65536) (hs : st < 65536) (Na : Int) (na ca : Nat) (sa : Option Addr) (fa : Nat → Nat) (hfa : ∀ k, k < na → fa k < 18446744073709551616) (hna : na ≤ 9223372036854775807) (Nh : Int) (nh ch : Nat) (sh : Option Addr) (fh : Nat → Nat) (hfh : ∀ k, k < nh → fh k < 18446744073709551616) (hnh : nh ≤ 9223372036854775807) (Nb : Int) (nb cb : Nat) (sb : Option Addr) (fb : Nat → Nat) (hfb : ∀ k, k < nb → fb k < 18446744073709551616) (hnb : nb ≤ 9223372036854775807) (w : World) (hv : Hid (Hv w)) (wa : Wd w sa na fa) (wh : Wd w sh nh fh) (wb : Wd w sb nb fb) (hc : Lf.ck ho bo st = 0) (va : Wo.validB Na na fa = true) (N3a : ¬ Na < 3) (vh : Wo.validB Nh nh fh = true) (N3h : ¬ Nh < 3) (vb : Wo.validB Nb nb fb = true) (N3b : ¬ Nb < 3) (ne : (Na != Nh) = true) :
    Calls Tryz.prog 9 #[.agg #[.int .u8 (ho : Nat), .int .u16 (bo : Nat), .int .u16 (st : Nat)], .agg #[.int .i64 Na, .slice sa na ca], .agg #[.int .i64 Nh, .slice sh nh ch], .agg #[.int .i64 Nb, .slice sb nb cb]] w fun e w' => e = .returned (.tuple #[.agg #[.int .i64 0, .slice none 0 0], .int .i64 21]) ∧ w.grownBy w' none := by
  obtain ⟨W1, hW1, sz1, g1, B1⟩ := boxn w #[.int .u8 (ho : Nat), .int .u16 (bo : Nat), .int .u16 (st : Nat)] 28
  obtain ⟨W2, hW2, a0, a1, sz2, g2, B2⟩ := box2 W1 (.int .i64 Na) (.slice sa na ca) 33
  obtain ⟨W3, hW3, h0, h1, sz3, g3, B3⟩ := box2 W2 (.int .i64 Nh) (.slice sh nh ch) 33
  obtain ⟨W4, hW4, b0, b1, sz4, g4, B4⟩ := box2 W3 (.int .i64 Nb) (.slice sb nb cb) 33
  obtain ⟨W5, hW5, r0, r1, sz5, g5, B5⟩ := box2 W4 (.int .i64 0) (.slice none 0 0) 33
  have G5 : w.grownBy W5 none := gb_trans g1 (gb_trans g2 (gb_trans g3 (gb_trans g4 g5)))
  have P1 := B1.kept (gb_trans g2 (gb_trans g3 (gb_trans g4 g5))) (by simp)
  have P2 := B2.kept (gb_trans g3 (gb_trans g4 g5)) (by simp)
  have P3 := B3.kept (gb_trans g4 g5) (by simp)
  have P4 := B4.kept g5 (by simp)
  have l0 := P1.cell 0 (v := .int .u8 (ho : Nat)) rfl
  have l1 := P1.cell 1 (v := .int .u16 (bo : Nat)) rfl
  have l2 := P1.cell 2 (v := .int .u16 (st : Nat)) rfl
  have hck := fun w hv => lifeCk ho bo st hh hb hs w hv
  rw [hc] at hck
  have hv5 := hvK hv G5
  have k0 := jx0
  have k1 := jx1
  have kx2 := jx2
  go_enter Tryz.func9, Tryz.ntmps9
  go_wp2_with (go_at_call 30; refine (hck W5 hv5).mono ?_; rintro e V ⟨rfl, gV⟩; have Q2 := P2.kept gV (by simp); have Q3 := P3.kept gV (by simp); have Q4 := P4.kept gV (by simp); have x0 := Q2.cell0; have x1 := Q2.cell1; have x2 := Q3.cell0; have x3 := Q3.cell1; have x4 := Q4.cell0; have x5 := Q4.cell1)
  have GG0 : W5.grownBy V none := gV
  refine wp_loop_rounds 4 ?_
  obtain ⟨U0, hU0, i00, i10, szU0, gU0, BU0⟩ := box2 V (.int .i64 Na) (.slice sa na ca) 33
  have hval0 := Wo.validC Na na ca sa fa hfa hna U0 (wa.kept (gb_trans (gb_trans G5 GG0) gU0) (by simp))
  rw [va] at hval0
  rw [rounds_succ]
  go_wp2_with (go_at_call 24; refine hval0.mono ?_; rintro e V0 ⟨rfl, gV0⟩; have BV0 := BU0.kept gV0 (by simp); have j00 := BV0.cell0; have j10 := BV0.cell1; have R20 := P2.kept (gb_trans GG0 (gb_trans gU0 gV0)) (by simp); have R30 := P3.kept (gb_trans GG0 (gb_trans gU0 gV0)) (by simp); have R40 := P4.kept (gb_trans GG0 (gb_trans gU0 gV0)) (by simp); have R50 := B5.kept (gb_trans GG0 (gb_trans gU0 gV0)) (by simp); have y00 := R20.cell0; have y10 := R20.cell1; have y20 := R30.cell0; have y30 := R30.cell1; have y40 := R40.cell0; have y50 := R40.cell1; have t00 := R50.cell0; have t10 := R50.cell1; have tf00 := R50.free0; have tf10 := R50.free1)
  have GG1 : W5.grownBy V0 none := gb_trans GG0 (gb_trans gU0 gV0)
  obtain ⟨U1, hU1, i01, i11, szU1, gU1, BU1⟩ := box2 V0 (.int .i64 Nh) (.slice sh nh ch) 33
  have hval1 := Wo.validC Nh nh ch sh fh hfh hnh U1 (wh.kept (gb_trans (gb_trans G5 GG1) gU1) (by simp))
  rw [vh] at hval1
  rw [rounds_succ]
  go_wp2_with (go_at_call 24; refine hval1.mono ?_; rintro e V1 ⟨rfl, gV1⟩; have BV1 := BU1.kept gV1 (by simp); have j01 := BV1.cell0; have j11 := BV1.cell1; have R21 := P2.kept (gb_trans GG1 (gb_trans gU1 gV1)) (by simp); have R31 := P3.kept (gb_trans GG1 (gb_trans gU1 gV1)) (by simp); have R41 := P4.kept (gb_trans GG1 (gb_trans gU1 gV1)) (by simp); have R51 := B5.kept (gb_trans GG1 (gb_trans gU1 gV1)) (by simp); have y01 := R21.cell0; have y11 := R21.cell1; have y21 := R31.cell0; have y31 := R31.cell1; have y41 := R41.cell0; have y51 := R41.cell1; have t01 := R51.cell0; have t11 := R51.cell1; have tf01 := R51.free0; have tf11 := R51.free1)
  have GG2 : W5.grownBy V1 none := gb_trans GG1 (gb_trans gU1 gV1)
  obtain ⟨U2, hU2, i02, i12, szU2, gU2, BU2⟩ := box2 V1 (.int .i64 Nb) (.slice sb nb cb) 33
  have hval2 := Wo.validC Nb nb cb sb fb hfb hnb U2 (wb.kept (gb_trans (gb_trans G5 GG2) gU2) (by simp))
  rw [vb] at hval2
  rw [rounds_succ]
  go_wp2_with (go_at_call 24; refine hval2.mono ?_; rintro e V2 ⟨rfl, gV2⟩; have BV2 := BU2.kept gV2 (by simp); have j02 := BV2.cell0; have j12 := BV2.cell1; have R22 := P2.kept (gb_trans GG2 (gb_trans gU2 gV2)) (by simp); have R32 := P3.kept (gb_trans GG2 (gb_trans gU2 gV2)) (by simp); have R42 := P4.kept (gb_trans GG2 (gb_trans gU2 gV2)) (by simp); have R52 := B5.kept (gb_trans GG2 (gb_trans gU2 gV2)) (by simp); have y02 := R22.cell0; have y12 := R22.cell1; have y22 := R32.cell0; have y32 := R32.cell1; have y42 := R42.cell0; have y52 := R42.cell1; have t02 := R52.cell0; have t12 := R52.cell1; have tf02 := R52.free0; have tf12 := R52.free1)
  have GG3 : W5.grownBy V2 none := gb_trans GG2 (gb_trans gU2 gV2)
  rw [rounds_succ]
  go_wp2
  obtain ⟨fs, hfs⟩ := Wo.underR
  refine ret_box2 (g := W4.heap.size) (t := 33) rfl hfs Wo.infoR rfl (R52.set _ _) rfl ?_
  exact ⟨rfl, gb_new (gb_new (gb_trans G5 GG3) (by have := sz1.out; have := sz2.out; have := sz3.out; have := sz4.out; show w.heap.size ≤ W4.heap.size; omega) _) (by have := sz1.out; have := sz2.out; have := sz3.out; have := sz4.out; show w.heap.size ≤ W4.heap.size; omega) _⟩
set_option maxHeartbeats 2000000 in
theorem un_b (ho bo st : Nat) (hh : ho < 256) (hb : bo < 65536) (hs : st < 65536) (Na : Int) (na ca : Nat) (sa : Option Addr) (fa : Nat → Nat) (hfa : ∀ k, k < na → fa k < 18446744073709551616) (hna : na ≤ 9223372036854775807) (Nh : Int) (nh ch : Nat) (sh : Option Addr) (fh : Nat → Nat) (hfh : ∀ k, k < nh → fh k < 18446744073709551616) (hnh : nh ≤ 9223372036854775807) (Nb : Int) (nb cb : Nat) (sb : Option Addr) (fb : Nat → Nat) (hfb : ∀ k, k < nb → fb k < 18446744073709551616) (hnb : nb ≤ 9223372036854775807) (w : World) (hv : Hid (Hv w)) (wa : Wd w sa na fa) (wh : Wd w sh nh fh) (wb : Wd w sb nb fb) (hc : Lf.ck ho bo st = 0) (va : Wo.validB Na na fa = true) (N3a : ¬ Na < 3) (vh : Wo.validB Nh nh fh = true) (N3h : ¬ Nh < 3) (vb : Wo.validB Nb nb fb = true) (N3b : ¬ Nb < 3) (ne : (Na != Nh) = false) (ne2 : (Nb != Nh) = true) :
    Calls Tryz.prog 9 #[.agg #[.int .u8 (ho : Nat), .int .u16 (bo : Nat), .int .u16 (st : Nat)], .agg #[.int .i64 Na, .slice sa na ca], .agg #[.int .i64 Nh, .slice sh nh ch], .agg #[.int .i64 Nb, .slice sb nb cb]] w fun e w' => e = .returned (.tuple #[.agg #[.int .i64 0, .slice none 0 0], .int .i64 21]) ∧ w.grownBy w' none := by
  obtain ⟨W1, hW1, sz1, g1, B1⟩ := boxn w #[.int .u8 (ho : Nat), .int .u16 (bo : Nat), .int .u16 (st : Nat)] 28
  obtain ⟨W2, hW2, a0, a1, sz2, g2, B2⟩ := box2 W1 (.int .i64 Na) (.slice sa na ca) 33
  obtain ⟨W3, hW3, h0, h1, sz3, g3, B3⟩ := box2 W2 (.int .i64 Nh) (.slice sh nh ch) 33
  obtain ⟨W4, hW4, b0, b1, sz4, g4, B4⟩ := box2 W3 (.int .i64 Nb) (.slice sb nb cb) 33
  obtain ⟨W5, hW5, r0, r1, sz5, g5, B5⟩ := box2 W4 (.int .i64 0) (.slice none 0 0) 33
  have G5 : w.grownBy W5 none := gb_trans g1 (gb_trans g2 (gb_trans g3 (gb_trans g4 g5)))
  have P1 := B1.kept (gb_trans g2 (gb_trans g3 (gb_trans g4 g5))) (by simp)
  have P2 := B2.kept (gb_trans g3 (gb_trans g4 g5)) (by simp)
  have P3 := B3.kept (gb_trans g4 g5) (by simp)
  have P4 := B4.kept g5 (by simp)
  have l0 := P1.cell 0 (v := .int .u8 (ho : Nat)) rfl
  have l1 := P1.cell 1 (v := .int .u16 (bo : Nat)) rfl
  have l2 := P1.cell 2 (v := .int .u16 (st : Nat)) rfl
  have hck := fun w hv => lifeCk ho bo st hh hb hs w hv
  rw [hc] at hck
  have hv5 := hvK hv G5
  have k0 := jx0
  have k1 := jx1
  have kx2 := jx2
  go_enter Tryz.func9, Tryz.ntmps9
  go_wp2_with (go_at_call 30; refine (hck W5 hv5).mono ?_; rintro e V ⟨rfl, gV⟩; have Q2 := P2.kept gV (by simp); have Q3 := P3.kept gV (by simp); have Q4 := P4.kept gV (by simp); have x0 := Q2.cell0; have x1 := Q2.cell1; have x2 := Q3.cell0; have x3 := Q3.cell1; have x4 := Q4.cell0; have x5 := Q4.cell1)
  have GG0 : W5.grownBy V none := gV
  refine wp_loop_rounds 4 ?_
  obtain ⟨U0, hU0, i00, i10, szU0, gU0, BU0⟩ := box2 V (.int .i64 Na) (.slice sa na ca) 33
  have hval0 := Wo.validC Na na ca sa fa hfa hna U0 (wa.kept (gb_trans (gb_trans G5 GG0) gU0) (by simp))
  rw [va] at hval0
  rw [rounds_succ]
  go_wp2_with (go_at_call 24; refine hval0.mono ?_; rintro e V0 ⟨rfl, gV0⟩; have BV0 := BU0.kept gV0 (by simp); have j00 := BV0.cell0; have j10 := BV0.cell1; have R20 := P2.kept (gb_trans GG0 (gb_trans gU0 gV0)) (by simp); have R30 := P3.kept (gb_trans GG0 (gb_trans gU0 gV0)) (by simp); have R40 := P4.kept (gb_trans GG0 (gb_trans gU0 gV0)) (by simp); have R50 := B5.kept (gb_trans GG0 (gb_trans gU0 gV0)) (by simp); have y00 := R20.cell0; have y10 := R20.cell1; have y20 := R30.cell0; have y30 := R30.cell1; have y40 := R40.cell0; have y50 := R40.cell1; have t00 := R50.cell0; have t10 := R50.cell1; have tf00 := R50.free0; have tf10 := R50.free1)
  have GG1 : W5.grownBy V0 none := gb_trans GG0 (gb_trans gU0 gV0)
  obtain ⟨U1, hU1, i01, i11, szU1, gU1, BU1⟩ := box2 V0 (.int .i64 Nh) (.slice sh nh ch) 33
  have hval1 := Wo.validC Nh nh ch sh fh hfh hnh U1 (wh.kept (gb_trans (gb_trans G5 GG1) gU1) (by simp))
  rw [vh] at hval1
  rw [rounds_succ]
  go_wp2_with (go_at_call 24; refine hval1.mono ?_; rintro e V1 ⟨rfl, gV1⟩; have BV1 := BU1.kept gV1 (by simp); have j01 := BV1.cell0; have j11 := BV1.cell1; have R21 := P2.kept (gb_trans GG1 (gb_trans gU1 gV1)) (by simp); have R31 := P3.kept (gb_trans GG1 (gb_trans gU1 gV1)) (by simp); have R41 := P4.kept (gb_trans GG1 (gb_trans gU1 gV1)) (by simp); have R51 := B5.kept (gb_trans GG1 (gb_trans gU1 gV1)) (by simp); have y01 := R21.cell0; have y11 := R21.cell1; have y21 := R31.cell0; have y31 := R31.cell1; have y41 := R41.cell0; have y51 := R41.cell1; have t01 := R51.cell0; have t11 := R51.cell1; have tf01 := R51.free0; have tf11 := R51.free1)
  have GG2 : W5.grownBy V1 none := gb_trans GG1 (gb_trans gU1 gV1)
  obtain ⟨U2, hU2, i02, i12, szU2, gU2, BU2⟩ := box2 V1 (.int .i64 Nb) (.slice sb nb cb) 33
  have hval2 := Wo.validC Nb nb cb sb fb hfb hnb U2 (wb.kept (gb_trans (gb_trans G5 GG2) gU2) (by simp))
  rw [vb] at hval2
  rw [rounds_succ]
  go_wp2_with (go_at_call 24; refine hval2.mono ?_; rintro e V2 ⟨rfl, gV2⟩; have BV2 := BU2.kept gV2 (by simp); have j02 := BV2.cell0; have j12 := BV2.cell1; have R22 := P2.kept (gb_trans GG2 (gb_trans gU2 gV2)) (by simp); have R32 := P3.kept (gb_trans GG2 (gb_trans gU2 gV2)) (by simp); have R42 := P4.kept (gb_trans GG2 (gb_trans gU2 gV2)) (by simp); have R52 := B5.kept (gb_trans GG2 (gb_trans gU2 gV2)) (by simp); have y02 := R22.cell0; have y12 := R22.cell1; have y22 := R32.cell0; have y32 := R32.cell1; have y42 := R42.cell0; have y52 := R42.cell1; have t02 := R52.cell0; have t12 := R52.cell1; have tf02 := R52.free0; have tf12 := R52.free1)
  have GG3 : W5.grownBy V2 none := gb_trans GG2 (gb_trans gU2 gV2)
  rw [rounds_succ]
  go_wp2
  obtain ⟨fs, hfs⟩ := Wo.underR
  refine ret_box2 (g := W4.heap.size) (t := 33) rfl hfs Wo.infoR rfl (R52.set _ _) rfl ?_
  exact ⟨rfl, gb_new (gb_new (gb_trans G5 GG3) (by have := sz1.out; have := sz2.out; have := sz3.out; have := sz4.out; show w.heap.size ≤ W4.heap.size; omega) _) (by have := sz1.out; have := sz2.out; have := sz3.out; have := sz4.out; show w.heap.size ≤ W4.heap.size; omega) _⟩
end Go.Proofs.YthjiiljglgmkpaaGreatDoor.Pd
namespace Go.Proofs.YthjiiljglgmkpaaGreatDoor.Pd
open Go.RowKit
set_option linter.unusedVariables false
set_option linter.unusedSimpArgs false

theorem lineN (ho bo st : Nat) (hh : ho < 256) (hb : bo < 65536) (hs : st < 65536) (Na : Int) (na ca : Nat) (sa : Option Addr) (fa : Nat → Nat) (hfa : ∀ k, k < na → fa k < 18446744073709551616) (hna : na ≤ 9223372036854775807) (Nh : Int) (nh ch : Nat) (sh : Option Addr) (fh : Nat → Nat) (hfh : ∀ k, k < nh → fh k < 18446744073709551616) (hnh : nh ≤ 9223372036854775807) (Nb : Int) (nb cb : Nat) (sb : Option Addr) (fb : Nat → Nat) (hfb : ∀ k, k < nb → fb k < 18446744073709551616) (hnb : nb ≤ 9223372036854775807) (w : World) (hv : Hid (Hv w)) (wa : Wd w sa na fa) (wh : Wd w sh nh fh) (wb : Wd w sb nb fb) (hE : lE (Lf.ck ho bo st) (Wo.validB Na na fa) (Wo.validB Nh nh fh) (Wo.validB Nb nb fb) Na Nh Nb ≠ 0) :
    Calls Tryz.prog 9 #[.agg #[.int .u8 (ho : Nat), .int .u16 (bo : Nat), .int .u16 (st : Nat)], .agg #[.int .i64 Na, .slice sa na ca], .agg #[.int .i64 Nh, .slice sh nh ch], .agg #[.int .i64 Nb, .slice sb nb cb]] w fun e w' => e = .returned (.tuple #[.agg #[.int .i64 0, .slice none 0 0], .int .i64 ((lE (Lf.ck ho bo st) (Wo.validB Na na fa) (Wo.validB Nh nh fh) (Wo.validB Nb nb fb) Na Nh Nb : Nat) : Int)]) ∧ w.grownBy w' none := by
  by_cases hc : Lf.ck ho bo st = 0
  · cases va : Wo.validB Na na fa with
    | false =>
      have e : lE (Lf.ck ho bo st) false (Wo.validB Nh nh fh) (Wo.validB Nb nb fb) Na Nh Nb = 20 := by simp [lE, bad, hc]
      rw [e]; exact bad_v ho bo st hh hb hs Na na ca sa fa hfa hna Nh nh ch sh fh hfh hnh Nb nb cb sb fb hfb hnb w hv wa wh wb hc va
    | true =>
      by_cases N3a : Na < 3
      · have e : lE (Lf.ck ho bo st) true (Wo.validB Nh nh fh) (Wo.validB Nb nb fb) Na Nh Nb = 20 := by simp [lE, bad, hc, N3a]
        rw [e]; exact bad_n ho bo st hh hb hs Na na ca sa fa hfa hna Nh nh ch sh fh hfh hnh Nb nb cb sb fb hfb hnb w hv wa wh wb hc va N3a
      · cases vh : Wo.validB Nh nh fh with
        | false =>
          have e : lE (Lf.ck ho bo st) true false (Wo.validB Nb nb fb) Na Nh Nb = 20 := by simp [lE, bad, hc]
          rw [e]; exact bad_gv ho bo st hh hb hs Na na ca sa fa hfa hna Nh nh ch sh fh hfh hnh Nb nb cb sb fb hfb hnb w hv wa wh wb hc va N3a vh
        | true =>
          by_cases N3h : Nh < 3
          · have e : lE (Lf.ck ho bo st) true true (Wo.validB Nb nb fb) Na Nh Nb = 20 := by simp [lE, bad, hc, N3h]
            rw [e]; exact bad_gn ho bo st hh hb hs Na na ca sa fa hfa hna Nh nh ch sh fh hfh hnh Nb nb cb sb fb hfb hnb w hv wa wh wb hc va N3a vh N3h
          · cases vb : Wo.validB Nb nb fb with
            | false =>
              have e : lE (Lf.ck ho bo st) true true false Na Nh Nb = 20 := by simp [lE, bad, hc]
              rw [e]; exact bad_ggv ho bo st hh hb hs Na na ca sa fa hfa hna Nh nh ch sh fh hfh hnh Nb nb cb sb fb hfb hnb w hv wa wh wb hc va N3a vh N3h vb
            | true =>
              by_cases N3b : Nb < 3
              · have e : lE (Lf.ck ho bo st) true true true Na Nh Nb = 20 := by simp [lE, bad, hc, N3b]
                rw [e]; exact bad_ggn ho bo st hh hb hs Na na ca sa fa hfa hna Nh nh ch sh fh hfh hnh Nb nb cb sb fb hfb hnb w hv wa wh wb hc va N3a vh N3h vb N3b
              · have hbd : (bad true Na || bad true Nh || bad true Nb) = false := by simp [bad, N3a, N3h, N3b]
                by_cases e1 : Na = Nh
                · by_cases e2 : Nb = Nh
                  · exact absurd (by rw [va, vh, vb]; unfold lE; rw [if_neg (by simp [hc]), hbd]; simp [e1, e2]) hE
                  · have e : lE (Lf.ck ho bo st) true true true Na Nh Nb = 21 := by unfold lE; rw [if_neg (by simp [hc]), hbd]; simp [e2]
                    rw [e]; exact un_b ho bo st hh hb hs Na na ca sa fa hfa hna Nh nh ch sh fh hfh hnh Nb nb cb sb fb hfb hnb w hv wa wh wb hc va N3a vh N3h vb N3b (by simp [e1]) (by simp [e2])
                · have e : lE (Lf.ck ho bo st) true true true Na Nh Nb = 21 := by unfold lE; rw [if_neg (by simp [hc]), hbd]; simp [e1]
                  rw [e]; exact un_a ho bo st hh hb hs Na na ca sa fa hfa hna Nh nh ch sh fh hfh hnh Nb nb cb sb fb hfb hnb w hv wa wh wb hc va N3a vh N3h vb N3b (by simp [e1])
  · have e : lE (Lf.ck ho bo st) (Wo.validB Na na fa) (Wo.validB Nh nh fh) (Wo.validB Nb nb fb) Na Nh Nb = 8 := by simp [lE, hc]
    rw [e]; exact line8 ho bo st hh hb hs Na na ca sa fa hfa hna Nh nh ch sh fh hfh hnh Nb nb cb sb fb hfb hnb w hv wa wh wb hc
end Go.Proofs.YthjiiljglgmkpaaGreatDoor.Pd
