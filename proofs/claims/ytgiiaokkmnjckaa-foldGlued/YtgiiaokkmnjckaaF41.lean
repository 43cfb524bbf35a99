/- The walk of FoldGlued. -/
import Derived.Test.YtgiiaokkmnjckaaF37
import Derived.Test.YtgiiaokkmnjckaaF39
import Derived.StillTailTactics
namespace Go.Proofs.Ytgiiaokkmnjckaa
open Go.RowKit
open Fl
set_option linter.unusedVariables false
set_option linter.unusedSimpArgs false
set_option maxRecDepth 100000

/-- How far a place is along the side that a turn goes, and that side. -/
def coV (x y : Int) (tn : Nat) (A B : Int) : Int := if 0 < x ∧ tn % 2 = 0 then A - To.fi x else B - To.fi y
def sdV (x y : Int) (tn : Nat) : Int := if 0 < x ∧ tn % 2 = 0 then x else y
theorem mixedS' : Try.prog.follows .mixedOrders = true := by kernel_rfl
set_option maxHeartbeats 16000000 in
theorem glued_core (k x y t z a b a0 b0 CX CY : Int) (aw : ∀ w, Calls Try.prog 9 #[] w fun e w' => e = .returned (.bool true) ∧ w.grownBy w' none) (gd : ∀ w, Calls Try.prog 21 #[.agg #[.int .u8 k, .int .i64 x, .int .i64 y, .int .u8 t, .int .i64 z]] w fun e w' => e = .returned (.bool true) ∧ w.grownBy w' none) (hx : decide (64 < x) = false) (hy : decide (64 < y) = false)
   (na : ∀ w, Calls Try.prog 22 #[.int .i64 a, .int .i64 1000] w fun e w' => e = .returned (.int .i64 a0) ∧ w' = w) (nb : ∀ w, Calls Try.prog 22 #[.int .i64 b, .int .i64 1000] w fun e w' => e = .returned (.int .i64 b0) ∧ w' = w)
   (hce : ∀ w, Calls Try.prog 10 #[.agg #[.int .u8 k, .int .i64 x, .int .i64 y, .int .u8 t, .int .i64 z], .agg #[.int .i64 a0, .int .i64 b0]] w fun e w' => e = .returned (.tuple #[.agg #[.int .i64 CX, .int .i64 CY], .int .i64 0]) ∧ w.grownBy w' none) (hce2 : ∀ w, Calls Try.prog 10 #[.agg #[.int .u8 k, .int .i64 x, .int .i64 y, .int .u8 t, .int .i64 z], .agg #[.int .i64 CX, .int .i64 CY]] w fun e w' => e = .returned (.tuple #[.agg #[.int .i64 CX, .int .i64 CY], .int .i64 0]) ∧ w.grownBy w' none)
   (hh : ∀ w, Calls Try.prog 23 #[.agg #[.int .u8 k, .int .i64 x, .int .i64 y, .int .u8 t, .int .i64 z]] w fun e w' => e = .returned (.tuple #[.agg #[.int .i64 (To.fi x), .int .i64 (To.fi y), .int .i64 x, .int .i64 y], .int .i64 0]) ∧ w.grownBy w' none)
   (L : List (Nat × Int × Int)) (n : Nat) (hn : Hid (L.length = n)) (h2n : n ≤ 2) (hgl : ∀ w, Calls Try.prog 17 #[.agg #[.int .u8 k, .int .i64 x, .int .i64 y, .int .u8 t, .int .i64 z]] w fun e w' => ∃ v, e = .returned (.tuple #[v, .int .i64 0]) ∧ Gl w' w.heap.size v L ∧ w.grownBy w' none) 
   (ST : Nat → Int → Int → Prop) (JJ : Nat → Nat → Int → Int → Prop) (fX fY gX gY : Nat → Int → Int → Int)
   (act : ∀ (i P : Nat) (X Y : Int), L[i]? = some (P, X, Y) → ∀ a b, lx P a b + X = fX i a b ∧ ly P a b + Y = fY i a b ∧ lx (back P) a b + -(lx (back P) X Y) = gX i a b ∧ ly (back P) a b + -(ly (back P) X Y) = gY i a b)
   (np : nearB a0 = true ∧ nearB b0 = true) (nf : ∀ i, i < n → nearB (fX i a0 b0) = true ∧ nearB (fY i a0 b0) = true ∧ nearB (gX i a0 b0) = true ∧ nearB (gY i a0 b0) = true)
   (s1 : ∀ i, i < n → ∀ w, Calls Try.prog 19 #[.agg #[.int .u8 k, .int .i64 x, .int .i64 y, .int .u8 t, .int .i64 z], .agg #[.int .i64 a0, .int .i64 b0], .agg #[.int .i64 (fX i a0 b0), .int .i64 (fY i a0 b0)]] w fun e w' => e = .returned (.tuple #[.bool true, .int .i64 0]) ∧ w.grownBy w' none)
   (s2 : ∀ i, i < n → ∀ w, Calls Try.prog 19 #[.agg #[.int .u8 k, .int .i64 x, .int .i64 y, .int .u8 t, .int .i64 z], .agg #[.int .i64 (gX i a0 b0), .int .i64 (gY i a0 b0)], .agg #[.int .i64 a0, .int .i64 b0]] w fun e w' => e = .returned (.tuple #[.bool true, .int .i64 0]) ∧ w.grownBy w' none)
   (hS0 : ST 0 a0 b0) (hsk : ∀ tn A B, n ≤ tn % 2 → ST tn A B → ST (tn + 1) A B) (hin : ∀ tn A B, tn < 3 → tn % 2 < n → ST tn A B → JJ tn 0 A B)
   (hJ : ∀ tn m A B, JJ tn m A B → nearB A = true ∧ nearB B = true ∧ m < 4000)
   (hup : ∀ tn m A B, JJ tn m A B → coV x y tn A B < 0 → JJ tn (m + 1) (fX (tn % 2) A B) (fY (tn % 2) A B))
   (hdn : ∀ tn m A B, JJ tn m A B → sdV x y tn ≤ coV x y tn A B → JJ tn (m + 1) (gX (tn % 2) A B) (gY (tn % 2) A B))
   (hou : ∀ tn m A B, JJ tn m A B → 0 ≤ coV x y tn A B → coV x y tn A B < sdV x y tn → ST (tn + 1) A B)
   (hfin : ∀ A B, ST 3 A B → A = CX ∧ B = CY) (hx0 : 0 ≤ x) (hn2 : 1 < n → 0 < x) (hfx : -32768 ≤ To.fi x ∧ To.fi x ≤ 0) (hfy : -32768 ≤ To.fi y ∧ To.fi y ≤ 0) (w : World) :
    Calls Try.prog 7 #[.agg #[.int .u8 k, .int .i64 x, .int .i64 y, .int .u8 t, .int .i64 z], .agg #[.int .i64 a, .int .i64 b]] w fun e w' => e = .returned (.bool true) ∧ w.grownBy w' none := by
  have st := stC
  obtain ⟨W1, hW1, sz1, g1, B1⟩ := boxn w #[.int .u8 k, .int .i64 x, .int .i64 y, .int .u8 t, .int .i64 z] 23
  obtain ⟨W2, hW2, sz2, g2, B2⟩ := boxn W1 #[.int .i64 a, .int .i64 b] 25
  have G2 := gb_trans g1 g2
  have B1x := B1.kept g2 (by simp)
  have b1_2_0 := B1x.cell 0 (v := .int .u8 k) rfl
  have b1_2_1 := B1x.cell 1 (v := .int .i64 x) rfl
  have b1_2_2 := B1x.cell 2 (v := .int .i64 y) rfl
  have b1_2_3 := B1x.cell 3 (v := .int .u8 t) rfl
  have b1_2_4 := B1x.cell 4 (v := .int .i64 z) rfl
  have b2_2_0 := B2.cell 0 (v := .int .i64 a) rfl
  have b2_2_1 := B2.cell 1 (v := .int .i64 b) rfl
  go_enter Try.func7, Try.ntmps7
  go_wp2_with (first | (go_at_call 9; (fail_if_success (guard_hyp g3)); refine (aw _).mono ?_; rintro e w3 ⟨rfl, g3⟩; have G3 := gb_trans G2 g3; have B1xx := B1x.kept g3 (by simp); have B2x := B2.kept g3 (by simp); clear b1_2_0 b1_2_1 b1_2_2 b1_2_3 b1_2_4 b2_2_0 b2_2_1; have b1_3_0 := B1xx.cell 0 (v := .int .u8 k) rfl; have b1_3_1 := B1xx.cell 1 (v := .int .i64 x) rfl; have b1_3_2 := B1xx.cell 2 (v := .int .i64 y) rfl; have b1_3_3 := B1xx.cell 3 (v := .int .u8 t) rfl; have b1_3_4 := B1xx.cell 4 (v := .int .i64 z) rfl; have b2_3_0 := B2x.cell 0 (v := .int .i64 a) rfl; have b2_3_1 := B2x.cell 1 (v := .int .i64 b) rfl) | (go_at_call 21; (fail_if_success (guard_hyp g4)); refine (gd _).mono ?_; rintro e w4 ⟨rfl, g4⟩; have G4 := gb_trans G3 g4; have B1xxx := B1xx.kept g4 (by simp); have B2xx := B2x.kept g4 (by simp); clear b1_3_0 b1_3_1 b1_3_2 b1_3_3 b1_3_4 b2_3_0 b2_3_1; have b1_4_0 := B1xxx.cell 0 (v := .int .u8 k) rfl; have b1_4_1 := B1xxx.cell 1 (v := .int .i64 x) rfl; have b1_4_2 := B1xxx.cell 2 (v := .int .i64 y) rfl; have b1_4_3 := B1xxx.cell 3 (v := .int .u8 t) rfl; have b1_4_4 := B1xxx.cell 4 (v := .int .i64 z) rfl; have b2_4_0 := B2xx.cell 0 (v := .int .i64 a) rfl; have b2_4_1 := B2xx.cell 1 (v := .int .i64 b) rfl))
  have f0 := B2xx.frozen 0
  have f1 := B2xx.frozen 1
  obtain ⟨W5, hW5⟩ : ∃ W5, (w4.setCell ⟨W1.heap.size, 0, none⟩ (.int .i64 a0)).setCell ⟨W1.heap.size, 1, none⟩ (.int .i64 b0) = W5 := ⟨_, rfl⟩
  have nep : W1.heap.size ≠ w.heap.size := by have := sz1.out; omega
  have T5 : Bo W5 w.heap.size 23 #[.int .u8 k, .int .i64 x, .int .i64 y, .int .u8 t, .int .i64 z] := hW5 ▸ (B1xxx.set2 nep).set2 nep
  have P5 : Bo W5 W1.heap.size 25 #[.int .i64 a0, .int .i64 b0] := hW5 ▸ bo2 B2xx
  have G5 : w.grownBy W5 none := hW5 ▸ gb2 G4 g1.size
  clear nep
  refine region_tail 7 mixedS' (by kernel_rfl) ?_
  simp only [List.take_succ_cons, List.take_zero, List.drop_succ_cons, List.drop_zero]
  iterate 2 still_step
  still_call (na _)
  iterate 2 still_step
  still_call (nb _)
  iterate 1 still_step
  refine wpStill_nil ?_
  have T5d := T5.dr
  have P5d := P5.dr
  have G5d := gb_drew G5
  have bt_z_0 := T5d.cell 0 (v := .int .u8 k) rfl
  have bt_z_1 := T5d.cell 1 (v := .int .i64 x) rfl
  have bt_z_2 := T5d.cell 2 (v := .int .i64 y) rfl
  have bt_z_3 := T5d.cell 3 (v := .int .u8 t) rfl
  have bt_z_4 := T5d.cell 4 (v := .int .i64 z) rfl
  have bp_z_0 := P5d.cell 0 (v := .int .i64 a0) rfl
  have bp_z_1 := P5d.cell 1 (v := .int .i64 b0) rfl
  go_wp2_with (first | (go_at_call 10; (fail_if_success (guard_hyp g11)); refine (hce _).mono ?_; rintro e w11 ⟨rfl, g11⟩; have G11 := gb_trans G5d g11; have T5dx := T5d.kept g11 (by simp); have P5dx := P5d.kept g11 (by simp); obtain ⟨W12, hW12, sz12, g12, B12⟩ := boxn w11 #[.int .i64 CX, .int .i64 CY] 25; have G12 := gb_trans G11 g12; have T5dxx := T5dx.kept g12 (by simp); have P5dxx := P5dx.kept g12 (by simp); clear bt_z_0 bt_z_1 bt_z_2 bt_z_3 bt_z_4 bp_z_0 bp_z_1 b1_4_0 b1_4_1 b1_4_2 b1_4_3 b1_4_4 b2_4_0 b2_4_1 f0 f1; have bt_12_0 := T5dxx.cell 0 (v := .int .u8 k) rfl; have bt_12_1 := T5dxx.cell 1 (v := .int .i64 x) rfl; have bt_12_2 := T5dxx.cell 2 (v := .int .i64 y) rfl; have bt_12_3 := T5dxx.cell 3 (v := .int .u8 t) rfl; have bt_12_4 := T5dxx.cell 4 (v := .int .i64 z) rfl; have bp_12_0 := P5dxx.cell 0 (v := .int .i64 a0) rfl; have bp_12_1 := P5dxx.cell 1 (v := .int .i64 b0) rfl; have b12_12_0 := B12.cell 0 (v := .int .i64 CX) rfl; have b12_12_1 := B12.cell 1 (v := .int .i64 CY) rfl) | (go_at_call 17; (fail_if_success (guard_hyp g13)); refine (hgl _).mono ?_; rintro e w13 ⟨v13, rfl, l13, g13⟩; have G13 := gb_trans G12 g13; have T5dxxx := T5dxx.kept g13 (by simp); have P5dxxx := P5dxx.kept g13 (by simp); have B12x := B12.kept g13 (by simp); clear bt_12_0 bt_12_1 bt_12_2 bt_12_3 bt_12_4 bp_12_0 bp_12_1 b12_12_0 b12_12_1; have bt_13_0 := T5dxxx.cell 0 (v := .int .u8 k) rfl; have bt_13_1 := T5dxxx.cell 1 (v := .int .i64 x) rfl; have bt_13_2 := T5dxxx.cell 2 (v := .int .i64 y) rfl; have bt_13_3 := T5dxxx.cell 3 (v := .int .u8 t) rfl; have bt_13_4 := T5dxxx.cell 4 (v := .int .i64 z) rfl; have bp_13_0 := P5dxxx.cell 0 (v := .int .i64 a0) rfl; have bp_13_1 := P5dxxx.cell 1 (v := .int .i64 b0) rfl; have b12_13_0 := B12x.cell 0 (v := .int .i64 CX) rfl; have b12_13_1 := B12x.cell 1 (v := .int .i64 CY) rfl; obtain ⟨sm, cm, rfl, fm⟩ := gl_form hn.out l13) | (go_at_call 23; (fail_if_success (guard_hyp g14)); refine (hh _).mono ?_; rintro e w14 ⟨rfl, g14⟩; have G14 := gb_trans G13 g14; have T5dxxxx := T5dxxx.kept g14 (by simp); have P5dxxxx := P5dxxx.kept g14 (by simp); have B12xx := B12x.kept g14 (by simp); obtain ⟨W15, hW15, sz15, g15, B15⟩ := boxn w14 #[.int .i64 (To.fi x), .int .i64 (To.fi y), .int .i64 x, .int .i64 y] 49; have G15 := gb_trans G14 g15; have T5dxxxxx := T5dxxxx.kept g15 (by simp); have P5dxxxxx := P5dxxxx.kept g15 (by simp); have B12xxx := B12xx.kept g15 (by simp); clear bt_13_0 bt_13_1 bt_13_2 bt_13_3 bt_13_4 bp_13_0 bp_13_1 b12_13_0 b12_13_1; have bt_15_0 := T5dxxxxx.cell 0 (v := .int .u8 k) rfl; have bt_15_1 := T5dxxxxx.cell 1 (v := .int .i64 x) rfl; have bt_15_2 := T5dxxxxx.cell 2 (v := .int .i64 y) rfl; have bt_15_3 := T5dxxxxx.cell 3 (v := .int .u8 t) rfl; have bt_15_4 := T5dxxxxx.cell 4 (v := .int .i64 z) rfl; have bp_15_0 := P5dxxxxx.cell 0 (v := .int .i64 a0) rfl; have bp_15_1 := P5dxxxxx.cell 1 (v := .int .i64 b0) rfl; have b12_15_0 := B12xxx.cell 0 (v := .int .i64 CX) rfl; have b12_15_1 := B12xxx.cell 1 (v := .int .i64 CY) rfl; have b15_15_0 := B15.cell 0 (v := .int .i64 (To.fi x)) rfl; have b15_15_1 := B15.cell 1 (v := .int .i64 (To.fi y)) rfl; have b15_15_2 := B15.cell 2 (v := .int .i64 x) rfl; have b15_15_3 := B15.cell 3 (v := .int .i64 y) rfl; have l13x := l13.kept g14 (by simp); have l13xy := l13x.kept g15 (by simp)) | (go_at_call 10; (fail_if_success (guard_hyp g16)); refine (hce2 _).mono ?_; rintro e w16 ⟨rfl, g16⟩; have G16 := gb_trans G15 g16; have T5dxxxxxx := T5dxxxxx.kept g16 (by simp); have P5dxxxxxx := P5dxxxxx.kept g16 (by simp); have B12xxxx := B12xxx.kept g16 (by simp); have B15x := B15.kept g16 (by simp); obtain ⟨W17, hW17, sz17, g17, B17⟩ := boxn w16 #[.int .i64 CX, .int .i64 CY] 25; have G17 := gb_trans G16 g17; have T5dxxxxxxx := T5dxxxxxx.kept g17 (by simp); have P5dxxxxxxx := P5dxxxxxx.kept g17 (by simp); have B12xxxxx := B12xxxx.kept g17 (by simp); have B15xx := B15x.kept g17 (by simp); clear bt_15_0 bt_15_1 bt_15_2 bt_15_3 bt_15_4 bp_15_0 bp_15_1 b12_15_0 b12_15_1 b15_15_0 b15_15_1 b15_15_2 b15_15_3; have bt_17_0 := T5dxxxxxxx.cell 0 (v := .int .u8 k) rfl; have bt_17_1 := T5dxxxxxxx.cell 1 (v := .int .i64 x) rfl; have bt_17_2 := T5dxxxxxxx.cell 2 (v := .int .i64 y) rfl; have bt_17_3 := T5dxxxxxxx.cell 3 (v := .int .u8 t) rfl; have bt_17_4 := T5dxxxxxxx.cell 4 (v := .int .i64 z) rfl; have bp_17_0 := P5dxxxxxxx.cell 0 (v := .int .i64 a0) rfl; have bp_17_1 := P5dxxxxxxx.cell 1 (v := .int .i64 b0) rfl; have b12_17_0 := B12xxxxx.cell 0 (v := .int .i64 CX) rfl; have b12_17_1 := B12xxxxx.cell 1 (v := .int .i64 CY) rfl; have b15_17_0 := B15xx.cell 0 (v := .int .i64 (To.fi x)) rfl; have b15_17_1 := B15xx.cell 1 (v := .int .i64 (To.fi y)) rfl; have b15_17_2 := B15xx.cell 2 (v := .int .i64 x) rfl; have b15_17_3 := B15xx.cell 3 (v := .int .i64 y) rfl; have b17_17_0 := B17.cell 0 (v := .int .i64 CX) rfl; have b17_17_1 := B17.cell 1 (v := .int .i64 CY) rfl; have l13xyx := l13xy.kept g16 (by simp); have l13xyxy := l13xyx.kept g17 (by simp); obtain ⟨W18, hW18, sz18, g18, BA⟩ := boxn W17 #[.int .i64 a0, .int .i64 b0] 25; have GO := gb_trans G17 g18; have BT := T5dxxxxxxx.kept g18 (by simp); have BP := P5dxxxxxxx.kept g18 (by simp); have BC := B12xxxxx.kept g18 (by simp); have BH := B15xx.kept g18 (by simp); have BO_ := B17.kept g18 (by simp); have LM := l13xyxy.kept g18 (by simp); have yBT_0 := BT.cell 0 (v := .int .u8 k) rfl; have yBT_1 := BT.cell 1 (v := .int .i64 x) rfl; have yBT_2 := BT.cell 2 (v := .int .i64 y) rfl; have yBT_3 := BT.cell 3 (v := .int .u8 t) rfl; have yBT_4 := BT.cell 4 (v := .int .i64 z) rfl; have yBP_0 := BP.cell 0 (v := .int .i64 a0) rfl; have yBP_1 := BP.cell 1 (v := .int .i64 b0) rfl; have yBC_0 := BC.cell 0 (v := .int .i64 CX) rfl; have yBC_1 := BC.cell 1 (v := .int .i64 CY) rfl; have yBH_0 := BH.cell 0 (v := .int .i64 (To.fi x)) rfl; have yBH_1 := BH.cell 1 (v := .int .i64 (To.fi y)) rfl; have yBH_2 := BH.cell 2 (v := .int .i64 x) rfl; have yBH_3 := BH.cell 3 (v := .int .i64 y) rfl; have yBA_0 := BA.cell 0 (v := .int .i64 a0) rfl; have yBA_1 := BA.cell 1 (v := .int .i64 b0) rfl))

  have LMa : Gl W17 _ _ _ := l13xyxy
  have q1 : w.heap.size < W17.heap.size := T5dxxxxxxx.lt
  have q2 : W1.heap.size < W17.heap.size := P5dxxxxxxx.lt
  have q3 : w11.heap.size < W17.heap.size := B12xxxxx.lt
  have q4 : w14.heap.size < W17.heap.size := B15xx.lt
  have q5 : W17.heap.size < W18.heap.size := BA.lt
  go_loopw [14] (fun x wr => ∃ (tn : Nat) (A B : Int), tn ≤ 3 ∧ x = .int .i64 tn ∧ ST tn A B ∧ Bo wr W17.heap.size 25 #[.int .i64 A, .int .i64 B] ∧ W17.grownBy wr none) (fun x _ => 3 - (intOf x).toNat)
  case atStart => exact ⟨0, a0, b0, by omega, rfl, hS0, BA, g18⟩
  case round =>
    obtain ⟨tn, A, B, htn, rfl, hst, AA, hg⟩ := hrel
    clear yBT_0 yBT_1 yBT_2 yBT_3 yBT_4 yBP_0 yBC_0 yBA_0 yBP_1 yBC_1 yBA_1 yBH_0 yBH_1 yBH_2 yBH_3
    by_cases hlt : tn < 3
    · have hlt' : (tn : Int) < 3 := by omega
      by_cases hp : tn % 2 = 0
      · have hrem : Int.tmod (tn : Int) 2 = 0 := by rw [Int.tmod_eq_emod_of_nonneg (by omega)]; omega
        by_cases hin_ : 0 < n
        · have hin' : ¬ (n : Int) ≤ 0 := by omega
          by_cases hx1 : 0 < x
          · have hx1' : decide (0 < x) = true := decide_eq_true hx1
            as_aux_lemma =>
              have hi : 0 < n := hin_
              obtain ⟨gm, rfl⟩ := fm (by omega)
              obtain ⟨xs, own0, hxs⟩ := LMa.kept hg (by simp)
              rw [hn.out] at own0
              have hLi : L[0]? = some (L[0]'(by have := hn.out; omega)) := List.getElem?_eq_getElem _
              generalize L[0]'(by have := hn.out; omega) = PXY at hLi
              obtain ⟨PP, XX, YY⟩ := PXY
              obtain ⟨a1, b1, f1, c1, d1, e0, e1, e2, my⟩ := hxs 0 PP XX YY hLi
              have AC := act 0 PP XX YY hLi
              have NF := nf 0 hi
              have S1 := s1 0 hi
              have S2 := s2 0 hi
              have hB := fun w => backYes a1 b1 f1 c1 d1 my w
              have hAf := fun A B hA hB hU hV w => atYes a1 b1 f1 c1 d1 A B my hA hB _ _ (AC A B).1 (AC A B).2.1 hU hV w
              have hAp := hAf a0 b0 np.1 np.2 NF.1 NF.2.1
              have cm0_0 := (own0.cellAt 0 (by omega)).trans e0
              have cm0_1 := (own0.cellAt 1 (by omega)).trans e1
              have cm0_2 := (own0.cellAt 2 (by omega)).trans e2
              have T0 := T5dxxxxxxx.kept hg (by simp)
              have P0 := P5dxxxxxxx.kept hg (by simp)
              have C0 := B12xxxxx.kept hg (by simp)
              have H0 := B15xx.kept hg (by simp)
              have gg0 : W17.grownBy wr none := hg
              go_wp2_with (first | (go_at_call 24; refine (hB _).mono ?_; rintro e w20 ⟨p, q, r, s, rfl, my2, _, g20⟩; have T1_ := T0.kept g20 (by simp); have P1_ := P0.kept g20 (by simp); have C1_ := C0.kept g20 (by simp); have H1_ := H0.kept g20 (by simp); have A1_ := AA.kept g20 (by simp); have own1_ := own0.kept g20 (Classical.em _); obtain ⟨W21, hW21, sz21, g21, K2_⟩ := boxn w20 #[.complex .f64 p q, .bool f1, .complex .f64 r s] 41; have T2_ := T1_.kept g21 (by simp); have P2_ := P1_.kept g21 (by simp); have C2_ := C1_.kept g21 (by simp); have H2_ := H1_.kept g21 (by simp); have A2_ := A1_.kept g21 (by simp); have own2_ := own1_.kept g21 (Classical.em _); have gg2 := gb_trans (gb_trans gg0 g20) g21; clear cm0_0 cm0_1 cm0_2; have ct2__0 := T2_.cell 0 (v := .int .u8 k) rfl; have ct2__1 := T2_.cell 1 (v := .int .i64 x) rfl; have ct2__2 := T2_.cell 2 (v := .int .i64 y) rfl; have ct2__3 := T2_.cell 3 (v := .int .u8 t) rfl; have ct2__4 := T2_.cell 4 (v := .int .i64 z) rfl; have cp2__0 := P2_.cell 0 (v := .int .i64 a0) rfl; have cp2__1 := P2_.cell 1 (v := .int .i64 b0) rfl; have ck2__0 := K2_.cell 0 (v := .complex .f64 p q) rfl; have ck2__1 := K2_.cell 1 (v := .bool f1) rfl; have ck2__2 := K2_.cell 2 (v := .complex .f64 r s) rfl; have cm2__0 := (own2_.cellAt 0 (by omega)).trans e0; have cm2__1 := (own2_.cellAt 1 (by omega)).trans e1; have cm2__2 := (own2_.cellAt 2 (by omega)).trans e2; have hAg := fun A B hA hB hU hV w => atYes p q f1 r s A B my2 hA hB _ _ (AC A B).2.2.1 (AC A B).2.2.2 hU hV w))
              obtain ⟨Wz, hWz, szz, gz, Qz⟩ := boxn W21 #[.int .i64 0, .int .i64 0] 25
              have Tz := T2_.kept gz (by simp)
              have Pz := P2_.kept gz (by simp)
              have Cz := C2_.kept gz (by simp)
              have Hz := H2_.kept gz (by simp)
              have Az := A2_.kept gz (by simp)
              have Kz := K2_.kept gz (by simp)
              have ownz := own2_.kept gz (Classical.em _)
              have ctz_0 := Tz.cell 0 (v := .int .u8 k) rfl
              have ctz_1 := Tz.cell 1 (v := .int .i64 x) rfl
              have ctz_2 := Tz.cell 2 (v := .int .i64 y) rfl
              have ctz_3 := Tz.cell 3 (v := .int .u8 t) rfl
              have ctz_4 := Tz.cell 4 (v := .int .i64 z) rfl
              have cpz_0 := Pz.cell 0 (v := .int .i64 a0) rfl
              have cpz_1 := Pz.cell 1 (v := .int .i64 b0) rfl
              have ckz_0 := Kz.cell 0 (v := .complex .f64 p q) rfl
              have ckz_1 := Kz.cell 1 (v := .bool f1) rfl
              have ckz_2 := Kz.cell 2 (v := .complex .f64 r s) rfl
              have cmz_0 := (ownz.cellAt 0 (by omega)).trans e0
              have cmz_1 := (ownz.cellAt 1 (by omega)).trans e1
              have cmz_2 := (ownz.cellAt 2 (by omega)).trans e2
              have ggz := gb_trans gg2 gz
              have hAgp := hAg a0 b0 np.1 np.2 NF.2.2.1 NF.2.2.2
              go_wp2
              go_region_held2 (fun w' => w'.cell? ⟨gm, 0, none⟩ = some (.complex .f64 a1 b1) ∧ w'.cell? ⟨gm, 1, none⟩ = some (.bool f1) ∧ w'.cell? ⟨gm, 2, none⟩ = some (.complex .f64 c1 d1) ∧ w'.cell? ⟨W1.heap.size, 0, none⟩ = some (.int .i64 a0) ∧ w'.cell? ⟨W1.heap.size, 1, none⟩ = some (.int .i64 b0)) (go_keep) (first | (go_at_call 25; refine (hAp _).mono ?_; rintro e w22 ⟨rfl, g22⟩; have gg22 := gb_trans (gb_drew ggz) g22; have T22 := Tz.dr.kept g22 (by simp); have P22 := Pz.dr.kept g22 (by simp); have C22 := Cz.dr.kept g22 (by simp); have H22 := Hz.dr.kept g22 (by simp); have A22 := Az.dr.kept g22 (by simp); have K22 := Kz.dr.kept g22 (by simp); have own22 := ownz.drew.kept g22 (Classical.em _); have Q22 := Qz.dr.kept g22 (by simp); have ct22_0 := T22.cell 0 (v := .int .u8 k) rfl; have ct22_1 := T22.cell 1 (v := .int .i64 x) rfl; have ct22_2 := T22.cell 2 (v := .int .i64 y) rfl; have ct22_3 := T22.cell 3 (v := .int .u8 t) rfl; have ct22_4 := T22.cell 4 (v := .int .i64 z) rfl; have cp22_0 := P22.cell 0 (v := .int .i64 a0) rfl; have cp22_1 := P22.cell 1 (v := .int .i64 b0) rfl; have ck22_0 := K22.cell 0 (v := .complex .f64 p q) rfl; have ck22_1 := K22.cell 1 (v := .bool f1) rfl; have ck22_2 := K22.cell 2 (v := .complex .f64 r s) rfl; have cm22_0 := (own22.cellAt 0 (by omega)).trans e0; have cm22_1 := (own22.cellAt 1 (by omega)).trans e1; have cm22_2 := (own22.cellAt 2 (by omega)).trans e2; have cq22_0 := Q22.cell 0 (v := .int .i64 0) rfl; have cq22_1 := Q22.cell 1 (v := .int .i64 0) rfl; have fq22_0 := Q22.frozen 0; have fq22_1 := Q22.frozen 1; obtain ⟨W23, hW23⟩ : ∃ W, (w22.setCell ⟨W21.heap.size, 0, none⟩ (.int .i64 (fX 0 a0 b0))).setCell ⟨W21.heap.size, 1, none⟩ (.int .i64 (fY 0 a0 b0)) = W := ⟨_, rfl⟩; have Q23 : Bo W23 W21.heap.size 25 #[.int .i64 (fX 0 a0 b0), .int .i64 (fY 0 a0 b0)] := hW23 ▸ bo2 Q22; have g23 : w22.grownBy W23 (some W21.heap.size) := hW23 ▸ gb_set (gb_set (World.grownBy.refl _ _) 0 _) 1 _; have T23 := T22.kept g23 (fun e => by injection e with e; have := T2_.lt; omega); have P23 := P22.kept g23 (fun e => by injection e with e; have := P2_.lt; omega); have C23 := C22.kept g23 (fun e => by injection e with e; have := C2_.lt; omega); have H23 := H22.kept g23 (fun e => by injection e with e; have := H2_.lt; omega); have A23 := A22.kept g23 (fun e => by injection e with e; have := A2_.lt; omega); have K23 := K22.kept g23 (fun e => by injection e with e; have := K2_.lt; omega); have own23 := own22.kept g23 (.inr (fun e => by have := (own2_.lt _ e).2; omega)); have gg23 : W17.grownBy W23 none := gb_rowJ gg22 g23 (fun i e => by injection e with e; have := gg2.size; omega); have ct23_0 := T23.cell 0 (v := .int .u8 k) rfl; have ct23_1 := T23.cell 1 (v := .int .i64 x) rfl; have ct23_2 := T23.cell 2 (v := .int .i64 y) rfl; have ct23_3 := T23.cell 3 (v := .int .u8 t) rfl; have ct23_4 := T23.cell 4 (v := .int .i64 z) rfl; have cp23_0 := P23.cell 0 (v := .int .i64 a0) rfl; have cp23_1 := P23.cell 1 (v := .int .i64 b0) rfl; have ck23_0 := K23.cell 0 (v := .complex .f64 p q) rfl; have ck23_1 := K23.cell 1 (v := .bool f1) rfl; have ck23_2 := K23.cell 2 (v := .complex .f64 r s) rfl; have cm23_0 := (own23.cellAt 0 (by omega)).trans e0; have cm23_1 := (own23.cellAt 1 (by omega)).trans e1; have cm23_2 := (own23.cellAt 2 (by omega)).trans e2; have cq23_0 := Q23.cell 0 (v := .int .i64 (fX 0 a0 b0)) rfl; have cq23_1 := Q23.cell 1 (v := .int .i64 (fY 0 a0 b0)) rfl) | (go_at_call 25; refine (hAp _).mono ?_; rintro e w22 ⟨rfl, g22⟩; have gg22 := gb_trans (gb_drew gg2) g22; have T22 := T2_.dr.kept g22 (by simp); have P22 := P2_.dr.kept g22 (by simp); have C22 := C2_.dr.kept g22 (by simp); have H22 := H2_.dr.kept g22 (by simp); have A22 := A2_.dr.kept g22 (by simp); have K22 := K2_.dr.kept g22 (by simp); have own22 := own2_.drew.kept g22 (Classical.em _); have ct22_0 := T22.cell 0 (v := .int .u8 k) rfl; have ct22_1 := T22.cell 1 (v := .int .i64 x) rfl; have ct22_2 := T22.cell 2 (v := .int .i64 y) rfl; have ct22_3 := T22.cell 3 (v := .int .u8 t) rfl; have ct22_4 := T22.cell 4 (v := .int .i64 z) rfl; have cp22_0 := P22.cell 0 (v := .int .i64 a0) rfl; have cp22_1 := P22.cell 1 (v := .int .i64 b0) rfl; have ck22_0 := K22.cell 0 (v := .complex .f64 p q) rfl; have ck22_1 := K22.cell 1 (v := .bool f1) rfl; have ck22_2 := K22.cell 2 (v := .complex .f64 r s) rfl; have cm22_0 := (own22.cellAt 0 (by omega)).trans e0; have cm22_1 := (own22.cellAt 1 (by omega)).trans e1; have cm22_2 := (own22.cellAt 2 (by omega)).trans e2; obtain ⟨W23, hW23, sz23, g23, Q23⟩ := boxn w22 #[.int .i64 (fX 0 a0 b0), .int .i64 (fY 0 a0 b0)] 25; have T23 := T22.kept g23 (by simp); have P23 := P22.kept g23 (by simp); have C23 := C22.kept g23 (by simp); have H23 := H22.kept g23 (by simp); have A23 := A22.kept g23 (by simp); have K23 := K22.kept g23 (by simp); have own23 := own22.kept g23 (Classical.em _); have gg23 := gb_trans gg22 g23; have ct23_0 := T23.cell 0 (v := .int .u8 k) rfl; have ct23_1 := T23.cell 1 (v := .int .i64 x) rfl; have ct23_2 := T23.cell 2 (v := .int .i64 y) rfl; have ct23_3 := T23.cell 3 (v := .int .u8 t) rfl; have ct23_4 := T23.cell 4 (v := .int .i64 z) rfl; have cp23_0 := P23.cell 0 (v := .int .i64 a0) rfl; have cp23_1 := P23.cell 1 (v := .int .i64 b0) rfl; have ck23_0 := K23.cell 0 (v := .complex .f64 p q) rfl; have ck23_1 := K23.cell 1 (v := .bool f1) rfl; have ck23_2 := K23.cell 2 (v := .complex .f64 r s) rfl; have cm23_0 := (own23.cellAt 0 (by omega)).trans e0; have cm23_1 := (own23.cellAt 1 (by omega)).trans e1; have cm23_2 := (own23.cellAt 2 (by omega)).trans e2; have cq23_0 := Q23.cell 0 (v := .int .i64 (fX 0 a0 b0)) rfl; have cq23_1 := Q23.cell 1 (v := .int .i64 (fY 0 a0 b0)) rfl))
              all_goals clear ct2__0 ct2__1 ct2__2 ct2__3 ct2__4 ctz_0 ctz_1 ctz_2 ctz_3 ctz_4 ct22_0 ct22_1 ct22_2 ct22_3 ct22_4 cp2__0 cp2__1 cpz_0 cpz_1 cp22_0 cp22_1 ck2__0 cm2__0 ck2__1 cm2__1 ck2__2 cm2__2 ckz_0 cmz_0 ckz_1 cmz_1 ckz_2 cmz_2 ck22_0 cm22_0 ck22_1 cm22_1 ck22_2 cm22_2
              all_goals go_wp2_with (first | (go_at_call 25; (fail_if_success (guard_hyp g24)); refine (hAgp _).mono ?_; rintro e w24 ⟨rfl, g24⟩; have T24 := T23.kept g24 (by simp); have P24 := P23.kept g24 (by simp); have C24 := C23.kept g24 (by simp); have H24 := H23.kept g24 (by simp); have A24 := A23.kept g24 (by simp); have K24 := K23.kept g24 (by simp); have own24 := own23.kept g24 (Classical.em _); have Q24 := Q23.kept g24 (by simp); obtain ⟨W25, hW25, sz25, g25, R25⟩ := boxn w24 #[.int .i64 (gX 0 a0 b0), .int .i64 (gY 0 a0 b0)] 25; have T25 := T24.kept g25 (by simp); have P25 := P24.kept g25 (by simp); have C25 := C24.kept g25 (by simp); have H25 := H24.kept g25 (by simp); have A25 := A24.kept g25 (by simp); have K25 := K24.kept g25 (by simp); have own25 := own24.kept g25 (Classical.em _); have Q25 := Q24.kept g25 (by simp); have gg25 := gb_trans (gb_trans gg23 g24) g25; clear ct23_0 ct23_1 ct23_2 ct23_3 ct23_4 cp23_0 cq23_0 cp23_1 cq23_1 ck23_0 cm23_0 ck23_1 cm23_1 ck23_2 cm23_2; have ct25_0 := T25.cell 0 (v := .int .u8 k) rfl; have ct25_1 := T25.cell 1 (v := .int .i64 x) rfl; have ct25_2 := T25.cell 2 (v := .int .i64 y) rfl; have ct25_3 := T25.cell 3 (v := .int .u8 t) rfl; have ct25_4 := T25.cell 4 (v := .int .i64 z) rfl; have cp25_0 := P25.cell 0 (v := .int .i64 a0) rfl; have cp25_1 := P25.cell 1 (v := .int .i64 b0) rfl; have ck25_0 := K25.cell 0 (v := .complex .f64 p q) rfl; have ck25_1 := K25.cell 1 (v := .bool f1) rfl; have ck25_2 := K25.cell 2 (v := .complex .f64 r s) rfl; have cm25_0 := (own25.cellAt 0 (by omega)).trans e0; have cm25_1 := (own25.cellAt 1 (by omega)).trans e1; have cm25_2 := (own25.cellAt 2 (by omega)).trans e2; have cq25_0 := Q25.cell 0 (v := .int .i64 (fX 0 a0 b0)) rfl; have cq25_1 := Q25.cell 1 (v := .int .i64 (fY 0 a0 b0)) rfl; have cr25_0 := R25.cell 0 (v := .int .i64 (gX 0 a0 b0)) rfl; have cr25_1 := R25.cell 1 (v := .int .i64 (gY 0 a0 b0)) rfl) | (go_at_call 19; guard_hyp gg25; (fail_if_success (guard_hyp gg26)); refine (S1 _).mono ?_; rintro e w26 ⟨rfl, g26⟩; have T26 := T25.kept g26 (by simp); have P26 := P25.kept g26 (by simp); have C26 := C25.kept g26 (by simp); have H26 := H25.kept g26 (by simp); have A26 := A25.kept g26 (by simp); have K26 := K25.kept g26 (by simp); have own26 := own25.kept g26 (Classical.em _); have Q26 := Q25.kept g26 (by simp); have R26 := R25.kept g26 (by simp); have gg26 := gb_trans gg25 g26; clear ct25_0 ct25_1 ct25_2 ct25_3 ct25_4 cp25_0 cq25_0 cr25_0 cp25_1 cq25_1 cr25_1 ck25_0 cm25_0 ck25_1 cm25_1 ck25_2 cm25_2; have ct26_0 := T26.cell 0 (v := .int .u8 k) rfl; have ct26_1 := T26.cell 1 (v := .int .i64 x) rfl; have ct26_2 := T26.cell 2 (v := .int .i64 y) rfl; have ct26_3 := T26.cell 3 (v := .int .u8 t) rfl; have ct26_4 := T26.cell 4 (v := .int .i64 z) rfl; have cp26_0 := P26.cell 0 (v := .int .i64 a0) rfl; have cp26_1 := P26.cell 1 (v := .int .i64 b0) rfl; have ck26_0 := K26.cell 0 (v := .complex .f64 p q) rfl; have ck26_1 := K26.cell 1 (v := .bool f1) rfl; have ck26_2 := K26.cell 2 (v := .complex .f64 r s) rfl; have cm26_0 := (own26.cellAt 0 (by omega)).trans e0; have cm26_1 := (own26.cellAt 1 (by omega)).trans e1; have cm26_2 := (own26.cellAt 2 (by omega)).trans e2; have cq26_0 := Q26.cell 0 (v := .int .i64 (fX 0 a0 b0)) rfl; have cq26_1 := Q26.cell 1 (v := .int .i64 (fY 0 a0 b0)) rfl; have cr26_0 := R26.cell 0 (v := .int .i64 (gX 0 a0 b0)) rfl; have cr26_1 := R26.cell 1 (v := .int .i64 (gY 0 a0 b0)) rfl) | (go_at_call 19; guard_hyp gg26; (fail_if_success (guard_hyp gg27)); refine (S2 _).mono ?_; rintro e w27 ⟨rfl, g27⟩; have T27 := T26.kept g27 (by simp); have P27 := P26.kept g27 (by simp); have C27 := C26.kept g27 (by simp); have H27 := H26.kept g27 (by simp); have A27 := A26.kept g27 (by simp); have K27 := K26.kept g27 (by simp); have own27 := own26.kept g27 (Classical.em _); have Q27 := Q26.kept g27 (by simp); have R27 := R26.kept g27 (by simp); have gg27 := gb_trans gg26 g27; clear ct26_0 ct26_1 ct26_2 ct26_3 ct26_4 cp26_0 cq26_0 cr26_0 cp26_1 cq26_1 cr26_1 ck26_0 cm26_0 ck26_1 cm26_1 ck26_2 cm26_2; have ct27_0 := T27.cell 0 (v := .int .u8 k) rfl; have ct27_1 := T27.cell 1 (v := .int .i64 x) rfl; have ct27_2 := T27.cell 2 (v := .int .i64 y) rfl; have ct27_3 := T27.cell 3 (v := .int .u8 t) rfl; have ct27_4 := T27.cell 4 (v := .int .i64 z) rfl; have cp27_0 := P27.cell 0 (v := .int .i64 a0) rfl; have cp27_1 := P27.cell 1 (v := .int .i64 b0) rfl; have ck27_0 := K27.cell 0 (v := .complex .f64 p q) rfl; have ck27_1 := K27.cell 1 (v := .bool f1) rfl; have ck27_2 := K27.cell 2 (v := .complex .f64 r s) rfl; have cm27_0 := (own27.cellAt 0 (by omega)).trans e0; have cm27_1 := (own27.cellAt 1 (by omega)).trans e1; have cm27_2 := (own27.cellAt 2 (by omega)).trans e2; have cq27_0 := Q27.cell 0 (v := .int .i64 (fX 0 a0 b0)) rfl; have cq27_1 := Q27.cell 1 (v := .int .i64 (fY 0 a0 b0)) rfl; have cr27_0 := R27.cell 0 (v := .int .i64 (gX 0 a0 b0)) rfl; have cr27_1 := R27.cell 1 (v := .int .i64 (gY 0 a0 b0)) rfl))
              all_goals (
                have lK : W17.heap.size < w20.heap.size := A1_.lt
                have lgm : gm < W17.heap.size := (LMa.lt gm rfl).2
                go_loopw [25] (fun x wr => ∃ (m : Nat) (A B : Int), x = .int .i64 m ∧ JJ tn m A B ∧ Bo wr W17.heap.size 25 #[.int .i64 A, .int .i64 B] ∧ w27.grownBy wr (some W17.heap.size)) (fun x _ => 4000 - (intOf x).toNat)
                case atStart => exact ⟨0, A, B, rfl, hin tn A B (by omega) (by omega) hst, A27, World.grownBy.refl _ _⟩
                case round =>
                  clear ct27_0 ct27_1 ct27_2 ct27_3 ct27_4 cp27_0 cq27_0 cr27_0 cp27_1 cq27_1 cr27_1 ck27_0 cm27_0 ck27_1 cm27_1 ck27_2 cm27_2 hst AA
                  obtain ⟨m, A, B, rfl, hj, AA, hg2⟩ := hrel
                  obtain ⟨nA, nB, hm⟩ := hJ tn m A B hj
                  have hm' : (m : Int) < 4000 := by omega
                  have T28 := T27.kept hg2 (fun e => by injection e with e; omega)
                  have H28 := H27.kept hg2 (fun e => by injection e with e; omega)
                  have K28 := K27.kept hg2 (fun e => by injection e with e; omega)
                  have own28 := own27.kept hg2 (.inr (fun e => by have e' : some gm = some W17.heap.size := e; injection e' with e'; omega))
                  have ct28_0 := T28.cell 0 (v := .int .u8 k) rfl
                  have ct28_1 := T28.cell 1 (v := .int .i64 x) rfl
                  have ct28_2 := T28.cell 2 (v := .int .i64 y) rfl
                  have ct28_3 := T28.cell 3 (v := .int .u8 t) rfl
                  have ct28_4 := T28.cell 4 (v := .int .i64 z) rfl
                  have ch28_0 := H28.cell 0 (v := .int .i64 (To.fi x)) rfl
                  have ch28_1 := H28.cell 1 (v := .int .i64 (To.fi y)) rfl
                  have ch28_2 := H28.cell 2 (v := .int .i64 x) rfl
                  have ch28_3 := H28.cell 3 (v := .int .i64 y) rfl
                  have ck28_0 := K28.cell 0 (v := .complex .f64 p q) rfl
                  have ck28_1 := K28.cell 1 (v := .bool f1) rfl
                  have ck28_2 := K28.cell 2 (v := .complex .f64 r s) rfl
                  have cm28_0 := (own28.cellAt 0 (by omega)).trans e0
                  have cm28_1 := (own28.cellAt 1 (by omega)).trans e1
                  have cm28_2 := (own28.cellAt 2 (by omega)).trans e2
                  have ca28_0 := AA.cell 0 (v := .int .i64 A) rfl
                  have ca28_1 := AA.cell 1 (v := .int .i64 B) rfl
                  have bA : A.natAbs ≤ 1099511627776 := of_decide_eq_true nA
                  have bB : B.natAbs ≤ 1099511627776 := of_decide_eq_true nB
                  obtain ⟨vx, wx⟩ : ∃ v, IntKind.i64.wrap (A - To.fi x) = v := ⟨_, rfl⟩
                  obtain ⟨vy, wy⟩ : ∃ v, IntKind.i64.wrap (B - To.fi y) = v := ⟨_, rfl⟩
                  have evx : Hid (vx = A - To.fi x) := by rw [← wx, IntKind.wrap_i64]; unfold Hid; omega
                  have evy : Hid (vy = B - To.fi y) := by rw [← wy, IntKind.wrap_i64]; unfold Hid; omega
                  have hco : Hid (coV x y tn A B = vx) := by unfold Hid coV; rw [if_pos ⟨hx1, hp⟩]; exact (evx).out.symm
                  have hsd : Hid (sdV x y tn = x) := by unfold Hid sdV; rw [if_pos ⟨hx1, hp⟩]
                  have up : vx < 0 → JJ tn (m + 1) (fX 0 A B) (fY 0 A B) := fun h => by have q := hup tn m A B hj (by rw [hco.out]; exact h); rw [hp] at q; exact q
                  have dn : x ≤ vx → JJ tn (m + 1) (gX 0 A B) (gY 0 A B) := fun h => by have q := hdn tn m A B hj (by rw [hco.out, hsd.out]; exact h); rw [hp] at q; exact q
                  have ou : 0 ≤ vx → vx < x → ST (tn + 1) A B := fun h h' => hou tn m A B hj (by rw [hco.out]; exact h) (by rw [hco.out, hsd.out]; exact h')
                  clear bA bB hj evx evy hco hsd
                  obtain ⟨WM, hWM, szM, gM, M0⟩ := boxn wr #[.complex .f64 p q, .bool f1, .complex .f64 r s] 41
                  have hgM : w27.grownBy WM (some W17.heap.size) := gb_none hg2 gM
                  by_cases v0 : vx < 0
                  · have v0' : ¬ 0 ≤ vx := by omega
                    have hj2 := up v0
                    obtain ⟨nU, nV, _⟩ := hJ tn _ _ _ hj2
                    have hAm := hAf A B nA nB nU nV
                    have own29 := own28.kept gM (Classical.em _)
                    have A29 := AA.kept gM (by simp)
                    have cm29_0 := (own29.cellAt 0 (by omega)).trans e0
                    have cm29_1 := (own29.cellAt 1 (by omega)).trans e1
                    have cm29_2 := (own29.cellAt 2 (by omega)).trans e2
                    have cM_0 := M0.cell 0 (v := .complex .f64 p q) rfl
                    have cM_1 := M0.cell 1 (v := .bool f1) rfl
                    have cM_2 := M0.cell 2 (v := .complex .f64 r s) rfl
                    have fM_0 := M0.frozen 0
                    have fM_1 := M0.frozen 1
                    have fM_2 := M0.frozen 2
                    obtain ⟨WN, hWN⟩ : ∃ W, ((WM.setCell ⟨wr.heap.size, 0, none⟩ (.complex .f64 a1 b1)).setCell ⟨wr.heap.size, 1, none⟩ (.bool f1)).setCell ⟨wr.heap.size, 2, none⟩ (.complex .f64 c1 d1) = W := ⟨_, rfl⟩
                    have MN : Bo WN wr.heap.size 41 #[.complex .f64 a1 b1, .bool f1, .complex .f64 c1 d1] := hWN ▸ bo3 M0
                    have gN : WM.grownBy WN (some wr.heap.size) := hWN ▸ gb_set (gb_set (gb_set (World.grownBy.refl _ _) 0 _) 1 _) 2 _
                    have A30 := A29.kept gN (fun e => by injection e with e; have := AA.lt; omega)
                    have hgN : w27.grownBy WN (some W17.heap.size) := gb_row2 hgM gN (.inr ⟨_, rfl, hg2.size⟩)
                    have cN_0 := MN.cell 0 (v := .complex .f64 a1 b1) rfl
                    have cN_1 := MN.cell 1 (v := .bool f1) rfl
                    have cN_2 := MN.cell 2 (v := .complex .f64 c1 d1) rfl
                    have cA30_0 := A30.cell 0 (v := .int .i64 A) rfl
                    have cA30_1 := A30.cell 1 (v := .int .i64 B) rfl
                    go_wp2_with (first | (go_at_call 25; refine (hAm _).mono ?_; rintro e w31 ⟨rfl, g31⟩; have A31 := A30.kept g31 (by simp); have cA31_0 := A31.cell 0 (v := .int .i64 A) rfl; have cA31_1 := A31.cell 1 (v := .int .i64 B) rfl; have fA31_0 := A31.frozen 0; have fA31_1 := A31.frozen 1))
                    refine ⟨⟨m + 1, _, _, by go_num, hj2, bo2 A31, gb_set (gb_set (gb_none hgN g31) 0 _) 1 _⟩, by simp [intOf]; omega⟩
                  · have v0' : 0 ≤ vx := by omega
                    by_cases v1 : vx < x
                    · have hst := ou v0' v1
                      go_wp2
                      refine ⟨⟨tn + 1, A, B, by omega, by go_num, hst, AA, gb_rowJ gg27 hg2 (fun i e => by injection e with e; omega)⟩, by simp [intOf]; omega⟩
                    · have hj2 := dn (by omega)
                      obtain ⟨nU, nV, _⟩ := hJ tn _ _ _ hj2
                      have hAm := hAg A B nA nB nU nV
                      have A29 := AA.kept gM (by simp)
                      have cM_0 := M0.cell 0 (v := .complex .f64 p q) rfl
                      have cM_1 := M0.cell 1 (v := .bool f1) rfl
                      have cM_2 := M0.cell 2 (v := .complex .f64 r s) rfl
                      have cA29_0 := A29.cell 0 (v := .int .i64 A) rfl
                      have cA29_1 := A29.cell 1 (v := .int .i64 B) rfl
                      go_wp2_with (first | (go_at_call 25; refine (hAm _).mono ?_; rintro e w31 ⟨rfl, g31⟩; have A31 := A29.kept g31 (by simp); have cA31_0 := A31.cell 0 (v := .int .i64 A) rfl; have cA31_1 := A31.cell 1 (v := .int .i64 B) rfl; have fA31_0 := A31.frozen 0; have fA31_1 := A31.frozen 1))
                      refine ⟨⟨m + 1, _, _, by go_num, hj2, bo2 A31, gb_set (gb_set (gb_none hgM g31) 0 _) 1 _⟩, by simp [intOf]; omega⟩
              )

          · have hx1' : decide (0 < x) = false := decide_eq_false hx1
            as_aux_lemma =>
              have hi : 0 < n := hin_
              obtain ⟨gm, rfl⟩ := fm (by omega)
              obtain ⟨xs, own0, hxs⟩ := LMa.kept hg (by simp)
              rw [hn.out] at own0
              have hLi : L[0]? = some (L[0]'(by have := hn.out; omega)) := List.getElem?_eq_getElem _
              generalize L[0]'(by have := hn.out; omega) = PXY at hLi
              obtain ⟨PP, XX, YY⟩ := PXY
              obtain ⟨a1, b1, f1, c1, d1, e0, e1, e2, my⟩ := hxs 0 PP XX YY hLi
              have AC := act 0 PP XX YY hLi
              have NF := nf 0 hi
              have S1 := s1 0 hi
              have S2 := s2 0 hi
              have hB := fun w => backYes a1 b1 f1 c1 d1 my w
              have hAf := fun A B hA hB hU hV w => atYes a1 b1 f1 c1 d1 A B my hA hB _ _ (AC A B).1 (AC A B).2.1 hU hV w
              have hAp := hAf a0 b0 np.1 np.2 NF.1 NF.2.1
              have cm0_0 := (own0.cellAt 0 (by omega)).trans e0
              have cm0_1 := (own0.cellAt 1 (by omega)).trans e1
              have cm0_2 := (own0.cellAt 2 (by omega)).trans e2
              have T0 := T5dxxxxxxx.kept hg (by simp)
              have P0 := P5dxxxxxxx.kept hg (by simp)
              have C0 := B12xxxxx.kept hg (by simp)
              have H0 := B15xx.kept hg (by simp)
              have gg0 : W17.grownBy wr none := hg
              go_wp2_with (first | (go_at_call 24; refine (hB _).mono ?_; rintro e w20 ⟨p, q, r, s, rfl, my2, _, g20⟩; have T1_ := T0.kept g20 (by simp); have P1_ := P0.kept g20 (by simp); have C1_ := C0.kept g20 (by simp); have H1_ := H0.kept g20 (by simp); have A1_ := AA.kept g20 (by simp); have own1_ := own0.kept g20 (Classical.em _); obtain ⟨W21, hW21, sz21, g21, K2_⟩ := boxn w20 #[.complex .f64 p q, .bool f1, .complex .f64 r s] 41; have T2_ := T1_.kept g21 (by simp); have P2_ := P1_.kept g21 (by simp); have C2_ := C1_.kept g21 (by simp); have H2_ := H1_.kept g21 (by simp); have A2_ := A1_.kept g21 (by simp); have own2_ := own1_.kept g21 (Classical.em _); have gg2 := gb_trans (gb_trans gg0 g20) g21; clear cm0_0 cm0_1 cm0_2; have ct2__0 := T2_.cell 0 (v := .int .u8 k) rfl; have ct2__1 := T2_.cell 1 (v := .int .i64 x) rfl; have ct2__2 := T2_.cell 2 (v := .int .i64 y) rfl; have ct2__3 := T2_.cell 3 (v := .int .u8 t) rfl; have ct2__4 := T2_.cell 4 (v := .int .i64 z) rfl; have cp2__0 := P2_.cell 0 (v := .int .i64 a0) rfl; have cp2__1 := P2_.cell 1 (v := .int .i64 b0) rfl; have ck2__0 := K2_.cell 0 (v := .complex .f64 p q) rfl; have ck2__1 := K2_.cell 1 (v := .bool f1) rfl; have ck2__2 := K2_.cell 2 (v := .complex .f64 r s) rfl; have cm2__0 := (own2_.cellAt 0 (by omega)).trans e0; have cm2__1 := (own2_.cellAt 1 (by omega)).trans e1; have cm2__2 := (own2_.cellAt 2 (by omega)).trans e2; have hAg := fun A B hA hB hU hV w => atYes p q f1 r s A B my2 hA hB _ _ (AC A B).2.2.1 (AC A B).2.2.2 hU hV w))
              obtain ⟨Wz, hWz, szz, gz, Qz⟩ := boxn W21 #[.int .i64 0, .int .i64 0] 25
              have Tz := T2_.kept gz (by simp)
              have Pz := P2_.kept gz (by simp)
              have Cz := C2_.kept gz (by simp)
              have Hz := H2_.kept gz (by simp)
              have Az := A2_.kept gz (by simp)
              have Kz := K2_.kept gz (by simp)
              have ownz := own2_.kept gz (Classical.em _)
              have ctz_0 := Tz.cell 0 (v := .int .u8 k) rfl
              have ctz_1 := Tz.cell 1 (v := .int .i64 x) rfl
              have ctz_2 := Tz.cell 2 (v := .int .i64 y) rfl
              have ctz_3 := Tz.cell 3 (v := .int .u8 t) rfl
              have ctz_4 := Tz.cell 4 (v := .int .i64 z) rfl
              have cpz_0 := Pz.cell 0 (v := .int .i64 a0) rfl
              have cpz_1 := Pz.cell 1 (v := .int .i64 b0) rfl
              have ckz_0 := Kz.cell 0 (v := .complex .f64 p q) rfl
              have ckz_1 := Kz.cell 1 (v := .bool f1) rfl
              have ckz_2 := Kz.cell 2 (v := .complex .f64 r s) rfl
              have cmz_0 := (ownz.cellAt 0 (by omega)).trans e0
              have cmz_1 := (ownz.cellAt 1 (by omega)).trans e1
              have cmz_2 := (ownz.cellAt 2 (by omega)).trans e2
              have ggz := gb_trans gg2 gz
              have hAgp := hAg a0 b0 np.1 np.2 NF.2.2.1 NF.2.2.2
              go_wp2
              go_region_held2 (fun w' => w'.cell? ⟨gm, 0, none⟩ = some (.complex .f64 a1 b1) ∧ w'.cell? ⟨gm, 1, none⟩ = some (.bool f1) ∧ w'.cell? ⟨gm, 2, none⟩ = some (.complex .f64 c1 d1) ∧ w'.cell? ⟨W1.heap.size, 0, none⟩ = some (.int .i64 a0) ∧ w'.cell? ⟨W1.heap.size, 1, none⟩ = some (.int .i64 b0)) (go_keep) (first | (go_at_call 25; refine (hAp _).mono ?_; rintro e w22 ⟨rfl, g22⟩; have gg22 := gb_trans (gb_drew ggz) g22; have T22 := Tz.dr.kept g22 (by simp); have P22 := Pz.dr.kept g22 (by simp); have C22 := Cz.dr.kept g22 (by simp); have H22 := Hz.dr.kept g22 (by simp); have A22 := Az.dr.kept g22 (by simp); have K22 := Kz.dr.kept g22 (by simp); have own22 := ownz.drew.kept g22 (Classical.em _); have Q22 := Qz.dr.kept g22 (by simp); have ct22_0 := T22.cell 0 (v := .int .u8 k) rfl; have ct22_1 := T22.cell 1 (v := .int .i64 x) rfl; have ct22_2 := T22.cell 2 (v := .int .i64 y) rfl; have ct22_3 := T22.cell 3 (v := .int .u8 t) rfl; have ct22_4 := T22.cell 4 (v := .int .i64 z) rfl; have cp22_0 := P22.cell 0 (v := .int .i64 a0) rfl; have cp22_1 := P22.cell 1 (v := .int .i64 b0) rfl; have ck22_0 := K22.cell 0 (v := .complex .f64 p q) rfl; have ck22_1 := K22.cell 1 (v := .bool f1) rfl; have ck22_2 := K22.cell 2 (v := .complex .f64 r s) rfl; have cm22_0 := (own22.cellAt 0 (by omega)).trans e0; have cm22_1 := (own22.cellAt 1 (by omega)).trans e1; have cm22_2 := (own22.cellAt 2 (by omega)).trans e2; have cq22_0 := Q22.cell 0 (v := .int .i64 0) rfl; have cq22_1 := Q22.cell 1 (v := .int .i64 0) rfl; have fq22_0 := Q22.frozen 0; have fq22_1 := Q22.frozen 1; obtain ⟨W23, hW23⟩ : ∃ W, (w22.setCell ⟨W21.heap.size, 0, none⟩ (.int .i64 (fX 0 a0 b0))).setCell ⟨W21.heap.size, 1, none⟩ (.int .i64 (fY 0 a0 b0)) = W := ⟨_, rfl⟩; have Q23 : Bo W23 W21.heap.size 25 #[.int .i64 (fX 0 a0 b0), .int .i64 (fY 0 a0 b0)] := hW23 ▸ bo2 Q22; have g23 : w22.grownBy W23 (some W21.heap.size) := hW23 ▸ gb_set (gb_set (World.grownBy.refl _ _) 0 _) 1 _; have T23 := T22.kept g23 (fun e => by injection e with e; have := T2_.lt; omega); have P23 := P22.kept g23 (fun e => by injection e with e; have := P2_.lt; omega); have C23 := C22.kept g23 (fun e => by injection e with e; have := C2_.lt; omega); have H23 := H22.kept g23 (fun e => by injection e with e; have := H2_.lt; omega); have A23 := A22.kept g23 (fun e => by injection e with e; have := A2_.lt; omega); have K23 := K22.kept g23 (fun e => by injection e with e; have := K2_.lt; omega); have own23 := own22.kept g23 (.inr (fun e => by have := (own2_.lt _ e).2; omega)); have gg23 : W17.grownBy W23 none := gb_rowJ gg22 g23 (fun i e => by injection e with e; have := gg2.size; omega); have ct23_0 := T23.cell 0 (v := .int .u8 k) rfl; have ct23_1 := T23.cell 1 (v := .int .i64 x) rfl; have ct23_2 := T23.cell 2 (v := .int .i64 y) rfl; have ct23_3 := T23.cell 3 (v := .int .u8 t) rfl; have ct23_4 := T23.cell 4 (v := .int .i64 z) rfl; have cp23_0 := P23.cell 0 (v := .int .i64 a0) rfl; have cp23_1 := P23.cell 1 (v := .int .i64 b0) rfl; have ck23_0 := K23.cell 0 (v := .complex .f64 p q) rfl; have ck23_1 := K23.cell 1 (v := .bool f1) rfl; have ck23_2 := K23.cell 2 (v := .complex .f64 r s) rfl; have cm23_0 := (own23.cellAt 0 (by omega)).trans e0; have cm23_1 := (own23.cellAt 1 (by omega)).trans e1; have cm23_2 := (own23.cellAt 2 (by omega)).trans e2; have cq23_0 := Q23.cell 0 (v := .int .i64 (fX 0 a0 b0)) rfl; have cq23_1 := Q23.cell 1 (v := .int .i64 (fY 0 a0 b0)) rfl) | (go_at_call 25; refine (hAp _).mono ?_; rintro e w22 ⟨rfl, g22⟩; have gg22 := gb_trans (gb_drew gg2) g22; have T22 := T2_.dr.kept g22 (by simp); have P22 := P2_.dr.kept g22 (by simp); have C22 := C2_.dr.kept g22 (by simp); have H22 := H2_.dr.kept g22 (by simp); have A22 := A2_.dr.kept g22 (by simp); have K22 := K2_.dr.kept g22 (by simp); have own22 := own2_.drew.kept g22 (Classical.em _); have ct22_0 := T22.cell 0 (v := .int .u8 k) rfl; have ct22_1 := T22.cell 1 (v := .int .i64 x) rfl; have ct22_2 := T22.cell 2 (v := .int .i64 y) rfl; have ct22_3 := T22.cell 3 (v := .int .u8 t) rfl; have ct22_4 := T22.cell 4 (v := .int .i64 z) rfl; have cp22_0 := P22.cell 0 (v := .int .i64 a0) rfl; have cp22_1 := P22.cell 1 (v := .int .i64 b0) rfl; have ck22_0 := K22.cell 0 (v := .complex .f64 p q) rfl; have ck22_1 := K22.cell 1 (v := .bool f1) rfl; have ck22_2 := K22.cell 2 (v := .complex .f64 r s) rfl; have cm22_0 := (own22.cellAt 0 (by omega)).trans e0; have cm22_1 := (own22.cellAt 1 (by omega)).trans e1; have cm22_2 := (own22.cellAt 2 (by omega)).trans e2; obtain ⟨W23, hW23, sz23, g23, Q23⟩ := boxn w22 #[.int .i64 (fX 0 a0 b0), .int .i64 (fY 0 a0 b0)] 25; have T23 := T22.kept g23 (by simp); have P23 := P22.kept g23 (by simp); have C23 := C22.kept g23 (by simp); have H23 := H22.kept g23 (by simp); have A23 := A22.kept g23 (by simp); have K23 := K22.kept g23 (by simp); have own23 := own22.kept g23 (Classical.em _); have gg23 := gb_trans gg22 g23; have ct23_0 := T23.cell 0 (v := .int .u8 k) rfl; have ct23_1 := T23.cell 1 (v := .int .i64 x) rfl; have ct23_2 := T23.cell 2 (v := .int .i64 y) rfl; have ct23_3 := T23.cell 3 (v := .int .u8 t) rfl; have ct23_4 := T23.cell 4 (v := .int .i64 z) rfl; have cp23_0 := P23.cell 0 (v := .int .i64 a0) rfl; have cp23_1 := P23.cell 1 (v := .int .i64 b0) rfl; have ck23_0 := K23.cell 0 (v := .complex .f64 p q) rfl; have ck23_1 := K23.cell 1 (v := .bool f1) rfl; have ck23_2 := K23.cell 2 (v := .complex .f64 r s) rfl; have cm23_0 := (own23.cellAt 0 (by omega)).trans e0; have cm23_1 := (own23.cellAt 1 (by omega)).trans e1; have cm23_2 := (own23.cellAt 2 (by omega)).trans e2; have cq23_0 := Q23.cell 0 (v := .int .i64 (fX 0 a0 b0)) rfl; have cq23_1 := Q23.cell 1 (v := .int .i64 (fY 0 a0 b0)) rfl))
              all_goals clear ct2__0 ct2__1 ct2__2 ct2__3 ct2__4 ctz_0 ctz_1 ctz_2 ctz_3 ctz_4 ct22_0 ct22_1 ct22_2 ct22_3 ct22_4 cp2__0 cp2__1 cpz_0 cpz_1 cp22_0 cp22_1 ck2__0 cm2__0 ck2__1 cm2__1 ck2__2 cm2__2 ckz_0 cmz_0 ckz_1 cmz_1 ckz_2 cmz_2 ck22_0 cm22_0 ck22_1 cm22_1 ck22_2 cm22_2
              all_goals go_wp2_with (first | (go_at_call 25; (fail_if_success (guard_hyp g24)); refine (hAgp _).mono ?_; rintro e w24 ⟨rfl, g24⟩; have T24 := T23.kept g24 (by simp); have P24 := P23.kept g24 (by simp); have C24 := C23.kept g24 (by simp); have H24 := H23.kept g24 (by simp); have A24 := A23.kept g24 (by simp); have K24 := K23.kept g24 (by simp); have own24 := own23.kept g24 (Classical.em _); have Q24 := Q23.kept g24 (by simp); obtain ⟨W25, hW25, sz25, g25, R25⟩ := boxn w24 #[.int .i64 (gX 0 a0 b0), .int .i64 (gY 0 a0 b0)] 25; have T25 := T24.kept g25 (by simp); have P25 := P24.kept g25 (by simp); have C25 := C24.kept g25 (by simp); have H25 := H24.kept g25 (by simp); have A25 := A24.kept g25 (by simp); have K25 := K24.kept g25 (by simp); have own25 := own24.kept g25 (Classical.em _); have Q25 := Q24.kept g25 (by simp); have gg25 := gb_trans (gb_trans gg23 g24) g25; clear ct23_0 ct23_1 ct23_2 ct23_3 ct23_4 cp23_0 cq23_0 cp23_1 cq23_1 ck23_0 cm23_0 ck23_1 cm23_1 ck23_2 cm23_2; have ct25_0 := T25.cell 0 (v := .int .u8 k) rfl; have ct25_1 := T25.cell 1 (v := .int .i64 x) rfl; have ct25_2 := T25.cell 2 (v := .int .i64 y) rfl; have ct25_3 := T25.cell 3 (v := .int .u8 t) rfl; have ct25_4 := T25.cell 4 (v := .int .i64 z) rfl; have cp25_0 := P25.cell 0 (v := .int .i64 a0) rfl; have cp25_1 := P25.cell 1 (v := .int .i64 b0) rfl; have ck25_0 := K25.cell 0 (v := .complex .f64 p q) rfl; have ck25_1 := K25.cell 1 (v := .bool f1) rfl; have ck25_2 := K25.cell 2 (v := .complex .f64 r s) rfl; have cm25_0 := (own25.cellAt 0 (by omega)).trans e0; have cm25_1 := (own25.cellAt 1 (by omega)).trans e1; have cm25_2 := (own25.cellAt 2 (by omega)).trans e2; have cq25_0 := Q25.cell 0 (v := .int .i64 (fX 0 a0 b0)) rfl; have cq25_1 := Q25.cell 1 (v := .int .i64 (fY 0 a0 b0)) rfl; have cr25_0 := R25.cell 0 (v := .int .i64 (gX 0 a0 b0)) rfl; have cr25_1 := R25.cell 1 (v := .int .i64 (gY 0 a0 b0)) rfl) | (go_at_call 19; guard_hyp gg25; (fail_if_success (guard_hyp gg26)); refine (S1 _).mono ?_; rintro e w26 ⟨rfl, g26⟩; have T26 := T25.kept g26 (by simp); have P26 := P25.kept g26 (by simp); have C26 := C25.kept g26 (by simp); have H26 := H25.kept g26 (by simp); have A26 := A25.kept g26 (by simp); have K26 := K25.kept g26 (by simp); have own26 := own25.kept g26 (Classical.em _); have Q26 := Q25.kept g26 (by simp); have R26 := R25.kept g26 (by simp); have gg26 := gb_trans gg25 g26; clear ct25_0 ct25_1 ct25_2 ct25_3 ct25_4 cp25_0 cq25_0 cr25_0 cp25_1 cq25_1 cr25_1 ck25_0 cm25_0 ck25_1 cm25_1 ck25_2 cm25_2; have ct26_0 := T26.cell 0 (v := .int .u8 k) rfl; have ct26_1 := T26.cell 1 (v := .int .i64 x) rfl; have ct26_2 := T26.cell 2 (v := .int .i64 y) rfl; have ct26_3 := T26.cell 3 (v := .int .u8 t) rfl; have ct26_4 := T26.cell 4 (v := .int .i64 z) rfl; have cp26_0 := P26.cell 0 (v := .int .i64 a0) rfl; have cp26_1 := P26.cell 1 (v := .int .i64 b0) rfl; have ck26_0 := K26.cell 0 (v := .complex .f64 p q) rfl; have ck26_1 := K26.cell 1 (v := .bool f1) rfl; have ck26_2 := K26.cell 2 (v := .complex .f64 r s) rfl; have cm26_0 := (own26.cellAt 0 (by omega)).trans e0; have cm26_1 := (own26.cellAt 1 (by omega)).trans e1; have cm26_2 := (own26.cellAt 2 (by omega)).trans e2; have cq26_0 := Q26.cell 0 (v := .int .i64 (fX 0 a0 b0)) rfl; have cq26_1 := Q26.cell 1 (v := .int .i64 (fY 0 a0 b0)) rfl; have cr26_0 := R26.cell 0 (v := .int .i64 (gX 0 a0 b0)) rfl; have cr26_1 := R26.cell 1 (v := .int .i64 (gY 0 a0 b0)) rfl) | (go_at_call 19; guard_hyp gg26; (fail_if_success (guard_hyp gg27)); refine (S2 _).mono ?_; rintro e w27 ⟨rfl, g27⟩; have T27 := T26.kept g27 (by simp); have P27 := P26.kept g27 (by simp); have C27 := C26.kept g27 (by simp); have H27 := H26.kept g27 (by simp); have A27 := A26.kept g27 (by simp); have K27 := K26.kept g27 (by simp); have own27 := own26.kept g27 (Classical.em _); have Q27 := Q26.kept g27 (by simp); have R27 := R26.kept g27 (by simp); have gg27 := gb_trans gg26 g27; clear ct26_0 ct26_1 ct26_2 ct26_3 ct26_4 cp26_0 cq26_0 cr26_0 cp26_1 cq26_1 cr26_1 ck26_0 cm26_0 ck26_1 cm26_1 ck26_2 cm26_2; have ct27_0 := T27.cell 0 (v := .int .u8 k) rfl; have ct27_1 := T27.cell 1 (v := .int .i64 x) rfl; have ct27_2 := T27.cell 2 (v := .int .i64 y) rfl; have ct27_3 := T27.cell 3 (v := .int .u8 t) rfl; have ct27_4 := T27.cell 4 (v := .int .i64 z) rfl; have cp27_0 := P27.cell 0 (v := .int .i64 a0) rfl; have cp27_1 := P27.cell 1 (v := .int .i64 b0) rfl; have ck27_0 := K27.cell 0 (v := .complex .f64 p q) rfl; have ck27_1 := K27.cell 1 (v := .bool f1) rfl; have ck27_2 := K27.cell 2 (v := .complex .f64 r s) rfl; have cm27_0 := (own27.cellAt 0 (by omega)).trans e0; have cm27_1 := (own27.cellAt 1 (by omega)).trans e1; have cm27_2 := (own27.cellAt 2 (by omega)).trans e2; have cq27_0 := Q27.cell 0 (v := .int .i64 (fX 0 a0 b0)) rfl; have cq27_1 := Q27.cell 1 (v := .int .i64 (fY 0 a0 b0)) rfl; have cr27_0 := R27.cell 0 (v := .int .i64 (gX 0 a0 b0)) rfl; have cr27_1 := R27.cell 1 (v := .int .i64 (gY 0 a0 b0)) rfl))
              all_goals (
                have lK : W17.heap.size < w20.heap.size := A1_.lt
                have lgm : gm < W17.heap.size := (LMa.lt gm rfl).2
                go_loopw [25] (fun x wr => ∃ (m : Nat) (A B : Int), x = .int .i64 m ∧ JJ tn m A B ∧ Bo wr W17.heap.size 25 #[.int .i64 A, .int .i64 B] ∧ w27.grownBy wr (some W17.heap.size)) (fun x _ => 4000 - (intOf x).toNat)
                case atStart => exact ⟨0, A, B, rfl, hin tn A B (by omega) (by omega) hst, A27, World.grownBy.refl _ _⟩
                case round =>
                  clear ct27_0 ct27_1 ct27_2 ct27_3 ct27_4 cp27_0 cq27_0 cr27_0 cp27_1 cq27_1 cr27_1 ck27_0 cm27_0 ck27_1 cm27_1 ck27_2 cm27_2 hst AA
                  obtain ⟨m, A, B, rfl, hj, AA, hg2⟩ := hrel
                  obtain ⟨nA, nB, hm⟩ := hJ tn m A B hj
                  have hm' : (m : Int) < 4000 := by omega
                  have T28 := T27.kept hg2 (fun e => by injection e with e; omega)
                  have H28 := H27.kept hg2 (fun e => by injection e with e; omega)
                  have K28 := K27.kept hg2 (fun e => by injection e with e; omega)
                  have own28 := own27.kept hg2 (.inr (fun e => by have e' : some gm = some W17.heap.size := e; injection e' with e'; omega))
                  have ct28_0 := T28.cell 0 (v := .int .u8 k) rfl
                  have ct28_1 := T28.cell 1 (v := .int .i64 x) rfl
                  have ct28_2 := T28.cell 2 (v := .int .i64 y) rfl
                  have ct28_3 := T28.cell 3 (v := .int .u8 t) rfl
                  have ct28_4 := T28.cell 4 (v := .int .i64 z) rfl
                  have ch28_0 := H28.cell 0 (v := .int .i64 (To.fi x)) rfl
                  have ch28_1 := H28.cell 1 (v := .int .i64 (To.fi y)) rfl
                  have ch28_2 := H28.cell 2 (v := .int .i64 x) rfl
                  have ch28_3 := H28.cell 3 (v := .int .i64 y) rfl
                  have ck28_0 := K28.cell 0 (v := .complex .f64 p q) rfl
                  have ck28_1 := K28.cell 1 (v := .bool f1) rfl
                  have ck28_2 := K28.cell 2 (v := .complex .f64 r s) rfl
                  have cm28_0 := (own28.cellAt 0 (by omega)).trans e0
                  have cm28_1 := (own28.cellAt 1 (by omega)).trans e1
                  have cm28_2 := (own28.cellAt 2 (by omega)).trans e2
                  have ca28_0 := AA.cell 0 (v := .int .i64 A) rfl
                  have ca28_1 := AA.cell 1 (v := .int .i64 B) rfl
                  have bA : A.natAbs ≤ 1099511627776 := of_decide_eq_true nA
                  have bB : B.natAbs ≤ 1099511627776 := of_decide_eq_true nB
                  obtain ⟨vx, wx⟩ : ∃ v, IntKind.i64.wrap (A - To.fi x) = v := ⟨_, rfl⟩
                  obtain ⟨vy, wy⟩ : ∃ v, IntKind.i64.wrap (B - To.fi y) = v := ⟨_, rfl⟩
                  have evx : Hid (vx = A - To.fi x) := by rw [← wx, IntKind.wrap_i64]; unfold Hid; omega
                  have evy : Hid (vy = B - To.fi y) := by rw [← wy, IntKind.wrap_i64]; unfold Hid; omega
                  have hco : Hid (coV x y tn A B = vy) := by unfold Hid coV; rw [if_neg (fun q => by omega)]; exact (evy).out.symm
                  have hsd : Hid (sdV x y tn = y) := by unfold Hid sdV; rw [if_neg (fun q => by omega)]
                  have up : vy < 0 → JJ tn (m + 1) (fX 0 A B) (fY 0 A B) := fun h => by have q := hup tn m A B hj (by rw [hco.out]; exact h); rw [hp] at q; exact q
                  have dn : y ≤ vy → JJ tn (m + 1) (gX 0 A B) (gY 0 A B) := fun h => by have q := hdn tn m A B hj (by rw [hco.out, hsd.out]; exact h); rw [hp] at q; exact q
                  have ou : 0 ≤ vy → vy < y → ST (tn + 1) A B := fun h h' => hou tn m A B hj (by rw [hco.out]; exact h) (by rw [hco.out, hsd.out]; exact h')
                  clear bA bB hj evx evy hco hsd
                  obtain ⟨WM, hWM, szM, gM, M0⟩ := boxn wr #[.complex .f64 p q, .bool f1, .complex .f64 r s] 41
                  have hgM : w27.grownBy WM (some W17.heap.size) := gb_none hg2 gM
                  by_cases v0 : vy < 0
                  · have v0' : ¬ 0 ≤ vy := by omega
                    have hj2 := up v0
                    obtain ⟨nU, nV, _⟩ := hJ tn _ _ _ hj2
                    have hAm := hAf A B nA nB nU nV
                    have own29 := own28.kept gM (Classical.em _)
                    have A29 := AA.kept gM (by simp)
                    have cm29_0 := (own29.cellAt 0 (by omega)).trans e0
                    have cm29_1 := (own29.cellAt 1 (by omega)).trans e1
                    have cm29_2 := (own29.cellAt 2 (by omega)).trans e2
                    have cM_0 := M0.cell 0 (v := .complex .f64 p q) rfl
                    have cM_1 := M0.cell 1 (v := .bool f1) rfl
                    have cM_2 := M0.cell 2 (v := .complex .f64 r s) rfl
                    have fM_0 := M0.frozen 0
                    have fM_1 := M0.frozen 1
                    have fM_2 := M0.frozen 2
                    obtain ⟨WN, hWN⟩ : ∃ W, ((WM.setCell ⟨wr.heap.size, 0, none⟩ (.complex .f64 a1 b1)).setCell ⟨wr.heap.size, 1, none⟩ (.bool f1)).setCell ⟨wr.heap.size, 2, none⟩ (.complex .f64 c1 d1) = W := ⟨_, rfl⟩
                    have MN : Bo WN wr.heap.size 41 #[.complex .f64 a1 b1, .bool f1, .complex .f64 c1 d1] := hWN ▸ bo3 M0
                    have gN : WM.grownBy WN (some wr.heap.size) := hWN ▸ gb_set (gb_set (gb_set (World.grownBy.refl _ _) 0 _) 1 _) 2 _
                    have A30 := A29.kept gN (fun e => by injection e with e; have := AA.lt; omega)
                    have hgN : w27.grownBy WN (some W17.heap.size) := gb_row2 hgM gN (.inr ⟨_, rfl, hg2.size⟩)
                    have cN_0 := MN.cell 0 (v := .complex .f64 a1 b1) rfl
                    have cN_1 := MN.cell 1 (v := .bool f1) rfl
                    have cN_2 := MN.cell 2 (v := .complex .f64 c1 d1) rfl
                    have cA30_0 := A30.cell 0 (v := .int .i64 A) rfl
                    have cA30_1 := A30.cell 1 (v := .int .i64 B) rfl
                    go_wp2_with (first | (go_at_call 25; refine (hAm _).mono ?_; rintro e w31 ⟨rfl, g31⟩; have A31 := A30.kept g31 (by simp); have cA31_0 := A31.cell 0 (v := .int .i64 A) rfl; have cA31_1 := A31.cell 1 (v := .int .i64 B) rfl; have fA31_0 := A31.frozen 0; have fA31_1 := A31.frozen 1))
                    refine ⟨⟨m + 1, _, _, by go_num, hj2, bo2 A31, gb_set (gb_set (gb_none hgN g31) 0 _) 1 _⟩, by simp [intOf]; omega⟩
                  · have v0' : 0 ≤ vy := by omega
                    by_cases v1 : vy < y
                    · have hst := ou v0' v1
                      go_wp2
                      refine ⟨⟨tn + 1, A, B, by omega, by go_num, hst, AA, gb_rowJ gg27 hg2 (fun i e => by injection e with e; omega)⟩, by simp [intOf]; omega⟩
                    · have hj2 := dn (by omega)
                      obtain ⟨nU, nV, _⟩ := hJ tn _ _ _ hj2
                      have hAm := hAg A B nA nB nU nV
                      have A29 := AA.kept gM (by simp)
                      have cM_0 := M0.cell 0 (v := .complex .f64 p q) rfl
                      have cM_1 := M0.cell 1 (v := .bool f1) rfl
                      have cM_2 := M0.cell 2 (v := .complex .f64 r s) rfl
                      have cA29_0 := A29.cell 0 (v := .int .i64 A) rfl
                      have cA29_1 := A29.cell 1 (v := .int .i64 B) rfl
                      go_wp2_with (first | (go_at_call 25; refine (hAm _).mono ?_; rintro e w31 ⟨rfl, g31⟩; have A31 := A29.kept g31 (by simp); have cA31_0 := A31.cell 0 (v := .int .i64 A) rfl; have cA31_1 := A31.cell 1 (v := .int .i64 B) rfl; have fA31_0 := A31.frozen 0; have fA31_1 := A31.frozen 1))
                      refine ⟨⟨m + 1, _, _, by go_num, hj2, bo2 A31, gb_set (gb_set (gb_none hgM g31) 0 _) 1 _⟩, by simp [intOf]; omega⟩
              )

        · have hin' : (n : Int) ≤ 0 := by omega
          have hst' := hsk tn A B (by omega) hst
          go_wp2
          refine ⟨⟨tn + 1, A, B, by omega, by go_num, hst', AA, hg⟩, by simp [intOf]; omega⟩
      · have hp : tn % 2 = 1 := by omega
        have hrem : Int.tmod (tn : Int) 2 = 1 := by rw [Int.tmod_eq_emod_of_nonneg (by omega)]; omega
        by_cases hin_ : 1 < n
        · have hin' : ¬ (n : Int) ≤ 1 := by omega
          have hx1 := hn2 hin_
          as_aux_lemma =>
            have hi : 1 < n := hin_
            obtain ⟨gm, rfl⟩ := fm (by omega)
            obtain ⟨xs, own0, hxs⟩ := LMa.kept hg (by simp)
            rw [hn.out] at own0
            have hLi : L[1]? = some (L[1]'(by have := hn.out; omega)) := List.getElem?_eq_getElem _
            generalize L[1]'(by have := hn.out; omega) = PXY at hLi
            obtain ⟨PP, XX, YY⟩ := PXY
            obtain ⟨a1, b1, f1, c1, d1, e0, e1, e2, my⟩ := hxs 1 PP XX YY hLi
            have AC := act 1 PP XX YY hLi
            have NF := nf 1 hi
            have S1 := s1 1 hi
            have S2 := s2 1 hi
            have hB := fun w => backYes a1 b1 f1 c1 d1 my w
            have hAf := fun A B hA hB hU hV w => atYes a1 b1 f1 c1 d1 A B my hA hB _ _ (AC A B).1 (AC A B).2.1 hU hV w
            have hAp := hAf a0 b0 np.1 np.2 NF.1 NF.2.1
            have cm0_0 := (own0.cellAt 3 (by omega)).trans e0
            have cm0_1 := (own0.cellAt 4 (by omega)).trans e1
            have cm0_2 := (own0.cellAt 5 (by omega)).trans e2
            have T0 := T5dxxxxxxx.kept hg (by simp)
            have P0 := P5dxxxxxxx.kept hg (by simp)
            have C0 := B12xxxxx.kept hg (by simp)
            have H0 := B15xx.kept hg (by simp)
            have gg0 : W17.grownBy wr none := hg
            go_wp2_with (first | (go_at_call 24; refine (hB _).mono ?_; rintro e w20 ⟨p, q, r, s, rfl, my2, _, g20⟩; have T1_ := T0.kept g20 (by simp); have P1_ := P0.kept g20 (by simp); have C1_ := C0.kept g20 (by simp); have H1_ := H0.kept g20 (by simp); have A1_ := AA.kept g20 (by simp); have own1_ := own0.kept g20 (Classical.em _); obtain ⟨W21, hW21, sz21, g21, K2_⟩ := boxn w20 #[.complex .f64 p q, .bool f1, .complex .f64 r s] 41; have T2_ := T1_.kept g21 (by simp); have P2_ := P1_.kept g21 (by simp); have C2_ := C1_.kept g21 (by simp); have H2_ := H1_.kept g21 (by simp); have A2_ := A1_.kept g21 (by simp); have own2_ := own1_.kept g21 (Classical.em _); have gg2 := gb_trans (gb_trans gg0 g20) g21; clear cm0_0 cm0_1 cm0_2; have ct2__0 := T2_.cell 0 (v := .int .u8 k) rfl; have ct2__1 := T2_.cell 1 (v := .int .i64 x) rfl; have ct2__2 := T2_.cell 2 (v := .int .i64 y) rfl; have ct2__3 := T2_.cell 3 (v := .int .u8 t) rfl; have ct2__4 := T2_.cell 4 (v := .int .i64 z) rfl; have cp2__0 := P2_.cell 0 (v := .int .i64 a0) rfl; have cp2__1 := P2_.cell 1 (v := .int .i64 b0) rfl; have ck2__0 := K2_.cell 0 (v := .complex .f64 p q) rfl; have ck2__1 := K2_.cell 1 (v := .bool f1) rfl; have ck2__2 := K2_.cell 2 (v := .complex .f64 r s) rfl; have cm2__0 := (own2_.cellAt 3 (by omega)).trans e0; have cm2__1 := (own2_.cellAt 4 (by omega)).trans e1; have cm2__2 := (own2_.cellAt 5 (by omega)).trans e2; have hAg := fun A B hA hB hU hV w => atYes p q f1 r s A B my2 hA hB _ _ (AC A B).2.2.1 (AC A B).2.2.2 hU hV w))
            obtain ⟨Wz, hWz, szz, gz, Qz⟩ := boxn W21 #[.int .i64 0, .int .i64 0] 25
            have Tz := T2_.kept gz (by simp)
            have Pz := P2_.kept gz (by simp)
            have Cz := C2_.kept gz (by simp)
            have Hz := H2_.kept gz (by simp)
            have Az := A2_.kept gz (by simp)
            have Kz := K2_.kept gz (by simp)
            have ownz := own2_.kept gz (Classical.em _)
            have ctz_0 := Tz.cell 0 (v := .int .u8 k) rfl
            have ctz_1 := Tz.cell 1 (v := .int .i64 x) rfl
            have ctz_2 := Tz.cell 2 (v := .int .i64 y) rfl
            have ctz_3 := Tz.cell 3 (v := .int .u8 t) rfl
            have ctz_4 := Tz.cell 4 (v := .int .i64 z) rfl
            have cpz_0 := Pz.cell 0 (v := .int .i64 a0) rfl
            have cpz_1 := Pz.cell 1 (v := .int .i64 b0) rfl
            have ckz_0 := Kz.cell 0 (v := .complex .f64 p q) rfl
            have ckz_1 := Kz.cell 1 (v := .bool f1) rfl
            have ckz_2 := Kz.cell 2 (v := .complex .f64 r s) rfl
            have cmz_0 := (ownz.cellAt 3 (by omega)).trans e0
            have cmz_1 := (ownz.cellAt 4 (by omega)).trans e1
            have cmz_2 := (ownz.cellAt 5 (by omega)).trans e2
            have ggz := gb_trans gg2 gz
            have hAgp := hAg a0 b0 np.1 np.2 NF.2.2.1 NF.2.2.2
            go_wp2
            go_region_held2 (fun w' => w'.cell? ⟨gm, 3, none⟩ = some (.complex .f64 a1 b1) ∧ w'.cell? ⟨gm, 4, none⟩ = some (.bool f1) ∧ w'.cell? ⟨gm, 5, none⟩ = some (.complex .f64 c1 d1) ∧ w'.cell? ⟨W1.heap.size, 0, none⟩ = some (.int .i64 a0) ∧ w'.cell? ⟨W1.heap.size, 1, none⟩ = some (.int .i64 b0)) (go_keep) (first | (go_at_call 25; refine (hAp _).mono ?_; rintro e w22 ⟨rfl, g22⟩; have gg22 := gb_trans (gb_drew ggz) g22; have T22 := Tz.dr.kept g22 (by simp); have P22 := Pz.dr.kept g22 (by simp); have C22 := Cz.dr.kept g22 (by simp); have H22 := Hz.dr.kept g22 (by simp); have A22 := Az.dr.kept g22 (by simp); have K22 := Kz.dr.kept g22 (by simp); have own22 := ownz.drew.kept g22 (Classical.em _); have Q22 := Qz.dr.kept g22 (by simp); have ct22_0 := T22.cell 0 (v := .int .u8 k) rfl; have ct22_1 := T22.cell 1 (v := .int .i64 x) rfl; have ct22_2 := T22.cell 2 (v := .int .i64 y) rfl; have ct22_3 := T22.cell 3 (v := .int .u8 t) rfl; have ct22_4 := T22.cell 4 (v := .int .i64 z) rfl; have cp22_0 := P22.cell 0 (v := .int .i64 a0) rfl; have cp22_1 := P22.cell 1 (v := .int .i64 b0) rfl; have ck22_0 := K22.cell 0 (v := .complex .f64 p q) rfl; have ck22_1 := K22.cell 1 (v := .bool f1) rfl; have ck22_2 := K22.cell 2 (v := .complex .f64 r s) rfl; have cm22_0 := (own22.cellAt 3 (by omega)).trans e0; have cm22_1 := (own22.cellAt 4 (by omega)).trans e1; have cm22_2 := (own22.cellAt 5 (by omega)).trans e2; have cq22_0 := Q22.cell 0 (v := .int .i64 0) rfl; have cq22_1 := Q22.cell 1 (v := .int .i64 0) rfl; have fq22_0 := Q22.frozen 0; have fq22_1 := Q22.frozen 1; obtain ⟨W23, hW23⟩ : ∃ W, (w22.setCell ⟨W21.heap.size, 0, none⟩ (.int .i64 (fX 1 a0 b0))).setCell ⟨W21.heap.size, 1, none⟩ (.int .i64 (fY 1 a0 b0)) = W := ⟨_, rfl⟩; have Q23 : Bo W23 W21.heap.size 25 #[.int .i64 (fX 1 a0 b0), .int .i64 (fY 1 a0 b0)] := hW23 ▸ bo2 Q22; have g23 : w22.grownBy W23 (some W21.heap.size) := hW23 ▸ gb_set (gb_set (World.grownBy.refl _ _) 0 _) 1 _; have T23 := T22.kept g23 (fun e => by injection e with e; have := T2_.lt; omega); have P23 := P22.kept g23 (fun e => by injection e with e; have := P2_.lt; omega); have C23 := C22.kept g23 (fun e => by injection e with e; have := C2_.lt; omega); have H23 := H22.kept g23 (fun e => by injection e with e; have := H2_.lt; omega); have A23 := A22.kept g23 (fun e => by injection e with e; have := A2_.lt; omega); have K23 := K22.kept g23 (fun e => by injection e with e; have := K2_.lt; omega); have own23 := own22.kept g23 (.inr (fun e => by have := (own2_.lt _ e).2; omega)); have gg23 : W17.grownBy W23 none := gb_rowJ gg22 g23 (fun i e => by injection e with e; have := gg2.size; omega); have ct23_0 := T23.cell 0 (v := .int .u8 k) rfl; have ct23_1 := T23.cell 1 (v := .int .i64 x) rfl; have ct23_2 := T23.cell 2 (v := .int .i64 y) rfl; have ct23_3 := T23.cell 3 (v := .int .u8 t) rfl; have ct23_4 := T23.cell 4 (v := .int .i64 z) rfl; have cp23_0 := P23.cell 0 (v := .int .i64 a0) rfl; have cp23_1 := P23.cell 1 (v := .int .i64 b0) rfl; have ck23_0 := K23.cell 0 (v := .complex .f64 p q) rfl; have ck23_1 := K23.cell 1 (v := .bool f1) rfl; have ck23_2 := K23.cell 2 (v := .complex .f64 r s) rfl; have cm23_0 := (own23.cellAt 3 (by omega)).trans e0; have cm23_1 := (own23.cellAt 4 (by omega)).trans e1; have cm23_2 := (own23.cellAt 5 (by omega)).trans e2; have cq23_0 := Q23.cell 0 (v := .int .i64 (fX 1 a0 b0)) rfl; have cq23_1 := Q23.cell 1 (v := .int .i64 (fY 1 a0 b0)) rfl) | (go_at_call 25; refine (hAp _).mono ?_; rintro e w22 ⟨rfl, g22⟩; have gg22 := gb_trans (gb_drew gg2) g22; have T22 := T2_.dr.kept g22 (by simp); have P22 := P2_.dr.kept g22 (by simp); have C22 := C2_.dr.kept g22 (by simp); have H22 := H2_.dr.kept g22 (by simp); have A22 := A2_.dr.kept g22 (by simp); have K22 := K2_.dr.kept g22 (by simp); have own22 := own2_.drew.kept g22 (Classical.em _); have ct22_0 := T22.cell 0 (v := .int .u8 k) rfl; have ct22_1 := T22.cell 1 (v := .int .i64 x) rfl; have ct22_2 := T22.cell 2 (v := .int .i64 y) rfl; have ct22_3 := T22.cell 3 (v := .int .u8 t) rfl; have ct22_4 := T22.cell 4 (v := .int .i64 z) rfl; have cp22_0 := P22.cell 0 (v := .int .i64 a0) rfl; have cp22_1 := P22.cell 1 (v := .int .i64 b0) rfl; have ck22_0 := K22.cell 0 (v := .complex .f64 p q) rfl; have ck22_1 := K22.cell 1 (v := .bool f1) rfl; have ck22_2 := K22.cell 2 (v := .complex .f64 r s) rfl; have cm22_0 := (own22.cellAt 3 (by omega)).trans e0; have cm22_1 := (own22.cellAt 4 (by omega)).trans e1; have cm22_2 := (own22.cellAt 5 (by omega)).trans e2; obtain ⟨W23, hW23, sz23, g23, Q23⟩ := boxn w22 #[.int .i64 (fX 1 a0 b0), .int .i64 (fY 1 a0 b0)] 25; have T23 := T22.kept g23 (by simp); have P23 := P22.kept g23 (by simp); have C23 := C22.kept g23 (by simp); have H23 := H22.kept g23 (by simp); have A23 := A22.kept g23 (by simp); have K23 := K22.kept g23 (by simp); have own23 := own22.kept g23 (Classical.em _); have gg23 := gb_trans gg22 g23; have ct23_0 := T23.cell 0 (v := .int .u8 k) rfl; have ct23_1 := T23.cell 1 (v := .int .i64 x) rfl; have ct23_2 := T23.cell 2 (v := .int .i64 y) rfl; have ct23_3 := T23.cell 3 (v := .int .u8 t) rfl; have ct23_4 := T23.cell 4 (v := .int .i64 z) rfl; have cp23_0 := P23.cell 0 (v := .int .i64 a0) rfl; have cp23_1 := P23.cell 1 (v := .int .i64 b0) rfl; have ck23_0 := K23.cell 0 (v := .complex .f64 p q) rfl; have ck23_1 := K23.cell 1 (v := .bool f1) rfl; have ck23_2 := K23.cell 2 (v := .complex .f64 r s) rfl; have cm23_0 := (own23.cellAt 3 (by omega)).trans e0; have cm23_1 := (own23.cellAt 4 (by omega)).trans e1; have cm23_2 := (own23.cellAt 5 (by omega)).trans e2; have cq23_0 := Q23.cell 0 (v := .int .i64 (fX 1 a0 b0)) rfl; have cq23_1 := Q23.cell 1 (v := .int .i64 (fY 1 a0 b0)) rfl))
            all_goals clear ct2__0 ct2__1 ct2__2 ct2__3 ct2__4 ctz_0 ctz_1 ctz_2 ctz_3 ctz_4 ct22_0 ct22_1 ct22_2 ct22_3 ct22_4 cp2__0 cp2__1 cpz_0 cpz_1 cp22_0 cp22_1 ck2__0 cm2__0 ck2__1 cm2__1 ck2__2 cm2__2 ckz_0 cmz_0 ckz_1 cmz_1 ckz_2 cmz_2 ck22_0 cm22_0 ck22_1 cm22_1 ck22_2 cm22_2
            all_goals go_wp2_with (first | (go_at_call 25; (fail_if_success (guard_hyp g24)); refine (hAgp _).mono ?_; rintro e w24 ⟨rfl, g24⟩; have T24 := T23.kept g24 (by simp); have P24 := P23.kept g24 (by simp); have C24 := C23.kept g24 (by simp); have H24 := H23.kept g24 (by simp); have A24 := A23.kept g24 (by simp); have K24 := K23.kept g24 (by simp); have own24 := own23.kept g24 (Classical.em _); have Q24 := Q23.kept g24 (by simp); obtain ⟨W25, hW25, sz25, g25, R25⟩ := boxn w24 #[.int .i64 (gX 1 a0 b0), .int .i64 (gY 1 a0 b0)] 25; have T25 := T24.kept g25 (by simp); have P25 := P24.kept g25 (by simp); have C25 := C24.kept g25 (by simp); have H25 := H24.kept g25 (by simp); have A25 := A24.kept g25 (by simp); have K25 := K24.kept g25 (by simp); have own25 := own24.kept g25 (Classical.em _); have Q25 := Q24.kept g25 (by simp); have gg25 := gb_trans (gb_trans gg23 g24) g25; clear ct23_0 ct23_1 ct23_2 ct23_3 ct23_4 cp23_0 cq23_0 cp23_1 cq23_1 ck23_0 cm23_0 ck23_1 cm23_1 ck23_2 cm23_2; have ct25_0 := T25.cell 0 (v := .int .u8 k) rfl; have ct25_1 := T25.cell 1 (v := .int .i64 x) rfl; have ct25_2 := T25.cell 2 (v := .int .i64 y) rfl; have ct25_3 := T25.cell 3 (v := .int .u8 t) rfl; have ct25_4 := T25.cell 4 (v := .int .i64 z) rfl; have cp25_0 := P25.cell 0 (v := .int .i64 a0) rfl; have cp25_1 := P25.cell 1 (v := .int .i64 b0) rfl; have ck25_0 := K25.cell 0 (v := .complex .f64 p q) rfl; have ck25_1 := K25.cell 1 (v := .bool f1) rfl; have ck25_2 := K25.cell 2 (v := .complex .f64 r s) rfl; have cm25_0 := (own25.cellAt 3 (by omega)).trans e0; have cm25_1 := (own25.cellAt 4 (by omega)).trans e1; have cm25_2 := (own25.cellAt 5 (by omega)).trans e2; have cq25_0 := Q25.cell 0 (v := .int .i64 (fX 1 a0 b0)) rfl; have cq25_1 := Q25.cell 1 (v := .int .i64 (fY 1 a0 b0)) rfl; have cr25_0 := R25.cell 0 (v := .int .i64 (gX 1 a0 b0)) rfl; have cr25_1 := R25.cell 1 (v := .int .i64 (gY 1 a0 b0)) rfl) | (go_at_call 19; guard_hyp gg25; (fail_if_success (guard_hyp gg26)); refine (S1 _).mono ?_; rintro e w26 ⟨rfl, g26⟩; have T26 := T25.kept g26 (by simp); have P26 := P25.kept g26 (by simp); have C26 := C25.kept g26 (by simp); have H26 := H25.kept g26 (by simp); have A26 := A25.kept g26 (by simp); have K26 := K25.kept g26 (by simp); have own26 := own25.kept g26 (Classical.em _); have Q26 := Q25.kept g26 (by simp); have R26 := R25.kept g26 (by simp); have gg26 := gb_trans gg25 g26; clear ct25_0 ct25_1 ct25_2 ct25_3 ct25_4 cp25_0 cq25_0 cr25_0 cp25_1 cq25_1 cr25_1 ck25_0 cm25_0 ck25_1 cm25_1 ck25_2 cm25_2; have ct26_0 := T26.cell 0 (v := .int .u8 k) rfl; have ct26_1 := T26.cell 1 (v := .int .i64 x) rfl; have ct26_2 := T26.cell 2 (v := .int .i64 y) rfl; have ct26_3 := T26.cell 3 (v := .int .u8 t) rfl; have ct26_4 := T26.cell 4 (v := .int .i64 z) rfl; have cp26_0 := P26.cell 0 (v := .int .i64 a0) rfl; have cp26_1 := P26.cell 1 (v := .int .i64 b0) rfl; have ck26_0 := K26.cell 0 (v := .complex .f64 p q) rfl; have ck26_1 := K26.cell 1 (v := .bool f1) rfl; have ck26_2 := K26.cell 2 (v := .complex .f64 r s) rfl; have cm26_0 := (own26.cellAt 3 (by omega)).trans e0; have cm26_1 := (own26.cellAt 4 (by omega)).trans e1; have cm26_2 := (own26.cellAt 5 (by omega)).trans e2; have cq26_0 := Q26.cell 0 (v := .int .i64 (fX 1 a0 b0)) rfl; have cq26_1 := Q26.cell 1 (v := .int .i64 (fY 1 a0 b0)) rfl; have cr26_0 := R26.cell 0 (v := .int .i64 (gX 1 a0 b0)) rfl; have cr26_1 := R26.cell 1 (v := .int .i64 (gY 1 a0 b0)) rfl) | (go_at_call 19; guard_hyp gg26; (fail_if_success (guard_hyp gg27)); refine (S2 _).mono ?_; rintro e w27 ⟨rfl, g27⟩; have T27 := T26.kept g27 (by simp); have P27 := P26.kept g27 (by simp); have C27 := C26.kept g27 (by simp); have H27 := H26.kept g27 (by simp); have A27 := A26.kept g27 (by simp); have K27 := K26.kept g27 (by simp); have own27 := own26.kept g27 (Classical.em _); have Q27 := Q26.kept g27 (by simp); have R27 := R26.kept g27 (by simp); have gg27 := gb_trans gg26 g27; clear ct26_0 ct26_1 ct26_2 ct26_3 ct26_4 cp26_0 cq26_0 cr26_0 cp26_1 cq26_1 cr26_1 ck26_0 cm26_0 ck26_1 cm26_1 ck26_2 cm26_2; have ct27_0 := T27.cell 0 (v := .int .u8 k) rfl; have ct27_1 := T27.cell 1 (v := .int .i64 x) rfl; have ct27_2 := T27.cell 2 (v := .int .i64 y) rfl; have ct27_3 := T27.cell 3 (v := .int .u8 t) rfl; have ct27_4 := T27.cell 4 (v := .int .i64 z) rfl; have cp27_0 := P27.cell 0 (v := .int .i64 a0) rfl; have cp27_1 := P27.cell 1 (v := .int .i64 b0) rfl; have ck27_0 := K27.cell 0 (v := .complex .f64 p q) rfl; have ck27_1 := K27.cell 1 (v := .bool f1) rfl; have ck27_2 := K27.cell 2 (v := .complex .f64 r s) rfl; have cm27_0 := (own27.cellAt 3 (by omega)).trans e0; have cm27_1 := (own27.cellAt 4 (by omega)).trans e1; have cm27_2 := (own27.cellAt 5 (by omega)).trans e2; have cq27_0 := Q27.cell 0 (v := .int .i64 (fX 1 a0 b0)) rfl; have cq27_1 := Q27.cell 1 (v := .int .i64 (fY 1 a0 b0)) rfl; have cr27_0 := R27.cell 0 (v := .int .i64 (gX 1 a0 b0)) rfl; have cr27_1 := R27.cell 1 (v := .int .i64 (gY 1 a0 b0)) rfl))
            all_goals (
              have lK : W17.heap.size < w20.heap.size := A1_.lt
              have lgm : gm < W17.heap.size := (LMa.lt gm rfl).2
              go_loopw [25] (fun x wr => ∃ (m : Nat) (A B : Int), x = .int .i64 m ∧ JJ tn m A B ∧ Bo wr W17.heap.size 25 #[.int .i64 A, .int .i64 B] ∧ w27.grownBy wr (some W17.heap.size)) (fun x _ => 4000 - (intOf x).toNat)
              case atStart => exact ⟨0, A, B, rfl, hin tn A B (by omega) (by omega) hst, A27, World.grownBy.refl _ _⟩
              case round =>
                clear ct27_0 ct27_1 ct27_2 ct27_3 ct27_4 cp27_0 cq27_0 cr27_0 cp27_1 cq27_1 cr27_1 ck27_0 cm27_0 ck27_1 cm27_1 ck27_2 cm27_2 hst AA
                obtain ⟨m, A, B, rfl, hj, AA, hg2⟩ := hrel
                obtain ⟨nA, nB, hm⟩ := hJ tn m A B hj
                have hm' : (m : Int) < 4000 := by omega
                have T28 := T27.kept hg2 (fun e => by injection e with e; omega)
                have H28 := H27.kept hg2 (fun e => by injection e with e; omega)
                have K28 := K27.kept hg2 (fun e => by injection e with e; omega)
                have own28 := own27.kept hg2 (.inr (fun e => by have e' : some gm = some W17.heap.size := e; injection e' with e'; omega))
                have ct28_0 := T28.cell 0 (v := .int .u8 k) rfl
                have ct28_1 := T28.cell 1 (v := .int .i64 x) rfl
                have ct28_2 := T28.cell 2 (v := .int .i64 y) rfl
                have ct28_3 := T28.cell 3 (v := .int .u8 t) rfl
                have ct28_4 := T28.cell 4 (v := .int .i64 z) rfl
                have ch28_0 := H28.cell 0 (v := .int .i64 (To.fi x)) rfl
                have ch28_1 := H28.cell 1 (v := .int .i64 (To.fi y)) rfl
                have ch28_2 := H28.cell 2 (v := .int .i64 x) rfl
                have ch28_3 := H28.cell 3 (v := .int .i64 y) rfl
                have ck28_0 := K28.cell 0 (v := .complex .f64 p q) rfl
                have ck28_1 := K28.cell 1 (v := .bool f1) rfl
                have ck28_2 := K28.cell 2 (v := .complex .f64 r s) rfl
                have cm28_0 := (own28.cellAt 3 (by omega)).trans e0
                have cm28_1 := (own28.cellAt 4 (by omega)).trans e1
                have cm28_2 := (own28.cellAt 5 (by omega)).trans e2
                have ca28_0 := AA.cell 0 (v := .int .i64 A) rfl
                have ca28_1 := AA.cell 1 (v := .int .i64 B) rfl
                have bA : A.natAbs ≤ 1099511627776 := of_decide_eq_true nA
                have bB : B.natAbs ≤ 1099511627776 := of_decide_eq_true nB
                obtain ⟨vx, wx⟩ : ∃ v, IntKind.i64.wrap (A - To.fi x) = v := ⟨_, rfl⟩
                obtain ⟨vy, wy⟩ : ∃ v, IntKind.i64.wrap (B - To.fi y) = v := ⟨_, rfl⟩
                have evx : Hid (vx = A - To.fi x) := by rw [← wx, IntKind.wrap_i64]; unfold Hid; omega
                have evy : Hid (vy = B - To.fi y) := by rw [← wy, IntKind.wrap_i64]; unfold Hid; omega
                have hco : Hid (coV x y tn A B = vy) := by unfold Hid coV; rw [if_neg (fun q => by omega)]; exact (evy).out.symm
                have hsd : Hid (sdV x y tn = y) := by unfold Hid sdV; rw [if_neg (fun q => by omega)]
                have up : vy < 0 → JJ tn (m + 1) (fX 1 A B) (fY 1 A B) := fun h => by have q := hup tn m A B hj (by rw [hco.out]; exact h); rw [hp] at q; exact q
                have dn : y ≤ vy → JJ tn (m + 1) (gX 1 A B) (gY 1 A B) := fun h => by have q := hdn tn m A B hj (by rw [hco.out, hsd.out]; exact h); rw [hp] at q; exact q
                have ou : 0 ≤ vy → vy < y → ST (tn + 1) A B := fun h h' => hou tn m A B hj (by rw [hco.out]; exact h) (by rw [hco.out, hsd.out]; exact h')
                clear bA bB hj evx evy hco hsd
                obtain ⟨WM, hWM, szM, gM, M0⟩ := boxn wr #[.complex .f64 p q, .bool f1, .complex .f64 r s] 41
                have hgM : w27.grownBy WM (some W17.heap.size) := gb_none hg2 gM
                by_cases v0 : vy < 0
                · have v0' : ¬ 0 ≤ vy := by omega
                  have hj2 := up v0
                  obtain ⟨nU, nV, _⟩ := hJ tn _ _ _ hj2
                  have hAm := hAf A B nA nB nU nV
                  have own29 := own28.kept gM (Classical.em _)
                  have A29 := AA.kept gM (by simp)
                  have cm29_0 := (own29.cellAt 3 (by omega)).trans e0
                  have cm29_1 := (own29.cellAt 4 (by omega)).trans e1
                  have cm29_2 := (own29.cellAt 5 (by omega)).trans e2
                  have cM_0 := M0.cell 0 (v := .complex .f64 p q) rfl
                  have cM_1 := M0.cell 1 (v := .bool f1) rfl
                  have cM_2 := M0.cell 2 (v := .complex .f64 r s) rfl
                  have fM_0 := M0.frozen 0
                  have fM_1 := M0.frozen 1
                  have fM_2 := M0.frozen 2
                  obtain ⟨WN, hWN⟩ : ∃ W, ((WM.setCell ⟨wr.heap.size, 0, none⟩ (.complex .f64 a1 b1)).setCell ⟨wr.heap.size, 1, none⟩ (.bool f1)).setCell ⟨wr.heap.size, 2, none⟩ (.complex .f64 c1 d1) = W := ⟨_, rfl⟩
                  have MN : Bo WN wr.heap.size 41 #[.complex .f64 a1 b1, .bool f1, .complex .f64 c1 d1] := hWN ▸ bo3 M0
                  have gN : WM.grownBy WN (some wr.heap.size) := hWN ▸ gb_set (gb_set (gb_set (World.grownBy.refl _ _) 0 _) 1 _) 2 _
                  have A30 := A29.kept gN (fun e => by injection e with e; have := AA.lt; omega)
                  have hgN : w27.grownBy WN (some W17.heap.size) := gb_row2 hgM gN (.inr ⟨_, rfl, hg2.size⟩)
                  have cN_0 := MN.cell 0 (v := .complex .f64 a1 b1) rfl
                  have cN_1 := MN.cell 1 (v := .bool f1) rfl
                  have cN_2 := MN.cell 2 (v := .complex .f64 c1 d1) rfl
                  have cA30_0 := A30.cell 0 (v := .int .i64 A) rfl
                  have cA30_1 := A30.cell 1 (v := .int .i64 B) rfl
                  go_wp2_with (first | (go_at_call 25; refine (hAm _).mono ?_; rintro e w31 ⟨rfl, g31⟩; have A31 := A30.kept g31 (by simp); have cA31_0 := A31.cell 0 (v := .int .i64 A) rfl; have cA31_1 := A31.cell 1 (v := .int .i64 B) rfl; have fA31_0 := A31.frozen 0; have fA31_1 := A31.frozen 1))
                  refine ⟨⟨m + 1, _, _, by go_num, hj2, bo2 A31, gb_set (gb_set (gb_none hgN g31) 0 _) 1 _⟩, by simp [intOf]; omega⟩
                · have v0' : 0 ≤ vy := by omega
                  by_cases v1 : vy < y
                  · have hst := ou v0' v1
                    go_wp2
                    refine ⟨⟨tn + 1, A, B, by omega, by go_num, hst, AA, gb_rowJ gg27 hg2 (fun i e => by injection e with e; omega)⟩, by simp [intOf]; omega⟩
                  · have hj2 := dn (by omega)
                    obtain ⟨nU, nV, _⟩ := hJ tn _ _ _ hj2
                    have hAm := hAg A B nA nB nU nV
                    have A29 := AA.kept gM (by simp)
                    have cM_0 := M0.cell 0 (v := .complex .f64 p q) rfl
                    have cM_1 := M0.cell 1 (v := .bool f1) rfl
                    have cM_2 := M0.cell 2 (v := .complex .f64 r s) rfl
                    have cA29_0 := A29.cell 0 (v := .int .i64 A) rfl
                    have cA29_1 := A29.cell 1 (v := .int .i64 B) rfl
                    go_wp2_with (first | (go_at_call 25; refine (hAm _).mono ?_; rintro e w31 ⟨rfl, g31⟩; have A31 := A29.kept g31 (by simp); have cA31_0 := A31.cell 0 (v := .int .i64 A) rfl; have cA31_1 := A31.cell 1 (v := .int .i64 B) rfl; have fA31_0 := A31.frozen 0; have fA31_1 := A31.frozen 1))
                    refine ⟨⟨m + 1, _, _, by go_num, hj2, bo2 A31, gb_set (gb_set (gb_none hgM g31) 0 _) 1 _⟩, by simp [intOf]; omega⟩
            )

        · have hin' : (n : Int) ≤ 1 := by omega
          have hst' := hsk tn A B (by omega) hst
          go_wp2
          refine ⟨⟨tn + 1, A, B, by omega, by go_num, hst', AA, hg⟩, by simp [intOf]; omega⟩
    · obtain rfl : tn = 3 := by omega
      obtain ⟨rfl, rfl⟩ := hfin A B hst
      have C0 := B12xxxxx.kept hg (by simp)
      have cc_0 := C0.cell 0 (v := .int .i64 A) rfl
      have cc_1 := C0.cell 1 (v := .int .i64 B) rfl
      have ca_0 := AA.cell 0 (v := .int .i64 A) rfl
      have ca_1 := AA.cell 1 (v := .int .i64 B) rfl
      go_wp2
      go_ret
      exact ⟨rfl, gb_trans G17 hg⟩
end Go.Proofs.Ytgiiaokkmnjckaa
