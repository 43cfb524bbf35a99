/- packed.Run: a field n generations later. -/
import Derived.Test.YthjiiljglgmkpaaGreatDoorP4
import Derived.Test.YthjiiljglgmkpaaGreatDoorK30
namespace Go.Proofs.YthjiiljglgmkpaaGreatDoor.Pd
open Go.RowKit
set_option linter.unusedVariables false
set_option linter.unusedSimpArgs false
set_option maxRecDepth 100000

/-- The blocks of a field of bits. -/
def LQ (b2 s3 : Nat) (q3 : Nat × (Nat → Nat)) (R i : Nat) : Prop := i = b2 ∨ i = s3 ∨ i = q3.1 ∨ ∃ j, j < R ∧ i = q3.2 j
/-- The rows of a grid and its ring. -/
def PR (k t z : Int) (C R : Nat) (g : Nat → Nat) (i j : Nat) : Bool := decide (j < C + 2) && lvB (frV k t z C R g (i * (C + 2) + j))
/-- The cells j generations later. -/
def itG (ho bo st : Nat) (k t z : Int) (C R : Nat) (g : Nat → Nat) : Nat → Nat → Nat
  | 0 => g
  | j + 1 => nxG ho bo st C (PR k t z C R (itG ho bo st k t z C R g j))
theorem pr_may (k t z : Int) (C R : Nat) (hC : C ≤ 65536) (g : Nat → Nat) (i : Nat) : MayBe (C + 2) (nwN (C + 2)) (PR k t z C R g i) := ⟨by omega, rfl, fun j hj => by unfold PR; rw [decide_eq_false (by omega)]; rfl⟩
theorem nxG_le (ho bo st C : Nat) (P : Nat → Nat → Bool) (j : Nat) : nxG ho bo st C P j < 2 := oneB_le _
theorem it_256 (ho bo st : Nat) (k t z : Int) (C R : Nat) {g : Nat → Nat} (h : ∀ i, g i < 256) : ∀ j i, itG ho bo st k t z C R g j i < 256
  | 0, i => h i
  | j + 1, i => Nat.lt_of_lt_of_le (nxG_le _ _ _ _ _ _) (by decide)
/-- ring.Rows of a grid, as a list of rows. -/
theorem rowsR {k t z : Int} {C R : Nat} (G : Gr k t z C R) (hall : C * R ≤ 1048576) {M : World → Prop} {n0 b S : Nat} {g : Nat → Nat} (F : FdM M n0 b C R S g) (h256 : ∀ i, g i < 256) (hS : S ≤ 2) (w : World) (hn0 : n0 ≤ w.heap.size) (hM : M w) :
    Calls Tryz.prog 28 #[.agg #[.int .u8 k, .int .i64 (C : Nat), .int .i64 (R : Nat), .int .u8 t, .int .i64 z], .pointer (some ⟨b, 0, none⟩)] w fun e w' => ∃ rb wb, e = .returned (.tuple #[.slice (some ⟨rb, 0, none⟩) (R + 2) (R + 2), .int .i64 0]) ∧ Rw w' rb (R + 2) (C + 2) (nwN (C + 2)) wb (PR k t z C R g) ∧ (w.heap.size ≤ rb ∧ ∀ i, i < R + 2 → w.heap.size ≤ wb i) ∧ w.grownBy w' none := by
  refine (rowsY G hall F h256 hS w hn0 hM).mono ?_
  rintro e w' ⟨rb, wb, he, hr, l1, hw, _, hg⟩
  refine ⟨rb, wb, he, ⟨fun i hi => ?_, fun i hi => ?_, fun i hi => (hw i hi).2.2⟩, ⟨l1, fun i hi => (hw i hi).1⟩, hg⟩
  · have := hr.cell (show i * 2 < 2 * (R + 2) by omega)
    rw [this]; unfold rwC; rw [if_pos (by omega), if_pos (by omega)]
  · have := hr.cell (show i * 2 + 1 < 2 * (R + 2) by omega)
    rw [this]; unfold rwC; rw [if_pos (by omega), if_neg (by omega), show (i * 2 + 1) / 2 = i by omega]
theorem bgE_zero {ho bo st : Nat} {k x y t z n : Int} {C R S : Nat} (h : bgE ho bo st k x y t z C R S n = 0) : Lf.ck ho bo st = 0 ∧ rwE k x y t z C R S = 0 ∧ 0 ≤ n ∧ n ≤ 1125899906842624 ∧ n ≤ (67108864 : Int) / ((C * R : Nat) : Int) := by
  unfold bgE at h
  by_cases h1 : Lf.ck ho bo st = 0
  · rw [if_neg (by simp [h1])] at h
    by_cases h2 : rwE k x y t z C R S = 9
    · rw [if_pos h2] at h; cases h
    · rw [if_neg h2] at h
      by_cases h3 : n < 0
      · rw [if_pos h3] at h; cases h
      · rw [if_neg h3] at h
        by_cases h4 : 1125899906842624 < n
        · rw [if_pos h4] at h; cases h
        · rw [if_neg h4] at h
          by_cases h5 : rwE k x y t z C R S = 0
          · rw [if_neg (by simp [h5])] at h
            by_cases h6 : (67108864 : Int) / ((C * R : Nat) : Int) < n
            · rw [if_pos h6] at h; cases h
            · exact ⟨h1, h5, by omega, by omega, by omega⟩
          · rw [if_pos h5] at h; exact absurd h h5
  · rw [if_pos h1] at h; cases h
set_option maxHeartbeats 4000000 in
/-- Where nothing is wrong. -/
theorem beginY {M : World → Prop} {n0 b C R S : Nat} {g : Nat → Nat} (F : FdM M n0 b C R S g) (hz : Sz C R S) (h256 : ∀ i, g i < 256) (ho bo st : Nat) (hh : ho < 256) (hb : bo < 65536) (hs : st < 65536) (k t z n : Int) (ht : 0 ≤ t) (w : World) (hn0 : n0 ≤ w.heap.size) (hM : M w) (hv : Hid (Hv w)) (hE : bgE ho bo st k C R t z C R S n = 0) :
    Calls Tryz.prog 25 #[.agg #[.int .u8 (ho : Nat), .int .u16 (bo : Nat), .int .u16 (st : Nat)], .agg #[.int .u8 k, .int .i64 (C : Nat), .int .i64 (R : Nat), .int .u8 t, .int .i64 z], .pointer (some ⟨b, 0, none⟩), .int .i64 n] w fun e w' => ∃ rb wb, e = .returned (.tuple #[.slice (some ⟨rb, 0, none⟩) (R + 2) (R + 2), .int .i64 0]) ∧ Rw w' rb (R + 2) (C + 2) (nwN (C + 2)) wb (PR k t z C R g) ∧ (w.heap.size ≤ rb ∧ ∀ i, i < R + 2 → w.heap.size ≤ wb i) ∧ w.grownBy w' none := by
  obtain ⟨W1, hW1, sz1, g1, B1⟩ := boxn w #[.int .u8 (ho : Nat), .int .u16 (bo : Nat), .int .u16 (st : Nat)] 28
  obtain ⟨W2, hW2, sz2, g2, B2⟩ := boxn W1 #[.int .u8 k, .int .i64 (C : Nat), .int .i64 (R : Nat), .int .u8 t, .int .i64 z] 30
  have G2 := gb_trans g1 g2
  have kW := F.wide W2 (F.grown hM G2)
  have hC0 : ¬ (C : Int) = 0 := by have := hz.c0; omega
  have hC1 : ((C : Int) == 0) = false := by simpa using hC0
  obtain ⟨e1, e2, e3, e4, e5⟩ := bgE_zero hE
  obtain ⟨e6, e7⟩ := rwE_zero e2
  obtain ⟨_, _, G⟩ := cgE_zero ht hz.c0 hz.r0 e6
  have hck := fun v hv => lifeCk ho bo st hh hb hs v hv
  rw [e1] at hck
  have hrow := fun v (hg : w.grownBy v none) => rowsR G hz.all F h256 (by omega) v (Nat.le_trans hn0 hg.size) (F.grown hM hg)
  have hcr1 : C * R ≤ 1048576 := hz.all
  have hcr0 : 0 < C * R := Nat.mul_pos hz.c0 hz.r0
  have hn1 : ¬ n < 0 := by omega
  have hn2 : ¬ 1125899906842624 < n := by omega
  obtain ⟨cr, hcr⟩ : ∃ cr, C * R = cr := ⟨_, rfl⟩
  rw [hcr] at e5 hcr0 hcr1
  have hmul : IntKind.i64.wrap ((C : Int) * (R : Int)) = (cr : Int) := by rw [← Int.natCast_mul, hcr, IntKind.wrap_i64]; omega
  have hcn : ¬ (cr : Int) = 0 := by omega
  have hcn1 : (cr : Int) ≠ 0 := hcn
  have hcp : (0 : Int) < (cr : Int) := by omega
  have hcl : (cr : Int) ≤ 1048576 := by omega
  have h6 : ¬ (67108864 : Int) / (cr : Int) < n := by omega
  clear hcr hE e1 e2 e3 e4 e5 e6 e7 F h256 hM hn0 G
  go_enter Tryz.func25, Tryz.ntmps25
  go_wp2_with (first | (go_at_call 42; refine kW.mono ?_; rintro e V3 ⟨rfl, g3⟩; have L3 := (B1.kept g2 (by simp)).kept g3 (by simp); have l0 := L3.cell 0 (v := .int .u8 (ho : Nat)) rfl; have l1 := L3.cell 1 (v := .int .u16 (bo : Nat)) rfl; have l2 := L3.cell 2 (v := .int .u16 (st : Nat)) rfl; have kC := hck V3 (hvK (hvK hv G2) g3)) | (go_at_call 30; refine kC.mono ?_; rintro e V4 ⟨rfl, g4⟩; have T4 := (B2.kept g3 (by simp)).kept g4 (by simp); have t0 := T4.cell 0 (v := .int .u8 k) rfl; have t1 := T4.cell 1 (v := .int .i64 (C : Nat)) rfl; have t2 := T4.cell 2 (v := .int .i64 (R : Nat)) rfl; have t3 := T4.cell 3 (v := .int .u8 t) rfl; have t4 := T4.cell 4 (v := .int .i64 z) rfl; have kR := hrow V4 (gb_trans G2 (gb_trans g3 g4))) | (go_at_call 28; refine kR.mono ?_; rintro e V5 ⟨rb, wb, rfl, rw5, lb5, g5⟩; have HRw : Hid (Rw V5 rb (R + 2) (C + 2) (nwN (C + 2)) wb (PR k t z C R g)) := rw5; have Hlb : Hid (V4.heap.size ≤ rb ∧ ∀ i, i < R + 2 → V4.heap.size ≤ wb i) := lb5; clear rw5 lb5; have T5 := T4.kept g5 (by simp); have q0 := T5.cell 0 (v := .int .u8 k) rfl; have q1 := T5.cell 1 (v := .int .i64 (C : Nat)) rfl; have q2 := T5.cell 2 (v := .int .i64 (R : Nat)) rfl; have q3 := T5.cell 3 (v := .int .u8 t) rfl; have q4 := T5.cell 4 (v := .int .i64 z) rfl))
  go_ret2
  have s5 := (gb_trans G2 (gb_trans g3 g4)).size
  exact ⟨rb, wb, rfl, HRw.out, ⟨by have := Hlb.out.1; omega, fun i hi => by have := Hlb.out.2 i hi; omega⟩, gb_trans G2 (gb_trans g3 (gb_trans g4 g5))⟩
set_option maxHeartbeats 4000000 in
theorem runNone (ho bo st k x y t z n : Int) (p : Option Addr) (w : World) (hp : Nf w p) :
    Calls Tryz.prog 8 #[.agg #[.int .u8 (ho), .int .u16 (bo), .int .u16 (st)], .agg #[.int .u8 k, .int .i64 x, .int .i64 y, .int .u8 t, .int .i64 z], .pointer p, .int .i64 n] w fun e w' => e = .returned (.tuple #[.pointer none, .int .i64 1]) ∧ w.grownBy w' none := by
  obtain ⟨W1, hW1, sz1, g1, B1⟩ := boxn w #[.int .u8 (ho), .int .u16 (bo), .int .u16 (st)] 28
  obtain ⟨W2, hW2, sz2, g2, B2⟩ := boxn W1 #[.int .u8 k, .int .i64 x, .int .i64 y, .int .u8 t, .int .i64 z] 30
  have hp2 : Nf W2 p := by
    rcases hp with h | ⟨b, h, B⟩
    · exact .inl h
    · exact .inr ⟨b, h, (B.kept g1 (by simp)).kept g2 (by simp)⟩
  have kB := beginNone ho bo st k x y t z n p W2 hp2
  have L2 := B1.kept g2 (by simp)
  have l0 := L2.cell 0 (v := .int .u8 (ho)) rfl
  have l1 := L2.cell 1 (v := .int .u16 (bo)) rfl
  have l2 := L2.cell 2 (v := .int .u16 (st)) rfl
  have t0 := B2.cell 0 (v := .int .u8 k) rfl
  have t1 := B2.cell 1 (v := .int .i64 x) rfl
  have t2 := B2.cell 2 (v := .int .i64 y) rfl
  have t3 := B2.cell 3 (v := .int .u8 t) rfl
  have t4 := B2.cell 4 (v := .int .i64 z) rfl
  clear hp hp2
  go_enter Tryz.func8, Tryz.ntmps8
  go_wp2_with (first | (go_at_call 25; refine kB.mono ?_; rintro e V3 ⟨rfl, g3⟩))
  go_ret2
  exact ⟨rfl, gb_trans g1 (gb_trans g2 g3)⟩
set_option maxHeartbeats 4000000 in
theorem runN {M : World → Prop} {n0 b C R S : Nat} {g : Nat → Nat} (F : FdM M n0 b C R S g) (hz : Sz C R S) (h256 : ∀ i, g i < 256) (ho bo st : Nat) (hh : ho < 256) (hb : bo < 65536) (hs : st < 65536) (k x y t z n : Int) (ht : 0 ≤ t) (w : World) (hn0 : n0 ≤ w.heap.size) (hM : M w) (hv : Hid (Hv w)) (hE : ¬ bgE ho bo st k x y t z C R S n = 0) :
    Calls Tryz.prog 8 #[.agg #[.int .u8 (ho : Nat), .int .u16 (bo : Nat), .int .u16 (st : Nat)], .agg #[.int .u8 k, .int .i64 x, .int .i64 y, .int .u8 t, .int .i64 z], .pointer (some ⟨b, 0, none⟩), .int .i64 n] w fun e w' => e = .returned (.tuple #[.pointer none, .int .i64 (bgE ho bo st k x y t z C R S n)]) ∧ w.grownBy w' none := by
  obtain ⟨W1, hW1, sz1, g1, B1⟩ := boxn w #[.int .u8 (ho : Nat), .int .u16 (bo : Nat), .int .u16 (st : Nat)] 28
  obtain ⟨W2, hW2, sz2, g2, B2⟩ := boxn W1 #[.int .u8 k, .int .i64 x, .int .i64 y, .int .u8 t, .int .i64 z] 30
  have G2 := gb_trans g1 g2
  have kB := beginN F hz h256 ho bo st hh hb hs k x y t z n ht W2 (Nat.le_trans hn0 G2.size) (F.grown hM G2) (hvK hv G2) hE
  generalize bgE ho bo st k x y t z C R S n = E at kB hE ⊢
  have hE1 : (E != 0) = true := by simpa using hE
  have L2 := B1.kept g2 (by simp)
  have l0 := L2.cell 0 (v := .int .u8 (ho : Nat)) rfl
  have l1 := L2.cell 1 (v := .int .u16 (bo : Nat)) rfl
  have l2 := L2.cell 2 (v := .int .u16 (st : Nat)) rfl
  have t0 := B2.cell 0 (v := .int .u8 k) rfl
  have t1 := B2.cell 1 (v := .int .i64 x) rfl
  have t2 := B2.cell 2 (v := .int .i64 y) rfl
  have t3 := B2.cell 3 (v := .int .u8 t) rfl
  have t4 := B2.cell 4 (v := .int .i64 z) rfl
  clear F h256 hM hn0
  go_enter Tryz.func8, Tryz.ntmps8
  go_wp2_with (first | (go_at_call 25; refine kB.mono ?_; rintro e V3 ⟨rfl, g3⟩))
  go_ret2
  exact ⟨rfl, gb_trans G2 g3⟩
set_option maxHeartbeats 4000000 in
theorem runY {M : (Nat → Nat) → World → Prop} {L : Nat → Prop} {b C R S : Nat} {pk : Bool} (F : FdX M L b C R S pk) (hz : Sz C R S) (g : Nat → Nat) (h256 : ∀ i, g i < 256) (ho bo st : Nat) (hh : ho < 256) (hb : bo < 65536) (hs : st < 65536) (k t z n : Int) (ht : 0 ≤ t) (w : World) (hM : M g w) (hv : Hid (Hv w)) (hT : Wo.Tab64 w) (hE : bgE ho bo st k C R t z C R S n = 0) (hCl : ∀ v, w.grownBy v none → Calls Tryz.prog 26 #[.pointer (some ⟨b, 0, none⟩)] v fun e v' => ∃ b2, e = .returned (.pointer (some ⟨b2, 0, none⟩)) ∧ v.heap.size ≤ b2 ∧ v.grownBy v' none ∧ Calls Tryz.prog 27 #[.pointer (some ⟨b2, 0, none⟩), .bool true] v' (fun e v3 => e = .returned (.int .i64 0) ∧ ∃ s3 q3, Tt.Fb v3 b2 s3 q3 C R 2 g ∧ (∀ i, LQ b2 s3 q3 R i → v.heap.size ≤ i) ∧ v'.grownBy v3 (some b2))) :
    Calls Tryz.prog 8 #[.agg #[.int .u8 (ho : Nat), .int .u16 (bo : Nat), .int .u16 (st : Nat)], .agg #[.int .u8 k, .int .i64 (C : Nat), .int .i64 (R : Nat), .int .u8 t, .int .i64 z], .pointer (some ⟨b, 0, none⟩), .int .i64 n] w fun e w' => ∃ b2, e = .returned (.tuple #[.pointer (some ⟨b2, 0, none⟩), .int .i64 0]) ∧ ∃ s3 q3, Tt.Fb w' b2 s3 q3 C R 2 (itG ho bo st k t z C R g n.toNat) ∧ (∀ i, LQ b2 s3 q3 R i → w.heap.size ≤ i) ∧ w.grownBy w' none := by
  obtain ⟨W1, hW1, sz1, g1, B1⟩ := boxn w #[.int .u8 (ho : Nat), .int .u16 (bo : Nat), .int .u16 (st : Nat)] 28
  obtain ⟨W2, hW2, sz2, g2, B2⟩ := boxn W1 #[.int .u8 k, .int .i64 (C : Nat), .int .i64 (R : Nat), .int .u8 t, .int .i64 z] 30
  have G2 := gb_trans g1 g2
  obtain ⟨e1, e2, e3, e4, e5⟩ := bgE_zero hE
  obtain ⟨e6, e7⟩ := rwE_zero e2
  obtain ⟨_, _, G⟩ := cgE_zero ht hz.c0 hz.r0 e6
  have kB := beginY (F.fdm g w.heap.size (F.lts g w hM)) hz h256 ho bo st hh hb hs k t z n ht W2 G2.size (F.grown hM G2) (hvK hv G2) hE
  obtain ⟨m, rfl⟩ : ∃ m : Nat, n = (m : Int) := ⟨n.toNat, by omega⟩
  have hm : (m : Int) ≤ 1125899906842624 := e4
  have hck3 : 1 ≤ ho ∧ ho ≤ 3 := by
    by_cases h1 : 1 ≤ ho ∧ ho ≤ 3
    · exact h1
    · rw [Lf.ck_hood h1] at e1; cases e1
  have L2 := B1.kept g2 (by simp)
  have l0 := L2.cell 0 (v := .int .u8 (ho : Nat)) rfl
  have l1 := L2.cell 1 (v := .int .u16 (bo : Nat)) rfl
  have l2 := L2.cell 2 (v := .int .u16 (st : Nat)) rfl
  have t0 := B2.cell 0 (v := .int .u8 k) rfl
  have t1 := B2.cell 1 (v := .int .i64 (C : Nat)) rfl
  have t2 := B2.cell 2 (v := .int .i64 (R : Nat)) rfl
  have t3 := B2.cell 3 (v := .int .u8 t) rfl
  have t4 := B2.cell 4 (v := .int .i64 z) rfl
  have tlt : 1 < w.heap.size := cell_lt (hT 0 (by decide))
  have HTb : Hid (Wo.Tab64 w) := hT
  have HGr : Hid (Gr k t z C R) := G
  have Hz : Hid (Sz C R S) := hz
  have HZ2 : Hid (Sz C R 2) := ⟨hz.c0, hz.c1, hz.r0, hz.r1, by decide, by decide, hz.all⟩
  have H256 : Hid (∀ i, g i < 256) := h256
  rw [Int.toNat_natCast]
  clear F h256 hM e1 e2 e3 e4 e5 e6 e7 G hE hz hv hT
  go_enter Tryz.func8, Tryz.ntmps8
  go_wp2_with (first | (go_at_call 25; refine kB.mono ?_; rintro e V3 ⟨rb, wb, rfl, rw3, lb3, g3⟩; clear kB; have HRw : Hid (Rw V3 rb (R + 2) (C + 2) (nwN (C + 2)) wb (PR k t z C R g)) := rw3; have Hlb : Hid (W2.heap.size ≤ rb ∧ ∀ i, i < R + 2 → W2.heap.size ≤ wb i) := lb3; clear rw3 lb3; have G3 := gb_trans G2 g3; have kC := hCl V3 G3; clear hCl) | (go_at_call 26; refine kC.mono ?_; rintro e V4 ⟨b2, rfl, lb2, g4, kP⟩; clear kC) | (go_at_call 27; refine kP.mono ?_; rintro e V5 ⟨rfl, s3, q3, hM5, hL5, g5⟩; clear kP))
  obtain ⟨M', hM'⟩ : ∃ M' : (Nat → Nat) → World → Prop, M' = fun g X => Tt.Fb X b2 s3 q3 C R 2 g := ⟨_, rfl⟩
  obtain ⟨L', hL'⟩ : ∃ L' : Nat → Prop, L' = LQ b2 s3 q3 R := ⟨_, rfl⟩
  have HM' : Hid (M' = fun g X => Tt.Fb X b2 s3 q3 C R 2 g) := hM'
  have HLq : Hid (L' = LQ b2 s3 q3 R) := hL'
  have F' : FdX M' L' b2 C R 2 true := by rw [hM', hL']; exact Tt.Fb.fdx HZ2.out
  have hM5 : M' g V5 := by rw [hM']; exact hM5
  have hL5 : ∀ i, L' i → V3.heap.size ≤ i := by rw [hL']; exact hL5
  clear hM' hL'
  have HF : Hid (FdX M' L' b2 C R 2 true) := F'
  have HL' : Hid (∀ i, L' i → V3.heap.size ≤ i) := hL5
  have G4 := gb_trans G3 g4
  have G5 : w.grownBy V5 none := gb_past G4 g5 (by have := G3.size; omega)
  have sg3 := G3.size
  have sw1 : w.heap.size < W1.heap.size := by have := sz1.out; omega
  have sw2 : W1.heap.size < W2.heap.size := by have := sz2.out; omega
  have s23 := g3.size
  have BL5 := ((L2.kept g3 (by simp)).kept g4 (by simp)).kept g5 (fun e => by have e := Option.some.inj e; omega)
  have BT5 := ((B2.kept g3 (by simp)).kept g4 (by simp)).kept g5 (fun e => by have e := Option.some.inj e; omega)
  have hrbl : rb < V3.heap.size := cell_lt (HRw.out.n_ 0 (by omega))
  have HRw5 : Hid (Rw V5 rb (R + 2) (C + 2) (nwN (C + 2)) wb (PR k t z C R g)) := (HRw.out.gx (L := fun i => i = b2) (gx_none g4) (by omega) (fun i hi => by have := (HRw.out.w_ i hi).lt; omega)).gx (L := fun i => i = b2) (Gx.of g5 (fun i e => (Option.some.inj e).symm)) (by omega) (fun i hi => by have := (HRw.out.w_ i hi).lt; omega)
  have HwL : Hid (∀ i, i < R + 2 → wb i < V3.heap.size) := fun i hi => (HRw.out.w_ i hi).lt
  have HM5 : Hid (M' g V5) := hM5
  have HG5 : Hid (w.grownBy V5 none) := G5
  have HGx : Hid (∀ X, Gx L' V5 X → w.grownBy X none) := fun X h => h.past G5 (fun i hi => by have := hL5 i hi; omega)
  clear HRw Hlb L2 B1 B2 g3 g4 g5 g1 g2 G2 G3 G4 G5 hM5 hL5 F' lb2 sz1 sz2 l0 l1 l2 t0 t1 t2 t3 t4
  go_loopw [30, 10] (fun i rv wr => ∃ j : Nat, j ≤ m ∧ i = .int .i64 (j : Nat) ∧ Hid (j = 0 → rv = .slice (some ⟨rb, 0, none⟩) (R + 2) (R + 2) ∧ Rw wr rb (R + 2) (C + 2) (nwN (C + 2)) wb (PR k t z C R g)) ∧ Hid (M' (itG ho bo st k t z C R g j) wr) ∧ Hid (Gx L' V5 wr) ∧ Bo wr w.heap.size 28 #[.int .u8 (ho : Nat), .int .u16 (bo : Nat), .int .u16 (st : Nat)] ∧ Bo wr W1.heap.size 30 #[.int .u8 k, .int .i64 (C : Nat), .int .i64 (R : Nat), .int .u8 t, .int .i64 z]) (fun i _ _ => m - (intOf i).toNat)
  case atStart => exact ⟨0, Nat.zero_le _, rfl, fun _ => ⟨rfl, HRw5.out⟩, HM5.out, gx_none (World.grownBy.refl _ _), BL5, BT5⟩
  case round =>
    clear HRw5 HM5 BL5 BT5
    obtain ⟨j, hj, rfl, HR0, HM, HG, BL, BT⟩ := hrel
    obtain ⟨U, hU⟩ : ∃ U, U = wr := ⟨_, rfl⟩
    subst hU
    have l0 := BL.cell 0 (v := .int .u8 (ho : Nat)) rfl
    have l1 := BL.cell 1 (v := .int .u16 (bo : Nat)) rfl
    have l2 := BL.cell 2 (v := .int .u16 (st : Nat)) rfl
    have t0 := BT.cell 0 (v := .int .u8 k) rfl
    have t1 := BT.cell 1 (v := .int .i64 (C : Nat)) rfl
    have t2 := BT.cell 2 (v := .int .i64 (R : Nat)) rfl
    have t3 := BT.cell 3 (v := .int .u8 t) rfl
    have t4 := BT.cell 4 (v := .int .i64 z) rfl
    have HTU : Hid (Wo.Tab64 U) := tab_gx (HTb.out.below (gb_below HG5.out) tlt) HG.out (fun h => by have := HL'.out _ h; omega)
    have hl1 : ¬ L' w.heap.size := fun h => by have := HL'.out _ h; omega
    have hl2 : ¬ L' W1.heap.size := fun h => by have := HL'.out _ h; omega
    have hl3 : ¬ L' 1 := fun h => by have := HL'.out _ h; omega
    by_cases hlt : j < m
    · have hlt' : (j : Int) < (m : Int) := by omega
      by_cases h0 : j = 0
      · subst h0
        obtain ⟨hrv, rwU⟩ := HR0.out rfl
        subst hrv
        have kY := layC HF.out Hz.out.c0 Hz.out.c1 Hz.out.r1 ho bo st hck3 hb hs rb (R + 2) (nwN (C + 2)) wb (PR k t z C R g) (fun i _ => pr_may k t z C R Hz.out.c1 g i) _ U HM.out HTU.out hl3 rwU (fun h => by have := HL'.out _ h; omega) (fun i hi h => by have := HL'.out _ h; have := HwL.out i hi; omega)
        clear HR0 rwU
        go_wp2_with (first | (go_at_call 29; refine kY.mono ?_; rintro e U2 ⟨rfl, M2, X2⟩; clear kY))
        have BL2 := X2.bo BL hl1
        have BT2 := X2.bo BT hl2
        have HM2 : Hid (M' (itG ho bo st k t z C R g 1) U2) := M2
        have HG2 : Hid (Gx L' V5 U2) := HG.out.trans X2
        clear M2 X2 BL BT HM HG
        go_roundw
        case rel => exact ⟨1, by omega, rfl, (fun h => by cases h), HM2.out, HG2.out, BL2, BT2⟩
        case measure => simp [intOf]; omega
      · have h0' : (0 : Int) < (j : Int) := by omega
        have kR := rowsR HGr.out Hz.out.all (HF.out.fdm _ U.heap.size (HF.out.lts _ U HM.out)) (it_256 ho bo st k t z C R H256.out j) (Nat.le_refl 2) U (Nat.le_refl _) HM.out
        have Hlts : Hid (∀ i, L' i → i < U.heap.size) := HF.out.lts _ U HM.out
        have kY := fun rb' wb' U2 (gU : U.grownBy U2 none) (h1 : Rw U2 rb' (R + 2) (C + 2) (nwN (C + 2)) wb' (PR k t z C R (itG ho bo st k t z C R g j))) (h2 : U.heap.size ≤ rb' ∧ ∀ i, i < R + 2 → U.heap.size ≤ wb' i) => layC HF.out Hz.out.c0 Hz.out.c1 Hz.out.r1 ho bo st hck3 hb hs rb' (R + 2) (nwN (C + 2)) wb' _ (fun i _ => pr_may k t z C R Hz.out.c1 _ i) _ U2 (HF.out.grown HM.out gU) (tab_gx HTU.out (gx_none gU) hl3) hl3 h1 (fun h => by have := Hlts.out _ h; omega) (fun i hi h => by have := Hlts.out _ h; have := h2.2 i hi; omega)
        clear HR0
        go_wp2_with (first | (go_at_call 28; refine kR.mono ?_; rintro e U2 ⟨rb', wb', rfl, rw2, lb2', gU⟩; clear kR; have kY2 := kY rb' wb' U2 gU rw2 lb2'; clear kY rw2 lb2'; have BLu := BL.kept gU (by simp); have y0 := BLu.cell 0 (v := .int .u8 (ho : Nat)) rfl; have y1 := BLu.cell 1 (v := .int .u16 (bo : Nat)) rfl; have y2 := BLu.cell 2 (v := .int .u16 (st : Nat)) rfl) | (go_at_call 29; refine kY2.mono ?_; rintro e U3 ⟨rfl, M2, X2⟩; clear kY2))
        have X3 : Gx L' U U3 := (gx_none gU).trans X2
        have BL2 := X3.bo BL hl1
        have BT2 := X3.bo BT hl2
        have HM2 : Hid (M' (itG ho bo st k t z C R g (j + 1)) U3) := M2
        have HG2 : Hid (Gx L' V5 U3) := HG.out.trans X3
        clear M2 X2 X3 BL BT HM HG
        go_roundw
        case rel => exact ⟨j + 1, by omega, by go_num, (fun h => by omega), HM2.out, HG2.out, BL2, BT2⟩
        case measure => simp [intOf]; omega
    · obtain rfl : j = m := by omega
      have hlt' : ¬ (j : Int) < (j : Int) := by omega
      clear HR0
      go_wp2
      go_ret2
      exact ⟨b2, rfl, s3, q3.1, q3.2, (by have e9 := HM.out; rw [HM'.out] at e9; exact e9), (fun i hi => by have e8 : L' i := (by rw [HLq.out]; exact hi); have := HL'.out i e8; omega), HGx.out _ HG.out⟩
end Go.Proofs.YthjiiljglgmkpaaGreatDoor.Pd
