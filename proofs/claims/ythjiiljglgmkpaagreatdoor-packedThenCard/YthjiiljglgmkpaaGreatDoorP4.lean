/- packed.begin: the rows of a grid that can be run, or why it can't. -/
import Derived.Test.YthjiiljglgmkpaaGreatDoorP3
import Derived.Test.YthjiiljglgmkpaaGreatDoorKc
import Derived.Test.YthjiiljglgmkpaaGreatDoorLc
namespace Go.Proofs.YthjiiljglgmkpaaGreatDoor.Pd
open Go.RowKit
set_option linter.unusedVariables false
set_option linter.unusedSimpArgs false
set_option maxRecDepth 100000

/-- What ring.Rows tells. -/
def rwE (k x y t z : Int) (C R S : Nat) : Int := if ¬ cgE k x y t z C R = 0 then cgE k x y t z C R else if 2 < S then 132 else 0
/-- What is wrong with a run. -/
def bgE (ho bo st : Nat) (k x y t z : Int) (C R S : Nat) (n : Int) : Int := if ¬ Lf.ck ho bo st = 0 then 8 else if rwE k x y t z C R S = 9 then 9 else if n < 0 then 2 else if 1125899906842624 < n then 5 else if ¬ rwE k x y t z C R S = 0 then rwE k x y t z C R S else if (67108864 : Int) / ((C * R : Nat) : Int) < n then 4 else 0
theorem rwE_zero {k x y t z : Int} {C R S : Nat} (h : rwE k x y t z C R S = 0) : cgE k x y t z C R = 0 ∧ ¬ 2 < S := by
  unfold rwE at h
  by_cases h1 : cgE k x y t z C R = 0
  · rw [if_neg (by simp [h1])] at h
    refine ⟨h1, fun h2 => ?_⟩
    rw [if_pos h2] at h
    cases h
  · rw [if_pos h1] at h
    exact absurd h h1
theorem cgE_zero {k x y t z : Int} {C R : Nat} (ht : 0 ≤ t) (hC : 0 < C) (hR : 0 < R) (h : cgE k x y t z C R = 0) : x = C ∧ y = R ∧ Gr k t z C R := by
  unfold cgE at h
  by_cases h1 : Tp.chk k x y t z = 0
  · rw [if_neg (by simp [h1])] at h
    by_cases h2 : x = 0 ∨ y = 0
    · rw [if_pos h2] at h; cases h
    · rw [if_neg h2] at h
      by_cases h3 : x = C ∧ y = R
      · exact ⟨h3.1, h3.2, by rw [← h3.1, ← h3.2]; exact h1, ht, hC, hR⟩
      · rw [if_pos h3] at h; cases h
  · rw [if_pos h1] at h; cases h
/-- ring.Rows of every topology: its error, and rows or none. -/
theorem rowsAny {M : World → Prop} {n0 b C R S : Nat} {g : Nat → Nat} (F : FdM M n0 b C R S g) (hz : Sz C R S) (h256 : ∀ i, g i < 256) (k x y t z : Int) (ht : 0 ≤ t) (w : World) (hn0 : n0 ≤ w.heap.size) (hM : M w) :
    Calls Tryz.prog 28 #[.agg #[.int .u8 k, .int .i64 x, .int .i64 y, .int .u8 t, .int .i64 z], .pointer (some ⟨b, 0, none⟩)] w fun e w' => ∃ v, e = .returned (.tuple #[v, .int .i64 (rwE k x y t z C R S)]) ∧ w.grownBy w' none := by
  unfold rwE
  by_cases h1 : cgE k x y t z C R = 0
  · rw [if_neg (by simp [h1])]
    obtain ⟨rfl, rfl, G⟩ := cgE_zero ht hz.c0 hz.r0 h1
    by_cases h2 : 2 < S
    · rw [if_pos h2]
      exact (rowsP G F h2 w hM).mono (fun e w' h => ⟨_, h.1, h.2⟩)
    · rw [if_neg h2]
      refine (rowsY G hz.all F h256 (by omega) w hn0 hM).mono ?_
      rintro e w' ⟨rb, wb, he, _, _, _, _, hg⟩
      exact ⟨_, he, hg⟩
  · rw [if_pos h1]
    exact (rowsX k x y t z _ _ w (by simpa using h1) (fun w' hg => checkGridC F hz.c0 k x y t z ht w' (F.grown hM hg))).mono (fun e w' h => ⟨_, h.1, h.2⟩)
set_option maxHeartbeats 2000000 in
/-- A field that is none. -/
theorem beginNone (ho bo st k x y t z n : Int) (p : Option Addr) (w : World) (hp : Nf w p) :
    Calls Tryz.prog 25 #[.agg #[.int .u8 (ho), .int .u16 (bo), .int .u16 (st)], .agg #[.int .u8 k, .int .i64 x, .int .i64 y, .int .u8 t, .int .i64 z], .pointer p, .int .i64 n] w fun e w' => e = .returned (.tuple #[.slice none 0 0, .int .i64 1]) ∧ w.grownBy w' none := by
  obtain ⟨W1, hW1, sz1, g1, B1⟩ := boxn w #[.int .u8 (ho), .int .u16 (bo), .int .u16 (st)] 28
  obtain ⟨W2, hW2, sz2, g2, B2⟩ := boxn W1 #[.int .u8 k, .int .i64 x, .int .i64 y, .int .u8 t, .int .i64 z] 30
  have hp2 : Nf W2 p := by
    rcases hp with h | ⟨b, h, B⟩
    · exact .inl h
    · exact .inr ⟨b, h, (B.kept g1 (by simp)).kept g2 (by simp)⟩
  have kW := noneW p W2 hp2
  clear hp hp2
  go_enter Tryz.func25, Tryz.ntmps25
  go_wp2_with (first | (go_at_call 42; refine kW.mono ?_; rintro e V3 ⟨rfl, hV3⟩; subst V3))
  go_ret2
  exact ⟨rfl, gb_trans g1 g2⟩
set_option maxHeartbeats 4000000 in
/-- Where something is wrong. -/
theorem beginN {M : World → Prop} {n0 b C R S : Nat} {g : Nat → Nat} (F : FdM M n0 b C R S g) (hz : Sz C R S) (h256 : ∀ i, g i < 256) (ho bo st : Nat) (hh : ho < 256) (hb : bo < 65536) (hs : st < 65536) (k x y t z n : Int) (ht : 0 ≤ t) (w : World) (hn0 : n0 ≤ w.heap.size) (hM : M w) (hv : Hid (Hv w)) (hE : ¬ bgE ho bo st k x y t z C R S n = 0) :
    Calls Tryz.prog 25 #[.agg #[.int .u8 (ho : Nat), .int .u16 (bo : Nat), .int .u16 (st : Nat)], .agg #[.int .u8 k, .int .i64 x, .int .i64 y, .int .u8 t, .int .i64 z], .pointer (some ⟨b, 0, none⟩), .int .i64 n] w fun e w' => e = .returned (.tuple #[.slice none 0 0, .int .i64 (bgE ho bo st k x y t z C R S n)]) ∧ w.grownBy w' none := by
  obtain ⟨W1, hW1, sz1, g1, B1⟩ := boxn w #[.int .u8 (ho : Nat), .int .u16 (bo : Nat), .int .u16 (st : Nat)] 28
  obtain ⟨W2, hW2, sz2, g2, B2⟩ := boxn W1 #[.int .u8 k, .int .i64 x, .int .i64 y, .int .u8 t, .int .i64 z] 30
  have G2 := gb_trans g1 g2
  have kW := F.wide W2 (F.grown hM G2)
  have hC0 : ¬ (C : Int) = 0 := by have := hz.c0; omega
  have hC1 : ((C : Int) == 0) = false := by simpa using hC0
  have hck := fun v hv => lifeCk ho bo st hh hb hs v hv
  have hrow := fun v (hg : w.grownBy v none) => rowsAny F hz h256 k x y t z ht v (Nat.le_trans hn0 hg.size) (F.grown hM hg)
  have hxy : rwE k x y t z C R S = 0 → x = C ∧ y = R := fun h => by
    obtain ⟨h1, _, _⟩ := cgE_zero ht hz.c0 hz.r0 (rwE_zero h).1
    exact ⟨h1, ‹_›⟩
  have hcr1 : C * R ≤ 1048576 := hz.all
  have hcr0 : 0 < C * R := Nat.mul_pos hz.c0 hz.r0
  unfold bgE at hE ⊢
  obtain ⟨E, hEe⟩ : ∃ E, rwE k x y t z C R S = E := ⟨_, rfl⟩
  rw [hEe] at hrow hE hxy
  rw [hEe]
  clear hEe F h256 hM hn0
  by_cases h1 : ¬ Lf.ck ho bo st = 0
  · rw [if_pos h1]
    clear hE hxy
    have hckn : ((Lf.ck ho bo st : Nat) : Int) ≠ 0 := by omega
    generalize ((Lf.ck ho bo st : Nat) : Int) = cv at hck hckn
    have hck1 : (cv != 0) = true := by simpa using hckn
    go_enter Tryz.func25, Tryz.ntmps25
    go_wp2_with (first | (go_at_call 42; refine kW.mono ?_; rintro e V3 ⟨rfl, g3⟩; have L3 := (B1.kept g2 (by simp)).kept g3 (by simp); have l0 := L3.cell 0 (v := .int .u8 (ho : Nat)) rfl; have l1 := L3.cell 1 (v := .int .u16 (bo : Nat)) rfl; have l2 := L3.cell 2 (v := .int .u16 (st : Nat)) rfl; have kC := hck V3 (hvK (hvK hv G2) g3)) | (go_at_call 30; refine kC.mono ?_; rintro e V4 ⟨rfl, g4⟩; have T4 := (B2.kept g3 (by simp)).kept g4 (by simp); have t0 := T4.cell 0 (v := .int .u8 k) rfl; have t1 := T4.cell 1 (v := .int .i64 x) rfl; have t2 := T4.cell 2 (v := .int .i64 y) rfl; have t3 := T4.cell 3 (v := .int .u8 t) rfl; have t4 := T4.cell 4 (v := .int .i64 z) rfl; have kR := hrow V4 (gb_trans G2 (gb_trans g3 g4))) | (go_at_call 28; refine kR.mono ?_; rintro e V5 ⟨vv, rfl, g5⟩; have T5 := T4.kept g5 (by simp); have q0 := T5.cell 0 (v := .int .u8 k) rfl; have q1 := T5.cell 1 (v := .int .i64 x) rfl; have q2 := T5.cell 2 (v := .int .i64 y) rfl; have q3 := T5.cell 3 (v := .int .u8 t) rfl; have q4 := T5.cell 4 (v := .int .i64 z) rfl))
    go_ret2
    exact ⟨rfl, gb_trans G2 (gb_trans g3 g4)⟩
  have h1 : Lf.ck ho bo st = 0 := Decidable.not_not.1 h1
  rw [h1] at hck
  rw [if_neg (by simp [h1])] at hE ⊢
  clear h1
  by_cases h2 : E = 9
  · subst h2
    rw [if_pos rfl]
    clear hE hxy
    go_enter Tryz.func25, Tryz.ntmps25
    go_wp2_with (first | (go_at_call 42; refine kW.mono ?_; rintro e V3 ⟨rfl, g3⟩; have L3 := (B1.kept g2 (by simp)).kept g3 (by simp); have l0 := L3.cell 0 (v := .int .u8 (ho : Nat)) rfl; have l1 := L3.cell 1 (v := .int .u16 (bo : Nat)) rfl; have l2 := L3.cell 2 (v := .int .u16 (st : Nat)) rfl; have kC := hck V3 (hvK (hvK hv G2) g3)) | (go_at_call 30; refine kC.mono ?_; rintro e V4 ⟨rfl, g4⟩; have T4 := (B2.kept g3 (by simp)).kept g4 (by simp); have t0 := T4.cell 0 (v := .int .u8 k) rfl; have t1 := T4.cell 1 (v := .int .i64 x) rfl; have t2 := T4.cell 2 (v := .int .i64 y) rfl; have t3 := T4.cell 3 (v := .int .u8 t) rfl; have t4 := T4.cell 4 (v := .int .i64 z) rfl; have kR := hrow V4 (gb_trans G2 (gb_trans g3 g4))) | (go_at_call 28; refine kR.mono ?_; rintro e V5 ⟨vv, rfl, g5⟩; have T5 := T4.kept g5 (by simp); have q0 := T5.cell 0 (v := .int .u8 k) rfl; have q1 := T5.cell 1 (v := .int .i64 x) rfl; have q2 := T5.cell 2 (v := .int .i64 y) rfl; have q3 := T5.cell 3 (v := .int .u8 t) rfl; have q4 := T5.cell 4 (v := .int .i64 z) rfl))
    go_ret2
    exact ⟨rfl, gb_trans G2 (gb_trans g3 (gb_trans g4 g5))⟩
  have h2' : (E == 9) = false := by simpa using h2
  rw [if_neg h2] at hE ⊢
  by_cases h3 : n < 0
  · rw [if_pos h3]
    clear hE hxy
    go_enter Tryz.func25, Tryz.ntmps25
    go_wp2_with (first | (go_at_call 42; refine kW.mono ?_; rintro e V3 ⟨rfl, g3⟩; have L3 := (B1.kept g2 (by simp)).kept g3 (by simp); have l0 := L3.cell 0 (v := .int .u8 (ho : Nat)) rfl; have l1 := L3.cell 1 (v := .int .u16 (bo : Nat)) rfl; have l2 := L3.cell 2 (v := .int .u16 (st : Nat)) rfl; have kC := hck V3 (hvK (hvK hv G2) g3)) | (go_at_call 30; refine kC.mono ?_; rintro e V4 ⟨rfl, g4⟩; have T4 := (B2.kept g3 (by simp)).kept g4 (by simp); have t0 := T4.cell 0 (v := .int .u8 k) rfl; have t1 := T4.cell 1 (v := .int .i64 x) rfl; have t2 := T4.cell 2 (v := .int .i64 y) rfl; have t3 := T4.cell 3 (v := .int .u8 t) rfl; have t4 := T4.cell 4 (v := .int .i64 z) rfl; have kR := hrow V4 (gb_trans G2 (gb_trans g3 g4))) | (go_at_call 28; refine kR.mono ?_; rintro e V5 ⟨vv, rfl, g5⟩; have T5 := T4.kept g5 (by simp); have q0 := T5.cell 0 (v := .int .u8 k) rfl; have q1 := T5.cell 1 (v := .int .i64 x) rfl; have q2 := T5.cell 2 (v := .int .i64 y) rfl; have q3 := T5.cell 3 (v := .int .u8 t) rfl; have q4 := T5.cell 4 (v := .int .i64 z) rfl))
    go_ret2
    exact ⟨rfl, gb_trans G2 (gb_trans g3 (gb_trans g4 g5))⟩
  rw [if_neg h3] at hE ⊢
  by_cases h4 : 1125899906842624 < n
  · rw [if_pos h4]
    clear hE hxy
    go_enter Tryz.func25, Tryz.ntmps25
    go_wp2_with (first | (go_at_call 42; refine kW.mono ?_; rintro e V3 ⟨rfl, g3⟩; have L3 := (B1.kept g2 (by simp)).kept g3 (by simp); have l0 := L3.cell 0 (v := .int .u8 (ho : Nat)) rfl; have l1 := L3.cell 1 (v := .int .u16 (bo : Nat)) rfl; have l2 := L3.cell 2 (v := .int .u16 (st : Nat)) rfl; have kC := hck V3 (hvK (hvK hv G2) g3)) | (go_at_call 30; refine kC.mono ?_; rintro e V4 ⟨rfl, g4⟩; have T4 := (B2.kept g3 (by simp)).kept g4 (by simp); have t0 := T4.cell 0 (v := .int .u8 k) rfl; have t1 := T4.cell 1 (v := .int .i64 x) rfl; have t2 := T4.cell 2 (v := .int .i64 y) rfl; have t3 := T4.cell 3 (v := .int .u8 t) rfl; have t4 := T4.cell 4 (v := .int .i64 z) rfl; have kR := hrow V4 (gb_trans G2 (gb_trans g3 g4))) | (go_at_call 28; refine kR.mono ?_; rintro e V5 ⟨vv, rfl, g5⟩; have T5 := T4.kept g5 (by simp); have q0 := T5.cell 0 (v := .int .u8 k) rfl; have q1 := T5.cell 1 (v := .int .i64 x) rfl; have q2 := T5.cell 2 (v := .int .i64 y) rfl; have q3 := T5.cell 3 (v := .int .u8 t) rfl; have q4 := T5.cell 4 (v := .int .i64 z) rfl))
    go_ret2
    exact ⟨rfl, gb_trans G2 (gb_trans g3 (gb_trans g4 g5))⟩
  rw [if_neg h4] at hE ⊢
  by_cases h5 : ¬ E = 0
  · rw [if_pos h5]
    clear hE hxy
    have h5' : (E != 0) = true := by simpa using h5
    go_enter Tryz.func25, Tryz.ntmps25
    go_wp2_with (first | (go_at_call 42; refine kW.mono ?_; rintro e V3 ⟨rfl, g3⟩; have L3 := (B1.kept g2 (by simp)).kept g3 (by simp); have l0 := L3.cell 0 (v := .int .u8 (ho : Nat)) rfl; have l1 := L3.cell 1 (v := .int .u16 (bo : Nat)) rfl; have l2 := L3.cell 2 (v := .int .u16 (st : Nat)) rfl; have kC := hck V3 (hvK (hvK hv G2) g3)) | (go_at_call 30; refine kC.mono ?_; rintro e V4 ⟨rfl, g4⟩; have T4 := (B2.kept g3 (by simp)).kept g4 (by simp); have t0 := T4.cell 0 (v := .int .u8 k) rfl; have t1 := T4.cell 1 (v := .int .i64 x) rfl; have t2 := T4.cell 2 (v := .int .i64 y) rfl; have t3 := T4.cell 3 (v := .int .u8 t) rfl; have t4 := T4.cell 4 (v := .int .i64 z) rfl; have kR := hrow V4 (gb_trans G2 (gb_trans g3 g4))) | (go_at_call 28; refine kR.mono ?_; rintro e V5 ⟨vv, rfl, g5⟩; have T5 := T4.kept g5 (by simp); have q0 := T5.cell 0 (v := .int .u8 k) rfl; have q1 := T5.cell 1 (v := .int .i64 x) rfl; have q2 := T5.cell 2 (v := .int .i64 y) rfl; have q3 := T5.cell 3 (v := .int .u8 t) rfl; have q4 := T5.cell 4 (v := .int .i64 z) rfl))
    go_ret2
    exact ⟨rfl, gb_trans G2 (gb_trans g3 (gb_trans g4 g5))⟩
  have h5 : E = 0 := Decidable.not_not.1 h5
  subst h5
  rw [if_neg (by simp)] at hE ⊢
  by_cases h6 : (67108864 : Int) / ((C * R : Nat) : Int) < n
  · rw [if_pos h6]
    obtain ⟨rfl, rfl⟩ := hxy rfl
    clear hE hxy
    obtain ⟨cr, hcr⟩ : ∃ cr, C * R = cr := ⟨_, rfl⟩
    rw [hcr] at h6 hcr0 hcr1
    have hmul : IntKind.i64.wrap ((C : Int) * (R : Int)) = (cr : Int) := by rw [← Int.natCast_mul, hcr, IntKind.wrap_i64]; omega
    have hcn : ¬ (cr : Int) = 0 := by omega
    have hcn1 : (cr : Int) ≠ 0 := hcn
    have hcp : (0 : Int) < (cr : Int) := by omega
    have hcl : (cr : Int) ≤ 1048576 := by omega
    clear hcr
    go_enter Tryz.func25, Tryz.ntmps25
    go_wp2_with (first | (go_at_call 42; refine kW.mono ?_; rintro e V3 ⟨rfl, g3⟩; have L3 := (B1.kept g2 (by simp)).kept g3 (by simp); have l0 := L3.cell 0 (v := .int .u8 (ho : Nat)) rfl; have l1 := L3.cell 1 (v := .int .u16 (bo : Nat)) rfl; have l2 := L3.cell 2 (v := .int .u16 (st : Nat)) rfl; have kC := hck V3 (hvK (hvK hv G2) g3)) | (go_at_call 30; refine kC.mono ?_; rintro e V4 ⟨rfl, g4⟩; have T4 := (B2.kept g3 (by simp)).kept g4 (by simp); have t0 := T4.cell 0 (v := .int .u8 k) rfl; have t1 := T4.cell 1 (v := .int .i64 (C : Nat)) rfl; have t2 := T4.cell 2 (v := .int .i64 (R : Nat)) rfl; have t3 := T4.cell 3 (v := .int .u8 t) rfl; have t4 := T4.cell 4 (v := .int .i64 z) rfl; have kR := hrow V4 (gb_trans G2 (gb_trans g3 g4))) | (go_at_call 28; refine kR.mono ?_; rintro e V5 ⟨vv, rfl, g5⟩; have T5 := T4.kept g5 (by simp); have q0 := T5.cell 0 (v := .int .u8 k) rfl; have q1 := T5.cell 1 (v := .int .i64 (C : Nat)) rfl; have q2 := T5.cell 2 (v := .int .i64 (R : Nat)) rfl; have q3 := T5.cell 3 (v := .int .u8 t) rfl; have q4 := T5.cell 4 (v := .int .i64 z) rfl))
    go_ret2
    exact ⟨rfl, gb_trans G2 (gb_trans g3 (gb_trans g4 g5))⟩
  · rw [if_neg h6] at hE
    exact absurd rfl hE
end Go.Proofs.YthjiiljglgmkpaaGreatDoor.Pd
