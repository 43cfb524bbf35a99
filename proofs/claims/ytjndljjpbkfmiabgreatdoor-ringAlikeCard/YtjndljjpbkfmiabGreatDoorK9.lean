/- Around of package ring. -/
import Derived.Test.YtjndljjpbkfmiabGreatDoorK8
import Derived.Test.YtjndljjpbkfmiabGreatDoorZ11
import Derived.Test.YtjndljjpbkfmiabGreatDoorZ15
namespace Go.Proofs.YtjndljjpbkfmiabGreatDoor
open Go.RowKit
set_option linter.unusedVariables false
set_option linter.unusedSimpArgs false
set_option maxRecDepth 100000

/-- The offsets of the three neighbourhoods. -/
def ofL (h : Nat) : List (Int × Int) := if h = 1 then [(0, -1), (1, -1), (1, 0), (1, 1), (0, 1), (-1, 1), (-1, 0), (-1, -1)] else if h = 2 then [(0, -1), (1, 0), (0, 1), (-1, 0)] else [(0, -1), (1, 0), (1, 1), (0, 1), (-1, 0), (-1, -1)]
def ofN (h : Nat) : Nat := (ofL h).length
def ofP (h i : Nat) : Int × Int := (ofL h).getD i (0, 0)
/-- The table of the offsets, where it lies. -/
structure Tab (w : World) : Prop where
  at_ : ∀ h, 1 ≤ h → h ≤ 3 → ∃ b o c, w.cell? ⟨0, h, none⟩ = some (.slice (some ⟨b, o, none⟩) (ofN h) c) ∧ ∀ i, i < ofN h → w.cell? ⟨b, o + i * 2, none⟩ = some (.int .i64 (ofP h i).1) ∧ w.cell? ⟨b, o + i * 2 + 1, none⟩ = some (.int .i64 (ofP h i).2)
theorem Tab.kept {w w' : World} (h : Tab w) (hg : w.grownBy w' none) : Tab w' := ⟨fun k h1 h2 => by
  obtain ⟨b, o, c, e1, e2⟩ := h.at_ k h1 h2
  exact ⟨b, o, c, hg.cell e1 (by simp), fun i hi => ⟨hg.cell (e2 i hi).1 (by simp), hg.cell (e2 i hi).2 (by simp)⟩⟩⟩
theorem ofP_bd (h i : Nat) : (-1 ≤ (ofP h i).1 ∧ (ofP h i).1 ≤ 1) ∧ (-1 ≤ (ofP h i).2 ∧ (ofP h i).2 ≤ 1) := by
  unfold ofP ofL
  split
  · match i with
    | 0 | 1 | 2 | 3 | 4 | 5 | 6 | 7 => decide
    | _ + 8 => exact (by decide : ((-1 : Int) ≤ 0 ∧ (0 : Int) ≤ 1) ∧ ((-1 : Int) ≤ 0 ∧ (0 : Int) ≤ 1))
  · split
    · match i with
      | 0 | 1 | 2 | 3 => decide
      | _ + 4 => exact (by decide : ((-1 : Int) ≤ 0 ∧ (0 : Int) ≤ 1) ∧ ((-1 : Int) ≤ 0 ∧ (0 : Int) ≤ 1))
    · match i with
      | 0 | 1 | 2 | 3 | 4 | 5 => decide
      | _ + 6 => exact (by decide : ((-1 : Int) ≤ 0 ∧ (0 : Int) ≤ 1) ∧ ((-1 : Int) ≤ 0 ∧ (0 : Int) ≤ 1))
theorem ofN_le (h : Nat) : ofN h ≤ 8 := by
  unfold ofN ofL
  split
  · decide
  · split <;> decide
set_option maxHeartbeats 1000000 in
theorem aroundY {C R : Nat} (hC : 1 ≤ C ∧ C ≤ 65536) (hR : 1 ≤ R ∧ R ≤ 65536) (hall : C * R ≤ 1048576) (sp : Option Addr) (c : Nat) (f : Nat → Nat) (h x y : Nat) (h1 : 1 ≤ h) (h3 : h ≤ 3) (hx : x < C) (hy : y < R) (w : World) (hb : By w sp ((C + 2) * (R + 2)) f) (hT : Tab w) :
    Calls Tryz.prog 13 #[.agg #[.int .i64 (C : Nat), .int .i64 (R : Nat), .slice sp ((C + 2) * (R + 2)) c], .int .u8 (h : Nat), .int .i64 (x : Nat), .int .i64 (y : Nat)] w fun e w' => ∃ d, e = .returned (.tuple #[.slice (some ⟨d, 0, none⟩) (ofN h) (ofN h), .int .i64 0]) ∧ w'.rowIs d 5 (ofN h) (fun i => .int .u8 (f (ixN C (x + (ofP h i).1) (y + (ofP h i).2)) : Nat)) ∧ w.heap.size ≤ d ∧ w.grownBy w' none := by
  have hck := fun w => checkF C R sp ((C + 2) * (R + 2)) c w
  have hfm : fmE C R ((C + 2) * (R + 2)) = 0 := by
    unfold fmE
    rw [if_pos ⟨by omega, by omega, by rw [← Int.natCast_mul]; omega, by simp⟩]
  rw [hfm] at hck
  obtain ⟨n, hn⟩ : ∃ n, (C + 2) * (R + 2) = n := ⟨_, rfl⟩
  rw [hn] at hck hb ⊢
  obtain ⟨a, ha⟩ := hb.some (by rw [← hn]; exact Nat.mul_pos (by omega) (by omega))
  subst ha
  obtain ⟨tb, to, tc, e1, e2⟩ := hT.at_ h h1 h3
  have hle := ofN_le h
  obtain ⟨m, hm⟩ : ∃ m, ofN h = m := ⟨_, rfl⟩
  rw [hm] at e1 e2 hle ⊢
  have hmk := run_make_row' (P := Tryz.prog) 24 5 (.int .u8 0) 1 under8S info8 rfl .i64 .i64 m (by omega) (by omega)
  obtain ⟨W1, hW1, sz1, g1, B1⟩ := boxn w #[.int .i64 (C : Nat), .int .i64 (R : Nat), .slice (some a) n c] 33
  have b1_0 := B1.cell 0 (v := .int .i64 (C : Nat)) rfl
  have b1_1 := B1.cell 1 (v := .int .i64 (R : Nat)) rfl
  have b1_2 := B1.cell 2 (v := .slice (some a) n c) rfl
  have hh1 : decide ((h : Int) < 1) = false := decide_eq_false (by omega)
  have hh2 : decide (4 ≤ (h : Int)) = false := decide_eq_false (by omega)
  have hh3 : decide ((x : Int) < 0) = false := decide_eq_false (by omega)
  have hh4 : decide ((y : Int) < 0) = false := decide_eq_false (by omega)
  have hx' : decide (C ≤ x) = false := decide_eq_false (by omega)
  have hy' : decide (R ≤ y) = false := decide_eq_false (by omega)
  go_enter Tryz.func13, Tryz.ntmps13
  go_wp2_with (go_at_call 32; refine (hck W1).mono ?_; rintro e V1 ⟨rfl, g2⟩; have B2 := B1.kept g2 (by simp); have b2_0 := B2.cell 0 (v := .int .i64 (C : Nat)) rfl; have b2_1 := B2.cell 1 (v := .int .i64 (R : Nat)) rfl; have b2_2 := B2.cell 2 (v := .slice (some a) n c) rfl; have t2 := (gb_trans g1 g2).cell e1 (by simp); obtain ⟨V2, hV2, sz2, g3, BV2⟩ := boxn V1 (madeCells #[.int .u8 0] m) 5; have hr3 := World.rowIs_made V1 (.int .u8 0) m 5; rw [hV2] at hr3; have G3 := gb_trans g1 (gb_trans g2 g3); have t3 := G3.cell e1 (by simp); have B3 := B2.kept g3 (by simp))
  have lV : V1.heap.size < V2.heap.size := BV2.lt
  have lw : w.heap.size ≤ V1.heap.size := (gb_trans g1 g2).size
  have lB := B2.lt
  have hS : ∀ i, i < m → ∃ q, ixN C (x + (ofP h i).1) (y + (ofP h i).2) = q ∧ q < n := fun i hi => by
    have := ofP_bd h i
    have h5 := ix_lt (C := C) (R := R) (u := x + (ofP h i).1) (v := y + (ofP h i).2) (by omega) (by omega)
    rw [hn] at h5
    exact ⟨_, rfl, h5⟩
  go_loopw [53] (fun i wr => ∃ q : Nat, q ≤ m ∧ i = .int .i64 (q : Nat) ∧ wr.rowIs V1.heap.size 5 m (fun i => if i < q then .int .u8 (f (ixN C (x + (ofP h i).1) (y + (ofP h i).2)) : Nat) else .int .u8 0) ∧ V2.grownBy wr (some V1.heap.size)) (fun i _ => m - (intOf i).toNat)
  case atStart => exact ⟨0, Nat.zero_le _, rfl, hr3.congr (fun i _ => by rw [if_neg (by omega)]), World.grownBy.refl _ _⟩
  case round =>
    obtain ⟨q, hq, rfl, hrow, gw⟩ := hrel
    by_cases hlt : q < m
    · have hi1 : (q : Int) < (m : Int) := by omega
      have Gq : w.grownBy wr none := gb_past G3 gw lw
      have bd := ofP_bd h q
      obtain ⟨ip, hip, hipn⟩ := hS q hlt
      have hidx := fun w => indexC C (x + (ofP h q).1) (y + (ofP h q).2) hC.2 (by omega) (by omega) w
      rw [hip] at hidx
      have HIP : Hid (ixN C (x + (ofP h q).1) (y + (ofP h q).2) = ip) := hip
      clear hip
      have k1 := Gq.cell (e2 q hlt).1 (by simp)
      have k2 := Gq.cell (e2 q hlt).2 (by simp)
      obtain ⟨px, hpx⟩ : ∃ v, (ofP h q).1 = v := ⟨_, rfl⟩
      obtain ⟨py, hpy⟩ : ∃ v, (ofP h q).2 = v := ⟨_, rfl⟩
      rw [hpx] at k1 hidx bd
      rw [hpy] at k2 hidx bd
      have HPX : Hid ((ofP h q).1 = px ∧ (ofP h q).2 = py) := ⟨hpx, hpy⟩
      clear hpx hpy
      have B5 := (B3.kept gw (by simp; omega))
      have b5_0 := B5.cell 0 (v := .int .i64 (C : Nat)) rfl
      have b5_1 := B5.cell 1 (v := .int .i64 (R : Nat)) rfl
      have b5_2 := B5.cell 2 (v := .slice (some a) n c) rfl
      obtain ⟨X1, hX1, szX, gX, BX⟩ := boxn wr #[.int .i64 px, .int .i64 py] 86
      have B6 := B5.kept gX (by simp)
      have b6_0 := B6.cell 0 (v := .int .i64 (C : Nat)) rfl
      have b6_1 := B6.cell 1 (v := .int .i64 (R : Nat)) rfl
      have b6_2 := B6.cell 2 (v := .slice (some a) n c) rfl
      have x0 := BX.cell 0 (v := .int .i64 px) rfl
      have x1 := BX.cell 1 (v := .int .i64 py) rfl
      have r6 := rowIs_kept hrow gX (by simp)
      have rq := r6.cell hlt
      have rf := r6.frozen q
      have hbc := ((hb.kept Gq (by simp)).kept gX (by simp)).at hipn
      have y1 : (ip : Int) < (n : Int) := by omega
      have y2 : IntKind.i64.wrap ((x : Int) + px) = (x : Int) + px := by rw [IntKind.wrap_i64]; omega
      have y3 : IntKind.i64.wrap ((y : Int) + py) = (y : Int) + py := by rw [IntKind.wrap_i64]; omega
      go_wp2
      refine region_tail 18 To.mixed (by kernel_rfl) ?_
      simp only [List.take_succ_cons, List.take_zero, List.drop_succ_cons, List.drop_zero]
      repeat still_step
      still_call (hidx _)
      repeat still_step
      refine wpStill_nil ?_
      go_wp2
      go_roundw
      case rel =>
        refine ⟨q + 1, hlt, by go_num, (World.rowIs.set (w := X1.drew) r6 q _).congr (fun i _ => ?_), gb_set (gb_drew (gb_none gw gX)) _ _⟩
        by_cases hx : i = q
        · subst hx
          rw [if_pos rfl, if_pos (by omega), HPX.out.1, HPX.out.2, ← HIP.out, HPX.out.1, HPX.out.2]
        · rw [if_neg hx]
          by_cases h4 : i < q
          · rw [if_pos h4, if_pos (by omega)]
          · rw [if_neg h4, if_neg (by omega)]
      case measure => simp [intOf]; omega
    · obtain rfl : q = m := by omega
      go_wp2
      go_ret2
      exact ⟨V1.heap.size, rfl, hrow.congr (fun i hi => by rw [if_pos hi]), lw, gb_past G3 gw lw⟩
end Go.Proofs.YtjndljjpbkfmiabGreatDoor
