/- beside. -/
import Derived.Test.YtjndljjpbkfmiaaGreatDoorKz
import Derived.Test.YtjndljjpbkfmiaaGreatDoorH2
namespace Go.Proofs.YtjndljjpbkfmiaaGreatDoor
open Go.RowKit
set_option linter.unusedVariables false
set_option linter.unusedSimpArgs false
set_option maxRecDepth 100000

theorem of_sn (h : Nat) (h1 : 1 ≤ h) (h3 : h ≤ 3) : sn h = ofN h ∧ ofN h ≤ 8 ∧ ∀ i, i < ofN h → (ho h)[i * 2]? = some (.int .i64 (ofP h i).1) ∧ (ho h)[i * 2 + 1]? = some (.int .i64 (ofP h i).2) := by
  match h, h1, h3 with
  | 1, _, _ => exact ⟨rfl, by decide, fun i hi => by
      have : i < 8 := hi
      match i, this with
      | 0, _ => exact ⟨rfl, rfl⟩
      | 1, _ => exact ⟨rfl, rfl⟩
      | 2, _ => exact ⟨rfl, rfl⟩
      | 3, _ => exact ⟨rfl, rfl⟩
      | 4, _ => exact ⟨rfl, rfl⟩
      | 5, _ => exact ⟨rfl, rfl⟩
      | 6, _ => exact ⟨rfl, rfl⟩
      | 7, _ => exact ⟨rfl, rfl⟩⟩
  | 2, _, _ => exact ⟨rfl, by decide, fun i hi => by
      have : i < 4 := hi
      match i, this with
      | 0, _ => exact ⟨rfl, rfl⟩
      | 1, _ => exact ⟨rfl, rfl⟩
      | 2, _ => exact ⟨rfl, rfl⟩
      | 3, _ => exact ⟨rfl, rfl⟩⟩
  | 3, _, _ => exact ⟨rfl, by decide, fun i hi => by
      have : i < 6 := hi
      match i, this with
      | 0, _ => exact ⟨rfl, rfl⟩
      | 1, _ => exact ⟨rfl, rfl⟩
      | 2, _ => exact ⟨rfl, rfl⟩
      | 3, _ => exact ⟨rfl, rfl⟩
      | 4, _ => exact ⟨rfl, rfl⟩
      | 5, _ => exact ⟨rfl, rfl⟩⟩
set_option maxHeartbeats 2000000 in
theorem besideC {C R : Nat} (hC : 1 ≤ C ∧ C ≤ 9) (hR : 1 ≤ R ∧ R ≤ 9) (d m : Nat) (hm : (C + 2) * (R + 2) = m) (f : Nat → Nat) (h : Nat) (h1 : 1 ≤ h) (h3 : h ≤ 3) (w : World) (hr : w.rowIs d 5 m (fun i => .int .u8 (f i : Nat))) (hT : Tab w) (hv : Hid (Hv w)) :
    Calls Tryz.prog 30 #[.agg #[.int .i64 (C : Nat), .int .i64 (R : Nat), .slice (some ⟨d, 0, none⟩) m m], .int .u8 (h : Nat)] w fun e w' => e = .returned (.bool true) ∧ w.grownBy w' none := by
  obtain ⟨hsn, h8, hho⟩ := of_sn h h1 h3
  have hall : C * R ≤ 1048576 := Nat.le_trans (Nat.mul_le_mul hC.2 hR.2) (by decide)
  have hm121 : m ≤ 121 := by rw [← hm]; exact Nat.le_trans (Nat.mul_le_mul (show C + 2 ≤ 11 by omega) (show R + 2 ≤ 11 by omega)) (by decide)
  obtain ⟨W1, hW1, sz1, g1, B1⟩ := boxn w #[.int .i64 (C : Nat), .int .i64 (R : Nat), .slice (some ⟨d, 0, none⟩) m m] 33
  have b1_0 := B1.cell 0 (v := .int .i64 (C : Nat)) rfl
  have b1_1 := B1.cell 1 (v := .int .i64 (R : Nat)) rfl
  have b1_2 := B1.cell 2 (v := .slice (some ⟨d, 0, none⟩) m m) rfl
  have hof := offsetsYes h h1 h3 W1 (hvK hv g1)
  rw [hsn] at hof
  have HO : Hid (∀ i, i < ofN h → (ho h)[i * 2]? = some (.int .i64 (ofP h i).1) ∧ (ho h)[i * 2 + 1]? = some (.int .i64 (ofP h i).2)) := hho
  have HAR : Hid (∀ x y, x < C → y < R → ∀ X, w.grownBy X none → Calls Tryz.prog 24 #[.agg #[.int .i64 (C : Nat), .int .i64 (R : Nat), .slice (some ⟨d, 0, none⟩) m m], .int .u8 (h : Nat), .int .i64 (x : Nat), .int .i64 (y : Nat)] X fun e w' => ∃ q, e = .returned (.tuple #[.slice (some ⟨q, 0, none⟩) (ofN h) (ofN h), .int .i64 0]) ∧ w'.rowIs q 5 (ofN h) (fun i => .int .u8 (f (ixN C (x + (ofP h i).1) (y + (ofP h i).2)) : Nat)) ∧ X.heap.size ≤ q ∧ X.grownBy w' none) := fun x y hx hy X hX => by
    have := aroundY (C := C) (R := R) ⟨hC.1, by omega⟩ ⟨hR.1, by omega⟩ hall (some ⟨d, 0, none⟩) m f h x y h1 h3 hx hy X (by rw [hm]; exact rowIs_by (rowIs_kept hr hX (by simp))) (hT.kept hX)
    rw [hm] at this
    exact this
  obtain ⟨nh, hnh⟩ : ∃ nh, ofN h = nh := ⟨_, rfl⟩
  rw [hnh] at hof HO HAR h8
  clear hho hnh hsn
  have HM : Hid ((C + 2) * (R + 2) = m) := hm
  clear hm
  go_enter Tryz.func30, Tryz.ntmps30
  go_wp2_with (go_at_call 62; refine hof.mono ?_; rintro e V1 ⟨og, rfl, BO, log, g2⟩; have B2 := B1.kept g2 (by simp); have b2_0 := B2.cell 0 (v := .int .i64 (C : Nat)) rfl; have b2_1 := B2.cell 1 (v := .int .i64 (R : Nat)) rfl; have b2_2 := B2.cell 2 (v := .slice (some ⟨d, 0, none⟩) m m) rfl)
  have G2 := gb_trans g1 g2
  go_loopw [7] (fun i wr => ∃ y : Nat, y ≤ R ∧ i = .int .i64 (y : Nat) ∧ V1.grownBy wr none) (fun i _ => R - (intOf i).toNat)
  case atStart => exact ⟨0, Nat.zero_le _, rfl, World.grownBy.refl _ _⟩
  case round =>
    obtain ⟨y, hy, rfl, Gy⟩ := hrel
    have By_ := B2.kept Gy (by simp)
    have y_0 := By_.cell 0 (v := .int .i64 (C : Nat)) rfl
    have y_1 := By_.cell 1 (v := .int .i64 (R : Nat)) rfl
    have y_2 := By_.cell 2 (v := .slice (some ⟨d, 0, none⟩) m m) rfl
    by_cases hlt : y < R
    · have hlt' : (y : Int) < (R : Int) := by omega
      go_wp2
      go_loopw [8] (fun i wr2 => ∃ x : Nat, x ≤ C ∧ i = .int .i64 (x : Nat) ∧ V1.grownBy wr2 none) (fun i _ => C - (intOf i).toNat)
      case atStart => exact ⟨0, Nat.zero_le _, rfl, Gy⟩
      case round =>
        obtain ⟨x, hx, rfl, Gx⟩ := hrel
        have Bx_ := B2.kept Gx (by simp)
        have x_0 := Bx_.cell 0 (v := .int .i64 (C : Nat)) rfl
        have x_1 := Bx_.cell 1 (v := .int .i64 (R : Nat)) rfl
        have x_2 := Bx_.cell 2 (v := .slice (some ⟨d, 0, none⟩) m m) rfl
        by_cases hxl : x < C
        · have hxl' : (x : Int) < (C : Int) := by omega
          have har := HAR.out x y hxl hlt wr (gb_trans G2 Gx)
          go_wp2_with (go_at_call 24; refine har.mono ?_; rintro e X1 ⟨q, rfl, rq, lq, g5⟩; have Bz := Bx_.kept g5 (by simp); have z_0 := Bz.cell 0 (v := .int .i64 (C : Nat)) rfl; have z_1 := Bz.cell 1 (v := .int .i64 (R : Nat)) rfl; have z_2 := Bz.cell 2 (v := .slice (some ⟨d, 0, none⟩) m m) rfl)
          have G5 := gb_trans Gx g5
          go_loopw [11] (fun i wr3 => ∃ j : Nat, j ≤ nh ∧ i = .int .i64 (j : Nat) ∧ X1.grownBy wr3 none) (fun i _ => nh - (intOf i).toNat)
          case atStart => exact ⟨0, Nat.zero_le _, rfl, World.grownBy.refl _ _⟩
          case round =>
            obtain ⟨j, hj, rfl, Gj⟩ := hrel
            by_cases hjl : j < nh
            · have hjl' : (j : Int) < (nh : Int) := by omega
              have Bj := Bz.kept Gj (by simp)
              have j_0 := Bj.cell 0 (v := .int .i64 (C : Nat)) rfl
              have j_1 := Bj.cell 1 (v := .int .i64 (R : Nat)) rfl
              have j_2 := Bj.cell 2 (v := .slice (some ⟨d, 0, none⟩) m m) rfl
              have BOj := BO.kept (gb_trans G5 Gj) (by simp)
              have o0 := BOj.cell (j * 2) (HO.out j hjl).1
              have o1 := BOj.cell (j * 2 + 1) (HO.out j hjl).2
              have sq := (rowIs_kept rq Gj (by simp)).cell hjl
              have bd := ofP_bd h j
              have hlt2 := ix_lt (C := C) (R := R) (u := (x : Int) + (ofP h j).1) (v := (y : Int) + (ofP h j).2) (by omega) (by omega)
              have hii := ix_int (C := C) (u := (x : Int) + (ofP h j).1) (v := (y : Int) + (ofP h j).2) (by omega) (by omega)
              have hmm := ix_mul (C := C) (v := (y : Int) + (ofP h j).2) (by omega) (by omega) (by omega)
              rw [HM.out] at hlt2
              obtain ⟨ix, hix⟩ : ∃ ix, ixN C ((x : Int) + (ofP h j).1) ((y : Int) + (ofP h j).2) = ix := ⟨_, rfl⟩
              rw [hix] at sq hlt2 hii
              clear hix
              obtain ⟨px, hpx⟩ : ∃ v, (ofP h j).1 = v := ⟨_, rfl⟩
              obtain ⟨py, hpy⟩ : ∃ v, (ofP h j).2 = v := ⟨_, rfl⟩
              rw [hpx] at o0 hii bd
              rw [hpy] at o1 hii bd hmm
              clear hpx hpy
              have cd := (rowIs_kept hr (gb_trans G2 (gb_trans G5 Gj)) (by simp)).cell hlt2
              obtain ⟨fq, hfq⟩ : ∃ v, f ix = v := ⟨_, rfl⟩
              rw [hfq] at sq cd
              clear hfq
              obtain ⟨a1, e1⟩ : ∃ v, (y : Int) + py = v := ⟨_, rfl⟩
              obtain ⟨a2, e2⟩ : ∃ v, a1 + 1 = v := ⟨_, rfl⟩
              obtain ⟨mm, e3⟩ : ∃ v, (C : Int) + 2 = v := ⟨_, rfl⟩
              rw [e1, e2, e3] at hii hmm
              obtain ⟨P, e4⟩ : ∃ v, a2 * mm = v := ⟨_, rfl⟩
              rw [e4] at hii hmm
              obtain ⟨P1, e5⟩ : ∃ v, P + (x : Int) = v := ⟨_, rfl⟩
              obtain ⟨P2, e6⟩ : ∃ v, P1 + px = v := ⟨_, rfl⟩
              have e7 : P2 + 1 = (ix : Int) := by omega
              have w1 : IntKind.i64.wrap a1 = a1 := by rw [IntKind.wrap_i64]; omega
              have w2 : IntKind.i64.wrap a2 = a2 := by rw [IntKind.wrap_i64]; omega
              have w3 : IntKind.i64.wrap mm = mm := by rw [IntKind.wrap_i64]; omega
              have w4 : IntKind.i64.wrap P = P := by rw [IntKind.wrap_i64]; omega
              have w5 : IntKind.i64.wrap P1 = P1 := by rw [IntKind.wrap_i64]; omega
              have w6 : IntKind.i64.wrap P2 = P2 := by rw [IntKind.wrap_i64]; omega
              have w7 : IntKind.i64.wrap (ix : Int) = (ix : Int) := by rw [IntKind.wrap_i64]; omega
              have hixm : (ix : Int) < (m : Int) := by omega
              clear hii hmm bd
              go_wp2
              go_quiet (fail)
              go_wp2
              go_roundw
              case rel => exact ⟨j + 1, hjl, by go_num, gb_drewN Gj _⟩
              case measure => simp [intOf]; omega
            · have hjn : j = nh := by omega
              subst j
              go_wp2
              go_roundw
              case rel => exact ⟨x + 1, hxl, by go_num, gb_trans G5 Gj⟩
              case measure => simp [intOf]; omega
        · have hxC : x = C := by omega
          subst x
          go_wp2
          go_roundw
          case rel => exact ⟨y + 1, hlt, by go_num, Gx⟩
          case measure => simp [intOf]; omega
    · have hyR : y = R := by omega
      subst y
      go_wp2
      go_ret
      exact ⟨rfl, gb_trans G2 Gy⟩
end Go.Proofs.YtjndljjpbkfmiaaGreatDoor
