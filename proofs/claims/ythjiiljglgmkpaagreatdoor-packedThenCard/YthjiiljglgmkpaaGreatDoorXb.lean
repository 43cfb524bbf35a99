/- count, Pop of a field of bits; bytes moved into bits; Pack. -/
import Derived.Test.YthjiiljglgmkpaaGreatDoorXa
import Derived.Test.YthjiiljglgmkpaaGreatDoorWp
import Derived.Test.YthjiiljglgmkpaaGreatDoorZb
import Derived.Test.YthjiiljglgmkpaaGreatDoorZc
namespace Go.Proofs.YthjiiljglgmkpaaGreatDoor.Tt
open Go.RowKit
set_option linter.unusedVariables false
set_option linter.unusedSimpArgs false
set_option maxRecDepth 100000

theorem cnt_bt (C : Nat) (g : Nat → Nat) (i : Nat) : ∀ n, n ≤ C → Wo.cnt (bt C g i) n = cnt (fun x => g (i * C + x)) n
  | 0, _ => rfl
  | n + 1, h => by
    rw [Wo.cnt, cnt, cnt_bt C g i n (by omega)]
    have : bt C g i n = decide (g (i * C + n) ≠ 0) := by unfold bt; rw [decide_eq_true (by omega), Bool.true_and]
    rw [this]
    by_cases h0 : g (i * C + n) = 0 <;> simp [h0]
theorem countC (s : Nat) (q : Nat × (Nat → Nat)) (C R S : Nat) (g : Nat → Nat) (hz : Sz C R S) (y : Nat) (hy : y < R) (w : World) (h : Sb w s q C R S g) : Calls Tryz.prog 178 #[.pointer (some ⟨s, 0, none⟩), .int .i64 (y : Nat)] w fun e w' => e = .returned (.int .i64 (cnt (fun x => g (y * C + x)) C : Nat)) ∧ w.grownBy w' none := by
  obtain ⟨K, cp, c3, hRK, r0, r1⟩ := h.rowc hy
  have hy' : (y : Int) < (R : Int) := by omega
  have hr1 := hz.r1
  have hon := fun cap w hc => Wo.onesC C (nw C) cap (some ⟨q.2 y, 0, none⟩) (bt C g y) (h.mayBe hz.c1 y) w hc
  rw [cnt_bt C g y C (Nat.le_refl _)] at hon
  have hw := h.wd hy
  generalize cnt (fun x => g (y * C + x)) C = u at hon ⊢
  go_enter Tryz.func178, Tryz.ntmps178
  go_wp2_with (go_at_call 189; refine (hon _ w hw).mono ?_; rintro e V ⟨rfl, gV⟩)
  go_ret
  exact ⟨rfl, gV⟩
theorem fPop (b s : Nat) (q : Nat × (Nat → Nat)) (C R S : Nat) (g : Nat → Nat) (hz : Sz C R S) (w : World) (h : Fb w b s q C R S g) : Calls Tryz.prog 36 #[.pointer (some ⟨b, 0, none⟩)] w fun e w' => e = .returned (.int .i64 (popN g C R : Nat)) ∧ w.grownBy w' none := by
  have hct := fun w => m_count s w
  go_enter Tryz.func36, Tryz.ntmps36
  go_wp2_with (go_at_call 43; refine (fH b s q C R S g w h).mono ?_; rintro e V ⟨rfl, gV⟩)
  go_loopw [3, 7] (fun n i wr => ∃ k : Nat, k ≤ R ∧ i = .int .i64 k ∧ n = .int .i64 (popN g C k : Nat) ∧ w.grownBy wr none) (fun _ i _ => R - (intOf i).toNat)
  case atStart => exact ⟨0, Nat.zero_le _, rfl, rfl, gV⟩
  case round =>
    obtain ⟨k, hk, rfl, rfl, Gk⟩ := hrel
    by_cases hlt : k < R
    · have hlt' : (k : Int) < (R : Int) := by omega
      have hr1 := hz.r1
      have hFk := h.kept Gk
      have v0 := hFk.cell
      have hp1 := popN_le g C k
      have hle := row_le (C := C) hlt
      have hall := hz.all
      have hcl := cnt_le (fun x => g (k * C + x)) C
      have hnx : Hid (popN g C (k + 1) = popN g C k + cnt (fun x => g (k * C + x)) C) := rfl
      have hcc := countC s q C R S g hz k hlt wr hFk.st
      obtain ⟨c, hc⟩ : ∃ c, cnt (fun x => g (k * C + x)) C = c := ⟨_, rfl⟩
      obtain ⟨d, hd⟩ : ∃ d, popN g C k = d := ⟨_, rfl⟩
      rw [hc] at hcc hcl hnx
      rw [hd] at hnx hp1 ⊢
      clear hc hd
      go_wp2_with (go_at_call 178; refine hcc.mono ?_; rintro e V2 ⟨rfl, gV2⟩)
      go_roundw
      case rel => exact ⟨k + 1, hlt, by go_num, by rw [hnx.out]; go_num, gb_trans Gk gV2⟩
      case measure => simp [intOf]; omega
    · have hkn : ¬ ((k : Int) < (R : Int)) := by omega
      have hkc : k = R := by omega
      subst hkc
      go_wp2
      go_ret
      exact ⟨rfl, Gk⟩
end Go.Proofs.YthjiiljglgmkpaaGreatDoor.Tt
namespace Go.Proofs.YthjiiljglgmkpaaGreatDoor.Tt
open Go.RowKit
set_option linter.unusedVariables false
set_option linter.unusedSimpArgs false
set_option maxRecDepth 100000

theorem by_row2 {w : World} {d n : Nat} {f : Nat → Nat} (h : w.rowIs d 5 n (fun x => .int .u8 (f x : Nat))) : By w (some ⟨d, 0, none⟩) n f := fun k hk => ⟨_, rfl, by rw [add_mid, Nat.zero_add]; exact h.cell hk⟩
theorem sb_lts {w : World} {s : Nat} {q : Nat × (Nat → Nat)} {C R S : Nat} {g : Nat → Nat} (h : Sb w s q C R S g) : s < w.heap.size ∧ q.1 < w.heap.size ∧ ∀ j, j < R → q.2 j < w.heap.size := by
  obtain ⟨K, h1, h2⟩ := h.cap
  exact ⟨h1.lt, h2.lt, fun j hj => h.wrd.lt hj⟩
/-- The cells of the first k rows. -/
def mvG (g : Nat → Nat) (C k j : Nat) : Nat := if j < k * C then g j else 0
set_option maxHeartbeats 2000000 in
theorem movedC (s q C R : Nat) (g : Nat → Nat) (hz : Sz C R 2) (hlow : ∀ k, k < C * R → g k < 2) (w : World) (h : _root_.Go.Proofs.YthjiiljglgmkpaaGreatDoor.Sb w s q C R 2 g) :
    Calls Tryz.prog 56 #[.iface 165 (.pointer (some ⟨s, 0, none⟩)), .bool true] w fun e w' => ∃ s2 q2, e = .returned (.iface 163 (.pointer (some ⟨s2, 0, none⟩))) ∧ Sb w' s2 q2 C R 2 g ∧ w.heap.size ≤ s2 ∧ w.heap.size ≤ q2.1 ∧ (∀ j, j < R → w.heap.size ≤ q2.2 j) ∧ w.grownBy w' none := by
  have hm := _root_.Go.Proofs.YthjiiljglgmkpaaGreatDoor.m_measure h
  have hc1 := hz.c1
  have hr1 := hz.r1
  have hmk := run_make_row' (P := Tryz.prog) 81 5 (.int .u8 0) 1 under8S info8 rfl .i64 .i64 C (by omega) (by omega)
  go_enter Tryz.func56, Tryz.ntmps56
  go_wp2_with (first | (go_at_call 176; refine (measureC C R 2 w).mono ?_; rintro e V ⟨rfl, gV⟩; obtain ⟨W1, hW1, sz1, g1, B1⟩ := boxn V #[.int .i64 (C : Nat), .int .i64 (R : Nat), .int .i64 2] 98; have c0 := B1.cell 0 (v := .int .i64 (C : Nat)) rfl; have c1 := B1.cell 1 (v := .int .i64 (R : Nat)) rfl; have c2 := B1.cell 2 (v := .int .i64 2) rfl) | (go_at_call 67; refine (blankC C R hz W1).mono ?_; rintro e V2 ⟨s2, q2, rfl, hS2, l1, l2, l3, gV2⟩; have B2 := B1.kept gV2 (by simp); have d0 := B2.cell 0 (v := .int .i64 (C : Nat)) rfl; have d1 := B2.cell 1 (v := .int .i64 (R : Nat)) rfl; obtain ⟨W3, hW3, sz3, g3, B3⟩ := boxn V2 (madeCells #[.int .u8 0] C) 5; have hr3 := World.rowIs_made V2 (.int .u8 0) C 5; rw [hW3] at hr3; have E3 := B2.kept g3 (by simp); have e0 := E3.cell 0 (v := .int .i64 (C : Nat)) rfl; have e1 := E3.cell 1 (v := .int .i64 (R : Nat)) rfl))
  have gw2 : w.grownBy V2 none := gb_trans gV (gb_trans g1 gV2)
  have gw3 : w.grownBy W3 none := gb_trans gw2 g3
  obtain ⟨lts, ltq, ltw⟩ := sb_lts hS2
  have hrd := fun w => _root_.Go.Proofs.YthjiiljglgmkpaaGreatDoor.m_read s w
  have hly := fun w => m_lay s2 w
  have zw2 := gw2.size
  have zV := (gb_trans gV g1).size
  obtain ⟨d, hd⟩ : ∃ d, V2.heap.size = d := ⟨_, rfl⟩
  rw [hd] at hr3 lts ltq ltw zw2 ⊢
  clear hd
  have HLOW : Hid (∀ k, k < C * R → g k < 2) := hlow
  clear hlow
  go_loopw [19] (fun x wr => ∃ k : Nat, k ≤ R ∧ x = .int .i64 (k : Nat) ∧ Sb wr s2 q2 C R 2 (mvG g C k) ∧ (∃ f1, wr.rowIs d 5 C f1) ∧ w.grownBy wr none) (fun x _ => R - (intOf x).toNat)
  case atStart => exact ⟨0, Nat.zero_le _, rfl, (hS2.kept g3).congr (fun k _ => by simp [mvG]), ⟨_, hr3⟩, gw3⟩
  case round =>
    obtain ⟨k, hk, rfl, hSk, ⟨f1, hrow⟩, Gk⟩ := hrel
    by_cases hlt : k < R
    · have hlt' : (k : Int) < (R : Int) := by omega
      have hbk := h.kept Gk
      have hrc := _root_.Go.Proofs.YthjiiljglgmkpaaGreatDoor.readC s q C R 2 g hz k hlt d C f1 wr hbk hrow
      have hle := row_le (C := C) hlt
      have hnd : q2.2 k ≠ d := by have := ltw k hlt; omega
      have hlc := fun A hA hb => layC s2 q2 C R 2 (mvG g C k) hz k hlt (some ⟨d, 0, none⟩) C (fun x => g (k * C + x)) (fun x hx => HLOW.out _ (by omega)) A hA hb (fun a e => by cases e; exact hnd.symm)
      go_wp2_with (first | (go_at_call 197; refine hrc.mono ?_; rintro e A1 ⟨rfl, ra, ga⟩; have hA := hSk.keptX ga (fun i e => by cases e; exact ⟨by omega, by omega, fun j hj => by have := ltw j hj; omega⟩)) | (go_at_call 180; refine (hlc A1 hA (by_row2 ra)).mono ?_; rintro e A2 ⟨rfl, hS3, gb⟩; have rd := rowIs_kept ra gb (by simp; omega)))
      have hl3 := l3 k hlt
      refine ⟨⟨k + 1, hlt, by go_num, hS3.congr (fun j hj => ?_), ⟨_, rd⟩, gb_past (gb_past Gk ga (by omega)) gb (by omega)⟩, by simp [intOf]; omega⟩
      unfold mvG
      rw [Nat.add_mul, Nat.one_mul]
      by_cases h1 : k * C ≤ j ∧ j < k * C + C
      · rw [if_pos h1, if_pos h1.2, show k * C + (j - k * C) = j by omega]
      · rw [if_neg h1]
        by_cases h2 : j < k * C
        · rw [if_pos h2, if_pos (by omega)]
        · rw [if_neg h2, if_neg (by omega)]
    · have hkn : ¬ ((k : Int) < (R : Int)) := by omega
      obtain rfl : k = R := by omega
      go_wp2
      go_ret
      exact ⟨s2, rfl, q2.1, q2.2, hSk.congr (fun j hj => by unfold mvG; rw [if_pos (by rw [Nat.mul_comm]; exact hj)]), by omega, (show w.heap.size ≤ q2.1 by omega), fun j hj => (show w.heap.size ≤ q2.2 j by have := l3 j hj; omega), Gk⟩
end Go.Proofs.YthjiiljglgmkpaaGreatDoor.Tt
namespace Go.Proofs.YthjiiljglgmkpaaGreatDoor.Tt
open Go.RowKit
set_option linter.unusedVariables false
set_option linter.unusedSimpArgs false
set_option maxRecDepth 100000

theorem fitsC (C R : Nat) (w : World) : Calls Tryz.prog 96 #[.agg #[.int .i64 (C : Nat), .int .i64 (R : Nat), .int .i64 2]] w fun e w' => e = .returned (.bool true) ∧ w.grownBy w' none := by
  obtain ⟨W1, hW1, sz1, g1, B1⟩ := boxn w #[.int .i64 (C : Nat), .int .i64 (R : Nat), .int .i64 2] 98
  have c2 := B1.cell 2 (v := .int .i64 2) rfl
  go_enter Tryz.func96, Tryz.ntmps96
  go_wp2
  go_ret
  exact ⟨rfl, g1⟩
theorem fPackY (b s q C R : Nat) (g : Nat → Nat) (hz : Sz C R 2) (hlow : ∀ k, k < C * R → g k < 2) (w : World) (h : _root_.Go.Proofs.YthjiiljglgmkpaaGreatDoor.Fb w b s q C R 2 g) :
    Calls Tryz.prog 27 #[.pointer (some ⟨b, 0, none⟩), .bool true] w fun e w' => ∃ s2 q2, e = .returned (.int .i64 0) ∧ Fb w' b s2 q2 C R 2 g ∧ w.heap.size ≤ s2 ∧ w.heap.size ≤ q2.1 ∧ (∀ j, j < R → w.heap.size ≤ q2.2 j) ∧ w.grownBy w' (some b) := by
  have h0 := h.cell
  have hm := _root_.Go.Proofs.YthjiiljglgmkpaaGreatDoor.m_fitsBits h.st
  have hp := fun w => _root_.Go.Proofs.YthjiiljglgmkpaaGreatDoor.m_packed s w
  have bf := h.fld.frozen 0
  go_enter Tryz.func27, Tryz.ntmps27
  go_wp2_with (first | (go_at_call 46; refine (_root_.Go.Proofs.YthjiiljglgmkpaaGreatDoor.lacksN b s q C R 2 g w h).mono ?_; rintro e V ⟨rfl, hV⟩; subst V) | (go_at_call 96; refine (fitsC C R w).mono ?_; rintro e V ⟨rfl, gV⟩; have hV := h.kept gV; have v0 := hV.cell; have vf := hV.fld.frozen 0) | (go_at_call 196; refine (_root_.Go.Proofs.YthjiiljglgmkpaaGreatDoor.packedC s V).mono ?_; rintro e V3 ⟨rfl, hV3⟩; subst V3) | (go_at_call 56; refine (movedC s q C R g hz hlow V hV.st).mono ?_; rintro e V4 ⟨s2, q2, rfl, hS, l1, l2, l3, g4⟩; have h4 := hV.fld.kept g4 (by simp); have u0 := h4.cell 0 (v := .iface 165 (.pointer (some ⟨s, 0, none⟩))) rfl; have uf := h4.frozen 0))
  have hbl := h.fld.lt
  have zV := gV.size
  have g5 : V4.grownBy (V4.setCell ⟨b, 0, none⟩ (.iface 163 (.pointer (some ⟨s2, 0, none⟩)))) (some b) := gb_set (World.grownBy.refl _ _) _ _
  have fin : Fb (V4.setCell ⟨b, 0, none⟩ (.iface 163 (.pointer (some ⟨s2, 0, none⟩)))) b s2 q2 C R 2 g ∧ w.heap.size ≤ s2 ∧ w.heap.size ≤ q2.1 ∧ (∀ j, j < R → w.heap.size ≤ q2.2 j) ∧ w.grownBy (V4.setCell ⟨b, 0, none⟩ (.iface 163 (.pointer (some ⟨s2, 0, none⟩)))) (some b) :=
    ⟨⟨h4.set 0 _, hS.keptX g5 (fun i e => by cases e; exact ⟨by omega, by omega, fun j hj => by have := l3 j hj; omega⟩)⟩, by omega, by omega, fun j hj => by have := l3 j hj; omega, gb_set (gb_none (World.grownBy.refl _ _) (gb_trans gV g4)) _ _⟩
  go_ret
  first
    | exact ⟨s2, q2, rfl, fin⟩
    | exact ⟨rfl, s2, q2.1, q2.2, fin⟩
    | exact ⟨s2, q2.1, q2.2, rfl, fin⟩
    | exact ⟨rfl, s2, q2, fin⟩
end Go.Proofs.YthjiiljglgmkpaaGreatDoor.Tt
