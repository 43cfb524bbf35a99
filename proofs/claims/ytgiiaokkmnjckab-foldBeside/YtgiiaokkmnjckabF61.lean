/- The walk of FoldBeside. -/
import Derived.Test.YtgiiaokkmnjckabT7
import Derived.Test.YtgiiaokkmnjckabI7
import Derived.Deep.OwnRows
namespace Go.Proofs.Ytgiiaokkmnjckab
open Go.RowKit
open Fl
set_option linter.unusedVariables false
set_option linter.unusedSimpArgs false
set_option maxRecDepth 100000

theorem row_kept {w w' : World} {b : Nat} {t : TypeId} {n : Nat} {f : Nat → Value} {r : Option Nat} (h : w.rowIs b t n f) (hg : w.grownBy w' r) (hne : some b ≠ r) : w'.rowIs b t n f := h.of_block (hg.block b h.lt hne)
theorem underNS : Try.prog.underlying 31 = some (.slice 3) := by kernel_rfl
theorem infoNN : (Try.prog.info? 3).map (fun i => (i.zero, i.size, i.bytes)) = some (some (.int .i64 0), 1, 8) := by kernel_rfl
theorem gb_rowB {a b c : World} {v : Option Nat} (h : a.grownBy b none) (k : b.grownBy c v) (hv : ∀ i, v = some i → a.heap.size ≤ i) : a.grownBy c none :=
  ⟨k.os.trans h.os, k.tape.trans h.tape, k.output.trans h.output, Nat.le_trans h.size k.size, fun i hi _ => (k.block i (Nat.lt_of_lt_of_le hi h.size) (fun e => by have := hv i e.symm; omega)).trans (h.block i hi (by simp))⟩
theorem sq_lt {n i j : Nat} (hi : i < n) (hj : j < n) : n * i + j < n * n := by
  have := Nat.mul_le_mul_left n (show i + 1 ≤ n from hi)
  rw [Nat.mul_add] at this
  omega

set_option maxHeartbeats 16000000 in
theorem beside_core (k x y t z : Int) (n nn : Nat) (hnn : Hid (nn = n * n)) (n36 : n ≤ 36) (aw : ∀ w, Calls Try.prog 5 #[] w fun e w' => e = .returned (.bool true) ∧ w.grownBy w' none) (ck : ∀ w, Calls Try.prog 6 #[.agg #[.int .u8 k, .int .i64 x, .int .i64 y, .int .u8 t, .int .i64 z]] w fun e w' => e = .returned (.int .i64 0) ∧ w.grownBy w' none)
   (hx1 : decide (x < 1) = false) (hy1 : decide (y < 1) = false) (hx6 : decide (6 < x) = false) (hy6 : decide (6 < y) = false) (hxz : ¬ x = 0) (hh : ∀ w, Calls Try.prog 7 #[.agg #[.int .u8 k, .int .i64 x, .int .i64 y, .int .u8 t, .int .i64 z]] w fun e w' => e = .returned (.tuple #[.agg #[.int .i64 (To.fi x), .int .i64 (To.fi y), .int .i64 x, .int .i64 y], .int .i64 0]) ∧ w.grownBy w' none)
   (wn : IntKind.i64.wrap (x * y) = (n : Int)) (wnn : IntKind.i64.wrap ((n : Int) * (n : Int)) = (nn : Int))
   (cX cY : Nat → Int) (pX pY qX qY rX rY rE : Nat → Nat → Int) (is : Nat → Nat → Bool) (kq : Nat → Nat → Nat)
   (wc : ∀ i : Nat, i < n → (∃ r, Int.tmod (i : Int) x = r ∧ IntKind.i64.wrap (To.fi x + r) = cX i) ∧ ∃ e, IntKind.i64.wrap ((i : Int) / x) = e ∧ IntKind.i64.wrap (To.fi y + e) = cY i)
   (wp : ∀ i d : Nat, i < n → d < 9 → ∃ e f, IntKind.i64.wrap (cX i + (d : Int) % 3) = e ∧ IntKind.i64.wrap (e - 1) = pX i d ∧ IntKind.i64.wrap (cY i + (d : Int) / 3) = f ∧ IntKind.i64.wrap (f - 1) = pY i d)
   (hr0 : ∀ i, i < n → ∀ w, Calls Try.prog 8 #[.agg #[.int .u8 k, .int .i64 x, .int .i64 y, .int .u8 t, .int .i64 z], .agg #[.int .i64 (cX i), .int .i64 (cY i)]] w fun e w' => e = .returned (.tuple #[.agg #[.int .i64 (cX i), .int .i64 (cY i)], .bool true, .int .i64 0]) ∧ w.grownBy w' none)
   (hr : ∀ i d : Nat, i < n → d < 9 → ∀ w, Calls Try.prog 8 #[.agg #[.int .u8 k, .int .i64 x, .int .i64 y, .int .u8 t, .int .i64 z], .agg #[.int .i64 (pX i d), .int .i64 (pY i d)]] w fun e w' => e = .returned (.tuple #[.agg #[.int .i64 (qX i d), .int .i64 (qY i d)], .bool (is i d), .int .i64 0]) ∧ w.grownBy w' none)
   (hc : ∀ i d : Nat, i < n → d < 9 → ∀ w, Calls Try.prog 9 #[.agg #[.int .u8 k, .int .i64 x, .int .i64 y, .int .u8 t, .int .i64 z], .agg #[.int .i64 (pX i d), .int .i64 (pY i d)]] w fun e w' => e = .returned (.tuple #[.agg #[.int .i64 (rX i d), .int .i64 (rY i d)], .int .i64 (rE i d)]) ∧ w.grownBy w' none)
   (gl : Bool) (gd : ∀ w, Calls Try.prog 10 #[.agg #[.int .u8 k, .int .i64 x, .int .i64 y, .int .u8 t, .int .i64 z]] w fun e w' => e = .returned (.bool gl) ∧ w.grownBy w' none) (hgl : gl = true → ∀ i d, i < n → d < 9 → is i d = true ∧ rE i d = 0 ∧ rX i d = qX i d ∧ rY i d = qY i d)
   (hpl : ∀ i d : Nat, i < n → d < 9 → is i d = false → k = 1)
   (hk : ∀ i d : Nat, i < n → d < 9 → is i d = true → ∃ e f g h, IntKind.i64.wrap (qX i d - To.fi x) = e ∧ IntKind.i64.wrap (qY i d - To.fi y) = f ∧ IntKind.i64.wrap (x * f) = g ∧ IntKind.i64.wrap (e + g) = (kq i d : Int) ∧ kq i d < n ∧ ¬ qX i d < To.fi x ∧ IntKind.i64.wrap (To.fi x + x) = h ∧ ¬ h ≤ qX i d)
   (C : Nat → Nat → Nat) (hC0 : ∀ r, C 0 r = 0) (hCs : ∀ i d : Nat, i < n → d < 9 → ∀ r, C (9 * i + d + 1) r = C (9 * i + d) r + (if (is i d = true ∧ d ≠ 4) ∧ r = n * i + kq i d then 1 else 0)) (hCb : ∀ s r, C s r ≤ s)
   (hsym : ∀ i j, i < n → j < n → C (9 * n) (n * i + j) = C (9 * n) (n * j + i)) (w : World) : Calls Try.prog 3 #[.agg #[.int .u8 k, .int .i64 x, .int .i64 y, .int .u8 t, .int .i64 z]] w fun e w' => e = .returned (.bool true) ∧ w.grownBy w' none := by
  have hmk := run_make_row' (P := Try.prog) 31 3 (.int .i64 0) 8 underNS infoNN rfl .i64 .i64 nn (by have := hnn.out; have : n * n ≤ 36 * 36 := Nat.mul_le_mul n36 n36; omega) (by have := hnn.out; have : n * n ≤ 36 * 36 := Nat.mul_le_mul n36 n36; omega)
  obtain ⟨W1, hW1, sz1, g1, B1⟩ := boxn w #[.int .u8 k, .int .i64 x, .int .i64 y, .int .u8 t, .int .i64 z] 23
  have b1_1_0 := B1.cell 0 (v := .int .u8 k) rfl
  have b1_1_1 := B1.cell 1 (v := .int .i64 x) rfl
  have b1_1_2 := B1.cell 2 (v := .int .i64 y) rfl
  have b1_1_3 := B1.cell 3 (v := .int .u8 t) rfl
  have b1_1_4 := B1.cell 4 (v := .int .i64 z) rfl
  go_enter Try.func3, Try.ntmps3
  go_wp2_with (first | (go_at_call 5; (fail_if_success (guard_hyp g2)); refine (aw _).mono ?_; rintro e w2 ⟨rfl, g2⟩; have G2 := gb_trans g1 g2; have B1x := B1.kept g2 (by simp); clear b1_1_0 b1_1_1 b1_1_2 b1_1_3 b1_1_4; have b1_2_0 := B1x.cell 0 (v := .int .u8 k) rfl; have b1_2_1 := B1x.cell 1 (v := .int .i64 x) rfl; have b1_2_2 := B1x.cell 2 (v := .int .i64 y) rfl; have b1_2_3 := B1x.cell 3 (v := .int .u8 t) rfl; have b1_2_4 := B1x.cell 4 (v := .int .i64 z) rfl) | (go_at_call 6; (fail_if_success (guard_hyp g3)); refine (ck _).mono ?_; rintro e w3 ⟨rfl, g3⟩; have G3 := gb_trans G2 g3; have B1xx := B1x.kept g3 (by simp); clear b1_2_0 b1_2_1 b1_2_2 b1_2_3 b1_2_4; have b1_3_0 := B1xx.cell 0 (v := .int .u8 k) rfl; have b1_3_1 := B1xx.cell 1 (v := .int .i64 x) rfl; have b1_3_2 := B1xx.cell 2 (v := .int .i64 y) rfl; have b1_3_3 := B1xx.cell 3 (v := .int .u8 t) rfl; have b1_3_4 := B1xx.cell 4 (v := .int .i64 z) rfl) | (go_at_call 7; (fail_if_success (guard_hyp g4)); refine (hh _).mono ?_; rintro e w4 ⟨rfl, g4⟩; have G4 := gb_trans G3 g4; have B1xxx := B1xx.kept g4 (by simp); obtain ⟨W5, hW5, sz5, g5, B5⟩ := boxn w4 #[.int .i64 (To.fi x), .int .i64 (To.fi y), .int .i64 x, .int .i64 y] 28; have G5 := gb_trans G4 g5; have B1xxxx := B1xxx.kept g5 (by simp); clear b1_3_0 b1_3_1 b1_3_2 b1_3_3 b1_3_4; have b1_5_0 := B1xxxx.cell 0 (v := .int .u8 k) rfl; have b1_5_1 := B1xxxx.cell 1 (v := .int .i64 x) rfl; have b1_5_2 := B1xxxx.cell 2 (v := .int .i64 y) rfl; have b1_5_3 := B1xxxx.cell 3 (v := .int .u8 t) rfl; have b1_5_4 := B1xxxx.cell 4 (v := .int .i64 z) rfl; have b5_5_0 := B5.cell 0 (v := .int .i64 (To.fi x)) rfl; have b5_5_1 := B5.cell 1 (v := .int .i64 (To.fi y)) rfl; have b5_5_2 := B5.cell 2 (v := .int .i64 x) rfl; have b5_5_3 := B5.cell 3 (v := .int .i64 y) rfl; obtain ⟨WT, hWT⟩ : ∃ W, W5.alloc (.cells (madeCells #[.int .i64 0] nn) 3) = W := ⟨_, rfl⟩; have RT : WT.rowIs W5.heap.size 3 nn (fun _ => .int .i64 0) := hWT ▸ World.rowIs_made W5 (.int .i64 0) nn 3; have gT : World.grownBy W5 WT none := hWT ▸ World.grownBy_alloc _ _ _))
  go_loopw [8] (fun x wr => ∃ i : Nat, i ≤ n ∧ x = .int .i64 i ∧ wr.rowIs W5.heap.size 3 nn (fun r => .int .i64 (C (9 * i) r : Nat)) ∧ World.grownBy W5 wr none) (fun x _ => n - (intOf x).toNat)
  case atStart => exact ⟨0, by omega, rfl, RT.congr (fun r _ => by rw [Nat.mul_zero, hC0]; rfl), gT⟩
  case round =>
    clear b1_5_0 b1_5_1 b1_5_2 b1_5_3 b1_5_4 b5_5_0 b5_5_1 b5_5_2 b5_5_3
    obtain ⟨i, hin, rfl, R6, hg⟩ := hrel
    by_cases hi : i < n
    · have hi' : (i : Int) < (n : Int) := by omega
      have T6 := B1xxxx.kept hg (by simp)
      have H6 := B5.kept hg (by simp)
      obtain ⟨⟨rm, hrm, v1⟩, e0, v0, v2⟩ := wc i hi
      obtain ⟨W41, hW41, sz41, g41, B41⟩ := boxn wr #[.int .i64 (cX i), .int .i64 (cY i)] 33
      have G41 := gb_trans hg g41
      have T6x := T6.kept g41 (by simp)
      have H6x := H6.kept g41 (by simp)
      have ct_41_0 := T6x.cell 0 (v := .int .u8 k) rfl
      have ct_41_1 := T6x.cell 1 (v := .int .i64 x) rfl
      have ct_41_2 := T6x.cell 2 (v := .int .i64 y) rfl
      have ct_41_3 := T6x.cell 3 (v := .int .u8 t) rfl
      have ct_41_4 := T6x.cell 4 (v := .int .i64 z) rfl
      have ch_41_0 := H6x.cell 0 (v := .int .i64 (To.fi x)) rfl
      have ch_41_1 := H6x.cell 1 (v := .int .i64 (To.fi y)) rfl
      have ch_41_2 := H6x.cell 2 (v := .int .i64 x) rfl
      have ch_41_3 := H6x.cell 3 (v := .int .i64 y) rfl
      have b41_41_0 := B41.cell 0 (v := .int .i64 (cX i)) rfl
      have b41_41_1 := B41.cell 1 (v := .int .i64 (cY i)) rfl
      have ct0_1 := T6.cell 1 (v := .int .i64 x) rfl
      have ch0_0 := H6.cell 0 (v := .int .i64 (To.fi x)) rfl
      have ch0_1 := H6.cell 1 (v := .int .i64 (To.fi y)) rfl
      go_wp2
      go_region_held2 (fun w' => w'.cell? ⟨w.heap.size, 1, none⟩ = some (.int .i64 x) ∧ w'.cell? ⟨w4.heap.size, 0, none⟩ = some (.int .i64 (To.fi x)) ∧ w'.cell? ⟨w4.heap.size, 1, none⟩ = some (.int .i64 (To.fi y))) (go_keep) (fail)
      clear ct0_1 ch0_0 ch0_1
      have T6xd := T6x.dr
      have H6xd := H6x.dr
      have B41d := B41.dr
      have G41d := gb_drew G41
      have ctz_41_0 := T6xd.cell 0 (v := .int .u8 k) rfl
      have ctz_41_1 := T6xd.cell 1 (v := .int .i64 x) rfl
      have ctz_41_2 := T6xd.cell 2 (v := .int .i64 y) rfl
      have ctz_41_3 := T6xd.cell 3 (v := .int .u8 t) rfl
      have ctz_41_4 := T6xd.cell 4 (v := .int .i64 z) rfl
      have chz_41_0 := H6xd.cell 0 (v := .int .i64 (To.fi x)) rfl
      have chz_41_1 := H6xd.cell 1 (v := .int .i64 (To.fi y)) rfl
      have chz_41_2 := H6xd.cell 2 (v := .int .i64 x) rfl
      have chz_41_3 := H6xd.cell 3 (v := .int .i64 y) rfl
      have b41z_41_0 := B41d.cell 0 (v := .int .i64 (cX i)) rfl
      have b41z_41_1 := B41d.cell 1 (v := .int .i64 (cY i)) rfl
      go_wp2_with (first | (go_at_call 8; (fail_if_success (guard_hyp g42)); refine (hr0 i hi _).mono ?_; rintro e w42 ⟨rfl, g42⟩; have G42 := gb_trans G41d g42; have T6xdx := T6xd.kept g42 (by simp); have H6xdx := H6xd.kept g42 (by simp); have B41dx := B41d.kept g42 (by simp); obtain ⟨W43, hW43, sz43, g43, B43⟩ := boxn w42 #[.int .i64 (cX i), .int .i64 (cY i)] 33; have G43 := gb_trans G42 g43; have T6xdxx := T6xdx.kept g43 (by simp); have H6xdxx := H6xdx.kept g43 (by simp); have B41dxx := B41dx.kept g43 (by simp); clear ct_41_0 ct_41_1 ct_41_2 ct_41_3 ct_41_4 ch_41_0 ch_41_1 ch_41_2 ch_41_3 b41_41_0 b41_41_1 ctz_41_0 ctz_41_1 ctz_41_2 ctz_41_3 ctz_41_4 chz_41_0 chz_41_1 chz_41_2 chz_41_3 b41z_41_0 b41z_41_1; have ctz_43_0 := T6xdxx.cell 0 (v := .int .u8 k) rfl; have ctz_43_1 := T6xdxx.cell 1 (v := .int .i64 x) rfl; have ctz_43_2 := T6xdxx.cell 2 (v := .int .i64 y) rfl; have ctz_43_3 := T6xdxx.cell 3 (v := .int .u8 t) rfl; have ctz_43_4 := T6xdxx.cell 4 (v := .int .i64 z) rfl; have chz_43_0 := H6xdxx.cell 0 (v := .int .i64 (To.fi x)) rfl; have chz_43_1 := H6xdxx.cell 1 (v := .int .i64 (To.fi y)) rfl; have chz_43_2 := H6xdxx.cell 2 (v := .int .i64 x) rfl; have chz_43_3 := H6xdxx.cell 3 (v := .int .i64 y) rfl; have b41z_43_0 := B41dxx.cell 0 (v := .int .i64 (cX i)) rfl; have b41z_43_1 := B41dxx.cell 1 (v := .int .i64 (cY i)) rfl; have b43_43_0 := B43.cell 0 (v := .int .i64 (cX i)) rfl; have b43_43_1 := B43.cell 1 (v := .int .i64 (cY i)) rfl; have RI_ := row_kept R6 (gb_trans (gb_drew g41) (gb_trans g42 g43)) (by simp)))
      have gI := G43
      have TI_ := T6xdxx
      have HI_ := H6xdxx
      have CI_ := B41dxx
      have q1 : w.heap.size < W5.heap.size := B1xxxx.lt
      have q2 : w4.heap.size < W5.heap.size := B5.lt
      have q3 : W5.heap.size < wr.heap.size := R6.lt
      obtain ⟨wC, hwC⟩ : ∃ v, wr = v := ⟨_, rfl⟩
      clear hrm v0 v1 v2 ctz_43_0 ctz_43_1 ctz_43_2 ctz_43_3 ctz_43_4 chz_43_0 chz_43_1 chz_43_2 chz_43_3 b41z_43_0 b41z_43_1 b43_43_0 b43_43_1
      rw [hwC] at CI_ q3 ⊢
      go_loopw [13] (fun x wr => ∃ d : Nat, d ≤ 9 ∧ x = .int .i64 d ∧ wr.rowIs W5.heap.size 3 nn (fun r => .int .i64 (C (9 * i + d) r : Nat)) ∧ World.grownBy W43 wr (some W5.heap.size)) (fun x _ => 9 - (intOf x).toNat)
      case atStart => exact ⟨0, by omega, rfl, RI_, World.grownBy.refl _ _⟩
      case round =>
        obtain ⟨d, hd9, rfl, R7, hg7⟩ := hrel
        by_cases hd : d < 9
        · have hd' : (d : Int) < 9 := by omega
          have T7 := TI_.kept hg7 (fun e => by injection e with e; omega)
          have H7 := HI_.kept hg7 (fun e => by injection e with e; omega)
          have C7 := CI_.kept hg7 (fun e => by injection e with e; omega)
          obtain ⟨e1, e2, v1, v2, v3, v4⟩ := wp i d hi hd
          have cw0 := C7.cell 0 (v := .int .i64 (cX i)) rfl
          have cw1 := C7.cell 1 (v := .int .i64 (cY i)) rfl
          have G7 := World.grownBy.refl wr none
          cases isT : is i d with
          | true =>
            cases gl with
            | true =>
              by_cases d4 : d = 4
              · as_aux_lemma =>
                  obtain ⟨e5, e6, e7, e8, u1, u2, u3, u4, hkn, u5, u6, u7⟩ := hk i d hi hd isT
                  have u8 : ¬ (n : Int) ≤ (kq i d : Int) := by omega
                  have u9 : ¬ (kq i d : Int) < 0 := by omega
                  have hr7 := hr i d hi hd
                  have hc7 := hc i d hi hd
                  rw [isT] at hr7
                  obtain ⟨_, g1, g2, g3⟩ := hgl rfl i d hi hd
                  rw [g1, g2, g3] at hc7
                  clear g1 g2 g3
                  have d4' : ((d : Int) != 4) = false := by rw [d4]; rfl
                  have hCd : ∀ r, C (9 * i + d + 1) r = C (9 * i + d) r := fun r => by rw [hCs i d hi hd r, if_neg (fun q => q.1.2 d4), Nat.add_zero]
                  clear d4
                  have K9 : True := trivial
                  obtain ⟨W61, hW61, sz61, g61, B61⟩ := boxn wr #[.int .i64 (pX i d), .int .i64 (pY i d)] 33
                  have G61 := gb_trans G7 g61
                  have T7x := T7.kept g61 (by simp)
                  have H7x := H7.kept g61 (by simp)
                  have C7x := C7.kept g61 (by simp)
                  have ct_61_0 := T7x.cell 0 (v := .int .u8 k) rfl
                  have ct_61_1 := T7x.cell 1 (v := .int .i64 x) rfl
                  have ct_61_2 := T7x.cell 2 (v := .int .i64 y) rfl
                  have ct_61_3 := T7x.cell 3 (v := .int .u8 t) rfl
                  have ct_61_4 := T7x.cell 4 (v := .int .i64 z) rfl
                  have ch_61_0 := H7x.cell 0 (v := .int .i64 (To.fi x)) rfl
                  have ch_61_1 := H7x.cell 1 (v := .int .i64 (To.fi y)) rfl
                  have ch_61_2 := H7x.cell 2 (v := .int .i64 x) rfl
                  have ch_61_3 := H7x.cell 3 (v := .int .i64 y) rfl
                  have cc_61_0 := C7x.cell 0 (v := .int .i64 (cX i)) rfl
                  have cc_61_1 := C7x.cell 1 (v := .int .i64 (cY i)) rfl
                  have b61_61_0 := B61.cell 0 (v := .int .i64 (pX i d)) rfl
                  have b61_61_1 := B61.cell 1 (v := .int .i64 (pY i d)) rfl
                  go_wp2_with (first | (go_at_call 8; (fail_if_success (guard_hyp g62)); refine (hr7 _).mono ?_; rintro e w62 ⟨rfl, g62⟩; have G62 := gb_trans G61 g62; have T7xx := T7x.kept g62 (by simp); have H7xx := H7x.kept g62 (by simp); have C7xx := C7x.kept g62 (by simp); have B61x := B61.kept g62 (by simp); obtain ⟨W63, hW63, sz63, g63, B63⟩ := boxn w62 #[.int .i64 (qX i d), .int .i64 (qY i d)] 33; have G63 := gb_trans G62 g63; have T7xxx := T7xx.kept g63 (by simp); have H7xxx := H7xx.kept g63 (by simp); have C7xxx := C7xx.kept g63 (by simp); have B61xx := B61x.kept g63 (by simp); clear ct_61_0 ct_61_1 ct_61_2 ct_61_3 ct_61_4 ch_61_0 ch_61_1 ch_61_2 ch_61_3 cc_61_0 cc_61_1 b61_61_0 b61_61_1; have ct_63_0 := T7xxx.cell 0 (v := .int .u8 k) rfl; have ct_63_1 := T7xxx.cell 1 (v := .int .i64 x) rfl; have ct_63_2 := T7xxx.cell 2 (v := .int .i64 y) rfl; have ct_63_3 := T7xxx.cell 3 (v := .int .u8 t) rfl; have ct_63_4 := T7xxx.cell 4 (v := .int .i64 z) rfl; have ch_63_0 := H7xxx.cell 0 (v := .int .i64 (To.fi x)) rfl; have ch_63_1 := H7xxx.cell 1 (v := .int .i64 (To.fi y)) rfl; have ch_63_2 := H7xxx.cell 2 (v := .int .i64 x) rfl; have ch_63_3 := H7xxx.cell 3 (v := .int .i64 y) rfl; have cc_63_0 := C7xxx.cell 0 (v := .int .i64 (cX i)) rfl; have cc_63_1 := C7xxx.cell 1 (v := .int .i64 (cY i)) rfl; have b61_63_0 := B61xx.cell 0 (v := .int .i64 (pX i d)) rfl; have b61_63_1 := B61xx.cell 1 (v := .int .i64 (pY i d)) rfl; have b63_63_0 := B63.cell 0 (v := .int .i64 (qX i d)) rfl; have b63_63_1 := B63.cell 1 (v := .int .i64 (qY i d)) rfl) | (go_at_call 9; (fail_if_success (guard_hyp g64)); refine (hc7 _).mono ?_; rintro e w64 ⟨rfl, g64⟩; have G64 := gb_trans G63 g64; have T7xxxx := T7xxx.kept g64 (by simp); have H7xxxx := H7xxx.kept g64 (by simp); have C7xxxx := C7xxx.kept g64 (by simp); have B61xxx := B61xx.kept g64 (by simp); have B63x := B63.kept g64 (by simp); obtain ⟨W65, hW65, sz65, g65, B65⟩ := boxn w64 #[.int .i64 (qX i d), .int .i64 (qY i d)] 33; have G65 := gb_trans G64 g65; have T7xxxxx := T7xxxx.kept g65 (by simp); have H7xxxxx := H7xxxx.kept g65 (by simp); have C7xxxxx := C7xxxx.kept g65 (by simp); have B61xxxx := B61xxx.kept g65 (by simp); have B63xx := B63x.kept g65 (by simp); clear ct_63_0 ct_63_1 ct_63_2 ct_63_3 ct_63_4 ch_63_0 ch_63_1 ch_63_2 ch_63_3 cc_63_0 cc_63_1 b61_63_0 b61_63_1 b63_63_0 b63_63_1; have ct_65_0 := T7xxxxx.cell 0 (v := .int .u8 k) rfl; have ct_65_1 := T7xxxxx.cell 1 (v := .int .i64 x) rfl; have ct_65_2 := T7xxxxx.cell 2 (v := .int .i64 y) rfl; have ct_65_3 := T7xxxxx.cell 3 (v := .int .u8 t) rfl; have ct_65_4 := T7xxxxx.cell 4 (v := .int .i64 z) rfl; have ch_65_0 := H7xxxxx.cell 0 (v := .int .i64 (To.fi x)) rfl; have ch_65_1 := H7xxxxx.cell 1 (v := .int .i64 (To.fi y)) rfl; have ch_65_2 := H7xxxxx.cell 2 (v := .int .i64 x) rfl; have ch_65_3 := H7xxxxx.cell 3 (v := .int .i64 y) rfl; have cc_65_0 := C7xxxxx.cell 0 (v := .int .i64 (cX i)) rfl; have cc_65_1 := C7xxxxx.cell 1 (v := .int .i64 (cY i)) rfl; have b61_65_0 := B61xxxx.cell 0 (v := .int .i64 (pX i d)) rfl; have b61_65_1 := B61xxxx.cell 1 (v := .int .i64 (pY i d)) rfl; have b63_65_0 := B63xx.cell 0 (v := .int .i64 (qX i d)) rfl; have b63_65_1 := B63xx.cell 1 (v := .int .i64 (qY i d)) rfl; have b65_65_0 := B65.cell 0 (v := .int .i64 (qX i d)) rfl; have b65_65_1 := B65.cell 1 (v := .int .i64 (qY i d)) rfl) | (go_at_call 10; (fail_if_success (guard_hyp g66)); refine (gd _).mono ?_; rintro e w66 ⟨rfl, g66⟩; have G66 := gb_trans G65 g66; have T7xxxxxx := T7xxxxx.kept g66 (by simp); have H7xxxxxx := H7xxxxx.kept g66 (by simp); have C7xxxxxx := C7xxxxx.kept g66 (by simp); have B61xxxxx := B61xxxx.kept g66 (by simp); have B63xxx := B63xx.kept g66 (by simp); have B65x := B65.kept g66 (by simp); clear ct_65_0 ct_65_1 ct_65_2 ct_65_3 ct_65_4 ch_65_0 ch_65_1 ch_65_2 ch_65_3 cc_65_0 cc_65_1 b61_65_0 b61_65_1 b63_65_0 b63_65_1 b65_65_0 b65_65_1; have ct_66_0 := T7xxxxxx.cell 0 (v := .int .u8 k) rfl; have ct_66_1 := T7xxxxxx.cell 1 (v := .int .i64 x) rfl; have ct_66_2 := T7xxxxxx.cell 2 (v := .int .i64 y) rfl; have ct_66_3 := T7xxxxxx.cell 3 (v := .int .u8 t) rfl; have ct_66_4 := T7xxxxxx.cell 4 (v := .int .i64 z) rfl; have ch_66_0 := H7xxxxxx.cell 0 (v := .int .i64 (To.fi x)) rfl; have ch_66_1 := H7xxxxxx.cell 1 (v := .int .i64 (To.fi y)) rfl; have ch_66_2 := H7xxxxxx.cell 2 (v := .int .i64 x) rfl; have ch_66_3 := H7xxxxxx.cell 3 (v := .int .i64 y) rfl; have cc_66_0 := C7xxxxxx.cell 0 (v := .int .i64 (cX i)) rfl; have cc_66_1 := C7xxxxxx.cell 1 (v := .int .i64 (cY i)) rfl; have b61_66_0 := B61xxxxx.cell 0 (v := .int .i64 (pX i d)) rfl; have b61_66_1 := B61xxxxx.cell 1 (v := .int .i64 (pY i d)) rfl; have b63_66_0 := B63xxx.cell 0 (v := .int .i64 (qX i d)) rfl; have b63_66_1 := B63xxx.cell 1 (v := .int .i64 (qY i d)) rfl; have b65_66_0 := B65x.cell 0 (v := .int .i64 (qX i d)) rfl; have b65_66_1 := B65x.cell 1 (v := .int .i64 (qY i d)) rfl; have RF := row_kept R7 (gb_trans g61 (gb_trans g62 (gb_trans g63 (gb_trans g64 (gb_trans g65 g66))))) (by simp)))
                  have hrow : World.rowIs w66 W5.heap.size 3 nn (fun r => .int .i64 (C (9 * i + (d + 1)) r : Nat)) := RF.congr fun r hr => by
                    rw [show 9 * i + (d + 1) = 9 * i + d + 1 by omega, hCd r] <;> rfl
                  have hgr := gb_none hg7 (gb_trans g61 (gb_trans g62 (gb_trans g63 (gb_trans g64 (gb_trans g65 g66)))))
                  first
                    | (refine ⟨⟨d + 1, by omega, by go_num, hrow, hgr⟩, ?_⟩; simp [intOf]; omega)
                    | (go_roundw; (case rel => exact ⟨d + 1, by omega, by go_num, hrow, hgr⟩); (case measure => (simp [intOf]; omega)))
              · as_aux_lemma =>
                  obtain ⟨e5, e6, e7, e8, u1, u2, u3, u4, hkn, u5, u6, u7⟩ := hk i d hi hd isT
                  have u8 : ¬ (n : Int) ≤ (kq i d : Int) := by omega
                  have u9 : ¬ (kq i d : Int) < 0 := by omega
                  have hr7 := hr i d hi hd
                  have hc7 := hc i d hi hd
                  rw [isT] at hr7
                  obtain ⟨_, g1, g2, g3⟩ := hgl rfl i d hi hd
                  rw [g1, g2, g3] at hc7
                  clear g1 g2 g3
                  have d4' : ((d : Int) != 4) = true := by simp; omega
                  obtain ⟨ix, eix⟩ : ∃ v, n * i + kq i d = v := ⟨_, rfl⟩
                  have hix : ix < nn := by rw [← eix, hnn.out]; exact sq_lt hi hkn
                  have hCd : ∀ r, C (9 * i + d + 1) r = C (9 * i + d) r + (if r = ix then 1 else 0) := fun r => by
                    rw [hCs i d hi hd r, eix]
                    by_cases e : r = ix
                    · rw [if_pos ⟨⟨isT, d4⟩, e⟩, if_pos e]
                    · rw [if_neg (fun q => e q.2), if_neg e]
                  have hn36' : n * i ≤ 36 * 36 := Nat.mul_le_mul n36 (by omega)
                  have w1 : IntKind.i64.wrap ((n : Int) * (i : Int)) = ((n * i : Nat) : Int) := by rw [show (n : Int) * (i : Int) = ((n * i : Nat) : Int) by simp, IntKind.wrap_i64]; omega
                  have w2 : IntKind.i64.wrap (((n * i : Nat) : Int) + (kq i d : Int)) = (ix : Int) := by rw [← eix, IntKind.wrap_i64]; omega
                  have hb := hCb (9 * i + d) ix
                  have w3 : IntKind.i64.wrap (((C (9 * i + d) ix : Nat) : Int) + 1) = ((C (9 * i + d) ix : Nat) : Int) + 1 := by rw [IntKind.wrap_i64]; omega
                  have w4 : (ix : Int) < (nn : Int) := by omega
                  have w1' : Hid (n * i ≤ 1296) := by unfold Hid; omega
                  generalize n * i = ni at w1 w2 w1'
                  clear eix hb hn36'
                  have K9 : True := trivial
                  obtain ⟨W61, hW61, sz61, g61, B61⟩ := boxn wr #[.int .i64 (pX i d), .int .i64 (pY i d)] 33
                  have G61 := gb_trans G7 g61
                  have T7x := T7.kept g61 (by simp)
                  have H7x := H7.kept g61 (by simp)
                  have C7x := C7.kept g61 (by simp)
                  have ct_61_0 := T7x.cell 0 (v := .int .u8 k) rfl
                  have ct_61_1 := T7x.cell 1 (v := .int .i64 x) rfl
                  have ct_61_2 := T7x.cell 2 (v := .int .i64 y) rfl
                  have ct_61_3 := T7x.cell 3 (v := .int .u8 t) rfl
                  have ct_61_4 := T7x.cell 4 (v := .int .i64 z) rfl
                  have ch_61_0 := H7x.cell 0 (v := .int .i64 (To.fi x)) rfl
                  have ch_61_1 := H7x.cell 1 (v := .int .i64 (To.fi y)) rfl
                  have ch_61_2 := H7x.cell 2 (v := .int .i64 x) rfl
                  have ch_61_3 := H7x.cell 3 (v := .int .i64 y) rfl
                  have cc_61_0 := C7x.cell 0 (v := .int .i64 (cX i)) rfl
                  have cc_61_1 := C7x.cell 1 (v := .int .i64 (cY i)) rfl
                  have b61_61_0 := B61.cell 0 (v := .int .i64 (pX i d)) rfl
                  have b61_61_1 := B61.cell 1 (v := .int .i64 (pY i d)) rfl
                  go_wp2_with (first | (go_at_call 8; (fail_if_success (guard_hyp g62)); refine (hr7 _).mono ?_; rintro e w62 ⟨rfl, g62⟩; have G62 := gb_trans G61 g62; have T7xx := T7x.kept g62 (by simp); have H7xx := H7x.kept g62 (by simp); have C7xx := C7x.kept g62 (by simp); have B61x := B61.kept g62 (by simp); obtain ⟨W63, hW63, sz63, g63, B63⟩ := boxn w62 #[.int .i64 (qX i d), .int .i64 (qY i d)] 33; have G63 := gb_trans G62 g63; have T7xxx := T7xx.kept g63 (by simp); have H7xxx := H7xx.kept g63 (by simp); have C7xxx := C7xx.kept g63 (by simp); have B61xx := B61x.kept g63 (by simp); clear ct_61_0 ct_61_1 ct_61_2 ct_61_3 ct_61_4 ch_61_0 ch_61_1 ch_61_2 ch_61_3 cc_61_0 cc_61_1 b61_61_0 b61_61_1; have ct_63_0 := T7xxx.cell 0 (v := .int .u8 k) rfl; have ct_63_1 := T7xxx.cell 1 (v := .int .i64 x) rfl; have ct_63_2 := T7xxx.cell 2 (v := .int .i64 y) rfl; have ct_63_3 := T7xxx.cell 3 (v := .int .u8 t) rfl; have ct_63_4 := T7xxx.cell 4 (v := .int .i64 z) rfl; have ch_63_0 := H7xxx.cell 0 (v := .int .i64 (To.fi x)) rfl; have ch_63_1 := H7xxx.cell 1 (v := .int .i64 (To.fi y)) rfl; have ch_63_2 := H7xxx.cell 2 (v := .int .i64 x) rfl; have ch_63_3 := H7xxx.cell 3 (v := .int .i64 y) rfl; have cc_63_0 := C7xxx.cell 0 (v := .int .i64 (cX i)) rfl; have cc_63_1 := C7xxx.cell 1 (v := .int .i64 (cY i)) rfl; have b61_63_0 := B61xx.cell 0 (v := .int .i64 (pX i d)) rfl; have b61_63_1 := B61xx.cell 1 (v := .int .i64 (pY i d)) rfl; have b63_63_0 := B63.cell 0 (v := .int .i64 (qX i d)) rfl; have b63_63_1 := B63.cell 1 (v := .int .i64 (qY i d)) rfl) | (go_at_call 9; (fail_if_success (guard_hyp g64)); refine (hc7 _).mono ?_; rintro e w64 ⟨rfl, g64⟩; have G64 := gb_trans G63 g64; have T7xxxx := T7xxx.kept g64 (by simp); have H7xxxx := H7xxx.kept g64 (by simp); have C7xxxx := C7xxx.kept g64 (by simp); have B61xxx := B61xx.kept g64 (by simp); have B63x := B63.kept g64 (by simp); obtain ⟨W65, hW65, sz65, g65, B65⟩ := boxn w64 #[.int .i64 (qX i d), .int .i64 (qY i d)] 33; have G65 := gb_trans G64 g65; have T7xxxxx := T7xxxx.kept g65 (by simp); have H7xxxxx := H7xxxx.kept g65 (by simp); have C7xxxxx := C7xxxx.kept g65 (by simp); have B61xxxx := B61xxx.kept g65 (by simp); have B63xx := B63x.kept g65 (by simp); clear ct_63_0 ct_63_1 ct_63_2 ct_63_3 ct_63_4 ch_63_0 ch_63_1 ch_63_2 ch_63_3 cc_63_0 cc_63_1 b61_63_0 b61_63_1 b63_63_0 b63_63_1; have ct_65_0 := T7xxxxx.cell 0 (v := .int .u8 k) rfl; have ct_65_1 := T7xxxxx.cell 1 (v := .int .i64 x) rfl; have ct_65_2 := T7xxxxx.cell 2 (v := .int .i64 y) rfl; have ct_65_3 := T7xxxxx.cell 3 (v := .int .u8 t) rfl; have ct_65_4 := T7xxxxx.cell 4 (v := .int .i64 z) rfl; have ch_65_0 := H7xxxxx.cell 0 (v := .int .i64 (To.fi x)) rfl; have ch_65_1 := H7xxxxx.cell 1 (v := .int .i64 (To.fi y)) rfl; have ch_65_2 := H7xxxxx.cell 2 (v := .int .i64 x) rfl; have ch_65_3 := H7xxxxx.cell 3 (v := .int .i64 y) rfl; have cc_65_0 := C7xxxxx.cell 0 (v := .int .i64 (cX i)) rfl; have cc_65_1 := C7xxxxx.cell 1 (v := .int .i64 (cY i)) rfl; have b61_65_0 := B61xxxx.cell 0 (v := .int .i64 (pX i d)) rfl; have b61_65_1 := B61xxxx.cell 1 (v := .int .i64 (pY i d)) rfl; have b63_65_0 := B63xx.cell 0 (v := .int .i64 (qX i d)) rfl; have b63_65_1 := B63xx.cell 1 (v := .int .i64 (qY i d)) rfl; have b65_65_0 := B65.cell 0 (v := .int .i64 (qX i d)) rfl; have b65_65_1 := B65.cell 1 (v := .int .i64 (qY i d)) rfl) | (go_at_call 10; (fail_if_success (guard_hyp g66)); refine (gd _).mono ?_; rintro e w66 ⟨rfl, g66⟩; have G66 := gb_trans G65 g66; have T7xxxxxx := T7xxxxx.kept g66 (by simp); have H7xxxxxx := H7xxxxx.kept g66 (by simp); have C7xxxxxx := C7xxxxx.kept g66 (by simp); have B61xxxxx := B61xxxx.kept g66 (by simp); have B63xxx := B63xx.kept g66 (by simp); have B65x := B65.kept g66 (by simp); clear ct_65_0 ct_65_1 ct_65_2 ct_65_3 ct_65_4 ch_65_0 ch_65_1 ch_65_2 ch_65_3 cc_65_0 cc_65_1 b61_65_0 b61_65_1 b63_65_0 b63_65_1 b65_65_0 b65_65_1; have ct_66_0 := T7xxxxxx.cell 0 (v := .int .u8 k) rfl; have ct_66_1 := T7xxxxxx.cell 1 (v := .int .i64 x) rfl; have ct_66_2 := T7xxxxxx.cell 2 (v := .int .i64 y) rfl; have ct_66_3 := T7xxxxxx.cell 3 (v := .int .u8 t) rfl; have ct_66_4 := T7xxxxxx.cell 4 (v := .int .i64 z) rfl; have ch_66_0 := H7xxxxxx.cell 0 (v := .int .i64 (To.fi x)) rfl; have ch_66_1 := H7xxxxxx.cell 1 (v := .int .i64 (To.fi y)) rfl; have ch_66_2 := H7xxxxxx.cell 2 (v := .int .i64 x) rfl; have ch_66_3 := H7xxxxxx.cell 3 (v := .int .i64 y) rfl; have cc_66_0 := C7xxxxxx.cell 0 (v := .int .i64 (cX i)) rfl; have cc_66_1 := C7xxxxxx.cell 1 (v := .int .i64 (cY i)) rfl; have b61_66_0 := B61xxxxx.cell 0 (v := .int .i64 (pX i d)) rfl; have b61_66_1 := B61xxxxx.cell 1 (v := .int .i64 (pY i d)) rfl; have b63_66_0 := B63xxx.cell 0 (v := .int .i64 (qX i d)) rfl; have b63_66_1 := B63xxx.cell 1 (v := .int .i64 (qY i d)) rfl; have b65_66_0 := B65x.cell 0 (v := .int .i64 (qX i d)) rfl; have b65_66_1 := B65x.cell 1 (v := .int .i64 (qY i d)) rfl; have RF := row_kept R7 (gb_trans g61 (gb_trans g62 (gb_trans g63 (gb_trans g64 (gb_trans g65 g66))))) (by simp); have cell7 := RF.cell hix; have froz7 := RF.frozen ix))
                  have hrow : World.rowIs (w66.setCell ⟨W5.heap.size, ix, none⟩ (.int .i64 (((C (9 * i + d) ix : Nat) : Int) + 1))) W5.heap.size 3 nn (fun r => .int .i64 (C (9 * i + (d + 1)) r : Nat)) := (RF.set ix (.int .i64 (((C (9 * i + d) ix : Nat) : Int) + 1))).congr fun r hr => by
                    show (if r = ix then _ else _) = _
                    rw [show 9 * i + (d + 1) = 9 * i + d + 1 by omega, hCd r]
                    by_cases e : r = ix
                    · rw [if_pos e, if_pos e, e] <;> rfl
                    · rw [if_neg e, if_neg e] <;> rfl
                  have hgr := gb_set (gb_none hg7 (gb_trans g61 (gb_trans g62 (gb_trans g63 (gb_trans g64 (gb_trans g65 g66)))))) ix (.int .i64 (((C (9 * i + d) ix : Nat) : Int) + 1))
                  first
                    | (refine ⟨⟨d + 1, by omega, by go_num, hrow, hgr⟩, ?_⟩; simp [intOf]; omega)
                    | (go_roundw; (case rel => exact ⟨d + 1, by omega, by go_num, hrow, hgr⟩); (case measure => (simp [intOf]; omega)))
            | false =>
              by_cases d4 : d = 4
              · as_aux_lemma =>
                  obtain ⟨e5, e6, e7, e8, u1, u2, u3, u4, hkn, u5, u6, u7⟩ := hk i d hi hd isT
                  have u8 : ¬ (n : Int) ≤ (kq i d : Int) := by omega
                  have u9 : ¬ (kq i d : Int) < 0 := by omega
                  have hr7 := hr i d hi hd
                  have hc7 := hc i d hi hd
                  rw [isT] at hr7
                  have d4' : ((d : Int) != 4) = false := by rw [d4]; rfl
                  have hCd : ∀ r, C (9 * i + d + 1) r = C (9 * i + d) r := fun r => by rw [hCs i d hi hd r, if_neg (fun q => q.1.2 d4), Nat.add_zero]
                  clear d4
                  have K9 : True := trivial
                  obtain ⟨W61, hW61, sz61, g61, B61⟩ := boxn wr #[.int .i64 (pX i d), .int .i64 (pY i d)] 33
                  have G61 := gb_trans G7 g61
                  have T7x := T7.kept g61 (by simp)
                  have H7x := H7.kept g61 (by simp)
                  have C7x := C7.kept g61 (by simp)
                  have ct_61_0 := T7x.cell 0 (v := .int .u8 k) rfl
                  have ct_61_1 := T7x.cell 1 (v := .int .i64 x) rfl
                  have ct_61_2 := T7x.cell 2 (v := .int .i64 y) rfl
                  have ct_61_3 := T7x.cell 3 (v := .int .u8 t) rfl
                  have ct_61_4 := T7x.cell 4 (v := .int .i64 z) rfl
                  have ch_61_0 := H7x.cell 0 (v := .int .i64 (To.fi x)) rfl
                  have ch_61_1 := H7x.cell 1 (v := .int .i64 (To.fi y)) rfl
                  have ch_61_2 := H7x.cell 2 (v := .int .i64 x) rfl
                  have ch_61_3 := H7x.cell 3 (v := .int .i64 y) rfl
                  have cc_61_0 := C7x.cell 0 (v := .int .i64 (cX i)) rfl
                  have cc_61_1 := C7x.cell 1 (v := .int .i64 (cY i)) rfl
                  have b61_61_0 := B61.cell 0 (v := .int .i64 (pX i d)) rfl
                  have b61_61_1 := B61.cell 1 (v := .int .i64 (pY i d)) rfl
                  go_wp2_with (first | (go_at_call 8; (fail_if_success (guard_hyp g62)); refine (hr7 _).mono ?_; rintro e w62 ⟨rfl, g62⟩; have G62 := gb_trans G61 g62; have T7xx := T7x.kept g62 (by simp); have H7xx := H7x.kept g62 (by simp); have C7xx := C7x.kept g62 (by simp); have B61x := B61.kept g62 (by simp); obtain ⟨W63, hW63, sz63, g63, B63⟩ := boxn w62 #[.int .i64 (qX i d), .int .i64 (qY i d)] 33; have G63 := gb_trans G62 g63; have T7xxx := T7xx.kept g63 (by simp); have H7xxx := H7xx.kept g63 (by simp); have C7xxx := C7xx.kept g63 (by simp); have B61xx := B61x.kept g63 (by simp); clear ct_61_0 ct_61_1 ct_61_2 ct_61_3 ct_61_4 ch_61_0 ch_61_1 ch_61_2 ch_61_3 cc_61_0 cc_61_1 b61_61_0 b61_61_1; have ct_63_0 := T7xxx.cell 0 (v := .int .u8 k) rfl; have ct_63_1 := T7xxx.cell 1 (v := .int .i64 x) rfl; have ct_63_2 := T7xxx.cell 2 (v := .int .i64 y) rfl; have ct_63_3 := T7xxx.cell 3 (v := .int .u8 t) rfl; have ct_63_4 := T7xxx.cell 4 (v := .int .i64 z) rfl; have ch_63_0 := H7xxx.cell 0 (v := .int .i64 (To.fi x)) rfl; have ch_63_1 := H7xxx.cell 1 (v := .int .i64 (To.fi y)) rfl; have ch_63_2 := H7xxx.cell 2 (v := .int .i64 x) rfl; have ch_63_3 := H7xxx.cell 3 (v := .int .i64 y) rfl; have cc_63_0 := C7xxx.cell 0 (v := .int .i64 (cX i)) rfl; have cc_63_1 := C7xxx.cell 1 (v := .int .i64 (cY i)) rfl; have b61_63_0 := B61xx.cell 0 (v := .int .i64 (pX i d)) rfl; have b61_63_1 := B61xx.cell 1 (v := .int .i64 (pY i d)) rfl; have b63_63_0 := B63.cell 0 (v := .int .i64 (qX i d)) rfl; have b63_63_1 := B63.cell 1 (v := .int .i64 (qY i d)) rfl) | (go_at_call 9; (fail_if_success (guard_hyp g64)); refine (hc7 _).mono ?_; rintro e w64 ⟨rfl, g64⟩; have G64 := gb_trans G63 g64; have T7xxxx := T7xxx.kept g64 (by simp); have H7xxxx := H7xxx.kept g64 (by simp); have C7xxxx := C7xxx.kept g64 (by simp); have B61xxx := B61xx.kept g64 (by simp); have B63x := B63.kept g64 (by simp); obtain ⟨W65, hW65, sz65, g65, B65⟩ := boxn w64 #[.int .i64 (rX i d), .int .i64 (rY i d)] 33; have G65 := gb_trans G64 g65; have T7xxxxx := T7xxxx.kept g65 (by simp); have H7xxxxx := H7xxxx.kept g65 (by simp); have C7xxxxx := C7xxxx.kept g65 (by simp); have B61xxxx := B61xxx.kept g65 (by simp); have B63xx := B63x.kept g65 (by simp); clear ct_63_0 ct_63_1 ct_63_2 ct_63_3 ct_63_4 ch_63_0 ch_63_1 ch_63_2 ch_63_3 cc_63_0 cc_63_1 b61_63_0 b61_63_1 b63_63_0 b63_63_1; have ct_65_0 := T7xxxxx.cell 0 (v := .int .u8 k) rfl; have ct_65_1 := T7xxxxx.cell 1 (v := .int .i64 x) rfl; have ct_65_2 := T7xxxxx.cell 2 (v := .int .i64 y) rfl; have ct_65_3 := T7xxxxx.cell 3 (v := .int .u8 t) rfl; have ct_65_4 := T7xxxxx.cell 4 (v := .int .i64 z) rfl; have ch_65_0 := H7xxxxx.cell 0 (v := .int .i64 (To.fi x)) rfl; have ch_65_1 := H7xxxxx.cell 1 (v := .int .i64 (To.fi y)) rfl; have ch_65_2 := H7xxxxx.cell 2 (v := .int .i64 x) rfl; have ch_65_3 := H7xxxxx.cell 3 (v := .int .i64 y) rfl; have cc_65_0 := C7xxxxx.cell 0 (v := .int .i64 (cX i)) rfl; have cc_65_1 := C7xxxxx.cell 1 (v := .int .i64 (cY i)) rfl; have b61_65_0 := B61xxxx.cell 0 (v := .int .i64 (pX i d)) rfl; have b61_65_1 := B61xxxx.cell 1 (v := .int .i64 (pY i d)) rfl; have b63_65_0 := B63xx.cell 0 (v := .int .i64 (qX i d)) rfl; have b63_65_1 := B63xx.cell 1 (v := .int .i64 (qY i d)) rfl; have b65_65_0 := B65.cell 0 (v := .int .i64 (rX i d)) rfl; have b65_65_1 := B65.cell 1 (v := .int .i64 (rY i d)) rfl) | (go_at_call 10; (fail_if_success (guard_hyp g66)); refine (gd _).mono ?_; rintro e w66 ⟨rfl, g66⟩; have G66 := gb_trans G65 g66; have T7xxxxxx := T7xxxxx.kept g66 (by simp); have H7xxxxxx := H7xxxxx.kept g66 (by simp); have C7xxxxxx := C7xxxxx.kept g66 (by simp); have B61xxxxx := B61xxxx.kept g66 (by simp); have B63xxx := B63xx.kept g66 (by simp); have B65x := B65.kept g66 (by simp); clear ct_65_0 ct_65_1 ct_65_2 ct_65_3 ct_65_4 ch_65_0 ch_65_1 ch_65_2 ch_65_3 cc_65_0 cc_65_1 b61_65_0 b61_65_1 b63_65_0 b63_65_1 b65_65_0 b65_65_1; have ct_66_0 := T7xxxxxx.cell 0 (v := .int .u8 k) rfl; have ct_66_1 := T7xxxxxx.cell 1 (v := .int .i64 x) rfl; have ct_66_2 := T7xxxxxx.cell 2 (v := .int .i64 y) rfl; have ct_66_3 := T7xxxxxx.cell 3 (v := .int .u8 t) rfl; have ct_66_4 := T7xxxxxx.cell 4 (v := .int .i64 z) rfl; have ch_66_0 := H7xxxxxx.cell 0 (v := .int .i64 (To.fi x)) rfl; have ch_66_1 := H7xxxxxx.cell 1 (v := .int .i64 (To.fi y)) rfl; have ch_66_2 := H7xxxxxx.cell 2 (v := .int .i64 x) rfl; have ch_66_3 := H7xxxxxx.cell 3 (v := .int .i64 y) rfl; have cc_66_0 := C7xxxxxx.cell 0 (v := .int .i64 (cX i)) rfl; have cc_66_1 := C7xxxxxx.cell 1 (v := .int .i64 (cY i)) rfl; have b61_66_0 := B61xxxxx.cell 0 (v := .int .i64 (pX i d)) rfl; have b61_66_1 := B61xxxxx.cell 1 (v := .int .i64 (pY i d)) rfl; have b63_66_0 := B63xxx.cell 0 (v := .int .i64 (qX i d)) rfl; have b63_66_1 := B63xxx.cell 1 (v := .int .i64 (qY i d)) rfl; have b65_66_0 := B65x.cell 0 (v := .int .i64 (rX i d)) rfl; have b65_66_1 := B65x.cell 1 (v := .int .i64 (rY i d)) rfl; have RF := row_kept R7 (gb_trans g61 (gb_trans g62 (gb_trans g63 (gb_trans g64 (gb_trans g65 g66))))) (by simp)))
                  have hrow : World.rowIs w66 W5.heap.size 3 nn (fun r => .int .i64 (C (9 * i + (d + 1)) r : Nat)) := RF.congr fun r hr => by
                    rw [show 9 * i + (d + 1) = 9 * i + d + 1 by omega, hCd r] <;> rfl
                  have hgr := gb_none hg7 (gb_trans g61 (gb_trans g62 (gb_trans g63 (gb_trans g64 (gb_trans g65 g66)))))
                  first
                    | (refine ⟨⟨d + 1, by omega, by go_num, hrow, hgr⟩, ?_⟩; simp [intOf]; omega)
                    | (go_roundw; (case rel => exact ⟨d + 1, by omega, by go_num, hrow, hgr⟩); (case measure => (simp [intOf]; omega)))
              · as_aux_lemma =>
                  obtain ⟨e5, e6, e7, e8, u1, u2, u3, u4, hkn, u5, u6, u7⟩ := hk i d hi hd isT
                  have u8 : ¬ (n : Int) ≤ (kq i d : Int) := by omega
                  have u9 : ¬ (kq i d : Int) < 0 := by omega
                  have hr7 := hr i d hi hd
                  have hc7 := hc i d hi hd
                  rw [isT] at hr7
                  have d4' : ((d : Int) != 4) = true := by simp; omega
                  obtain ⟨ix, eix⟩ : ∃ v, n * i + kq i d = v := ⟨_, rfl⟩
                  have hix : ix < nn := by rw [← eix, hnn.out]; exact sq_lt hi hkn
                  have hCd : ∀ r, C (9 * i + d + 1) r = C (9 * i + d) r + (if r = ix then 1 else 0) := fun r => by
                    rw [hCs i d hi hd r, eix]
                    by_cases e : r = ix
                    · rw [if_pos ⟨⟨isT, d4⟩, e⟩, if_pos e]
                    · rw [if_neg (fun q => e q.2), if_neg e]
                  have hn36' : n * i ≤ 36 * 36 := Nat.mul_le_mul n36 (by omega)
                  have w1 : IntKind.i64.wrap ((n : Int) * (i : Int)) = ((n * i : Nat) : Int) := by rw [show (n : Int) * (i : Int) = ((n * i : Nat) : Int) by simp, IntKind.wrap_i64]; omega
                  have w2 : IntKind.i64.wrap (((n * i : Nat) : Int) + (kq i d : Int)) = (ix : Int) := by rw [← eix, IntKind.wrap_i64]; omega
                  have hb := hCb (9 * i + d) ix
                  have w3 : IntKind.i64.wrap (((C (9 * i + d) ix : Nat) : Int) + 1) = ((C (9 * i + d) ix : Nat) : Int) + 1 := by rw [IntKind.wrap_i64]; omega
                  have w4 : (ix : Int) < (nn : Int) := by omega
                  have w1' : Hid (n * i ≤ 1296) := by unfold Hid; omega
                  generalize n * i = ni at w1 w2 w1'
                  clear eix hb hn36'
                  have K9 : True := trivial
                  obtain ⟨W61, hW61, sz61, g61, B61⟩ := boxn wr #[.int .i64 (pX i d), .int .i64 (pY i d)] 33
                  have G61 := gb_trans G7 g61
                  have T7x := T7.kept g61 (by simp)
                  have H7x := H7.kept g61 (by simp)
                  have C7x := C7.kept g61 (by simp)
                  have ct_61_0 := T7x.cell 0 (v := .int .u8 k) rfl
                  have ct_61_1 := T7x.cell 1 (v := .int .i64 x) rfl
                  have ct_61_2 := T7x.cell 2 (v := .int .i64 y) rfl
                  have ct_61_3 := T7x.cell 3 (v := .int .u8 t) rfl
                  have ct_61_4 := T7x.cell 4 (v := .int .i64 z) rfl
                  have ch_61_0 := H7x.cell 0 (v := .int .i64 (To.fi x)) rfl
                  have ch_61_1 := H7x.cell 1 (v := .int .i64 (To.fi y)) rfl
                  have ch_61_2 := H7x.cell 2 (v := .int .i64 x) rfl
                  have ch_61_3 := H7x.cell 3 (v := .int .i64 y) rfl
                  have cc_61_0 := C7x.cell 0 (v := .int .i64 (cX i)) rfl
                  have cc_61_1 := C7x.cell 1 (v := .int .i64 (cY i)) rfl
                  have b61_61_0 := B61.cell 0 (v := .int .i64 (pX i d)) rfl
                  have b61_61_1 := B61.cell 1 (v := .int .i64 (pY i d)) rfl
                  go_wp2_with (first | (go_at_call 8; (fail_if_success (guard_hyp g62)); refine (hr7 _).mono ?_; rintro e w62 ⟨rfl, g62⟩; have G62 := gb_trans G61 g62; have T7xx := T7x.kept g62 (by simp); have H7xx := H7x.kept g62 (by simp); have C7xx := C7x.kept g62 (by simp); have B61x := B61.kept g62 (by simp); obtain ⟨W63, hW63, sz63, g63, B63⟩ := boxn w62 #[.int .i64 (qX i d), .int .i64 (qY i d)] 33; have G63 := gb_trans G62 g63; have T7xxx := T7xx.kept g63 (by simp); have H7xxx := H7xx.kept g63 (by simp); have C7xxx := C7xx.kept g63 (by simp); have B61xx := B61x.kept g63 (by simp); clear ct_61_0 ct_61_1 ct_61_2 ct_61_3 ct_61_4 ch_61_0 ch_61_1 ch_61_2 ch_61_3 cc_61_0 cc_61_1 b61_61_0 b61_61_1; have ct_63_0 := T7xxx.cell 0 (v := .int .u8 k) rfl; have ct_63_1 := T7xxx.cell 1 (v := .int .i64 x) rfl; have ct_63_2 := T7xxx.cell 2 (v := .int .i64 y) rfl; have ct_63_3 := T7xxx.cell 3 (v := .int .u8 t) rfl; have ct_63_4 := T7xxx.cell 4 (v := .int .i64 z) rfl; have ch_63_0 := H7xxx.cell 0 (v := .int .i64 (To.fi x)) rfl; have ch_63_1 := H7xxx.cell 1 (v := .int .i64 (To.fi y)) rfl; have ch_63_2 := H7xxx.cell 2 (v := .int .i64 x) rfl; have ch_63_3 := H7xxx.cell 3 (v := .int .i64 y) rfl; have cc_63_0 := C7xxx.cell 0 (v := .int .i64 (cX i)) rfl; have cc_63_1 := C7xxx.cell 1 (v := .int .i64 (cY i)) rfl; have b61_63_0 := B61xx.cell 0 (v := .int .i64 (pX i d)) rfl; have b61_63_1 := B61xx.cell 1 (v := .int .i64 (pY i d)) rfl; have b63_63_0 := B63.cell 0 (v := .int .i64 (qX i d)) rfl; have b63_63_1 := B63.cell 1 (v := .int .i64 (qY i d)) rfl) | (go_at_call 9; (fail_if_success (guard_hyp g64)); refine (hc7 _).mono ?_; rintro e w64 ⟨rfl, g64⟩; have G64 := gb_trans G63 g64; have T7xxxx := T7xxx.kept g64 (by simp); have H7xxxx := H7xxx.kept g64 (by simp); have C7xxxx := C7xxx.kept g64 (by simp); have B61xxx := B61xx.kept g64 (by simp); have B63x := B63.kept g64 (by simp); obtain ⟨W65, hW65, sz65, g65, B65⟩ := boxn w64 #[.int .i64 (rX i d), .int .i64 (rY i d)] 33; have G65 := gb_trans G64 g65; have T7xxxxx := T7xxxx.kept g65 (by simp); have H7xxxxx := H7xxxx.kept g65 (by simp); have C7xxxxx := C7xxxx.kept g65 (by simp); have B61xxxx := B61xxx.kept g65 (by simp); have B63xx := B63x.kept g65 (by simp); clear ct_63_0 ct_63_1 ct_63_2 ct_63_3 ct_63_4 ch_63_0 ch_63_1 ch_63_2 ch_63_3 cc_63_0 cc_63_1 b61_63_0 b61_63_1 b63_63_0 b63_63_1; have ct_65_0 := T7xxxxx.cell 0 (v := .int .u8 k) rfl; have ct_65_1 := T7xxxxx.cell 1 (v := .int .i64 x) rfl; have ct_65_2 := T7xxxxx.cell 2 (v := .int .i64 y) rfl; have ct_65_3 := T7xxxxx.cell 3 (v := .int .u8 t) rfl; have ct_65_4 := T7xxxxx.cell 4 (v := .int .i64 z) rfl; have ch_65_0 := H7xxxxx.cell 0 (v := .int .i64 (To.fi x)) rfl; have ch_65_1 := H7xxxxx.cell 1 (v := .int .i64 (To.fi y)) rfl; have ch_65_2 := H7xxxxx.cell 2 (v := .int .i64 x) rfl; have ch_65_3 := H7xxxxx.cell 3 (v := .int .i64 y) rfl; have cc_65_0 := C7xxxxx.cell 0 (v := .int .i64 (cX i)) rfl; have cc_65_1 := C7xxxxx.cell 1 (v := .int .i64 (cY i)) rfl; have b61_65_0 := B61xxxx.cell 0 (v := .int .i64 (pX i d)) rfl; have b61_65_1 := B61xxxx.cell 1 (v := .int .i64 (pY i d)) rfl; have b63_65_0 := B63xx.cell 0 (v := .int .i64 (qX i d)) rfl; have b63_65_1 := B63xx.cell 1 (v := .int .i64 (qY i d)) rfl; have b65_65_0 := B65.cell 0 (v := .int .i64 (rX i d)) rfl; have b65_65_1 := B65.cell 1 (v := .int .i64 (rY i d)) rfl) | (go_at_call 10; (fail_if_success (guard_hyp g66)); refine (gd _).mono ?_; rintro e w66 ⟨rfl, g66⟩; have G66 := gb_trans G65 g66; have T7xxxxxx := T7xxxxx.kept g66 (by simp); have H7xxxxxx := H7xxxxx.kept g66 (by simp); have C7xxxxxx := C7xxxxx.kept g66 (by simp); have B61xxxxx := B61xxxx.kept g66 (by simp); have B63xxx := B63xx.kept g66 (by simp); have B65x := B65.kept g66 (by simp); clear ct_65_0 ct_65_1 ct_65_2 ct_65_3 ct_65_4 ch_65_0 ch_65_1 ch_65_2 ch_65_3 cc_65_0 cc_65_1 b61_65_0 b61_65_1 b63_65_0 b63_65_1 b65_65_0 b65_65_1; have ct_66_0 := T7xxxxxx.cell 0 (v := .int .u8 k) rfl; have ct_66_1 := T7xxxxxx.cell 1 (v := .int .i64 x) rfl; have ct_66_2 := T7xxxxxx.cell 2 (v := .int .i64 y) rfl; have ct_66_3 := T7xxxxxx.cell 3 (v := .int .u8 t) rfl; have ct_66_4 := T7xxxxxx.cell 4 (v := .int .i64 z) rfl; have ch_66_0 := H7xxxxxx.cell 0 (v := .int .i64 (To.fi x)) rfl; have ch_66_1 := H7xxxxxx.cell 1 (v := .int .i64 (To.fi y)) rfl; have ch_66_2 := H7xxxxxx.cell 2 (v := .int .i64 x) rfl; have ch_66_3 := H7xxxxxx.cell 3 (v := .int .i64 y) rfl; have cc_66_0 := C7xxxxxx.cell 0 (v := .int .i64 (cX i)) rfl; have cc_66_1 := C7xxxxxx.cell 1 (v := .int .i64 (cY i)) rfl; have b61_66_0 := B61xxxxx.cell 0 (v := .int .i64 (pX i d)) rfl; have b61_66_1 := B61xxxxx.cell 1 (v := .int .i64 (pY i d)) rfl; have b63_66_0 := B63xxx.cell 0 (v := .int .i64 (qX i d)) rfl; have b63_66_1 := B63xxx.cell 1 (v := .int .i64 (qY i d)) rfl; have b65_66_0 := B65x.cell 0 (v := .int .i64 (rX i d)) rfl; have b65_66_1 := B65x.cell 1 (v := .int .i64 (rY i d)) rfl; have RF := row_kept R7 (gb_trans g61 (gb_trans g62 (gb_trans g63 (gb_trans g64 (gb_trans g65 g66))))) (by simp); have cell7 := RF.cell hix; have froz7 := RF.frozen ix))
                  have hrow : World.rowIs (w66.setCell ⟨W5.heap.size, ix, none⟩ (.int .i64 (((C (9 * i + d) ix : Nat) : Int) + 1))) W5.heap.size 3 nn (fun r => .int .i64 (C (9 * i + (d + 1)) r : Nat)) := (RF.set ix (.int .i64 (((C (9 * i + d) ix : Nat) : Int) + 1))).congr fun r hr => by
                    show (if r = ix then _ else _) = _
                    rw [show 9 * i + (d + 1) = 9 * i + d + 1 by omega, hCd r]
                    by_cases e : r = ix
                    · rw [if_pos e, if_pos e, e] <;> rfl
                    · rw [if_neg e, if_neg e] <;> rfl
                  have hgr := gb_set (gb_none hg7 (gb_trans g61 (gb_trans g62 (gb_trans g63 (gb_trans g64 (gb_trans g65 g66)))))) ix (.int .i64 (((C (9 * i + d) ix : Nat) : Int) + 1))
                  first
                    | (refine ⟨⟨d + 1, by omega, by go_num, hrow, hgr⟩, ?_⟩; simp [intOf]; omega)
                    | (go_roundw; (case rel => exact ⟨d + 1, by omega, by go_num, hrow, hgr⟩); (case measure => (simp [intOf]; omega)))
          | false =>
            cases gl with
            | true => exact absurd ((hgl rfl i d hi hd).1) (by rw [isT]; decide)
            | false =>
              as_aux_lemma =>
                have kk := hpl i d hi hd isT
                subst kk
                have hr7 := hr i d hi hd
                have hc7 := hc i d hi hd
                rw [isT] at hr7
                have hCd : ∀ r, C (9 * i + d + 1) r = C (9 * i + d) r := fun r => by rw [hCs i d hi hd r, if_neg (fun q => by rw [isT] at q; exact absurd q.1.1 (by decide)), Nat.add_zero]
                have K9 : True := trivial
                obtain ⟨W61, hW61, sz61, g61, B61⟩ := boxn wr #[.int .i64 (pX i d), .int .i64 (pY i d)] 33
                have G61 := gb_trans G7 g61
                have T7x := T7.kept g61 (by simp)
                have H7x := H7.kept g61 (by simp)
                have C7x := C7.kept g61 (by simp)
                have ct_61_0 := T7x.cell 0 (v := .int .u8 1) rfl
                have ct_61_1 := T7x.cell 1 (v := .int .i64 x) rfl
                have ct_61_2 := T7x.cell 2 (v := .int .i64 y) rfl
                have ct_61_3 := T7x.cell 3 (v := .int .u8 t) rfl
                have ct_61_4 := T7x.cell 4 (v := .int .i64 z) rfl
                have ch_61_0 := H7x.cell 0 (v := .int .i64 (To.fi x)) rfl
                have ch_61_1 := H7x.cell 1 (v := .int .i64 (To.fi y)) rfl
                have ch_61_2 := H7x.cell 2 (v := .int .i64 x) rfl
                have ch_61_3 := H7x.cell 3 (v := .int .i64 y) rfl
                have cc_61_0 := C7x.cell 0 (v := .int .i64 (cX i)) rfl
                have cc_61_1 := C7x.cell 1 (v := .int .i64 (cY i)) rfl
                have b61_61_0 := B61.cell 0 (v := .int .i64 (pX i d)) rfl
                have b61_61_1 := B61.cell 1 (v := .int .i64 (pY i d)) rfl
                go_wp2_with (first | (go_at_call 8; (fail_if_success (guard_hyp g62)); refine (hr7 _).mono ?_; rintro e w62 ⟨rfl, g62⟩; have G62 := gb_trans G61 g62; have T7xx := T7x.kept g62 (by simp); have H7xx := H7x.kept g62 (by simp); have C7xx := C7x.kept g62 (by simp); have B61x := B61.kept g62 (by simp); obtain ⟨W63, hW63, sz63, g63, B63⟩ := boxn w62 #[.int .i64 (qX i d), .int .i64 (qY i d)] 33; have G63 := gb_trans G62 g63; have T7xxx := T7xx.kept g63 (by simp); have H7xxx := H7xx.kept g63 (by simp); have C7xxx := C7xx.kept g63 (by simp); have B61xx := B61x.kept g63 (by simp); clear ct_61_0 ct_61_1 ct_61_2 ct_61_3 ct_61_4 ch_61_0 ch_61_1 ch_61_2 ch_61_3 cc_61_0 cc_61_1 b61_61_0 b61_61_1; have ct_63_0 := T7xxx.cell 0 (v := .int .u8 1) rfl; have ct_63_1 := T7xxx.cell 1 (v := .int .i64 x) rfl; have ct_63_2 := T7xxx.cell 2 (v := .int .i64 y) rfl; have ct_63_3 := T7xxx.cell 3 (v := .int .u8 t) rfl; have ct_63_4 := T7xxx.cell 4 (v := .int .i64 z) rfl; have ch_63_0 := H7xxx.cell 0 (v := .int .i64 (To.fi x)) rfl; have ch_63_1 := H7xxx.cell 1 (v := .int .i64 (To.fi y)) rfl; have ch_63_2 := H7xxx.cell 2 (v := .int .i64 x) rfl; have ch_63_3 := H7xxx.cell 3 (v := .int .i64 y) rfl; have cc_63_0 := C7xxx.cell 0 (v := .int .i64 (cX i)) rfl; have cc_63_1 := C7xxx.cell 1 (v := .int .i64 (cY i)) rfl; have b61_63_0 := B61xx.cell 0 (v := .int .i64 (pX i d)) rfl; have b61_63_1 := B61xx.cell 1 (v := .int .i64 (pY i d)) rfl; have b63_63_0 := B63.cell 0 (v := .int .i64 (qX i d)) rfl; have b63_63_1 := B63.cell 1 (v := .int .i64 (qY i d)) rfl) | (go_at_call 9; (fail_if_success (guard_hyp g64)); refine (hc7 _).mono ?_; rintro e w64 ⟨rfl, g64⟩; have G64 := gb_trans G63 g64; have T7xxxx := T7xxx.kept g64 (by simp); have H7xxxx := H7xxx.kept g64 (by simp); have C7xxxx := C7xxx.kept g64 (by simp); have B61xxx := B61xx.kept g64 (by simp); have B63x := B63.kept g64 (by simp); obtain ⟨W65, hW65, sz65, g65, B65⟩ := boxn w64 #[.int .i64 (rX i d), .int .i64 (rY i d)] 33; have G65 := gb_trans G64 g65; have T7xxxxx := T7xxxx.kept g65 (by simp); have H7xxxxx := H7xxxx.kept g65 (by simp); have C7xxxxx := C7xxxx.kept g65 (by simp); have B61xxxx := B61xxx.kept g65 (by simp); have B63xx := B63x.kept g65 (by simp); clear ct_63_0 ct_63_1 ct_63_2 ct_63_3 ct_63_4 ch_63_0 ch_63_1 ch_63_2 ch_63_3 cc_63_0 cc_63_1 b61_63_0 b61_63_1 b63_63_0 b63_63_1; have ct_65_0 := T7xxxxx.cell 0 (v := .int .u8 1) rfl; have ct_65_1 := T7xxxxx.cell 1 (v := .int .i64 x) rfl; have ct_65_2 := T7xxxxx.cell 2 (v := .int .i64 y) rfl; have ct_65_3 := T7xxxxx.cell 3 (v := .int .u8 t) rfl; have ct_65_4 := T7xxxxx.cell 4 (v := .int .i64 z) rfl; have ch_65_0 := H7xxxxx.cell 0 (v := .int .i64 (To.fi x)) rfl; have ch_65_1 := H7xxxxx.cell 1 (v := .int .i64 (To.fi y)) rfl; have ch_65_2 := H7xxxxx.cell 2 (v := .int .i64 x) rfl; have ch_65_3 := H7xxxxx.cell 3 (v := .int .i64 y) rfl; have cc_65_0 := C7xxxxx.cell 0 (v := .int .i64 (cX i)) rfl; have cc_65_1 := C7xxxxx.cell 1 (v := .int .i64 (cY i)) rfl; have b61_65_0 := B61xxxx.cell 0 (v := .int .i64 (pX i d)) rfl; have b61_65_1 := B61xxxx.cell 1 (v := .int .i64 (pY i d)) rfl; have b63_65_0 := B63xx.cell 0 (v := .int .i64 (qX i d)) rfl; have b63_65_1 := B63xx.cell 1 (v := .int .i64 (qY i d)) rfl; have b65_65_0 := B65.cell 0 (v := .int .i64 (rX i d)) rfl; have b65_65_1 := B65.cell 1 (v := .int .i64 (rY i d)) rfl) | (go_at_call 10; (fail_if_success (guard_hyp g66)); refine (gd _).mono ?_; rintro e w66 ⟨rfl, g66⟩; have G66 := gb_trans G65 g66; have T7xxxxxx := T7xxxxx.kept g66 (by simp); have H7xxxxxx := H7xxxxx.kept g66 (by simp); have C7xxxxxx := C7xxxxx.kept g66 (by simp); have B61xxxxx := B61xxxx.kept g66 (by simp); have B63xxx := B63xx.kept g66 (by simp); have B65x := B65.kept g66 (by simp); clear ct_65_0 ct_65_1 ct_65_2 ct_65_3 ct_65_4 ch_65_0 ch_65_1 ch_65_2 ch_65_3 cc_65_0 cc_65_1 b61_65_0 b61_65_1 b63_65_0 b63_65_1 b65_65_0 b65_65_1; have ct_66_0 := T7xxxxxx.cell 0 (v := .int .u8 1) rfl; have ct_66_1 := T7xxxxxx.cell 1 (v := .int .i64 x) rfl; have ct_66_2 := T7xxxxxx.cell 2 (v := .int .i64 y) rfl; have ct_66_3 := T7xxxxxx.cell 3 (v := .int .u8 t) rfl; have ct_66_4 := T7xxxxxx.cell 4 (v := .int .i64 z) rfl; have ch_66_0 := H7xxxxxx.cell 0 (v := .int .i64 (To.fi x)) rfl; have ch_66_1 := H7xxxxxx.cell 1 (v := .int .i64 (To.fi y)) rfl; have ch_66_2 := H7xxxxxx.cell 2 (v := .int .i64 x) rfl; have ch_66_3 := H7xxxxxx.cell 3 (v := .int .i64 y) rfl; have cc_66_0 := C7xxxxxx.cell 0 (v := .int .i64 (cX i)) rfl; have cc_66_1 := C7xxxxxx.cell 1 (v := .int .i64 (cY i)) rfl; have b61_66_0 := B61xxxxx.cell 0 (v := .int .i64 (pX i d)) rfl; have b61_66_1 := B61xxxxx.cell 1 (v := .int .i64 (pY i d)) rfl; have b63_66_0 := B63xxx.cell 0 (v := .int .i64 (qX i d)) rfl; have b63_66_1 := B63xxx.cell 1 (v := .int .i64 (qY i d)) rfl; have b65_66_0 := B65x.cell 0 (v := .int .i64 (rX i d)) rfl; have b65_66_1 := B65x.cell 1 (v := .int .i64 (rY i d)) rfl; have RF := row_kept R7 (gb_trans g61 (gb_trans g62 (gb_trans g63 (gb_trans g64 (gb_trans g65 g66))))) (by simp)))
                have hrow : World.rowIs w66 W5.heap.size 3 nn (fun r => .int .i64 (C (9 * i + (d + 1)) r : Nat)) := RF.congr fun r hr => by
                  rw [show 9 * i + (d + 1) = 9 * i + d + 1 by omega, hCd r] <;> rfl
                have hgr := gb_none hg7 (gb_trans g61 (gb_trans g62 (gb_trans g63 (gb_trans g64 (gb_trans g65 g66)))))
                first
                  | (refine ⟨⟨d + 1, by omega, by go_num, hrow, hgr⟩, ?_⟩; simp [intOf]; omega)
                  | (go_roundw; (case rel => exact ⟨d + 1, by omega, by go_num, hrow, hgr⟩); (case measure => (simp [intOf]; omega)))
        · have hd' : ¬ (d : Int) < 9 := by omega
          obtain rfl : d = 9 := by omega
          go_wp2
          refine ⟨⟨i + 1, by omega, by go_num, ?_, gb_rowB gI hg7 (fun q e => by injection e with e; omega)⟩, by simp [intOf]; omega⟩
          rw [show 9 * (i + 1) = 9 * i + 9 by omega]
          exact R7
    · have hi' : ¬ (i : Int) < (n : Int) := by omega
      obtain rfl : i = n := by omega
      obtain ⟨WW, hWW⟩ : ∃ W, wr = W := ⟨_, rfl⟩
      rw [hWW] at R6 hg ⊢
      have RW := World.grownBy.refl WW none
      go_wp2
      clear hi' hi
      go_loopw [21] (fun x w3 => ∃ a : Nat, a ≤ i ∧ x = .int .i64 a ∧ WW.grownBy w3 none) (fun x _ => i - (intOf x).toNat)
      case atStart => exact ⟨0, by omega, rfl, RW⟩
      case round =>
        obtain ⟨a, ha, rfl, hg3⟩ := hrel
        by_cases hl : a < i
        · have hl' : (a : Int) < (i : Int) := by omega
          go_wp2
          go_loopw [22] (fun x w4 => ∃ b : Nat, b ≤ i ∧ x = .int .i64 b ∧ WW.grownBy w4 none) (fun x _ => i - (intOf x).toNat)
          case atStart => exact ⟨0, by omega, rfl, hg3⟩
          case round =>
            clear hg3
            obtain ⟨b, hb, rfl, hg4⟩ := hrel
            by_cases hb2 : b < i
            · have hb2' : (b : Int) < (i : Int) := by omega
              have R8 := row_kept R6 hg4 (by simp)
              have l1 : i * a + b < nn := by rw [hnn.out]; exact sq_lt hl hb2
              have l2 : i * b + a < nn := by rw [hnn.out]; exact sq_lt hb2 hl
              have c1 := R8.cell l1
              have c2 := R8.cell l2
              rw [hsym a b hl hb2] at c1
              generalize C (9 * i) (i * b + a) = vv at c1 c2
              have m1 : i * a ≤ 36 * 36 := Nat.mul_le_mul n36 (by omega)
              have m2 : i * b ≤ 36 * 36 := Nat.mul_le_mul n36 (by omega)
              have w1 : IntKind.i64.wrap ((i : Int) * (a : Int)) = ((i * a : Nat) : Int) := by rw [show (i : Int) * (a : Int) = ((i * a : Nat) : Int) by simp, IntKind.wrap_i64]; omega
              have w2 : IntKind.i64.wrap ((i : Int) * (b : Int)) = ((i * b : Nat) : Int) := by rw [show (i : Int) * (b : Int) = ((i * b : Nat) : Int) by simp, IntKind.wrap_i64]; omega
              have w3 : IntKind.i64.wrap (((i * a : Nat) : Int) + (b : Int)) = ((i * a + b : Nat) : Int) := by rw [IntKind.wrap_i64]; omega
              have w4 : IntKind.i64.wrap (((i * b : Nat) : Int) + (a : Int)) = ((i * b + a : Nat) : Int) := by rw [IntKind.wrap_i64]; omega
              have w5 : ((i * a + b : Nat) : Int) < (nn : Int) := by omega
              have w6 : ((i * b + a : Nat) : Int) < (nn : Int) := by omega
              clear R8 l1 l2 m1 m2
              generalize i * a + b = x1 at w3 w5 c1
              generalize i * b + a = x2 at w4 w6 c2
              generalize i * a = y1 at w1 w3
              generalize i * b = y2 at w2 w4
              go_wp2
              try (go_quiet (fail); go_wp2)
              refine ⟨⟨b + 1, by omega, by go_num, by first | exact hg4 | exact gb_drewN hg4 _⟩, by simp [intOf]; omega⟩
            · have hb2' : ¬ (b : Int) < (i : Int) := by omega
              go_wp2
              refine ⟨⟨a + 1, by omega, by go_num, hg4⟩, by simp [intOf]; omega⟩
        · have hl' : ¬ (a : Int) < (i : Int) := by omega
          go_wp2
          go_ret
          exact ⟨rfl, gb_trans G5 (gb_trans hg hg3)⟩
end Go.Proofs.Ytgiiaokkmnjckab
