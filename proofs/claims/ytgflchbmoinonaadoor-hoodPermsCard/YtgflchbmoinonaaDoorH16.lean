/- The walk of HoodOffsets. -/
import Derived.Test.YtgflchbmoinonaaDoorH15
namespace Go.Proofs.YtgflchbmoinonaaDoor
open Go.RowKit
open Fl
set_option linter.unusedVariables false
set_option linter.unusedSimpArgs false
set_option maxRecDepth 100000

theorem gb_rowH {a b c : World} {v : Option Nat} (h : a.grownBy b none) (k : b.grownBy c v) (hv : ∀ i, v = some i → a.heap.size ≤ i) : a.grownBy c none :=
  ⟨k.os.trans h.os, k.tape.trans h.tape, k.output.trans h.output, Nat.le_trans h.size k.size, fun i hi _ => (k.block i (Nat.lt_of_lt_of_le hi h.size) (fun e => by have := hv i e.symm; omega)).trans (h.block i hi (by simp))⟩
theorem cr_end {w : World} {base ga n : Nat} {vc : Value} {off add : Int} (h : Cr w base ga n 12 vc off add) (hn : n ≤ 8) : ∃ gc cap, vc = .slice (some ⟨gc, 0, none⟩) (n + 12) cap ∧ (∀ j : Nat, j < n → w.cell? ⟨ga, j * 2, none⟩ = some (.int .i64 (off + (j : Int)))) ∧ (∀ j : Nat, j < n → w.cell? ⟨gc, j * 2, none⟩ = some (.int .i64 (off + (j : Int)))) ∧ ∀ j : Nat, j < 12 → w.cell? ⟨gc, (n + j) * 2, none⟩ = some (.int .i64 (add + (j : Int))) := by
  obtain ⟨cs, B, hs, hp, h⟩ := h
  rcases h with ⟨_, hle, _⟩ | ⟨⟨g, cap, rfl, h3, h4, h5⟩, xs, hown, hx1, hx2⟩
  · omega
  · exact ⟨g, cap, rfl, fun j hj => B.cell _ (hp j hj), fun j hj => (hown.cellAt (j * 2) (by omega)).trans (hx1 j hj), fun j hj => (hown.cellAt ((n + j) * 2) (by omega)).trans (hx2 j hj)⟩
/-- A box of offsets whose first points have been written over. -/
def Wr (w : World) (ga n : Nat) (off : Int) : Prop := ∃ cs : Array Value, Bo w ga 55 cs ∧ cs.size = 17 ∧ ∀ j : Nat, j < n → cs[j * 2]? = some (.int .i64 (off + (j : Int)))
theorem Wr.kept {w w' : World} {ga n : Nat} {off : Int} {r : Option Nat} (h : Wr w ga n off) (hg : w.grownBy w' r) (hne : some ga ≠ r) : Wr w' ga n off := by
  obtain ⟨cs, B, h⟩ := h
  exact ⟨cs, B.kept hg hne, h⟩
theorem Wr.lt {w : World} {ga n : Nat} {off : Int} (h : Wr w ga n off) : ga < w.heap.size := by
  obtain ⟨cs, B, _⟩ := h
  exact B.lt
theorem Wr.at {w : World} {ga n k : Nat} {off : Int} (h : Wr w ga n off) (hk : k < 17) : ∃ u, w.cell? ⟨ga, k, none⟩ = some u ∧ w.frozen? ⟨ga, k, none⟩ = false := by
  obtain ⟨cs, B, hs, _⟩ := h
  exact ⟨_, B.cell k (Array.getElem?_eq_getElem (by omega)), B.frozen k⟩
theorem Wr.set {w : World} {ga n : Nat} {off : Int} (h : Wr w ga n off) (hn : n < 8) (y : Value) : Wr ((w.setCell ⟨ga, n * 2, none⟩ (.int .i64 (off + (n : Int)))).setCell ⟨ga, n * 2 + 1, none⟩ y) ga (n + 1) off := by
  obtain ⟨cs, B, hs, hp⟩ := h
  refine ⟨_, (B.set (n * 2) (.int .i64 (off + (n : Int)))).set (n * 2 + 1) y, by simpa using hs, fun j hj => ?_⟩
  rw [Array.getElem?_setIfInBounds_ne (by omega)]
  by_cases e : j = n
  · subst e
    rw [Array.getElem?_setIfInBounds_self_of_lt (by omega)]
  · rw [Array.getElem?_setIfInBounds_ne (by omega)]
    exact hp j (by omega)
theorem Wr.cr {w : World} {base ga n : Nat} {off : Int} (h : Wr w ga n off) (hn : n ≤ 8) (add : Int) : Cr w base ga n 0 (.slice (some ⟨ga, 0, none⟩) n 8) off add := by
  obtain ⟨cs, B, hs, hp⟩ := h
  exact ⟨cs, B, hs, hp, .inl ⟨rfl, hn, fun j hj => absurd hj (Nat.not_lt_zero _)⟩⟩

set_option maxHeartbeats 800000 in
theorem offYes (h : Nat) (h1 : 1 ≤ h) (h3 : h ≤ 3) (w : World) (hv : Hid (Hv w)) : Calls Tryd.prog 4 #[.int .u8 h] w fun e w' => e = .returned (.bool true) ∧ w.grownBy w' none := by
  have hRO := fun w => refOffYes h h1 h3 w
  have hRS := fun w => refSizeYes h h1 h3 w
  have hSZ := fun w hv => sizeYes h h1 h3 w hv
  have hOF : ∀ w, Hid (Hv w) → Calls Tryd.prog 16 #[.int .u8 h] w fun e w' => ∃ g, e = .returned (.tuple #[.slice (some ⟨g, 0, none⟩) (sn h) 8, .int .i64 0]) ∧ Wr w' g 0 0 ∧ Pts w' g (sn h) h ∧ w.heap.size ≤ g ∧ w.grownBy w' none := fun w hv => (offsetsYes h h1 h3 w hv).mono fun e w' ⟨g, he, B, hl, hg⟩ => ⟨g, he, ⟨ho h, B, ho_size h, fun j hj => absurd hj (Nat.not_lt_zero _)⟩, pts_ho h1 h3 B, hl, hg⟩
  have h8 := sn_le h h1 h3
  have hSP := fun ga gb ca cb w ha hb => samePC h (sn h) ga gb ca cb (by omega) w ha hb
  generalize sn h = n at *
  go_enter Tryd.func4, Tryd.ntmps4
  go_wp2_with (first | (go_at_call 14; (fail_if_success (guard_hyp g1)); refine (hRO w).mono ?_; rintro e w1 ⟨gw, rfl, P1w, lw1, lw2, g1⟩) | (go_at_call 15; guard_hyp g1; (fail_if_success (guard_hyp g2)); refine (hRS w1).mono ?_; rintro e w2 ⟨rfl, g2⟩; have G2 := gb_trans g1 g2; have P2w := P1w.kept g2 (by simp)) | (go_at_call 9; guard_hyp g2; (fail_if_success (guard_hyp g3)); refine (hSZ w2 (hvK hv G2)).mono ?_; rintro e w3 ⟨rfl, g3⟩; have G3 := gb_trans G2 g3; have P3w := P2w.kept g3 (by simp)) | (go_at_call 16; guard_hyp g3; (fail_if_success (guard_hyp g4)); refine (hOF w3 (hvK hv G3)).mono ?_; rintro e w4 ⟨ga, rfl, A4, P4a, la4, g4⟩; have G4 := gb_trans G3 g4; have P4w := P3w.kept g4 (by simp)) | (go_at_call 16; guard_hyp g4; (fail_if_success (guard_hyp g5)); refine (hOF w4 (hvK hv G4)).mono ?_; rintro e w5 ⟨gb, rfl, B5, P5b, lb5, g5⟩; have G5 := gb_trans G4 g5; have P5w := P4w.kept g5 (by simp); have P5a := P4a.kept g5 (by simp); have A5 := A4.kept g5 (by simp)) | (go_at_call 17; guard_hyp g5; (fail_if_success (guard_hyp g6)); refine (hSP ga gw 8 n w5 P5a P5w).mono ?_; rintro e w6 ⟨rfl, g6⟩; have G6 := gb_trans G5 g6; have P6w := P5w.kept g6 (by simp); have P6b := P5b.kept g6 (by simp); have A6 := A5.kept g6 (by simp); have B6 := B5.kept g6 (by simp)) | (go_at_call 17; guard_hyp g6; (fail_if_success (guard_hyp g7)); refine (hSP gb gw 8 n w6 P6b P6w).mono ?_; rintro e w7 ⟨rfl, g7⟩; have G7 := gb_trans G6 g7; have P7w := P6w.kept g7 (by simp); have A7 := A6.kept g7 (by simp); have B7 := B6.kept g7 (by simp)))
  have q1 : w.heap.size ≤ gw := lw1
  have q2 : gw < ga := by have := g2.size; have := g3.size; omega
  have q3 : ga < gb := by have := A4.lt; omega
  have q4 : gb < w7.heap.size := B7.lt
  have A7 : Wr w7 ga 0 50 := by obtain ⟨cs, B, hs, _⟩ := A7; exact ⟨cs, B, hs, fun j hj => absurd hj (Nat.not_lt_zero _)⟩
  have B7 : Wr w7 gb 0 70 := by obtain ⟨cs, B, hs, _⟩ := B7; exact ⟨cs, B, hs, fun j hj => absurd hj (Nat.not_lt_zero _)⟩
  clear A4 A5 A6 B5 B6 P1w P2w P3w P4w P5w P6w P4a P5a P5b P6b lw1 lw2 la4 lb5
  go_loopw [13] (fun v wr' => ∃ k : Nat, k ≤ n ∧ v = .int .i64 k ∧ Wr wr' ga k 50 ∧ w7.grownBy wr' (some ga)) (fun v _ => n - (intOf v).toNat)
  case atStart => exact ⟨0, Nat.zero_le _, rfl, A7, World.grownBy.refl _ _⟩
  case round =>
    obtain ⟨k, hk, rfl, hW1, hg1⟩ := hrel
    by_cases hlt : k < n
    · have hlt' : (k : Int) < (n : Int) := by omega
      obtain ⟨u0, c0, f0⟩ := hW1.at (k := k * 2) (by omega)
      obtain ⟨u1, c1, f1⟩ := hW1.at (k := k * 2 + 1) (by omega)
      have hWs := hW1.set (by omega) (.int .i64 1)
      have hwr : IntKind.i64.wrap (50 + (k : Int)) = 50 + (k : Int) := by rw [IntKind.wrap_i64]; omega
      go_wp2
      first
        | (refine ⟨⟨k + 1, by omega, by go_num, hWs, gb_set (gb_set hg1 _ _) _ _⟩, ?_⟩; simp [intOf]; omega)
        | (go_roundw; (case rel => exact ⟨k + 1, by omega, by go_num, hWs, gb_set (gb_set hg1 _ _) _ _⟩); (case measure => (simp [intOf]; omega)))
    · have hlt' : ¬ (k : Int) < (n : Int) := by omega
      obtain rfl : n = k := by omega
      have B8 := B7.kept hg1 (fun e => by injection e; omega)
      go_wp2
      go_loopw [14] (fun v wr' => ∃ k : Nat, k ≤ n ∧ v = .int .i64 k ∧ Wr wr' gb k 70 ∧ wr.grownBy wr' (some gb)) (fun v _ => n - (intOf v).toNat)
      case atStart => exact ⟨0, Nat.zero_le _, rfl, B8, World.grownBy.refl _ _⟩
      case round =>
        obtain ⟨k, hk, rfl, hW2, hg2⟩ := hrel
        by_cases hlt : k < n
        · have hlt' : (k : Int) < (n : Int) := by omega
          obtain ⟨u0, c0, f0⟩ := hW2.at (k := k * 2) (by omega)
          obtain ⟨u1, c1, f1⟩ := hW2.at (k := k * 2 + 1) (by omega)
          have hWs := hW2.set (by omega) (.int .i64 2)
          have hwr : IntKind.i64.wrap (70 + (k : Int)) = 70 + (k : Int) := by rw [IntKind.wrap_i64]; omega
          go_wp2
          first
            | (refine ⟨⟨k + 1, by omega, by go_num, hWs, gb_set (gb_set hg2 _ _) _ _⟩, ?_⟩; simp [intOf]; omega)
            | (go_roundw; (case rel => exact ⟨k + 1, by omega, by go_num, hWs, gb_set (gb_set hg2 _ _) _ _⟩); (case measure => (simp [intOf]; omega)))
        · have hlt' : ¬ (k : Int) < (n : Int) := by omega
          obtain rfl : n = k := by omega
          have W9a := hW1.kept hg2 (fun e => by injection e; omega)
          have W9b := hW2
          have P9w := (P7w.kept hg1 (fun e => by injection e; omega)).kept hg2 (fun e => by injection e; omega)
          have S9 : w7.heap.size ≤ wr.heap.size := Nat.le_trans hg1.size hg2.size
          have G9 : w.grownBy wr none := gb_rowH (gb_rowH G7 hg1 (fun i e => by injection e; omega)) hg2 (fun i e => by injection e; omega)
          have crA := W9a.cr (base := w7.heap.size) h8 90
          go_wp2
          go_loopw [15, 17] (fun c x wr' => ∃ (k : Nat) (vc : Value), k ≤ 12 ∧ vc = c ∧ x = .int .i64 k ∧ Cr wr' w7.heap.size ga n k vc 50 90 ∧ Wr wr' gb n 70 ∧ vc.ownBlock ≠ some gb ∧ Pts wr' gw n h ∧ w7.heap.size ≤ wr'.heap.size ∧ w.grownBy wr' none) (fun _ x _ => 12 - (intOf x).toNat)
          case atStart => exact ⟨0, _, by omega, rfl, rfl, crA, W9b, (fun e => by have e' : some ga = some gb := e; injection e'; omega), P9w, S9, G9⟩
          case round =>
            obtain ⟨k, vc, hk, rfl, rfl, cr, hWb, hne, hPw, hS, hG⟩ := hrel
            by_cases hlt : k < 12
            · have hlt' : (k : Int) < 12 := by omega
              obtain ⟨V, hV, szV, gV, BV⟩ := boxn wr #[.int .i64 (90 + (k : Int)), .int .i64 0] 37
              have v0 := BV.cell 0 (v := .int .i64 (90 + (k : Int))) rfl
              have v1 := BV.cell 1 (v := .int .i64 0) rfl
              have GV := gb_trans hG gV
              have crV := cr.kept gV (by simp) (by obtain ⟨q, e, _⟩ := cr.block; rw [e]; simp)
              have hWV := hWb.kept gV (by simp)
              have PV := hPw.kept gV (by simp)
              have hcw : ∀ q, vc.ownBlock = some q → w.heap.size ≤ q ∧ q ≠ gw := fun q e => by
                obtain ⟨q', e', _, h9⟩ := crV.block
                rw [e'] at e
                injection e with e
                omega
              have hbV : w7.heap.size ≤ V.heap.size := Nat.le_trans hS gV.size
              have hwr : IntKind.i64.wrap (90 + (k : Int)) = 90 + (k : Int) := by rw [IntKind.wrap_i64]; omega
              go_wp2_with (at_builtin; refine wp_cr rfl _ _ rfl w7.heap.size ga n k vc 50 90 crV hbV hk h8 wr.heap.size rfl rfl (90 + (k : Int)) rfl v0 v1 ?_; intro v' w' cr' g' hblk)
              first
                | (refine ⟨⟨k + 1, v', by omega, rfl, by go_num, cr', hWV.kept g' (fun e => hne e.symm), (by
                rcases hblk with e | ⟨q, e, hq⟩
                · rw [e]; exact hne
                · rw [e]; intro e'; injection e'; have := hWV.lt; omega), PV.kept g' (fun e => by have := hcw gw e.symm; omega), Nat.le_trans hbV g'.size, gb_rowH GV g' (fun i e => (hcw i e).1)⟩, ?_⟩; simp [intOf]; omega)
                | (go_roundw; (case rel => exact ⟨k + 1, v', by omega, rfl, by go_num, cr', hWV.kept g' (fun e => hne e.symm), (by
                rcases hblk with e | ⟨q, e, hq⟩
                · rw [e]; exact hne
                · rw [e]; intro e'; injection e'; have := hWV.lt; omega), PV.kept g' (fun e => by have := hcw gw e.symm; omega), Nat.le_trans hbV g'.size, gb_rowH GV g' (fun i e => (hcw i e).1)⟩); (case measure => (simp [intOf]; omega)))
            · have hlt' : ¬ (k : Int) < 12 := by omega
              obtain rfl : k = 12 := by omega
              have crB := hWb.cr (base := w7.heap.size) h8 110
              generalize vc = VCC at *
              go_wp2
              go_loopw [16, 18] (fun c x wr' => ∃ (k : Nat) (vc : Value), k ≤ 12 ∧ vc = c ∧ x = .int .i64 k ∧ Cr wr' w7.heap.size gb n k vc 70 110 ∧ Cr wr' w7.heap.size ga n 12 VCC 50 90 ∧ vc.ownBlock ≠ some ga ∧ VCC.ownBlock ≠ vc.ownBlock ∧ Pts wr' gw n h ∧ w7.heap.size ≤ wr'.heap.size ∧ w.grownBy wr' none) (fun _ x _ => 12 - (intOf x).toNat)
              case atStart => exact ⟨0, _, by omega, rfl, rfl, crB, cr, (fun e => by have e' : some gb = some ga := e; injection e'; omega), hne, hPw, hS, hG⟩
              case round =>
                obtain ⟨k, vc, hk, rfl, rfl, cr, crC, hne1, hne2, hPw, hS, hG⟩ := hrel
                by_cases hlt : k < 12
                · have hlt' : (k : Int) < 12 := by omega
                  obtain ⟨V, hV, szV, gV, BV⟩ := boxn wr #[.int .i64 (110 + (k : Int)), .int .i64 0] 37
                  have v0 := BV.cell 0 (v := .int .i64 (110 + (k : Int))) rfl
                  have v1 := BV.cell 1 (v := .int .i64 0) rfl
                  have GV := gb_trans hG gV
                  have crV := cr.kept gV (by simp) (by obtain ⟨q, e, _⟩ := cr.block; rw [e]; simp)
                  have crCV := crC.kept gV (by simp) (by obtain ⟨q, e, _⟩ := crC.block; rw [e]; simp)
                  have PV := hPw.kept gV (by simp)
                  obtain ⟨qc, eqc, lqc, _⟩ := crCV.block
                  have lga : ga < V.heap.size := by obtain ⟨cs, B, _⟩ := crCV; exact B.lt
                  have hcw : ∀ q, vc.ownBlock = some q → w.heap.size ≤ q ∧ q ≠ gw := fun q e => by
                    obtain ⟨q', e', _, h9⟩ := crV.block
                    rw [e'] at e
                    injection e with e
                    omega
                  have hbV : w7.heap.size ≤ V.heap.size := Nat.le_trans hS gV.size
                  have hwr : IntKind.i64.wrap (110 + (k : Int)) = 110 + (k : Int) := by rw [IntKind.wrap_i64]; omega
                  go_wp2_with (at_builtin; refine wp_cr rfl _ _ rfl w7.heap.size gb n k vc 70 110 crV hbV hk h8 wr.heap.size rfl rfl (110 + (k : Int)) rfl v0 v1 ?_; intro v' w' cr' g' hblk)
                  first
                    | (refine ⟨⟨k + 1, v', by omega, rfl, by go_num, cr', crCV.kept g' (fun e => hne1 e.symm) hne2, (by
                    rcases hblk with e | ⟨q, e, hq⟩
                    · rw [e]; exact hne1
                    · rw [e]; intro e'; injection e'; omega), (by
                    rcases hblk with e | ⟨q, e, hq⟩
                    · rw [e]; exact hne2
                    · rw [e, eqc]; intro e'; injection e'; omega), PV.kept g' (fun e => by have := hcw gw e.symm; omega), Nat.le_trans hbV g'.size, gb_rowH GV g' (fun i e => (hcw i e).1)⟩, ?_⟩; simp [intOf]; omega)
                    | (go_roundw; (case rel => exact ⟨k + 1, v', by omega, rfl, by go_num, cr', crCV.kept g' (fun e => hne1 e.symm) hne2, (by
                    rcases hblk with e | ⟨q, e, hq⟩
                    · rw [e]; exact hne1
                    · rw [e]; intro e'; injection e'; omega), (by
                    rcases hblk with e | ⟨q, e, hq⟩
                    · rw [e]; exact hne2
                    · rw [e, eqc]; intro e'; injection e'; omega), PV.kept g' (fun e => by have := hcw gw e.symm; omega), Nat.le_trans hbV g'.size, gb_rowH GV g' (fun i e => (hcw i e).1)⟩); (case measure => (simp [intOf]; omega)))
                · have hlt' : ¬ (k : Int) < 12 := by omega
                  obtain rfl : k = 12 := by omega
                  obtain ⟨gc, cc, ec, Ca, Cc1, Cc2⟩ := cr_end crC h8
                  obtain ⟨gd, cd, ed, Cb, Cd1, Cd2⟩ := cr_end cr h8
                  subst ec ed
                  have G10 := hG
                  have P10 := hPw
                  obtain ⟨W10, hW10⟩ : ∃ W, wr = W := ⟨_, rfl⟩
                  rw [hW10] at Ca Cc1 Cc2 Cb Cd1 Cd2 G10 P10 ⊢
                  clear cr crC hPw hG
                  go_wp2
                  go_loopw [19] (fun x wr' => ∃ k : Nat, k ≤ n ∧ x = .int .i64 k ∧ W10 = wr') (fun x _ => n - (intOf x).toNat)
                  case atStart => exact ⟨0, Nat.zero_le _, rfl, rfl⟩
                  case round =>
                    obtain ⟨k, hk, rfl, rfl⟩ := hrel
                    by_cases hlt : k < n
                    · have hlt' : (k : Int) < (n : Int) := by omega
                      have hlt2 : (k : Int) < (n : Int) + 12 := by omega
                      have c1 := Ca k hlt
                      have c2 := Cb k hlt
                      have c3 := Cc1 k hlt
                      have c4 := Cd1 k hlt
                      have hw1 : IntKind.i64.wrap (50 + (k : Int)) = 50 + (k : Int) := by rw [IntKind.wrap_i64]; omega
                      have hw2 : IntKind.i64.wrap (70 + (k : Int)) = 70 + (k : Int) := by rw [IntKind.wrap_i64]; omega
                      go_wp2
                      first
                        | (refine ⟨⟨k + 1, by omega, by go_num, by first | rfl | trivial⟩, ?_⟩; simp [intOf]; omega)
                        | (go_roundw; (case rel => exact ⟨k + 1, by omega, by go_num, by first | rfl | trivial⟩); (case measure => (simp [intOf]; omega)))
                    · have hlt' : ¬ (k : Int) < (n : Int) := by omega
                      clear hlt
                      go_wp2
                      go_loopw [20] (fun x wr' => ∃ k : Nat, k ≤ 12 ∧ x = .int .i64 k ∧ W10 = wr') (fun x _ => 12 - (intOf x).toNat)
                      case atStart => exact ⟨0, Nat.zero_le _, rfl, rfl⟩
                      case round =>
                        obtain ⟨k, hk, rfl, rfl⟩ := hrel
                        by_cases hlt : k < 12
                        · have hlt' : (k : Int) < 12 := by omega
                          have hlt2 : ((n + k : Nat) : Int) < (n : Int) + 12 := by omega
                          have c1 := Cc2 k hlt
                          have c2 := Cd2 k hlt
                          have hw0 : IntKind.i64.wrap ((n : Int) + (k : Int)) = ((n + k : Nat) : Int) := by rw [IntKind.wrap_i64]; omega
                          have hw1 : IntKind.i64.wrap (90 + (k : Int)) = 90 + (k : Int) := by rw [IntKind.wrap_i64]; omega
                          have hw2 : IntKind.i64.wrap (110 + (k : Int)) = 110 + (k : Int) := by rw [IntKind.wrap_i64]; omega
                          generalize hm : n + k = m at *
                          go_wp2
                          first
                            | (refine ⟨⟨k + 1, by omega, by go_num, by first | rfl | trivial⟩, ?_⟩; simp [intOf]; omega)
                            | (go_roundw; (case rel => exact ⟨k + 1, by omega, by go_num, by first | rfl | trivial⟩); (case measure => (simp [intOf]; omega)))
                        · have hlt' : ¬ (k : Int) < 12 := by omega
                          clear hlt
                          go_wp2_with (first | (go_at_call 16; refine (hOF W10 (hvK hv G10)).mono ?_; rintro e w11 ⟨gz, rfl, Z11, P11z, lz11, g11⟩; have P11w := P10.kept g11 (by simp)) | (go_at_call 17; refine (hSP gz gw 8 n w11 P11z P11w).mono ?_; rintro e w12 ⟨rfl, g12⟩))
                          go_ret
                          exact ⟨rfl, gb_trans G10 (gb_trans g11 g12)⟩

end Go.Proofs.YtgflchbmoinonaaDoor
