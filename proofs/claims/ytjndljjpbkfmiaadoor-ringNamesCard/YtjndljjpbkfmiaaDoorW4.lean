/- What the calls of package words answer: Valid of rows that may be, Get, Of. -/
import Derived.Test.YtjndljjpbkfmiaaDoorW3
namespace Go.Proofs.YtjndljjpbkfmiaaDoor.Wo
open Go.RowKit
set_option linter.unusedVariables false
set_option maxRecDepth 100000

theorem MayBe.len {m n : Nat} {p : Nat → Bool} (h : MayBe m n p) : n ≤ 1025 := by have := h.le; have := h.words; omega

theorem validB_may {m n : Nat} {p : Nat → Bool} (h : MayBe m n p) : validB m n (Pk.pack p) = true := by
  have h1 := h.le
  have h2 := h.words
  unfold validB
  rw [decide_eq_true (show (0 : Int) ≤ (m : Int) by omega), decide_eq_true (show (m : Int) ≤ 65538 by omega), decide_eq_true (show (n : Int) = ((m : Int) + 63) / 64 by omega)]
  by_cases h0 : m = 0
  · rw [decide_eq_true (show (m : Int) = 0 by omega)]; rfl
  · have : Pk.pack p (n - 1) < 2 ^ last m := by
      apply Nat.lt_pow_two_of_testBit
      intro j hj
      rw [Pk.testBit_pack]
      by_cases hj6 : j < 64
      · rw [h.tail _ (by unfold last at hj; omega)]; simp
      · simp [hj6]
    rw [Int.toNat_natCast, decide_eq_true this]
    simp

theorem may_of_validB {N : Int} {n : Nat} {f : Nat → Nat} (hf : ∀ k, k < n → f k < 18446744073709551616) (h : validB N n f = true) :
    ∃ m p, N = (m : Nat) ∧ MayBe m n p ∧ ∀ k, k < n → f k = Pk.pack p k := by
  unfold validB at h
  simp only [Bool.and_eq_true, Bool.or_eq_true, decide_eq_true_eq] at h
  obtain ⟨⟨⟨h0, h1⟩, h2⟩, h3⟩ := h
  obtain ⟨m, rfl⟩ : ∃ m : Nat, N = m := ⟨N.toNat, by omega⟩
  rw [Int.toNat_natCast] at h3
  refine ⟨m, fun i => decide (i < m) && Pk.bitAt f i, rfl, ⟨by omega, by omega, fun i hi => by rw [decide_eq_false (by omega)]; rfl⟩, fun k hk => ?_⟩
  rw [← Pk.pack_bitAt (f := f) (k := k) (hf k hk)]
  refine Pk.pack_congr fun j hj => ?_
  by_cases hlt : 64 * k + j < m
  · rw [decide_eq_true hlt]; simp
  · rw [decide_eq_false hlt]
    have hkn : k = n - 1 := by omega
    have h4 : f k < 2 ^ last m := by
      rcases h3 with h3 | h3
      · omega
      · rw [hkn]; exact h3
    have e1 : (64 * k + j) / 64 = k := by omega
    have e2 : (64 * k + j) % 64 = j := by omega
    unfold Pk.bitAt
    rw [e1, e2, Nat.testBit_lt_two_pow (Nat.lt_of_lt_of_le h4 (Nat.pow_le_pow_right (by decide) (by unfold last; omega)))]
    rfl

def getB (m : Nat) (p : Nat → Bool) (i : Int) : Bool := decide (0 ≤ i) && decide (i < m) && p i.toNat

theorem ofC (n cap : Nat) (sp : Option Addr) (g : Nat → Bool) (h1 : n ≤ 65538) (w : World) (hb : Bd w sp n g) :
    Calls Tryd.prog 25 #[.slice sp n cap] w fun e w' => ∃ b, e = .returned (.tuple #[.agg #[.int .i64 n, .slice (some ⟨b, 0, none⟩) ((n + 63) / 64) ((n + 63) / 64)], .int .i64 0]) ∧ Row w' 106 b ((n + 63) / 64) (fun i => decide (i < n) && g i) ∧ w.grownBy w' none ∧ w.heap.size ≤ b := by
  obtain ⟨c, hcc⟩ : ∃ c : Nat, c = (n + 63) / 64 := ⟨_, rfl⟩
  have hbl := blankC n h1
  rw [← hcc] at hbl ⊢
  have hc1 : n ≤ 64 * c := by omega
  have hc2 : c ≤ 1025 := by omega
  clear hcc
  obtain ⟨W1, hW, c0, c1, sz, hg, hB⟩ := box2 w (.int .i64 0) (.slice none 0 0) 40
  have hb1 := hb.kept hg (by simp)
  have hnl : (n : Int) ≤ 65538 := by omega
  have hnd : decide ((65538 : Int) < (n : Int)) = false := by simp; omega
  go_enter Tryd.func25, Tryd.ntmps25
  go_wp2_with (first | (go_at_call 39; refine (hbl W1).mono ?_; rintro e w2 ⟨b, rfl, hr, g2, hlt, hlt2⟩; obtain ⟨W3, hW3, x0, x1, sz3, g3, hB3⟩ := box2 w2 (.int .i64 n) (.slice (some ⟨b, 0, none⟩) c c) 40))
  have g23 := gb_trans g2 g3
  have hB13 := hB.kept g23 (by simp)
  have hr3 := hr.kept g3 (by simp)
  have hb3 := hb1.kept g23 (by simp)
  have hs := sz.out
  have hs3 := sz3.out
  have l2 := hlt2.out
  have l3 := g2.size
  go_loopw [16] (fun i wr => ∃ k : Nat, k ≤ n ∧ i = .int .i64 k ∧ Row wr 106 b c (fun j => decide (j < k) && g j) ∧ W3.grownBy wr (some b)) (fun i _ => n - (intOf i).toNat)
  case atStart => exact ⟨0, Nat.zero_le _, rfl, hr3.congr fun i hi => by simp, World.grownBy.refl _ _⟩
  case round =>
    obtain ⟨k, hk, rfl, hrk, hgk⟩ := hrel
    have hBk := hB3.kept hgk (by simp; omega)
    have y0 := hBk.cell0
    have y1 := hBk.cell1
    by_cases hlt' : k < n
    · obtain ⟨a, rfl⟩ := hb.some (by omega)
      have hca := hgk.cell (hb3.at hlt') (by
        have := cell_lt (hb.at hlt')
        simp; omega)
      cases hgv : g k with
      | true =>
        rw [hgv] at hca
        go_wp2_with (first | (go_at_call 40; refine (raiseC n k b c c _ (by omega) hc2 wr hrk).mono ?_; rintro e w4 ⟨rfl, hr4, g4⟩))
        go_roundw
        case rel => exact ⟨k + 1, by omega, by go_num, hr4.congr fun i hi => by
          by_cases hik : i = k
          · subst hik; simp [hgv]
          · have e1 : (i == k) = false := by simp [hik]
            have e2 : decide (i < k) = decide (i < k + 1) := by simp; omega
            simp only [e1, Bool.or_false, e2], gb_trans hgk g4⟩
        case measure => simp [intOf]; omega
      | false =>
        rw [hgv] at hca
        go_wp2
        go_roundw
        case rel => exact ⟨k + 1, by omega, by go_num, hrk.congr fun i hi => by
          by_cases hik : i = k
          · subst hik; simp [hgv]
          · have e2 : decide (i < k) = decide (i < k + 1) := by simp; omega
            simp only [e2], hgk⟩
        case measure => simp [intOf]; omega
    · have hkn : k = n := by omega
      have hB1k := hB13.kept hgk (by simp; omega)
      have z0 := hB1k.cell0
      have z1 := hB1k.cell1
      have z2 := hB1k.free0
      have z3 := hB1k.free1
      have hlt'' : ¬ (k : Int) < (n : Int) := by omega
      go_wp2
      obtain ⟨fs, hfs⟩ := underR
      refine ret_box2 (g := w.heap.size) (t := 40) rfl hfs infoR rfl (hB1k.set _ _) rfl ?_
      have G : w.grownBy wr none := gb_past (gb_trans hg g23) hgk (by omega)
      have hne : b ≠ w.heap.size := by omega
      refine ⟨b, rfl, ?_, gb_new (gb_new G (Nat.le_refl _) _) (Nat.le_refl _) _, by omega⟩
      have R := (World.rowIs.setOther (World.rowIs.setOther hrk (a := ⟨w.heap.size, 0, none⟩) hne (.int .i64 n)) (a := ⟨w.heap.size, 1, none⟩) hne (.slice (some ⟨b, 0, none⟩) c c))
      rw [hkn] at R
      exact R

end Go.Proofs.YtjndljjpbkfmiaaDoor.Wo
