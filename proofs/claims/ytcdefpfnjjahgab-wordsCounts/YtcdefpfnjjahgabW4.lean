/- What the calls of package words answer: Valid of rows that may be, Get, Of. -/
import Derived.Test.YtcdefpfnjjahgabW3
namespace Go.Proofs.Ytcdefpfnjjahgab
open Go.RowKit
set_option linter.unusedVariables false

theorem MayBe.len {m n : Nat} {p : Nat → Bool} (h : MayBe m n p) : n ≤ 1025 := by have := h.le; have := h.words; omega

theorem validB_may {m n : Nat} {p : Nat → Bool} (h : MayBe m n p) : validB m n (Pk.pack p) = true := by
  have h1 := h.le
  have h2 := h.words
  unfold validB
  rw [decide_eq_true (show (0 : Int) ≤ (m : Int) by omega), decide_eq_true (show (m : Int) ≤ 65538 by omega), decide_eq_true (show (n : Int) = ((m : Int) + 63) / 64 by omega)]
  by_cases h0 : m = 0
  · rw [decide_eq_true (show (m : Int) = 0 by omega)]; rfl
  · have : Pk.pack p (n - 1) < 2 ^ last m := by
      apply Nat.lt_pow_two_of_testBit
      intro j hj
      rw [Pk.testBit_pack]
      by_cases hj6 : j < 64
      · rw [h.tail _ (by unfold last at hj; omega)]; simp
      · simp [hj6]
    rw [Int.toNat_natCast, decide_eq_true this]
    simp

theorem may_of_validB {N : Int} {n : Nat} {f : Nat → Nat} (hf : ∀ k, k < n → f k < 18446744073709551616) (h : validB N n f = true) :
    ∃ m p, N = (m : Nat) ∧ MayBe m n p ∧ ∀ k, k < n → f k = Pk.pack p k := by
  unfold validB at h
  simp only [Bool.and_eq_true, Bool.or_eq_true, decide_eq_true_eq] at h
  obtain ⟨⟨⟨h0, h1⟩, h2⟩, h3⟩ := h
  obtain ⟨m, rfl⟩ : ∃ m : Nat, N = m := ⟨N.toNat, by omega⟩
  rw [Int.toNat_natCast] at h3
  refine ⟨m, fun i => decide (i < m) && Pk.bitAt f i, rfl, ⟨by omega, by omega, fun i hi => by rw [decide_eq_false (by omega)]; rfl⟩, fun k hk => ?_⟩
  rw [← Pk.pack_bitAt (f := f) (k := k) (hf k hk)]
  refine Pk.pack_congr fun j hj => ?_
  by_cases hlt : 64 * k + j < m
  · rw [decide_eq_true hlt]; simp
  · rw [decide_eq_false hlt]
    have hkn : k = n - 1 := by omega
    have h4 : f k < 2 ^ last m := by
      rcases h3 with h3 | h3
      · omega
      · rw [hkn]; exact h3
    have e1 : (64 * k + j) / 64 = k := by omega
    have e2 : (64 * k + j) % 64 = j := by omega
    unfold Pk.bitAt
    rw [e1, e2, Nat.testBit_lt_two_pow (Nat.lt_of_lt_of_le h4 (Nat.pow_le_pow_right (by decide) (by unfold last; omega)))]
    rfl

theorem validP (m n cap : Nat) (sp : Option Addr) (p : Nat → Bool) (M : MayBe m n p) (w : World) (hc : Wd w sp n (Pk.pack p)) :
    Calls Try.prog 41 #[.agg #[.int .i64 m, .slice sp n cap]] w fun e w' => e = .returned (.bool true) ∧ w.grownBy w' none := by
  have h := validC m n cap sp (Pk.pack p) (fun k _ => Pk.pack_lt _ _) (by have := M.len; omega) w hc
  rw [validB_may M] at h
  exact h

def getB (m : Nat) (p : Nat → Bool) (i : Int) : Bool := decide (0 ≤ i) && decide (i < m) && p i.toNat

theorem getC (m n cap : Nat) (sp : Option Addr) (p : Nat → Bool) (M : MayBe m n p) (i : Int) (w : World) (hc : Wd w sp n (Pk.pack p)) :
    Calls Try.prog 30 #[.agg #[.int .i64 m, .slice sp n cap], .int .i64 i] w fun e w' => e = .returned (.bool (getB m p i)) ∧ w.grownBy w' none := by
  obtain ⟨W1, hW, c0, c1, sz, hg, hB⟩ := box2 w (.int .i64 m) (.slice sp n cap) 31
  have hc1 := hc.kept hg (by simp)
  by_cases h : 0 ≤ i ∧ i < m
  · obtain ⟨h0, h1⟩ := h
    obtain ⟨j, rfl⟩ : ∃ j : Nat, i = j := ⟨i.toNat, by omega⟩
    have HV : Hid (p j = getB m p j) := by unfold Hid getB; rw [decide_eq_true h0, decide_eq_true h1]; simp
    have hj : j < 64 * n := by have := M.words; omega
    have hip := isPlaceC m j (.slice sp n cap)
    rw [decide_eq_true h0, decide_eq_true h1] at hip
    simp only [Bool.and_self] at hip
    go_enter Try.func30, Try.ntmps30
    go_wp2_with (first | (go_at_call 41; refine (validP m n cap sp p M W1 hc1).mono ?_; rintro e w2 ⟨rfl, g2⟩; have hB2 := hB.kept g2 (by simp); have x0 := hB2.cell0; have x1 := hB2.cell1; have hc2 := hc1.kept g2 (by simp)) | (go_at_call 45; refine (hip w2).mono ?_; rintro e w3 ⟨rfl, g3⟩; have hB3 := hB2.kept g3 (by simp); have y0 := hB3.cell0; have y1 := hB3.cell1; have hc3 := hc2.kept g3 (by simp)) | (go_at_call 43; refine (hasC m j n cap sp p hj M.len w3 hc3).mono ?_; rintro e w4 ⟨rfl, g4⟩))
    go_ret
    exact ⟨congrArg (fun x => Ending.returned (Value.bool x)) HV.out, gb_trans hg (gb_trans g2 (gb_trans g3 g4))⟩
  · have HV : Hid (getB m p i = false) := by
      unfold Hid getB
      by_cases h0 : 0 ≤ i
      · rw [decide_eq_false (show ¬ i < (m : Int) from fun h1 => h ⟨h0, h1⟩)]; simp
      · rw [decide_eq_false h0]; simp
    have hip := isPlaceC m i (.slice sp n cap)
    have e : (decide (0 ≤ i) && decide (i < (m : Int))) = false := by
      by_cases h0 : 0 ≤ i
      · rw [decide_eq_false (show ¬ i < (m : Int) from fun h1 => h ⟨h0, h1⟩)]; simp
      · rw [decide_eq_false h0]; simp
    rw [e] at hip
    clear e h
    go_enter Try.func30, Try.ntmps30
    go_wp2_with (first | (go_at_call 41; refine (validP m n cap sp p M W1 hc1).mono ?_; rintro e w2 ⟨rfl, g2⟩; have hB2 := hB.kept g2 (by simp); have x0 := hB2.cell0; have x1 := hB2.cell1) | (go_at_call 45; refine (hip w2).mono ?_; rintro e w3 ⟨rfl, g3⟩))
    go_ret
    exact ⟨by rw [HV.out]; rfl, gb_trans hg (gb_trans g2 g3)⟩

theorem ofC (n cap : Nat) (sp : Option Addr) (g : Nat → Bool) (h1 : n ≤ 65538) (w : World) (hb : Bd w sp n g) :
    Calls Try.prog 27 #[.slice sp n cap] w fun e w' => ∃ b, e = .returned (.tuple #[.agg #[.int .i64 n, .slice (some ⟨b, 0, none⟩) ((n + 63) / 64) ((n + 63) / 64)], .int .i64 0]) ∧ Row w' 22 b ((n + 63) / 64) (fun i => decide (i < n) && g i) ∧ w.grownBy w' none ∧ w.heap.size ≤ b := by
  obtain ⟨c, hcc⟩ : ∃ c : Nat, c = (n + 63) / 64 := ⟨_, rfl⟩
  have hbl := blankC n h1
  rw [← hcc] at hbl ⊢
  have hc1 : n ≤ 64 * c := by omega
  have hc2 : c ≤ 1025 := by omega
  clear hcc
  obtain ⟨W1, hW, c0, c1, sz, hg, hB⟩ := box2 w (.int .i64 0) (.slice none 0 0) 31
  have hb1 := hb.kept hg (by simp)
  have hnl : (n : Int) ≤ 65538 := by omega
  have hnd : decide ((65538 : Int) < (n : Int)) = false := by simp; omega
  go_enter Try.func27, Try.ntmps27
  go_wp2_with (first | (go_at_call 35; refine (hbl W1).mono ?_; rintro e w2 ⟨b, rfl, hr, g2, hlt, hlt2⟩; obtain ⟨W3, hW3, x0, x1, sz3, g3, hB3⟩ := box2 w2 (.int .i64 n) (.slice (some ⟨b, 0, none⟩) c c) 31))
  have g23 := gb_trans g2 g3
  have hB13 := hB.kept g23 (by simp)
  have hr3 := hr.kept g3 (by simp)
  have hb3 := hb1.kept g23 (by simp)
  have hs := sz.out
  have hs3 := sz3.out
  have l2 := hlt2.out
  have l3 := g2.size
  go_loopw [16] (fun i wr => ∃ k : Nat, k ≤ n ∧ i = .int .i64 k ∧ Row wr 22 b c (fun j => decide (j < k) && g j) ∧ W3.grownBy wr (some b)) (fun i _ => n - (intOf i).toNat)
  case atStart => exact ⟨0, Nat.zero_le _, rfl, hr3.congr fun i hi => by simp, World.grownBy.refl _ _⟩
  case round =>
    obtain ⟨k, hk, rfl, hrk, hgk⟩ := hrel
    have hBk := hB3.kept hgk (by simp; omega)
    have y0 := hBk.cell0
    have y1 := hBk.cell1
    by_cases hlt' : k < n
    · obtain ⟨a, rfl⟩ := hb.some (by omega)
      have hca := hgk.cell (hb3.at hlt') (by
        have := cell_lt (hb.at hlt')
        simp; omega)
      cases hgv : g k with
      | true =>
        rw [hgv] at hca
        go_wp2_with (first | (go_at_call 42; refine (raiseC n k b c c _ (by omega) hc2 wr hrk).mono ?_; rintro e w4 ⟨rfl, hr4, g4⟩))
        go_roundw
        case rel => exact ⟨k + 1, by omega, by go_num, hr4.congr fun i hi => by
          by_cases hik : i = k
          · subst hik; simp [hgv]
          · have e1 : (i == k) = false := by simp [hik]
            have e2 : decide (i < k) = decide (i < k + 1) := by simp; omega
            simp only [e1, Bool.or_false, e2], gb_trans hgk g4⟩
        case measure => simp [intOf]; omega
      | false =>
        rw [hgv] at hca
        go_wp2
        go_roundw
        case rel => exact ⟨k + 1, by omega, by go_num, hrk.congr fun i hi => by
          by_cases hik : i = k
          · subst hik; simp [hgv]
          · have e2 : decide (i < k) = decide (i < k + 1) := by simp; omega
            simp only [e2], hgk⟩
        case measure => simp [intOf]; omega
    · have hkn : k = n := by omega
      have hB1k := hB13.kept hgk (by simp; omega)
      have z0 := hB1k.cell0
      have z1 := hB1k.cell1
      have z2 := hB1k.free0
      have z3 := hB1k.free1
      have hlt'' : ¬ (k : Int) < (n : Int) := by omega
      go_wp2
      obtain ⟨fs, hfs⟩ := underR
      refine ret_box2 (g := w.heap.size) (t := 31) rfl hfs infoR rfl (hB1k.set _ _) rfl ?_
      have G : w.grownBy wr none := gb_past (gb_trans hg g23) hgk (by omega)
      have hne : b ≠ w.heap.size := by omega
      refine ⟨b, rfl, ?_, gb_new (gb_new G (Nat.le_refl _) _) (Nat.le_refl _) _, by omega⟩
      have R := (World.rowIs.setOther (World.rowIs.setOther hrk (a := ⟨w.heap.size, 0, none⟩) hne (.int .i64 n)) (a := ⟨w.heap.size, 1, none⟩) hne (.slice (some ⟨b, 0, none⟩) c c))
      rw [hkn] at R
      exact R

end Go.Proofs.Ytcdefpfnjjahgab
