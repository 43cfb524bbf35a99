/- What the small functions of package life answer: bit, has, upTo, takes, nextDigit, takeHood. -/
import Derived.Test.YtlkdenanbofliaaGreatDoorLb
import Derived.Test.YtlkdenanbofliaaGreatDoorH1
import Derived.Test.YtlkdenanbofliaaGreatDoorWb
namespace Go.Proofs.YtlkdenanbofliaaGreatDoor
open Go.RowKit
set_option linter.unusedVariables false
set_option linter.unusedSimpArgs false
set_option maxRecDepth 100000

theorem bitC (n : Nat) (hn : n < 16) (w : World) : Calls Tryz.prog 62 #[.int .i64 n] w fun e w' => e = .returned (.int .u16 ((2 ^ n : Nat) : Int)) ∧ w' = w := by
  have hp : Hid (IntKind.u16.wrap (2 ^ n) = ((2 ^ n : Nat) : Int)) := by
    have h := Lf.p16 hn
    unfold Hid
    rw [IntKind.wrap_u16]
    have e : (2 : Int) ^ n = ((2 ^ n : Nat) : Int) := by simp
    rw [e]
    generalize 2 ^ n = q at h
    omega
  go_enter Tryz.func62, Tryz.ntmps62
  go_wp2
  go_ret
  exact ⟨congrArg (fun x => Ending.returned (Value.int .u16 x)) hp.out, rfl⟩
theorem hasC (c n : Nat) (hc : c < 65536) (hn : n < 16) (w : World) : Calls Tryz.prog 36 #[.int .u16 c, .int .i64 n] w fun e w' => e = .returned (.bool (c.testBit n)) ∧ w' = w := by
  have ha := and16 c (2 ^ n) hc (Lf.p16 hn)
  have hb := bitC n hn
  have HB : Hid (decide (((c &&& 2 ^ n : Nat) : Int) = 0) = !c.testBit n) := by
    unfold Hid
    have := @Lf.and_one c n
    cases h : c.testBit n with
    | false => rw [h] at this; simp [this.2 rfl]
    | true =>
      have h2 : c &&& 2 ^ n ≠ 0 := fun e => by have := this.1 e; rw [h] at this; cases this
      simp; omega
  generalize 2 ^ n = q at ha hb HB
  go_enter Tryz.func36, Tryz.ntmps36
  go_wp2_with (first | (go_at_call 62; refine (hb _).mono ?_; rintro e w' ⟨rfl, rfl⟩))
  go_ret
  refine ⟨congrArg (fun x => Ending.returned (Value.bool x)) ?_, rfl⟩
  have := HB.out
  revert this
  cases c.testBit n <;> intro this <;> simp at this <;> simp [this]
theorem upToC (n : Nat) (hn : n < 15) (w : World) : Calls Tryz.prog 61 #[.int .i64 n] w fun e w' => e = .returned (.int .u16 ((2 ^ (n + 1) - 1 : Nat) : Int)) ∧ w' = w := by
  have hb : ∀ w, Calls Tryz.prog 62 #[.int .i64 ((n : Int) + 1)] w fun e w' => e = .returned (.int .u16 ((2 ^ (n + 1) : Nat) : Int)) ∧ w' = w := bitC (n + 1) (by omega)
  have h2 := Lf.p16 (k := n + 1) (by omega)
  have h3 : 0 < 2 ^ (n + 1) := Nat.two_pow_pos _
  have hw : IntKind.u16.wrap (((2 ^ (n + 1) : Nat) : Int) - 1) = ((2 ^ (n + 1) - 1 : Nat) : Int) := by rw [IntKind.wrap_u16]; omega
  generalize 2 ^ (n + 1) = q at hb h2 h3 hw ⊢
  go_enter Tryz.func61, Tryz.ntmps61
  go_wp2_with (first | (go_at_call 62; refine (hb _).mono ?_; rintro e w' ⟨rfl, rfl⟩))
  go_ret
  exact ⟨rfl, rfl⟩
theorem takeU (b c : Nat) (s : ByteArray) (i : Nat) (w : World) (h : Cu w b s i) (hi : i ≤ s.size) (hs : s.size ≤ maxLen) (hc : 0 < c) : Calls Tryz.prog 49 #[.pointer (some ⟨b, 0, none⟩), .int .u8 c] w fun e w' => e = .returned (.bool (decide (Sc.bt s i = c))) ∧ Cu w' b s (if Sc.bt s i = c then i + 1 else i) ∧ w.grownBy w' (some b) := by
  by_cases hi' : i < s.size
  · by_cases hb : Sc.bt s i = c
    · rw [if_pos hb]
      refine (takeYes b c s i w h hi' (by simp; omega) hs).mono ?_
      rintro e w' ⟨rfl, h1, h2⟩
      exact ⟨by simp [hb], h1, h2⟩
    · rw [if_neg hb]
      refine (takeNo b c s i w h hi' (by simp; omega)).mono ?_
      rintro e w' ⟨rfl, k, rfl⟩
      exact ⟨by simp [hb], h.drew, gb_drewN (World.grownBy.refl _ _) _⟩
  · obtain rfl : i = s.size := by omega
    have hb : ¬ Sc.bt s s.size = c := by rw [Sc.bt_off (by omega)]; omega
    rw [if_neg hb]
    refine (takeEnd b c s w h).mono ?_
    rintro e w' ⟨rfl, k, rfl⟩
    exact ⟨by simp [hb], h.drew, gb_drewN (World.grownBy.refl _ _) _⟩
theorem takeIs (b c : Nat) (s : ByteArray) (i : Nat) (w : World) (h : Cu w b s i) (hi : i ≤ s.size) (hs : s.size ≤ maxLen) (hc : 0 < c) (hb : Hid (Sc.bt s i = c)) : Calls Tryz.prog 49 #[.pointer (some ⟨b, 0, none⟩), .int .u8 c] w fun e w' => e = .returned (.bool true) ∧ Cu w' b s (i + 1) ∧ w.grownBy w' (some b) := by
  have := takeU b c s i w h hi hs hc
  rw [if_pos hb.out, decide_eq_true hb.out] at this
  exact this
theorem takeIsnt (b c : Nat) (s : ByteArray) (i : Nat) (w : World) (h : Cu w b s i) (hi : i ≤ s.size) (hs : s.size ≤ maxLen) (hc : 0 < c) (hb : Hid (¬ Sc.bt s i = c)) : Calls Tryz.prog 49 #[.pointer (some ⟨b, 0, none⟩), .int .u8 c] w fun e w' => e = .returned (.bool false) ∧ Cu w' b s i ∧ w.grownBy w' (some b) := by
  have := takeU b c s i w h hi hs hc
  rw [if_neg hb.out, decide_eq_false hb.out] at this
  exact this


theorem takes66 (b : Nat) (s : ByteArray) (i : Nat) (w : World) (h : Cu w b s i) (hi : i ≤ s.size) (hs : s.size ≤ maxLen) : Calls Tryz.prog 82 #[.pointer (some ⟨b, 0, none⟩), .int .u8 66] w fun e w' => e = .returned (.bool (Lf.tk (Sc.bt s i) 66)) ∧ Cu w' b s (if Lf.tk (Sc.bt s i) 66 then i + 1 else i) ∧ w.grownBy w' (some b) := by
  by_cases e1 : Sc.bt s i = 66
  · have E1 : Hid (Sc.bt s i = 66) := e1
    have HT : Hid (Lf.tk (Sc.bt s i) 66 = true) := by unfold Hid Lf.tk; simp [e1]
    rw [HT.out]; simp only [if_true, Bool.false_eq_true, if_false]
    clear e1
    go_enter Tryz.func82, Tryz.ntmps82
    go_wp2_with (first | (go_at_call 49; refine (takeIs b 66 s i w h hi hs (by omega) E1).mono ?_; rintro e w1 ⟨rfl, h1, g1⟩))
    go_ret
    exact ⟨rfl, h1, g1⟩
  · have E1 : Hid (¬ Sc.bt s i = 66) := e1
    by_cases e2 : Sc.bt s i = 98
    · have E2 : Hid (Sc.bt s i = 98) := e2
      have HT : Hid (Lf.tk (Sc.bt s i) 66 = true) := by unfold Hid Lf.tk; simp [e2]
      rw [HT.out]; simp only [if_true, Bool.false_eq_true, if_false]
      clear e1 e2
      go_enter Tryz.func82, Tryz.ntmps82
      go_wp2_with (first | (go_at_call 49; (fail_if_success (guard_hyp g1)); refine (takeIsnt b 66 s i w h hi hs (by omega) E1).mono ?_; rintro e w1 ⟨rfl, h1, g1⟩) | (go_at_call 49; refine (takeIs b 98 s i w1 h1 hi hs (by omega) E2).mono ?_; rintro e w2 ⟨rfl, h2, g2⟩))
      go_ret
      exact ⟨rfl, h2, gb_trans g1 g2⟩
    · have E2 : Hid (¬ Sc.bt s i = 98) := e2
      have HT : Hid (Lf.tk (Sc.bt s i) 66 = false) := by unfold Hid Lf.tk; simp [e1, e2]
      rw [HT.out]; simp only [if_true, Bool.false_eq_true, if_false]
      clear e1 e2
      go_enter Tryz.func82, Tryz.ntmps82
      go_wp2_with (first | (go_at_call 49; (fail_if_success (guard_hyp g1)); refine (takeIsnt b 66 s i w h hi hs (by omega) E1).mono ?_; rintro e w1 ⟨rfl, h1, g1⟩) | (go_at_call 49; refine (takeIsnt b 98 s i w1 h1 hi hs (by omega) E2).mono ?_; rintro e w2 ⟨rfl, h2, g2⟩))
      go_ret
      exact ⟨rfl, h2, gb_trans g1 g2⟩

theorem takes83 (b : Nat) (s : ByteArray) (i : Nat) (w : World) (h : Cu w b s i) (hi : i ≤ s.size) (hs : s.size ≤ maxLen) : Calls Tryz.prog 82 #[.pointer (some ⟨b, 0, none⟩), .int .u8 83] w fun e w' => e = .returned (.bool (Lf.tk (Sc.bt s i) 83)) ∧ Cu w' b s (if Lf.tk (Sc.bt s i) 83 then i + 1 else i) ∧ w.grownBy w' (some b) := by
  by_cases e1 : Sc.bt s i = 83
  · have E1 : Hid (Sc.bt s i = 83) := e1
    have HT : Hid (Lf.tk (Sc.bt s i) 83 = true) := by unfold Hid Lf.tk; simp [e1]
    rw [HT.out]; simp only [if_true, Bool.false_eq_true, if_false]
    clear e1
    go_enter Tryz.func82, Tryz.ntmps82
    go_wp2_with (first | (go_at_call 49; refine (takeIs b 83 s i w h hi hs (by omega) E1).mono ?_; rintro e w1 ⟨rfl, h1, g1⟩))
    go_ret
    exact ⟨rfl, h1, g1⟩
  · have E1 : Hid (¬ Sc.bt s i = 83) := e1
    by_cases e2 : Sc.bt s i = 115
    · have E2 : Hid (Sc.bt s i = 115) := e2
      have HT : Hid (Lf.tk (Sc.bt s i) 83 = true) := by unfold Hid Lf.tk; simp [e2]
      rw [HT.out]; simp only [if_true, Bool.false_eq_true, if_false]
      clear e1 e2
      go_enter Tryz.func82, Tryz.ntmps82
      go_wp2_with (first | (go_at_call 49; (fail_if_success (guard_hyp g1)); refine (takeIsnt b 83 s i w h hi hs (by omega) E1).mono ?_; rintro e w1 ⟨rfl, h1, g1⟩) | (go_at_call 49; refine (takeIs b 115 s i w1 h1 hi hs (by omega) E2).mono ?_; rintro e w2 ⟨rfl, h2, g2⟩))
      go_ret
      exact ⟨rfl, h2, gb_trans g1 g2⟩
    · have E2 : Hid (¬ Sc.bt s i = 115) := e2
      have HT : Hid (Lf.tk (Sc.bt s i) 83 = false) := by unfold Hid Lf.tk; simp [e1, e2]
      rw [HT.out]; simp only [if_true, Bool.false_eq_true, if_false]
      clear e1 e2
      go_enter Tryz.func82, Tryz.ntmps82
      go_wp2_with (first | (go_at_call 49; (fail_if_success (guard_hyp g1)); refine (takeIsnt b 83 s i w h hi hs (by omega) E1).mono ?_; rintro e w1 ⟨rfl, h1, g1⟩) | (go_at_call 49; refine (takeIsnt b 115 s i w1 h1 hi hs (by omega) E2).mono ?_; rintro e w2 ⟨rfl, h2, g2⟩))
      go_ret
      exact ⟨rfl, h2, gb_trans g1 g2⟩

theorem takes86 (b : Nat) (s : ByteArray) (i : Nat) (w : World) (h : Cu w b s i) (hi : i ≤ s.size) (hs : s.size ≤ maxLen) : Calls Tryz.prog 82 #[.pointer (some ⟨b, 0, none⟩), .int .u8 86] w fun e w' => e = .returned (.bool (Lf.tk (Sc.bt s i) 86)) ∧ Cu w' b s (if Lf.tk (Sc.bt s i) 86 then i + 1 else i) ∧ w.grownBy w' (some b) := by
  by_cases e1 : Sc.bt s i = 86
  · have E1 : Hid (Sc.bt s i = 86) := e1
    have HT : Hid (Lf.tk (Sc.bt s i) 86 = true) := by unfold Hid Lf.tk; simp [e1]
    rw [HT.out]; simp only [if_true, Bool.false_eq_true, if_false]
    clear e1
    go_enter Tryz.func82, Tryz.ntmps82
    go_wp2_with (first | (go_at_call 49; refine (takeIs b 86 s i w h hi hs (by omega) E1).mono ?_; rintro e w1 ⟨rfl, h1, g1⟩))
    go_ret
    exact ⟨rfl, h1, g1⟩
  · have E1 : Hid (¬ Sc.bt s i = 86) := e1
    by_cases e2 : Sc.bt s i = 118
    · have E2 : Hid (Sc.bt s i = 118) := e2
      have HT : Hid (Lf.tk (Sc.bt s i) 86 = true) := by unfold Hid Lf.tk; simp [e2]
      rw [HT.out]; simp only [if_true, Bool.false_eq_true, if_false]
      clear e1 e2
      go_enter Tryz.func82, Tryz.ntmps82
      go_wp2_with (first | (go_at_call 49; (fail_if_success (guard_hyp g1)); refine (takeIsnt b 86 s i w h hi hs (by omega) E1).mono ?_; rintro e w1 ⟨rfl, h1, g1⟩) | (go_at_call 49; refine (takeIs b 118 s i w1 h1 hi hs (by omega) E2).mono ?_; rintro e w2 ⟨rfl, h2, g2⟩))
      go_ret
      exact ⟨rfl, h2, gb_trans g1 g2⟩
    · have E2 : Hid (¬ Sc.bt s i = 118) := e2
      have HT : Hid (Lf.tk (Sc.bt s i) 86 = false) := by unfold Hid Lf.tk; simp [e1, e2]
      rw [HT.out]; simp only [if_true, Bool.false_eq_true, if_false]
      clear e1 e2
      go_enter Tryz.func82, Tryz.ntmps82
      go_wp2_with (first | (go_at_call 49; (fail_if_success (guard_hyp g1)); refine (takeIsnt b 86 s i w h hi hs (by omega) E1).mono ?_; rintro e w1 ⟨rfl, h1, g1⟩) | (go_at_call 49; refine (takeIsnt b 118 s i w1 h1 hi hs (by omega) E2).mono ?_; rintro e w2 ⟨rfl, h2, g2⟩))
      go_ret
      exact ⟨rfl, h2, gb_trans g1 g2⟩

theorem takes72 (b : Nat) (s : ByteArray) (i : Nat) (w : World) (h : Cu w b s i) (hi : i ≤ s.size) (hs : s.size ≤ maxLen) : Calls Tryz.prog 82 #[.pointer (some ⟨b, 0, none⟩), .int .u8 72] w fun e w' => e = .returned (.bool (Lf.tk (Sc.bt s i) 72)) ∧ Cu w' b s (if Lf.tk (Sc.bt s i) 72 then i + 1 else i) ∧ w.grownBy w' (some b) := by
  by_cases e1 : Sc.bt s i = 72
  · have E1 : Hid (Sc.bt s i = 72) := e1
    have HT : Hid (Lf.tk (Sc.bt s i) 72 = true) := by unfold Hid Lf.tk; simp [e1]
    rw [HT.out]; simp only [if_true, Bool.false_eq_true, if_false]
    clear e1
    go_enter Tryz.func82, Tryz.ntmps82
    go_wp2_with (first | (go_at_call 49; refine (takeIs b 72 s i w h hi hs (by omega) E1).mono ?_; rintro e w1 ⟨rfl, h1, g1⟩))
    go_ret
    exact ⟨rfl, h1, g1⟩
  · have E1 : Hid (¬ Sc.bt s i = 72) := e1
    by_cases e2 : Sc.bt s i = 104
    · have E2 : Hid (Sc.bt s i = 104) := e2
      have HT : Hid (Lf.tk (Sc.bt s i) 72 = true) := by unfold Hid Lf.tk; simp [e2]
      rw [HT.out]; simp only [if_true, Bool.false_eq_true, if_false]
      clear e1 e2
      go_enter Tryz.func82, Tryz.ntmps82
      go_wp2_with (first | (go_at_call 49; (fail_if_success (guard_hyp g1)); refine (takeIsnt b 72 s i w h hi hs (by omega) E1).mono ?_; rintro e w1 ⟨rfl, h1, g1⟩) | (go_at_call 49; refine (takeIs b 104 s i w1 h1 hi hs (by omega) E2).mono ?_; rintro e w2 ⟨rfl, h2, g2⟩))
      go_ret
      exact ⟨rfl, h2, gb_trans g1 g2⟩
    · have E2 : Hid (¬ Sc.bt s i = 104) := e2
      have HT : Hid (Lf.tk (Sc.bt s i) 72 = false) := by unfold Hid Lf.tk; simp [e1, e2]
      rw [HT.out]; simp only [if_true, Bool.false_eq_true, if_false]
      clear e1 e2
      go_enter Tryz.func82, Tryz.ntmps82
      go_wp2_with (first | (go_at_call 49; (fail_if_success (guard_hyp g1)); refine (takeIsnt b 72 s i w h hi hs (by omega) E1).mono ?_; rintro e w1 ⟨rfl, h1, g1⟩) | (go_at_call 49; refine (takeIsnt b 104 s i w1 h1 hi hs (by omega) E2).mono ?_; rintro e w2 ⟨rfl, h2, g2⟩))
      go_ret
      exact ⟨rfl, h2, gb_trans g1 g2⟩

theorem takesSlash (b : Nat) (s : ByteArray) (i : Nat) (w : World) (h : Cu w b s i) (hi : i ≤ s.size) (hs : s.size ≤ maxLen) : Calls Tryz.prog 82 #[.pointer (some ⟨b, 0, none⟩), .int .u8 47] w fun e w' => e = .returned (.bool (decide (Sc.bt s i = 47))) ∧ Cu w' b s (if Sc.bt s i = 47 then i + 1 else i) ∧ w.grownBy w' (some b) := by
  by_cases e1 : Sc.bt s i = 47
  · have E1 : Hid (Sc.bt s i = 47) := e1
    simp only [e1, if_true, if_false, decide_true, decide_false]
    clear e1
    go_enter Tryz.func82, Tryz.ntmps82
    go_wp2_with (first | (go_at_call 49; refine (takeIs b 47 s i w h hi hs (by omega) E1).mono ?_; rintro e w1 ⟨rfl, h1, g1⟩))
    go_ret
    exact ⟨rfl, h1, g1⟩
  · have E1 : Hid (¬ Sc.bt s i = 47) := e1
    simp only [e1, if_true, if_false, decide_true, decide_false]
    clear e1
    go_enter Tryz.func82, Tryz.ntmps82
    go_wp2_with (first | (go_at_call 49; refine (takeIsnt b 47 s i w h hi hs (by omega) E1).mono ?_; rintro e w1 ⟨rfl, h1, g1⟩))
    go_ret
    exact ⟨rfl, h1, g1⟩
end Go.Proofs.YtlkdenanbofliaaGreatDoor
