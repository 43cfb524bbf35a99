/- The lowest place of a word; what TrailingZeros64 answers; the places of a row as a list. -/
import Derived.Test.YtcdefpfnjjahgaaDoorW1
import Derived.Test.YtcdefpfnjjahgaaDoorPack
import Derived.Shelf.Spec.TrailingZeros
namespace Go.Proofs.YtcdefpfnjjahgaaDoor
open Go.RowKit
set_option linter.unusedVariables false

theorem low_split {x : Nat} (h0 : x ≠ 0) (h : x < 18446744073709551616) : Lib.ctz 64 x < 64 ∧ x.testBit (Lib.ctz 64 x) = true ∧ (∀ j, j < Lib.ctz 64 x → x.testBit j = false) ∧ ∀ j, (x &&& (x - 1)).testBit j = (x.testBit j && decide (j ≠ Lib.ctz 64 x)) := by
  obtain ⟨m, hm, hk⟩ := Lib.ctzFrom_spec 64 x (by omega) h
  have e : Lib.ctz 64 x = Lib.ctzFrom 64 x := by simp [Lib.ctz, h0]
  rw [e]
  generalize Lib.ctzFrom 64 x = c at hm hk
  have hp : 0 < 2 ^ c := Nat.two_pow_pos c
  have b1 : ∀ j, x.testBit j = if j < c then false else (2 * m + 1).testBit (j - c) := fun j => by
    have := Nat.testBit_two_pow_mul_add (2 * m + 1) (i := c) (b := 0) hp j
    rw [Nat.add_zero, ← hm] at this
    rw [this]; simp
  have e1 : x - 1 = 2 ^ c * (2 * m) + (2 ^ c - 1) := by
    rw [hm, Nat.mul_add, Nat.mul_one]; omega
  have b2 : ∀ j, (x - 1).testBit j = if j < c then true else (2 * m).testBit (j - c) := fun j => by
    rw [e1, Nat.testBit_two_pow_mul_add (2 * m) (by omega) j]
    by_cases hj : j < c
    · simp [hj, Nat.testBit_two_pow_sub_one]
    · simp [hj]
  refine ⟨hk, ?_, ?_, ?_⟩
  · rw [b1, if_neg (by omega), Nat.sub_self, Nat.testBit_zero]; simp
  · intro j hj
    rw [b1, if_pos hj]
  · intro j
    rw [Nat.testBit_and, b1, b2]
    by_cases hj : j < c
    · simp [hj]
    · rw [if_neg hj, if_neg hj]
      by_cases hjc : j = c
      · subst hjc
        rw [Nat.sub_self, Nat.testBit_zero, Nat.testBit_zero]; simp
      · obtain ⟨d, rfl⟩ : ∃ d, j = c + (d + 1) := ⟨j - c - 1, by omega⟩
        have e3 : c + (d + 1) - c = d + 1 := by omega
        rw [e3, Nat.testBit_succ, Nat.testBit_succ]
        have d1 : (2 * m + 1) / 2 = m := by omega
        have d2 : 2 * m / 2 = m := by omega
        rw [d1, d2]
        simp

/-- The lowest place of a word that is not 0. -/
def lowAt (q : Nat → Bool) (k : Nat) : Nat := Lib.ctz 64 (Pk.pack q k)

theorem lowAt_spec {q : Nat → Bool} {k : Nat} (h : Pk.pack q k ≠ 0) : lowAt q k < 64 ∧ q (64 * k + lowAt q k) = true ∧ (∀ j, 64 * k ≤ j → j < 64 * k + lowAt q k → q j = false) ∧
    Pk.pack q k &&& (Pk.pack q k - 1) = Pk.pack (fun j => q j && decide (64 * k + lowAt q k + 1 ≤ j)) k := by
  obtain ⟨h1, h2, h3, h4⟩ := low_split h (Pk.pack_lt q k)
  have e : Lib.ctz 64 (Pk.pack q k) = lowAt q k := rfl
  rw [e] at h1 h2 h3 h4
  have hlow : ∀ j, 64 * k ≤ j → j < 64 * k + lowAt q k → q j = false := fun j hj hj2 => by
    have := h3 (j - 64 * k) (by omega)
    rw [Pk.testBit_pack] at this
    have e2 : 64 * k + (j - 64 * k) = j := by omega
    have e4 : j - 64 * k < 64 := by omega
    rw [e2] at this
    simpa [e4] using this
  refine ⟨h1, ?_, hlow, ?_⟩
  · rw [Pk.testBit_pack] at h2
    simpa [h1] using h2
  · apply Nat.eq_of_testBit_eq
    intro j
    rw [h4, Pk.testBit_pack, Pk.testBit_pack]
    by_cases hj : j < 64
    · simp only [hj, decide_true, Bool.true_and]
      by_cases hjc : j = lowAt q k
      · have : ¬ 64 * k + lowAt q k + 1 ≤ 64 * k + j := by omega
        simp [hjc]
      · by_cases hl : j < lowAt q k
        · have := hlow (64 * k + j) (by omega) (by omega)
          simp [this]
        · have a1 : 64 * k + lowAt q k + 1 ≤ 64 * k + j := by omega
          simp [hjc, a1]
    · simp [hj]

theorem pack_none {q : Nat → Bool} {k : Nat} (h : Pk.pack q k = 0) : ∀ j, 64 * k ≤ j → j < 64 * (k + 1) → q j = false := fun j h1 h2 => by
  have := Pk.testBit_pack q k (j - 64 * k)
  rw [h] at this
  have e1 : 64 * k + (j - 64 * k) = j := by omega
  have e2 : j - 64 * k < 64 := by omega
  rw [e1] at this
  simpa [e2] using this.symm

/-- The places below s that are set. -/
def come (p : Nat → Bool) (s : Nat) : List Nat := (List.range s).filter p

theorem come_same (p : Nat → Bool) {s : Nat} : ∀ t, s ≤ t → (∀ j, s ≤ j → j < t → p j = false) → come p t = come p s
  | 0, h, _ => by rw [show s = 0 by omega]
  | t + 1, h, hf => by
    by_cases e : s = t + 1
    · rw [e]
    · rw [← come_same p t (by omega) fun j h1 h2 => hf j h1 (by omega)]
      unfold come
      rw [List.range_succ, List.filter_append]
      simp [hf t (by omega) (by omega)]
theorem come_step (p : Nat → Bool) {s t : Nat} (h : s ≤ t) (hf : ∀ j, s ≤ j → j < t → p j = false) (hp : p t = true) : come p (t + 1) = come p s ++ [t] := by
  rw [← come_same p t h hf]
  unfold come
  rw [List.range_succ, List.filter_append]
  simp [hp]
theorem come_length (p : Nat → Bool) (s : Nat) : (come p s).length ≤ s := by
  unfold come
  exact Nat.le_trans (List.length_filter_le _ _) (by simp)
theorem mem_come {p : Nat → Bool} {s i : Nat} : i ∈ come p s ↔ i < s ∧ p i = true := by
  unfold come; simp [List.mem_filter]

/-- The library's table, as it is laid. -/
abbrev Tab64 (w : World) : Prop := TabAt 0 Lib.deBruijn64tab w

theorem tz_core (x k idx : Nat) (w : World) (hx0 : ((x : Int) == 0) = false)
    (key : IntKind.u64.wrap (bits BinOp.and IntKind.u64 (x : Int) (IntKind.u64.wrap (-(x : Int))) * 285870213051353865) / 288230376151711744 = (idx : Int))
    (hi : idx < 64) (hk : k < 64) (hcell : w.cell? ⟨0, idx, none⟩ = some (.int .u8 k)) :
    Calls Tryd.prog 43 #[.int .u64 x] w fun e w' => e = .returned (.int .i64 k) ∧ w' = w := by
  go_enter Tryd.func43, Tryd.ntmps43
  go_wp2_with (simp only [key])
  go_ret
  exact ⟨rfl, rfl⟩

/-- **TrailingZeros64 of a number that is not 0.** -/
theorem tz64C (x : Nat) (hx0 : x ≠ 0) (hx : x < 18446744073709551616) (w : World) (hT : Tab64 w) :
    Calls Tryd.prog 43 #[.int .u64 x] w fun e w' => e = .returned (.int .i64 (Lib.ctz 64 x)) ∧ w' = w := by
  obtain ⟨hlow, hk⟩ := Lib.lowest_bit 64 x hx0 hx
  obtain ⟨hi, htab⟩ := Lib.deBruijn64_at _ hk
  have hkey := tz64_key x _ hx hx0 hlow
  have hc := hT _ (show _ < Lib.deBruijn64tab.length from hi)
  rw [htab] at hc
  exact tz_core x _ _ w (by simp; omega) hkey hi hk hc

end Go.Proofs.YtcdefpfnjjahgaaDoor
