/- Rows of bits looked at from a place; counts told apart: nothing of the program in it. -/
import Derived.Test.YtkgipjabkalnaaaDoorW18
namespace Go.Proofs.YtkgipjabkalnaaaDoor.Pd
set_option linter.unusedVariables false
set_option linter.unusedSimpArgs false

theorem same16 : ∀ x v : Fin 16, ((((true && (if v.val.testBit 0 then x.val.testBit 0 else !x.val.testBit 0)) && (if v.val.testBit 1 then x.val.testBit 1 else !x.val.testBit 1)) && (if v.val.testBit 2 then x.val.testBit 2 else !x.val.testBit 2)) && (if v.val.testBit 3 then x.val.testBit 3 else !x.val.testBit 3)) = decide (x.val = v.val) := by decide
/-- The four digits are those of v just if the number is v. -/
theorem isN_cn (P : Nat → Nat → Bool) (k v t : Nat) (hk : k ≤ 15) (hv : v ≤ 15) : Wo.isN (Wo.dgF P k) v 4 t = decide (Wo.cn P k t = v) := by
  have h := Wo.cn_le P k t
  have := same16 ⟨Wo.cn P k t, by omega⟩ ⟨v, by omega⟩
  simp only [Wo.isN, Wo.dgF]
  exact this
/-- A word's bits from a place on: its own, and the next word's first ones. -/
theorem pack_from (p : Nat → Bool) (i c : Nat) (hc : c ≤ 64) : Pk.pack p i / 2 ^ c ||| (Pk.pack p (i + 1) * 2 ^ (64 - c)) % 18446744073709551616 = Pk.pack (fun j => p (j + c)) i := by
  apply Nat.eq_of_testBit_eq
  intro j
  have e : (18446744073709551616 : Nat) = 2 ^ 64 := by decide
  rw [Nat.testBit_or, e, Nat.testBit_mod_two_pow, Nat.testBit_div_two_pow, Nat.testBit_mul_two_pow, Pk.testBit_pack, Pk.testBit_pack, Pk.testBit_pack]
  by_cases hj : j < 64
  · by_cases h1 : j + c < 64
    · have h2 : ¬ 64 - c ≤ j := by omega
      simp [hj, h1, h2, Nat.add_assoc]
    · have h2 : 64 - c ≤ j := by omega
      have h3 : j - (64 - c) < 64 := by omega
      have h4 : 64 * (i + 1) + (j - (64 - c)) = 64 * i + j + c := by omega
      simp [hj, h1, h2, h3, h4]
  · have h1 : ¬ j + c < 64 := by omega
    simp [hj, h1]
theorem pack_from_last (p : Nat → Bool) (i c : Nat) (hc : c ≤ 64) (h0 : ∀ j, 64 * (i + 1) ≤ j → p j = false) : Pk.pack p i / 2 ^ c = Pk.pack (fun j => p (j + c)) i := by
  have h := pack_from p i c hc
  rw [Pk.pack_congr (p := p) (q := fun _ => false) (k := i + 1) (fun j _ => h0 _ (by omega)), Pk.pack_zero] at h
  simpa using h
/-- All places' bits, moved down. -/
theorem all_down (d : Nat) (hd : d ≤ 64) : 18446744073709551615 / 2 ^ d = Pk.low (64 - d) := by
  apply Nat.eq_of_testBit_eq
  intro j
  have e : (18446744073709551615 : Nat) = 2 ^ 64 - 1 := by decide
  unfold Pk.low
  rw [e, Nat.testBit_div_two_pow, Nat.testBit_two_pow_sub_one, Nat.testBit_two_pow_sub_one]
  by_cases h : j + d < 64
  · rw [decide_eq_true h, decide_eq_true (by omega)]
  · rw [decide_eq_false h, decide_eq_false (by omega)]
/-- A row from a place on, two bits shorter. -/
def fr (p : Nat → Bool) (m c i : Nat) : Bool := p (i + c) && decide (i < m)
/-- Where a count is one of the first k numbers of a list. -/
def ga (c : Nat) (pp : Nat → Nat → Bool) (m : Nat) : Nat → Nat → Bool
  | 0, _ => false
  | k + 1, t => ga c pp m k t || (c.testBit k && (Wo.isN pp k 4 t && decide (t < m)))
theorem ga_is (c : Nat) (P : Nat → Nat → Bool) (m l t : Nat) (hl : l ≤ 15) (ht : t < m) : ∀ k, k ≤ 16 → ga c (Wo.dgF P l) m k t = (decide (Wo.cn P l t < k) && c.testBit (Wo.cn P l t))
  | 0, _ => by simp [ga]
  | k + 1, hk => by
    rw [ga, ga_is c P m l t hl ht k (by omega), isN_cn P l k t hl (by omega), decide_eq_true ht, Bool.and_true]
    by_cases h : Wo.cn P l t = k
    · rw [h]; simp
    · by_cases h1 : Wo.cn P l t < k
      · have : Wo.cn P l t < k + 1 := by omega
        simp [h, h1, this]
      · have : ¬ Wo.cn P l t < k + 1 := by omega
        simp [h, h1, this]
/-- The cells that live next. -/
def tl (bo st : Nat) (h : Nat → Bool) (pp : Nat → Nat → Bool) (m t : Nat) : Bool := (ga bo pp m 9 t && !h t) || (ga st pp m 9 t && h t)
/-- Which cells are neighbours, in the code's order: for each neighbourhood the rows seen. -/
def nb (ho : Nat) (a h b : Nat → Bool) (m : Nat) : Nat → Nat → Bool := fun j t =>
  if ho = 1 then (if j = 0 then fr a m 0 t else if j = 1 then fr a m 1 t else if j = 2 then fr a m 2 t else if j = 3 then fr h m 0 t else if j = 4 then fr h m 2 t else if j = 5 then fr b m 0 t else if j = 6 then fr b m 1 t else fr b m 2 t)
  else if ho = 2 then (if j = 0 then fr a m 1 t else if j = 1 then fr h m 0 t else if j = 2 then fr h m 2 t else fr b m 1 t)
  else (if j = 0 then fr a m 0 t else if j = 1 then fr a m 1 t else if j = 2 then fr h m 0 t else if j = 3 then fr h m 2 t else if j = 4 then fr b m 1 t else fr b m 2 t)
def nn (ho : Nat) : Nat := if ho = 1 then 8 else if ho = 2 then 4 else 6
/-- The row one generation later. -/
def ln (ho bo st : Nat) (a h b : Nat → Bool) (m t : Nat) : Bool := tl bo st (fr h m 1) (Wo.dgF (nb ho a h b m) (nn ho)) m t
theorem nn_le (ho : Nat) : nn ho ≤ 8 := by
  unfold nn
  split
  · omega
  · split <;> omega
/-- .. is what the rule says of the cell and of how many neighbours live. -/
theorem ln_is (ho bo st : Nat) (a h b : Nat → Bool) (m t : Nat) (ht : t < m) : ln ho bo st a h b m t = (if h (t + 1) then st.testBit (Wo.cn (nb ho a h b m) (nn ho) t) else bo.testBit (Wo.cn (nb ho a h b m) (nn ho) t)) := by
  have h8 := nn_le ho
  have hc := Wo.cn_le (nb ho a h b m) (nn ho) t
  unfold ln tl
  rw [ga_is _ _ _ _ _ (by omega) ht 9 (by omega), ga_is _ _ _ _ _ (by omega) ht 9 (by omega)]
  have hd : decide (Wo.cn (nb ho a h b m) (nn ho) t < 9) = true := decide_eq_true (by omega)
  rw [hd]
  unfold fr
  rw [decide_eq_true ht]
  cases h (t + 1) <;> simp
theorem ga_off (c : Nat) (pp : Nat → Nat → Bool) (m t : Nat) (ht : ¬ t < m) : ∀ k, ga c pp m k t = false
  | 0 => rfl
  | k + 1 => by rw [ga, ga_off c pp m t ht k]; simp [ht]
theorem ln_off (ho bo st : Nat) (a h b : Nat → Bool) (m t : Nat) (ht : ¬ t < m) : ln ho bo st a h b m t = false := by
  unfold ln tl
  rw [ga_off _ _ _ _ ht, ga_off _ _ _ _ ht]
  rfl
end Go.Proofs.YtkgipjabkalnaaaDoor.Pd
