/- Plain facts on texts of numbers, there and back: the number that digits say, its digits, noughts ahead. Nothing of the program in it. -/
import Derived.Test.YtlkdenanbofliaaGreatDoorTexts
import Derived.Lib.ItoaLen
namespace Go.Proofs.YtlkdenanbofliaaGreatDoor.Tx
open Go.Lib

def st (acc : Nat) (c : UInt8) : Nat := acc * 10 + (c.toNat - 48)
/-- What digits say, behind what was said before. -/
def vl (acc : Nat) (l : List UInt8) : Nat := l.foldl st acc
theorem vl_nil (acc : Nat) : vl acc [] = acc := List.foldl_nil
theorem vl_cons (acc : Nat) (c : UInt8) (r : List UInt8) : vl acc (c :: r) = vl (acc * 10 + (c.toNat - 48)) r := by
  unfold vl; rw [List.foldl_cons]; rfl
theorem vl_ge (l : List UInt8) : ∀ (acc : Nat), acc ≤ vl acc l := by
  induction l with
  | nil => intro acc; rw [vl_nil]; exact Nat.le_refl _
  | cons c r ih => intro acc; have := ih (acc * 10 + (c.toNat - 48)); rw [vl_cons]; omega
theorem vl_snoc (l : List UInt8) (acc : Nat) (c : UInt8) : vl acc (l ++ [c]) = vl acc l * 10 + (c.toNat - 48) := by
  unfold vl; rw [List.foldl_append]; rfl
theorem allD_cons {c : UInt8} {r : List UInt8} (h : allD (c :: r) = true) : (48 ≤ c.toNat ∧ c.toNat ≤ 57) ∧ allD r = true := by
  unfold allD at h
  rw [List.all_cons, Bool.and_eq_true] at h
  exact ⟨(isD_iff c).1 h.1, h.2⟩
theorem allD_append {l r : List UInt8} (h : allD (l ++ r) = true) : allD l = true ∧ allD r = true := by
  unfold allD at h
  rw [List.all_append, Bool.and_eq_true] at h
  exact h
theorem vl_lt : ∀ (l : List UInt8) (acc : Nat), allD l = true → vl acc l < (acc + 1) * 10 ^ l.length
  | [], acc, _ => by rw [vl_nil]; simp
  | c :: r, acc, h => by
    obtain ⟨hc, hr⟩ := allD_cons h
    have := vl_lt r (acc * 10 + (c.toNat - 48)) hr
    rw [vl_cons, List.length_cons, Nat.pow_succ]
    have h2 : (acc * 10 + (c.toNat - 48) + 1) * 10 ^ r.length ≤ ((acc + 1) * 10) * 10 ^ r.length := Nat.mul_le_mul_right _ (by omega)
    have h3 : (acc + 1) * (10 ^ r.length * 10) = ((acc + 1) * 10) * 10 ^ r.length := by rw [Nat.mul_comm (10 ^ r.length), Nat.mul_assoc]
    rw [h3]
    omega
theorem uint_of : ∀ (l : List UInt8) (acc : Nat), acc < 18446744073709551616 → allD l = true → parseUint10 acc l = if vl acc l < 18446744073709551616 then .ok (vl acc l) else .range
  | [], acc, ha, _ => by rw [vl_nil, if_pos ha, parseUint10]
  | c :: r, acc, ha, h => by
    obtain ⟨hc, hr⟩ := allD_cons h
    have hg := vl_ge r (acc * 10 + (c.toNat - 48))
    rw [parseUint10, if_pos hc, vl_cons]
    by_cases h1 : 1844674407370955162 ≤ acc
    · rw [if_pos h1, if_neg (by omega)]
    · rw [if_neg h1]
      by_cases h2 : 18446744073709551616 ≤ acc * 10 + (c.toNat - 48)
      · rw [if_pos h2, if_neg (by omega)]
      · rw [if_neg h2]
        exact uint_of r _ (by omega) hr
theorem mag_of {l : List UInt8} (h : allD l = true) (hne : l ≠ []) : parseMag l = if vl 0 l < 18446744073709551616 then .ok (vl 0 l) else .range := by
  unfold parseMag
  rw [if_neg hne]
  exact uint_of l 0 (by omega) h
theorem atoi_neg {r : List UInt8} (h : allD r = true) (hne : r ≠ []) : atoiAll (45 :: r) = if vl 0 r ≤ 9223372036854775808 then .ok (-(vl 0 r : Int)) else .range := by
  unfold atoiAll
  simp only [show ((45 : UInt8).toNat = 45) from rfl, or_true, if_true, mag_of h hne]
  by_cases h1 : vl 0 r < 18446744073709551616
  · simp only [h1, if_true, not_true_eq_false, false_and, if_false, true_and]
    by_cases h2 : 9223372036854775808 < vl 0 r
    · rw [if_pos h2, if_neg (by omega)]
    · rw [if_neg h2, if_pos (by omega)]
  · simp only [h1, if_false]
    rw [if_neg (by omega)]
theorem atoi_pos {c : UInt8} {r : List UInt8} (h1 : c.toNat ≠ 45) (h2 : c.toNat ≠ 43) (h : allD (c :: r) = true) : atoiAll (c :: r) = if vl 0 (c :: r) < 9223372036854775808 then .ok (vl 0 (c :: r) : Int) else .range := by
  unfold atoiAll
  simp only [h1, h2, or_self, if_false, mag_of h (by simp)]
  by_cases h3 : vl 0 (c :: r) < 18446744073709551616
  · simp only [h3, if_true, not_false_eq_true, true_and, false_and, if_false]
    by_cases h4 : 9223372036854775808 ≤ vl 0 (c :: r)
    · rw [if_pos h4, if_neg (by omega)]
    · rw [if_neg h4, if_pos (by omega)]
  · simp only [h3, if_false]
    rw [if_neg (by omega)]
/-- A text of a number ends in a number, or it does not fit. -/
theorem num_ends {l : List UInt8} (hn : numB l = true) : (∃ v, atoiAll l = .ok v) ∨ atoiAll l = .range := by
  rcases num_cases hn with ⟨r, rfl, h1, h2⟩ | ⟨c, r, rfl, h1, h2, h3⟩
  · rw [atoi_neg h1 h2]
    split
    · exact .inl ⟨_, rfl⟩
    · exact .inr rfl
  · rw [atoi_pos h1 h2 h3]
    split
    · exact .inl ⟨_, rfl⟩
    · exact .inr rfl
/-- A text of a number that does not fit has at least 19 letters. -/
theorem range_long {l : List UInt8} (hn : numB l = true) (ha : atoiAll l = .range) : 19 ≤ l.length := by
  have key : ∀ d : List UInt8, allD d = true → 9223372036854775808 ≤ vl 0 d → 19 ≤ d.length := by
    intro d hd hv
    have := vl_lt d 0 hd
    apply Classical.byContradiction
    intro hc
    have h2 : (10 : Nat) ^ d.length ≤ 10 ^ 18 := Nat.pow_le_pow_right (by decide) (by omega)
    have h3 : (10 : Nat) ^ 18 = 1000000000000000000 := by decide
    omega
  rcases num_cases hn with ⟨r, rfl, h1, h2⟩ | ⟨c, r, rfl, h1, h2, h3⟩
  · rw [atoi_neg h1 h2] at ha
    split at ha
    · cases ha
    · have := key r h1 (by omega)
      rw [List.length_cons]; omega
  · rw [atoi_pos h1 h2 h3] at ha
    split at ha
    · cases ha
    · exact key _ h3 (by omega)

/-- Digits without the noughts ahead. -/
def strip : List UInt8 → List UInt8
  | [] => []
  | [c] => [c]
  | c :: d :: r => if c = 48 then strip (d :: r) else c :: d :: r
theorem strip_ne : ∀ (l : List UInt8), l ≠ [] → strip l ≠ []
  | [], h => absurd rfl h
  | [c], _ => by simp [strip]
  | c :: d :: r, _ => by
    rw [strip]
    split
    · exact strip_ne (d :: r) (by simp)
    · simp
theorem strip_snoc : ∀ (l : List UInt8) (c : UInt8), l ≠ [] → strip (l ++ [c]) = if strip l = [48] then [c] else strip l ++ [c]
  | [], c, h => absurd rfl h
  | [x], c, _ => by
    show strip [x, c] = _
    rw [strip, strip]
    by_cases hx : x = 48
    · subst hx; simp [strip]
    · simp [hx]
  | x :: y :: r, c, _ => by
    show strip (x :: y :: (r ++ [c])) = _
    rw [strip, strip]
    by_cases hx : x = 48
    · rw [if_pos hx, if_pos hx]
      exact strip_snoc (y :: r) c (by simp)
    · rw [if_neg hx, if_neg hx, if_neg (by simp)]
      rfl
theorem dec_one {c : UInt8} (h : 48 ≤ c.toNat ∧ c.toNat ≤ 57) : decDigits (c.toNat - 48) = [c] := by
  rw [decDigits, dif_pos (by omega), show 48 + (c.toNat - 48) = c.toNat from by omega, UInt8.ofNat_toNat]
theorem dec_ne (u : Nat) : decDigits u ≠ [] := by
  rw [decDigits]; split <;> simp
theorem dec_zero {u : Nat} (h : decDigits u = [48]) : u = 0 := by
  rw [decDigits] at h
  split at h
  · rename_i hu
    have h1 : UInt8.ofNat (48 + u) = 48 := by simpa using h
    have h2 : (UInt8.ofNat (48 + u)).toNat = 48 := by rw [h1]; rfl
    rw [UInt8.toNat_ofNat'] at h2
    omega
  · have := congrArg List.length h
    simp at this
    exact absurd this (dec_ne _)
theorem dec_step {u d : Nat} (hd : d < 10) (hu : 1 ≤ u) : decDigits (u * 10 + d) = decDigits u ++ [UInt8.ofNat (48 + d)] := by
  rw [decDigits, dif_neg (by omega), show (u * 10 + d) / 10 = u from by omega, show (u * 10 + d) % 10 = d from by omega]
/-- A number's digits are those that said it, without the noughts ahead. -/
theorem dec_strip (l : List UInt8) : allD l = true → l ≠ [] → decDigits (vl 0 l) = strip l := by
  suffices h : ∀ (n : Nat) (l : List UInt8), l.length = n → allD l = true → l ≠ [] → decDigits (vl 0 l) = strip l from h l.length l rfl
  intro n
  induction n with
  | zero => intro l hl _ hne; exact absurd (List.length_eq_zero_iff.1 hl) hne
  | succ n ih =>
    intro l hl ha hne
    obtain ⟨l', c, rfl⟩ : ∃ l' c, l = l' ++ [c] := ⟨l.dropLast, l.getLast hne, (List.dropLast_concat_getLast hne).symm⟩
    obtain ⟨ha1, ha2⟩ := allD_append ha
    have hc := (allD_cons ha2).1
    have hl' : l'.length = n := by simpa using hl
    by_cases he : l' = []
    · subst he
      show decDigits (vl 0 [c]) = strip [c]
      rw [strip]
      have : vl 0 [c] = c.toNat - 48 := by rw [vl_cons, vl_nil]; omega
      rw [this]
      exact dec_one hc
    · have hi := ih l' hl' ha1 he
      rw [vl_snoc, strip_snoc l' c he, ← hi]
      by_cases hz : vl 0 l' = 0
      · rw [hz]
        have : decDigits 0 = [48] := by rw [decDigits, dif_pos (by omega)]; rfl
        rw [this, if_pos rfl, Nat.zero_mul, Nat.zero_add]
        exact dec_one hc
      · rw [if_neg (fun h => hz (dec_zero h)), dec_step (by omega) (by omega), show 48 + (c.toNat - 48) = c.toNat from by omega, UInt8.ofNat_toNat]
/-- The text without noughts ahead; -0 is 0. -/
def plainL (l : List UInt8) : List UInt8 := if strip (dg l) = [48] then strip (dg l) else if l.head? = some 45 then 45 :: strip (dg l) else strip (dg l)
theorem itoa_plain {l : List UInt8} {v : Int} (hn : numB l = true) (ha : atoiAll l = .ok v) : itoa v = plainL l := by
  rcases num_cases hn with ⟨r, rfl, h1, h2⟩ | ⟨c, r, rfl, h1, h2, h3⟩
  · rw [atoi_neg h1 h2] at ha
    split at ha
    · injection ha with ha
      subst ha
      unfold plainL
      rw [dg_minus, ← dec_strip r h1 h2]
      by_cases hz : vl 0 r = 0
      · rw [hz]
        have : decDigits 0 = [48] := by rw [decDigits, dif_pos (by omega)]; rfl
        rw [this, if_pos rfl]
        simpa [this] using itoa_nonneg 0
      · rw [if_neg (fun h => hz (dec_zero h)), if_pos List.head?_cons]
        exact itoa_neg _ (by omega)
    · cases ha
  · rw [atoi_pos h1 h2 h3] at ha
    split at ha
    · injection ha with ha
      subst ha
      have hc : (c :: r).head? ≠ some 45 := by
        simp only [List.head?_cons, ne_eq, Option.some.injEq]
        intro h; rw [h] at h1; exact h1 rfl
      unfold plainL
      rw [dg_else hc, ← dec_strip _ h3 (by simp), if_neg hc, itoa_nonneg]
      split <;> rfl
    · cases ha
/-- Digits of a number say the number. -/
theorem dec_vl (u : Nat) : allD (decDigits u) = true ∧ vl 0 (decDigits u) = u := by
  induction u using Nat.strongRecOn with
  | _ u ih =>
    rw [decDigits]
    split
    · rename_i hu
      have h1 : (UInt8.ofNat (48 + u)).toNat = 48 + u := by rw [UInt8.toNat_ofNat']; omega
      refine ⟨?_, ?_⟩
      · unfold allD
        simp only [List.all_cons, List.all_nil, Bool.and_true]
        rw [isD_iff, h1]; omega
      · rw [vl_cons, vl_nil, h1]; omega
    · rename_i hu
      obtain ⟨i1, i2⟩ := ih (u / 10) (by omega)
      have h1 : (UInt8.ofNat (48 + u % 10)).toNat = 48 + u % 10 := by rw [UInt8.toNat_ofNat']; omega
      refine ⟨allD_snoc _ _ i1 (by omega) (by omega), ?_⟩
      rw [vl_snoc, i2, h1]; omega
theorem itoa_back {n : Int} (h0 : -9223372036854775808 ≤ n) (h1 : n ≤ 9223372036854775807) : numB (itoa n) = true ∧ atoiAll (itoa n) = .ok n := by
  unfold itoa
  split
  · obtain ⟨d1, d2⟩ := dec_vl n.natAbs
    refine ⟨?_, ?_⟩
    · unfold numB
      rw [dg_minus, d1]
      simp [dec_ne]
    · rw [atoi_neg d1 (dec_ne _), d2, if_pos (by omega)]
      congr 1; omega
  · obtain ⟨d1, d2⟩ := dec_vl n.toNat
    cases hd : decDigits n.toNat with
    | nil => exact absurd hd (dec_ne _)
    | cons c r =>
      rw [hd] at d1 d2
      have hc := (allD_cons d1).1
      have hh : (c :: r).head? ≠ some 45 := by
        simp only [List.head?_cons, ne_eq, Option.some.injEq]
        intro h; rw [h] at hc; exact absurd hc.1 (by decide)
      refine ⟨?_, ?_⟩
      · unfold numB
        rw [dg_else hh, d1]
        simp
      · rw [atoi_pos (by omega) (by omega) d1, d2, if_pos (by omega)]
        congr 1; omega
theorem num_size {s : ByteArray} (h : numB s.data.toList = true) : 0 < s.size := by
  have hl : s.data.toList.length = s.size := Array.length_toList
  rcases num_cases h with ⟨r, hr, _⟩ | ⟨c, r, hr, _⟩ <;> (rw [hr] at hl; simp at hl; omega)
theorem head_eq {s : ByteArray} (h : 0 < s.size) : s.data.toList.head? = some s[0] := by
  rw [List.head?_eq_getElem?, Array.getElem?_toList]
  exact Array.getElem?_eq_getElem (xs := s.data) h
theorem head_not {s : ByteArray} (h : 0 < s.size) (hc : s[0].toNat ≠ 45) : s.data.toList.head? ≠ some 45 := by
  rw [head_eq h]
  intro he
  rw [Option.some.injEq] at he
  rw [he] at hc
  exact hc rfl
theorem head_is {s : ByteArray} (h : 0 < s.size) (hc : s[0].toNat = 45) : s.data.toList.head? = some 45 := by
  rw [head_eq h]
  exact congrArg some (UInt8.toNat_inj.1 hc)
end Go.Proofs.YtlkdenanbofliaaGreatDoor.Tx
