/- Plain facts on texts of numbers: digits, the number that a text says, a number's text. Nothing of the program in it. -/
import Derived.Lib.AtoiAll
import Derived.Lib.ItoaNum
import Derived.Lib.ItoaMem
import Derived.Lib.Strings
import Derived.Lib.Hide
namespace Go.Proofs.YtlkdenanbofliaaGreatDoor.Tx
open Go.Lib

def isD (c : UInt8) : Bool := decide (48 ≤ c.toNat) && decide (c.toNat ≤ 57)
def allD (l : List UInt8) : Bool := l.all isD
/-- What stands behind a minus sign. -/
def dg (l : List UInt8) : List UInt8 := trimPrefix l [45]
def numB (l : List UInt8) : Bool := allD (dg l) && !(dg l).isEmpty
theorem dg_len (l : List UInt8) : (dg l).length ≤ l.length := by
  unfold dg
  exact trimPrefix_le l [45]
theorem dg_minus (r : List UInt8) : dg (45 :: r) = r := by
  unfold dg trimPrefix hasPrefix
  simp [List.isPrefixOf]
theorem dg_else {l : List UInt8} (h : l.head? ≠ some 45) : dg l = l := by
  unfold dg trimPrefix hasPrefix
  cases l with
  | nil => simp [List.isPrefixOf]
  | cons c r =>
    have : ¬ (45 : UInt8) = c := fun hc => h (by simp [hc])
    simp [List.isPrefixOf, this]
theorem allD_snoc (l : List UInt8) (c : UInt8) (h : allD l = true) (h1 : 48 ≤ c.toNat) (h2 : c.toNat ≤ 57) : allD (l ++ [c]) = true := by
  unfold allD at *
  simp only [List.all_append, h, List.all_cons, List.all_nil, Bool.and_true, Bool.true_and]
  simp [isD, h1, h2]
theorem allD_no {l : List UInt8} {k : Nat} {c : UInt8} (hc : l[k]? = some c) (h : ¬ (48 ≤ c.toNat ∧ c.toNat ≤ 57)) : allD l = false := by
  unfold allD
  rw [List.all_eq_false]
  refine ⟨c, List.mem_of_getElem? hc, ?_⟩
  simp only [isD, Bool.and_eq_true, decide_eq_true_eq]
  exact h

def parseV (l : List UInt8) : Int := if 1048576 < l.length then 0 else if numB l = false then 0 else match atoiAll l with | .ok v => v | _ => 0
def parseE (l : List UInt8) : Int := if 1048576 < l.length then 3 else if numB l = false then 10 else match atoiAll l with | .ok _ => 0 | _ => 11
theorem parse_long {l : List UInt8} (h : 1048576 < l.length) : 0 = parseV l ∧ 3 = parseE l := by
  unfold parseV parseE; simp [h]
theorem parse_not {l : List UInt8} (h : l.length ≤ 1048576) (hn : numB l = false) : 0 = parseV l ∧ 10 = parseE l := by
  have hl : ¬ 1048576 < l.length := by omega
  unfold parseV parseE; simp [hn, hl]
theorem parse_ok {l : List UInt8} {v : Int} (h : l.length ≤ 1048576) (hn : numB l = true) (ha : atoiAll l = .ok v) : v = parseV l ∧ 0 = parseE l := by
  have hl : ¬ 1048576 < l.length := by omega
  unfold parseV parseE; simp [hn, ha, hl]
theorem parse_range {l : List UInt8} (h : l.length ≤ 1048576) (hn : numB l = true) (ha : atoiAll l = .range) : 0 = parseV l ∧ 11 = parseE l := by
  have hl : ¬ 1048576 < l.length := by omega
  unfold parseV parseE; simp [hn, ha, hl]
theorem isD_iff (c : UInt8) : isD c = true ↔ 48 ≤ c.toNat ∧ c.toNat ≤ 57 := by
  simp [isD]
/-- A text of a number: a minus sign and digits, or digits. -/
theorem num_cases {l : List UInt8} (h : numB l = true) : (∃ r, l = 45 :: r ∧ allD r = true ∧ r ≠ []) ∨ (∃ c r, l = c :: r ∧ c.toNat ≠ 45 ∧ c.toNat ≠ 43 ∧ allD l = true) := by
  unfold numB at h
  rw [Bool.and_eq_true] at h
  obtain ⟨h1, h2⟩ := h
  have hne : dg l ≠ [] := by simpa using h2
  by_cases hc : l.head? = some 45
  · cases l with
    | nil => simp at hc
    | cons c r =>
      simp only [List.head?_cons, Option.some.injEq] at hc
      subst hc
      rw [dg_minus] at h1 hne
      exact .inl ⟨r, rfl, h1, hne⟩
  · rw [dg_else hc] at h1 hne
    cases l with
    | nil => simp at hne
    | cons c r =>
      have h3 := h1
      unfold allD at h3
      rw [List.all_cons, Bool.and_eq_true] at h3
      have := (isD_iff c).1 h3.1
      exact .inr ⟨c, r, rfl, by omega, by omega, h1⟩
end Go.Proofs.YtlkdenanbofliaaGreatDoor.Tx
