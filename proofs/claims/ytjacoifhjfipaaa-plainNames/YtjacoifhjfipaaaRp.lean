/- What is read of a row, and of a text. -/
import Derived.Test.YtjacoifhjfipaaaRu
import Derived.Test.YtjacoifhjfipaaaS23
namespace Go.Proofs.Ytjacoifhjfipaaa
open Go.RowKit
set_option linter.unusedVariables false
set_option linter.unusedSimpArgs false

/-- One more cell, if it lives. -/
def adC (acc : List Cx) (x y n : Nat) : List Cx := if n = 0 then acc else acc ++ [((x : Int), (y : Int), n)]
/-- A row, read from the byte p on: the cells behind those so far; where a rune is no sign. -/
def rowA (t : ByteArray) (y p x : Nat) (acc : List Cx) : List Cx × Option Nat :=
  if h : p < t.size then
    if ofB ((Utf8.decode t p).1 : Int) = true then rowA t y (p + (Utf8.decode t p).2) (x + 1) (adC acc x y (ofN ((Utf8.decode t p).1 : Int)))
    else ([], some p)
  else (acc, none)
termination_by t.size - p
decreasing_by have := dec_pos t p h; omega
theorem rowA_end {t : ByteArray} {y p x : Nat} {acc : List Cx} (h : ¬ p < t.size) : rowA t y p x acc = (acc, none) := by
  rw [rowA, dif_neg h]
theorem rowA_bad {t : ByteArray} {y p x : Nat} {acc : List Cx} (h : p < t.size) (hb : ofB ((Utf8.decode t p).1 : Int) = false) : rowA t y p x acc = ([], some p) := by
  rw [rowA, dif_pos h, if_neg (by rw [hb]; decide)]
theorem rowA_go {t : ByteArray} {y p x : Nat} {acc : List Cx} (h : p < t.size) (hb : ofB ((Utf8.decode t p).1 : Int) = true) : rowA t y p x acc = rowA t y (p + (Utf8.decode t p).2) (x + 1) (adC acc x y (ofN ((Utf8.decode t p).1 : Int))) := by
  rw [rowA, dif_pos h, if_pos hb]
theorem adC_len (acc : List Cx) (x y n : Nat) : (adC acc x y n).length ≤ acc.length + 1 := by
  unfold adC; split
  · omega
  · simp
theorem adC_app (a b : List Cx) (x y n : Nat) : adC (a ++ b) x y n = a ++ adC b x y n := by
  unfold adC; split
  · rfl
  · rw [List.append_assoc]
/-- Cells ahead stay ahead. -/
theorem rowA_app (t : ByteArray) (y : Nat) (a : List Cx) : ∀ (f p x : Nat) (b : List Cx), t.size - p ≤ f → rowA t y p x (a ++ b) = match rowA t y p x b with | (c, none) => (a ++ c, none) | (_, some q) => ([], some q)
  | 0, p, x, b, h => by rw [rowA_end (by omega), rowA_end (by omega)]
  | f + 1, p, x, b, h => by
    by_cases hp : p < t.size
    · have hd := dec_pos t p hp
      cases hb : ofB ((Utf8.decode t p).1 : Int) with
      | false => rw [rowA_bad hp hb, rowA_bad hp hb]
      | true => rw [rowA_go hp hb, rowA_go (acc := b) hp hb, adC_app, rowA_app t y a f _ _ _ (by omega)]
    · rw [rowA_end hp, rowA_end hp]
theorem rowA_len (t : ByteArray) (y : Nat) : ∀ (f p x : Nat) (b : List Cx), t.size - p ≤ f → (rowA t y p x b).1.length ≤ b.length + (t.size - p)
  | 0, p, x, b, h => by rw [rowA_end (by omega)]; show b.length ≤ _; omega
  | f + 1, p, x, b, h => by
    by_cases hp : p < t.size
    · have hd := dec_pos t p hp
      cases hb : ofB ((Utf8.decode t p).1 : Int) with
      | false => rw [rowA_bad hp hb]; show 0 ≤ _; omega
      | true =>
        rw [rowA_go hp hb]
        have h1 := rowA_len t y f (p + (Utf8.decode t p).2) (x + 1) (adC b x y (ofN ((Utf8.decode t p).1 : Int))) (by omega)
        have h2 := adC_len b x y (ofN ((Utf8.decode t p).1 : Int))
        omega
    · rw [rowA_end hp]; show b.length ≤ _; omega
theorem rowA_lt (t : ByteArray) (y : Nat) : ∀ (f p x : Nat) (b : List Cx) (q : Nat), t.size - p ≤ f → (rowA t y p x b).2 = some q → q < t.size
  | 0, p, x, b, q, h, e => by rw [rowA_end (by omega)] at e; cases e
  | f + 1, p, x, b, q, h, e => by
    by_cases hp : p < t.size
    · have hd := dec_pos t p hp
      cases hb : ofB ((Utf8.decode t p).1 : Int) with
      | false => rw [rowA_bad hp hb] at e; cases e; exact hp
      | true => rw [rowA_go hp hb] at e; exact rowA_lt t y f _ _ _ q (by omega) e
    · rw [rowA_end hp] at e; cases e
/-- The line that begins at i. -/
abbrev lin (s : ByteArray) (i : Nat) : ByteArray := s.extract i (le s i)
/-- Is a line a remark? -/
def remB (t : ByteArray) : Bool := decide (0 < t.size ∧ Sc.bt t 0 = 33)
abbrev RdS := Nat × List Cx × Option Nat
def stepR (s : ByteArray) (o : RdS) (i : Nat) : RdS :=
  if o.2.2.isSome then o else if remB (lin s i) then o else
    match rowA (lin s i) o.1 0 0 o.2.1 with
    | (_, some p) => (o.1, [], some (i + p))
    | (c, none) => (o.1 + 1, c, none)
def rdF (s : ByteArray) (l : List Nat) : RdS := l.foldl (stepR s) (0, [], none)
theorem rdF_snoc (s : ByteArray) (l : List Nat) (i : Nat) : rdF s (l ++ [i]) = stepR s (rdF s l) i := by
  unfold rdF; rw [List.foldl_append]; rfl
theorem stepR_err {s : ByteArray} {o : RdS} (h : o.2.2.isSome = true) (i : Nat) : stepR s o i = o := by unfold stepR; rw [if_pos h]
theorem rdF_err {s : ByteArray} : ∀ (q : List Nat) {l : List Nat} (h : (rdF s l).2.2.isSome = true), rdF s (l ++ q) = rdF s l
  | [], l, h => by rw [List.append_nil]
  | i :: q, l, h => by
    have e : l ++ i :: q = (l ++ [i]) ++ q := by simp
    have h1 : rdF s (l ++ [i]) = rdF s l := by rw [rdF_snoc, stepR_err h]
    rw [e, rdF_err q (by rw [h1]; exact h), h1]
theorem stepR_rem {s : ByteArray} {o : RdS} {i : Nat} (h : o.2.2 = none) (hr : remB (lin s i) = true) : stepR s o i = o := by
  unfold stepR; rw [h, if_neg (by simp), if_pos hr]
theorem stepR_bad {s : ByteArray} {o : RdS} {i p : Nat} (h : o.2.2 = none) (hr : remB (lin s i) = false) (hp : (rowA (lin s i) o.1 0 0 o.2.1).2 = some p) : stepR s o i = (o.1, [], some (i + p)) := by
  unfold stepR
  rw [h, if_neg (by simp), if_neg (by rw [hr]; decide)]
  obtain ⟨c, e⟩ : ∃ c, rowA (lin s i) o.1 0 0 o.2.1 = (c, some p) := ⟨_, by rw [← hp]⟩
  rw [e]
theorem stepR_row {s : ByteArray} {o : RdS} {i : Nat} {c : List Cx} (h : o.2.2 = none) (hr : remB (lin s i) = false) (hp : rowA (lin s i) o.1 0 0 o.2.1 = (c, none)) : stepR s o i = (o.1 + 1, c, none) := by
  unfold stepR
  rw [h, if_neg (by simp), if_neg (by rw [hr]; decide), hp]
/-- What is read of a text: the cells; the place of the first rune that is no sign. -/
def rd (s : ByteArray) : List Cx × Option Nat := (rdF s (lns s)).2
theorem stepR_len (s : ByteArray) (o : RdS) (i : Nat) : (stepR s o i).2.1.length ≤ o.2.1.length + (lin s i).size ∧ (stepR s o i).1 ≤ o.1 + 1 := by
  by_cases h : o.2.2.isSome = true
  · rw [stepR_err h]; omega
  · have h' : o.2.2 = none := by simpa using h
    cases hr : remB (lin s i) with
    | true => rw [stepR_rem h' hr]; omega
    | false =>
      cases hp : (rowA (lin s i) o.1 0 0 o.2.1).2 with
      | some p => rw [stepR_bad h' hr hp]; exact ⟨Nat.zero_le _, Nat.le_succ _⟩
      | none =>
        have e : rowA (lin s i) o.1 0 0 o.2.1 = ((rowA (lin s i) o.1 0 0 o.2.1).1, none) := by rw [← hp]
        rw [stepR_row h' hr e]
        have := rowA_len (lin s i) o.1 _ 0 0 o.2.1 (Nat.le_refl _)
        exact ⟨by omega, Nat.le_refl _⟩
theorem lin_size (s : ByteArray) (i : Nat) : (lin s i).size ≤ s.size := by
  unfold lin; rw [ByteArray.size_extract]; omega
theorem rdF_len (s : ByteArray) : ∀ (n : Nat) (l : List Nat), l.length = n → (rdF s l).2.1.length ≤ n * s.size ∧ (rdF s l).1 ≤ n
  | 0, l, h => by
    obtain rfl : l = [] := List.length_eq_zero_iff.1 h
    exact ⟨Nat.zero_le _, Nat.zero_le _⟩
  | n + 1, l, h => by
    rcases List.eq_nil_or_concat l with rfl | ⟨k, i, rfl⟩
    · simp at h
    rw [List.concat_eq_append] at h ⊢
    rw [rdF_snoc]
    have hk : k.length = n := by simpa using h
    have h1 := rdF_len s n k hk
    have h2 := stepR_len s (rdF s k) i
    have h3 := lin_size s i
    rw [Nat.add_mul, Nat.one_mul]
    omega
/-- A text that is iterated, at a block. -/
theorem run_next_at {P : Program} (w : World) (r : Nat) (t : ByteArray) (p : Nat) (ty : TypeId) (hr : w.heap[r]? = some (.stringIter t p)) (h : p < t.size) :
    (Instr.next (.pointer (some ⟨r, 0, none⟩)) true ty).run P w = .ok (.tuple #[.bool true, .int .i64 p, .int .i32 (Utf8.decode t p).1]) (w.putObj r (.stringIter t (p + (Utf8.decode t p).2))) := by
  simp [Instr.next, getObj, setObj, Sem.run, hr, h, goInt, Result.andThen, World.putObj]
theorem run_next_out {P : Program} (w : World) (r : Nat) (t : ByteArray) (p : Nat) (ty : TypeId) (hr : w.heap[r]? = some (.stringIter t p)) (h : ¬ p < t.size) :
    (Instr.next (.pointer (some ⟨r, 0, none⟩)) true ty).run P w = .ok (.tuple #[.bool false]) w := by
  simp [Instr.next, getObj, Sem.run, hr, h]
end Go.Proofs.Ytjacoifhjfipaaa
