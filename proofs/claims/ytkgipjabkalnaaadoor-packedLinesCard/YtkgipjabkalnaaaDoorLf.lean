/- Rules of births and stays in plain words: what a text says, which rule may be, what is written, a rule turned. Nothing of the program in it. -/
import Derived.Test.YtkgipjabkalnaaaDoorSc
import Derived.Lib.IndexAny
set_option linter.unusedSimpArgs false
set_option linter.unusedVariables false
namespace Go.Proofs.YtkgipjabkalnaaaDoor.Lf
open Sc

/-- A letter, great or small. -/
def tk (c b : Nat) : Bool := c == b || (decide (65 ≤ b) && decide (b ≤ 90) && c == b + 32)
def isD (c : Nat) : Bool := decide (48 ≤ c) && decide (c ≤ 57)
theorem tk0 {b : Nat} (h : b ≠ 0) : tk 0 b = false := by unfold tk; simp; omega
theorem isD0 : isD 0 = false := by decide
theorem isD_lt {s : ByteArray} {i : Nat} (h : isD (bt s i) = true) : i < s.size := by
  by_cases hi : i < s.size
  · exact hi
  · rw [bt_off hi] at h; cases h
theorem tk_lt {s : ByteArray} {i b : Nat} (hb : b ≠ 0) (h : tk (bt s i) b = true) : i < s.size := by
  by_cases hi : i < s.size
  · exact hi
  · rw [bt_off hi, tk0 hb] at h; cases h

/-- What a list of digits says: does one stand twice; where it ends (or where that one stands); which there are. -/
structure DR where
  tw : Bool
  a : Nat
  v : Nat
def dgf : Nat → ByteArray → Nat → Nat → DR
  | 0, _, i, v => ⟨false, i, v⟩
  | f + 1, s, i, v => if isD (bt s i) then (if v.testBit (bt s i - 48) then ⟨true, i, v⟩ else dgf f s (i + 1) (v ||| 2 ^ (bt s i - 48))) else ⟨false, i, v⟩
def dg (s : ByteArray) (i v : Nat) : DR := dgf (s.size - i) s i v
theorem dg_no {s : ByteArray} {i v : Nat} (h : isD (bt s i) = false) : dg s i v = ⟨false, i, v⟩ := by
  unfold dg
  cases hf : s.size - i with
  | zero => rfl
  | succ f => unfold dgf; rw [h]; rfl
theorem dg_tw {s : ByteArray} {i v : Nat} (h : isD (bt s i) = true) (ht : v.testBit (bt s i - 48) = true) : dg s i v = ⟨true, i, v⟩ := by
  have hi := isD_lt h
  unfold dg
  cases hf : s.size - i with
  | zero => omega
  | succ f => unfold dgf; rw [h, ht]; rfl
theorem dg_go {s : ByteArray} {i v : Nat} (h : isD (bt s i) = true) (ht : v.testBit (bt s i - 48) = false) : dg s i v = dg s (i + 1) (v ||| 2 ^ (bt s i - 48)) := by
  have hi := isD_lt h
  unfold dg
  cases hf : s.size - i with
  | zero => omega
  | succ f =>
    have e : s.size - (i + 1) = f := by omega
    rw [e]
    conv => lhs; unfold dgf
    rw [h, ht]; rfl
theorem or_lt {v k : Nat} (hv : v < 1024) (hk : k < 10) : v ||| 2 ^ k < 1024 := Nat.or_lt_two_pow (n := 10) hv (Nat.pow_lt_pow_right (by decide) hk)
theorem d_lt {c : Nat} (h : isD c = true) : c - 48 < 10 := by unfold isD at h; simp at h; omega
/-- What holds of what a list says. -/
structure DgIs (s : ByteArray) (i : Nat) (r : DR) : Prop where
  ge : i ≤ r.a
  le : r.a ≤ s.size
  lt : r.v < 1024
  all : ∀ j, i ≤ j → j < r.a → isD (bt s j) = true
  tw : r.tw = true → isD (bt s r.a) = true
  no : r.tw = false → isD (bt s r.a) = false
theorem dgf_is (s : ByteArray) : ∀ (f i v : Nat), f = s.size - i → i ≤ s.size → v < 1024 → DgIs s i (dgf f s i v)
  | 0, i, v, hf, hi, hv => ⟨Nat.le_refl _, hi, hv, fun j h1 h2 => by simp only [dgf] at h2; omega, (nofun), fun _ => by
      have : ¬ i < s.size := by omega
      simp only [dgf]
      rw [bt_off this]; rfl⟩
  | f + 1, i, v, hf, hi, hv => by
    unfold dgf
    by_cases h : isD (bt s i) = true
    · rw [if_pos h]
      by_cases ht : v.testBit (bt s i - 48) = true
      · rw [if_pos ht]
        exact ⟨Nat.le_refl _, hi, hv, fun j h1 h2 => by simp only [] at h2; omega, fun _ => h, (nofun)⟩
      · rw [if_neg ht]
        have k := dgf_is s f (i + 1) (v ||| 2 ^ (bt s i - 48)) (by omega) (by omega) (or_lt hv (d_lt h))
        refine ⟨by have := k.ge; omega, k.le, k.lt, fun j h1 h2 => ?_, k.tw, k.no⟩
        by_cases e : j = i
        · rw [e]; exact h
        · exact k.all j (by omega) h2
    · rw [if_neg h]
      exact ⟨Nat.le_refl _, hi, hv, fun j h1 h2 => by simp only [] at h2; omega, (nofun), fun _ => by simpa using h⟩
theorem dg_is {s : ByteArray} {i v : Nat} (hi : i ≤ s.size) (hv : v < 1024) : DgIs s i (dg s i v) := dgf_is s _ i v rfl hi hv

/-- A neighbourhood's greatest count. -/
def mo (h : Nat) : Nat := if h = 2 then 4 else if h = 3 then 6 else 8
def chars (h : Nat) : List UInt8 := if h = 2 then [53, 54, 55, 56, 57] else if h = 3 then [55, 56, 57] else [57]
/-- The neighbourhood that stands at a place, and where its letter ends. -/
def hoodAt (s : ByteArray) (i : Nat) : Nat := if tk (bt s i) 86 then 2 else if tk (bt s i) 72 then 3 else 1
def hoodEnd (s : ByteArray) (i : Nat) : Nat := if tk (bt s i) 86 then i + 1 else if tk (bt s i) 72 then i + 1 else i
/-- What a text says: the rule, or a fault and its place. -/
structure PR where
  ho : Nat
  bo : Nat
  st : Nat
  a : Nat
  er : Nat
def bad (a er : Nat) : PR := ⟨0, 0, 0, a, er⟩
/-- Up to the digits that are too great: the rule and its end, or a fault. -/
def read2 (s : ByteArray) (v : Nat) (r : DR) : PR :=
  if r.tw then bad r.a 81
  else if hoodEnd s r.a = s.size then ⟨hoodAt s r.a, v, r.v, hoodEnd s r.a, 0⟩ else bad (hoodEnd s r.a) 80
def read1 (s : ByteArray) (r : DR) : PR :=
  if r.tw then bad r.a 81
  else if bt s r.a = 47 then (if tk (bt s (r.a + 1)) 83 then read2 s r.v (dg s (r.a + 2) 0) else bad (r.a + 1) 80) else bad r.a 80
def readR (s : ByteArray) : PR := if tk (bt s 0) 66 then read1 s (dg s 1 0) else bad 0 80
def great (s : ByteArray) (h : Nat) : Int := Lib.indexAny s.data.toList (chars h)
def parse2 (s : ByteArray) (r : PR) : PR := if r.er = 0 then (if 0 ≤ great s r.ho then bad (great s r.ho).toNat 82 else ⟨r.ho, r.bo, r.st, 0, 0⟩) else r
def parseR (s : ByteArray) : PR := if 1048576 < s.size then bad 0 3 else parse2 s (readR s)

theorem hoodAt_in (s : ByteArray) (i : Nat) : 1 ≤ hoodAt s i ∧ hoodAt s i ≤ 3 := by unfold hoodAt; split; decide; split <;> decide
theorem hoodEnd_ge (s : ByteArray) (i : Nat) : i ≤ hoodEnd s i ∧ hoodEnd s i ≤ i + 1 := by unfold hoodEnd; split; omega; split <;> omega
theorem hoodEnd_le {s : ByteArray} {i : Nat} (h : i ≤ s.size) : hoodEnd s i ≤ s.size := by
  unfold hoodEnd
  split
  · rename_i h1; exact tk_lt (by decide) h1
  · split
    · rename_i h1; exact tk_lt (by decide) h1
    · exact h
theorem tk_small {c b : Nat} (hb : b < 96) (h : tk c b = true) : c < 128 := by unfold tk at h; simp at h; omega
theorem isD_small {c : Nat} (h : isD c = true) : c < 128 := by unfold isD at h; simp at h; omega

/-- What holds of what is read. -/
structure ReadIs (s : ByteArray) (r : PR) : Prop where
  bo : r.bo < 1024
  st : r.st < 1024
  le : r.a ≤ s.size
  ho : r.er = 0 → 1 ≤ r.ho ∧ r.ho ≤ 3
  al : r.er = 0 → ∀ j, bt s j < 128
  zero : r.er ≠ 0 → r.ho = 0 ∧ r.bo = 0 ∧ r.st = 0
  er : r.er < 128
theorem bad_is {s : ByteArray} {a e : Nat} (ha : a ≤ s.size) (he : e ≠ 0) (he2 : e < 128) : ReadIs s (bad a e) := ⟨(by show 0 < 1024; decide), (by show 0 < 1024; decide), ha, fun h => absurd h he, fun h => absurd h he, fun _ => ⟨rfl, rfl, rfl⟩, he2⟩
theorem read_is (s : ByteArray) : ReadIs s (readR s) := by
  unfold readR
  split
  · rename_i h0
    have l0 := tk_lt (by decide) h0
    have d1 := dg_is (s := s) (i := 1) (v := 0) l0 (by decide)
    revert d1
    generalize dg s 1 0 = r
    intro d1
    unfold read1
    split
    · exact bad_is d1.le (by decide) (by decide)
    · rename_i t1
      split
      · rename_i h1
        have l1 : r.a < s.size := by
          by_cases hi : r.a < s.size
          · exact hi
          · rw [bt_off hi] at h1; cases h1
        split
        · rename_i h2
          have l2 := tk_lt (by decide) h2
          have d2 := dg_is (s := s) (i := r.a + 2) (v := 0) l2 (by decide)
          revert d2
          generalize dg s (r.a + 2) 0 = q
          intro d2
          unfold read2
          split
          · exact bad_is d2.le (by decide) (by decide)
          · rename_i t2
            split
            · rename_i h3
              refine ⟨d1.lt, d2.lt, Nat.le_of_eq h3, fun _ => hoodAt_in _ _, fun _ j => ?_, fun h => absurd rfl h, (by show 0 < 128; decide)⟩
              by_cases hj : j < s.size
              · by_cases j0 : j = 0
                · rw [j0]; exact tk_small (by decide) h0
                by_cases j1 : j < r.a
                · exact isD_small (d1.all j (by omega) j1)
                by_cases j2 : j = r.a
                · rw [j2, h1]; decide
                by_cases j3 : j = r.a + 1
                · rw [j3]; exact tk_small (by decide) h2
                by_cases j4 : j < q.a
                · exact isD_small (d2.all j (by omega) j4)
                · have e : j = q.a := by have := (hoodEnd_ge s q.a).2; omega
                  rw [e]
                  have hne : hoodEnd s q.a ≠ q.a := by omega
                  unfold hoodEnd at hne
                  split at hne
                  · rename_i h4; exact tk_small (by decide) h4
                  · split at hne
                    · rename_i h4; exact tk_small (by decide) h4
                    · exact absurd rfl hne
              · rw [bt_off hj]; decide
            · exact bad_is (hoodEnd_le d2.le) (by decide) (by decide)
        · exact bad_is l1 (by decide) (by decide)
      · exact bad_is d1.le (by decide) (by decide)
  · exact bad_is (Nat.zero_le _) (by decide) (by decide)
end Go.Proofs.YtkgipjabkalnaaaDoor.Lf
