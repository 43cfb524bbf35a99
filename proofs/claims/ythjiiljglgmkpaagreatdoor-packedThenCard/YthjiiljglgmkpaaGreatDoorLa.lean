/- Plain facts on the bytes of texts: the first place whose byte is not of a kind. Nothing of the program in it. -/
import Derived.Lib.Hide
import Derived.Lib.Strings
import Derived.Lib.IndexAny
import Derived.Test.YthjiiljglgmkpaaGreatDoorMem
import Derived.Laws.BitsAllLaws
import Derived.Laws.Bits64b
namespace Go.Proofs.YthjiiljglgmkpaaGreatDoor.Sc

/-- The byte at a place (0 beyond the end). -/
def bt (s : ByteArray) (i : Nat) : Nat := if h : i < s.size then (s[i]).toNat else 0
theorem bt_at {s : ByteArray} {i : Nat} (h : i < s.size) : (s[i]).toNat = bt s i := by unfold bt; rw [dif_pos h]
theorem bt_off {s : ByteArray} {i : Nat} (h : ¬ i < s.size) : bt s i = 0 := by unfold bt; rw [dif_neg h]
theorem bt_lt (s : ByteArray) (i : Nat) : bt s i < 256 := by
  unfold bt
  split
  · exact UInt8.toNat_lt _
  · decide
theorem size_ext (s : ByteArray) {a b : Nat} (h : b ≤ s.size) : (s.extract a b).size = b - a := by
  rw [ByteArray.size_extract]; omega
theorem bt_ext (s : ByteArray) {a b j : Nat} (h : b ≤ s.size) (hj : j < b - a) : bt (s.extract a b) j = bt s (a + j) := by
  have h1 : j < (s.extract a b).size := by rw [size_ext s h]; exact hj
  rw [← bt_at h1, ← bt_at (s := s) (i := a + j) (by omega)]
  rw [ByteArray.getElem_extract]
theorem bt_list {s : ByteArray} {i : Nat} {c : UInt8} (h : s.data.toList[i]? = some c) : bt s i = c.toNat := by
  rw [Array.getElem?_toList] at h
  obtain ⟨h1, h2⟩ := Array.getElem?_eq_some_iff.1 h
  have h3 : i < s.size := h1
  rw [← bt_at h3, ← h2]; rfl
theorem list_bt {s : ByteArray} {i : Nat} (h : i < s.size) : ∃ c, s.data.toList[i]? = some c ∧ c.toNat = bt s i :=
  ⟨s[i], by rw [Array.getElem?_toList]; exact Array.getElem?_eq_getElem (xs := s.data) h, bt_at h⟩
theorem ext {s t : ByteArray} (hs : s.size = t.size) (h : ∀ i, i < s.size → bt s i = bt t i) : s = t := by
  apply ByteArray.ext
  apply Array.ext hs
  intro i h1 h2
  have h3 : i < s.size := h1
  have h4 : i < t.size := h2
  have := h i h3
  rw [← bt_at h3, ← bt_at h4] at this
  exact UInt8.toNat_inj.1 this

def ovf : Nat → (Nat → Bool) → ByteArray → Nat → Nat
  | 0, _, _, i => i
  | f + 1, p, s, i => if p (bt s i) then ovf f p s (i + 1) else i
/-- The first place from i on whose byte is not of the kind p, or the text's length. -/
def ov (p : Nat → Bool) (s : ByteArray) (i : Nat) : Nat := ovf (s.size - i) p s i
structure Ov (p : Nat → Bool) (s : ByteArray) (i k : Nat) : Prop where
  ge : i ≤ k
  le : k ≤ s.size
  all : ∀ j, i ≤ j → j < k → p (bt s j) = true
  stop : k < s.size → p (bt s k) = false
theorem ovf_is (p : Nat → Bool) (s : ByteArray) : ∀ (f i : Nat), f = s.size - i → i ≤ s.size → Ov p s i (ovf f p s i)
  | 0, i, hf, hi => by
    unfold ovf
    exact ⟨Nat.le_refl _, hi, fun j h1 h2 => by omega, fun h => by omega⟩
  | f + 1, i, hf, hi => by
    unfold ovf
    by_cases h : p (bt s i) = true
    · rw [if_pos h]
      have ih := ovf_is p s f (i + 1) (by omega) (by omega)
      refine ⟨by have := ih.ge; omega, ih.le, fun j h1 h2 => ?_, ih.stop⟩
      by_cases hj : j = i
      · rw [hj]; exact h
      · exact ih.all j (by omega) h2
    · rw [if_neg h]
      exact ⟨Nat.le_refl _, hi, fun j h1 h2 => by omega, fun _ => by simpa using h⟩
theorem ov_is (p : Nat → Bool) {s : ByteArray} {i : Nat} (hi : i ≤ s.size) : Ov p s i (ov p s i) := ovf_is p s _ i rfl hi
theorem Ov.uniq {p : Nat → Bool} {s : ByteArray} {i k l : Nat} (h : Ov p s i k) (h' : Ov p s i l) : k = l := by
  rcases Nat.lt_trichotomy k l with hl | rfl | hl
  · have h1 := h.stop (by have := h'.le; omega)
    rw [h'.all k h.ge hl] at h1; cases h1
  · rfl
  · have h1 := h'.stop (by have := h.le; omega)
    rw [h.all l h'.ge hl] at h1; cases h1
theorem ov_of {p : Nat → Bool} {s : ByteArray} {i k : Nat} (h : Ov p s i k) : ov p s i = k := (ov_is p (Nat.le_trans h.ge h.le)).uniq h
theorem ov_ge (p : Nat → Bool) {s : ByteArray} {i : Nat} (hi : i ≤ s.size) : i ≤ ov p s i := (ov_is p hi).ge
theorem ov_le (p : Nat → Bool) {s : ByteArray} {i : Nat} (hi : i ≤ s.size) : ov p s i ≤ s.size := (ov_is p hi).le
/-- Nothing of the kind stands there. -/
theorem ov_no {p : Nat → Bool} {s : ByteArray} {i : Nat} (hi : i ≤ s.size) (h : i < s.size → p (bt s i) = false) : ov p s i = i :=
  ov_of ⟨Nat.le_refl _, hi, fun j h1 h2 => by omega, h⟩
theorem ov_yes {p : Nat → Bool} {s : ByteArray} {i : Nat} (hi : i < s.size) (h : p (bt s i) = true) : ov p s i = ov p s (i + 1) := by
  have k := ov_is p (s := s) (i := i + 1) hi
  refine ov_of ⟨by have := k.ge; omega, k.le, fun j h1 h2 => ?_, k.stop⟩
  by_cases hj : j = i
  · rw [hj]; exact h
  · exact k.all j (by omega) h2
theorem ov_gt {p : Nat → Bool} {s : ByteArray} {i : Nat} (hi : i < s.size) (h : p (bt s i) = true) : i < ov p s i := by
  rw [ov_yes hi h]
  exact ov_ge p (s := s) hi

def wi (l h c : Int) : Bool := decide (l ≤ c) && decide (c ≤ h)
theorem wi_yes {l h c : Int} (h1 : l ≤ c) (h2 : c ≤ h) : wi l h c = true := by simp [wi, h1, h2]
theorem wi_no1 {l h c : Int} (h1 : ¬ l ≤ c) : wi l h c = false := by simp [wi, h1]
theorem wi_no2 {l h c : Int} (h1 : ¬ c ≤ h) : wi l h c = false := by simp [wi, h1]
theorem wi_iff {l h c : Int} : wi l h c = true ↔ l ≤ c ∧ c ≤ h := by simp [wi]
theorem wi_niff {l h c : Int} : wi l h c = false ↔ ¬ (l ≤ c ∧ c ≤ h) := by simp [wi]
def eqB (a c : Int) : Bool := c == a
def blankB (c : Nat) : Bool := eqB 32 c || eqB 9 c
def inkB (c : Nat) : Bool := !blankB c
def digitB (c : Nat) : Bool := wi 48 57 c
def letterB (c : Nat) : Bool := wi 65 90 c || wi 97 122 c
def namedB (c : Nat) : Bool := letterB c || digitB c || eqB 45 c || eqB 95 c
def stateB (c : Nat) : Bool := wi 65 88 c
def twoB (c : Nat) : Bool := wi 112 121 c
def whiteB (c : Nat) : Bool := eqB 32 c || eqB 9 c || eqB 10 c || eqB 13 c
def noEndB (c : Nat) : Bool := !eqB 10 c
end Go.Proofs.YthjiiljglgmkpaaGreatDoor.Sc
set_option linter.unusedSimpArgs false
set_option linter.unusedVariables false
namespace Go.Proofs.YthjiiljglgmkpaaGreatDoor.Lf
open Sc

/-- A letter, great or small. -/
def tk (c b : Nat) : Bool := c == b || (decide (65 ≤ b) && decide (b ≤ 90) && c == b + 32)
def isD (c : Nat) : Bool := decide (48 ≤ c) && decide (c ≤ 57)
theorem tk0 {b : Nat} (h : b ≠ 0) : tk 0 b = false := by unfold tk; simp; omega
theorem isD0 : isD 0 = false := by decide
theorem isD_lt {s : ByteArray} {i : Nat} (h : isD (bt s i) = true) : i < s.size := by
  by_cases hi : i < s.size
  · exact hi
  · rw [bt_off hi] at h; cases h
theorem tk_lt {s : ByteArray} {i b : Nat} (hb : b ≠ 0) (h : tk (bt s i) b = true) : i < s.size := by
  by_cases hi : i < s.size
  · exact hi
  · rw [bt_off hi, tk0 hb] at h; cases h

/-- What a list of digits says: does one stand twice; where it ends (or where that one stands); which there are. -/
structure DR where
  tw : Bool
  a : Nat
  v : Nat
def dgf : Nat → ByteArray → Nat → Nat → DR
  | 0, _, i, v => ⟨false, i, v⟩
  | f + 1, s, i, v => if isD (bt s i) then (if v.testBit (bt s i - 48) then ⟨true, i, v⟩ else dgf f s (i + 1) (v ||| 2 ^ (bt s i - 48))) else ⟨false, i, v⟩
def dg (s : ByteArray) (i v : Nat) : DR := dgf (s.size - i) s i v
theorem dg_no {s : ByteArray} {i v : Nat} (h : isD (bt s i) = false) : dg s i v = ⟨false, i, v⟩ := by
  unfold dg
  cases hf : s.size - i with
  | zero => rfl
  | succ f => unfold dgf; rw [h]; rfl
theorem dg_tw {s : ByteArray} {i v : Nat} (h : isD (bt s i) = true) (ht : v.testBit (bt s i - 48) = true) : dg s i v = ⟨true, i, v⟩ := by
  have hi := isD_lt h
  unfold dg
  cases hf : s.size - i with
  | zero => omega
  | succ f => unfold dgf; rw [h, ht]; rfl
theorem dg_go {s : ByteArray} {i v : Nat} (h : isD (bt s i) = true) (ht : v.testBit (bt s i - 48) = false) : dg s i v = dg s (i + 1) (v ||| 2 ^ (bt s i - 48)) := by
  have hi := isD_lt h
  unfold dg
  cases hf : s.size - i with
  | zero => omega
  | succ f =>
    have e : s.size - (i + 1) = f := by omega
    rw [e]
    conv => lhs; unfold dgf
    rw [h, ht]; rfl
theorem or_lt {v k : Nat} (hv : v < 1024) (hk : k < 10) : v ||| 2 ^ k < 1024 := Nat.or_lt_two_pow (n := 10) hv (Nat.pow_lt_pow_right (by decide) hk)
theorem d_lt {c : Nat} (h : isD c = true) : c - 48 < 10 := by unfold isD at h; simp at h; omega
/-- What holds of what a list says. -/
structure DgIs (s : ByteArray) (i : Nat) (r : DR) : Prop where
  ge : i ≤ r.a
  le : r.a ≤ s.size
  lt : r.v < 1024
  all : ∀ j, i ≤ j → j < r.a → isD (bt s j) = true
  tw : r.tw = true → isD (bt s r.a) = true
  no : r.tw = false → isD (bt s r.a) = false
theorem dgf_is (s : ByteArray) : ∀ (f i v : Nat), f = s.size - i → i ≤ s.size → v < 1024 → DgIs s i (dgf f s i v)
  | 0, i, v, hf, hi, hv => ⟨Nat.le_refl _, hi, hv, fun j h1 h2 => by simp only [dgf] at h2; omega, (nofun), fun _ => by
      have : ¬ i < s.size := by omega
      simp only [dgf]
      rw [bt_off this]; rfl⟩
  | f + 1, i, v, hf, hi, hv => by
    unfold dgf
    by_cases h : isD (bt s i) = true
    · rw [if_pos h]
      by_cases ht : v.testBit (bt s i - 48) = true
      · rw [if_pos ht]
        exact ⟨Nat.le_refl _, hi, hv, fun j h1 h2 => by simp only [] at h2; omega, fun _ => h, (nofun)⟩
      · rw [if_neg ht]
        have k := dgf_is s f (i + 1) (v ||| 2 ^ (bt s i - 48)) (by omega) (by omega) (or_lt hv (d_lt h))
        refine ⟨by have := k.ge; omega, k.le, k.lt, fun j h1 h2 => ?_, k.tw, k.no⟩
        by_cases e : j = i
        · rw [e]; exact h
        · exact k.all j (by omega) h2
    · rw [if_neg h]
      exact ⟨Nat.le_refl _, hi, hv, fun j h1 h2 => by simp only [] at h2; omega, (nofun), fun _ => by simpa using h⟩
theorem dg_is {s : ByteArray} {i v : Nat} (hi : i ≤ s.size) (hv : v < 1024) : DgIs s i (dg s i v) := dgf_is s _ i v rfl hi hv

/-- A neighbourhood's greatest count. -/
def mo (h : Nat) : Nat := if h = 2 then 4 else if h = 3 then 6 else 8
def chars (h : Nat) : List UInt8 := if h = 2 then [53, 54, 55, 56, 57] else if h = 3 then [55, 56, 57] else [57]
/-- The neighbourhood that stands at a place, and where its letter ends. -/
def hoodAt (s : ByteArray) (i : Nat) : Nat := if tk (bt s i) 86 then 2 else if tk (bt s i) 72 then 3 else 1
def hoodEnd (s : ByteArray) (i : Nat) : Nat := if tk (bt s i) 86 then i + 1 else if tk (bt s i) 72 then i + 1 else i
/-- What a text says: the rule, or a fault and its place. -/
structure PR where
  ho : Nat
  bo : Nat
  st : Nat
  a : Nat
  er : Nat
def bad (a er : Nat) : PR := ⟨0, 0, 0, a, er⟩
/-- Up to the digits that are too great: the rule and its end, or a fault. -/
def read2 (s : ByteArray) (v : Nat) (r : DR) : PR :=
  if r.tw then bad r.a 81
  else if hoodEnd s r.a = s.size then ⟨hoodAt s r.a, v, r.v, hoodEnd s r.a, 0⟩ else bad (hoodEnd s r.a) 80
def read1 (s : ByteArray) (r : DR) : PR :=
  if r.tw then bad r.a 81
  else if bt s r.a = 47 then (if tk (bt s (r.a + 1)) 83 then read2 s r.v (dg s (r.a + 2) 0) else bad (r.a + 1) 80) else bad r.a 80
def readR (s : ByteArray) : PR := if tk (bt s 0) 66 then read1 s (dg s 1 0) else bad 0 80
def great (s : ByteArray) (h : Nat) : Int := Lib.indexAny s.data.toList (chars h)
def parse2 (s : ByteArray) (r : PR) : PR := if r.er = 0 then (if 0 ≤ great s r.ho then bad (great s r.ho).toNat 82 else ⟨r.ho, r.bo, r.st, 0, 0⟩) else r
def parseR (s : ByteArray) : PR := if 1048576 < s.size then bad 0 3 else parse2 s (readR s)

theorem hoodAt_in (s : ByteArray) (i : Nat) : 1 ≤ hoodAt s i ∧ hoodAt s i ≤ 3 := by unfold hoodAt; split; decide; split <;> decide
theorem hoodEnd_ge (s : ByteArray) (i : Nat) : i ≤ hoodEnd s i ∧ hoodEnd s i ≤ i + 1 := by unfold hoodEnd; split; omega; split <;> omega
theorem hoodEnd_le {s : ByteArray} {i : Nat} (h : i ≤ s.size) : hoodEnd s i ≤ s.size := by
  unfold hoodEnd
  split
  · rename_i h1; exact tk_lt (by decide) h1
  · split
    · rename_i h1; exact tk_lt (by decide) h1
    · exact h
theorem tk_small {c b : Nat} (hb : b < 96) (h : tk c b = true) : c < 128 := by unfold tk at h; simp at h; omega
theorem isD_small {c : Nat} (h : isD c = true) : c < 128 := by unfold isD at h; simp at h; omega

/-- What holds of what is read. -/
structure ReadIs (s : ByteArray) (r : PR) : Prop where
  bo : r.bo < 1024
  st : r.st < 1024
  le : r.a ≤ s.size
  ho : r.er = 0 → 1 ≤ r.ho ∧ r.ho ≤ 3
  al : r.er = 0 → ∀ j, bt s j < 128
  zero : r.er ≠ 0 → r.ho = 0 ∧ r.bo = 0 ∧ r.st = 0
  er : r.er < 128
theorem bad_is {s : ByteArray} {a e : Nat} (ha : a ≤ s.size) (he : e ≠ 0) (he2 : e < 128) : ReadIs s (bad a e) := ⟨(by show 0 < 1024; decide), (by show 0 < 1024; decide), ha, fun h => absurd h he, fun h => absurd h he, fun _ => ⟨rfl, rfl, rfl⟩, he2⟩
theorem read_is (s : ByteArray) : ReadIs s (readR s) := by
  unfold readR
  split
  · rename_i h0
    have l0 := tk_lt (by decide) h0
    have d1 := dg_is (s := s) (i := 1) (v := 0) l0 (by decide)
    revert d1
    generalize dg s 1 0 = r
    intro d1
    unfold read1
    split
    · exact bad_is d1.le (by decide) (by decide)
    · rename_i t1
      split
      · rename_i h1
        have l1 : r.a < s.size := by
          by_cases hi : r.a < s.size
          · exact hi
          · rw [bt_off hi] at h1; cases h1
        split
        · rename_i h2
          have l2 := tk_lt (by decide) h2
          have d2 := dg_is (s := s) (i := r.a + 2) (v := 0) l2 (by decide)
          revert d2
          generalize dg s (r.a + 2) 0 = q
          intro d2
          unfold read2
          split
          · exact bad_is d2.le (by decide) (by decide)
          · rename_i t2
            split
            · rename_i h3
              refine ⟨d1.lt, d2.lt, Nat.le_of_eq h3, fun _ => hoodAt_in _ _, fun _ j => ?_, fun h => absurd rfl h, (by show 0 < 128; decide)⟩
              by_cases hj : j < s.size
              · by_cases j0 : j = 0
                · rw [j0]; exact tk_small (by decide) h0
                by_cases j1 : j < r.a
                · exact isD_small (d1.all j (by omega) j1)
                by_cases j2 : j = r.a
                · rw [j2, h1]; decide
                by_cases j3 : j = r.a + 1
                · rw [j3]; exact tk_small (by decide) h2
                by_cases j4 : j < q.a
                · exact isD_small (d2.all j (by omega) j4)
                · have e : j = q.a := by have := (hoodEnd_ge s q.a).2; omega
                  rw [e]
                  have hne : hoodEnd s q.a ≠ q.a := by omega
                  unfold hoodEnd at hne
                  split at hne
                  · rename_i h4; exact tk_small (by decide) h4
                  · split at hne
                    · rename_i h4; exact tk_small (by decide) h4
                    · exact absurd rfl hne
              · rw [bt_off hj]; decide
            · exact bad_is (hoodEnd_le d2.le) (by decide) (by decide)
        · exact bad_is l1 (by decide) (by decide)
      · exact bad_is d1.le (by decide) (by decide)
  · exact bad_is (Nat.zero_le _) (by decide) (by decide)
end Go.Proofs.YthjiiljglgmkpaaGreatDoor.Lf
set_option linter.unusedSimpArgs false
set_option linter.unusedVariables false
namespace Go.Proofs.YthjiiljglgmkpaaGreatDoor
open Go.RowKit

theorem wraps_u16 (n : Int) (h0 : 0 ≤ n) (h1 : n < 2 ^ 16) : IntKind.u16.wrap n = n := by rw [IntKind.wrap_u16]; omega
theorem and16 (a b : Nat) (ha : a < 65536) (hb : b < 65536) : bits .and .u16 (a : Int) (b : Int) = ((a &&& b : Nat) : Int) := (bits_nat .u16 16 (by decide) wraps_u16 a b ha hb).1
theorem or16 (a b : Nat) (ha : a < 65536) (hb : b < 65536) : bits .or .u16 (a : Int) (b : Int) = ((a ||| b : Nat) : Int) := (bits_nat .u16 16 (by decide) wraps_u16 a b ha hb).2
namespace Lf
/-- The bits of a that are none of b's. -/
def adn (a b : Nat) : Nat := a &&& (b ^^^ 65535)
theorem testBit_all (i : Nat) : Nat.testBit 65535 i = decide (i < 16) := Nat.testBit_two_pow_sub_one 16 i
theorem big {a i : Nat} (ha : a < 65536) (hi : 16 ≤ i) : a.testBit i = false := Nat.testBit_lt_two_pow (Nat.lt_of_lt_of_le ha (Nat.pow_le_pow_right (n := 2) (by decide) hi))
theorem adn_bit {a b : Nat} (ha : a < 65536) (i : Nat) : (adn a b).testBit i = (a.testBit i && !b.testBit i) := by
  unfold adn
  rw [Nat.testBit_and, Nat.testBit_xor, testBit_all]
  by_cases hi : i < 16
  · simp [hi]
  · rw [big ha (i := i) (by omega)]; simp
theorem adn_lt {a b : Nat} (ha : a < 65536) : adn a b < 65536 := Nat.lt_of_le_of_lt Nat.and_le_left ha
theorem one_bit (k i : Nat) : (2 ^ k).testBit i = decide (k = i) := Nat.testBit_two_pow
theorem up_bit (k i : Nat) : (2 ^ k - 1).testBit i = decide (i < k) := Nat.testBit_two_pow_sub_one k i
theorem and_one {v k : Nat} : (v &&& 2 ^ k = 0) ↔ v.testBit k = false := by
  constructor
  · intro h
    have := congrArg (fun x => x.testBit k) h
    simp only [Nat.testBit_and, one_bit, Nat.zero_testBit] at this
    simpa using this
  · intro h
    apply Nat.eq_of_testBit_eq
    intro i
    rw [Nat.testBit_and, one_bit, Nat.zero_testBit]
    by_cases e : k = i
    · subst e; simp [h]
    · simp [e]
theorem adn_up {v k : Nat} (hv : v < 65536) : (adn v (2 ^ k - 1) = 0) ↔ v < 2 ^ k := by
  constructor
  · intro h
    apply Nat.lt_pow_two_of_testBit
    intro i hi
    have := congrArg (fun x => x.testBit i) h
    simp only [adn_bit hv, up_bit, Nat.zero_testBit] at this
    have h2 : decide (i < k) = false := by simp; omega
    rw [h2] at this
    simpa using this
  · intro h
    apply Nat.eq_of_testBit_eq
    intro i
    rw [adn_bit hv, up_bit, Nat.zero_testBit]
    by_cases e : i < k
    · simp [e]
    · have : v.testBit i = false := Nat.testBit_lt_two_pow (Nat.lt_of_lt_of_le h (Nat.pow_le_pow_right (n := 2) (by decide) (by omega)))
      simp [this]
theorem or_up {a b k : Nat} : (a ||| b < 2 ^ k) ↔ (a < 2 ^ k ∧ b < 2 ^ k) := by
  constructor
  · intro h
    exact ⟨Nat.lt_of_le_of_lt Nat.left_le_or h, Nat.lt_of_le_of_lt Nat.right_le_or h⟩
  · rintro ⟨h1, h2⟩
    exact Nat.or_lt_two_pow h1 h2
theorem p16 {k : Nat} (hk : k < 16) : 2 ^ k < 65536 := Nat.pow_lt_pow_right (n := 16) (by decide) hk
end Lf
theorem adn16 (a b : Nat) (ha : a < 65536) (hb : b < 65536) : bits .andNot .u16 (a : Int) (b : Int) = ((Lf.adn a b : Nat) : Int) := by
  have hx : Lf.adn a b < 65536 := Lf.adn_lt ha
  have h1 : (BitVec.ofInt 16 (a : Int)).toNat = a := by
    rw [BitVec.ofInt_natCast, BitVec.toNat_ofNat]; exact Nat.mod_eq_of_lt (by omega)
  have h2 : (BitVec.ofInt 16 (b : Int)).toNat = b := by
    rw [BitVec.ofInt_natCast, BitVec.toNat_ofNat]; exact Nat.mod_eq_of_lt (by omega)
  show IntKind.u16.wrap ((BitVec.ofInt 16 (a : Int) &&& ~~~ BitVec.ofInt 16 (b : Int)).toNat : Int) = _
  have e : (BitVec.ofInt 16 (a : Int) &&& ~~~ BitVec.ofInt 16 (b : Int)).toNat = Lf.adn a b := by
    apply Nat.eq_of_testBit_eq
    intro i
    rw [Lf.adn_bit ha, BitVec.toNat_and, Nat.testBit_and, h1, BitVec.testBit_toNat, BitVec.getLsbD_not]
    by_cases hi : i < 16
    · rw [← BitVec.testBit_toNat, h2]; simp [hi]
    · rw [Lf.big ha (i := i) (by omega)]; simp
  rw [e, IntKind.wrap_u16]
  omega
end Go.Proofs.YthjiiljglgmkpaaGreatDoor
