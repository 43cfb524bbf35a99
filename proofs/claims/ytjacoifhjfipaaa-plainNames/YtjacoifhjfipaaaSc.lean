/- Plain facts on the bytes of texts: the first place whose byte is not of a kind. Nothing of the program in it. -/
import Derived.Lib.Hide
import Derived.Lib.Strings
namespace Go.Proofs.Ytjacoifhjfipaaa.Sc

/-- The byte at a place (0 beyond the end). -/
def bt (s : ByteArray) (i : Nat) : Nat := if h : i < s.size then (s[i]).toNat else 0
theorem bt_at {s : ByteArray} {i : Nat} (h : i < s.size) : (s[i]).toNat = bt s i := by unfold bt; rw [dif_pos h]
theorem bt_off {s : ByteArray} {i : Nat} (h : ¬ i < s.size) : bt s i = 0 := by unfold bt; rw [dif_neg h]
theorem bt_lt (s : ByteArray) (i : Nat) : bt s i < 256 := by
  unfold bt
  split
  · exact UInt8.toNat_lt _
  · decide
theorem size_ext (s : ByteArray) {a b : Nat} (h : b ≤ s.size) : (s.extract a b).size = b - a := by
  rw [ByteArray.size_extract]; omega
theorem bt_ext (s : ByteArray) {a b j : Nat} (h : b ≤ s.size) (hj : j < b - a) : bt (s.extract a b) j = bt s (a + j) := by
  have h1 : j < (s.extract a b).size := by rw [size_ext s h]; exact hj
  rw [← bt_at h1, ← bt_at (s := s) (i := a + j) (by omega)]
  rw [ByteArray.getElem_extract]
theorem bt_list {s : ByteArray} {i : Nat} {c : UInt8} (h : s.data.toList[i]? = some c) : bt s i = c.toNat := by
  rw [Array.getElem?_toList] at h
  obtain ⟨h1, h2⟩ := Array.getElem?_eq_some_iff.1 h
  have h3 : i < s.size := h1
  rw [← bt_at h3, ← h2]; rfl
theorem list_bt {s : ByteArray} {i : Nat} (h : i < s.size) : ∃ c, s.data.toList[i]? = some c ∧ c.toNat = bt s i :=
  ⟨s[i], by rw [Array.getElem?_toList]; exact Array.getElem?_eq_getElem (xs := s.data) h, bt_at h⟩
theorem ext {s t : ByteArray} (hs : s.size = t.size) (h : ∀ i, i < s.size → bt s i = bt t i) : s = t := by
  apply ByteArray.ext
  apply Array.ext hs
  intro i h1 h2
  have h3 : i < s.size := h1
  have h4 : i < t.size := h2
  have := h i h3
  rw [← bt_at h3, ← bt_at h4] at this
  exact UInt8.toNat_inj.1 this

def ovf : Nat → (Nat → Bool) → ByteArray → Nat → Nat
  | 0, _, _, i => i
  | f + 1, p, s, i => if p (bt s i) then ovf f p s (i + 1) else i
/-- The first place from i on whose byte is not of the kind p, or the text's length. -/
def ov (p : Nat → Bool) (s : ByteArray) (i : Nat) : Nat := ovf (s.size - i) p s i
structure Ov (p : Nat → Bool) (s : ByteArray) (i k : Nat) : Prop where
  ge : i ≤ k
  le : k ≤ s.size
  all : ∀ j, i ≤ j → j < k → p (bt s j) = true
  stop : k < s.size → p (bt s k) = false
theorem ovf_is (p : Nat → Bool) (s : ByteArray) : ∀ (f i : Nat), f = s.size - i → i ≤ s.size → Ov p s i (ovf f p s i)
  | 0, i, hf, hi => by
    unfold ovf
    exact ⟨Nat.le_refl _, hi, fun j h1 h2 => by omega, fun h => by omega⟩
  | f + 1, i, hf, hi => by
    unfold ovf
    by_cases h : p (bt s i) = true
    · rw [if_pos h]
      have ih := ovf_is p s f (i + 1) (by omega) (by omega)
      refine ⟨by have := ih.ge; omega, ih.le, fun j h1 h2 => ?_, ih.stop⟩
      by_cases hj : j = i
      · rw [hj]; exact h
      · exact ih.all j (by omega) h2
    · rw [if_neg h]
      exact ⟨Nat.le_refl _, hi, fun j h1 h2 => by omega, fun _ => by simpa using h⟩
theorem ov_is (p : Nat → Bool) {s : ByteArray} {i : Nat} (hi : i ≤ s.size) : Ov p s i (ov p s i) := ovf_is p s _ i rfl hi
theorem Ov.uniq {p : Nat → Bool} {s : ByteArray} {i k l : Nat} (h : Ov p s i k) (h' : Ov p s i l) : k = l := by
  rcases Nat.lt_trichotomy k l with hl | rfl | hl
  · have h1 := h.stop (by have := h'.le; omega)
    rw [h'.all k h.ge hl] at h1; cases h1
  · rfl
  · have h1 := h'.stop (by have := h.le; omega)
    rw [h.all l h'.ge hl] at h1; cases h1
theorem ov_of {p : Nat → Bool} {s : ByteArray} {i k : Nat} (h : Ov p s i k) : ov p s i = k := (ov_is p (Nat.le_trans h.ge h.le)).uniq h
theorem ov_ge (p : Nat → Bool) {s : ByteArray} {i : Nat} (hi : i ≤ s.size) : i ≤ ov p s i := (ov_is p hi).ge
theorem ov_le (p : Nat → Bool) {s : ByteArray} {i : Nat} (hi : i ≤ s.size) : ov p s i ≤ s.size := (ov_is p hi).le
/-- Nothing of the kind stands there. -/
theorem ov_no {p : Nat → Bool} {s : ByteArray} {i : Nat} (hi : i ≤ s.size) (h : i < s.size → p (bt s i) = false) : ov p s i = i :=
  ov_of ⟨Nat.le_refl _, hi, fun j h1 h2 => by omega, h⟩
theorem ov_yes {p : Nat → Bool} {s : ByteArray} {i : Nat} (hi : i < s.size) (h : p (bt s i) = true) : ov p s i = ov p s (i + 1) := by
  have k := ov_is p (s := s) (i := i + 1) hi
  refine ov_of ⟨by have := k.ge; omega, k.le, fun j h1 h2 => ?_, k.stop⟩
  by_cases hj : j = i
  · rw [hj]; exact h
  · exact k.all j (by omega) h2
theorem ov_gt {p : Nat → Bool} {s : ByteArray} {i : Nat} (hi : i < s.size) (h : p (bt s i) = true) : i < ov p s i := by
  rw [ov_yes hi h]
  exact ov_ge p (s := s) hi

def wi (l h c : Int) : Bool := decide (l ≤ c) && decide (c ≤ h)
theorem wi_yes {l h c : Int} (h1 : l ≤ c) (h2 : c ≤ h) : wi l h c = true := by simp [wi, h1, h2]
theorem wi_no1 {l h c : Int} (h1 : ¬ l ≤ c) : wi l h c = false := by simp [wi, h1]
theorem wi_no2 {l h c : Int} (h1 : ¬ c ≤ h) : wi l h c = false := by simp [wi, h1]
theorem wi_iff {l h c : Int} : wi l h c = true ↔ l ≤ c ∧ c ≤ h := by simp [wi]
theorem wi_niff {l h c : Int} : wi l h c = false ↔ ¬ (l ≤ c ∧ c ≤ h) := by simp [wi]
def eqB (a c : Int) : Bool := c == a
def blankB (c : Nat) : Bool := eqB 32 c || eqB 9 c
def inkB (c : Nat) : Bool := !blankB c
def digitB (c : Nat) : Bool := wi 48 57 c
def letterB (c : Nat) : Bool := wi 65 90 c || wi 97 122 c
def namedB (c : Nat) : Bool := letterB c || digitB c || eqB 45 c || eqB 95 c
def stateB (c : Nat) : Bool := wi 65 88 c
def twoB (c : Nat) : Bool := wi 112 121 c
def whiteB (c : Nat) : Bool := eqB 32 c || eqB 9 c || eqB 10 c || eqB 13 c
def noEndB (c : Nat) : Bool := !eqB 10 c
end Go.Proofs.Ytjacoifhjfipaaa.Sc
