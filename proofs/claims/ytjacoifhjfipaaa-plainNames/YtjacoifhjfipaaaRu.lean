/- Signs of states, and runes in texts. Nothing of the program in it. -/
import Derived.Test.YtjacoifhjfipaaaSc
import Derived.Laws.RangeAny
import Derived.Laws.Cover4
namespace Go.Proofs.Ytjacoifhjfipaaa
open Go.RowKit
set_option linter.unusedVariables false
set_option linter.unusedSimpArgs false

/-- The sign of a state. -/
def sgn (s : Nat) : Int := if s = 0 then 46 else if s = 1 then 79 else 10240 + (s : Int)
/-- Is a rune a sign that is read? -/
def ofB (r : Int) : Bool := decide (r = 46 ∨ r = 32 ∨ r = 95 ∨ r = 79 ∨ r = 111 ∨ r = 42 ∨ r = 35 ∨ (10242 ≤ r ∧ r ≤ 10495))
/-- The state as which it is read. -/
def ofN (r : Int) : Nat := if r = 79 ∨ r = 111 ∨ r = 42 ∨ r = 35 then 1 else if 10242 ≤ r ∧ r ≤ 10495 then (r - 10240).toNat else 0
theorem of_sgn {s : Nat} (h : s < 256) : ofB (sgn s) = true ∧ ofN (sgn s) = s := by
  unfold ofB ofN sgn
  by_cases h0 : s = 0
  · subst h0; decide
  by_cases h1 : s = 1
  · subst h1; decide
  rw [if_neg h0, if_neg h1, if_neg (by omega), if_pos (by omega)]
  exact ⟨by rw [decide_eq_true_iff]; omega, by omega⟩
theorem ofN_lt (r : Int) : ofN r < 256 := by
  unfold ofN
  split
  · decide
  · split <;> omega
theorem sgn_inj {a b : Nat} (ha : a < 256) (hb : b < 256) : sgn a = sgn b ↔ a = b := by
  constructor
  · intro h
    rw [← (of_sgn ha).2, ← (of_sgn hb).2, h]
  · rintro rfl; rfl
/-- A rune of one byte, or of three. -/
def Rn (r : Int) : Prop := (0 ≤ r ∧ r < 128) ∨ (2048 ≤ r ∧ r < 55296)
theorem rn_sgn {s : Nat} (h : s < 256) : Rn (sgn s) := by
  unfold Rn sgn
  split
  · omega
  · split <;> omega
theorem getb (s : ByteArray) (i : Nat) : (s.get! i).toNat = Sc.bt s i := by
  unfold Sc.bt
  by_cases h : i < s.size
  · rw [dif_pos h]
    have e : s.get! i = s[i]'h := by
      show s.get! i = _
      simp [ByteArray.get!, getElem!_pos, h]
      rfl
    rw [e]
  · rw [dif_neg h]
    have e : s.get! i = 0 := by
      have h2 : ¬ i < s.data.size := h
      show s.data[i]! = 0
      rw [getElem!_neg s.data i h2]
      rfl
    rw [e]; rfl
theorem bt_app (a b : ByteArray) (i : Nat) : Sc.bt (a ++ b) i = if i < a.size then Sc.bt a i else Sc.bt b (i - a.size) := by
  unfold Sc.bt
  by_cases h : i < a.size
  · rw [if_pos h, dif_pos h, dif_pos (by rw [ByteArray.size_append]; omega)]
    rw [ByteArray.getElem_append_left h]
  · rw [if_neg h]
    by_cases h2 : i - a.size < b.size
    · rw [dif_pos h2, dif_pos (by rw [ByteArray.size_append]; omega)]
      rw [ByteArray.getElem_append_right (by omega)]
    · rw [dif_neg h2, dif_neg (by rw [ByteArray.size_append]; omega)]
theorem enc1 {r : Int} (h : 0 ≤ r ∧ r < 128) : Utf8.encode r = ⟨#[UInt8.ofNat r.toNat]⟩ := by
  have hv : Utf8.valid r = true := by unfold Utf8.valid; simp; omega
  unfold Utf8.encode
  simp only [hv, if_true]
  rw [if_pos (by omega)]
theorem enc3 {r : Int} (h : 2048 ≤ r ∧ r < 55296) : Utf8.encode r = ⟨#[UInt8.ofNat (0xE0 + r.toNat / 4096), UInt8.ofNat (0x80 + r.toNat / 64 % 64), UInt8.ofNat (0x80 + r.toNat % 64)]⟩ := by
  have hv : Utf8.valid r = true := by unfold Utf8.valid; simp; omega
  unfold Utf8.encode
  simp only [hv, if_true]
  rw [if_neg (by omega), if_neg (by omega), if_pos (by omega)]
theorem bt_1 (a b : ByteArray) (x : UInt8) : Sc.bt (a ++ ⟨#[x]⟩ ++ b) (a.size + 0) = x.toNat := by
  rw [bt_app, if_pos (by rw [ByteArray.size_append]; show a.size + 0 < a.size + 1; omega), bt_app, if_neg (by omega)]
  rw [show a.size + 0 - a.size = 0 by omega]; rfl
theorem bt_3 (a b : ByteArray) (x y z : UInt8) : Sc.bt (a ++ ⟨#[x, y, z]⟩ ++ b) (a.size + 0) = x.toNat ∧ Sc.bt (a ++ ⟨#[x, y, z]⟩ ++ b) (a.size + 1) = y.toNat ∧ Sc.bt (a ++ ⟨#[x, y, z]⟩ ++ b) (a.size + 2) = z.toNat := by
  refine ⟨?_, ?_, ?_⟩
  · rw [bt_app, if_pos (by rw [ByteArray.size_append]; show a.size + 0 < a.size + 3; omega), bt_app, if_neg (by omega)]
    rw [show a.size + 0 - a.size = 0 by omega]; rfl
  · rw [bt_app, if_pos (by rw [ByteArray.size_append]; show a.size + 1 < a.size + 3; omega), bt_app, if_neg (by omega)]
    rw [show a.size + 1 - a.size = 1 by omega]; rfl
  · rw [bt_app, if_pos (by rw [ByteArray.size_append]; show a.size + 2 < a.size + 3; omega), bt_app, if_neg (by omega)]
    rw [show a.size + 2 - a.size = 2 by omega]; rfl
theorem dec_enc (a b : ByteArray) {r : Int} (h : Rn r) : Utf8.decode (a ++ Utf8.encode r ++ b) a.size = (r.toNat, (Utf8.encode r).size) := by
  rcases h with h | h
  · rw [enc1 h]
    have h0 := bt_1 a b (UInt8.ofNat r.toNat)
    have e : (UInt8.ofNat r.toNat).toNat = r.toNat := by
      rw [UInt8.toNat_ofNat_of_lt' (by show _ < 256; omega)]
    rw [e] at h0
    simp only [Utf8.decode, getb, h0]
    rw [if_pos (by omega)]
    rfl
  · rw [enc3 h]
    obtain ⟨h0, h1, h2⟩ := bt_3 a b (UInt8.ofNat (0xE0 + r.toNat / 4096)) (UInt8.ofNat (0x80 + r.toNat / 64 % 64)) (UInt8.ofNat (0x80 + r.toNat % 64))
    have hs : (a ++ (⟨#[UInt8.ofNat (0xE0 + r.toNat / 4096), UInt8.ofNat (0x80 + r.toNat / 64 % 64), UInt8.ofNat (0x80 + r.toNat % 64)]⟩ : ByteArray) ++ b).size = a.size + 3 + b.size := by
      rw [ByteArray.size_append, ByteArray.size_append]; rfl
    rw [UInt8.toNat_ofNat_of_lt' (by show _ < 256; omega)] at h0 h1 h2
    simp only [Utf8.decode, getb, h0, h1, h2, hs]
    rw [if_neg (by omega)]
    have c1 : ((0xE0 + r.toNat / 4096) / 32 == 6) = false := by simp; omega
    have c2 : ((0xE0 + r.toNat / 4096) / 16 == 14) = true := by simp; omega
    have c3 : ((0x80 + r.toNat / 64 % 64) / 64 == 2) = true := by simp; omega
    have c4 : ((0x80 + r.toNat % 64) / 64 == 2) = true := by simp; omega
    have c5 : decide (a.size + 1 < a.size + 3 + b.size) = true := by simp; omega
    have c6 : decide (a.size + 2 < a.size + 3 + b.size) = true := by simp; omega
    have c7 : (0xE0 + r.toNat / 4096) % 16 * 4096 + (0x80 + r.toNat / 64 % 64) % 64 * 64 + (0x80 + r.toNat % 64) % 64 = r.toNat := by omega
    have c8 : Utf8.valid ((r.toNat : Nat) : Int) = true := by unfold Utf8.valid; simp; omega
    simp only [c1, c2, c3, c4, c5, c6, c7, c8, Bool.false_and, Bool.and_true, Bool.true_and, if_true, Bool.and_self]
    rw [if_neg (by simp), if_pos (by simp; omega)]
    rfl
theorem dec_pos (s : ByteArray) (p : Nat) (h : p < s.size) : 1 ≤ (Utf8.decode s p).2 := by
  by_cases ha : (s[p]'h).toNat < 128
  · rw [decode_ascii s p h ha]
    exact Nat.le_refl _
  · exact (decode_high s p h (by omega)).2
theorem enc_pos {r : Int} (h : Rn r) : 1 ≤ (Utf8.encode r).size := by
  rcases h with h | h
  · rw [enc1 h]; show 1 ≤ 1; decide
  · rw [enc3 h]; show 1 ≤ 3; decide
end Go.Proofs.Ytjacoifhjfipaaa
