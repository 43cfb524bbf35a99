/- Rules whose dead fade in plain words: what a text says. Nothing of the program in it. -/
import Derived.Test.YtlkdenanbofliaaGreatDoorLf
import Derived.Test.YtlkdenanbofliaaGreatDoorTexts2
set_option linter.unusedSimpArgs false
set_option linter.unusedVariables false
namespace Go.Proofs.YtlkdenanbofliaaGreatDoor.Gn
open Sc

/-- What a list of digits and the slash behind it say: which there are, where it ends or is wrong, the error. -/
structure LR where
  v : Nat
  a : Nat
  er : Nat
def tl1 (s : ByteArray) (r : Lf.DR) : LR := if r.tw then ⟨0, r.a, 81⟩ else if bt s r.a = 47 then ⟨r.v, r.a + 1, 0⟩ else ⟨0, r.a, 80⟩
def tl (s : ByteArray) (i : Nat) : LR := tl1 s (Lf.dg s i 0)
structure TlIs (s : ByteArray) (i : Nat) (r : LR) : Prop where
  v : r.v < 1024
  ge : i ≤ r.a
  le : r.a ≤ s.size
  gt : r.er = 0 → i < r.a
  sl : r.er = 0 → bt s (r.a - 1) = 47
  er : r.er < 128
theorem tl_is {s : ByteArray} {i : Nat} (hi : i ≤ s.size) : TlIs s i (tl s i) := by
  have d := Lf.dg_is (s := s) (i := i) (v := 0) hi (by decide)
  unfold tl tl1
  revert d
  generalize Lf.dg s i 0 = r
  intro d
  split
  · exact ⟨by show 0 < 1024; decide, d.ge, d.le, (nofun), (nofun), by show 81 < 128; decide⟩
  · split
    · rename_i h
      have hlt : r.a < s.size := by
        by_cases hh : r.a < s.size
        · exact hh
        · rw [bt_off hh] at h; cases h
      exact ⟨d.lt, by have := d.ge; show i ≤ r.a + 1; omega, hlt, fun _ => by have := d.ge; show i < r.a + 1; omega, fun _ => by show bt s (r.a + 1 - 1) = 47; rw [Nat.add_sub_cancel]; exact h, by show 0 < 128; decide⟩
    · exact ⟨by show 0 < 1024; decide, d.ge, d.le, (nofun), (nofun), by show 80 < 128; decide⟩
def no9 (c : Nat) : Bool := c != 57
def noSl (c : Nat) : Bool := c != 47
/-- Where the first 9 ahead of e stands; e: there is none. -/
def nn (s : ByteArray) (e : Nat) : Nat := ov no9 (s.extract 0 e) 0
theorem nn_le {s : ByteArray} {e : Nat} (h : e ≤ s.size) : nn s e ≤ e := by
  have := ov_le no9 (s := s.extract 0 e) (i := 0) (Nat.zero_le _)
  rw [size_ext s h] at this
  unfold nn; omega
def lists2 (s : ByteArray) (v : Nat) (q : LR) : Lf.PR := if q.er = 0 then (if nn s (q.a - 1) < q.a - 1 then Lf.bad (nn s (q.a - 1)) 82 else ⟨1, q.v, v, q.a - 1, 0⟩) else Lf.bad q.a q.er
def lists1 (s : ByteArray) (r : LR) : Lf.PR := if r.er = 0 then lists2 s r.v (tl s r.a) else Lf.bad r.a r.er
def listsR (s : ByteArray) : Lf.PR := lists1 s (tl s 0)
/-- Where the second slash stands; the length: there is none. -/
def ss (s : ByteArray) : Nat := if ov noSl s 0 < s.size then ov noSl s (ov noSl s 0 + 1) else s.size
theorem ss_le (s : ByteArray) : ss s ≤ s.size := by
  unfold ss
  split
  · rename_i h; exact ov_le _ h
  · exact Nat.le_refl _
def lett1 (e : Nat) (r : Lf.PR) : Lf.PR := if r.er = 0 then ⟨r.ho, r.bo, r.st, e, 0⟩ else Lf.bad r.a r.er
def lettR (s : ByteArray) : Lf.PR := lett1 (ss s) (Lf.parseR (s.extract 0 (ss s)))
def isG (c : Nat) : Bool := c == 67 || c == 99 || c == 71 || c == 103
def sl1 (s : ByteArray) (p : Nat) : Nat := if bt s p = 47 then p + 1 else p
def le1 (s : ByteArray) (q : Nat) : Nat := if isG (bt s q) then q + 1 else q
def fs (s : ByteArray) (p : Nat) : Nat := le1 s (sl1 s p)
theorem isG_lt {s : ByteArray} {i : Nat} (h : isG (bt s i) = true) : i < s.size := by
  by_cases hh : i < s.size
  · exact hh
  · rw [bt_off hh] at h; cases h
theorem sl1_le {s : ByteArray} {p : Nat} (h : p ≤ s.size) : p ≤ sl1 s p ∧ sl1 s p ≤ s.size := by
  unfold sl1
  split
  · rename_i h1
    refine ⟨by omega, ?_⟩
    by_cases hh : p < s.size
    · exact hh
    · rw [bt_off hh] at h1; cases h1
  · exact ⟨Nat.le_refl _, h⟩
theorem le1_le {s : ByteArray} {p : Nat} (h : p ≤ s.size) : p ≤ le1 s p ∧ le1 s p ≤ s.size := by
  unfold le1
  split
  · rename_i h1; exact ⟨by omega, isG_lt h1⟩
  · exact ⟨Nat.le_refl _, h⟩
theorem fs_le {s : ByteArray} {p : Nat} (h : p ≤ s.size) : p ≤ fs s p ∧ fs s p ≤ s.size := by
  have h1 := sl1_le h
  have h2 := le1_le h1.2
  unfold fs
  omega
structure SR where
  n : Nat
  a : Nat
  er : Nat
def num (s : ByteArray) (i : Nat) : Nat := Tx.vl 0 (s.extract i (ov digitB s i)).data.toList
def st1 (s : ByteArray) (f : Nat) : SR := if ov digitB s f < s.size then ⟨0, ov digitB s f, 90⟩ else if 2 ≤ num s f ∧ num s f ≤ 256 then ⟨num s f, 0, 0⟩ else ⟨0, f, 90⟩
def stR (s : ByteArray) (p : Nat) : SR := st1 s (fs s p)
/-- What a text says: the rule, or a fault and its place. -/
structure GR where
  ho : Nat
  bo : Nat
  st : Nat
  n : Nat
  a : Nat
  er : Nat
def bad (a er : Nat) : GR := ⟨0, 0, 0, 0, a, er⟩
def parse2 (r : Lf.PR) (t : SR) : GR := if t.er = 0 then ⟨r.ho, r.bo, r.st, t.n, 0, 0⟩ else bad t.a t.er
def parse1 (s : ByteArray) (r : Lf.PR) : GR := if r.er = 0 then parse2 r (stR s r.a) else bad r.a r.er
def isB (c : Nat) : Bool := c == 66 || c == 98
def readR (s : ByteArray) : Lf.PR := if isB (bt s 0) then lettR s else listsR s
def parseR (s : ByteArray) : GR := if 1048576 < s.size then bad 0 3 else parse1 s (readR s)

/-- What holds of what is read ahead of the number. -/
structure ReadIs (s : ByteArray) (r : Lf.PR) : Prop where
  ho : r.ho < 256
  bo : r.bo < 65536
  st : r.st < 65536
  le : r.a ≤ s.size
theorem bad_is {s : ByteArray} {a e : Nat} (ha : a ≤ s.size) : ReadIs s (Lf.bad a e) := ⟨(by show 0 < 256; decide), (by show 0 < 65536; decide), (by show 0 < 65536; decide), ha⟩
theorem lists_is (s : ByteArray) : ReadIs s (listsR s) := by
  have d := tl_is (s := s) (i := 0) (Nat.zero_le _)
  unfold listsR
  revert d
  generalize tl s 0 = r
  intro d
  unfold lists1
  split
  · have d2 := tl_is (s := s) (i := r.a) d.le
    revert d2
    generalize tl s r.a = q
    intro d2
    unfold lists2
    split
    · have := d2.le
      split
      · exact bad_is (by have := nn_le (s := s) (e := q.a - 1) (by omega); omega)
      · exact ⟨(by show 1 < 256; decide), (by have := d2.v; show q.v < 65536; omega), (by have := d.v; show r.v < 65536; omega), (by show q.a - 1 ≤ s.size; omega)⟩
    · exact bad_is d2.le
  · exact bad_is d.le

theorem ov_ext (p : Nat → Bool) {s : ByteArray} {a i : Nat} (h : a + i ≤ s.size) : ov p (s.extract a s.size) i + a = ov p s (a + i) := by
  have hz : (s.extract a s.size).size = s.size - a := size_ext s (Nat.le_refl _)
  have hi : i ≤ (s.extract a s.size).size := by omega
  have k := ov_is p hi
  have e1 := k.ge
  have e2 := k.le
  symm
  refine ov_of ⟨by omega, by omega, fun j h1 h2 => ?_, fun h1 => ?_⟩
  · have := k.all (j - a) (by omega) (by omega)
    rw [bt_ext s (Nat.le_refl _) (by omega)] at this
    rw [← this]; congr 2; omega
  · have := k.stop (by omega)
    rw [bt_ext s (Nat.le_refl _) (by omega)] at this
    rw [← this]; congr 2; omega
theorem ext_ext (s : ByteArray) {a b c : Nat} (h : a + c ≤ s.size) (hb : b ≤ c) : (s.extract a s.size).extract b c = s.extract (a + b) (a + c) := by
  have hz : (s.extract a s.size).size = s.size - a := size_ext s (Nat.le_refl _)
  refine Sc.ext ?_ fun i hi => ?_
  · rw [size_ext _ (by omega), size_ext _ h]; omega
  · rw [size_ext _ (by omega)] at hi
    rw [bt_ext _ (by omega) hi, bt_ext _ (Nat.le_refl _) (by omega), bt_ext _ h (by omega)]
    congr 1; omega
theorem num_ext {s : ByteArray} {a i : Nat} (h : a + i ≤ s.size) : num (s.extract a s.size) i = num s (a + i) := by
  have e := ov_ext digitB h
  have hz : (s.extract a s.size).size = s.size - a := size_ext s (Nat.le_refl _)
  have h1 := ov_ge digitB (s := s.extract a s.size) (i := i) (by omega)
  have h2 := ov_le digitB h
  unfold num
  rw [ext_ext s (by omega) h1, show a + ov digitB (s.extract a s.size) i = ov digitB s (a + i) by omega]
theorem num_none {s : ByteArray} {i : Nat} (h : s.size ≤ i) : num s i = 0 := by
  unfold num
  have : ov digitB s i = i := by
    unfold ov
    rw [show s.size - i = 0 by omega]; rfl
  rw [this]
  have : (s.extract i i).size = 0 := by simp
  have e : (s.extract i i).data.toList = [] := List.eq_nil_of_length_eq_zero (by rw [Array.length_toList]; exact this)
  rw [e]; rfl
end Go.Proofs.YtlkdenanbofliaaGreatDoor.Gn
