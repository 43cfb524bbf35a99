/- What the library's searches say of a text, in the words of Gn: a byte's first place, the second slash, digits trimmed, a first letter. Nothing of the program in it. -/
import Derived.Test.YtlkdenanbofliaaGreatDoorGn
import Derived.Lib.IndexLaws
import Derived.Lib.IndexBytes
import Derived.Lib.Split
import Derived.Lib.SlTrimSet
import Derived.Lib.Strings
set_option linter.unusedSimpArgs false
set_option linter.unusedVariables false
namespace Go.Proofs.YtlkdenanbofliaaGreatDoor.Gn
open Sc

def nb (c : Nat) (x : Nat) : Bool := x != c
theorem at_bt {s : ByteArray} {k : Nat} (h : k < s.size) : ∃ c, s.data.toList[k]? = some c ∧ c.toNat = bt s k := list_bt h
/-- A byte's first place. -/
theorem ib_is (s : ByteArray) (c : UInt8) : Lib.indexByte s.data.toList c = if ov (nb c.toNat) s 0 < s.size then ((ov (nb c.toNat) s 0 : Nat) : Int) else -1 := by
  have hge := Lib.indexByte_ge s.data.toList c
  have k := ov_is (nb c.toNat) (s := s) (i := 0) (Nat.zero_le _)
  have hlen : s.data.toList.length = s.size := Array.length_toList
  by_cases h : Lib.indexByte s.data.toList c = -1
  · rw [h, if_neg]
    intro hlt
    obtain ⟨x, h1, h2⟩ := at_bt hlt
    have h3 : nb c.toNat (bt s (ov (nb c.toNat) s 0)) = false := k.stop hlt
    have h4 : bt s (ov (nb c.toNat) s 0) = c.toNat := by
      revert h3
      generalize bt s (ov (nb c.toNat) s 0) = y
      intro h3
      unfold nb at h3
      simpa using h3
    have : x = c := UInt8.toNat_inj.1 (h2.trans h4)
    exact Lib.indexByte_none h _ (by rw [h1, this])
  · obtain ⟨o, ho⟩ : ∃ o : Nat, Lib.indexByte s.data.toList c = o := ⟨(Lib.indexByte s.data.toList c).toNat, by omega⟩
    obtain ⟨h1, h2⟩ := Lib.indexByte_some ho
    have hlt : o < s.size := by
      have := (List.getElem?_eq_some_iff.1 h1).1
      omega
    have e : ov (nb c.toNat) s 0 = o := by
      refine ov_of ⟨Nat.zero_le _, by omega, fun j _ hj => ?_, fun _ => ?_⟩
      · obtain ⟨x, h3, h4⟩ := at_bt (s := s) (k := j) (by omega)
        unfold nb
        rw [← h4]
        have : x ≠ c := fun e => h2 j hj (by rw [h3, e])
        simpa using fun e => this (UInt8.toNat_inj.1 e)
      · unfold nb
        rw [bt_list h1]
        simp
    rw [ho, e, if_pos hlt]
theorem nb9 : nb (57 : UInt8).toNat = no9 := rfl
theorem nbS : nb (47 : UInt8).toNat = noSl := rfl
theorem nine_is {s : ByteArray} {e : Nat} (h : e ≤ s.size) : Lib.indexByte (s.extract 0 e).data.toList 57 = if nn s e < e then ((nn s e : Nat) : Int) else -1 := by
  rw [ib_is, nb9]
  have hz : (s.extract 0 e).size = e := by rw [size_ext s h]; omega
  unfold nn
  rw [hz]
theorem indexSl (s : ByteArray) : Lib.indexB s ⟨#[47]⟩ = if ov noSl s 0 < s.size then ((ov noSl s 0 : Nat) : Int) else -1 := by
  show Lib.index s.data.toList [47] = _
  rw [Lib.index_one, ib_is, nbS]
/-- The pieces between the first two slashes. -/
theorem split_none {s : ByteArray} (n : Nat) (h : ¬ ov noSl s 0 < s.size) : Lib.splitB ⟨#[47]⟩ 0 n s = [s] := by
  apply Lib.splitB_miss
  rw [indexSl, if_neg h]
theorem split_some {s : ByteArray} (n : Nat) (h : ov noSl s 0 < s.size) : Lib.splitB ⟨#[47]⟩ 0 (n + 1) s = s.extract 0 (ov noSl s 0) :: Lib.splitB ⟨#[47]⟩ 0 n (s.extract (ov noSl s 0 + 1) s.size) := by
  rw [Lib.splitB_hit _ _ _ _ (ov noSl s 0) (by rw [indexSl, if_pos h])]
  rfl
/-- Three pieces where there are two slashes: the third is all that is behind the second. -/
theorem split3 (s : ByteArray) (h : ss s < s.size) : ∃ x y, Lib.splitB ⟨#[47]⟩ 0 2 s = [x, y, s.extract (ss s + 1) s.size] ∧ 2 ≤ s.size := by
  by_cases h1 : ov noSl s 0 < s.size
  · have e := ov_ext noSl (s := s) (a := ov noSl s 0 + 1) (i := 0) (by omega)
    have hz : (s.extract (ov noSl s 0 + 1) s.size).size = s.size - (ov noSl s 0 + 1) := size_ext s (Nat.le_refl _)
    have hs : ss s = ov noSl s (ov noSl s 0 + 1) := by unfold ss; rw [if_pos h1]
    rw [Nat.add_zero, ← hs] at e
    have e2 : ss s = ov noSl s 0 + 1 + ov noSl (s.extract (ov noSl s 0 + 1) s.size) 0 := by omega
    have e3 : (s.extract (ov noSl s 0 + 1) s.size).extract (ov noSl (s.extract (ov noSl s 0 + 1) s.size) 0 + 1) (s.extract (ov noSl s 0 + 1) s.size).size = s.extract (ss s + 1) s.size := by
      rw [hz, ext_ext s (by omega) (by omega), e2]
      congr 1
      omega
    refine ⟨s.extract 0 (ov noSl s 0), (s.extract (ov noSl s 0 + 1) s.size).extract 0 (ov noSl (s.extract (ov noSl s 0 + 1) s.size) 0), ?_, by omega⟩
    rw [split_some 1 h1, split_some 0 (by omega), Lib.splitB_zero, e3]
  · unfold ss at h
    rw [if_neg h1] at h
    omega
theorem split2 (s : ByteArray) (n : Nat) (h : ¬ ss s < s.size) : (Lib.splitB ⟨#[47]⟩ 0 n s).length < 3 := by
  cases n with
  | zero => rw [Lib.splitB_zero]; simp
  | succ n =>
    by_cases h1 : ov noSl s 0 < s.size
    · have e := ov_ext noSl (s := s) (a := ov noSl s 0 + 1) (i := 0) (by omega)
      have hz : (s.extract (ov noSl s 0 + 1) s.size).size = s.size - (ov noSl s 0 + 1) := size_ext s (Nat.le_refl _)
      have hs : ss s = ov noSl s (ov noSl s 0 + 1) := by unfold ss; rw [if_pos h1]
      rw [Nat.add_zero, ← hs] at e
      rw [split_some n h1, split_none _ (by omega)]
      simp
    · rw [split_none _ h1]
      simp
theorem drop_while (p : UInt8 → Bool) (q : Nat → Bool) (hpq : ∀ c : UInt8, p c = q c.toNat) : ∀ l : List UInt8, (l.dropWhile p).length = l.length - (l.takeWhile p).length
  | [] => rfl
  | c :: l => by
    rw [List.dropWhile_cons, List.takeWhile_cons]
    split
    · rw [drop_while p q hpq l]; simp
    · simp
def digs : List UInt8 := [48, 49, 50, 51, 52, 53, 54, 55, 56, 57]
theorem digs_all : ((List.range 256).all fun c => digs.contains c.toUInt8 == digitB c) = true := by decide +kernel
theorem digs_is (c : UInt8) : digs.contains c = digitB c.toNat := by
  have := List.all_eq_true.1 digs_all c.toNat (List.mem_range.2 c.toNat_lt)
  simpa using this
theorem take_at (p : UInt8 → Bool) : ∀ (l : List UInt8) (j : Nat), j < (l.takeWhile p).length → ∃ c, l[j]? = some c ∧ p c = true
  | [], j, h => by simp at h
  | a :: l, j, h => by
    rw [List.takeWhile_cons] at h
    by_cases ha : p a = true
    · rw [if_pos ha] at h
      cases j with
      | zero => exact ⟨a, rfl, ha⟩
      | succ j => exact take_at p l j (by simp only [List.length_cons] at h; omega)
    · rw [if_neg ha] at h
      simp at h
theorem take_end (p : UInt8 → Bool) : ∀ (l : List UInt8), (l.takeWhile p).length < l.length → ∃ c, l[(l.takeWhile p).length]? = some c ∧ p c = false
  | [], h => by simp at h
  | a :: l, h => by
    rw [List.takeWhile_cons] at h ⊢
    by_cases ha : p a = true
    · rw [if_pos ha] at h ⊢
      simp only [List.length_cons, List.getElem?_cons_succ] at h ⊢
      exact take_end p l (by omega)
    · rw [if_neg ha]
      exact ⟨a, rfl, by simpa using ha⟩
theorem take_ov (p : UInt8 → Bool) (q : Nat → Bool) (hpq : ∀ c : UInt8, p c = q c.toNat) (s : ByteArray) : ov q s 0 = (s.data.toList.takeWhile p).length := by
  have hlen : s.data.toList.length = s.size := Array.length_toList
  have hle : (s.data.toList.takeWhile p).length ≤ s.data.toList.length := (List.takeWhile_sublist p).length_le
  refine ov_of ⟨Nat.zero_le _, by omega, fun j _ hj => ?_, fun hlt => ?_⟩
  · obtain ⟨c, h1, h2⟩ := take_at p _ j hj
    rw [bt_list h1, ← hpq]; exact h2
  · obtain ⟨c, h1, h2⟩ := take_end p s.data.toList (by omega)
    rw [bt_list h1, ← hpq]; exact h2
/-- What is left of a text without its first digits. -/
theorem trim_size (s : ByteArray) : (ByteArray.mk (Lib.trimLeftS s.data.toList digs).toArray).size = s.size - ov digitB s 0 := by
  have h1 := take_ov (digs.contains ·) digitB digs_is s
  have h2 := drop_while (digs.contains ·) digitB digs_is s.data.toList
  have hlen : s.data.toList.length = s.size := Array.length_toList
  have h3 : (ByteArray.mk (Lib.trimLeftS s.data.toList digs).toArray).size = (s.data.toList.dropWhile (digs.contains ·)).length := by simp [ByteArray.size, Lib.trimLeftS]
  omega
theorem pre_is (s : ByteArray) (c : UInt8) (hc : c.toNat ≠ 0) : Lib.hasPrefix s.data.toList [c] = (bt s 0 == c.toNat) := by
  unfold Lib.hasPrefix
  cases hl : s.data.toList with
  | nil =>
    have hlen : s.data.toList.length = s.size := Array.length_toList
    rw [hl] at hlen
    have : bt s 0 = 0 := bt_off (by simp at hlen; omega)
    rw [this]
    have h0 : (0 == c.toNat) = false := by simp; omega
    rw [h0]; rfl
  | cons x l =>
    have : bt s 0 = x.toNat := bt_list (by rw [hl]; rfl)
    rw [this]
    simp only [List.isPrefixOf, Bool.and_true]
    by_cases e : c = x
    · subst e; simp
    · have h2 : ¬ x.toNat = c.toNat := fun h => e (UInt8.toNat_inj.1 h).symm
      have e1 : (c == x) = false := by simpa using e
      have e2 : (x.toNat == c.toNat) = false := by simpa using h2
      rw [e1, e2]
theorem read_le (s : ByteArray) : (readR s).er = 0 → (readR s).a ≤ s.size := by
  unfold readR
  split
  · unfold lettR
    have hs := ss_le s
    generalize Lf.parseR (s.extract 0 (ss s)) = r
    unfold lett1
    split
    · exact fun _ => hs
    · rename_i h
      exact fun h2 => absurd h2 h
  · exact fun _ => (lists_is s).le
end Go.Proofs.YtlkdenanbofliaaGreatDoor.Gn
