/- Plain facts on the texts of topologies: what a text says, by P4.2. Nothing of the program in it. -/
import Derived.WalkKit
import Derived.Test.YteegbhnfkcbnoaaDoorTp
import Derived.Test.YteegbhnfkcbnoaaDoorSc
import Derived.Test.YteegbhnfkcbnoaaDoorTexts2
namespace Go.Proofs.YteegbhnfkcbnoaaDoor.Tp

/-- Where the digits that begin at i end. -/
def dg (s : ByteArray) (i : Nat) : Nat := Sc.ov Sc.digitB s i
/-- The number that they tell. -/
def num (s : ByteArray) (i : Nat) : Nat := Tx.vl 0 (s.extract i (dg s i)).data.toList
/-- A number that fits no int counts as the greatest. -/
def cap (v : Nat) : Nat := if v ≤ 9223372036854775807 then v else 9223372036854775807
theorem cap_le (v : Nat) : cap v ≤ 9223372036854775807 := by unfold cap; split <;> omega
theorem cap_yes {v : Nat} (h : v ≤ 9223372036854775807) : cap v = v := if_pos h
theorem cap_no {v : Nat} (h : ¬ v ≤ 9223372036854775807) : cap v = 9223372036854775807 := if_neg h
/-- What a text says of a side. -/
structure Pt where
  pl : Nat
  len : Nat
  star : Nat
  sign : Nat
  sh : Int
def Pt.zero : Pt := ⟨0, 0, 0, 0, 0⟩
inductive PR where
  | bad (e a : Nat)
  | ok (p : Pt) (j : Nat)
/-- A part behind its number and star. -/
def partC (s : ByteArray) (i st b : Nat) : PR :=
  if Sc.bt s b = 45 ∨ Sc.bt s b = 43 then
    (if b + 1 < dg s (b + 1) then .ok ⟨i, cap (num s i), st, b, if Sc.bt s b = 45 then -(cap (num s (b + 1)) : Int) else (cap (num s (b + 1)) : Int)⟩ (dg s (b + 1)) else .bad 43 (b + 1))
  else .ok ⟨i, cap (num s i), st, 0, 0⟩ b
def partB (s : ByteArray) (i a : Nat) : PR := if Sc.bt s a = 42 then partC s i a (a + 1) else partC s i 0 a
/-- A part that begins at i. -/
def partR (s : ByteArray) (i : Nat) : PR := if i < dg s i then partB s i (dg s i) else .bad 41 i
/-- The kind of a letter. -/
def kindR (c : Nat) : Nat := if c = 80 ∨ c = 112 then 1 else if c = 84 ∨ c = 116 then 2 else if c = 75 ∨ c = 107 then 3 else if c = 67 ∨ c = 99 then 4 else if c = 83 ∨ c = 115 then 5 else 0
inductive FR where
  | bad (e a : Nat)
  | ok (k : Nat) (p q : Pt) (n l : Nat)
/-- The whole text behind the parts. -/
def endR (s : ByteArray) (k : Nat) (p q : Pt) (n l : Nat) : FR := if l = s.size then .ok k p q n l else .bad 45 l
def secR (s : ByteArray) (k : Nat) (p : Pt) : PR → FR
  | .bad e a => .bad e a
  | .ok q l => endR s k p q 2 l
def one (p : Pt) : Pt := ⟨p.pl, p.len, 0, 0, 0⟩
def firR (s : ByteArray) (k : Nat) : PR → FR
  | .bad e a => .bad e a
  | .ok p j => if Sc.bt s j = 44 then secR s k p (partR s (j + 1)) else endR s k p (one p) 1 j
def lenR (s : ByteArray) (i : Nat) : Pt := ⟨i, cap (num s i), 0, 0, 0⟩
def bodyR (s : ByteArray) (k : Nat) : FR :=
  if k = 5 then (if 1 < dg s 1 then endR s 5 (lenR s 1) (lenR s 1) 1 (dg s 1) else .bad 41 1)
  else if k ≤ 2 ∧ s.size = 1 then .ok k Pt.zero Pt.zero 0 1
  else firR s k (partR s 1)
/-- The form of a text. -/
def formR (s : ByteArray) : FR := if kindR (Sc.bt s 0) = 0 then .bad 40 0 else bodyR s (kindR (Sc.bt s 0))
/-- A star that may not be. -/
def wst (k : Nat) (p q : Pt) (l : Nat) : Nat := if k = 3 then (if p.star = 0 then (if q.star = 0 then l else 0) else q.star) else if p.star = 0 then q.star else p.star
/-- A sign that may not be. -/
def wsp (k : Nat) (p q : Pt) : Bool := decide (k = 3 ∧ p.star = 0) || !(chk k p.len q.len 1 p.sh == 0)
def wsq (k : Nat) (p q : Pt) : Bool := decide (p.sign ≠ 0) || decide (k = 3 ∧ q.star = 0) || !(chk k p.len q.len 2 q.sh == 0)
def wsg (k : Nat) (p q : Pt) : Nat := if p.sign ≠ 0 ∧ wsp k p q = true then p.sign else if q.sign ≠ 0 ∧ wsq k p q = true then q.sign else 0
structure Sn where
  e : Nat
  a : Nat
def senseR (k : Nat) (p q : Pt) (l : Nat) : Sn :=
  if 65536 < p.len then ⟨41, p.pl⟩ else if 65536 < q.len then ⟨41, q.pl⟩
  else if 3 ≤ k ∧ p.len = 0 then ⟨42, p.pl⟩ else if 3 ≤ k ∧ q.len = 0 then ⟨42, q.pl⟩
  else if wst k p q l ≠ 0 then ⟨44, wst k p q l⟩ else if wsg k p q ≠ 0 then ⟨43, wsg k p q⟩ else ⟨0, 0⟩
structure Res where
  k : Nat
  w : Nat
  h : Nat
  t : Nat
  s : Int
  a : Nat
  e : Nat
def topoR (k : Nat) (p q : Pt) : Res :=
  if p.star ≠ 0 ∨ p.sign ≠ 0 then ⟨k, p.len, q.len, 1, p.sh, 0, 0⟩ else if q.star ≠ 0 ∨ q.sign ≠ 0 then ⟨k, p.len, q.len, 2, q.sh, 0, 0⟩ else ⟨k, p.len, q.len, 0, 0, 0, 0⟩
def Res.no (e a : Nat) : Res := ⟨0, 0, 0, 0, 0, a, e⟩
def sayR (k : Nat) (p q : Pt) (l : Nat) : Res := if (senseR k p q l).e = 0 then topoR k p q else Res.no (senseR k p q l).e (senseR k p q l).a
def toldR : FR → Res
  | .bad e a => Res.no e a
  | .ok k p q _ l => sayR k p q l
/-- What Parse answers. -/
def parseR (s : ByteArray) : Res := if 1048576 < s.size then Res.no 3 0 else toldR (formR s)
theorem kind_le (c : Nat) : kindR c ≤ 5 := by unfold kindR; repeat' split
                                              all_goals omega
theorem pT30 : parseR ⟨#[84, 51, 48, 44, 50, 48, 45, 53]⟩ = ⟨2, 30, 20, 2, -5, 0, 0⟩ := by kernel_rfl
theorem pK34 : parseR ⟨#[75, 51, 44, 52]⟩ = ⟨0, 0, 0, 0, 0, 4, 44⟩ := by kernel_rfl
theorem pP : parseR ⟨#[80]⟩ = ⟨1, 0, 0, 0, 0, 0, 0⟩ := by kernel_rfl
theorem pEmpty : parseR ⟨#[]⟩ = ⟨0, 0, 0, 0, 0, 0, 40⟩ := by kernel_rfl
end Go.Proofs.YteegbhnfkcbnoaaDoor.Tp
