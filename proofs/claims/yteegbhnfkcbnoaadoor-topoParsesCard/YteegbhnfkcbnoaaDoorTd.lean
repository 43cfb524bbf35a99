/- The parts of a text as the document keeps them: where each thing stands; what its Parse says of them. Nothing of the program in it. -/
import Derived.Test.YteegbhnfkcbnoaaDoorTm
namespace Go.Proofs.YteegbhnfkcbnoaaDoor.Tp

/-- Where a part begins, its number ends, its star and sign stand (-1: none), its shift begins and ends. -/
structure Dp where
  at_ : Int
  en : Int
  st : Int
  sg : Int
  fr : Int
  to : Int
structure Tk where
  p : Dp
  j : Nat
  e : Nat
/-- Behind its number and star. -/
def tkS (s : ByteArray) (i a : Nat) (st : Int) (b : Nat) : Tk :=
  if Sc.bt s b = 43 ∨ Sc.bt s b = 45 then (if dg s (b + 1) = b + 1 then ⟨⟨i, a, st, b, (b + 1 : Nat), (b + 1 : Nat)⟩, b + 1, 43⟩ else ⟨⟨i, a, st, b, (b + 1 : Nat), dg s (b + 1)⟩, dg s (b + 1), 0⟩)
  else ⟨⟨i, a, st, -1, 0, 0⟩, b, 0⟩
def tkB (s : ByteArray) (i a : Nat) : Tk := if Sc.bt s a = 42 then tkS s i a a (a + 1) else tkS s i a (-1) a
/-- A part that begins at i. -/
def tkR (s : ByteArray) (i : Nat) (star : Bool) : Tk := if dg s i = i then ⟨⟨i, dg s i, -1, -1, 0, 0⟩, i, 41⟩ else if star then tkB s i (dg s i) else ⟨⟨i, dg s i, -1, -1, 0, 0⟩, dg s i, 0⟩
/-- The form of a text: n parts (where there is one, the second says the same number, and nothing else). -/
inductive Fm where
  | bad (k e a : Nat)
  | none (k : Nat)
  | ok (k n : Nat) (p q : Dp)
def plainD (p : Dp) : Dp := ⟨p.at_, p.en, -1, -1, 0, 0⟩
def fm2 (s : ByteArray) (k : Nat) (p : Dp) (u : Tk) : Fm := if u.e = 0 then (if u.j < s.size then .bad k 45 u.j else .ok k 2 p u.p) else .bad k u.e u.j
def fm1 (s : ByteArray) (k : Nat) (t : Tk) : Fm :=
  if t.e = 0 then (if k ≠ 5 ∧ Sc.bt s t.j = 44 then fm2 s k t.p (tkR s (t.j + 1) true) else if t.j < s.size then .bad k 45 t.j else .ok k 1 t.p (plainD t.p)) else .bad k t.e t.j
def fmK (s : ByteArray) (k : Nat) : Fm := if s.size = 1 ∧ k ≤ 2 then .none k else fm1 s k (tkR s 1 (decide (k ≠ 5)))
def fmR (s : ByteArray) : Fm := if kindR (Sc.bt s 0) = 0 then .bad 0 40 0 else fmK s (kindR (Sc.bt s 0))
/-- A number, or a great one. -/
def wo (v : Nat) : Nat := if 1048576 < v then 1048577 else v
def dW (s : ByteArray) (p : Dp) : Nat := wo (num s p.at_.toNat)
def dN (s : ByteArray) (p : Dp) : Nat := wo (num s p.fr.toNat)
/-- Where a star is wrong. -/
def twB (k : Nat) (p q : Dp) : Bool := decide (0 ≤ p.st ∧ k ≠ 3) || decide (0 ≤ q.st ∧ (k ≠ 3 ∨ 0 ≤ p.st)) || decide (k = 3 ∧ p.st < 0 ∧ q.st < 0)
def twP (z : Nat) (k : Nat) (p q : Dp) : Int := if 0 ≤ p.st ∧ k ≠ 3 then p.st else if 0 ≤ q.st ∧ (k ≠ 3 ∨ 0 ≤ p.st) then q.st else z
/-- Is a part's shift wrong? -/
def shX (s : ByteArray) (k : Nat) (p : Dp) (w h : Nat) : Bool := decide ((k ≠ 2 ∧ k ≠ 3) ∨ (k = 3 ∧ p.st < 0) ∨ dW s p ≤ dN s p ∨ (k = 2 ∧ (dN s p = 0 ∨ w = 0 ∨ h = 0)))
def shB (s : ByteArray) (k : Nat) (p q : Dp) (w h : Nat) : Bool := (decide (0 ≤ p.sg) && shX s k p w h) || (decide (0 ≤ q.sg) && (decide (0 ≤ p.sg) || shX s k q w h))
def shP (s : ByteArray) (k : Nat) (p q : Dp) (w h : Nat) : Int := if 0 ≤ p.sg ∧ shX s k p w h = true then p.sg else if 0 ≤ q.sg ∧ (0 ≤ p.sg ∨ shX s k q w h = true) then q.sg else 0
def dSh (s : ByteArray) (p : Dp) : Int := if Sc.bt s p.sg.toNat = 45 then -(dN s p : Int) else dN s p
def topD (s : ByteArray) (k : Nat) (p q : Dp) : Res :=
  ⟨k, dW s p, dW s q, if 0 ≤ q.st ∨ 0 ≤ q.sg then 2 else if 0 ≤ p.st ∨ 0 ≤ p.sg then 1 else 0, if 0 ≤ q.sg then dSh s q else if 0 ≤ p.sg then dSh s p else 0, 0, 0⟩
def senD (s : ByteArray) (k : Nat) (p q : Dp) : Res :=
  if 65536 < dW s p then Res.no 41 p.at_.toNat else if 65536 < dW s q then Res.no 41 q.at_.toNat
  else if 3 ≤ k ∧ dW s p = 0 then Res.no 42 p.at_.toNat else if 3 ≤ k ∧ dW s q = 0 then Res.no 42 q.at_.toNat
  else if twB k p q = true then Res.no 44 (twP s.size k p q).toNat else if shB s k p q (dW s p) (dW s q) = true then Res.no 43 (shP s k p q (dW s p) (dW s q)).toNat else topD s k p q
def docF (s : ByteArray) : Fm → Res
  | .bad _ e a => Res.no e a
  | .none k => ⟨k, 0, 0, 0, 0, 0, 0⟩
  | .ok k _ p q => senD s k p q
/-- What the document's Parse answers. -/
def docR (s : ByteArray) : Res := if 1048576 < s.size then Res.no 3 0 else docF s (fmR s)
end Go.Proofs.YteegbhnfkcbnoaaDoor.Tp
