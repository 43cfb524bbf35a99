/- The runes of a picture. -/
import Derived.Test.YtjacoifhjfipaaaRu
namespace Go.Proofs.Ytjacoifhjfipaaa
open Go.RowKit
set_option linter.unusedVariables false
set_option linter.unusedSimpArgs false

/-- So many lines of so many runes. -/
def dwP (V : Nat) (f : Nat → Nat → Int) (j : Nat) : List Int := (List.range j).flatMap fun k => (List.range V).map (f k) ++ [10]
def rwP (V : Nat) (f : Nat → Nat → Int) (j i : Nat) : List Int := dwP V f j ++ (List.range i).map (f j)
theorem rwP_zero (V : Nat) (f : Nat → Nat → Int) (j : Nat) : rwP V f j 0 = dwP V f j := by unfold rwP; simp
theorem rwP_succ (V : Nat) (f : Nat → Nat → Int) (j i : Nat) : rwP V f j (i + 1) = rwP V f j i ++ [f j i] := by unfold rwP; rw [List.range_succ, List.map_append, List.append_assoc]; rfl
theorem dwP_succ (V : Nat) (f : Nat → Nat → Int) (j : Nat) : dwP V f (j + 1) = rwP V f j V ++ [10] := by
  unfold rwP
  conv => lhs; unfold dwP
  rw [List.range_succ, List.flatMap_append, List.append_assoc]
  simp [dwP]
theorem dwP_len (V : Nat) (f : Nat → Nat → Int) : ∀ j, (dwP V f j).length = j * (V + 1)
  | 0 => by simp [dwP]
  | j + 1 => by rw [dwP_succ, List.length_append]; unfold rwP; rw [List.length_append, dwP_len V f j, Nat.add_mul]; simp; omega
theorem rwP_len (V : Nat) (f : Nat → Nat → Int) (j i : Nat) : (rwP V f j i).length = j * (V + 1) + i := by unfold rwP; rw [List.length_append, dwP_len]; simp
def rvs (l : List Int) : List Value := l.map (Value.int .i32)
theorem rvs_snoc (l : List Int) (x : Int) : rvs (l ++ [x]) = rvs l ++ [.int .i32 x] := by unfold rvs; simp
/-- What a picture's text is, and what is wrong with it. -/
def dwT (L V : Nat) (f : Nat → Nat → Int) : ByteArray := runesBytes (dwP V f L)
def dwE (L V : Nat) (f : Nat → Nat → Int) : Int := if 1048576 < L * (V + 1) then 3 else if 1048576 < (dwT L V f).size then 3 else 0
def dwS (L V : Nat) (f : Nat → Nat → Int) : ByteArray := if 1048576 < L * (V + 1) then ⟨#[]⟩ else if 1048576 < (dwT L V f).size then ⟨#[]⟩ else dwT L V f
end Go.Proofs.Ytjacoifhjfipaaa
