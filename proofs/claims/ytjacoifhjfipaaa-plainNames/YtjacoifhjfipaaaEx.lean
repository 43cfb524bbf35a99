/- Reading by a run that the kernel can do; the examples of the statements. -/
import Derived.Test.YtjacoifhjfipaaaRd
import Derived.Test.YtjacoifhjfipaaaWr
import Derived.Test.YtjacoifhjfipaaaSm
namespace Go.Proofs.Ytjacoifhjfipaaa
open Go.RowKit Ln
set_option linter.unusedVariables false
set_option linter.unusedSimpArgs false
set_option maxRecDepth 100000

def rowF : Nat → ByteArray → Nat → Nat → Nat → List Cx → List Cx × Option Nat
  | 0, _, _, _, _, acc => (acc, none)
  | f + 1, t, y, p, x, acc => if p < t.size then (if ofB ((Utf8.decode t p).1 : Int) = true then rowF f t y (p + (Utf8.decode t p).2) (x + 1) (adC acc x y (ofN ((Utf8.decode t p).1 : Int))) else ([], some p)) else (acc, none)
theorem rowA_rowF (t : ByteArray) (y : Nat) : ∀ (f p x : Nat) (acc : List Cx), t.size - p ≤ f → rowA t y p x acc = rowF f t y p x acc
  | 0, p, x, acc, h => by rw [rowA_end (by omega)]; rfl
  | f + 1, p, x, acc, h => by
    rw [rowF]
    by_cases hp : p < t.size
    · rw [if_pos hp]
      have hd := dec_pos t p hp
      cases hb : ofB ((Utf8.decode t p).1 : Int) with
      | false => rw [rowA_bad hp hb, if_neg (by decide)]
      | true => rw [rowA_go hp hb, if_pos rfl, rowA_rowF t y f _ _ _ (by omega)]
    · rw [if_neg hp, rowA_end hp]
def stepK (s : ByteArray) (o : RdS) (i : Nat) : RdS :=
  if o.2.2.isSome then o else if remB (lin s i) then o else
    match rowF (lin s i).size (lin s i) o.1 0 0 o.2.1 with
    | (_, some p) => (o.1, [], some (i + p))
    | (c, none) => (o.1 + 1, c, none)
theorem stepK_is (s : ByteArray) : stepR s = stepK s := by
  funext o i
  unfold stepR stepK
  rw [rowA_rowF _ _ (lin s i).size _ _ _ (by omega)]
  rfl
def rdK (s : ByteArray) : List Cx × Option Nat := ((lns s).foldl (stepK s) (0, [], none)).2
theorem rdK_is (s : ByteArray) : rd s = rdK s := by unfold rd rdK rdF; rw [stepK_is]
theorem ex1 : rd ⟨#[33, 97, 10, 46, 79, 46, 10, 46, 46, 42, 10]⟩ = ([(1, 0, 1), (2, 1, 1)], none) := by rw [rdK_is]; decide +kernel
theorem ex1E : rdE ⟨#[33, 97, 10, 46, 79, 46, 10, 46, 46, 42, 10]⟩ = 0 := by unfold rdE; rw [ex1]; decide +kernel
theorem ex1P : rdP ⟨#[33, 97, 10, 46, 79, 46, 10, 46, 46, 42, 10]⟩ = 0 := by unfold rdP; rw [ex1]; decide +kernel
theorem ex1C : rdC ⟨#[33, 97, 10, 46, 79, 46, 10, 46, 46, 42, 10]⟩ = [(1, 0, 1), (2, 1, 1)] := by unfold rdC; rw [ex1]; decide +kernel
theorem ex2 : rd ⟨#[46, 120]⟩ = ([], some 1) := by rw [rdK_is]; decide +kernel
theorem ex2E : rdE ⟨#[46, 120]⟩ = 230 := by unfold rdE; rw [ex2]; decide +kernel
theorem ex2P : rdP ⟨#[46, 120]⟩ = 1 := by unfold rdP; rw [ex2]; decide +kernel
theorem ex2C : rdC ⟨#[46, 120]⟩ = [] := by unfold rdC; rw [ex2]; decide +kernel
theorem ex3E : wrE [(1, 0, 1), (0, 1, 2), (9, 9, 3)] 0 0 2 2 = 0 := by decide +kernel
theorem ex3S : wrS [(1, 0, 1), (0, 1, 2), (9, 9, 3)] 0 0 2 2 = ⟨#[46, 79, 10, 226, 160, 130, 46, 10]⟩ := by
  apply ByteArray.ext
  apply Array.ext'
  decide +kernel
theorem ex3ok : ∀ c ∈ ([(1, 0, 1), (0, 1, 2), (9, 9, 3)] : List Cx), CxOk c := by
  intro c hc
  simp at hc
  rcases hc with rfl | rfl | rfl <;> (unfold CxOk PtOk; decide)
theorem ce_bo {w : World} {g : Nat} {cs : Array Value} {l : List Cx} (h : Bo w g 33 cs) (hc : cs.toList = ccs l) : Ce w (some ⟨g, 0, none⟩) l := fun k hk => by
  obtain ⟨h1, h2, h3⟩ := ccs_at l k hk
  rw [← hc, Array.getElem?_toList] at h1 h2 h3
  exact ⟨g, 0, rfl, by rw [Nat.zero_add]; exact h.cell _ h1, by rw [Nat.zero_add]; exact h.cell _ h2, by rw [Nat.zero_add]; exact h.cell _ h3⟩
end Go.Proofs.Ytjacoifhjfipaaa
