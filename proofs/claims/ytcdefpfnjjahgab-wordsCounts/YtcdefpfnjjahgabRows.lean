/-
  No cell of these rows narrows 'for every input' (looked for: loops, veiled, ifaces, maps, wideKeys, modest, calm, conditions, laid).
  DERIVED. THE GIVEN ROWS OF THIS SEAT. 4 by the template 'for every input the law returns true; each argument reads behind the call as it read before'; 0 by the template 'total and deterministic' (their statements: YtcdefpfnjjahgabTotals.lean).
  GIVEN WITH THE SEED: the statements are not yours to turn. If you find one false, say at which input.
  Laid BY PROGRAM, IN A SANDBOX (cutbox-rows.mjs): the forced cells as the released guide's own fill.sh prints them over the translation b7fcaaf41d1b64d8… (all of the seat's roots in one cut). By AI agents, Wed Nov 11 2026. No macro, syntax, notation, axiom, sorry.
-/
import Derived.Test.YtcdefpfnjjahgabChecked
import GoSem.Claim
import GoSem.ClaimJoined
import GoSem.ClaimMapViews
import Derived.JoinedTies
import Derived.KernelRfl
namespace Go.Proofs.Ytcdefpfnjjahgab
/- THE CELL 'sum', in the pinned program and in every row, IS THE sha256 OF THE DUMP (.gsa) THAT YtcdefpfnjjahgabProg.lean LOADS. Nothing in Lean hashes anything: it is a label: what it is worth is what the hold of that sum in a sandbox is worth. -/
noncomputable def Try.pinned : Pinned := { name := "ytcdefpfnjjahgab", sum := "b7fcaaf41d1b64d807513ae2b3c426a98c3fc384dab738c9d8b59d83c7218a27", checked := Try.checked }
namespace Rows
def none {H : Type} : Left H := { results := [], args := [] }

/-- 'vivariumlaw02.WordsSums': WHATEVER THE INPUT: true; the input reads as it did. -/
def wordsSumsSpec : ChangeSpec := { name := "wordsSums", fn := fun _ => fun
  | [d1, d2, d3] => { results := [.lit (.bool true)], args := [d1, d2, d3] }
  | _ => none }
def wordsSumsRow : OpenClaim := { program := "ytcdefpfnjjahgab", sum := "b7fcaaf41d1b64d807513ae2b3c426a98c3fc384dab738c9d8b59d83c7218a27", func := "vivarium/vivariumlaw02.WordsSums", spec := "wordsSums", apart := false }
def WordsSumsSaid : Prop := wordsSumsRow.holds Try.pinned (OpenSpec.ofChange wordsSumsSpec)

/-- ITS FALSE NEIGHBOUR: 'it returns false'. Refute it at one input. -/
def wordsSumsWrong : ChangeSpec := { name := "wordsSums", fn := fun _ => fun
  | [d1, d2, d3] => { results := [.lit (.bool false)], args := [d1, d2, d3] }
  | _ => none }
def WordsSumsWrongFalsely : Prop := wordsSumsRow.holds Try.pinned (OpenSpec.ofChange wordsSumsWrong)

/-- 'vivariumlaw02.WordsCounts': WHATEVER THE INPUT: true; the input reads as it did. -/
def wordsCountsSpec : ChangeSpec := { name := "wordsCounts", fn := fun _ => fun
  | [d] => { results := [.lit (.bool true)], args := [d] }
  | _ => none }
def wordsCountsRow : OpenClaim := { program := "ytcdefpfnjjahgab", sum := "b7fcaaf41d1b64d807513ae2b3c426a98c3fc384dab738c9d8b59d83c7218a27", func := "vivarium/vivariumlaw02.WordsCounts", spec := "wordsCounts", apart := false }
def WordsCountsSaid : Prop := wordsCountsRow.holds Try.pinned (OpenSpec.ofChange wordsCountsSpec)

/-- ITS FALSE NEIGHBOUR: 'it returns false'. Refute it at one input. -/
def wordsCountsWrong : ChangeSpec := { name := "wordsCounts", fn := fun _ => fun
  | [d] => { results := [.lit (.bool false)], args := [d] }
  | _ => none }
def WordsCountsWrongFalsely : Prop := wordsCountsRow.holds Try.pinned (OpenSpec.ofChange wordsCountsWrong)

/-- 'vivariumlaw02.WordsIs': WHATEVER THE INPUT: true; the input reads as it did. -/
def wordsIsSpec : ChangeSpec := { name := "wordsIs", fn := fun _ => fun
  | [d] => { results := [.lit (.bool true)], args := [d] }
  | _ => none }
def wordsIsRow : OpenClaim := { program := "ytcdefpfnjjahgab", sum := "b7fcaaf41d1b64d807513ae2b3c426a98c3fc384dab738c9d8b59d83c7218a27", func := "vivarium/vivariumlaw02.WordsIs", spec := "wordsIs", apart := false }
def WordsIsSaid : Prop := wordsIsRow.holds Try.pinned (OpenSpec.ofChange wordsIsSpec)

/-- ITS FALSE NEIGHBOUR: 'it returns false'. Refute it at one input. -/
def wordsIsWrong : ChangeSpec := { name := "wordsIs", fn := fun _ => fun
  | [d] => { results := [.lit (.bool false)], args := [d] }
  | _ => none }
def WordsIsWrongFalsely : Prop := wordsIsRow.holds Try.pinned (OpenSpec.ofChange wordsIsWrong)

/-- 'vivariumlaw02.WordsAlgebra': WHATEVER THE INPUT: true; the input reads as it did. -/
def wordsAlgebraSpec : ChangeSpec := { name := "wordsAlgebra", fn := fun _ => fun
  | [d1, d2] => { results := [.lit (.bool true)], args := [d1, d2] }
  | _ => none }
def wordsAlgebraRow : OpenClaim := { program := "ytcdefpfnjjahgab", sum := "b7fcaaf41d1b64d807513ae2b3c426a98c3fc384dab738c9d8b59d83c7218a27", func := "vivarium/vivariumlaw02.WordsAlgebra", spec := "wordsAlgebra", apart := false }
def WordsAlgebraSaid : Prop := wordsAlgebraRow.holds Try.pinned (OpenSpec.ofChange wordsAlgebraSpec)

/-- ITS FALSE NEIGHBOUR: 'it returns false'. Refute it at one input. -/
def wordsAlgebraWrong : ChangeSpec := { name := "wordsAlgebra", fn := fun _ => fun
  | [d1, d2] => { results := [.lit (.bool false)], args := [d1, d2] }
  | _ => none }
def WordsAlgebraWrongFalsely : Prop := wordsAlgebraRow.holds Try.pinned (OpenSpec.ofChange wordsAlgebraWrong)

/- THE SECOND FORM. 'bulk': how many values and letters a reading holds, each counted each time it is reached (what is shared counts as often as it is met; a slice's spare places count too). A statement '..UptoSaid' is the law's where the arguments, and the package variables that the reading takes, are together of bulk at most 1048576: NARROWER than '..Said'. Prove '..Said' where nothing that the law and all that it calls make is longer than what came in: it says more and counts as full. Else prove '..UptoSaid'. A law counts once. -/
mutual
def uptoBulk {H : Type} : DataW H → Nat
  | .lit (.string bytes) => bytes.length + 1
  | .lit _ => 1
  | .nil => 1
  | .ptr d => uptoBulk d + 1
  | .slice elems spare => uptoBulkAll elems + uptoBulkAll spare + 1
  | .agg parts => uptoBulkAll parts + 1
  | .iface _ d => uptoBulk d + 1
  | .map entries => uptoBulkEntries entries + 1
  | .held _ => 1
def uptoBulkAll {H : Type} : List (DataW H) → Nat
  | [] => 0
  | d :: r => uptoBulk d + uptoBulkAll r
def uptoBulkEntries {H : Type} : List (Lit × DataW H) → Nat
  | [] => 0
  | x :: r => uptoBulkEntry x + uptoBulkEntries r
def uptoBulkEntry {H : Type} : Lit × DataW H → Nat
  | (.string bytes, d) => bytes.length + uptoBulk d + 1
  | (_, d) => uptoBulk d + 1
 end
def uptoSmall : (H : Type) → List (DataW H) → Bool := fun _ ds => decide (uptoBulkAll ds ≤ 1048576)
def OpenSpec.upto (s : _root_.Go.ChangeSpec) : _root_.Go.OpenSpec := { _root_.Go.OpenSpec.ofChange s with cond := some uptoSmall }

/-- 'vivariumlaw02.WordsSums', WHERE WHAT IT READS IS OF BULK AT MOST 1048576: true; the input reads as it did. -/
def wordsSumsUptoRow : OpenClaim := { program := "ytcdefpfnjjahgab", sum := "b7fcaaf41d1b64d807513ae2b3c426a98c3fc384dab738c9d8b59d83c7218a27", func := "vivarium/vivariumlaw02.WordsSums", spec := "wordsSums", apart := false, narrowed := true }
def WordsSumsUptoSaid : Prop := wordsSumsUptoRow.holds Try.pinned (OpenSpec.upto wordsSumsSpec)

/-- 'vivariumlaw02.WordsCounts', WHERE WHAT IT READS IS OF BULK AT MOST 1048576: true; the input reads as it did. -/
def wordsCountsUptoRow : OpenClaim := { program := "ytcdefpfnjjahgab", sum := "b7fcaaf41d1b64d807513ae2b3c426a98c3fc384dab738c9d8b59d83c7218a27", func := "vivarium/vivariumlaw02.WordsCounts", spec := "wordsCounts", apart := false, narrowed := true }
def WordsCountsUptoSaid : Prop := wordsCountsUptoRow.holds Try.pinned (OpenSpec.upto wordsCountsSpec)

/-- 'vivariumlaw02.WordsIs', WHERE WHAT IT READS IS OF BULK AT MOST 1048576: true; the input reads as it did. -/
def wordsIsUptoRow : OpenClaim := { program := "ytcdefpfnjjahgab", sum := "b7fcaaf41d1b64d807513ae2b3c426a98c3fc384dab738c9d8b59d83c7218a27", func := "vivarium/vivariumlaw02.WordsIs", spec := "wordsIs", apart := false, narrowed := true }
def WordsIsUptoSaid : Prop := wordsIsUptoRow.holds Try.pinned (OpenSpec.upto wordsIsSpec)

/-- 'vivariumlaw02.WordsAlgebra', WHERE WHAT IT READS IS OF BULK AT MOST 1048576: true; the input reads as it did. -/
def wordsAlgebraUptoRow : OpenClaim := { program := "ytcdefpfnjjahgab", sum := "b7fcaaf41d1b64d807513ae2b3c426a98c3fc384dab738c9d8b59d83c7218a27", func := "vivarium/vivariumlaw02.WordsAlgebra", spec := "wordsAlgebra", apart := false, narrowed := true }
def WordsAlgebraUptoSaid : Prop := wordsAlgebraUptoRow.holds Try.pinned (OpenSpec.upto wordsAlgebraSpec)

end Rows
end Go.Proofs.Ytcdefpfnjjahgab
