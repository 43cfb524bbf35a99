/-
  No cell of these rows narrows 'for every input' (looked for: loops, veiled, ifaces, maps, wideKeys, modest, calm, conditions, laid).
  DERIVED. THE GIVEN ROWS OF THIS SEAT. 4 by the template 'for every input the law returns true; each argument reads behind the call as it read before'; 0 by the template 'total and deterministic' (their statements: YthgoillhjajanaaGreatTotals.lean).
  GIVEN WITH THE SEED: the statements are not yours to turn. If you find one false, say at which input.
  Laid BY PROGRAM, IN A SANDBOX (cutbox-rows.mjs): the forced cells as the released guide's own fill.sh prints them over the translation fc4bd5ea4d4f6d62… (all of the seat's roots in one cut). By AI agents, Wed Nov 11 2026. No macro, syntax, notation, axiom, sorry.
-/
import Derived.Test.YthgoillhjajanaaGreatChecked
import GoSem.Claim
import GoSem.ClaimJoined
import GoSem.ClaimMapViews
import Derived.JoinedTies
import Derived.KernelRfl
namespace Go.Proofs.YthgoillhjajanaaGreat
/- THE CELL 'sum', in the pinned program and in every row, IS THE sha256 OF THE DUMP (.gsa) THAT YthgoillhjajanaaGreatProg.lean LOADS. Nothing in Lean hashes anything: it is a label: what it is worth is what the hold of that sum in a sandbox is worth. -/
noncomputable def Tryz.pinned : Pinned := { name := "ythgoillhjajanaagreat", sum := "fc4bd5ea4d4f6d622c9df5f8c90462dd57cc9d9198693f20707fa90703c0e2e0", checked := Tryz.checked }
namespace Rows
def none {H : Type} : Left H := { results := [], args := [] }

/-- 'vivariumlaw17.LinearSteps': WHATEVER THE INPUT: true; the input reads as it did. -/
def linearStepsSpec : ChangeSpec := { name := "linearSteps", fn := fun _ => fun
  | [d1, d2, d3, d4, d5, d6] => { results := [.lit (.bool true)], args := [d1, d2, d3, d4, d5, d6] }
  | _ => none }
def linearStepsRow : OpenClaim := { program := "ythgoillhjajanaagreat", sum := "fc4bd5ea4d4f6d622c9df5f8c90462dd57cc9d9198693f20707fa90703c0e2e0", func := "vivarium/vivariumlaw17.LinearSteps", spec := "linearSteps", unfollowed := true, recurses := true, plainKeys := false, apart := false }
def LinearStepsSaid : Prop := linearStepsRow.holds Tryz.pinned (OpenSpec.ofChange linearStepsSpec)

/-- ITS FALSE NEIGHBOUR: 'it returns false'. Refute it at one input. -/
def linearStepsWrong : ChangeSpec := { name := "linearSteps", fn := fun _ => fun
  | [d1, d2, d3, d4, d5, d6] => { results := [.lit (.bool false)], args := [d1, d2, d3, d4, d5, d6] }
  | _ => none }
def LinearStepsWrongFalsely : Prop := linearStepsRow.holds Tryz.pinned (OpenSpec.ofChange linearStepsWrong)

/-- 'vivariumlaw17.LinearSums': WHATEVER THE INPUT: true; the input reads as it did. -/
def linearSumsSpec : ChangeSpec := { name := "linearSums", fn := fun _ => fun
  | [d1, d2, d3, d4, d5] => { results := [.lit (.bool true)], args := [d1, d2, d3, d4, d5] }
  | _ => none }
def linearSumsRow : OpenClaim := { program := "ythgoillhjajanaagreat", sum := "fc4bd5ea4d4f6d622c9df5f8c90462dd57cc9d9198693f20707fa90703c0e2e0", func := "vivarium/vivariumlaw17.LinearSums", spec := "linearSums", unfollowed := true, recurses := true, plainKeys := false, apart := false }
def LinearSumsSaid : Prop := linearSumsRow.holds Tryz.pinned (OpenSpec.ofChange linearSumsSpec)

/-- ITS FALSE NEIGHBOUR: 'it returns false'. Refute it at one input. -/
def linearSumsWrong : ChangeSpec := { name := "linearSums", fn := fun _ => fun
  | [d1, d2, d3, d4, d5] => { results := [.lit (.bool false)], args := [d1, d2, d3, d4, d5] }
  | _ => none }
def LinearSumsWrongFalsely : Prop := linearSumsRow.holds Tryz.pinned (OpenSpec.ofChange linearSumsWrong)

/-- 'vivariumlaw17.LinearCopies': WHATEVER THE INPUT: true; the input reads as it did. -/
def linearCopiesSpec : ChangeSpec := { name := "linearCopies", fn := fun _ => fun
  | [d1, d2, d3, d4] => { results := [.lit (.bool true)], args := [d1, d2, d3, d4] }
  | _ => none }
def linearCopiesRow : OpenClaim := { program := "ythgoillhjajanaagreat", sum := "fc4bd5ea4d4f6d622c9df5f8c90462dd57cc9d9198693f20707fa90703c0e2e0", func := "vivarium/vivariumlaw17.LinearCopies", spec := "linearCopies", unfollowed := true, recurses := true, plainKeys := false, apart := false }
def LinearCopiesSaid : Prop := linearCopiesRow.holds Tryz.pinned (OpenSpec.ofChange linearCopiesSpec)

/-- ITS FALSE NEIGHBOUR: 'it returns false'. Refute it at one input. -/
def linearCopiesWrong : ChangeSpec := { name := "linearCopies", fn := fun _ => fun
  | [d1, d2, d3, d4] => { results := [.lit (.bool false)], args := [d1, d2, d3, d4] }
  | _ => none }
def LinearCopiesWrongFalsely : Prop := linearCopiesRow.holds Tryz.pinned (OpenSpec.ofChange linearCopiesWrong)

/-- 'vivariumlaw17.LinearBoth': WHATEVER THE INPUT: true; the input reads as it did. -/
def linearBothSpec : ChangeSpec := { name := "linearBoth", fn := fun _ => fun
  | [d1, d2, d3, d4] => { results := [.lit (.bool true)], args := [d1, d2, d3, d4] }
  | _ => none }
def linearBothRow : OpenClaim := { program := "ythgoillhjajanaagreat", sum := "fc4bd5ea4d4f6d622c9df5f8c90462dd57cc9d9198693f20707fa90703c0e2e0", func := "vivarium/vivariumlaw17.LinearBoth", spec := "linearBoth", unfollowed := true, recurses := true, plainKeys := false, apart := false }
def LinearBothSaid : Prop := linearBothRow.holds Tryz.pinned (OpenSpec.ofChange linearBothSpec)

/-- ITS FALSE NEIGHBOUR: 'it returns false'. Refute it at one input. -/
def linearBothWrong : ChangeSpec := { name := "linearBoth", fn := fun _ => fun
  | [d1, d2, d3, d4] => { results := [.lit (.bool false)], args := [d1, d2, d3, d4] }
  | _ => none }
def LinearBothWrongFalsely : Prop := linearBothRow.holds Tryz.pinned (OpenSpec.ofChange linearBothWrong)

/- THE SECOND FORM. 'bulk': how many values and letters a reading holds, each counted each time it is reached (what is shared counts as often as it is met; a slice's spare places count too). A statement '..UptoSaid' is the law's where the arguments, and the package variables that the reading takes, are together of bulk at most 1048576: NARROWER than '..Said'. Prove '..Said' where nothing that the law and all that it calls make is longer than what came in: it says more and counts as full. Else prove '..UptoSaid'. A law counts once. -/
mutual
def uptoBulk {H : Type} : DataW H → Nat
  | .lit (.string bytes) => bytes.length + 1
  | .lit _ => 1
  | .nil => 1
  | .ptr d => uptoBulk d + 1
  | .slice elems spare => uptoBulkAll elems + uptoBulkAll spare + 1
  | .agg parts => uptoBulkAll parts + 1
  | .iface _ d => uptoBulk d + 1
  | .map entries => uptoBulkEntries entries + 1
  | .held _ => 1
def uptoBulkAll {H : Type} : List (DataW H) → Nat
  | [] => 0
  | d :: r => uptoBulk d + uptoBulkAll r
def uptoBulkEntries {H : Type} : List (Lit × DataW H) → Nat
  | [] => 0
  | x :: r => uptoBulkEntry x + uptoBulkEntries r
def uptoBulkEntry {H : Type} : Lit × DataW H → Nat
  | (.string bytes, d) => bytes.length + uptoBulk d + 1
  | (_, d) => uptoBulk d + 1
 end
def uptoSmall : (H : Type) → List (DataW H) → Bool := fun _ ds => decide (uptoBulkAll ds ≤ 1048576)
def OpenSpec.upto (s : _root_.Go.ChangeSpec) : _root_.Go.OpenSpec := { _root_.Go.OpenSpec.ofChange s with cond := some uptoSmall }

/-- 'vivariumlaw17.LinearSteps', WHERE WHAT IT READS IS OF BULK AT MOST 1048576: true; the input reads as it did. -/
def linearStepsUptoRow : OpenClaim := { program := "ythgoillhjajanaagreat", sum := "fc4bd5ea4d4f6d622c9df5f8c90462dd57cc9d9198693f20707fa90703c0e2e0", func := "vivarium/vivariumlaw17.LinearSteps", spec := "linearSteps", unfollowed := true, recurses := true, plainKeys := false, apart := false, narrowed := true }
def LinearStepsUptoSaid : Prop := linearStepsUptoRow.holds Tryz.pinned (OpenSpec.upto linearStepsSpec)

/-- 'vivariumlaw17.LinearSums', WHERE WHAT IT READS IS OF BULK AT MOST 1048576: true; the input reads as it did. -/
def linearSumsUptoRow : OpenClaim := { program := "ythgoillhjajanaagreat", sum := "fc4bd5ea4d4f6d622c9df5f8c90462dd57cc9d9198693f20707fa90703c0e2e0", func := "vivarium/vivariumlaw17.LinearSums", spec := "linearSums", unfollowed := true, recurses := true, plainKeys := false, apart := false, narrowed := true }
def LinearSumsUptoSaid : Prop := linearSumsUptoRow.holds Tryz.pinned (OpenSpec.upto linearSumsSpec)

/-- 'vivariumlaw17.LinearCopies', WHERE WHAT IT READS IS OF BULK AT MOST 1048576: true; the input reads as it did. -/
def linearCopiesUptoRow : OpenClaim := { program := "ythgoillhjajanaagreat", sum := "fc4bd5ea4d4f6d622c9df5f8c90462dd57cc9d9198693f20707fa90703c0e2e0", func := "vivarium/vivariumlaw17.LinearCopies", spec := "linearCopies", unfollowed := true, recurses := true, plainKeys := false, apart := false, narrowed := true }
def LinearCopiesUptoSaid : Prop := linearCopiesUptoRow.holds Tryz.pinned (OpenSpec.upto linearCopiesSpec)

/-- 'vivariumlaw17.LinearBoth', WHERE WHAT IT READS IS OF BULK AT MOST 1048576: true; the input reads as it did. -/
def linearBothUptoRow : OpenClaim := { program := "ythgoillhjajanaagreat", sum := "fc4bd5ea4d4f6d622c9df5f8c90462dd57cc9d9198693f20707fa90703c0e2e0", func := "vivarium/vivariumlaw17.LinearBoth", spec := "linearBoth", unfollowed := true, recurses := true, plainKeys := false, apart := false, narrowed := true }
def LinearBothUptoSaid : Prop := linearBothUptoRow.holds Tryz.pinned (OpenSpec.upto linearBothSpec)

end Rows
end Go.Proofs.YthgoillhjajanaaGreat
