/-
  No cell of these rows narrows 'for every input' (looked for: loops, veiled, ifaces, maps, wideKeys, modest, calm, conditions, laid).
  DERIVED. THE GIVEN ROWS OF THIS SEAT. 6 by the template 'for every input the law returns true; each argument reads behind the call as it read before'; 0 by the template 'total and deterministic' (their statements: YtgiiaokkmnjckaaTotals.lean).
  GIVEN WITH THE SEED: the statements are not yours to turn. If you find one false, say at which input.
  Laid BY PROGRAM, IN A SANDBOX (cutbox-rows.mjs): the forced cells as the released guide's own fill.sh prints them over the translation 852f68c6d35bc09d… (all of the seat's roots in one cut). By AI agents, Wed Nov 11 2026. No macro, syntax, notation, axiom, sorry.
-/
import Derived.Test.YtgiiaokkmnjckaaChecked
import GoSem.Claim
import GoSem.ClaimJoined
import GoSem.ClaimMapViews
import Derived.JoinedTies
import Derived.KernelRfl
namespace Go.Proofs.Ytgiiaokkmnjckaa
/- THE CELL 'sum', in the pinned program and in every row, IS THE sha256 OF THE DUMP (.gsa) THAT YtgiiaokkmnjckaaProg.lean LOADS. Nothing in Lean hashes anything: it is a label: what it is worth is what the hold of that sum in a sandbox is worth. -/
noncomputable def Try.pinned : Pinned := { name := "ytgiiaokkmnjckaa", sum := "852f68c6d35bc09d021a9e8e2fa2fc19513882cf4d43152f7d2ae468b78a8d5e", checked := Try.checked }
namespace Rows
def none {H : Type} : Left H := { results := [], args := [] }

/-- 'vivariumlaw06.FoldCell': WHATEVER THE INPUT: true; the input reads as it did. -/
def foldCellSpec : ChangeSpec := { name := "foldCell", fn := fun _ => fun
  | [d1, d2] => { results := [.lit (.bool true)], args := [d1, d2] }
  | _ => none }
def foldCellRow : OpenClaim := { program := "ytgiiaokkmnjckaa", sum := "852f68c6d35bc09d021a9e8e2fa2fc19513882cf4d43152f7d2ae468b78a8d5e", func := "vivarium/vivariumlaw06.FoldCell", spec := "foldCell", inPlace := ["math.archTrunc", "math.Float64bits", "math.Float64frombits"], unfollowed := true, recurses := true, apart := false }
def FoldCellSaid : Prop := foldCellRow.holds Try.pinned (OpenSpec.ofChange foldCellSpec)

/-- ITS FALSE NEIGHBOUR: 'it returns false'. Refute it at one input. -/
def foldCellWrong : ChangeSpec := { name := "foldCell", fn := fun _ => fun
  | [d1, d2] => { results := [.lit (.bool false)], args := [d1, d2] }
  | _ => none }
def FoldCellWrongFalsely : Prop := foldCellRow.holds Try.pinned (OpenSpec.ofChange foldCellWrong)

/-- 'vivariumlaw06.FoldRing': WHATEVER THE INPUT: true; the input reads as it did. -/
def foldRingSpec : ChangeSpec := { name := "foldRing", fn := fun _ => fun
  | [d1, d2] => { results := [.lit (.bool true)], args := [d1, d2] }
  | _ => none }
def foldRingRow : OpenClaim := { program := "ytgiiaokkmnjckaa", sum := "852f68c6d35bc09d021a9e8e2fa2fc19513882cf4d43152f7d2ae468b78a8d5e", func := "vivarium/vivariumlaw06.FoldRing", spec := "foldRing", inPlace := ["math.archTrunc", "math.Float64bits", "math.Float64frombits"], unfollowed := true, recurses := true, apart := false }
def FoldRingSaid : Prop := foldRingRow.holds Try.pinned (OpenSpec.ofChange foldRingSpec)

/-- ITS FALSE NEIGHBOUR: 'it returns false'. Refute it at one input. -/
def foldRingWrong : ChangeSpec := { name := "foldRing", fn := fun _ => fun
  | [d1, d2] => { results := [.lit (.bool false)], args := [d1, d2] }
  | _ => none }
def FoldRingWrongFalsely : Prop := foldRingRow.holds Try.pinned (OpenSpec.ofChange foldRingWrong)

/-- 'vivariumlaw06.FoldGlue': WHATEVER THE INPUT: true; the input reads as it did. -/
def foldGlueSpec : ChangeSpec := { name := "foldGlue", fn := fun _ => fun
  | [d1, d2] => { results := [.lit (.bool true)], args := [d1, d2] }
  | _ => none }
def foldGlueRow : OpenClaim := { program := "ytgiiaokkmnjckaa", sum := "852f68c6d35bc09d021a9e8e2fa2fc19513882cf4d43152f7d2ae468b78a8d5e", func := "vivarium/vivariumlaw06.FoldGlue", spec := "foldGlue", inPlace := ["math.archTrunc", "math.Float64bits", "math.Float64frombits"], unfollowed := true, recurses := true, apart := false }
def FoldGlueSaid : Prop := foldGlueRow.holds Try.pinned (OpenSpec.ofChange foldGlueSpec)

/-- ITS FALSE NEIGHBOUR: 'it returns false'. Refute it at one input. -/
def foldGlueWrong : ChangeSpec := { name := "foldGlue", fn := fun _ => fun
  | [d1, d2] => { results := [.lit (.bool false)], args := [d1, d2] }
  | _ => none }
def FoldGlueWrongFalsely : Prop := foldGlueRow.holds Try.pinned (OpenSpec.ofChange foldGlueWrong)

/-- 'vivariumlaw06.FoldSame': WHATEVER THE INPUT: true; the input reads as it did. -/
def foldSameSpec : ChangeSpec := { name := "foldSame", fn := fun _ => fun
  | [d1, d2, d3] => { results := [.lit (.bool true)], args := [d1, d2, d3] }
  | _ => none }
def foldSameRow : OpenClaim := { program := "ytgiiaokkmnjckaa", sum := "852f68c6d35bc09d021a9e8e2fa2fc19513882cf4d43152f7d2ae468b78a8d5e", func := "vivarium/vivariumlaw06.FoldSame", spec := "foldSame", inPlace := ["math.archTrunc", "math.Float64bits", "math.Float64frombits"], unfollowed := true, recurses := true, apart := false }
def FoldSameSaid : Prop := foldSameRow.holds Try.pinned (OpenSpec.ofChange foldSameSpec)

/-- ITS FALSE NEIGHBOUR: 'it returns false'. Refute it at one input. -/
def foldSameWrong : ChangeSpec := { name := "foldSame", fn := fun _ => fun
  | [d1, d2, d3] => { results := [.lit (.bool false)], args := [d1, d2, d3] }
  | _ => none }
def FoldSameWrongFalsely : Prop := foldSameRow.holds Try.pinned (OpenSpec.ofChange foldSameWrong)

/-- 'vivariumlaw06.FoldGlued': WHATEVER THE INPUT: true; the input reads as it did. -/
def foldGluedSpec : ChangeSpec := { name := "foldGlued", fn := fun _ => fun
  | [d1, d2] => { results := [.lit (.bool true)], args := [d1, d2] }
  | _ => none }
def foldGluedRow : OpenClaim := { program := "ytgiiaokkmnjckaa", sum := "852f68c6d35bc09d021a9e8e2fa2fc19513882cf4d43152f7d2ae468b78a8d5e", func := "vivarium/vivariumlaw06.FoldGlued", spec := "foldGlued", inPlace := ["math.archTrunc", "math.Float64bits", "math.Float64frombits"], unfollowed := true, recurses := true, apart := false }
def FoldGluedSaid : Prop := foldGluedRow.holds Try.pinned (OpenSpec.ofChange foldGluedSpec)

/-- ITS FALSE NEIGHBOUR: 'it returns false'. Refute it at one input. -/
def foldGluedWrong : ChangeSpec := { name := "foldGlued", fn := fun _ => fun
  | [d1, d2] => { results := [.lit (.bool false)], args := [d1, d2] }
  | _ => none }
def FoldGluedWrongFalsely : Prop := foldGluedRow.holds Try.pinned (OpenSpec.ofChange foldGluedWrong)

/-- 'vivariumlaw06.FoldSteps': WHATEVER THE INPUT: true; the input reads as it did. -/
def foldStepsSpec : ChangeSpec := { name := "foldSteps", fn := fun _ => fun
  | [d1, d2, d3, d4] => { results := [.lit (.bool true)], args := [d1, d2, d3, d4] }
  | _ => none }
def foldStepsRow : OpenClaim := { program := "ytgiiaokkmnjckaa", sum := "852f68c6d35bc09d021a9e8e2fa2fc19513882cf4d43152f7d2ae468b78a8d5e", func := "vivarium/vivariumlaw06.FoldSteps", spec := "foldSteps", inPlace := ["math.archTrunc", "math.Float64bits", "math.Float64frombits"], unfollowed := true, recurses := true, apart := false }
def FoldStepsSaid : Prop := foldStepsRow.holds Try.pinned (OpenSpec.ofChange foldStepsSpec)

/-- ITS FALSE NEIGHBOUR: 'it returns false'. Refute it at one input. -/
def foldStepsWrong : ChangeSpec := { name := "foldSteps", fn := fun _ => fun
  | [d1, d2, d3, d4] => { results := [.lit (.bool false)], args := [d1, d2, d3, d4] }
  | _ => none }
def FoldStepsWrongFalsely : Prop := foldStepsRow.holds Try.pinned (OpenSpec.ofChange foldStepsWrong)

/- THE SECOND FORM. 'bulk': how many values and letters a reading holds, each counted each time it is reached (what is shared counts as often as it is met; a slice's spare places count too). A statement '..UptoSaid' is the law's where the arguments, and the package variables that the reading takes, are together of bulk at most 1048576: NARROWER than '..Said'. Prove '..Said' where nothing that the law and all that it calls make is longer than what came in: it says more and counts as full. Else prove '..UptoSaid'. A law counts once. -/
mutual
def uptoBulk {H : Type} : DataW H → Nat
  | .lit (.string bytes) => bytes.length + 1
  | .lit _ => 1
  | .nil => 1
  | .ptr d => uptoBulk d + 1
  | .slice elems spare => uptoBulkAll elems + uptoBulkAll spare + 1
  | .agg parts => uptoBulkAll parts + 1
  | .iface _ d => uptoBulk d + 1
  | .map entries => uptoBulkEntries entries + 1
  | .held _ => 1
def uptoBulkAll {H : Type} : List (DataW H) → Nat
  | [] => 0
  | d :: r => uptoBulk d + uptoBulkAll r
def uptoBulkEntries {H : Type} : List (Lit × DataW H) → Nat
  | [] => 0
  | x :: r => uptoBulkEntry x + uptoBulkEntries r
def uptoBulkEntry {H : Type} : Lit × DataW H → Nat
  | (.string bytes, d) => bytes.length + uptoBulk d + 1
  | (_, d) => uptoBulk d + 1
 end
def uptoSmall : (H : Type) → List (DataW H) → Bool := fun _ ds => decide (uptoBulkAll ds ≤ 1048576)
def OpenSpec.upto (s : _root_.Go.ChangeSpec) : _root_.Go.OpenSpec := { _root_.Go.OpenSpec.ofChange s with cond := some uptoSmall }

/-- 'vivariumlaw06.FoldCell', WHERE WHAT IT READS IS OF BULK AT MOST 1048576: true; the input reads as it did. -/
def foldCellUptoRow : OpenClaim := { program := "ytgiiaokkmnjckaa", sum := "852f68c6d35bc09d021a9e8e2fa2fc19513882cf4d43152f7d2ae468b78a8d5e", func := "vivarium/vivariumlaw06.FoldCell", spec := "foldCell", inPlace := ["math.archTrunc", "math.Float64bits", "math.Float64frombits"], unfollowed := true, recurses := true, apart := false, narrowed := true }
def FoldCellUptoSaid : Prop := foldCellUptoRow.holds Try.pinned (OpenSpec.upto foldCellSpec)

/-- 'vivariumlaw06.FoldRing', WHERE WHAT IT READS IS OF BULK AT MOST 1048576: true; the input reads as it did. -/
def foldRingUptoRow : OpenClaim := { program := "ytgiiaokkmnjckaa", sum := "852f68c6d35bc09d021a9e8e2fa2fc19513882cf4d43152f7d2ae468b78a8d5e", func := "vivarium/vivariumlaw06.FoldRing", spec := "foldRing", inPlace := ["math.archTrunc", "math.Float64bits", "math.Float64frombits"], unfollowed := true, recurses := true, apart := false, narrowed := true }
def FoldRingUptoSaid : Prop := foldRingUptoRow.holds Try.pinned (OpenSpec.upto foldRingSpec)

/-- 'vivariumlaw06.FoldGlue', WHERE WHAT IT READS IS OF BULK AT MOST 1048576: true; the input reads as it did. -/
def foldGlueUptoRow : OpenClaim := { program := "ytgiiaokkmnjckaa", sum := "852f68c6d35bc09d021a9e8e2fa2fc19513882cf4d43152f7d2ae468b78a8d5e", func := "vivarium/vivariumlaw06.FoldGlue", spec := "foldGlue", inPlace := ["math.archTrunc", "math.Float64bits", "math.Float64frombits"], unfollowed := true, recurses := true, apart := false, narrowed := true }
def FoldGlueUptoSaid : Prop := foldGlueUptoRow.holds Try.pinned (OpenSpec.upto foldGlueSpec)

/-- 'vivariumlaw06.FoldSame', WHERE WHAT IT READS IS OF BULK AT MOST 1048576: true; the input reads as it did. -/
def foldSameUptoRow : OpenClaim := { program := "ytgiiaokkmnjckaa", sum := "852f68c6d35bc09d021a9e8e2fa2fc19513882cf4d43152f7d2ae468b78a8d5e", func := "vivarium/vivariumlaw06.FoldSame", spec := "foldSame", inPlace := ["math.archTrunc", "math.Float64bits", "math.Float64frombits"], unfollowed := true, recurses := true, apart := false, narrowed := true }
def FoldSameUptoSaid : Prop := foldSameUptoRow.holds Try.pinned (OpenSpec.upto foldSameSpec)

/-- 'vivariumlaw06.FoldGlued', WHERE WHAT IT READS IS OF BULK AT MOST 1048576: true; the input reads as it did. -/
def foldGluedUptoRow : OpenClaim := { program := "ytgiiaokkmnjckaa", sum := "852f68c6d35bc09d021a9e8e2fa2fc19513882cf4d43152f7d2ae468b78a8d5e", func := "vivarium/vivariumlaw06.FoldGlued", spec := "foldGlued", inPlace := ["math.archTrunc", "math.Float64bits", "math.Float64frombits"], unfollowed := true, recurses := true, apart := false, narrowed := true }
def FoldGluedUptoSaid : Prop := foldGluedUptoRow.holds Try.pinned (OpenSpec.upto foldGluedSpec)

/-- 'vivariumlaw06.FoldSteps', WHERE WHAT IT READS IS OF BULK AT MOST 1048576: true; the input reads as it did. -/
def foldStepsUptoRow : OpenClaim := { program := "ytgiiaokkmnjckaa", sum := "852f68c6d35bc09d021a9e8e2fa2fc19513882cf4d43152f7d2ae468b78a8d5e", func := "vivarium/vivariumlaw06.FoldSteps", spec := "foldSteps", inPlace := ["math.archTrunc", "math.Float64bits", "math.Float64frombits"], unfollowed := true, recurses := true, apart := false, narrowed := true }
def FoldStepsUptoSaid : Prop := foldStepsUptoRow.holds Try.pinned (OpenSpec.upto foldStepsSpec)

end Rows
end Go.Proofs.Ytgiiaokkmnjckaa
