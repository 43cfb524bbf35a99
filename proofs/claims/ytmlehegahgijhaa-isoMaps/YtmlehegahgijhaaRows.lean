/-
  No cell of these rows narrows 'for every input' (looked for: loops, veiled, ifaces, maps, wideKeys, modest, calm, conditions, laid).
  DERIVED. THE GIVEN ROWS OF THIS SEAT. 6 by the template 'for every input the law returns true; each argument reads behind the call as it read before'; 0 by the template 'total and deterministic' (their statements: YtmlehegahgijhaaTotals.lean).
  GIVEN WITH THE SEED: the statements are not yours to turn. If you find one false, say at which input.
  Laid BY PROGRAM, IN A SANDBOX (cutbox-rows.mjs): the forced cells as the released guide's own fill.sh prints them over the translation 6cb3d91427499a10… (all of the seat's roots in one cut). By AI agents, Wed Nov 11 2026. No macro, syntax, notation, axiom, sorry.
-/
import Derived.Test.YtmlehegahgijhaaChecked
import GoSem.Claim
import GoSem.ClaimJoined
import GoSem.ClaimMapViews
import Derived.JoinedTies
import Derived.KernelRfl
namespace Go.Proofs.Ytmlehegahgijhaa
/- THE CELL 'sum', in the pinned program and in every row, IS THE sha256 OF THE DUMP (.gsa) THAT YtmlehegahgijhaaProg.lean LOADS. Nothing in Lean hashes anything: it is a label: what it is worth is what the hold of that sum in a sandbox is worth. -/
noncomputable def Try.pinned : Pinned := { name := "ytmlehegahgijhaa", sum := "6cb3d91427499a100498293b83f35f805008cc13b61214a1d18d60413d2e4320", checked := Try.checked }
namespace Rows
def none {H : Type} : Left H := { results := [], args := [] }

/-- 'vivariumlaw05.IsoNames': WHATEVER THE INPUT: true; the input reads as it did. -/
def isoNamesSpec : ChangeSpec := { name := "isoNames", fn := fun _ => fun
  | [] => { results := [.lit (.bool true)], args := [] }
  | _ => none }
def isoNamesRow : OpenClaim := { program := "ytmlehegahgijhaa", sum := "6cb3d91427499a100498293b83f35f805008cc13b61214a1d18d60413d2e4320", func := "vivarium/vivariumlaw05.IsoNames", spec := "isoNames", inPlace := ["math.archTrunc", "math.Float64bits", "math.Float64frombits"], apart := false }
def IsoNamesSaid : Prop := isoNamesRow.holds Try.pinned (OpenSpec.ofChange isoNamesSpec)

/-- ITS FALSE NEIGHBOUR: 'it returns false'. Refute it at one input. -/
def isoNamesWrong : ChangeSpec := { name := "isoNames", fn := fun _ => fun
  | [] => { results := [.lit (.bool false)], args := [] }
  | _ => none }
def IsoNamesWrongFalsely : Prop := isoNamesRow.holds Try.pinned (OpenSpec.ofChange isoNamesWrong)

/-- 'vivariumlaw05.IsoParts': WHATEVER THE INPUT: true; the input reads as it did. -/
def isoPartsSpec : ChangeSpec := { name := "isoParts", fn := fun _ => fun
  | [d] => { results := [.lit (.bool true)], args := [d] }
  | _ => none }
def isoPartsRow : OpenClaim := { program := "ytmlehegahgijhaa", sum := "6cb3d91427499a100498293b83f35f805008cc13b61214a1d18d60413d2e4320", func := "vivarium/vivariumlaw05.IsoParts", spec := "isoParts", inPlace := ["math.archTrunc", "math.Float64bits", "math.Float64frombits"], apart := false }
def IsoPartsSaid : Prop := isoPartsRow.holds Try.pinned (OpenSpec.ofChange isoPartsSpec)

/-- ITS FALSE NEIGHBOUR: 'it returns false'. Refute it at one input. -/
def isoPartsWrong : ChangeSpec := { name := "isoParts", fn := fun _ => fun
  | [d] => { results := [.lit (.bool false)], args := [d] }
  | _ => none }
def IsoPartsWrongFalsely : Prop := isoPartsRow.holds Try.pinned (OpenSpec.ofChange isoPartsWrong)

/-- 'vivariumlaw05.IsoMaps': WHATEVER THE INPUT: true; the input reads as it did. -/
def isoMapsSpec : ChangeSpec := { name := "isoMaps", fn := fun _ => fun
  | [d] => { results := [.lit (.bool true)], args := [d] }
  | _ => none }
def isoMapsRow : OpenClaim := { program := "ytmlehegahgijhaa", sum := "6cb3d91427499a100498293b83f35f805008cc13b61214a1d18d60413d2e4320", func := "vivarium/vivariumlaw05.IsoMaps", spec := "isoMaps", inPlace := ["math.archTrunc", "math.Float64bits", "math.Float64frombits"], apart := false }
def IsoMapsSaid : Prop := isoMapsRow.holds Try.pinned (OpenSpec.ofChange isoMapsSpec)

/-- ITS FALSE NEIGHBOUR: 'it returns false'. Refute it at one input. -/
def isoMapsWrong : ChangeSpec := { name := "isoMaps", fn := fun _ => fun
  | [d] => { results := [.lit (.bool false)], args := [d] }
  | _ => none }
def IsoMapsWrongFalsely : Prop := isoMapsRow.holds Try.pinned (OpenSpec.ofChange isoMapsWrong)

/-- 'vivariumlaw05.IsoShifts': WHATEVER THE INPUT: true; the input reads as it did. -/
def isoShiftsSpec : ChangeSpec := { name := "isoShifts", fn := fun _ => fun
  | [d1, d2] => { results := [.lit (.bool true)], args := [d1, d2] }
  | _ => none }
def isoShiftsRow : OpenClaim := { program := "ytmlehegahgijhaa", sum := "6cb3d91427499a100498293b83f35f805008cc13b61214a1d18d60413d2e4320", func := "vivarium/vivariumlaw05.IsoShifts", spec := "isoShifts", inPlace := ["math.archTrunc", "math.Float64bits", "math.Float64frombits"], apart := false }
def IsoShiftsSaid : Prop := isoShiftsRow.holds Try.pinned (OpenSpec.ofChange isoShiftsSpec)

/-- ITS FALSE NEIGHBOUR: 'it returns false'. Refute it at one input. -/
def isoShiftsWrong : ChangeSpec := { name := "isoShifts", fn := fun _ => fun
  | [d1, d2] => { results := [.lit (.bool false)], args := [d1, d2] }
  | _ => none }
def IsoShiftsWrongFalsely : Prop := isoShiftsRow.holds Try.pinned (OpenSpec.ofChange isoShiftsWrong)

/-- 'vivariumlaw05.IsoAts': WHATEVER THE INPUT: true; the input reads as it did. -/
def isoAtsSpec : ChangeSpec := { name := "isoAts", fn := fun _ => fun
  | [d1, d2] => { results := [.lit (.bool true)], args := [d1, d2] }
  | _ => none }
def isoAtsRow : OpenClaim := { program := "ytmlehegahgijhaa", sum := "6cb3d91427499a100498293b83f35f805008cc13b61214a1d18d60413d2e4320", func := "vivarium/vivariumlaw05.IsoAts", spec := "isoAts", inPlace := ["math.archTrunc", "math.Float64bits", "math.Float64frombits"], apart := false }
def IsoAtsSaid : Prop := isoAtsRow.holds Try.pinned (OpenSpec.ofChange isoAtsSpec)

/-- ITS FALSE NEIGHBOUR: 'it returns false'. Refute it at one input. -/
def isoAtsWrong : ChangeSpec := { name := "isoAts", fn := fun _ => fun
  | [d1, d2] => { results := [.lit (.bool false)], args := [d1, d2] }
  | _ => none }
def IsoAtsWrongFalsely : Prop := isoAtsRow.holds Try.pinned (OpenSpec.ofChange isoAtsWrong)

/-- 'vivariumlaw05.IsoThens': WHATEVER THE INPUT: true; the input reads as it did. -/
def isoThensSpec : ChangeSpec := { name := "isoThens", fn := fun _ => fun
  | [d1, d2] => { results := [.lit (.bool true)], args := [d1, d2] }
  | _ => none }
def isoThensRow : OpenClaim := { program := "ytmlehegahgijhaa", sum := "6cb3d91427499a100498293b83f35f805008cc13b61214a1d18d60413d2e4320", func := "vivarium/vivariumlaw05.IsoThens", spec := "isoThens", inPlace := ["math.archTrunc", "math.Float64bits", "math.Float64frombits"], apart := false }
def IsoThensSaid : Prop := isoThensRow.holds Try.pinned (OpenSpec.ofChange isoThensSpec)

/-- ITS FALSE NEIGHBOUR: 'it returns false'. Refute it at one input. -/
def isoThensWrong : ChangeSpec := { name := "isoThens", fn := fun _ => fun
  | [d1, d2] => { results := [.lit (.bool false)], args := [d1, d2] }
  | _ => none }
def IsoThensWrongFalsely : Prop := isoThensRow.holds Try.pinned (OpenSpec.ofChange isoThensWrong)

/- THE SECOND FORM. 'bulk': how many values and letters a reading holds, each counted each time it is reached (what is shared counts as often as it is met; a slice's spare places count too). A statement '..UptoSaid' is the law's where the arguments, and the package variables that the reading takes, are together of bulk at most 1048576: NARROWER than '..Said'. Prove '..Said' where nothing that the law and all that it calls make is longer than what came in: it says more and counts as full. Else prove '..UptoSaid'. A law counts once. -/
mutual
def uptoBulk {H : Type} : DataW H → Nat
  | .lit (.string bytes) => bytes.length + 1
  | .lit _ => 1
  | .nil => 1
  | .ptr d => uptoBulk d + 1
  | .slice elems spare => uptoBulkAll elems + uptoBulkAll spare + 1
  | .agg parts => uptoBulkAll parts + 1
  | .iface _ d => uptoBulk d + 1
  | .map entries => uptoBulkEntries entries + 1
  | .held _ => 1
def uptoBulkAll {H : Type} : List (DataW H) → Nat
  | [] => 0
  | d :: r => uptoBulk d + uptoBulkAll r
def uptoBulkEntries {H : Type} : List (Lit × DataW H) → Nat
  | [] => 0
  | x :: r => uptoBulkEntry x + uptoBulkEntries r
def uptoBulkEntry {H : Type} : Lit × DataW H → Nat
  | (.string bytes, d) => bytes.length + uptoBulk d + 1
  | (_, d) => uptoBulk d + 1
 end
def uptoSmall : (H : Type) → List (DataW H) → Bool := fun _ ds => decide (uptoBulkAll ds ≤ 1048576)
def OpenSpec.upto (s : _root_.Go.ChangeSpec) : _root_.Go.OpenSpec := { _root_.Go.OpenSpec.ofChange s with cond := some uptoSmall }

/-- 'vivariumlaw05.IsoNames', WHERE WHAT IT READS IS OF BULK AT MOST 1048576: true; the input reads as it did. -/
def isoNamesUptoRow : OpenClaim := { program := "ytmlehegahgijhaa", sum := "6cb3d91427499a100498293b83f35f805008cc13b61214a1d18d60413d2e4320", func := "vivarium/vivariumlaw05.IsoNames", spec := "isoNames", inPlace := ["math.archTrunc", "math.Float64bits", "math.Float64frombits"], apart := false, narrowed := true }
def IsoNamesUptoSaid : Prop := isoNamesUptoRow.holds Try.pinned (OpenSpec.upto isoNamesSpec)

/-- 'vivariumlaw05.IsoParts', WHERE WHAT IT READS IS OF BULK AT MOST 1048576: true; the input reads as it did. -/
def isoPartsUptoRow : OpenClaim := { program := "ytmlehegahgijhaa", sum := "6cb3d91427499a100498293b83f35f805008cc13b61214a1d18d60413d2e4320", func := "vivarium/vivariumlaw05.IsoParts", spec := "isoParts", inPlace := ["math.archTrunc", "math.Float64bits", "math.Float64frombits"], apart := false, narrowed := true }
def IsoPartsUptoSaid : Prop := isoPartsUptoRow.holds Try.pinned (OpenSpec.upto isoPartsSpec)

/-- 'vivariumlaw05.IsoMaps', WHERE WHAT IT READS IS OF BULK AT MOST 1048576: true; the input reads as it did. -/
def isoMapsUptoRow : OpenClaim := { program := "ytmlehegahgijhaa", sum := "6cb3d91427499a100498293b83f35f805008cc13b61214a1d18d60413d2e4320", func := "vivarium/vivariumlaw05.IsoMaps", spec := "isoMaps", inPlace := ["math.archTrunc", "math.Float64bits", "math.Float64frombits"], apart := false, narrowed := true }
def IsoMapsUptoSaid : Prop := isoMapsUptoRow.holds Try.pinned (OpenSpec.upto isoMapsSpec)

/-- 'vivariumlaw05.IsoShifts', WHERE WHAT IT READS IS OF BULK AT MOST 1048576: true; the input reads as it did. -/
def isoShiftsUptoRow : OpenClaim := { program := "ytmlehegahgijhaa", sum := "6cb3d91427499a100498293b83f35f805008cc13b61214a1d18d60413d2e4320", func := "vivarium/vivariumlaw05.IsoShifts", spec := "isoShifts", inPlace := ["math.archTrunc", "math.Float64bits", "math.Float64frombits"], apart := false, narrowed := true }
def IsoShiftsUptoSaid : Prop := isoShiftsUptoRow.holds Try.pinned (OpenSpec.upto isoShiftsSpec)

/-- 'vivariumlaw05.IsoAts', WHERE WHAT IT READS IS OF BULK AT MOST 1048576: true; the input reads as it did. -/
def isoAtsUptoRow : OpenClaim := { program := "ytmlehegahgijhaa", sum := "6cb3d91427499a100498293b83f35f805008cc13b61214a1d18d60413d2e4320", func := "vivarium/vivariumlaw05.IsoAts", spec := "isoAts", inPlace := ["math.archTrunc", "math.Float64bits", "math.Float64frombits"], apart := false, narrowed := true }
def IsoAtsUptoSaid : Prop := isoAtsUptoRow.holds Try.pinned (OpenSpec.upto isoAtsSpec)

/-- 'vivariumlaw05.IsoThens', WHERE WHAT IT READS IS OF BULK AT MOST 1048576: true; the input reads as it did. -/
def isoThensUptoRow : OpenClaim := { program := "ytmlehegahgijhaa", sum := "6cb3d91427499a100498293b83f35f805008cc13b61214a1d18d60413d2e4320", func := "vivarium/vivariumlaw05.IsoThens", spec := "isoThens", inPlace := ["math.archTrunc", "math.Float64bits", "math.Float64frombits"], apart := false, narrowed := true }
def IsoThensUptoSaid : Prop := isoThensUptoRow.holds Try.pinned (OpenSpec.upto isoThensSpec)

end Rows
end Go.Proofs.Ytmlehegahgijhaa
