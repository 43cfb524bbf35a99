/-
  No cell of these rows narrows 'for every input' (looked for: loops, veiled, ifaces, maps, wideKeys, modest, calm, conditions, laid).
  DERIVED. THE GIVEN ROWS OF THIS SEAT. 4 by the template 'for every input the law returns true; each argument reads behind the call as it read before'; 0 by the template 'total and deterministic' (their statements: YtmlehegahgijhabTotals.lean).
  GIVEN WITH THE SEED: the statements are not yours to turn. If you find one false, say at which input.
  Laid BY PROGRAM, IN A SANDBOX (cutbox-rows.mjs): the forced cells as the released guide's own fill.sh prints them over the translation 4793620a8d9b05de… (all of the seat's roots in one cut). By AI agents, Wed Nov 11 2026. No macro, syntax, notation, axiom, sorry.
-/
import Derived.Test.YtmlehegahgijhabChecked
import GoSem.Claim
import GoSem.ClaimJoined
import GoSem.ClaimMapViews
import Derived.JoinedTies
import Derived.KernelRfl
namespace Go.Proofs.Ytmlehegahgijhab
/- THE CELL 'sum', in the pinned program and in every row, IS THE sha256 OF THE DUMP (.gsa) THAT YtmlehegahgijhabProg.lean LOADS. Nothing in Lean hashes anything: it is a label: what it is worth is what the hold of that sum in a sandbox is worth. -/
noncomputable def Try.pinned : Pinned := { name := "ytmlehegahgijhab", sum := "4793620a8d9b05ded9659cf588d8346dec701a93cd1b69a9bffa977b91fc7d5d", checked := Try.checked }
namespace Rows
def none {H : Type} : Left H := { results := [], args := [] }

/-- 'vivariumlaw05.IsoGroup': WHATEVER THE INPUT: true; the input reads as it did. -/
def isoGroupSpec : ChangeSpec := { name := "isoGroup", fn := fun _ => fun
  | [d1, d2, d3, d4] => { results := [.lit (.bool true)], args := [d1, d2, d3, d4] }
  | _ => none }
def isoGroupRow : OpenClaim := { program := "ytmlehegahgijhab", sum := "4793620a8d9b05ded9659cf588d8346dec701a93cd1b69a9bffa977b91fc7d5d", func := "vivarium/vivariumlaw05.IsoGroup", spec := "isoGroup", inPlace := ["math.archTrunc", "math.Float64bits", "math.Float64frombits"], apart := false }
def IsoGroupSaid : Prop := isoGroupRow.holds Try.pinned (OpenSpec.ofChange isoGroupSpec)

/-- ITS FALSE NEIGHBOUR: 'it returns false'. Refute it at one input. -/
def isoGroupWrong : ChangeSpec := { name := "isoGroup", fn := fun _ => fun
  | [d1, d2, d3, d4] => { results := [.lit (.bool false)], args := [d1, d2, d3, d4] }
  | _ => none }
def IsoGroupWrongFalsely : Prop := isoGroupRow.holds Try.pinned (OpenSpec.ofChange isoGroupWrong)

/-- 'vivariumlaw05.IsoBack': WHATEVER THE INPUT: true; the input reads as it did. -/
def isoBackSpec : ChangeSpec := { name := "isoBack", fn := fun _ => fun
  | [d1, d2] => { results := [.lit (.bool true)], args := [d1, d2] }
  | _ => none }
def isoBackRow : OpenClaim := { program := "ytmlehegahgijhab", sum := "4793620a8d9b05ded9659cf588d8346dec701a93cd1b69a9bffa977b91fc7d5d", func := "vivarium/vivariumlaw05.IsoBack", spec := "isoBack", inPlace := ["math.archTrunc", "math.Float64bits", "math.Float64frombits"], apart := false }
def IsoBackSaid : Prop := isoBackRow.holds Try.pinned (OpenSpec.ofChange isoBackSpec)

/-- ITS FALSE NEIGHBOUR: 'it returns false'. Refute it at one input. -/
def isoBackWrong : ChangeSpec := { name := "isoBack", fn := fun _ => fun
  | [d1, d2] => { results := [.lit (.bool false)], args := [d1, d2] }
  | _ => none }
def IsoBackWrongFalsely : Prop := isoBackRow.holds Try.pinned (OpenSpec.ofChange isoBackWrong)

/-- 'vivariumlaw05.IsoKeeps': WHATEVER THE INPUT: true; the input reads as it did. -/
def isoKeepsSpec : ChangeSpec := { name := "isoKeeps", fn := fun _ => fun
  | [d1, d2, d3] => { results := [.lit (.bool true)], args := [d1, d2, d3] }
  | _ => none }
def isoKeepsRow : OpenClaim := { program := "ytmlehegahgijhab", sum := "4793620a8d9b05ded9659cf588d8346dec701a93cd1b69a9bffa977b91fc7d5d", func := "vivarium/vivariumlaw05.IsoKeeps", spec := "isoKeeps", inPlace := ["math.archTrunc", "math.Float64bits", "math.Float64frombits"], apart := false }
def IsoKeepsSaid : Prop := isoKeepsRow.holds Try.pinned (OpenSpec.ofChange isoKeepsSpec)

/-- ITS FALSE NEIGHBOUR: 'it returns false'. Refute it at one input. -/
def isoKeepsWrong : ChangeSpec := { name := "isoKeeps", fn := fun _ => fun
  | [d1, d2, d3] => { results := [.lit (.bool false)], args := [d1, d2, d3] }
  | _ => none }
def IsoKeepsWrongFalsely : Prop := isoKeepsRow.holds Try.pinned (OpenSpec.ofChange isoKeepsWrong)

/-- 'vivariumlaw05.IsoRounds': WHATEVER THE INPUT: true; the input reads as it did. -/
def isoRoundsSpec : ChangeSpec := { name := "isoRounds", fn := fun _ => fun
  | [d] => { results := [.lit (.bool true)], args := [d] }
  | _ => none }
def isoRoundsRow : OpenClaim := { program := "ytmlehegahgijhab", sum := "4793620a8d9b05ded9659cf588d8346dec701a93cd1b69a9bffa977b91fc7d5d", func := "vivarium/vivariumlaw05.IsoRounds", spec := "isoRounds", inPlace := ["math.archTrunc", "math.Float64bits", "math.Float64frombits"], apart := false }
def IsoRoundsSaid : Prop := isoRoundsRow.holds Try.pinned (OpenSpec.ofChange isoRoundsSpec)

/-- ITS FALSE NEIGHBOUR: 'it returns false'. Refute it at one input. -/
def isoRoundsWrong : ChangeSpec := { name := "isoRounds", fn := fun _ => fun
  | [d] => { results := [.lit (.bool false)], args := [d] }
  | _ => none }
def IsoRoundsWrongFalsely : Prop := isoRoundsRow.holds Try.pinned (OpenSpec.ofChange isoRoundsWrong)

/- THE SECOND FORM. 'bulk': how many values and letters a reading holds, each counted each time it is reached (what is shared counts as often as it is met; a slice's spare places count too). A statement '..UptoSaid' is the law's where the arguments, and the package variables that the reading takes, are together of bulk at most 1048576: NARROWER than '..Said'. Prove '..Said' where nothing that the law and all that it calls make is longer than what came in: it says more and counts as full. Else prove '..UptoSaid'. A law counts once. -/
mutual
def uptoBulk {H : Type} : DataW H → Nat
  | .lit (.string bytes) => bytes.length + 1
  | .lit _ => 1
  | .nil => 1
  | .ptr d => uptoBulk d + 1
  | .slice elems spare => uptoBulkAll elems + uptoBulkAll spare + 1
  | .agg parts => uptoBulkAll parts + 1
  | .iface _ d => uptoBulk d + 1
  | .map entries => uptoBulkEntries entries + 1
  | .held _ => 1
def uptoBulkAll {H : Type} : List (DataW H) → Nat
  | [] => 0
  | d :: r => uptoBulk d + uptoBulkAll r
def uptoBulkEntries {H : Type} : List (Lit × DataW H) → Nat
  | [] => 0
  | x :: r => uptoBulkEntry x + uptoBulkEntries r
def uptoBulkEntry {H : Type} : Lit × DataW H → Nat
  | (.string bytes, d) => bytes.length + uptoBulk d + 1
  | (_, d) => uptoBulk d + 1
 end
def uptoSmall : (H : Type) → List (DataW H) → Bool := fun _ ds => decide (uptoBulkAll ds ≤ 1048576)
def OpenSpec.upto (s : _root_.Go.ChangeSpec) : _root_.Go.OpenSpec := { _root_.Go.OpenSpec.ofChange s with cond := some uptoSmall }

/-- 'vivariumlaw05.IsoGroup', WHERE WHAT IT READS IS OF BULK AT MOST 1048576: true; the input reads as it did. -/
def isoGroupUptoRow : OpenClaim := { program := "ytmlehegahgijhab", sum := "4793620a8d9b05ded9659cf588d8346dec701a93cd1b69a9bffa977b91fc7d5d", func := "vivarium/vivariumlaw05.IsoGroup", spec := "isoGroup", inPlace := ["math.archTrunc", "math.Float64bits", "math.Float64frombits"], apart := false, narrowed := true }
def IsoGroupUptoSaid : Prop := isoGroupUptoRow.holds Try.pinned (OpenSpec.upto isoGroupSpec)

/-- 'vivariumlaw05.IsoBack', WHERE WHAT IT READS IS OF BULK AT MOST 1048576: true; the input reads as it did. -/
def isoBackUptoRow : OpenClaim := { program := "ytmlehegahgijhab", sum := "4793620a8d9b05ded9659cf588d8346dec701a93cd1b69a9bffa977b91fc7d5d", func := "vivarium/vivariumlaw05.IsoBack", spec := "isoBack", inPlace := ["math.archTrunc", "math.Float64bits", "math.Float64frombits"], apart := false, narrowed := true }
def IsoBackUptoSaid : Prop := isoBackUptoRow.holds Try.pinned (OpenSpec.upto isoBackSpec)

/-- 'vivariumlaw05.IsoKeeps', WHERE WHAT IT READS IS OF BULK AT MOST 1048576: true; the input reads as it did. -/
def isoKeepsUptoRow : OpenClaim := { program := "ytmlehegahgijhab", sum := "4793620a8d9b05ded9659cf588d8346dec701a93cd1b69a9bffa977b91fc7d5d", func := "vivarium/vivariumlaw05.IsoKeeps", spec := "isoKeeps", inPlace := ["math.archTrunc", "math.Float64bits", "math.Float64frombits"], apart := false, narrowed := true }
def IsoKeepsUptoSaid : Prop := isoKeepsUptoRow.holds Try.pinned (OpenSpec.upto isoKeepsSpec)

/-- 'vivariumlaw05.IsoRounds', WHERE WHAT IT READS IS OF BULK AT MOST 1048576: true; the input reads as it did. -/
def isoRoundsUptoRow : OpenClaim := { program := "ytmlehegahgijhab", sum := "4793620a8d9b05ded9659cf588d8346dec701a93cd1b69a9bffa977b91fc7d5d", func := "vivarium/vivariumlaw05.IsoRounds", spec := "isoRounds", inPlace := ["math.archTrunc", "math.Float64bits", "math.Float64frombits"], apart := false, narrowed := true }
def IsoRoundsUptoSaid : Prop := isoRoundsUptoRow.holds Try.pinned (OpenSpec.upto isoRoundsSpec)

end Rows
end Go.Proofs.Ytmlehegahgijhab
