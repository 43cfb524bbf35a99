/-
  No cell of these rows narrows 'for every input' (looked for: loops, veiled, ifaces, maps, wideKeys, modest, calm, conditions, laid).
  DERIVED. THE GIVEN ROWS OF THIS SEAT. 6 by the template 'for every input the law returns true; each argument reads behind the call as it read before'; 0 by the template 'total and deterministic' (their statements: YtijjbejilpglnaaGreatTotals.lean).
  GIVEN WITH THE SEED: the statements are not yours to turn. If you find one false, say at which input.
  Laid BY PROGRAM, IN A SANDBOX (cutbox-rows.mjs): the forced cells as the released guide's own fill.sh prints them over the translation d60c587c517271e8… (all of the seat's roots in one cut). By AI agents, Wed Nov 11 2026. No macro, syntax, notation, axiom, sorry.
-/
import Derived.Test.YtijjbejilpglnaaGreatChecked
import GoSem.Claim
import GoSem.ClaimJoined
import GoSem.ClaimMapViews
import Derived.JoinedTies
import Derived.KernelRfl
namespace Go.Proofs.YtijjbejilpglnaaGreat
/- THE CELL 'sum', in the pinned program and in every row, IS THE sha256 OF THE DUMP (.gsa) THAT YtijjbejilpglnaaGreatProg.lean LOADS. Nothing in Lean hashes anything: it is a label: what it is worth is what the hold of that sum in a sandbox is worth. -/
noncomputable def Tryz.pinned : Pinned := { name := "ytijjbejilpglnaagreat", sum := "d60c587c517271e871964347004fa82951e8fca92af32b6154b8fc2075c8a56e", checked := Tryz.checked }
namespace Rows
def none {H : Type} : Left H := { results := [], args := [] }

/-- 'vivariumlaw17.LinearNames': WHATEVER THE INPUT: true; the input reads as it did. -/
def linearNamesSpec : ChangeSpec := { name := "linearNames", fn := fun _ => fun
  | [] => { results := [.lit (.bool true)], args := [] }
  | _ => none }
def linearNamesRow : OpenClaim := { program := "ytijjbejilpglnaagreat", sum := "d60c587c517271e871964347004fa82951e8fca92af32b6154b8fc2075c8a56e", func := "vivarium/vivariumlaw17.LinearNames", spec := "linearNames", unfollowed := true, recurses := true, plainKeys := false, apart := false }
def LinearNamesSaid : Prop := linearNamesRow.holds Tryz.pinned (OpenSpec.ofChange linearNamesSpec)

/-- ITS FALSE NEIGHBOUR: 'it returns false'. Refute it at one input. -/
def linearNamesWrong : ChangeSpec := { name := "linearNames", fn := fun _ => fun
  | [] => { results := [.lit (.bool false)], args := [] }
  | _ => none }
def LinearNamesWrongFalsely : Prop := linearNamesRow.holds Tryz.pinned (OpenSpec.ofChange linearNamesWrong)

/-- 'vivariumlaw17.LinearChecks': WHATEVER THE INPUT: true; the input reads as it did. -/
def linearChecksSpec : ChangeSpec := { name := "linearChecks", fn := fun _ => fun
  | [d] => { results := [.lit (.bool true)], args := [d] }
  | _ => none }
def linearChecksRow : OpenClaim := { program := "ytijjbejilpglnaagreat", sum := "d60c587c517271e871964347004fa82951e8fca92af32b6154b8fc2075c8a56e", func := "vivarium/vivariumlaw17.LinearChecks", spec := "linearChecks", unfollowed := true, recurses := true, plainKeys := false, apart := false }
def LinearChecksSaid : Prop := linearChecksRow.holds Tryz.pinned (OpenSpec.ofChange linearChecksSpec)

/-- ITS FALSE NEIGHBOUR: 'it returns false'. Refute it at one input. -/
def linearChecksWrong : ChangeSpec := { name := "linearChecks", fn := fun _ => fun
  | [d] => { results := [.lit (.bool false)], args := [d] }
  | _ => none }
def LinearChecksWrongFalsely : Prop := linearChecksRow.holds Tryz.pinned (OpenSpec.ofChange linearChecksWrong)

/-- 'vivariumlaw17.LinearTimeses': WHATEVER THE INPUT: true; the input reads as it did. -/
def linearTimesesSpec : ChangeSpec := { name := "linearTimeses", fn := fun _ => fun
  | [d1, d2] => { results := [.lit (.bool true)], args := [d1, d2] }
  | _ => none }
def linearTimesesRow : OpenClaim := { program := "ytijjbejilpglnaagreat", sum := "d60c587c517271e871964347004fa82951e8fca92af32b6154b8fc2075c8a56e", func := "vivarium/vivariumlaw17.LinearTimeses", spec := "linearTimeses", unfollowed := true, recurses := true, plainKeys := false, apart := false }
def LinearTimesesSaid : Prop := linearTimesesRow.holds Tryz.pinned (OpenSpec.ofChange linearTimesesSpec)

/-- ITS FALSE NEIGHBOUR: 'it returns false'. Refute it at one input. -/
def linearTimesesWrong : ChangeSpec := { name := "linearTimeses", fn := fun _ => fun
  | [d1, d2] => { results := [.lit (.bool false)], args := [d1, d2] }
  | _ => none }
def LinearTimesesWrongFalsely : Prop := linearTimesesRow.holds Tryz.pinned (OpenSpec.ofChange linearTimesesWrong)

/-- 'vivariumlaw17.LinearNexts': WHATEVER THE INPUT: true; the input reads as it did. -/
def linearNextsSpec : ChangeSpec := { name := "linearNexts", fn := fun _ => fun
  | [d1, d2, d3] => { results := [.lit (.bool true)], args := [d1, d2, d3] }
  | _ => none }
def linearNextsRow : OpenClaim := { program := "ytijjbejilpglnaagreat", sum := "d60c587c517271e871964347004fa82951e8fca92af32b6154b8fc2075c8a56e", func := "vivarium/vivariumlaw17.LinearNexts", spec := "linearNexts", unfollowed := true, recurses := true, plainKeys := false, apart := false }
def LinearNextsSaid : Prop := linearNextsRow.holds Tryz.pinned (OpenSpec.ofChange linearNextsSpec)

/-- ITS FALSE NEIGHBOUR: 'it returns false'. Refute it at one input. -/
def linearNextsWrong : ChangeSpec := { name := "linearNexts", fn := fun _ => fun
  | [d1, d2, d3] => { results := [.lit (.bool false)], args := [d1, d2, d3] }
  | _ => none }
def LinearNextsWrongFalsely : Prop := linearNextsRow.holds Tryz.pinned (OpenSpec.ofChange linearNextsWrong)

/-- 'vivariumlaw17.LinearJumps': WHATEVER THE INPUT: true; the input reads as it did. -/
def linearJumpsSpec : ChangeSpec := { name := "linearJumps", fn := fun _ => fun
  | [d1, d2, d3, d4] => { results := [.lit (.bool true)], args := [d1, d2, d3, d4] }
  | _ => none }
def linearJumpsRow : OpenClaim := { program := "ytijjbejilpglnaagreat", sum := "d60c587c517271e871964347004fa82951e8fca92af32b6154b8fc2075c8a56e", func := "vivarium/vivariumlaw17.LinearJumps", spec := "linearJumps", unfollowed := true, recurses := true, plainKeys := false, apart := false }
def LinearJumpsSaid : Prop := linearJumpsRow.holds Tryz.pinned (OpenSpec.ofChange linearJumpsSpec)

/-- ITS FALSE NEIGHBOUR: 'it returns false'. Refute it at one input. -/
def linearJumpsWrong : ChangeSpec := { name := "linearJumps", fn := fun _ => fun
  | [d1, d2, d3, d4] => { results := [.lit (.bool false)], args := [d1, d2, d3, d4] }
  | _ => none }
def LinearJumpsWrongFalsely : Prop := linearJumpsRow.holds Tryz.pinned (OpenSpec.ofChange linearJumpsWrong)

/-- 'vivariumlaw17.LinearLines': WHATEVER THE INPUT: true; the input reads as it did. -/
def linearLinesSpec : ChangeSpec := { name := "linearLines", fn := fun _ => fun
  | [d1, d2, d3] => { results := [.lit (.bool true)], args := [d1, d2, d3] }
  | _ => none }
def linearLinesRow : OpenClaim := { program := "ytijjbejilpglnaagreat", sum := "d60c587c517271e871964347004fa82951e8fca92af32b6154b8fc2075c8a56e", func := "vivarium/vivariumlaw17.LinearLines", spec := "linearLines", unfollowed := true, recurses := true, plainKeys := false, apart := false }
def LinearLinesSaid : Prop := linearLinesRow.holds Tryz.pinned (OpenSpec.ofChange linearLinesSpec)

/-- ITS FALSE NEIGHBOUR: 'it returns false'. Refute it at one input. -/
def linearLinesWrong : ChangeSpec := { name := "linearLines", fn := fun _ => fun
  | [d1, d2, d3] => { results := [.lit (.bool false)], args := [d1, d2, d3] }
  | _ => none }
def LinearLinesWrongFalsely : Prop := linearLinesRow.holds Tryz.pinned (OpenSpec.ofChange linearLinesWrong)

/- THE SECOND FORM. 'bulk': how many values and letters a reading holds, each counted each time it is reached (what is shared counts as often as it is met; a slice's spare places count too). A statement '..UptoSaid' is the law's where the arguments, and the package variables that the reading takes, are together of bulk at most 1048576: NARROWER than '..Said'. Prove '..Said' where nothing that the law and all that it calls make is longer than what came in: it says more and counts as full. Else prove '..UptoSaid'. A law counts once. -/
mutual
def uptoBulk {H : Type} : DataW H → Nat
  | .lit (.string bytes) => bytes.length + 1
  | .lit _ => 1
  | .nil => 1
  | .ptr d => uptoBulk d + 1
  | .slice elems spare => uptoBulkAll elems + uptoBulkAll spare + 1
  | .agg parts => uptoBulkAll parts + 1
  | .iface _ d => uptoBulk d + 1
  | .map entries => uptoBulkEntries entries + 1
  | .held _ => 1
def uptoBulkAll {H : Type} : List (DataW H) → Nat
  | [] => 0
  | d :: r => uptoBulk d + uptoBulkAll r
def uptoBulkEntries {H : Type} : List (Lit × DataW H) → Nat
  | [] => 0
  | x :: r => uptoBulkEntry x + uptoBulkEntries r
def uptoBulkEntry {H : Type} : Lit × DataW H → Nat
  | (.string bytes, d) => bytes.length + uptoBulk d + 1
  | (_, d) => uptoBulk d + 1
 end
def uptoSmall : (H : Type) → List (DataW H) → Bool := fun _ ds => decide (uptoBulkAll ds ≤ 1048576)
def OpenSpec.upto (s : _root_.Go.ChangeSpec) : _root_.Go.OpenSpec := { _root_.Go.OpenSpec.ofChange s with cond := some uptoSmall }

/-- 'vivariumlaw17.LinearNames', WHERE WHAT IT READS IS OF BULK AT MOST 1048576: true; the input reads as it did. -/
def linearNamesUptoRow : OpenClaim := { program := "ytijjbejilpglnaagreat", sum := "d60c587c517271e871964347004fa82951e8fca92af32b6154b8fc2075c8a56e", func := "vivarium/vivariumlaw17.LinearNames", spec := "linearNames", unfollowed := true, recurses := true, plainKeys := false, apart := false, narrowed := true }
def LinearNamesUptoSaid : Prop := linearNamesUptoRow.holds Tryz.pinned (OpenSpec.upto linearNamesSpec)

/-- 'vivariumlaw17.LinearChecks', WHERE WHAT IT READS IS OF BULK AT MOST 1048576: true; the input reads as it did. -/
def linearChecksUptoRow : OpenClaim := { program := "ytijjbejilpglnaagreat", sum := "d60c587c517271e871964347004fa82951e8fca92af32b6154b8fc2075c8a56e", func := "vivarium/vivariumlaw17.LinearChecks", spec := "linearChecks", unfollowed := true, recurses := true, plainKeys := false, apart := false, narrowed := true }
def LinearChecksUptoSaid : Prop := linearChecksUptoRow.holds Tryz.pinned (OpenSpec.upto linearChecksSpec)

/-- 'vivariumlaw17.LinearTimeses', WHERE WHAT IT READS IS OF BULK AT MOST 1048576: true; the input reads as it did. -/
def linearTimesesUptoRow : OpenClaim := { program := "ytijjbejilpglnaagreat", sum := "d60c587c517271e871964347004fa82951e8fca92af32b6154b8fc2075c8a56e", func := "vivarium/vivariumlaw17.LinearTimeses", spec := "linearTimeses", unfollowed := true, recurses := true, plainKeys := false, apart := false, narrowed := true }
def LinearTimesesUptoSaid : Prop := linearTimesesUptoRow.holds Tryz.pinned (OpenSpec.upto linearTimesesSpec)

/-- 'vivariumlaw17.LinearNexts', WHERE WHAT IT READS IS OF BULK AT MOST 1048576: true; the input reads as it did. -/
def linearNextsUptoRow : OpenClaim := { program := "ytijjbejilpglnaagreat", sum := "d60c587c517271e871964347004fa82951e8fca92af32b6154b8fc2075c8a56e", func := "vivarium/vivariumlaw17.LinearNexts", spec := "linearNexts", unfollowed := true, recurses := true, plainKeys := false, apart := false, narrowed := true }
def LinearNextsUptoSaid : Prop := linearNextsUptoRow.holds Tryz.pinned (OpenSpec.upto linearNextsSpec)

/-- 'vivariumlaw17.LinearJumps', WHERE WHAT IT READS IS OF BULK AT MOST 1048576: true; the input reads as it did. -/
def linearJumpsUptoRow : OpenClaim := { program := "ytijjbejilpglnaagreat", sum := "d60c587c517271e871964347004fa82951e8fca92af32b6154b8fc2075c8a56e", func := "vivarium/vivariumlaw17.LinearJumps", spec := "linearJumps", unfollowed := true, recurses := true, plainKeys := false, apart := false, narrowed := true }
def LinearJumpsUptoSaid : Prop := linearJumpsUptoRow.holds Tryz.pinned (OpenSpec.upto linearJumpsSpec)

/-- 'vivariumlaw17.LinearLines', WHERE WHAT IT READS IS OF BULK AT MOST 1048576: true; the input reads as it did. -/
def linearLinesUptoRow : OpenClaim := { program := "ytijjbejilpglnaagreat", sum := "d60c587c517271e871964347004fa82951e8fca92af32b6154b8fc2075c8a56e", func := "vivarium/vivariumlaw17.LinearLines", spec := "linearLines", unfollowed := true, recurses := true, plainKeys := false, apart := false, narrowed := true }
def LinearLinesUptoSaid : Prop := linearLinesUptoRow.holds Tryz.pinned (OpenSpec.upto linearLinesSpec)

end Rows
end Go.Proofs.YtijjbejilpglnaaGreat
