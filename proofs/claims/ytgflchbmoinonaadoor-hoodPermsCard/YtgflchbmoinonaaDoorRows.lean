/-
  NARROWER THAN 'FOR EVERY INPUT', by the rows' own cells (each row's printed sentence says how): HoodNames: laid · HoodOffsets: laid · HoodPerms: laid · HoodTurns: laid · HoodThen: laid · HoodRound: laid.
  DERIVED. THE GIVEN ROWS OF THIS SEAT. 6 by the template 'for every input the law returns true; each argument reads behind the call as it read before'; 0 by the template 'total and deterministic' (their statements: YtgflchbmoinonaaDoorTotals.lean).
  GIVEN WITH THE SEED: the statements are not yours to turn. If you find one false, say at which input.
  Laid BY PROGRAM, IN A SANDBOX (cutbox-rows.mjs): the forced cells as the released guide's own fill.sh prints them over the translation 2e84d534db1397fe… (all of the seat's roots in one cut). By AI agents, Wed Nov 11 2026. No macro, syntax, notation, axiom, sorry.
-/
import Derived.Test.YtgflchbmoinonaaDoorChecked
import GoSem.Claim
import GoSem.ClaimJoined
import GoSem.ClaimMapViews
import Derived.JoinedTies
import Derived.KernelRfl
namespace Go.Proofs.YtgflchbmoinonaaDoor
/- THE CELL 'sum', in the pinned program and in every row, IS THE sha256 OF THE DUMP (.gsa) THAT YtgflchbmoinonaaDoorProg.lean LOADS. Nothing in Lean hashes anything: it is a label: what it is worth is what the hold of that sum in a sandbox is worth. -/
noncomputable def Tryd.pinned : Pinned := { name := "ytgflchbmoinonaadoor", sum := "2e84d534db1397fe65553fe47987c24273d05ff2ac516cade65a1a065c59739b", checked := Tryd.checked }
namespace Rows
def none {H : Type} : Left H := { results := [], args := [] }

/- WHAT THE LISTED PACKAGE-LEVEL VARIABLES READ AS WHEN THE CALL BEGINS. Each datum BY PROGRAM (the guide's laid-datum.mjs) off the statement by which the dump's own 'gosem.cut.vars' lays the variable. In a bare row this is a premise. The card (YtgflchbmoinonaaDoorCards.lean) ties it to the program's text. -/
def laid_vivarium_hood_hoods {H : Type} : DataW H := .agg [.agg [.agg [.agg [.lit (.int .i64 0), .lit (.int .i64 0)], .agg [.lit (.int .i64 0), .lit (.int .i64 0)], .agg [.lit (.int .i64 0), .lit (.int .i64 0)], .agg [.lit (.int .i64 0), .lit (.int .i64 0)], .agg [.lit (.int .i64 0), .lit (.int .i64 0)], .agg [.lit (.int .i64 0), .lit (.int .i64 0)], .agg [.lit (.int .i64 0), .lit (.int .i64 0)], .agg [.lit (.int .i64 0), .lit (.int .i64 0)]], .lit (.int .i64 0)], .agg [.agg [.agg [.lit (.int .i64 0), .lit (.int .i64 (-1))], .agg [.lit (.int .i64 1), .lit (.int .i64 (-1))], .agg [.lit (.int .i64 1), .lit (.int .i64 0)], .agg [.lit (.int .i64 1), .lit (.int .i64 1)], .agg [.lit (.int .i64 0), .lit (.int .i64 1)], .agg [.lit (.int .i64 (-1)), .lit (.int .i64 1)], .agg [.lit (.int .i64 (-1)), .lit (.int .i64 0)], .agg [.lit (.int .i64 (-1)), .lit (.int .i64 (-1))]], .lit (.int .i64 8)], .agg [.agg [.agg [.lit (.int .i64 0), .lit (.int .i64 (-1))], .agg [.lit (.int .i64 1), .lit (.int .i64 0)], .agg [.lit (.int .i64 0), .lit (.int .i64 1)], .agg [.lit (.int .i64 (-1)), .lit (.int .i64 0)], .agg [.lit (.int .i64 0), .lit (.int .i64 0)], .agg [.lit (.int .i64 0), .lit (.int .i64 0)], .agg [.lit (.int .i64 0), .lit (.int .i64 0)], .agg [.lit (.int .i64 0), .lit (.int .i64 0)]], .lit (.int .i64 4)], .agg [.agg [.agg [.lit (.int .i64 0), .lit (.int .i64 (-1))], .agg [.lit (.int .i64 1), .lit (.int .i64 0)], .agg [.lit (.int .i64 1), .lit (.int .i64 1)], .agg [.lit (.int .i64 0), .lit (.int .i64 1)], .agg [.lit (.int .i64 (-1)), .lit (.int .i64 0)], .agg [.lit (.int .i64 (-1)), .lit (.int .i64 (-1))], .agg [.lit (.int .i64 0), .lit (.int .i64 0)], .agg [.lit (.int .i64 0), .lit (.int .i64 0)]], .lit (.int .i64 6)]]

/-- 'vivariumlaw07.HoodNames': WHATEVER THE INPUT: true; the input reads as it did. -/
def hoodNamesSpec : ChangeSpec := { name := "hoodNames", fn := fun _ => fun
  | [] => { results := [.lit (.bool true)], args := [] }
  | _ => none }
def hoodNamesRow : OpenClaim := { program := "ytgflchbmoinonaadoor", sum := "2e84d534db1397fe65553fe47987c24273d05ff2ac516cade65a1a065c59739b", func := "vivarium/vivariumlaw07.HoodNames", spec := "hoodNames", inPlace := ["math.archTrunc", "math.Float64bits", "math.Float64frombits"], named := ["vivarium/hood.hoods"], apart := false, laid := [("vivarium/hood.hoods", laid_vivarium_hood_hoods)] }
def HoodNamesSaid : Prop := hoodNamesRow.holds Tryd.pinned (OpenSpec.ofChange hoodNamesSpec)

/-- ITS FALSE NEIGHBOUR: 'it returns false'. Refute it at one input. -/
def hoodNamesWrong : ChangeSpec := { name := "hoodNames", fn := fun _ => fun
  | [] => { results := [.lit (.bool false)], args := [] }
  | _ => none }
def HoodNamesWrongFalsely : Prop := hoodNamesRow.holds Tryd.pinned (OpenSpec.ofChange hoodNamesWrong)

/-- 'vivariumlaw07.HoodOffsets': WHATEVER THE INPUT: true; the input reads as it did. -/
def hoodOffsetsSpec : ChangeSpec := { name := "hoodOffsets", fn := fun _ => fun
  | [d] => { results := [.lit (.bool true)], args := [d] }
  | _ => none }
def hoodOffsetsRow : OpenClaim := { program := "ytgflchbmoinonaadoor", sum := "2e84d534db1397fe65553fe47987c24273d05ff2ac516cade65a1a065c59739b", func := "vivarium/vivariumlaw07.HoodOffsets", spec := "hoodOffsets", named := ["vivarium/hood.hoods"], apart := false, laid := [("vivarium/hood.hoods", laid_vivarium_hood_hoods)] }
def HoodOffsetsSaid : Prop := hoodOffsetsRow.holds Tryd.pinned (OpenSpec.ofChange hoodOffsetsSpec)

/-- ITS FALSE NEIGHBOUR: 'it returns false'. Refute it at one input. -/
def hoodOffsetsWrong : ChangeSpec := { name := "hoodOffsets", fn := fun _ => fun
  | [d] => { results := [.lit (.bool false)], args := [d] }
  | _ => none }
def HoodOffsetsWrongFalsely : Prop := hoodOffsetsRow.holds Tryd.pinned (OpenSpec.ofChange hoodOffsetsWrong)

/-- 'vivariumlaw07.HoodPerms': WHATEVER THE INPUT: true; the input reads as it did. -/
def hoodPermsSpec : ChangeSpec := { name := "hoodPerms", fn := fun _ => fun
  | [d1, d2] => { results := [.lit (.bool true)], args := [d1, d2] }
  | _ => none }
def hoodPermsRow : OpenClaim := { program := "ytgflchbmoinonaadoor", sum := "2e84d534db1397fe65553fe47987c24273d05ff2ac516cade65a1a065c59739b", func := "vivarium/vivariumlaw07.HoodPerms", spec := "hoodPerms", inPlace := ["math.archTrunc", "math.Float64bits", "math.Float64frombits"], named := ["vivarium/hood.hoods"], apart := false, laid := [("vivarium/hood.hoods", laid_vivarium_hood_hoods)] }
def HoodPermsSaid : Prop := hoodPermsRow.holds Tryd.pinned (OpenSpec.ofChange hoodPermsSpec)

/-- ITS FALSE NEIGHBOUR: 'it returns false'. Refute it at one input. -/
def hoodPermsWrong : ChangeSpec := { name := "hoodPerms", fn := fun _ => fun
  | [d1, d2] => { results := [.lit (.bool false)], args := [d1, d2] }
  | _ => none }
def HoodPermsWrongFalsely : Prop := hoodPermsRow.holds Tryd.pinned (OpenSpec.ofChange hoodPermsWrong)

/-- 'vivariumlaw07.HoodTurns': WHATEVER THE INPUT: true; the input reads as it did. -/
def hoodTurnsSpec : ChangeSpec := { name := "hoodTurns", fn := fun _ => fun
  | [d1, d2] => { results := [.lit (.bool true)], args := [d1, d2] }
  | _ => none }
def hoodTurnsRow : OpenClaim := { program := "ytgflchbmoinonaadoor", sum := "2e84d534db1397fe65553fe47987c24273d05ff2ac516cade65a1a065c59739b", func := "vivarium/vivariumlaw07.HoodTurns", spec := "hoodTurns", inPlace := ["math.archTrunc", "math.Float64bits", "math.Float64frombits"], named := ["vivarium/hood.hoods"], apart := false, laid := [("vivarium/hood.hoods", laid_vivarium_hood_hoods)] }
def HoodTurnsSaid : Prop := hoodTurnsRow.holds Tryd.pinned (OpenSpec.ofChange hoodTurnsSpec)

/-- ITS FALSE NEIGHBOUR: 'it returns false'. Refute it at one input. -/
def hoodTurnsWrong : ChangeSpec := { name := "hoodTurns", fn := fun _ => fun
  | [d1, d2] => { results := [.lit (.bool false)], args := [d1, d2] }
  | _ => none }
def HoodTurnsWrongFalsely : Prop := hoodTurnsRow.holds Tryd.pinned (OpenSpec.ofChange hoodTurnsWrong)

/-- 'vivariumlaw07.HoodThen': WHATEVER THE INPUT: true; the input reads as it did. -/
def hoodThenSpec : ChangeSpec := { name := "hoodThen", fn := fun _ => fun
  | [d1, d2, d3] => { results := [.lit (.bool true)], args := [d1, d2, d3] }
  | _ => none }
def hoodThenRow : OpenClaim := { program := "ytgflchbmoinonaadoor", sum := "2e84d534db1397fe65553fe47987c24273d05ff2ac516cade65a1a065c59739b", func := "vivarium/vivariumlaw07.HoodThen", spec := "hoodThen", inPlace := ["math.archTrunc", "math.Float64bits", "math.Float64frombits"], named := ["vivarium/hood.hoods"], apart := false, laid := [("vivarium/hood.hoods", laid_vivarium_hood_hoods)] }
def HoodThenSaid : Prop := hoodThenRow.holds Tryd.pinned (OpenSpec.ofChange hoodThenSpec)

/-- ITS FALSE NEIGHBOUR: 'it returns false'. Refute it at one input. -/
def hoodThenWrong : ChangeSpec := { name := "hoodThen", fn := fun _ => fun
  | [d1, d2, d3] => { results := [.lit (.bool false)], args := [d1, d2, d3] }
  | _ => none }
def HoodThenWrongFalsely : Prop := hoodThenRow.holds Tryd.pinned (OpenSpec.ofChange hoodThenWrong)

/-- 'vivariumlaw07.HoodRound': WHATEVER THE INPUT: true; the input reads as it did. -/
def hoodRoundSpec : ChangeSpec := { name := "hoodRound", fn := fun _ => fun
  | [d] => { results := [.lit (.bool true)], args := [d] }
  | _ => none }
def hoodRoundRow : OpenClaim := { program := "ytgflchbmoinonaadoor", sum := "2e84d534db1397fe65553fe47987c24273d05ff2ac516cade65a1a065c59739b", func := "vivarium/vivariumlaw07.HoodRound", spec := "hoodRound", inPlace := ["math.archTrunc", "math.Float64bits", "math.Float64frombits"], named := ["vivarium/hood.hoods"], apart := false, laid := [("vivarium/hood.hoods", laid_vivarium_hood_hoods)] }
def HoodRoundSaid : Prop := hoodRoundRow.holds Tryd.pinned (OpenSpec.ofChange hoodRoundSpec)

/-- ITS FALSE NEIGHBOUR: 'it returns false'. Refute it at one input. -/
def hoodRoundWrong : ChangeSpec := { name := "hoodRound", fn := fun _ => fun
  | [d] => { results := [.lit (.bool false)], args := [d] }
  | _ => none }
def HoodRoundWrongFalsely : Prop := hoodRoundRow.holds Tryd.pinned (OpenSpec.ofChange hoodRoundWrong)

/- THE SECOND FORM. 'bulk': how many values and letters a reading holds, each counted each time it is reached (what is shared counts as often as it is met; a slice's spare places count too). A statement '..UptoSaid' is the law's where the arguments, and the package variables that the reading takes, are together of bulk at most 1048576: NARROWER than '..Said'. Prove '..Said' where nothing that the law and all that it calls make is longer than what came in: it says more and counts as full. Else prove '..UptoSaid'. A law counts once. -/
mutual
def uptoBulk {H : Type} : DataW H → Nat
  | .lit (.string bytes) => bytes.length + 1
  | .lit _ => 1
  | .nil => 1
  | .ptr d => uptoBulk d + 1
  | .slice elems spare => uptoBulkAll elems + uptoBulkAll spare + 1
  | .agg parts => uptoBulkAll parts + 1
  | .iface _ d => uptoBulk d + 1
  | .map entries => uptoBulkEntries entries + 1
  | .held _ => 1
def uptoBulkAll {H : Type} : List (DataW H) → Nat
  | [] => 0
  | d :: r => uptoBulk d + uptoBulkAll r
def uptoBulkEntries {H : Type} : List (Lit × DataW H) → Nat
  | [] => 0
  | x :: r => uptoBulkEntry x + uptoBulkEntries r
def uptoBulkEntry {H : Type} : Lit × DataW H → Nat
  | (.string bytes, d) => bytes.length + uptoBulk d + 1
  | (_, d) => uptoBulk d + 1
 end
def uptoSmall : (H : Type) → List (DataW H) → Bool := fun _ ds => decide (uptoBulkAll ds ≤ 1048576)
def OpenSpec.upto (s : _root_.Go.ChangeSpec) : _root_.Go.OpenSpec := { _root_.Go.OpenSpec.ofChange s with cond := some uptoSmall }

/-- 'vivariumlaw07.HoodNames', WHERE WHAT IT READS IS OF BULK AT MOST 1048576: true; the input reads as it did. -/
def hoodNamesUptoRow : OpenClaim := { program := "ytgflchbmoinonaadoor", sum := "2e84d534db1397fe65553fe47987c24273d05ff2ac516cade65a1a065c59739b", func := "vivarium/vivariumlaw07.HoodNames", spec := "hoodNames", inPlace := ["math.archTrunc", "math.Float64bits", "math.Float64frombits"], named := ["vivarium/hood.hoods"], apart := false, laid := [("vivarium/hood.hoods", laid_vivarium_hood_hoods)], narrowed := true }
def HoodNamesUptoSaid : Prop := hoodNamesUptoRow.holds Tryd.pinned (OpenSpec.upto hoodNamesSpec)

/-- 'vivariumlaw07.HoodOffsets', WHERE WHAT IT READS IS OF BULK AT MOST 1048576: true; the input reads as it did. -/
def hoodOffsetsUptoRow : OpenClaim := { program := "ytgflchbmoinonaadoor", sum := "2e84d534db1397fe65553fe47987c24273d05ff2ac516cade65a1a065c59739b", func := "vivarium/vivariumlaw07.HoodOffsets", spec := "hoodOffsets", named := ["vivarium/hood.hoods"], apart := false, laid := [("vivarium/hood.hoods", laid_vivarium_hood_hoods)], narrowed := true }
def HoodOffsetsUptoSaid : Prop := hoodOffsetsUptoRow.holds Tryd.pinned (OpenSpec.upto hoodOffsetsSpec)

/-- 'vivariumlaw07.HoodPerms', WHERE WHAT IT READS IS OF BULK AT MOST 1048576: true; the input reads as it did. -/
def hoodPermsUptoRow : OpenClaim := { program := "ytgflchbmoinonaadoor", sum := "2e84d534db1397fe65553fe47987c24273d05ff2ac516cade65a1a065c59739b", func := "vivarium/vivariumlaw07.HoodPerms", spec := "hoodPerms", inPlace := ["math.archTrunc", "math.Float64bits", "math.Float64frombits"], named := ["vivarium/hood.hoods"], apart := false, laid := [("vivarium/hood.hoods", laid_vivarium_hood_hoods)], narrowed := true }
def HoodPermsUptoSaid : Prop := hoodPermsUptoRow.holds Tryd.pinned (OpenSpec.upto hoodPermsSpec)

/-- 'vivariumlaw07.HoodTurns', WHERE WHAT IT READS IS OF BULK AT MOST 1048576: true; the input reads as it did. -/
def hoodTurnsUptoRow : OpenClaim := { program := "ytgflchbmoinonaadoor", sum := "2e84d534db1397fe65553fe47987c24273d05ff2ac516cade65a1a065c59739b", func := "vivarium/vivariumlaw07.HoodTurns", spec := "hoodTurns", inPlace := ["math.archTrunc", "math.Float64bits", "math.Float64frombits"], named := ["vivarium/hood.hoods"], apart := false, laid := [("vivarium/hood.hoods", laid_vivarium_hood_hoods)], narrowed := true }
def HoodTurnsUptoSaid : Prop := hoodTurnsUptoRow.holds Tryd.pinned (OpenSpec.upto hoodTurnsSpec)

/-- 'vivariumlaw07.HoodThen', WHERE WHAT IT READS IS OF BULK AT MOST 1048576: true; the input reads as it did. -/
def hoodThenUptoRow : OpenClaim := { program := "ytgflchbmoinonaadoor", sum := "2e84d534db1397fe65553fe47987c24273d05ff2ac516cade65a1a065c59739b", func := "vivarium/vivariumlaw07.HoodThen", spec := "hoodThen", inPlace := ["math.archTrunc", "math.Float64bits", "math.Float64frombits"], named := ["vivarium/hood.hoods"], apart := false, laid := [("vivarium/hood.hoods", laid_vivarium_hood_hoods)], narrowed := true }
def HoodThenUptoSaid : Prop := hoodThenUptoRow.holds Tryd.pinned (OpenSpec.upto hoodThenSpec)

/-- 'vivariumlaw07.HoodRound', WHERE WHAT IT READS IS OF BULK AT MOST 1048576: true; the input reads as it did. -/
def hoodRoundUptoRow : OpenClaim := { program := "ytgflchbmoinonaadoor", sum := "2e84d534db1397fe65553fe47987c24273d05ff2ac516cade65a1a065c59739b", func := "vivarium/vivariumlaw07.HoodRound", spec := "hoodRound", inPlace := ["math.archTrunc", "math.Float64bits", "math.Float64frombits"], named := ["vivarium/hood.hoods"], apart := false, laid := [("vivarium/hood.hoods", laid_vivarium_hood_hoods)], narrowed := true }
def HoodRoundUptoSaid : Prop := hoodRoundUptoRow.holds Tryd.pinned (OpenSpec.upto hoodRoundSpec)

end Rows
end Go.Proofs.YtgflchbmoinonaaDoor
