/-
  NARROWER THAN 'FOR EVERY INPUT', by the rows' own cells (each row's printed sentence says how): LifeNames: laid · LifeParses: laid · LifePrints: laid · LifeNexts: laid · LifeBack: laid · LifeForm: laid.
  DERIVED. THE GIVEN ROWS OF THIS SEAT. 6 by the template 'for every input the law returns true; each argument reads behind the call as it read before'; 0 by the template 'total and deterministic' (their statements: YtnedofaobhmloaaDoorTotals.lean).
  GIVEN WITH THE SEED: the statements are not yours to turn. If you find one false, say at which input.
  Laid BY PROGRAM, IN A SANDBOX (cutbox-rows.mjs): the forced cells as the released guide's own fill.sh prints them over the translation 3cf7af4a05899269… (all of the seat's roots in one cut). By AI agents, Wed Nov 11 2026. No macro, syntax, notation, axiom, sorry.
-/
import Derived.Test.YtnedofaobhmloaaDoorChecked
import GoSem.Claim
import GoSem.ClaimJoined
import GoSem.ClaimMapViews
import Derived.JoinedTies
import Derived.KernelRfl
namespace Go.Proofs.YtnedofaobhmloaaDoor
/- THE CELL 'sum', in the pinned program and in every row, IS THE sha256 OF THE DUMP (.gsa) THAT YtnedofaobhmloaaDoorProg.lean LOADS. Nothing in Lean hashes anything: it is a label: what it is worth is what the hold of that sum in a sandbox is worth. -/
noncomputable def Tryd.pinned : Pinned := { name := "ytnedofaobhmloaadoor", sum := "3cf7af4a058992690f0658734da8718279889a7c6b259d510a0e4e33fa88f2ce", checked := Tryd.checked }
namespace Rows
def none {H : Type} : Left H := { results := [], args := [] }

/- WHAT THE LISTED PACKAGE-LEVEL VARIABLES READ AS WHEN THE CALL BEGINS. Each datum BY PROGRAM (the guide's laid-datum.mjs) off the statement by which the dump's own 'gosem.cut.vars' lays the variable. In a bare row this is a premise. The card (YtnedofaobhmloaaDoorCards.lean) ties it to the program's text. -/
def laid_vivarium_hood_hoods {H : Type} : DataW H := .agg [.agg [.agg [.agg [.lit (.int .i64 0), .lit (.int .i64 0)], .agg [.lit (.int .i64 0), .lit (.int .i64 0)], .agg [.lit (.int .i64 0), .lit (.int .i64 0)], .agg [.lit (.int .i64 0), .lit (.int .i64 0)], .agg [.lit (.int .i64 0), .lit (.int .i64 0)], .agg [.lit (.int .i64 0), .lit (.int .i64 0)], .agg [.lit (.int .i64 0), .lit (.int .i64 0)], .agg [.lit (.int .i64 0), .lit (.int .i64 0)]], .lit (.int .i64 0)], .agg [.agg [.agg [.lit (.int .i64 0), .lit (.int .i64 (-1))], .agg [.lit (.int .i64 1), .lit (.int .i64 (-1))], .agg [.lit (.int .i64 1), .lit (.int .i64 0)], .agg [.lit (.int .i64 1), .lit (.int .i64 1)], .agg [.lit (.int .i64 0), .lit (.int .i64 1)], .agg [.lit (.int .i64 (-1)), .lit (.int .i64 1)], .agg [.lit (.int .i64 (-1)), .lit (.int .i64 0)], .agg [.lit (.int .i64 (-1)), .lit (.int .i64 (-1))]], .lit (.int .i64 8)], .agg [.agg [.agg [.lit (.int .i64 0), .lit (.int .i64 (-1))], .agg [.lit (.int .i64 1), .lit (.int .i64 0)], .agg [.lit (.int .i64 0), .lit (.int .i64 1)], .agg [.lit (.int .i64 (-1)), .lit (.int .i64 0)], .agg [.lit (.int .i64 0), .lit (.int .i64 0)], .agg [.lit (.int .i64 0), .lit (.int .i64 0)], .agg [.lit (.int .i64 0), .lit (.int .i64 0)], .agg [.lit (.int .i64 0), .lit (.int .i64 0)]], .lit (.int .i64 4)], .agg [.agg [.agg [.lit (.int .i64 0), .lit (.int .i64 (-1))], .agg [.lit (.int .i64 1), .lit (.int .i64 0)], .agg [.lit (.int .i64 1), .lit (.int .i64 1)], .agg [.lit (.int .i64 0), .lit (.int .i64 1)], .agg [.lit (.int .i64 (-1)), .lit (.int .i64 0)], .agg [.lit (.int .i64 (-1)), .lit (.int .i64 (-1))], .agg [.lit (.int .i64 0), .lit (.int .i64 0)], .agg [.lit (.int .i64 0), .lit (.int .i64 0)]], .lit (.int .i64 6)]]

/-- 'vivariumlaw08.LifeNames': WHATEVER THE INPUT: true; the input reads as it did. -/
def lifeNamesSpec : ChangeSpec := { name := "lifeNames", fn := fun _ => fun
  | [] => { results := [.lit (.bool true)], args := [] }
  | _ => none }
def lifeNamesRow : OpenClaim := { program := "ytnedofaobhmloaadoor", sum := "3cf7af4a058992690f0658734da8718279889a7c6b259d510a0e4e33fa88f2ce", func := "vivarium/vivariumlaw08.LifeNames", spec := "lifeNames", inPlace := ["internal/bytealg.IndexByteString", "internal/bytealg.IndexString", "internal/abi.NoEscape"], named := ["vivarium/hood.hoods", "internal/bytealg.MaxLen"], apart := false, laid := [("vivarium/hood.hoods", laid_vivarium_hood_hoods)] }
def LifeNamesSaid : Prop := lifeNamesRow.holds Tryd.pinned (OpenSpec.ofChange lifeNamesSpec)

/-- ITS FALSE NEIGHBOUR: 'it returns false'. Refute it at one input. -/
def lifeNamesWrong : ChangeSpec := { name := "lifeNames", fn := fun _ => fun
  | [] => { results := [.lit (.bool false)], args := [] }
  | _ => none }
def LifeNamesWrongFalsely : Prop := lifeNamesRow.holds Tryd.pinned (OpenSpec.ofChange lifeNamesWrong)

/-- 'vivariumlaw08.LifeParses': WHATEVER THE INPUT: true; the input reads as it did. -/
def lifeParsesSpec : ChangeSpec := { name := "lifeParses", fn := fun _ => fun
  | [d] => { results := [.lit (.bool true)], args := [d] }
  | _ => none }
def lifeParsesRow : OpenClaim := { program := "ytnedofaobhmloaadoor", sum := "3cf7af4a058992690f0658734da8718279889a7c6b259d510a0e4e33fa88f2ce", func := "vivarium/vivariumlaw08.LifeParses", spec := "lifeParses", inPlace := ["internal/bytealg.IndexByteString", "internal/bytealg.IndexString", "internal/abi.NoEscape"], named := ["vivarium/hood.hoods", "internal/bytealg.MaxLen"], apart := false, laid := [("vivarium/hood.hoods", laid_vivarium_hood_hoods)] }
def LifeParsesSaid : Prop := lifeParsesRow.holds Tryd.pinned (OpenSpec.ofChange lifeParsesSpec)

/-- ITS FALSE NEIGHBOUR: 'it returns false'. Refute it at one input. -/
def lifeParsesWrong : ChangeSpec := { name := "lifeParses", fn := fun _ => fun
  | [d] => { results := [.lit (.bool false)], args := [d] }
  | _ => none }
def LifeParsesWrongFalsely : Prop := lifeParsesRow.holds Tryd.pinned (OpenSpec.ofChange lifeParsesWrong)

/-- 'vivariumlaw08.LifePrints': WHATEVER THE INPUT: true; the input reads as it did. -/
def lifePrintsSpec : ChangeSpec := { name := "lifePrints", fn := fun _ => fun
  | [d] => { results := [.lit (.bool true)], args := [d] }
  | _ => none }
def lifePrintsRow : OpenClaim := { program := "ytnedofaobhmloaadoor", sum := "3cf7af4a058992690f0658734da8718279889a7c6b259d510a0e4e33fa88f2ce", func := "vivarium/vivariumlaw08.LifePrints", spec := "lifePrints", inPlace := ["internal/bytealg.IndexByteString", "internal/bytealg.IndexString", "internal/abi.NoEscape"], named := ["vivarium/hood.hoods", "internal/bytealg.MaxLen"], apart := false, laid := [("vivarium/hood.hoods", laid_vivarium_hood_hoods)] }
def LifePrintsSaid : Prop := lifePrintsRow.holds Tryd.pinned (OpenSpec.ofChange lifePrintsSpec)

/-- ITS FALSE NEIGHBOUR: 'it returns false'. Refute it at one input. -/
def lifePrintsWrong : ChangeSpec := { name := "lifePrints", fn := fun _ => fun
  | [d] => { results := [.lit (.bool false)], args := [d] }
  | _ => none }
def LifePrintsWrongFalsely : Prop := lifePrintsRow.holds Tryd.pinned (OpenSpec.ofChange lifePrintsWrong)

/-- 'vivariumlaw08.LifeNexts': WHATEVER THE INPUT: true; the input reads as it did. -/
def lifeNextsSpec : ChangeSpec := { name := "lifeNexts", fn := fun _ => fun
  | [d1, d2, d3] => { results := [.lit (.bool true)], args := [d1, d2, d3] }
  | _ => none }
def lifeNextsRow : OpenClaim := { program := "ytnedofaobhmloaadoor", sum := "3cf7af4a058992690f0658734da8718279889a7c6b259d510a0e4e33fa88f2ce", func := "vivarium/vivariumlaw08.LifeNexts", spec := "lifeNexts", inPlace := ["internal/bytealg.IndexByteString", "internal/bytealg.IndexString", "internal/abi.NoEscape"], named := ["vivarium/hood.hoods", "internal/bytealg.MaxLen"], apart := false, laid := [("vivarium/hood.hoods", laid_vivarium_hood_hoods)] }
def LifeNextsSaid : Prop := lifeNextsRow.holds Tryd.pinned (OpenSpec.ofChange lifeNextsSpec)

/-- ITS FALSE NEIGHBOUR: 'it returns false'. Refute it at one input. -/
def lifeNextsWrong : ChangeSpec := { name := "lifeNexts", fn := fun _ => fun
  | [d1, d2, d3] => { results := [.lit (.bool false)], args := [d1, d2, d3] }
  | _ => none }
def LifeNextsWrongFalsely : Prop := lifeNextsRow.holds Tryd.pinned (OpenSpec.ofChange lifeNextsWrong)

/-- 'vivariumlaw08.LifeBack': WHATEVER THE INPUT: true; the input reads as it did. -/
def lifeBackSpec : ChangeSpec := { name := "lifeBack", fn := fun _ => fun
  | [d1, d2, d3, d4] => { results := [.lit (.bool true)], args := [d1, d2, d3, d4] }
  | _ => none }
def lifeBackRow : OpenClaim := { program := "ytnedofaobhmloaadoor", sum := "3cf7af4a058992690f0658734da8718279889a7c6b259d510a0e4e33fa88f2ce", func := "vivarium/vivariumlaw08.LifeBack", spec := "lifeBack", inPlace := ["internal/bytealg.IndexByteString", "internal/bytealg.IndexString", "internal/abi.NoEscape"], named := ["vivarium/hood.hoods", "internal/bytealg.MaxLen"], apart := false, laid := [("vivarium/hood.hoods", laid_vivarium_hood_hoods)] }
def LifeBackSaid : Prop := lifeBackRow.holds Tryd.pinned (OpenSpec.ofChange lifeBackSpec)

/-- ITS FALSE NEIGHBOUR: 'it returns false'. Refute it at one input. -/
def lifeBackWrong : ChangeSpec := { name := "lifeBack", fn := fun _ => fun
  | [d1, d2, d3, d4] => { results := [.lit (.bool false)], args := [d1, d2, d3, d4] }
  | _ => none }
def LifeBackWrongFalsely : Prop := lifeBackRow.holds Tryd.pinned (OpenSpec.ofChange lifeBackWrong)

/-- 'vivariumlaw08.LifeForm': WHATEVER THE INPUT: true; the input reads as it did. -/
def lifeFormSpec : ChangeSpec := { name := "lifeForm", fn := fun _ => fun
  | [d] => { results := [.lit (.bool true)], args := [d] }
  | _ => none }
def lifeFormRow : OpenClaim := { program := "ytnedofaobhmloaadoor", sum := "3cf7af4a058992690f0658734da8718279889a7c6b259d510a0e4e33fa88f2ce", func := "vivarium/vivariumlaw08.LifeForm", spec := "lifeForm", inPlace := ["internal/bytealg.IndexByteString", "internal/bytealg.IndexString", "internal/abi.NoEscape"], named := ["vivarium/hood.hoods", "internal/bytealg.MaxLen"], apart := false, laid := [("vivarium/hood.hoods", laid_vivarium_hood_hoods)] }
def LifeFormSaid : Prop := lifeFormRow.holds Tryd.pinned (OpenSpec.ofChange lifeFormSpec)

/-- ITS FALSE NEIGHBOUR: 'it returns false'. Refute it at one input. -/
def lifeFormWrong : ChangeSpec := { name := "lifeForm", fn := fun _ => fun
  | [d] => { results := [.lit (.bool false)], args := [d] }
  | _ => none }
def LifeFormWrongFalsely : Prop := lifeFormRow.holds Tryd.pinned (OpenSpec.ofChange lifeFormWrong)

/- THE SECOND FORM. 'bulk': how many values and letters a reading holds, each counted each time it is reached (what is shared counts as often as it is met; a slice's spare places count too). A statement '..UptoSaid' is the law's where the arguments, and the package variables that the reading takes, are together of bulk at most 1048576: NARROWER than '..Said'. Prove '..Said' where nothing that the law and all that it calls make is longer than what came in: it says more and counts as full. Else prove '..UptoSaid'. A law counts once. -/
mutual
def uptoBulk {H : Type} : DataW H → Nat
  | .lit (.string bytes) => bytes.length + 1
  | .lit _ => 1
  | .nil => 1
  | .ptr d => uptoBulk d + 1
  | .slice elems spare => uptoBulkAll elems + uptoBulkAll spare + 1
  | .agg parts => uptoBulkAll parts + 1
  | .iface _ d => uptoBulk d + 1
  | .map entries => uptoBulkEntries entries + 1
  | .held _ => 1
def uptoBulkAll {H : Type} : List (DataW H) → Nat
  | [] => 0
  | d :: r => uptoBulk d + uptoBulkAll r
def uptoBulkEntries {H : Type} : List (Lit × DataW H) → Nat
  | [] => 0
  | x :: r => uptoBulkEntry x + uptoBulkEntries r
def uptoBulkEntry {H : Type} : Lit × DataW H → Nat
  | (.string bytes, d) => bytes.length + uptoBulk d + 1
  | (_, d) => uptoBulk d + 1
 end
def uptoSmall : (H : Type) → List (DataW H) → Bool := fun _ ds => decide (uptoBulkAll ds ≤ 1048576)
def OpenSpec.upto (s : _root_.Go.ChangeSpec) : _root_.Go.OpenSpec := { _root_.Go.OpenSpec.ofChange s with cond := some uptoSmall }

/-- 'vivariumlaw08.LifeNames', WHERE WHAT IT READS IS OF BULK AT MOST 1048576: true; the input reads as it did. -/
def lifeNamesUptoRow : OpenClaim := { program := "ytnedofaobhmloaadoor", sum := "3cf7af4a058992690f0658734da8718279889a7c6b259d510a0e4e33fa88f2ce", func := "vivarium/vivariumlaw08.LifeNames", spec := "lifeNames", inPlace := ["internal/bytealg.IndexByteString", "internal/bytealg.IndexString", "internal/abi.NoEscape"], named := ["vivarium/hood.hoods", "internal/bytealg.MaxLen"], apart := false, laid := [("vivarium/hood.hoods", laid_vivarium_hood_hoods)], narrowed := true }
def LifeNamesUptoSaid : Prop := lifeNamesUptoRow.holds Tryd.pinned (OpenSpec.upto lifeNamesSpec)

/-- 'vivariumlaw08.LifeParses', WHERE WHAT IT READS IS OF BULK AT MOST 1048576: true; the input reads as it did. -/
def lifeParsesUptoRow : OpenClaim := { program := "ytnedofaobhmloaadoor", sum := "3cf7af4a058992690f0658734da8718279889a7c6b259d510a0e4e33fa88f2ce", func := "vivarium/vivariumlaw08.LifeParses", spec := "lifeParses", inPlace := ["internal/bytealg.IndexByteString", "internal/bytealg.IndexString", "internal/abi.NoEscape"], named := ["vivarium/hood.hoods", "internal/bytealg.MaxLen"], apart := false, laid := [("vivarium/hood.hoods", laid_vivarium_hood_hoods)], narrowed := true }
def LifeParsesUptoSaid : Prop := lifeParsesUptoRow.holds Tryd.pinned (OpenSpec.upto lifeParsesSpec)

/-- 'vivariumlaw08.LifePrints', WHERE WHAT IT READS IS OF BULK AT MOST 1048576: true; the input reads as it did. -/
def lifePrintsUptoRow : OpenClaim := { program := "ytnedofaobhmloaadoor", sum := "3cf7af4a058992690f0658734da8718279889a7c6b259d510a0e4e33fa88f2ce", func := "vivarium/vivariumlaw08.LifePrints", spec := "lifePrints", inPlace := ["internal/bytealg.IndexByteString", "internal/bytealg.IndexString", "internal/abi.NoEscape"], named := ["vivarium/hood.hoods", "internal/bytealg.MaxLen"], apart := false, laid := [("vivarium/hood.hoods", laid_vivarium_hood_hoods)], narrowed := true }
def LifePrintsUptoSaid : Prop := lifePrintsUptoRow.holds Tryd.pinned (OpenSpec.upto lifePrintsSpec)

/-- 'vivariumlaw08.LifeNexts', WHERE WHAT IT READS IS OF BULK AT MOST 1048576: true; the input reads as it did. -/
def lifeNextsUptoRow : OpenClaim := { program := "ytnedofaobhmloaadoor", sum := "3cf7af4a058992690f0658734da8718279889a7c6b259d510a0e4e33fa88f2ce", func := "vivarium/vivariumlaw08.LifeNexts", spec := "lifeNexts", inPlace := ["internal/bytealg.IndexByteString", "internal/bytealg.IndexString", "internal/abi.NoEscape"], named := ["vivarium/hood.hoods", "internal/bytealg.MaxLen"], apart := false, laid := [("vivarium/hood.hoods", laid_vivarium_hood_hoods)], narrowed := true }
def LifeNextsUptoSaid : Prop := lifeNextsUptoRow.holds Tryd.pinned (OpenSpec.upto lifeNextsSpec)

/-- 'vivariumlaw08.LifeBack', WHERE WHAT IT READS IS OF BULK AT MOST 1048576: true; the input reads as it did. -/
def lifeBackUptoRow : OpenClaim := { program := "ytnedofaobhmloaadoor", sum := "3cf7af4a058992690f0658734da8718279889a7c6b259d510a0e4e33fa88f2ce", func := "vivarium/vivariumlaw08.LifeBack", spec := "lifeBack", inPlace := ["internal/bytealg.IndexByteString", "internal/bytealg.IndexString", "internal/abi.NoEscape"], named := ["vivarium/hood.hoods", "internal/bytealg.MaxLen"], apart := false, laid := [("vivarium/hood.hoods", laid_vivarium_hood_hoods)], narrowed := true }
def LifeBackUptoSaid : Prop := lifeBackUptoRow.holds Tryd.pinned (OpenSpec.upto lifeBackSpec)

/-- 'vivariumlaw08.LifeForm', WHERE WHAT IT READS IS OF BULK AT MOST 1048576: true; the input reads as it did. -/
def lifeFormUptoRow : OpenClaim := { program := "ytnedofaobhmloaadoor", sum := "3cf7af4a058992690f0658734da8718279889a7c6b259d510a0e4e33fa88f2ce", func := "vivarium/vivariumlaw08.LifeForm", spec := "lifeForm", inPlace := ["internal/bytealg.IndexByteString", "internal/bytealg.IndexString", "internal/abi.NoEscape"], named := ["vivarium/hood.hoods", "internal/bytealg.MaxLen"], apart := false, laid := [("vivarium/hood.hoods", laid_vivarium_hood_hoods)], narrowed := true }
def LifeFormUptoSaid : Prop := lifeFormUptoRow.holds Tryd.pinned (OpenSpec.upto lifeFormSpec)

end Rows
end Go.Proofs.YtnedofaobhmloaaDoor
