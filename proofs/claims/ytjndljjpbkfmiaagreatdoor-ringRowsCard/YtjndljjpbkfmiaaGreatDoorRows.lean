/-
  NARROWER THAN 'FOR EVERY INPUT', by the rows' own cells (each row's printed sentence says how): RingFrames: laid · RingRows: laid · RingArounds: laid · RingGlues: laid.
  DERIVED. THE GIVEN ROWS OF THIS SEAT. 4 by the template 'for every input the law returns true; each argument reads behind the call as it read before'; 0 by the template 'total and deterministic' (their statements: YtjndljjpbkfmiaaGreatDoorTotals.lean).
  GIVEN WITH THE SEED: the statements are not yours to turn. If you find one false, say at which input.
  Laid BY PROGRAM, IN A SANDBOX (cutbox-rows.mjs): the forced cells as the released guide's own fill.sh prints them over the translation 78872de6237ed7a0… (all of the seat's roots in one cut). By AI agents, Wed Nov 11 2026. No macro, syntax, notation, axiom, sorry.
-/
import Derived.Test.YtjndljjpbkfmiaaGreatDoorChecked
import GoSem.Claim
import GoSem.ClaimJoined
import GoSem.ClaimMapViews
import Derived.JoinedTies
import Derived.KernelRfl
namespace Go.Proofs.YtjndljjpbkfmiaaGreatDoor
/- THE CELL 'sum', in the pinned program and in every row, IS THE sha256 OF THE DUMP (.gsa) THAT YtjndljjpbkfmiaaGreatDoorProg.lean LOADS. Nothing in Lean hashes anything: it is a label: what it is worth is what the hold of that sum in a sandbox is worth. -/
noncomputable def Tryz.pinned : Pinned := { name := "ytjndljjpbkfmiaagreatdoor", sum := "78872de6237ed7a02f104720c0c847a583c56c0f12624165802fcb8bc3e866ad", checked := Tryz.checked }
namespace Rows
def none {H : Type} : Left H := { results := [], args := [] }

/- WHAT THE LISTED PACKAGE-LEVEL VARIABLES READ AS WHEN THE CALL BEGINS. Each datum BY PROGRAM (the guide's laid-datum.mjs) off the statement by which the dump's own 'gosem.cut.vars' lays the variable. In a bare row this is a premise. The card (YtjndljjpbkfmiaaGreatDoorCards.lean) ties it to the program's text. -/
def laid_vivarium_ring_offsets {H : Type} : DataW H := .agg [.nil, .slice [.agg [.lit (.int .i64 0), .lit (.int .i64 (-1))], .agg [.lit (.int .i64 1), .lit (.int .i64 (-1))], .agg [.lit (.int .i64 1), .lit (.int .i64 0)], .agg [.lit (.int .i64 1), .lit (.int .i64 1)], .agg [.lit (.int .i64 0), .lit (.int .i64 1)], .agg [.lit (.int .i64 (-1)), .lit (.int .i64 1)], .agg [.lit (.int .i64 (-1)), .lit (.int .i64 0)], .agg [.lit (.int .i64 (-1)), .lit (.int .i64 (-1))]] [], .slice [.agg [.lit (.int .i64 0), .lit (.int .i64 (-1))], .agg [.lit (.int .i64 1), .lit (.int .i64 0)], .agg [.lit (.int .i64 0), .lit (.int .i64 1)], .agg [.lit (.int .i64 (-1)), .lit (.int .i64 0)]] [], .slice [.agg [.lit (.int .i64 0), .lit (.int .i64 (-1))], .agg [.lit (.int .i64 1), .lit (.int .i64 0)], .agg [.lit (.int .i64 1), .lit (.int .i64 1)], .agg [.lit (.int .i64 0), .lit (.int .i64 1)], .agg [.lit (.int .i64 (-1)), .lit (.int .i64 0)], .agg [.lit (.int .i64 (-1)), .lit (.int .i64 (-1))]] []]
def laid_vivarium_hood_hoods {H : Type} : DataW H := .agg [.agg [.agg [.agg [.lit (.int .i64 0), .lit (.int .i64 0)], .agg [.lit (.int .i64 0), .lit (.int .i64 0)], .agg [.lit (.int .i64 0), .lit (.int .i64 0)], .agg [.lit (.int .i64 0), .lit (.int .i64 0)], .agg [.lit (.int .i64 0), .lit (.int .i64 0)], .agg [.lit (.int .i64 0), .lit (.int .i64 0)], .agg [.lit (.int .i64 0), .lit (.int .i64 0)], .agg [.lit (.int .i64 0), .lit (.int .i64 0)]], .lit (.int .i64 0)], .agg [.agg [.agg [.lit (.int .i64 0), .lit (.int .i64 (-1))], .agg [.lit (.int .i64 1), .lit (.int .i64 (-1))], .agg [.lit (.int .i64 1), .lit (.int .i64 0)], .agg [.lit (.int .i64 1), .lit (.int .i64 1)], .agg [.lit (.int .i64 0), .lit (.int .i64 1)], .agg [.lit (.int .i64 (-1)), .lit (.int .i64 1)], .agg [.lit (.int .i64 (-1)), .lit (.int .i64 0)], .agg [.lit (.int .i64 (-1)), .lit (.int .i64 (-1))]], .lit (.int .i64 8)], .agg [.agg [.agg [.lit (.int .i64 0), .lit (.int .i64 (-1))], .agg [.lit (.int .i64 1), .lit (.int .i64 0)], .agg [.lit (.int .i64 0), .lit (.int .i64 1)], .agg [.lit (.int .i64 (-1)), .lit (.int .i64 0)], .agg [.lit (.int .i64 0), .lit (.int .i64 0)], .agg [.lit (.int .i64 0), .lit (.int .i64 0)], .agg [.lit (.int .i64 0), .lit (.int .i64 0)], .agg [.lit (.int .i64 0), .lit (.int .i64 0)]], .lit (.int .i64 4)], .agg [.agg [.agg [.lit (.int .i64 0), .lit (.int .i64 (-1))], .agg [.lit (.int .i64 1), .lit (.int .i64 0)], .agg [.lit (.int .i64 1), .lit (.int .i64 1)], .agg [.lit (.int .i64 0), .lit (.int .i64 1)], .agg [.lit (.int .i64 (-1)), .lit (.int .i64 0)], .agg [.lit (.int .i64 (-1)), .lit (.int .i64 (-1))], .agg [.lit (.int .i64 0), .lit (.int .i64 0)], .agg [.lit (.int .i64 0), .lit (.int .i64 0)]], .lit (.int .i64 6)]]

/-- 'vivariumlaw14.RingFrames': WHATEVER THE INPUT: true; the input reads as it did. -/
def ringFramesSpec : ChangeSpec := { name := "ringFrames", fn := fun _ => fun
  | [d1, d2] => { results := [.lit (.bool true)], args := [d1, d2] }
  | _ => none }
def ringFramesRow : OpenClaim := { program := "ytjndljjpbkfmiaagreatdoor", sum := "78872de6237ed7a02f104720c0c847a583c56c0f12624165802fcb8bc3e866ad", func := "vivarium/vivariumlaw14.RingFrames", spec := "ringFrames", unfollowed := true, recurses := true, named := ["vivarium/ring.offsets"], apart := false, laid := [("vivarium/ring.offsets", laid_vivarium_ring_offsets)] }
def RingFramesSaid : Prop := ringFramesRow.holds Tryz.pinned (OpenSpec.ofChange ringFramesSpec)

/-- ITS FALSE NEIGHBOUR: 'it returns false'. Refute it at one input. -/
def ringFramesWrong : ChangeSpec := { name := "ringFrames", fn := fun _ => fun
  | [d1, d2] => { results := [.lit (.bool false)], args := [d1, d2] }
  | _ => none }
def RingFramesWrongFalsely : Prop := ringFramesRow.holds Tryz.pinned (OpenSpec.ofChange ringFramesWrong)

/-- 'vivariumlaw14.RingRows': WHATEVER THE INPUT: true; the input reads as it did. -/
def ringRowsSpec : ChangeSpec := { name := "ringRows", fn := fun _ => fun
  | [d1, d2] => { results := [.lit (.bool true)], args := [d1, d2] }
  | _ => none }
def ringRowsRow : OpenClaim := { program := "ytjndljjpbkfmiaagreatdoor", sum := "78872de6237ed7a02f104720c0c847a583c56c0f12624165802fcb8bc3e866ad", func := "vivarium/vivariumlaw14.RingRows", spec := "ringRows", unfollowed := true, recurses := true, named := ["vivarium/ring.offsets"], apart := false, laid := [("vivarium/ring.offsets", laid_vivarium_ring_offsets)] }
def RingRowsSaid : Prop := ringRowsRow.holds Tryz.pinned (OpenSpec.ofChange ringRowsSpec)

/-- ITS FALSE NEIGHBOUR: 'it returns false'. Refute it at one input. -/
def ringRowsWrong : ChangeSpec := { name := "ringRows", fn := fun _ => fun
  | [d1, d2] => { results := [.lit (.bool false)], args := [d1, d2] }
  | _ => none }
def RingRowsWrongFalsely : Prop := ringRowsRow.holds Tryz.pinned (OpenSpec.ofChange ringRowsWrong)

/-- 'vivariumlaw14.RingArounds': WHATEVER THE INPUT: true; the input reads as it did. -/
def ringAroundsSpec : ChangeSpec := { name := "ringArounds", fn := fun _ => fun
  | [d1, d2, d3, d4] => { results := [.lit (.bool true)], args := [d1, d2, d3, d4] }
  | _ => none }
def ringAroundsRow : OpenClaim := { program := "ytjndljjpbkfmiaagreatdoor", sum := "78872de6237ed7a02f104720c0c847a583c56c0f12624165802fcb8bc3e866ad", func := "vivarium/vivariumlaw14.RingArounds", spec := "ringArounds", unfollowed := true, recurses := true, named := ["vivarium/ring.offsets"], apart := false, laid := [("vivarium/ring.offsets", laid_vivarium_ring_offsets)] }
def RingAroundsSaid : Prop := ringAroundsRow.holds Tryz.pinned (OpenSpec.ofChange ringAroundsSpec)

/-- ITS FALSE NEIGHBOUR: 'it returns false'. Refute it at one input. -/
def ringAroundsWrong : ChangeSpec := { name := "ringArounds", fn := fun _ => fun
  | [d1, d2, d3, d4] => { results := [.lit (.bool false)], args := [d1, d2, d3, d4] }
  | _ => none }
def RingAroundsWrongFalsely : Prop := ringAroundsRow.holds Tryz.pinned (OpenSpec.ofChange ringAroundsWrong)

/-- 'vivariumlaw14.RingGlues': WHATEVER THE INPUT: true; the input reads as it did. -/
def ringGluesSpec : ChangeSpec := { name := "ringGlues", fn := fun _ => fun
  | [d1, d2, d3, d4] => { results := [.lit (.bool true)], args := [d1, d2, d3, d4] }
  | _ => none }
def ringGluesRow : OpenClaim := { program := "ytjndljjpbkfmiaagreatdoor", sum := "78872de6237ed7a02f104720c0c847a583c56c0f12624165802fcb8bc3e866ad", func := "vivarium/vivariumlaw14.RingGlues", spec := "ringGlues", unfollowed := true, recurses := true, named := ["vivarium/ring.offsets", "vivarium/hood.hoods"], apart := false, laid := [("vivarium/hood.hoods", laid_vivarium_hood_hoods), ("vivarium/ring.offsets", laid_vivarium_ring_offsets)] }
def RingGluesSaid : Prop := ringGluesRow.holds Tryz.pinned (OpenSpec.ofChange ringGluesSpec)

/-- ITS FALSE NEIGHBOUR: 'it returns false'. Refute it at one input. -/
def ringGluesWrong : ChangeSpec := { name := "ringGlues", fn := fun _ => fun
  | [d1, d2, d3, d4] => { results := [.lit (.bool false)], args := [d1, d2, d3, d4] }
  | _ => none }
def RingGluesWrongFalsely : Prop := ringGluesRow.holds Tryz.pinned (OpenSpec.ofChange ringGluesWrong)

/- THE SECOND FORM. 'bulk': how many values and letters a reading holds, each counted each time it is reached (what is shared counts as often as it is met; a slice's spare places count too). A statement '..UptoSaid' is the law's where the arguments, and the package variables that the reading takes, are together of bulk at most 1048576: NARROWER than '..Said'. Prove '..Said' where nothing that the law and all that it calls make is longer than what came in: it says more and counts as full. Else prove '..UptoSaid'. A law counts once. -/
mutual
def uptoBulk {H : Type} : DataW H → Nat
  | .lit (.string bytes) => bytes.length + 1
  | .lit _ => 1
  | .nil => 1
  | .ptr d => uptoBulk d + 1
  | .slice elems spare => uptoBulkAll elems + uptoBulkAll spare + 1
  | .agg parts => uptoBulkAll parts + 1
  | .iface _ d => uptoBulk d + 1
  | .map entries => uptoBulkEntries entries + 1
  | .held _ => 1
def uptoBulkAll {H : Type} : List (DataW H) → Nat
  | [] => 0
  | d :: r => uptoBulk d + uptoBulkAll r
def uptoBulkEntries {H : Type} : List (Lit × DataW H) → Nat
  | [] => 0
  | x :: r => uptoBulkEntry x + uptoBulkEntries r
def uptoBulkEntry {H : Type} : Lit × DataW H → Nat
  | (.string bytes, d) => bytes.length + uptoBulk d + 1
  | (_, d) => uptoBulk d + 1
 end
def uptoSmall : (H : Type) → List (DataW H) → Bool := fun _ ds => decide (uptoBulkAll ds ≤ 1048576)
def OpenSpec.upto (s : _root_.Go.ChangeSpec) : _root_.Go.OpenSpec := { _root_.Go.OpenSpec.ofChange s with cond := some uptoSmall }

/-- 'vivariumlaw14.RingFrames', WHERE WHAT IT READS IS OF BULK AT MOST 1048576: true; the input reads as it did. -/
def ringFramesUptoRow : OpenClaim := { program := "ytjndljjpbkfmiaagreatdoor", sum := "78872de6237ed7a02f104720c0c847a583c56c0f12624165802fcb8bc3e866ad", func := "vivarium/vivariumlaw14.RingFrames", spec := "ringFrames", unfollowed := true, recurses := true, named := ["vivarium/ring.offsets"], apart := false, laid := [("vivarium/ring.offsets", laid_vivarium_ring_offsets)], narrowed := true }
def RingFramesUptoSaid : Prop := ringFramesUptoRow.holds Tryz.pinned (OpenSpec.upto ringFramesSpec)

/-- 'vivariumlaw14.RingRows', WHERE WHAT IT READS IS OF BULK AT MOST 1048576: true; the input reads as it did. -/
def ringRowsUptoRow : OpenClaim := { program := "ytjndljjpbkfmiaagreatdoor", sum := "78872de6237ed7a02f104720c0c847a583c56c0f12624165802fcb8bc3e866ad", func := "vivarium/vivariumlaw14.RingRows", spec := "ringRows", unfollowed := true, recurses := true, named := ["vivarium/ring.offsets"], apart := false, laid := [("vivarium/ring.offsets", laid_vivarium_ring_offsets)], narrowed := true }
def RingRowsUptoSaid : Prop := ringRowsUptoRow.holds Tryz.pinned (OpenSpec.upto ringRowsSpec)

/-- 'vivariumlaw14.RingArounds', WHERE WHAT IT READS IS OF BULK AT MOST 1048576: true; the input reads as it did. -/
def ringAroundsUptoRow : OpenClaim := { program := "ytjndljjpbkfmiaagreatdoor", sum := "78872de6237ed7a02f104720c0c847a583c56c0f12624165802fcb8bc3e866ad", func := "vivarium/vivariumlaw14.RingArounds", spec := "ringArounds", unfollowed := true, recurses := true, named := ["vivarium/ring.offsets"], apart := false, laid := [("vivarium/ring.offsets", laid_vivarium_ring_offsets)], narrowed := true }
def RingAroundsUptoSaid : Prop := ringAroundsUptoRow.holds Tryz.pinned (OpenSpec.upto ringAroundsSpec)

/-- 'vivariumlaw14.RingGlues', WHERE WHAT IT READS IS OF BULK AT MOST 1048576: true; the input reads as it did. -/
def ringGluesUptoRow : OpenClaim := { program := "ytjndljjpbkfmiaagreatdoor", sum := "78872de6237ed7a02f104720c0c847a583c56c0f12624165802fcb8bc3e866ad", func := "vivarium/vivariumlaw14.RingGlues", spec := "ringGlues", unfollowed := true, recurses := true, named := ["vivarium/ring.offsets", "vivarium/hood.hoods"], apart := false, laid := [("vivarium/hood.hoods", laid_vivarium_hood_hoods), ("vivarium/ring.offsets", laid_vivarium_ring_offsets)], narrowed := true }
def RingGluesUptoSaid : Prop := ringGluesUptoRow.holds Tryz.pinned (OpenSpec.upto ringGluesSpec)

end Rows
end Go.Proofs.YtjndljjpbkfmiaaGreatDoor
