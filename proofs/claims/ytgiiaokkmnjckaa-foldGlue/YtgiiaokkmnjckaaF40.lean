/- The walk of FoldGlue, as its frame asks for it. -/
import Derived.Test.YtgiiaokkmnjckaaF37
import Derived.Test.YtgiiaokkmnjckaaF35
import Derived.Test.YtgiiaokkmnjckaaF17
namespace Go.Proofs.Ytgiiaokkmnjckaa
open Go.RowKit
open Fl
set_option linter.unusedVariables false
set_option linter.unusedSimpArgs false
set_option maxRecDepth 100000

theorem glue_top (k x y t z k2 x2 y2 t2 z2 : Int) (_ : 0 ≤ k ∧ k ≤ 255) (_ : -9223372036854775808 ≤ x ∧ x ≤ 9223372036854775807) (_ : -9223372036854775808 ≤ y ∧ y ≤ 9223372036854775807) (ht : 0 ≤ t ∧ t ≤ 255) (_ : -9223372036854775808 ≤ z ∧ z ≤ 9223372036854775807) (_ : 0 ≤ k2 ∧ k2 ≤ 255) (_ : -9223372036854775808 ≤ x2 ∧ x2 ≤ 9223372036854775807) (_ : -9223372036854775808 ≤ y2 ∧ y2 ≤ 9223372036854775807) (ht2 : 0 ≤ t2 ∧ t2 ≤ 255) (_ : -9223372036854775808 ≤ z2 ∧ z2 ≤ 9223372036854775807) (w : World) : Calls Try.prog 5 #[.agg #[.int .u8 k, .int .i64 x, .int .i64 y, .int .u8 t, .int .i64 z], .agg #[.int .u8 k2, .int .i64 x2, .int .i64 y2, .int .u8 t2, .int .i64 z2]] w fun e w' => e = .returned (.bool true) ∧ Below w.heap.size w w' := by
  obtain ⟨L1, E1, hL1, h1, r1, _⟩ := glueAll k x y t z ht.1
  obtain ⟨L2, E2, hL2, h2, r2, _⟩ := glueAll k2 x2 y2 t2 z2 ht2.1
  exact (glue_core k x y t z k2 x2 y2 t2 z2 awakeC L1 L2 E1 E2 hL1 hL2 h1 r1 h2 r2 w).mono fun e w' ⟨a, b⟩ => ⟨a, gb_below b⟩
end Go.Proofs.Ytgiiaokkmnjckaa
