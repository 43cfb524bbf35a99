/- HoodPerms: the walk, as its frame asks for it. -/
import Derived.Test.YtgflchbmoinonaaDoorH26
namespace Go.Proofs.YtgflchbmoinonaaDoor
open Go.RowKit
theorem perms_top (h q : Int) (w : World) (h0 : 0 ≤ h) (h1 : h ≤ 255) (_ : -9223372036854775808 ≤ q) (_ : q ≤ 9223372036854775807) (hv : Hid (Hv w)) : Calls Tryd.prog 5 #[.int .u8 h, .int .i64 q] w fun e w' => e = .returned (.bool true) ∧ Below w.heap.size w w' := (perms_walk h q w h0 h1 hv).mono fun _ _ ⟨a, b⟩ => ⟨a, gb_below b⟩
end Go.Proofs.YtgflchbmoinonaaDoor
