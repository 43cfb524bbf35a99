/- FieldClones. -/
import Derived.Test.YtbiilklihieomaaZ26
import Derived.Test.YtbiilklihieomaaZ27
namespace Go.Proofs.Ytbiilklihieomaa
open Go.RowKit
set_option linter.unusedVariables false

theorem clones_walk (W0 : Int) (sp : Option Addr) (q o n c : Nat) (t : Nat → LN) (x y a : Int) (hsp : 0 < n → sp = some ⟨q, o, none⟩) (hn : n ≤ 5864062014634) (h256 : ∀ j i, (t j).kf i < 256) (hk : ∀ j, j < n → (t j).kn ≤ 140737488351232) (hnil : ∀ j, j < n → (t j).kp = none → (t j).kn = 0 ∧ (t j).kc = 0) (ha : 0 ≤ a ∧ a < 256) (w : World) (hL : Ln w q o n t) :
    Calls Try.prog 8 #[.int .i64 W0, .slice sp n c, .int .i64 x, .int .i64 y, .int .u8 a] w fun e w' => e = .returned (.bool true) ∧ Below w.heap.size w w' := by
  obtain ⟨st, rfl⟩ := Int.eq_ofNat_of_zero_le ha.1
  have hst : st < 256 := by omega
  by_cases he : ckE W0 n 256 false = 0
  · obtain ⟨C, rfl, hz⟩ := sz_of he
    obtain rfl := hsp hz.r0
    exact (clones_yes C n hz q o c t x y st hst hk hnil h256 w hL).mono fun e w' ⟨h1, h2⟩ => ⟨h1, gb_below h2⟩
  · exact (clones_no W0 sp n c hn x y st _ rfl he w).mono fun e w' ⟨h1, h2⟩ => ⟨h1, gb_below h2⟩
end Go.Proofs.Ytbiilklihieomaa
