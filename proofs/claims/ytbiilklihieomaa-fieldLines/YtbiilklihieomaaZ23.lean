/- FieldLines. -/
import Derived.Test.YtbiilklihieomaaZ20
import Derived.Test.YtbiilklihieomaaZ22
namespace Go.Proofs.Ytbiilklihieomaa
open Go.RowKit
set_option linter.unusedVariables false

theorem lines_walk (W0 : Int) (sp : Option Addr) (q o n c : Nat) (t : Nat → LN) (hsp : 0 < n → sp = some ⟨q, o, none⟩) (hn : n ≤ 5864062014634) (h256 : ∀ j i, (t j).kf i < 256) (hk : ∀ j, j < n → (t j).kn ≤ 140737488351232) (hnil : ∀ j, j < n → (t j).kp = none → (t j).kn = 0 ∧ (t j).kc = 0) (w : World) (hL : Ln w q o n t) :
    Calls Try.prog 7 #[.int .i64 W0, .slice sp n c] w fun e w' => e = .returned (.bool true) ∧ Below w.heap.size w w' := by
  by_cases he : ckE W0 n 256 false = 0
  · obtain ⟨C, rfl, hz⟩ := sz_of he
    obtain rfl := hsp hz.r0
    exact (lines_yes C n hz q o c t hk hnil h256 (fun b s q g w h => boxedC b s q C n 256 g hz w h) w hL).mono fun e w' ⟨h1, h2⟩ => ⟨h1, gb_below h2⟩
  · exact (lines_no W0 q o n c sp t hsp hk hnil h256 _ rfl he w).mono fun e w' ⟨h1, h2⟩ => ⟨h1, gb_below h2⟩
end Go.Proofs.Ytbiilklihieomaa
