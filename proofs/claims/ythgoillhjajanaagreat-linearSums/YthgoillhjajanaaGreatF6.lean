/- What the document's smallest functions of layer 6 answer. -/
import Derived.Test.YthgoillhjajanaaGreatF1
import Derived.Test.YthgoillhjajanaaGreatT7
namespace Go.Proofs.YthgoillhjajanaaGreat.Fd
open Go.RowKit
set_option linter.unusedVariables false
set_option linter.unusedSimpArgs false
set_option maxRecDepth 100000

theorem mod_twice {a n : Int} (hn : 1 ≤ n) : (a.tmod n + n).tmod n = a % n := by
  have h1 := Int.mul_tdiv_add_tmod a n
  have h2 := Int.lt_tmod_of_pos a (show (0:Int) < n by omega)
  rw [Int.tmod_eq_emod_of_nonneg (by omega), Int.add_emod_right]
  have h3 : a = a.tmod n + n * a.tdiv n := by omega
  conv => rhs; rw [h3]
  rw [Int.add_mul_emod_self_left]
theorem mod_twice' {a n : Int} (hn : 1 ≤ n) : (a.tmod n + n) % n = a % n := by
  have h2 := Int.lt_tmod_of_pos a (show (0:Int) < n by omega)
  have := mod_twice (a := a) hn
  rw [Int.tmod_eq_emod_of_nonneg (by omega)] at this
  exact this
theorem over_is {a n : Int} (hn : 1 ≤ n) : (a - a % n).tdiv n = a / n := by
  have h1 := Int.mul_ediv_add_emod a n
  rw [show a - a % n = n * (a / n) by omega, Int.mul_tdiv_cancel_left _ (by omega)]

/-- Is it a kind that is glued? -/
def glB (k : Int) : Bool := decide (k = 2 ∨ k = 3 ∨ k = 4)

end Go.Proofs.YthgoillhjajanaaGreat.Fd
