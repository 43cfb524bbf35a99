/- What Canon, Across, Endless, Home and Has of package topo answer, and the document's. -/
import Derived.Test.YthgoillhjajanaaGreatT3
import Derived.Deep.RegionWith
namespace Go.Proofs.YthgoillhjajanaaGreat.To
open Go.RowKit
set_option linter.unusedVariables false
set_option linter.unusedSimpArgs false
set_option maxRecDepth 100000

theorem ret_tb {a b : Int} {c d : Array Value} (h : c = d) (hp : a = b) : Ending.returned (.tuple #[.agg c, .int .i64 a]) = .returned (.tuple #[.agg d, .int .i64 b]) := by rw [h, hp]
theorem parts_up {a n : Int} (hn : 1 ≤ n) (h : 0 ≤ a.tmod n) : a.tmod n = a % n := by
  have h1 := Int.mul_tdiv_add_tmod a n
  have h2 := Int.tmod_lt_of_pos a (show (0:Int) < n by omega)
  exact ((Int.ediv_emod_unique (a := a) (b := n) (r := a.tmod n) (q := a.tdiv n) (by omega)).2 ⟨by omega, h, h2⟩).2.symm
theorem parts_down {a n : Int} (hn : 1 ≤ n) (h : a.tmod n < 0) : a.tmod n + n = a % n := by
  have h1 := Int.mul_tdiv_add_tmod a n
  have h2 := Int.lt_tmod_of_pos a (show (0:Int) < n by omega)
  exact ((Int.ediv_emod_unique (a := a) (b := n) (r := a.tmod n + n) (q := a.tdiv n - 1) (by omega)).2 ⟨by rw [Int.mul_sub]; omega, by omega, by omega⟩).2.symm
theorem ret_ib {k : IntKind} {a b : Int} {c d : Bool} (h : a = b) (hp : c = d) : Ending.returned (.tuple #[.int k a, .bool c]) = .returned (.tuple #[.int k b, .bool d]) := by rw [h, hp]
theorem ret_bi {k : IntKind} {a b : Int} {c d : Bool} (h : c = d) (hp : a = b) : Ending.returned (.tuple #[.bool c, .int k a]) = .returned (.tuple #[.bool d, .int k b]) := by rw [h, hp]

theorem modP (a n : Int) (w : World) (h3 : 1 ≤ n) (h4 : n ≤ 65536) :
    Calls Tryz.prog 65 #[.int .i64 a, .int .i64 n] w fun e w' => e = .returned (.tuple #[.int .i64 (a % n), .bool true]) ∧ w' = w := by
  by_cases hm : a.tmod n < 0
  · have hb := Int.lt_tmod_of_pos a (show (0:Int) < n by omega)
    go_enter Tryz.func65, Tryz.ntmps65
    go_wp2
    go_ret2
    exact ⟨ret_ib (parts_down h3 hm) rfl, rfl⟩
  · have hm1 : 0 ≤ a.tmod n := by omega
    clear hm
    go_enter Tryz.func65, Tryz.ntmps65
    go_wp2
    go_ret2
    exact ⟨ret_ib (parts_up h3 hm1) rfl, rfl⟩

def canZ (x y t z : Int) : Int := if t = 0 then z else z % (Tp.sd x y t)
theorem tS_sd {x y t : Int} (h0 : ¬ t = 0) (h2 : t ≤ 2) (ht : 0 ≤ t) : tS x y t = Tp.sd x y t := by
  unfold Tp.sd tS
  by_cases t1 : t = 1
  · rw [if_pos t1, if_neg (show ¬ t = 2 by omega)]
  · rw [if_neg t1, if_pos (show t = 2 by omega)]
theorem sd_bd {k x y t z : Int} (ok : Tp.Ok k x y t z) (h0 : ¬ t = 0) : 1 ≤ Tp.sd x y t ∧ Tp.sd x y t ≤ 65536 := by
  have h1 := ok.near h0
  have h2 := ok.wide
  have h3 := ok.high
  have : Tp.sd x y t ≤ 65536 := by unfold Tp.sd; split <;> omega
  omega
end Go.Proofs.YthgoillhjajanaaGreat.To
