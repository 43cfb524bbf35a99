/- Signs of states, runes of signs, halves: the program's and the document's. -/
import Derived.Test.YtjacoifhjfipaaaRu
import Derived.Test.YtjacoifhjfipaaaCl
namespace Go.Proofs.Ytjacoifhjfipaaa
open Go.RowKit
set_option linter.unusedVariables false
set_option linter.unusedSimpArgs false
set_option maxRecDepth 100000

set_option maxHeartbeats 1000000 in
theorem ofC (r : Int) (h0 : -2147483648 ≤ r) (h1 : r ≤ 2147483647) (w : World) : Calls Try.prog 13 #[.int .i32 r] w fun e w' => e = .returned (.tuple #[.int .u8 (ofN r : Nat), .bool (ofB r)]) ∧ w' = w := by
  by_cases e1 : r = 46
  · subst e1
    go_enter Try.func13, Try.ntmps13
    go_wp2
    go_ret2
    exact ⟨rfl, rfl⟩
  by_cases e2 : r = 32
  · subst e2
    go_enter Try.func13, Try.ntmps13
    go_wp2
    go_ret2
    exact ⟨rfl, rfl⟩
  by_cases e3 : r = 95
  · subst e3
    go_enter Try.func13, Try.ntmps13
    go_wp2
    go_ret2
    exact ⟨rfl, rfl⟩
  by_cases e4 : r = 79
  · subst e4
    go_enter Try.func13, Try.ntmps13
    go_wp2
    go_ret2
    exact ⟨rfl, rfl⟩
  by_cases e5 : r = 111
  · subst e5
    go_enter Try.func13, Try.ntmps13
    go_wp2
    go_ret2
    exact ⟨rfl, rfl⟩
  by_cases e6 : r = 42
  · subst e6
    go_enter Try.func13, Try.ntmps13
    go_wp2
    go_ret2
    exact ⟨rfl, rfl⟩
  by_cases e7 : r = 35
  · subst e7
    go_enter Try.func13, Try.ntmps13
    go_wp2
    go_ret2
    exact ⟨rfl, rfl⟩
  by_cases e8 : 10242 ≤ r ∧ r ≤ 10495
  · obtain ⟨a8, b8⟩ := e8
    have hn : ofN r = (r - 10240).toNat := by unfold ofN; rw [if_neg (by omega), if_pos ⟨a8, b8⟩]
    have hb : ofB r = true := by unfold ofB; rw [decide_eq_true_iff]; omega
    have hz : ((r - 10240).toNat : Int) = r - 10240 := by omega
    rw [hn, hb, hz]
    have c1 : IntKind.i32.wrap (r - 10240) = r - 10240 := by unfold IntKind.wrap; simp [IntKind.bits, IntKind.signed]; omega
    have c2 : IntKind.u8.wrap (r - 10240) = r - 10240 := by unfold IntKind.wrap; simp [IntKind.bits, IntKind.signed]; omega
    have d0 : ¬ r < 10242 := by omega
    have d1 : ¬ 10496 ≤ r := by omega
    have d2 : (10242 : Int) ≤ r := by omega
    have d3 : r ≤ 10495 := by omega
    have n1 : (r == 46) = false := by simp; omega
    have n2 : (r == 32) = false := by simp; omega
    have n3 : (r == 95) = false := by simp; omega
    have n4 : (r == 79) = false := by simp; omega
    have n5 : (r == 111) = false := by simp; omega
    have n6 : (r == 42) = false := by simp; omega
    have n7 : (r == 35) = false := by simp; omega
   
    clear hn hb hz
    go_enter Try.func13, Try.ntmps13
    go_wp2
    go_ret2
    exact ⟨rfl, rfl⟩
  · have hn : ofN r = 0 := by unfold ofN; rw [if_neg (by omega), if_neg e8]
    have hb : ofB r = false := by unfold ofB; rw [decide_eq_false_iff_not]; omega
    rw [hn, hb]
    have n1 : (r == 46) = false := by simp; omega
    have n2 : (r == 32) = false := by simp; omega
    have n3 : (r == 95) = false := by simp; omega
    have n4 : (r == 79) = false := by simp; omega
    have n5 : (r == 111) = false := by simp; omega
    have n6 : (r == 42) = false := by simp; omega
    have n7 : (r == 35) = false := by simp; omega
   
    by_cases d0 : r < 10242
    · have d2 : ¬ (10242 : Int) ≤ r := by omega
      clear hn hb e8
      go_enter Try.func13, Try.ntmps13
      go_wp2
      go_ret2
      exact ⟨rfl, rfl⟩
    · have d1 : 10496 ≤ r := by omega
      have d2 : (10242 : Int) ≤ r := by omega
      have d3 : ¬ r ≤ 10495 := by omega
      clear hn hb e8
      go_enter Try.func13, Try.ntmps13
      go_wp2
      go_ret2
      exact ⟨rfl, rfl⟩
set_option maxHeartbeats 1000000 in
theorem refOfC (r : Int) (h0 : -2147483648 ≤ r) (h1 : r ≤ 2147483647) (w : World) : Calls Try.prog 14 #[.int .i32 r] w fun e w' => e = .returned (.tuple #[.int .u8 (ofN r : Nat), .bool (ofB r)]) ∧ w' = w := by
  by_cases e1 : r = 46
  · subst e1
    go_enter Try.func14, Try.ntmps14
    go_wp2
    go_ret2
    exact ⟨rfl, rfl⟩
  by_cases e2 : r = 32
  · subst e2
    go_enter Try.func14, Try.ntmps14
    go_wp2
    go_ret2
    exact ⟨rfl, rfl⟩
  by_cases e3 : r = 95
  · subst e3
    go_enter Try.func14, Try.ntmps14
    go_wp2
    go_ret2
    exact ⟨rfl, rfl⟩
  by_cases e4 : r = 79
  · subst e4
    go_enter Try.func14, Try.ntmps14
    go_wp2
    go_ret2
    exact ⟨rfl, rfl⟩
  by_cases e5 : r = 111
  · subst e5
    go_enter Try.func14, Try.ntmps14
    go_wp2
    go_ret2
    exact ⟨rfl, rfl⟩
  by_cases e6 : r = 42
  · subst e6
    go_enter Try.func14, Try.ntmps14
    go_wp2
    go_ret2
    exact ⟨rfl, rfl⟩
  by_cases e7 : r = 35
  · subst e7
    go_enter Try.func14, Try.ntmps14
    go_wp2
    go_ret2
    exact ⟨rfl, rfl⟩
  by_cases e8 : 10242 ≤ r ∧ r ≤ 10495
  · obtain ⟨a8, b8⟩ := e8
    have hn : ofN r = (r - 10240).toNat := by unfold ofN; rw [if_neg (by omega), if_pos ⟨a8, b8⟩]
    have hb : ofB r = true := by unfold ofB; rw [decide_eq_true_iff]; omega
    have hz : ((r - 10240).toNat : Int) = r - 10240 := by omega
    rw [hn, hb, hz]
    have c1 : IntKind.i32.wrap (r - 10240) = r - 10240 := by unfold IntKind.wrap; simp [IntKind.bits, IntKind.signed]; omega
    have c2 : IntKind.u8.wrap (r - 10240) = r - 10240 := by unfold IntKind.wrap; simp [IntKind.bits, IntKind.signed]; omega
    have d0 : ¬ r < 10242 := by omega
    have d1 : ¬ 10496 ≤ r := by omega
    have d2 : (10242 : Int) ≤ r := by omega
    have d3 : r ≤ 10495 := by omega
    have n1 : (r == 46) = false := by simp; omega
    have n2 : (r == 32) = false := by simp; omega
    have n3 : (r == 95) = false := by simp; omega
    have n4 : (r == 79) = false := by simp; omega
    have n5 : (r == 111) = false := by simp; omega
    have n6 : (r == 42) = false := by simp; omega
    have n7 : (r == 35) = false := by simp; omega
   
    clear hn hb hz
    go_enter Try.func14, Try.ntmps14
    go_wp2
    go_ret2
    exact ⟨rfl, rfl⟩
  · have hn : ofN r = 0 := by unfold ofN; rw [if_neg (by omega), if_neg e8]
    have hb : ofB r = false := by unfold ofB; rw [decide_eq_false_iff_not]; omega
    rw [hn, hb]
    have n1 : (r == 46) = false := by simp; omega
    have n2 : (r == 32) = false := by simp; omega
    have n3 : (r == 95) = false := by simp; omega
    have n4 : (r == 79) = false := by simp; omega
    have n5 : (r == 111) = false := by simp; omega
    have n6 : (r == 42) = false := by simp; omega
    have n7 : (r == 35) = false := by simp; omega
   
    by_cases d0 : r < 10242
    · have d2 : ¬ (10242 : Int) ≤ r := by omega
      clear hn hb e8
      go_enter Try.func14, Try.ntmps14
      go_wp2
      go_ret2
      exact ⟨rfl, rfl⟩
    · have d1 : 10496 ≤ r := by omega
      have d2 : (10242 : Int) ≤ r := by omega
      have d3 : ¬ r ≤ 10495 := by omega
      clear hn hb e8
      go_enter Try.func14, Try.ntmps14
      go_wp2
      go_ret2
      exact ⟨rfl, rfl⟩
set_option maxHeartbeats 1000000 in
theorem signC (n : Nat) (h : n < 256) (w : World) : Calls Try.prog 15 #[.int .u8 (n : Nat)] w fun e w' => e = .returned (.int .i32 (sgn n)) ∧ w' = w := by
  by_cases e0 : n = 0
  · subst e0
    go_enter Try.func15, Try.ntmps15
    go_wp2
    go_ret
    exact ⟨rfl, rfl⟩
  by_cases e1 : n = 1
  · subst e1
    go_enter Try.func15, Try.ntmps15
    go_wp2
    go_ret
    exact ⟨rfl, rfl⟩
  have hs : sgn n = 10240 + (n : Int) := by unfold sgn; rw [if_neg e0, if_neg e1]
  have n0 : ((n : Int) == 0) = false := by simp; omega
  have n1 : ((n : Int) == 1) = false := by simp; omega
  have c1 : IntKind.i32.wrap (n : Int) = (n : Int) := by unfold IntKind.wrap; simp [IntKind.bits, IntKind.signed]; omega
  have c2 : IntKind.i32.wrap (10240 + (n : Int)) = 10240 + (n : Int) := by unfold IntKind.wrap; simp [IntKind.bits, IntKind.signed]; omega
  rw [hs]
  clear hs
  go_enter Try.func15, Try.ntmps15
  go_wp2
  go_ret
  exact ⟨rfl, rfl⟩
set_option maxHeartbeats 1000000 in
theorem refSignC (n : Nat) (h : n < 256) (w : World) : Calls Try.prog 16 #[.int .u8 (n : Nat)] w fun e w' => e = .returned (.int .i32 (sgn n)) ∧ w' = w := by
  by_cases e0 : n = 0
  · subst e0
    go_enter Try.func16, Try.ntmps16
    go_wp2
    go_ret
    exact ⟨rfl, rfl⟩
  by_cases e1 : n = 1
  · subst e1
    go_enter Try.func16, Try.ntmps16
    go_wp2
    go_ret
    exact ⟨rfl, rfl⟩
  have hs : sgn n = 10240 + (n : Int) := by unfold sgn; rw [if_neg e0, if_neg e1]
  have n0 : ((n : Int) == 0) = false := by simp; omega
  have n1 : ((n : Int) == 1) = false := by simp; omega
  have c1 : IntKind.i32.wrap (n : Int) = (n : Int) := by unfold IntKind.wrap; simp [IntKind.bits, IntKind.signed]; omega
  have c2 : IntKind.i32.wrap (10240 + (n : Int)) = 10240 + (n : Int) := by unfold IntKind.wrap; simp [IntKind.bits, IntKind.signed]; omega
  rw [hs]
  clear hs
  go_enter Try.func16, Try.ntmps16
  go_wp2
  go_ret
  exact ⟨rfl, rfl⟩
/-- The rune of two places. -/
def hfR (a b : Bool) : Int := if a then (if b then 9608 else 9600) else (if b then 9604 else 32)
theorem rn_hf (a b : Bool) : Rn (hfR a b) := by cases a <;> cases b <;> (unfold Rn hfR; decide)
set_option maxHeartbeats 1000000 in
theorem halfC (a b : Bool) (w : World) : Calls Try.prog 34 #[.bool a, .bool b] w fun e w' => e = .returned (.int .i32 (hfR a b)) ∧ w' = w := by
  cases a <;> cases b <;>
  · go_enter Try.func34, Try.ntmps34
    go_wp2
    go_ret
    exact ⟨rfl, rfl⟩
end Go.Proofs.Ytjacoifhjfipaaa
