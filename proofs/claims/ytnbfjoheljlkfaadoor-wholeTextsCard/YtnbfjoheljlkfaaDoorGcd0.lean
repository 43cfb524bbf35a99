/- What Gcd of package whole, and the document's own Gcd, answer at every two numbers of their width. -/
import Derived.Test.YtnbfjoheljlkfaaDoorSums0
import Derived.Test.YtnbfjoheljlkfaaDoorNums2
import Derived.Deep.QuietTactic
import Derived.BigQuiet
namespace Go.Proofs.YtnbfjoheljlkfaaDoor
open Go.RowKit
set_option linter.unusedVariables false

set_option maxHeartbeats 400000 in
theorem notAboveI (n : Int) (w : World) (h1 : -9223372036854775808 ≤ n) (h2 : n ≤ 9223372036854775807) :
    Calls Tryd.prog 25 #[.int .i64 n] w fun e w' => e = .returned (.int .i64 (Nm.negZ n)) ∧ w' = w := by
  by_cases c : 0 < n
  · have c1 : -9223372036854775808 ≤ -n := by omega
    go_enter Tryd.func25, Tryd.ntmps25
    go_wp2
    go_ret
    exact ⟨ret1 (Nm.negZ_pos c), rfl⟩
  · have H1 : Hid (n = Nm.negZ n) := Nm.negZ_not c
    go_enter Tryd.func25, Tryd.ntmps25
    go_wp2
    go_ret
    exact ⟨ret1 H1.out, rfl⟩
theorem negZ_bdI (n : Int) (h1 : -9223372036854775808 ≤ n) (h2 : n ≤ 9223372036854775807) : -9223372036854775808 ≤ Nm.negZ n ∧ Nm.negZ n ≤ 0 := by unfold Nm.negZ Nm.absZ; omega
set_option maxHeartbeats 1000000 in
theorem gcdI (a b : Int) (w : World) (h1 : -9223372036854775808 ≤ a) (h2 : a ≤ 9223372036854775807) (h3 : -9223372036854775808 ≤ b) (h4 : b ≤ 9223372036854775807) :
    Calls Tryd.prog 17 #[.int .i64 a, .int .i64 b] w fun e w' => e = .returned (.tuple #[.int .i64 (Nm.fitZ (-9223372036854775808) 9223372036854775807 (Nm.gcdZ a b)), .bool (Nm.fitB (-9223372036854775808) 9223372036854775807 (Nm.gcdZ a b))]) ∧ ∃ nq, w' = w.drewN nq := by
  have na := negZ_bdI a h1 h2
  have nb := negZ_bdI b h3 h4
  go_enter Tryd.func17, Tryd.ntmps17
  go_wp2_with (go_at_call 25; refine (notAboveI _ _ (by omega) (by omega)).mono ?_; rintro e w' ⟨rfl, rfl⟩)
  go_loopw [0, 1] (fun x y wr => ∃ p q : Int, x = .int .i64 p ∧ y = .int .i64 q ∧ -9223372036854775808 ≤ p ∧ p ≤ 0 ∧ -9223372036854775808 ≤ q ∧ q ≤ 0 ∧ Hid (Nm.gcdZ p q = Nm.gcdZ a b) ∧ ∃ nq, wr = w'.drewN nq) (fun _ y _ => (intOf y).natAbs)
  case atStart => exact ⟨_, _, rfl, rfl, na.1, na.2, nb.1, nb.2, Nm.gcdZ_negZ a b, 0, rfl⟩
  case round =>
    obtain ⟨p, q, rfl, rfl, p1, p2, q1, q2, hg, n0, rfl⟩ := hrel
    by_cases hq : q = 0
    · subst hq
      have hz : Hid (Nm.gcdZ a b = -p) := hg.out.symm.trans (Nm.gcdZ_zero p2)
      by_cases hp : p = -9223372036854775808
      · have HN : Hid (¬ (-9223372036854775808 ≤ Nm.gcdZ a b ∧ Nm.gcdZ a b ≤ 9223372036854775807)) := by unfold Hid; rw [hz.out]; omega
        have hw : wrap64 (-p) = p := by rw [Nm.e64]; omega
        have hn : p < 0 := by omega
        clear hp
        go_wp2
        go_ret2
        exact ⟨ret2 (Nm.fitZ_no HN.out).symm (Nm.fitB_no HN.out).symm, _, rfl⟩
      · have p3 : -p ≤ 9223372036854775807 := by omega
        have p4 : 0 ≤ -p := by omega
        have HR : Hid (-9223372036854775808 ≤ Nm.gcdZ a b ∧ Nm.gcdZ a b ≤ 9223372036854775807) := by unfold Hid; rw [hz.out]; omega
        clear hp
        go_wp2
        go_ret2
        exact ⟨ret2 (hz.out.symm.trans (Nm.fitZ_yes HR.out.1 HR.out.2).symm) (Nm.fitB_yes HR.out.1 HR.out.2).symm, _, rfl⟩
    · have hb : (q != 0) = true := by simpa using hq
      have hq0 : (q == 0) = false := by simpa using hq
      obtain ⟨t1, t2⟩ := Nm.tmod_neg (x := p) (y := q) p2 hq
      have t3 : -9223372036854775808 ≤ p.tmod q := by omega
      have HT : Hid ((p.tmod q).natAbs < q.natAbs) := t2
      have HG : Hid (Nm.gcdZ q (p.tmod q) = Nm.gcdZ a b) := Nm.gcdZ_step.trans hg.out
      clear t2
      go_wp2
      go_quiet (fail)
      go_wp2
      go_roundw
      case rel => exact ⟨_, _, rfl, rfl, q1, q2, t3, t1, HG, _, World.drewN_drewN _ _ _⟩
      case measure => simpa [intOf] using HT.out

end Go.Proofs.YtnbfjoheljlkfaaDoor