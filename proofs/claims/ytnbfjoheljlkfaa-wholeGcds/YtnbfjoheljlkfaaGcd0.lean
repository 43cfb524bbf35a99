/- What Gcd of package whole, and the document's own Gcd, answer at every two numbers of their width. -/
import Derived.Test.YtnbfjoheljlkfaaSums1
import Derived.Test.YtnbfjoheljlkfaaNums2
import Derived.Deep.QuietTactic
import Derived.BigQuiet
namespace Go.Proofs.Ytnbfjoheljlkfaa
open Go.RowKit
set_option linter.unusedVariables false

set_option maxHeartbeats 400000 in
theorem notAbove8 (n : Int) (w : World) (h1 : -128 ≤ n) (h2 : n ≤ 127) :
    Calls Try.prog 64 #[.int .i8 n] w fun e w' => e = .returned (.int .i8 (Nm.negZ n)) ∧ w' = w := by
  by_cases c : 0 < n
  · have c1 : -128 ≤ -n := by omega
    go_enter Try.func64, Try.ntmps64
    go_wp2
    go_ret
    exact ⟨ret1 (Nm.negZ_pos c), rfl⟩
  · have H1 : Hid (n = Nm.negZ n) := Nm.negZ_not c
    go_enter Try.func64, Try.ntmps64
    go_wp2
    go_ret
    exact ⟨ret1 H1.out, rfl⟩
theorem negZ_bd8 (n : Int) (h1 : -128 ≤ n) (h2 : n ≤ 127) : -128 ≤ Nm.negZ n ∧ Nm.negZ n ≤ 0 := by unfold Nm.negZ Nm.absZ; omega
set_option maxHeartbeats 1000000 in
theorem gcd8 (a b : Int) (w : World) (h1 : -128 ≤ a) (h2 : a ≤ 127) (h3 : -128 ≤ b) (h4 : b ≤ 127) :
    Calls Try.prog 26 #[.int .i8 a, .int .i8 b] w fun e w' => e = .returned (.tuple #[.int .i8 (Nm.fitZ (-128) 127 (Nm.gcdZ a b)), .bool (Nm.fitB (-128) 127 (Nm.gcdZ a b))]) ∧ ∃ nq, w' = w.drewN nq := by
  have na := negZ_bd8 a h1 h2
  have nb := negZ_bd8 b h3 h4
  go_enter Try.func26, Try.ntmps26
  go_wp2_with (go_at_call 64; refine (notAbove8 _ _ (by omega) (by omega)).mono ?_; rintro e w' ⟨rfl, rfl⟩)
  go_loopw [0, 1] (fun x y wr => ∃ p q : Int, x = .int .i8 p ∧ y = .int .i8 q ∧ -128 ≤ p ∧ p ≤ 0 ∧ -128 ≤ q ∧ q ≤ 0 ∧ Hid (Nm.gcdZ p q = Nm.gcdZ a b) ∧ ∃ nq, wr = w'.drewN nq) (fun _ y _ => (intOf y).natAbs)
  case atStart => exact ⟨_, _, rfl, rfl, na.1, na.2, nb.1, nb.2, Nm.gcdZ_negZ a b, 0, rfl⟩
  case round =>
    obtain ⟨p, q, rfl, rfl, p1, p2, q1, q2, hg, n0, rfl⟩ := hrel
    by_cases hq : q = 0
    · subst hq
      have hz : Hid (Nm.gcdZ a b = -p) := hg.out.symm.trans (Nm.gcdZ_zero p2)
      by_cases hp : p = -128
      · have HN : Hid (¬ (-128 ≤ Nm.gcdZ a b ∧ Nm.gcdZ a b ≤ 127)) := by unfold Hid; rw [hz.out]; omega
        have hw : IntKind.i8.wrap (-p) = p := by rw [Nm.e8]; omega
        have hn : p < 0 := by omega
        clear hp
        go_wp2
        go_ret2
        exact ⟨ret2 (Nm.fitZ_no HN.out).symm (Nm.fitB_no HN.out).symm, _, rfl⟩
      · have p3 : -p ≤ 127 := by omega
        have p4 : 0 ≤ -p := by omega
        have HR : Hid (-128 ≤ Nm.gcdZ a b ∧ Nm.gcdZ a b ≤ 127) := by unfold Hid; rw [hz.out]; omega
        clear hp
        go_wp2
        go_ret2
        exact ⟨ret2 (hz.out.symm.trans (Nm.fitZ_yes HR.out.1 HR.out.2).symm) (Nm.fitB_yes HR.out.1 HR.out.2).symm, _, rfl⟩
    · have hb : (q != 0) = true := by simpa using hq
      have hq0 : (q == 0) = false := by simpa using hq
      obtain ⟨t1, t2⟩ := Nm.tmod_neg (x := p) (y := q) p2 hq
      have t3 : -128 ≤ p.tmod q := by omega
      have HT : Hid ((p.tmod q).natAbs < q.natAbs) := t2
      have HG : Hid (Nm.gcdZ q (p.tmod q) = Nm.gcdZ a b) := Nm.gcdZ_step.trans hg.out
      clear t2
      go_wp2
      go_quiet (fail)
      go_wp2
      go_roundw
      case rel => exact ⟨_, _, rfl, rfl, q1, q2, t3, t1, HG, _, World.drewN_drewN _ _ _⟩
      case measure => simpa [intOf] using HT.out

set_option maxHeartbeats 400000 in
theorem notAbove16 (n : Int) (w : World) (h1 : -32768 ≤ n) (h2 : n ≤ 32767) :
    Calls Try.prog 65 #[.int .i16 n] w fun e w' => e = .returned (.int .i16 (Nm.negZ n)) ∧ w' = w := by
  by_cases c : 0 < n
  · have c1 : -32768 ≤ -n := by omega
    go_enter Try.func65, Try.ntmps65
    go_wp2
    go_ret
    exact ⟨ret1 (Nm.negZ_pos c), rfl⟩
  · have H1 : Hid (n = Nm.negZ n) := Nm.negZ_not c
    go_enter Try.func65, Try.ntmps65
    go_wp2
    go_ret
    exact ⟨ret1 H1.out, rfl⟩
theorem negZ_bd16 (n : Int) (h1 : -32768 ≤ n) (h2 : n ≤ 32767) : -32768 ≤ Nm.negZ n ∧ Nm.negZ n ≤ 0 := by unfold Nm.negZ Nm.absZ; omega
set_option maxHeartbeats 1000000 in
theorem gcd16 (a b : Int) (w : World) (h1 : -32768 ≤ a) (h2 : a ≤ 32767) (h3 : -32768 ≤ b) (h4 : b ≤ 32767) :
    Calls Try.prog 27 #[.int .i16 a, .int .i16 b] w fun e w' => e = .returned (.tuple #[.int .i16 (Nm.fitZ (-32768) 32767 (Nm.gcdZ a b)), .bool (Nm.fitB (-32768) 32767 (Nm.gcdZ a b))]) ∧ ∃ nq, w' = w.drewN nq := by
  have na := negZ_bd16 a h1 h2
  have nb := negZ_bd16 b h3 h4
  go_enter Try.func27, Try.ntmps27
  go_wp2_with (go_at_call 65; refine (notAbove16 _ _ (by omega) (by omega)).mono ?_; rintro e w' ⟨rfl, rfl⟩)
  go_loopw [0, 1] (fun x y wr => ∃ p q : Int, x = .int .i16 p ∧ y = .int .i16 q ∧ -32768 ≤ p ∧ p ≤ 0 ∧ -32768 ≤ q ∧ q ≤ 0 ∧ Hid (Nm.gcdZ p q = Nm.gcdZ a b) ∧ ∃ nq, wr = w'.drewN nq) (fun _ y _ => (intOf y).natAbs)
  case atStart => exact ⟨_, _, rfl, rfl, na.1, na.2, nb.1, nb.2, Nm.gcdZ_negZ a b, 0, rfl⟩
  case round =>
    obtain ⟨p, q, rfl, rfl, p1, p2, q1, q2, hg, n0, rfl⟩ := hrel
    by_cases hq : q = 0
    · subst hq
      have hz : Hid (Nm.gcdZ a b = -p) := hg.out.symm.trans (Nm.gcdZ_zero p2)
      by_cases hp : p = -32768
      · have HN : Hid (¬ (-32768 ≤ Nm.gcdZ a b ∧ Nm.gcdZ a b ≤ 32767)) := by unfold Hid; rw [hz.out]; omega
        have hw : IntKind.i16.wrap (-p) = p := by rw [Nm.e16]; omega
        have hn : p < 0 := by omega
        clear hp
        go_wp2
        go_ret2
        exact ⟨ret2 (Nm.fitZ_no HN.out).symm (Nm.fitB_no HN.out).symm, _, rfl⟩
      · have p3 : -p ≤ 32767 := by omega
        have p4 : 0 ≤ -p := by omega
        have HR : Hid (-32768 ≤ Nm.gcdZ a b ∧ Nm.gcdZ a b ≤ 32767) := by unfold Hid; rw [hz.out]; omega
        clear hp
        go_wp2
        go_ret2
        exact ⟨ret2 (hz.out.symm.trans (Nm.fitZ_yes HR.out.1 HR.out.2).symm) (Nm.fitB_yes HR.out.1 HR.out.2).symm, _, rfl⟩
    · have hb : (q != 0) = true := by simpa using hq
      have hq0 : (q == 0) = false := by simpa using hq
      obtain ⟨t1, t2⟩ := Nm.tmod_neg (x := p) (y := q) p2 hq
      have t3 : -32768 ≤ p.tmod q := by omega
      have HT : Hid ((p.tmod q).natAbs < q.natAbs) := t2
      have HG : Hid (Nm.gcdZ q (p.tmod q) = Nm.gcdZ a b) := Nm.gcdZ_step.trans hg.out
      clear t2
      go_wp2
      go_quiet (fail)
      go_wp2
      go_roundw
      case rel => exact ⟨_, _, rfl, rfl, q1, q2, t3, t1, HG, _, World.drewN_drewN _ _ _⟩
      case measure => simpa [intOf] using HT.out

set_option maxHeartbeats 400000 in
theorem notAbove32 (n : Int) (w : World) (h1 : -2147483648 ≤ n) (h2 : n ≤ 2147483647) :
    Calls Try.prog 66 #[.int .i32 n] w fun e w' => e = .returned (.int .i32 (Nm.negZ n)) ∧ w' = w := by
  by_cases c : 0 < n
  · have c1 : -2147483648 ≤ -n := by omega
    go_enter Try.func66, Try.ntmps66
    go_wp2
    go_ret
    exact ⟨ret1 (Nm.negZ_pos c), rfl⟩
  · have H1 : Hid (n = Nm.negZ n) := Nm.negZ_not c
    go_enter Try.func66, Try.ntmps66
    go_wp2
    go_ret
    exact ⟨ret1 H1.out, rfl⟩
theorem negZ_bd32 (n : Int) (h1 : -2147483648 ≤ n) (h2 : n ≤ 2147483647) : -2147483648 ≤ Nm.negZ n ∧ Nm.negZ n ≤ 0 := by unfold Nm.negZ Nm.absZ; omega
set_option maxHeartbeats 1000000 in
theorem gcd32 (a b : Int) (w : World) (h1 : -2147483648 ≤ a) (h2 : a ≤ 2147483647) (h3 : -2147483648 ≤ b) (h4 : b ≤ 2147483647) :
    Calls Try.prog 28 #[.int .i32 a, .int .i32 b] w fun e w' => e = .returned (.tuple #[.int .i32 (Nm.fitZ (-2147483648) 2147483647 (Nm.gcdZ a b)), .bool (Nm.fitB (-2147483648) 2147483647 (Nm.gcdZ a b))]) ∧ ∃ nq, w' = w.drewN nq := by
  have na := negZ_bd32 a h1 h2
  have nb := negZ_bd32 b h3 h4
  go_enter Try.func28, Try.ntmps28
  go_wp2_with (go_at_call 66; refine (notAbove32 _ _ (by omega) (by omega)).mono ?_; rintro e w' ⟨rfl, rfl⟩)
  go_loopw [0, 1] (fun x y wr => ∃ p q : Int, x = .int .i32 p ∧ y = .int .i32 q ∧ -2147483648 ≤ p ∧ p ≤ 0 ∧ -2147483648 ≤ q ∧ q ≤ 0 ∧ Hid (Nm.gcdZ p q = Nm.gcdZ a b) ∧ ∃ nq, wr = w'.drewN nq) (fun _ y _ => (intOf y).natAbs)
  case atStart => exact ⟨_, _, rfl, rfl, na.1, na.2, nb.1, nb.2, Nm.gcdZ_negZ a b, 0, rfl⟩
  case round =>
    obtain ⟨p, q, rfl, rfl, p1, p2, q1, q2, hg, n0, rfl⟩ := hrel
    by_cases hq : q = 0
    · subst hq
      have hz : Hid (Nm.gcdZ a b = -p) := hg.out.symm.trans (Nm.gcdZ_zero p2)
      by_cases hp : p = -2147483648
      · have HN : Hid (¬ (-2147483648 ≤ Nm.gcdZ a b ∧ Nm.gcdZ a b ≤ 2147483647)) := by unfold Hid; rw [hz.out]; omega
        have hw : wrap32 (-p) = p := by rw [Nm.e32]; omega
        have hn : p < 0 := by omega
        clear hp
        go_wp2
        go_ret2
        exact ⟨ret2 (Nm.fitZ_no HN.out).symm (Nm.fitB_no HN.out).symm, _, rfl⟩
      · have p3 : -p ≤ 2147483647 := by omega
        have p4 : 0 ≤ -p := by omega
        have HR : Hid (-2147483648 ≤ Nm.gcdZ a b ∧ Nm.gcdZ a b ≤ 2147483647) := by unfold Hid; rw [hz.out]; omega
        clear hp
        go_wp2
        go_ret2
        exact ⟨ret2 (hz.out.symm.trans (Nm.fitZ_yes HR.out.1 HR.out.2).symm) (Nm.fitB_yes HR.out.1 HR.out.2).symm, _, rfl⟩
    · have hb : (q != 0) = true := by simpa using hq
      have hq0 : (q == 0) = false := by simpa using hq
      obtain ⟨t1, t2⟩ := Nm.tmod_neg (x := p) (y := q) p2 hq
      have t3 : -2147483648 ≤ p.tmod q := by omega
      have HT : Hid ((p.tmod q).natAbs < q.natAbs) := t2
      have HG : Hid (Nm.gcdZ q (p.tmod q) = Nm.gcdZ a b) := Nm.gcdZ_step.trans hg.out
      clear t2
      go_wp2
      go_quiet (fail)
      go_wp2
      go_roundw
      case rel => exact ⟨_, _, rfl, rfl, q1, q2, t3, t1, HG, _, World.drewN_drewN _ _ _⟩
      case measure => simpa [intOf] using HT.out

set_option maxHeartbeats 400000 in
theorem notAbove64 (n : Int) (w : World) (h1 : -9223372036854775808 ≤ n) (h2 : n ≤ 9223372036854775807) :
    Calls Try.prog 67 #[.int .i64 n] w fun e w' => e = .returned (.int .i64 (Nm.negZ n)) ∧ w' = w := by
  by_cases c : 0 < n
  · have c1 : -9223372036854775808 ≤ -n := by omega
    go_enter Try.func67, Try.ntmps67
    go_wp2
    go_ret
    exact ⟨ret1 (Nm.negZ_pos c), rfl⟩
  · have H1 : Hid (n = Nm.negZ n) := Nm.negZ_not c
    go_enter Try.func67, Try.ntmps67
    go_wp2
    go_ret
    exact ⟨ret1 H1.out, rfl⟩
theorem negZ_bd64 (n : Int) (h1 : -9223372036854775808 ≤ n) (h2 : n ≤ 9223372036854775807) : -9223372036854775808 ≤ Nm.negZ n ∧ Nm.negZ n ≤ 0 := by unfold Nm.negZ Nm.absZ; omega
set_option maxHeartbeats 1000000 in
theorem gcd64 (a b : Int) (w : World) (h1 : -9223372036854775808 ≤ a) (h2 : a ≤ 9223372036854775807) (h3 : -9223372036854775808 ≤ b) (h4 : b ≤ 9223372036854775807) :
    Calls Try.prog 29 #[.int .i64 a, .int .i64 b] w fun e w' => e = .returned (.tuple #[.int .i64 (Nm.fitZ (-9223372036854775808) 9223372036854775807 (Nm.gcdZ a b)), .bool (Nm.fitB (-9223372036854775808) 9223372036854775807 (Nm.gcdZ a b))]) ∧ ∃ nq, w' = w.drewN nq := by
  have na := negZ_bd64 a h1 h2
  have nb := negZ_bd64 b h3 h4
  go_enter Try.func29, Try.ntmps29
  go_wp2_with (go_at_call 67; refine (notAbove64 _ _ (by omega) (by omega)).mono ?_; rintro e w' ⟨rfl, rfl⟩)
  go_loopw [0, 1] (fun x y wr => ∃ p q : Int, x = .int .i64 p ∧ y = .int .i64 q ∧ -9223372036854775808 ≤ p ∧ p ≤ 0 ∧ -9223372036854775808 ≤ q ∧ q ≤ 0 ∧ Hid (Nm.gcdZ p q = Nm.gcdZ a b) ∧ ∃ nq, wr = w'.drewN nq) (fun _ y _ => (intOf y).natAbs)
  case atStart => exact ⟨_, _, rfl, rfl, na.1, na.2, nb.1, nb.2, Nm.gcdZ_negZ a b, 0, rfl⟩
  case round =>
    obtain ⟨p, q, rfl, rfl, p1, p2, q1, q2, hg, n0, rfl⟩ := hrel
    by_cases hq : q = 0
    · subst hq
      have hz : Hid (Nm.gcdZ a b = -p) := hg.out.symm.trans (Nm.gcdZ_zero p2)
      by_cases hp : p = -9223372036854775808
      · have HN : Hid (¬ (-9223372036854775808 ≤ Nm.gcdZ a b ∧ Nm.gcdZ a b ≤ 9223372036854775807)) := by unfold Hid; rw [hz.out]; omega
        have hw : wrap64 (-p) = p := by rw [Nm.e64]; omega
        have hn : p < 0 := by omega
        clear hp
        go_wp2
        go_ret2
        exact ⟨ret2 (Nm.fitZ_no HN.out).symm (Nm.fitB_no HN.out).symm, _, rfl⟩
      · have p3 : -p ≤ 9223372036854775807 := by omega
        have p4 : 0 ≤ -p := by omega
        have HR : Hid (-9223372036854775808 ≤ Nm.gcdZ a b ∧ Nm.gcdZ a b ≤ 9223372036854775807) := by unfold Hid; rw [hz.out]; omega
        clear hp
        go_wp2
        go_ret2
        exact ⟨ret2 (hz.out.symm.trans (Nm.fitZ_yes HR.out.1 HR.out.2).symm) (Nm.fitB_yes HR.out.1 HR.out.2).symm, _, rfl⟩
    · have hb : (q != 0) = true := by simpa using hq
      have hq0 : (q == 0) = false := by simpa using hq
      obtain ⟨t1, t2⟩ := Nm.tmod_neg (x := p) (y := q) p2 hq
      have t3 : -9223372036854775808 ≤ p.tmod q := by omega
      have HT : Hid ((p.tmod q).natAbs < q.natAbs) := t2
      have HG : Hid (Nm.gcdZ q (p.tmod q) = Nm.gcdZ a b) := Nm.gcdZ_step.trans hg.out
      clear t2
      go_wp2
      go_quiet (fail)
      go_wp2
      go_roundw
      case rel => exact ⟨_, _, rfl, rfl, q1, q2, t3, t1, HG, _, World.drewN_drewN _ _ _⟩
      case measure => simpa [intOf] using HT.out

set_option maxHeartbeats 400000 in
theorem notAboveI (n : Int) (w : World) (h1 : -9223372036854775808 ≤ n) (h2 : n ≤ 9223372036854775807) :
    Calls Try.prog 68 #[.int .i64 n] w fun e w' => e = .returned (.int .i64 (Nm.negZ n)) ∧ w' = w := by
  by_cases c : 0 < n
  · have c1 : -9223372036854775808 ≤ -n := by omega
    go_enter Try.func68, Try.ntmps68
    go_wp2
    go_ret
    exact ⟨ret1 (Nm.negZ_pos c), rfl⟩
  · have H1 : Hid (n = Nm.negZ n) := Nm.negZ_not c
    go_enter Try.func68, Try.ntmps68
    go_wp2
    go_ret
    exact ⟨ret1 H1.out, rfl⟩
theorem negZ_bdI (n : Int) (h1 : -9223372036854775808 ≤ n) (h2 : n ≤ 9223372036854775807) : -9223372036854775808 ≤ Nm.negZ n ∧ Nm.negZ n ≤ 0 := by unfold Nm.negZ Nm.absZ; omega
set_option maxHeartbeats 1000000 in
theorem gcdI (a b : Int) (w : World) (h1 : -9223372036854775808 ≤ a) (h2 : a ≤ 9223372036854775807) (h3 : -9223372036854775808 ≤ b) (h4 : b ≤ 9223372036854775807) :
    Calls Try.prog 30 #[.int .i64 a, .int .i64 b] w fun e w' => e = .returned (.tuple #[.int .i64 (Nm.fitZ (-9223372036854775808) 9223372036854775807 (Nm.gcdZ a b)), .bool (Nm.fitB (-9223372036854775808) 9223372036854775807 (Nm.gcdZ a b))]) ∧ ∃ nq, w' = w.drewN nq := by
  have na := negZ_bdI a h1 h2
  have nb := negZ_bdI b h3 h4
  go_enter Try.func30, Try.ntmps30
  go_wp2_with (go_at_call 68; refine (notAboveI _ _ (by omega) (by omega)).mono ?_; rintro e w' ⟨rfl, rfl⟩)
  go_loopw [0, 1] (fun x y wr => ∃ p q : Int, x = .int .i64 p ∧ y = .int .i64 q ∧ -9223372036854775808 ≤ p ∧ p ≤ 0 ∧ -9223372036854775808 ≤ q ∧ q ≤ 0 ∧ Hid (Nm.gcdZ p q = Nm.gcdZ a b) ∧ ∃ nq, wr = w'.drewN nq) (fun _ y _ => (intOf y).natAbs)
  case atStart => exact ⟨_, _, rfl, rfl, na.1, na.2, nb.1, nb.2, Nm.gcdZ_negZ a b, 0, rfl⟩
  case round =>
    obtain ⟨p, q, rfl, rfl, p1, p2, q1, q2, hg, n0, rfl⟩ := hrel
    by_cases hq : q = 0
    · subst hq
      have hz : Hid (Nm.gcdZ a b = -p) := hg.out.symm.trans (Nm.gcdZ_zero p2)
      by_cases hp : p = -9223372036854775808
      · have HN : Hid (¬ (-9223372036854775808 ≤ Nm.gcdZ a b ∧ Nm.gcdZ a b ≤ 9223372036854775807)) := by unfold Hid; rw [hz.out]; omega
        have hw : wrap64 (-p) = p := by rw [Nm.e64]; omega
        have hn : p < 0 := by omega
        clear hp
        go_wp2
        go_ret2
        exact ⟨ret2 (Nm.fitZ_no HN.out).symm (Nm.fitB_no HN.out).symm, _, rfl⟩
      · have p3 : -p ≤ 9223372036854775807 := by omega
        have p4 : 0 ≤ -p := by omega
        have HR : Hid (-9223372036854775808 ≤ Nm.gcdZ a b ∧ Nm.gcdZ a b ≤ 9223372036854775807) := by unfold Hid; rw [hz.out]; omega
        clear hp
        go_wp2
        go_ret2
        exact ⟨ret2 (hz.out.symm.trans (Nm.fitZ_yes HR.out.1 HR.out.2).symm) (Nm.fitB_yes HR.out.1 HR.out.2).symm, _, rfl⟩
    · have hb : (q != 0) = true := by simpa using hq
      have hq0 : (q == 0) = false := by simpa using hq
      obtain ⟨t1, t2⟩ := Nm.tmod_neg (x := p) (y := q) p2 hq
      have t3 : -9223372036854775808 ≤ p.tmod q := by omega
      have HT : Hid ((p.tmod q).natAbs < q.natAbs) := t2
      have HG : Hid (Nm.gcdZ q (p.tmod q) = Nm.gcdZ a b) := Nm.gcdZ_step.trans hg.out
      clear t2
      go_wp2
      go_quiet (fail)
      go_wp2
      go_roundw
      case rel => exact ⟨_, _, rfl, rfl, q1, q2, t3, t1, HG, _, World.drewN_drewN _ _ _⟩
      case measure => simpa [intOf] using HT.out

set_option maxHeartbeats 400000 in
theorem notAboveT (n : Int) (w : World) (h1 : -128 ≤ n) (h2 : n ≤ 127) :
    Calls Try.prog 69 #[.int .i8 n] w fun e w' => e = .returned (.int .i8 (Nm.negZ n)) ∧ w' = w := by
  by_cases c : 0 < n
  · have c1 : -128 ≤ -n := by omega
    go_enter Try.func69, Try.ntmps69
    go_wp2
    go_ret
    exact ⟨ret1 (Nm.negZ_pos c), rfl⟩
  · have H1 : Hid (n = Nm.negZ n) := Nm.negZ_not c
    go_enter Try.func69, Try.ntmps69
    go_wp2
    go_ret
    exact ⟨ret1 H1.out, rfl⟩
theorem negZ_bdT (n : Int) (h1 : -128 ≤ n) (h2 : n ≤ 127) : -128 ≤ Nm.negZ n ∧ Nm.negZ n ≤ 0 := by unfold Nm.negZ Nm.absZ; omega
set_option maxHeartbeats 1000000 in
theorem gcdT (a b : Int) (w : World) (h1 : -128 ≤ a) (h2 : a ≤ 127) (h3 : -128 ≤ b) (h4 : b ≤ 127) :
    Calls Try.prog 31 #[.int .i8 a, .int .i8 b] w fun e w' => e = .returned (.tuple #[.int .i8 (Nm.fitZ (-128) 127 (Nm.gcdZ a b)), .bool (Nm.fitB (-128) 127 (Nm.gcdZ a b))]) ∧ ∃ nq, w' = w.drewN nq := by
  have na := negZ_bdT a h1 h2
  have nb := negZ_bdT b h3 h4
  go_enter Try.func31, Try.ntmps31
  go_wp2_with (go_at_call 69; refine (notAboveT _ _ (by omega) (by omega)).mono ?_; rintro e w' ⟨rfl, rfl⟩)
  go_loopw [0, 1] (fun x y wr => ∃ p q : Int, x = .int .i8 p ∧ y = .int .i8 q ∧ -128 ≤ p ∧ p ≤ 0 ∧ -128 ≤ q ∧ q ≤ 0 ∧ Hid (Nm.gcdZ p q = Nm.gcdZ a b) ∧ ∃ nq, wr = w'.drewN nq) (fun _ y _ => (intOf y).natAbs)
  case atStart => exact ⟨_, _, rfl, rfl, na.1, na.2, nb.1, nb.2, Nm.gcdZ_negZ a b, 0, rfl⟩
  case round =>
    obtain ⟨p, q, rfl, rfl, p1, p2, q1, q2, hg, n0, rfl⟩ := hrel
    by_cases hq : q = 0
    · subst hq
      have hz : Hid (Nm.gcdZ a b = -p) := hg.out.symm.trans (Nm.gcdZ_zero p2)
      by_cases hp : p = -128
      · have HN : Hid (¬ (-128 ≤ Nm.gcdZ a b ∧ Nm.gcdZ a b ≤ 127)) := by unfold Hid; rw [hz.out]; omega
        have hw : IntKind.i8.wrap (-p) = p := by rw [Nm.e8]; omega
        have hn : p < 0 := by omega
        clear hp
        go_wp2
        go_ret2
        exact ⟨ret2 (Nm.fitZ_no HN.out).symm (Nm.fitB_no HN.out).symm, _, rfl⟩
      · have p3 : -p ≤ 127 := by omega
        have p4 : 0 ≤ -p := by omega
        have HR : Hid (-128 ≤ Nm.gcdZ a b ∧ Nm.gcdZ a b ≤ 127) := by unfold Hid; rw [hz.out]; omega
        clear hp
        go_wp2
        go_ret2
        exact ⟨ret2 (hz.out.symm.trans (Nm.fitZ_yes HR.out.1 HR.out.2).symm) (Nm.fitB_yes HR.out.1 HR.out.2).symm, _, rfl⟩
    · have hb : (q != 0) = true := by simpa using hq
      have hq0 : (q == 0) = false := by simpa using hq
      obtain ⟨t1, t2⟩ := Nm.tmod_neg (x := p) (y := q) p2 hq
      have t3 : -128 ≤ p.tmod q := by omega
      have HT : Hid ((p.tmod q).natAbs < q.natAbs) := t2
      have HG : Hid (Nm.gcdZ q (p.tmod q) = Nm.gcdZ a b) := Nm.gcdZ_step.trans hg.out
      clear t2
      go_wp2
      go_quiet (fail)
      go_wp2
      go_roundw
      case rel => exact ⟨_, _, rfl, rfl, q1, q2, t3, t1, HG, _, World.drewN_drewN _ _ _⟩
      case measure => simpa [intOf] using HT.out

set_option maxHeartbeats 400000 in
theorem notAboveW (n : Int) (w : World) (h1 : -9223372036854775808 ≤ n) (h2 : n ≤ 9223372036854775807) :
    Calls Try.prog 70 #[.int .i64 n] w fun e w' => e = .returned (.int .i64 (Nm.negZ n)) ∧ w' = w := by
  by_cases c : 0 < n
  · have c1 : -9223372036854775808 ≤ -n := by omega
    go_enter Try.func70, Try.ntmps70
    go_wp2
    go_ret
    exact ⟨ret1 (Nm.negZ_pos c), rfl⟩
  · have H1 : Hid (n = Nm.negZ n) := Nm.negZ_not c
    go_enter Try.func70, Try.ntmps70
    go_wp2
    go_ret
    exact ⟨ret1 H1.out, rfl⟩
theorem negZ_bdW (n : Int) (h1 : -9223372036854775808 ≤ n) (h2 : n ≤ 9223372036854775807) : -9223372036854775808 ≤ Nm.negZ n ∧ Nm.negZ n ≤ 0 := by unfold Nm.negZ Nm.absZ; omega
set_option maxHeartbeats 1000000 in
theorem gcdW (a b : Int) (w : World) (h1 : -9223372036854775808 ≤ a) (h2 : a ≤ 9223372036854775807) (h3 : -9223372036854775808 ≤ b) (h4 : b ≤ 9223372036854775807) :
    Calls Try.prog 32 #[.int .i64 a, .int .i64 b] w fun e w' => e = .returned (.tuple #[.int .i64 (Nm.fitZ (-9223372036854775808) 9223372036854775807 (Nm.gcdZ a b)), .bool (Nm.fitB (-9223372036854775808) 9223372036854775807 (Nm.gcdZ a b))]) ∧ ∃ nq, w' = w.drewN nq := by
  have na := negZ_bdW a h1 h2
  have nb := negZ_bdW b h3 h4
  go_enter Try.func32, Try.ntmps32
  go_wp2_with (go_at_call 70; refine (notAboveW _ _ (by omega) (by omega)).mono ?_; rintro e w' ⟨rfl, rfl⟩)
  go_loopw [0, 1] (fun x y wr => ∃ p q : Int, x = .int .i64 p ∧ y = .int .i64 q ∧ -9223372036854775808 ≤ p ∧ p ≤ 0 ∧ -9223372036854775808 ≤ q ∧ q ≤ 0 ∧ Hid (Nm.gcdZ p q = Nm.gcdZ a b) ∧ ∃ nq, wr = w'.drewN nq) (fun _ y _ => (intOf y).natAbs)
  case atStart => exact ⟨_, _, rfl, rfl, na.1, na.2, nb.1, nb.2, Nm.gcdZ_negZ a b, 0, rfl⟩
  case round =>
    obtain ⟨p, q, rfl, rfl, p1, p2, q1, q2, hg, n0, rfl⟩ := hrel
    by_cases hq : q = 0
    · subst hq
      have hz : Hid (Nm.gcdZ a b = -p) := hg.out.symm.trans (Nm.gcdZ_zero p2)
      by_cases hp : p = -9223372036854775808
      · have HN : Hid (¬ (-9223372036854775808 ≤ Nm.gcdZ a b ∧ Nm.gcdZ a b ≤ 9223372036854775807)) := by unfold Hid; rw [hz.out]; omega
        have hw : wrap64 (-p) = p := by rw [Nm.e64]; omega
        have hn : p < 0 := by omega
        clear hp
        go_wp2
        go_ret2
        exact ⟨ret2 (Nm.fitZ_no HN.out).symm (Nm.fitB_no HN.out).symm, _, rfl⟩
      · have p3 : -p ≤ 9223372036854775807 := by omega
        have p4 : 0 ≤ -p := by omega
        have HR : Hid (-9223372036854775808 ≤ Nm.gcdZ a b ∧ Nm.gcdZ a b ≤ 9223372036854775807) := by unfold Hid; rw [hz.out]; omega
        clear hp
        go_wp2
        go_ret2
        exact ⟨ret2 (hz.out.symm.trans (Nm.fitZ_yes HR.out.1 HR.out.2).symm) (Nm.fitB_yes HR.out.1 HR.out.2).symm, _, rfl⟩
    · have hb : (q != 0) = true := by simpa using hq
      have hq0 : (q == 0) = false := by simpa using hq
      obtain ⟨t1, t2⟩ := Nm.tmod_neg (x := p) (y := q) p2 hq
      have t3 : -9223372036854775808 ≤ p.tmod q := by omega
      have HT : Hid ((p.tmod q).natAbs < q.natAbs) := t2
      have HG : Hid (Nm.gcdZ q (p.tmod q) = Nm.gcdZ a b) := Nm.gcdZ_step.trans hg.out
      clear t2
      go_wp2
      go_quiet (fail)
      go_wp2
      go_roundw
      case rel => exact ⟨_, _, rfl, rfl, q1, q2, t3, t1, HG, _, World.drewN_drewN _ _ _⟩
      case measure => simpa [intOf] using HT.out

theorem signedPos (p : Int) (w : World) (h1 : 0 ≤ p) (h2 : p ≤ 9223372036854775808) :
    Calls Try.prog 72 #[.int .u64 p, .bool false] w fun e w' => e = .returned (.tuple #[.int .i64 (Nm.fitZ (-9223372036854775808) 9223372036854775807 p), .bool (Nm.fitB (-9223372036854775808) 9223372036854775807 p)]) ∧ w' = w := by
  have h := signedRef p false w h1 (by omega)
  rw [show Nm.sv p false = p from by simp [Nm.sv]] at h
  exact h

set_option maxHeartbeats 1000000 in
theorem gcdRef8 (a b : Int) (w : World) (h1 : -9223372036854775808 ≤ a) (h2 : a ≤ 9223372036854775807) (h3 : -9223372036854775808 ≤ b) (h4 : b ≤ 9223372036854775807) :
    Calls Try.prog 33 #[.int .i64 a, .int .i64 b, .int .i64 8] w fun e w' => e = .returned (.tuple #[.int .i64 (Nm.fitZ (-128) 127 (Nm.gcdZ a b)), .bool (Nm.fitB (-128) 127 (Nm.gcdZ a b))]) ∧ w' = w := by
  have x1 := Nm.absZ_nn a
  have x2 := Nm.absZ_le a h1 h2
  have y1 := Nm.absZ_nn b
  have y2 := Nm.absZ_le b h3 h4
  go_enter Try.func33, Try.ntmps33
  go_wp2_with (go_at_call 71; refine (sizeRef _ _ (by omega) (by omega)).mono ?_; rintro e w' ⟨rfl, rfl⟩)
  go_loop [8, 9] (fun x y => ∃ p q : Int, x = .int .u64 p ∧ y = .int .u64 q ∧ 0 ≤ p ∧ p ≤ 9223372036854775808 ∧ 0 ≤ q ∧ q ≤ 9223372036854775808 ∧ Hid (Nm.gcdZ p q = Nm.gcdZ a b)) (fun _ y => (intOf y).natAbs)
  case atStart => exact ⟨_, _, rfl, rfl, x1, x2, y1, y2, Nm.gcdZ_abs a b⟩
  case round =>
    obtain ⟨p, q, rfl, rfl, p1, p2, q1, q2, hg⟩ := hrel
    by_cases hq : 0 < q
    · have t1 := Int.emod_nonneg p (show q ≠ 0 by omega)
      have t2 := Int.emod_lt_of_pos p hq
      have HG : Hid (Nm.gcdZ q (p % q) = Nm.gcdZ a b) := (Nm.gcdZ_mod p1).trans hg.out
      go_wp2
      go_round
      case rel => exact ⟨_, _, rfl, rfl, q1, q2, t1, by omega, HG⟩
      case measure => simp [intOf]; omega
    · have q0 : q = 0 := by omega
      subst q0
      have hz : Hid (Nm.gcdZ a b = p) := hg.out.symm.trans (Nm.gcdZ_zeroU p1)
      by_cases r2 : p ≤ 9223372036854775807
      · have r1 : -9223372036854775808 ≤ p := by omega
        have f1 := Nm.fitZ_yes r1 r2
        have f2 := Nm.fitB_yes r1 r2
        go_wp2_with (first | (go_at_call 72; refine (signedPos _ _ (by omega) (by omega)).mono ?_; rintro e w2 ⟨rfl, rfl⟩) | (go_at_call 47; refine (fitsRef8 _ _ (by omega) (by omega)).mono ?_; rintro e w2 ⟨rfl, rfl⟩))
        go_ret2
        exact ⟨ret2 (by rw [hz.out]) (by rw [hz.out]), rfl⟩
      · have f2 := Nm.fitB_no (l := -9223372036854775808) (h := 9223372036854775807) (x := p) (by omega)
        have HN : Hid (¬ (-128 ≤ Nm.gcdZ a b ∧ Nm.gcdZ a b ≤ 127)) := by unfold Hid; rw [hz.out]; omega
        go_wp2_with (go_at_call 72; refine (signedPos _ _ (by omega) (by omega)).mono ?_; rintro e w2 ⟨rfl, rfl⟩)
        go_ret2
        exact ⟨ret2 (Nm.fitZ_no HN.out).symm (Nm.fitB_no HN.out).symm, rfl⟩

set_option maxHeartbeats 1000000 in
theorem gcdRef16 (a b : Int) (w : World) (h1 : -9223372036854775808 ≤ a) (h2 : a ≤ 9223372036854775807) (h3 : -9223372036854775808 ≤ b) (h4 : b ≤ 9223372036854775807) :
    Calls Try.prog 33 #[.int .i64 a, .int .i64 b, .int .i64 16] w fun e w' => e = .returned (.tuple #[.int .i64 (Nm.fitZ (-32768) 32767 (Nm.gcdZ a b)), .bool (Nm.fitB (-32768) 32767 (Nm.gcdZ a b))]) ∧ w' = w := by
  have x1 := Nm.absZ_nn a
  have x2 := Nm.absZ_le a h1 h2
  have y1 := Nm.absZ_nn b
  have y2 := Nm.absZ_le b h3 h4
  go_enter Try.func33, Try.ntmps33
  go_wp2_with (go_at_call 71; refine (sizeRef _ _ (by omega) (by omega)).mono ?_; rintro e w' ⟨rfl, rfl⟩)
  go_loop [8, 9] (fun x y => ∃ p q : Int, x = .int .u64 p ∧ y = .int .u64 q ∧ 0 ≤ p ∧ p ≤ 9223372036854775808 ∧ 0 ≤ q ∧ q ≤ 9223372036854775808 ∧ Hid (Nm.gcdZ p q = Nm.gcdZ a b)) (fun _ y => (intOf y).natAbs)
  case atStart => exact ⟨_, _, rfl, rfl, x1, x2, y1, y2, Nm.gcdZ_abs a b⟩
  case round =>
    obtain ⟨p, q, rfl, rfl, p1, p2, q1, q2, hg⟩ := hrel
    by_cases hq : 0 < q
    · have t1 := Int.emod_nonneg p (show q ≠ 0 by omega)
      have t2 := Int.emod_lt_of_pos p hq
      have HG : Hid (Nm.gcdZ q (p % q) = Nm.gcdZ a b) := (Nm.gcdZ_mod p1).trans hg.out
      go_wp2
      go_round
      case rel => exact ⟨_, _, rfl, rfl, q1, q2, t1, by omega, HG⟩
      case measure => simp [intOf]; omega
    · have q0 : q = 0 := by omega
      subst q0
      have hz : Hid (Nm.gcdZ a b = p) := hg.out.symm.trans (Nm.gcdZ_zeroU p1)
      by_cases r2 : p ≤ 9223372036854775807
      · have r1 : -9223372036854775808 ≤ p := by omega
        have f1 := Nm.fitZ_yes r1 r2
        have f2 := Nm.fitB_yes r1 r2
        go_wp2_with (first | (go_at_call 72; refine (signedPos _ _ (by omega) (by omega)).mono ?_; rintro e w2 ⟨rfl, rfl⟩) | (go_at_call 47; refine (fitsRef16 _ _ (by omega) (by omega)).mono ?_; rintro e w2 ⟨rfl, rfl⟩))
        go_ret2
        exact ⟨ret2 (by rw [hz.out]) (by rw [hz.out]), rfl⟩
      · have f2 := Nm.fitB_no (l := -9223372036854775808) (h := 9223372036854775807) (x := p) (by omega)
        have HN : Hid (¬ (-32768 ≤ Nm.gcdZ a b ∧ Nm.gcdZ a b ≤ 32767)) := by unfold Hid; rw [hz.out]; omega
        go_wp2_with (go_at_call 72; refine (signedPos _ _ (by omega) (by omega)).mono ?_; rintro e w2 ⟨rfl, rfl⟩)
        go_ret2
        exact ⟨ret2 (Nm.fitZ_no HN.out).symm (Nm.fitB_no HN.out).symm, rfl⟩

set_option maxHeartbeats 1000000 in
theorem gcdRef32 (a b : Int) (w : World) (h1 : -9223372036854775808 ≤ a) (h2 : a ≤ 9223372036854775807) (h3 : -9223372036854775808 ≤ b) (h4 : b ≤ 9223372036854775807) :
    Calls Try.prog 33 #[.int .i64 a, .int .i64 b, .int .i64 32] w fun e w' => e = .returned (.tuple #[.int .i64 (Nm.fitZ (-2147483648) 2147483647 (Nm.gcdZ a b)), .bool (Nm.fitB (-2147483648) 2147483647 (Nm.gcdZ a b))]) ∧ w' = w := by
  have x1 := Nm.absZ_nn a
  have x2 := Nm.absZ_le a h1 h2
  have y1 := Nm.absZ_nn b
  have y2 := Nm.absZ_le b h3 h4
  go_enter Try.func33, Try.ntmps33
  go_wp2_with (go_at_call 71; refine (sizeRef _ _ (by omega) (by omega)).mono ?_; rintro e w' ⟨rfl, rfl⟩)
  go_loop [8, 9] (fun x y => ∃ p q : Int, x = .int .u64 p ∧ y = .int .u64 q ∧ 0 ≤ p ∧ p ≤ 9223372036854775808 ∧ 0 ≤ q ∧ q ≤ 9223372036854775808 ∧ Hid (Nm.gcdZ p q = Nm.gcdZ a b)) (fun _ y => (intOf y).natAbs)
  case atStart => exact ⟨_, _, rfl, rfl, x1, x2, y1, y2, Nm.gcdZ_abs a b⟩
  case round =>
    obtain ⟨p, q, rfl, rfl, p1, p2, q1, q2, hg⟩ := hrel
    by_cases hq : 0 < q
    · have t1 := Int.emod_nonneg p (show q ≠ 0 by omega)
      have t2 := Int.emod_lt_of_pos p hq
      have HG : Hid (Nm.gcdZ q (p % q) = Nm.gcdZ a b) := (Nm.gcdZ_mod p1).trans hg.out
      go_wp2
      go_round
      case rel => exact ⟨_, _, rfl, rfl, q1, q2, t1, by omega, HG⟩
      case measure => simp [intOf]; omega
    · have q0 : q = 0 := by omega
      subst q0
      have hz : Hid (Nm.gcdZ a b = p) := hg.out.symm.trans (Nm.gcdZ_zeroU p1)
      by_cases r2 : p ≤ 9223372036854775807
      · have r1 : -9223372036854775808 ≤ p := by omega
        have f1 := Nm.fitZ_yes r1 r2
        have f2 := Nm.fitB_yes r1 r2
        go_wp2_with (first | (go_at_call 72; refine (signedPos _ _ (by omega) (by omega)).mono ?_; rintro e w2 ⟨rfl, rfl⟩) | (go_at_call 47; refine (fitsRef32 _ _ (by omega) (by omega)).mono ?_; rintro e w2 ⟨rfl, rfl⟩))
        go_ret2
        exact ⟨ret2 (by rw [hz.out]) (by rw [hz.out]), rfl⟩
      · have f2 := Nm.fitB_no (l := -9223372036854775808) (h := 9223372036854775807) (x := p) (by omega)
        have HN : Hid (¬ (-2147483648 ≤ Nm.gcdZ a b ∧ Nm.gcdZ a b ≤ 2147483647)) := by unfold Hid; rw [hz.out]; omega
        go_wp2_with (go_at_call 72; refine (signedPos _ _ (by omega) (by omega)).mono ?_; rintro e w2 ⟨rfl, rfl⟩)
        go_ret2
        exact ⟨ret2 (Nm.fitZ_no HN.out).symm (Nm.fitB_no HN.out).symm, rfl⟩

set_option maxHeartbeats 1000000 in
theorem gcdRef64 (a b : Int) (w : World) (h1 : -9223372036854775808 ≤ a) (h2 : a ≤ 9223372036854775807) (h3 : -9223372036854775808 ≤ b) (h4 : b ≤ 9223372036854775807) :
    Calls Try.prog 33 #[.int .i64 a, .int .i64 b, .int .i64 64] w fun e w' => e = .returned (.tuple #[.int .i64 (Nm.fitZ (-9223372036854775808) 9223372036854775807 (Nm.gcdZ a b)), .bool (Nm.fitB (-9223372036854775808) 9223372036854775807 (Nm.gcdZ a b))]) ∧ w' = w := by
  have x1 := Nm.absZ_nn a
  have x2 := Nm.absZ_le a h1 h2
  have y1 := Nm.absZ_nn b
  have y2 := Nm.absZ_le b h3 h4
  go_enter Try.func33, Try.ntmps33
  go_wp2_with (go_at_call 71; refine (sizeRef _ _ (by omega) (by omega)).mono ?_; rintro e w' ⟨rfl, rfl⟩)
  go_loop [8, 9] (fun x y => ∃ p q : Int, x = .int .u64 p ∧ y = .int .u64 q ∧ 0 ≤ p ∧ p ≤ 9223372036854775808 ∧ 0 ≤ q ∧ q ≤ 9223372036854775808 ∧ Hid (Nm.gcdZ p q = Nm.gcdZ a b)) (fun _ y => (intOf y).natAbs)
  case atStart => exact ⟨_, _, rfl, rfl, x1, x2, y1, y2, Nm.gcdZ_abs a b⟩
  case round =>
    obtain ⟨p, q, rfl, rfl, p1, p2, q1, q2, hg⟩ := hrel
    by_cases hq : 0 < q
    · have t1 := Int.emod_nonneg p (show q ≠ 0 by omega)
      have t2 := Int.emod_lt_of_pos p hq
      have HG : Hid (Nm.gcdZ q (p % q) = Nm.gcdZ a b) := (Nm.gcdZ_mod p1).trans hg.out
      go_wp2
      go_round
      case rel => exact ⟨_, _, rfl, rfl, q1, q2, t1, by omega, HG⟩
      case measure => simp [intOf]; omega
    · have q0 : q = 0 := by omega
      subst q0
      have hz : Hid (Nm.gcdZ a b = p) := hg.out.symm.trans (Nm.gcdZ_zeroU p1)
      by_cases r2 : p ≤ 9223372036854775807
      · have r1 : -9223372036854775808 ≤ p := by omega
        have f1 := Nm.fitZ_yes r1 r2
        have f2 := Nm.fitB_yes r1 r2
        go_wp2_with (first | (go_at_call 72; refine (signedPos _ _ (by omega) (by omega)).mono ?_; rintro e w2 ⟨rfl, rfl⟩) | (go_at_call 47; refine (fitsRef64 _ _ (by omega) (by omega)).mono ?_; rintro e w2 ⟨rfl, rfl⟩))
        go_ret2
        exact ⟨ret2 (by rw [hz.out]; exact (Nm.fitZ_yes r1 r2).symm) (by rw [hz.out]; exact (Nm.fitB_yes r1 r2).symm), rfl⟩
      · have f2 := Nm.fitB_no (l := -9223372036854775808) (h := 9223372036854775807) (x := p) (by omega)
        have HN : Hid (¬ (-9223372036854775808 ≤ Nm.gcdZ a b ∧ Nm.gcdZ a b ≤ 9223372036854775807)) := by unfold Hid; rw [hz.out]; omega
        go_wp2_with (go_at_call 72; refine (signedPos _ _ (by omega) (by omega)).mono ?_; rintro e w2 ⟨rfl, rfl⟩)
        go_ret2
        exact ⟨ret2 (Nm.fitZ_no HN.out).symm (Nm.fitB_no HN.out).symm, rfl⟩

end Go.Proofs.Ytnbfjoheljlkfaa