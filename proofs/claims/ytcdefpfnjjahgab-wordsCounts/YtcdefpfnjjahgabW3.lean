/- What the calls of package words answer: cut, Valid. -/
import Derived.Test.YtcdefpfnjjahgabW2
namespace Go.Proofs.Ytcdefpfnjjahgab
open Go.RowKit
set_option linter.unusedVariables false

theorem cutC (m b n cap : Nat) (p : Nat → Bool) (h1 : m ≤ 65538) (hn : n = (m + 63) / 64) (w : World) (hr : Row w 22 b n p) :
    Calls Try.prog 39 #[.agg #[.int .i64 m, .slice (some ⟨b, 0, none⟩) n cap]] w fun e w' => e = .returned (.tuple #[]) ∧ Row w' 22 b n (fun i => p i && decide (i < m)) ∧ w.grownBy w' (some b) := by
  by_cases h0 : m = 0
  · subst h0
    obtain ⟨W1, hW, c0, c1, sz, hg, hB⟩ := box2 w (.int .i64 0) (.slice (some ⟨b, 0, none⟩) n cap) 31
    have hr1 := hr.kept hg (by simp)
    have R : Row W1 22 b n (fun i => p i && decide (i < 0)) := hr1.congr fun i hi => by omega
    clear hr hr1 hn
    go_enter Try.func39, Try.ntmps39
    go_wp2
    go_end0
    exact ⟨rfl, R, gb_none (World.grownBy.refl _ _) hg⟩
  · obtain ⟨W1, hW, c0, c1, sz, hg, hB⟩ := box2 w (.int .i64 m) (.slice (some ⟨b, 0, none⟩) n cap) 31
    have hr1 := hr.kept hg (by simp)
    have hm : (0 : Int) < (m : Int) := by omega
    obtain ⟨k, rfl⟩ : ∃ k, n = k + 1 := ⟨n - 1, by omega⟩
    have hk := World.rowIs.cell hr1 (i := k) (by omega)
    have hf := World.rowIs.frozen hr1 k
    have hnl : k ≤ 1024 := by omega
    have hA : IntKind.i64.wrap (k : Int) = k := by rw [IntKind.wrap_i64]; omega
    have hkk : (k : Int) < (k : Int) + 1 := by omega
    have hll : last m ≤ 64 := by unfold last; omega
    have hle : 64 * k + last m = m := by unfold last; omega
    have hand := bits_and_u64_nat (Pk.pack p k) (Pk.low (last m)) (Pk.pack_lt _ _) (Pk.low_lt hll)
    have R : Row (W1.setCell ⟨b, k, none⟩ (.int .u64 ((Pk.pack p k &&& Pk.low (last m) : Nat) : Int))) 22 b (k + 1) (fun i => p i && decide (i < m)) := by
      refine hr1.set ?_ ?_
      · rw [Pk.pack_low, hle]
      · intro i hi hne
        have : i < m := by omega
        simp [this]
    have G : w.grownBy (W1.setCell ⟨b, k, none⟩ (.int .u64 ((Pk.pack p k &&& Pk.low (last m) : Nat) : Int))) (some b) := gb_set (gb_none (World.grownBy.refl _ _) hg) _ _
    clear hr hr1 hn hle
    go_enter Try.func39, Try.ntmps39
    go_wp2
    refine region_tail 12 mixed (by kernel_rfl) ?_
    simp only [List.take_succ_cons, List.take_zero, List.drop_succ_cons, List.drop_zero]
    repeat still_step
    still_call (lastMaskC m h1 _)
    repeat still_step
    refine wpStill_nil ?_
    go_wp2
    go_end0
    exact ⟨rfl, R, gb_drew G⟩

/-- May the row be? -/
def validB (N : Int) (n : Nat) (f : Nat → Nat) : Bool :=
  decide (0 ≤ N) && decide (N ≤ 65538) && decide ((n : Int) = (N + 63) / 64) && (decide (N = 0) || decide (f (n - 1) < 2 ^ last N.toNat))

theorem andNot_low (x c : Nat) (hx : x < 18446744073709551616) (hc : c ≤ 64) : (bits .andNot .u64 (x : Int) (Pk.low c : Int) == 0) = decide (x < 2 ^ c) := by
  have hl := Pk.low_lt hc
  have e : bits .andNot .u64 (x : Int) (Pk.low c : Int) = ((x &&& (18446744073709551615 ^^^ Pk.low c) : Nat) : Int) := by
    have hy : x &&& (18446744073709551615 ^^^ Pk.low c) < 18446744073709551616 := Nat.lt_of_le_of_lt Nat.and_le_left hx
    unfold bits
    simp only [BitVec.ofInt_natCast]
    have hb : (BitVec.ofNat 64 x &&& ~~~ BitVec.ofNat 64 (Pk.low c)).toNat = x &&& (18446744073709551615 ^^^ Pk.low c) := by
      rw [BitVec.toNat_and, BitVec.toNat_ofNat, Nat.mod_eq_of_lt hx, BitVec.not_def, BitVec.toNat_xor, BitVec.toNat_ofNat, Nat.mod_eq_of_lt hl]
      rfl
    have hf : IntKind.u64.wrap (((BitVec.ofNat 64 x &&& ~~~ BitVec.ofNat 64 (Pk.low c)).toNat : Nat) : Int) = ((x &&& (18446744073709551615 ^^^ Pk.low c) : Nat) : Int) := by
      rw [hb, IntKind.wrap_u64]
      omega
    exact hf
  rw [e]
  by_cases h : x < 2 ^ c
  · have : x &&& (18446744073709551615 ^^^ Pk.low c) = 0 := by
      apply Nat.eq_of_testBit_eq
      intro j
      have e64 : (18446744073709551615 : Nat) = 2 ^ 64 - 1 := by decide
      unfold Pk.low
      rw [Nat.testBit_and, Nat.testBit_xor, e64, Nat.testBit_two_pow_sub_one, Nat.testBit_two_pow_sub_one, Nat.zero_testBit]
      by_cases hj : j < c
      · have : j < 64 := by omega
        simp [hj, this]
      · have hz : x.testBit j = false := Nat.testBit_lt_two_pow (Nat.lt_of_lt_of_le h (Nat.pow_le_pow_right (by decide) (by omega)))
        simp [hz]
    rw [this, decide_eq_true h]
    rfl
  · have : x &&& (18446744073709551615 ^^^ Pk.low c) ≠ 0 := by
      intro h0
      apply h
      apply Nat.lt_pow_two_of_testBit
      intro j hj
      have := congrArg (fun y => y.testBit j) h0
      have e64 : (18446744073709551615 : Nat) = 2 ^ 64 - 1 := by decide
      unfold Pk.low at this
      simp only [Nat.testBit_and, Nat.testBit_xor, e64, Nat.testBit_two_pow_sub_one, Nat.zero_testBit] at this
      by_cases h6 : j < 64
      · have hjc : ¬ j < c := by omega
        simpa [h6, hjc] using this
      · exact Nat.testBit_lt_two_pow (Nat.lt_of_lt_of_le hx (by
          have : 2 ^ 64 ≤ 2 ^ j := Nat.pow_le_pow_right (by decide) (by omega)
          simpa using this))
    rw [decide_eq_false h]
    simp [this]

theorem validC (N : Int) (n cap : Nat) (sp : Option Addr) (f : Nat → Nat) (hf : ∀ k, k < n → f k < 18446744073709551616) (hn : n ≤ 9223372036854775807) (w : World) (hc : Wd w sp n f) :
    Calls Try.prog 41 #[.agg #[.int .i64 N, .slice sp n cap]] w fun e w' => e = .returned (.bool (validB N n f)) ∧ w.grownBy w' none := by
  obtain ⟨W1, hW, c0, c1, sz, hg, hB⟩ := box2 w (.int .i64 N) (.slice sp n cap) 31
  by_cases g0 : N < 0
  · have HV : Hid (validB N n f = false) := by unfold Hid validB; simp [show ¬ 0 ≤ N by omega]
    go_enter Try.func41, Try.ntmps41
    go_wp2
    go_quiet (fail)
    go_wp2
    go_ret
    exact ⟨by rw [HV.out]; rfl, gb_drewN hg _⟩
  by_cases g1 : 65538 < N
  · have HV : Hid (validB N n f = false) := by unfold Hid validB; simp [show ¬ N ≤ 65538 by omega]
    have g0' : decide (N < 0) = false := by simp; omega
    go_enter Try.func41, Try.ntmps41
    go_wp2
    go_quiet (fail)
    go_wp2
    go_ret
    exact ⟨by rw [HV.out]; rfl, gb_drewN hg _⟩
  obtain ⟨m, rfl⟩ : ∃ m : Nat, N = m := ⟨N.toNat, by omega⟩
  have g0' : decide ((m : Int) < 0) = false := by simp
  have g1' : decide ((65538 : Int) < (m : Int)) = false := by simp; omega
  have ml : m ≤ 65538 := by omega
  obtain ⟨c, hcc⟩ : ∃ c : Nat, c = (m + 63) / 64 := ⟨_, rfl⟩
  have hwf := wordsForC m (by omega)
  rw [← hcc] at hwf
  by_cases g2 : n = c
  · subst g2
    have g2' : ((n : Int) != (n : Int)) = false := by simp
    by_cases g3 : m = 0
    · have HV : Hid (validB m n f = true) := by unfold Hid validB; rw [decide_eq_true (show (n : Int) = ((m : Int) + 63) / 64 by omega)]; simp; omega
      have g3' : ((m : Int) == 0) = true := by simp; omega
      clear hcc g3
      go_enter Try.func41, Try.ntmps41
      go_wp2
      go_quiet (first | (go_at_call 36; refine Calls.quiet_of_same (hwf _)))
      go_wp2
      go_quiet (fail)
      go_wp2
      go_ret
      exact ⟨by rw [HV.out]; rfl, gb_drewN (gb_drewN hg _) _⟩
    · obtain ⟨k, rfl⟩ : ∃ k, n = k + 1 := ⟨n - 1, by omega⟩
      obtain ⟨a, rfl⟩ := hc.some (by omega)
      have hfk := hf k (by omega)
      have HV : Hid ((bits .andNot .u64 (f k : Int) (Pk.low (last m) : Int) == 0) = validB m (k + 1) f) := by
        unfold Hid validB
        rw [andNot_low _ _ hfk (by unfold last; omega), decide_eq_true (show ((k + 1 : Nat) : Int) = ((m : Int) + 63) / 64 by omega), decide_eq_true (show (0 : Int) ≤ (m : Int) by omega), decide_eq_true (show (m : Int) ≤ 65538 by omega), decide_eq_false (show ¬ (m : Int) = 0 by omega)]
        simp
      have g3' : ((m : Int) == 0) = false := by simp; omega
      have hk1 := hg.cell (hc.at (k := k) (by omega)) (by simp)
      have hnl : k ≤ 1024 := by omega
      have hA : IntKind.i64.wrap (k : Int) = k := by rw [IntKind.wrap_i64]; omega
      have hkk : (k : Int) < (k : Int) + 1 := by omega
      clear hcc g3 hc
      go_enter Try.func41, Try.ntmps41
      go_wp2
      go_quiet (first | (go_at_call 36; refine Calls.quiet_of_same (hwf _)))
      go_wp2
      have hgq := gb_drewN hg nq
      have x0 : (W1.drewN nq).cell? ⟨w.heap.size, 0, none⟩ = some (.int .i64 m) := c0
      have x1 : (W1.drewN nq).cell? ⟨w.heap.size, 1, none⟩ = some (.slice (some a) (k + 1) cap) := c1
      have x2 : (W1.drewN nq).cell? (a.add k) = some (.int .u64 (f k)) := hk1
      generalize W1.drewN nq = W2 at hgq x0 x1 x2 ⊢
      go_quiet (first | (go_at_call 47; refine Calls.quiet_of_same (lastMaskC m ml _)))
      go_wp2
      go_ret
      exact ⟨congrArg (fun x => Ending.returned (Value.bool x)) HV.out, gb_drewN hgq _⟩
  · have HV : Hid (validB m n f = false) := by unfold Hid validB; rw [decide_eq_false (show ¬ (n : Int) = ((m : Int) + 63) / 64 by omega)]; simp
    have g2' : ((n : Int) != (c : Int)) = true := by simp; omega
    clear hcc
    go_enter Try.func41, Try.ntmps41
    go_wp2
    go_quiet (first | (go_at_call 36; refine Calls.quiet_of_same (hwf _)))
    go_wp2
    go_ret
    exact ⟨by rw [HV.out]; rfl, gb_drewN hg _⟩

end Go.Proofs.Ytcdefpfnjjahgab
