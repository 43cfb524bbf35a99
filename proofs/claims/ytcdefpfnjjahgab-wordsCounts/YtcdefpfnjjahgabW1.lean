/- What the small calls of package words answer: Half, and the inner ones on words and masks. -/
import Derived.Test.YtcdefpfnjjahgabMem
import Derived.Deep.QuietTactic
import Derived.BigQuiet
import Derived.BigRegion
import Derived.Deep.RegionWith
import Derived.Test.YtcdefpfnjjahgabProg
namespace Go.Proofs.Ytcdefpfnjjahgab
open Go.RowKit
set_option linter.unusedVariables false

theorem mixed : Try.prog.follows .mixedOrders = true := by kernel_rfl

theorem halfC (a b : Nat) (ha : a < 18446744073709551616) (hb : b < 18446744073709551616) (w : World) :
    Calls Try.prog 8 #[.int .u64 a, .int .u64 b] w fun e w' => e = .returned (.tuple #[.int .u64 ((a ^^^ b : Nat) : Int), .int .u64 ((a &&& b : Nat) : Int)]) ∧ w' = w := by
  have h1 := bits_xor_u64_nat a b ha hb
  have h2 := bits_and_u64_nat a b ha hb
  go_enter Try.func8, Try.ntmps8
  go_wp2
  go_ret2
  exact ⟨rfl, rfl⟩

theorem wordsForC (n : Nat) (h1 : n ≤ 65539) (w : World) :
    Calls Try.prog 36 #[.int .i64 n] w fun e w' => e = .returned (.int .i64 (((n + 63) / 64 : Nat) : Int)) ∧ w' = w := by
  go_enter Try.func36, Try.ntmps36
  go_wp2
  go_ret
  refine ⟨?_, rfl⟩
  show Ending.returned (Value.int _ (((n : Int) + 64 - 1) / 64)) = _
  rw [show ((n : Int) + 64 - 1) / 64 = (((n + 63) / 64 : Nat) : Int) by omega]

theorem placeMaskC (i : Nat) (h1 : i ≤ 100000) (w : World) :
    Calls Try.prog 48 #[.int .i64 i] w fun e w' => e = .returned (.int .u64 (Pk.one i)) ∧ w' = w := by
  have hp : Hid (IntKind.u64.wrap (2 ^ (i % 64)) = (Pk.one i : Int)) := by
    have h := Pk.one_lt i
    unfold Hid
    rw [IntKind.wrap_u64]
    have e : (2 : Int) ^ (i % 64) = (Pk.one i : Int) := by unfold Pk.one; simp
    rw [e]
    omega
  go_enter Try.func48, Try.ntmps48
  go_wp2
  go_ret
  exact ⟨congrArg (fun x => Ending.returned (Value.int .u64 x)) hp.out, rfl⟩

/-- How many bits of the last word are bits of a row of n. -/
def last (n : Nat) : Nat := 64 - ((n + 63) / 64 * 64 - n)

theorem lastMaskC (n : Nat) (h1 : n ≤ 65538) (w : World) :
    Calls Try.prog 47 #[.int .i64 n] w fun e w' => e = .returned (.int .u64 (Pk.low (last n))) ∧ w' = w := by
  obtain ⟨c, hc⟩ : ∃ c : Nat, c = (n + 63) / 64 := ⟨_, rfl⟩
  have c0 : n ≤ c * 64 := by omega
  have c1 : c * 64 ≤ n + 63 := by omega
  have hw := wordsForC n (by omega)
  rw [← hc] at hw
  obtain ⟨d, hd⟩ : ∃ d : Nat, d = c * 64 - n := ⟨_, rfl⟩
  have d0 : ((c : Int) * 64 - (n : Int)) = (d : Int) := by omega
  have dl : d ≤ 63 := by omega
  have hp : Hid ((18446744073709551615 : Int) / 2 ^ d = (Pk.low (last n) : Int)) := by
    unfold Hid
    have e1 : last n = 64 - d := by unfold last; omega
    rw [e1]
    unfold Pk.low
    have h2 : 2 ^ (64 - d) * 2 ^ d = 2 ^ 64 := by rw [← Nat.pow_add]; congr 1; omega
    have h3 : (18446744073709551615 : Nat) / 2 ^ d = 2 ^ (64 - d) - 1 := by
      have hp : 0 < 2 ^ d := Nat.two_pow_pos d
      have ha : 1 ≤ 2 ^ (64 - d) := Nat.one_le_two_pow
      have h4 : 18446744073709551615 = (2 ^ d - 1) + 2 ^ d * (2 ^ (64 - d) - 1) := by
        rw [Nat.mul_sub, Nat.mul_comm (2 ^ d) (2 ^ (64 - d)), h2]
        have : 2 ^ d * 1 ≤ 2 ^ 64 := by rw [Nat.mul_one]; exact Nat.pow_le_pow_right (by decide) (by omega)
        omega
      rw [h4]
      exact Nat.add_mul_div_left _ _ hp |>.trans (by rw [Nat.div_eq_of_lt (by omega), Nat.zero_add])
    have h5 : ((18446744073709551615 : Nat) / 2 ^ d : Nat) = ((2 ^ (64 - d) - 1 : Nat)) := h3
    have h6 := congrArg (fun x : Nat => (x : Int)) h5
    simpa using h6
  have hp2 : Hid ((18446744073709551615 : Int) / 2 ^ (c * 64 - n) = (Pk.low (last n) : Int)) := by rw [← hd]; exact hp
  clear hc
  go_enter Try.func47, Try.ntmps47
  go_wp2_with (first | (go_at_call 36; refine (hw _).mono ?_; rintro e w' ⟨rfl, rfl⟩))
  go_ret
  exact ⟨congrArg (fun x => Ending.returned (Value.int .u64 x)) hp2.out, rfl⟩

theorem isPlaceC (N i : Int) (v : Value) (w : World) :
    Calls Try.prog 45 #[.agg #[.int .i64 N, v], .int .i64 i] w fun e w' => e = .returned (.bool (decide (0 ≤ i) && decide (i < N))) ∧ w.grownBy w' none := by
  have hg := World.grownBy_alloc w (.cells #[.int .i64 N, v] 31) none
  by_cases h : 0 ≤ i
  · go_enter Try.func45, Try.ntmps45
    go_wp2
    go_ret
    exact ⟨by simp [h], hg⟩
  · have h' : i < 0 := by omega
    go_enter Try.func45, Try.ntmps45
    go_wp2
    go_ret
    exact ⟨congrArg (fun x => Ending.returned (Value.bool x)) (by rw [decide_eq_false (show ¬ 0 ≤ i by omega)]; rfl), hg⟩

theorem hasC (N : Int) (i n cap : Nat) (sp : Option Addr) (p : Nat → Bool) (hi : i < 64 * n) (hn : n ≤ 1025) (w : World) (hc : Wd w sp n (Pk.pack p)) :
    Calls Try.prog 43 #[.agg #[.int .i64 N, .slice sp n cap], .int .i64 i] w fun e w' => e = .returned (.bool (p i)) ∧ w.grownBy w' none := by
  obtain ⟨a, rfl⟩ := hc.some (by omega)
  have hk : w.cell? (a.add (i / 64)) = some (.int .u64 (Pk.pack p (i / 64))) := hc.at (by omega)
  have hb : i / 64 < n := by omega
  have hbi : (i : Int) / 64 < n := by omega
  have ht : ((i : Int) / 64).toNat = i / 64 := by omega
  have hd : IntKind.i64.wrap ((i : Int) / 64) = ((i / 64 : Nat) : Int) := by rw [IntKind.wrap_i64]; omega
  have hand := bits_and_u64_nat (Pk.pack p (i / 64)) (Pk.one i) (Pk.pack_lt _ _) (Pk.one_lt i)
  obtain ⟨W1, hW, c0, c1, sz, hg, _⟩ := box2 w (.int .i64 N) (.slice (some a) n cap) 31
  have hk1 := hg.cell hk (by simp)
  clear hc
  go_enter Try.func43, Try.ntmps43
  go_wp2
  go_quiet (first | (go_at_call 48; refine Calls.quiet_of_same (placeMaskC i (by omega) _)))
  go_wp2
  go_ret
  refine ⟨?_, gb_drewN hg _⟩
  refine congrArg (fun x => Ending.returned (Value.bool x)) ?_
  have hp := Pk.and_place p i
  cases hpi : p i with
  | false => rw [hpi] at hp; simp [hp.2 rfl]
  | true =>
    have : Pk.pack p (i / 64) &&& Pk.one i ≠ 0 := fun h => by have := hp.1 h; rw [hpi] at this; cases this
    simp [this]

theorem raiseC (N : Int) (i b n cap : Nat) (p : Nat → Bool) (hi : i < 64 * n) (hn : n ≤ 1025) (w : World) (hr : Row w 22 b n p) :
    Calls Try.prog 42 #[.agg #[.int .i64 N, .slice (some ⟨b, 0, none⟩) n cap], .int .i64 i] w fun e w' => e = .returned (.tuple #[]) ∧ Row w' 22 b n (fun j => p j || j == i) ∧ w.grownBy w' (some b) := by
  obtain ⟨W1, hW, c0, c1, sz, hg, _⟩ := box2 w (.int .i64 N) (.slice (some ⟨b, 0, none⟩) n cap) 31
  have hr1 := hr.kept hg (by simp)
  have hk := World.rowIs.cell hr1 (i := i / 64) (by omega)
  have hf := World.rowIs.frozen hr1 (i / 64)
  have hb : i / 64 < n := by omega
  have hbi : (i : Int) / 64 < n := by omega
  have ht : ((i : Int) / 64).toNat = i / 64 := by omega
  have hd : IntKind.i64.wrap ((i : Int) / 64) = ((i / 64 : Nat) : Int) := by rw [IntKind.wrap_i64]; omega
  have hi0 : (0 : Int) ≤ (i : Int) / 64 := by omega
  have hor := bits_or_u64_nat (Pk.pack p (i / 64)) (Pk.one i) (Pk.pack_lt _ _) (Pk.one_lt i)
  have R : Row (W1.setCell ⟨b, i / 64, none⟩ (.int .u64 ((Pk.pack p (i / 64) ||| Pk.one i : Nat) : Int))) 22 b n (fun j => p j || j == i) := by
    refine hr1.set ?_ ?_
    · have := Pk.pack_raise p i (i / 64)
      rw [if_pos rfl] at this
      exact this
    · intro j _ hj
      have : j ≠ i := fun e => hj (by rw [e])
      simp [this]
  have G : w.grownBy (W1.setCell ⟨b, i / 64, none⟩ (.int .u64 ((Pk.pack p (i / 64) ||| Pk.one i : Nat) : Int))) (some b) := gb_set (gb_none (World.grownBy.refl _ _) hg) _ _
  clear hr hr1
  go_enter Try.func42, Try.ntmps42
  go_wp2
  refine region_tail 9 mixed (by kernel_rfl) ?_
  simp only [List.take_succ_cons, List.take_zero, List.drop_succ_cons, List.drop_zero]
  repeat still_step
  still_call (placeMaskC i (by omega) _)
  repeat still_step
  refine wpStill_nil ?_
  go_wp2
  go_end0
  exact ⟨rfl, R, gb_drew G⟩

end Go.Proofs.Ytcdefpfnjjahgab
