/- What the small calls of package words answer: Half, and the inner ones on words and masks. -/
import Derived.Test.YtkgipjabkalnaaaDoorMem
import Derived.Deep.QuietTactic
import Derived.BigQuiet
import Derived.BigRegion
import Derived.Deep.RegionWith
import Derived.Test.YtkgipjabkalnaaaDoorProg
namespace Go.Proofs.YtkgipjabkalnaaaDoor.Wo
open Go.RowKit
set_option linter.unusedVariables false
set_option maxRecDepth 100000

theorem mixed : Tryd.prog.follows .mixedOrders = true := by kernel_rfl

theorem halfC (a b : Nat) (ha : a < 18446744073709551616) (hb : b < 18446744073709551616) (w : World) :
    Calls Tryd.prog 41 #[.int .u64 a, .int .u64 b] w fun e w' => e = .returned (.tuple #[.int .u64 ((a ^^^ b : Nat) : Int), .int .u64 ((a &&& b : Nat) : Int)]) ∧ w' = w := by
  have h1 := bits_xor_u64_nat a b ha hb
  have h2 := bits_and_u64_nat a b ha hb
  go_enter Tryd.func41, Tryd.ntmps41
  go_wp2
  go_ret2
  exact ⟨rfl, rfl⟩

theorem wordsForC (n : Nat) (h1 : n ≤ 65539) (w : World) :
    Calls Tryd.prog 23 #[.int .i64 n] w fun e w' => e = .returned (.int .i64 (((n + 63) / 64 : Nat) : Int)) ∧ w' = w := by
  go_enter Tryd.func23, Tryd.ntmps23
  go_wp2
  go_ret
  refine ⟨?_, rfl⟩
  show Ending.returned (Value.int _ (((n : Int) + 64 - 1) / 64)) = _
  rw [show ((n : Int) + 64 - 1) / 64 = (((n + 63) / 64 : Nat) : Int) by omega]

/-- How many bits of the last word are bits of a row of n. -/
def last (n : Nat) : Nat := 64 - ((n + 63) / 64 * 64 - n)

theorem lastMaskC (n : Nat) (h1 : n ≤ 65538) (w : World) :
    Calls Tryd.prog 24 #[.int .i64 n] w fun e w' => e = .returned (.int .u64 (Pk.low (last n))) ∧ w' = w := by
  obtain ⟨c, hc⟩ : ∃ c : Nat, c = (n + 63) / 64 := ⟨_, rfl⟩
  have c0 : n ≤ c * 64 := by omega
  have c1 : c * 64 ≤ n + 63 := by omega
  have hw := wordsForC n (by omega)
  rw [← hc] at hw
  obtain ⟨d, hd⟩ : ∃ d : Nat, d = c * 64 - n := ⟨_, rfl⟩
  have d0 : ((c : Int) * 64 - (n : Int)) = (d : Int) := by omega
  have dl : d ≤ 63 := by omega
  have hp : Hid ((18446744073709551615 : Int) / 2 ^ d = (Pk.low (last n) : Int)) := by
    unfold Hid
    have e1 : last n = 64 - d := by unfold last; omega
    rw [e1]
    unfold Pk.low
    have h2 : 2 ^ (64 - d) * 2 ^ d = 2 ^ 64 := by rw [← Nat.pow_add]; congr 1; omega
    have h3 : (18446744073709551615 : Nat) / 2 ^ d = 2 ^ (64 - d) - 1 := by
      have hp : 0 < 2 ^ d := Nat.two_pow_pos d
      have ha : 1 ≤ 2 ^ (64 - d) := Nat.one_le_two_pow
      have h4 : 18446744073709551615 = (2 ^ d - 1) + 2 ^ d * (2 ^ (64 - d) - 1) := by
        rw [Nat.mul_sub, Nat.mul_comm (2 ^ d) (2 ^ (64 - d)), h2]
        have : 2 ^ d * 1 ≤ 2 ^ 64 := by rw [Nat.mul_one]; exact Nat.pow_le_pow_right (by decide) (by omega)
        omega
      rw [h4]
      exact Nat.add_mul_div_left _ _ hp |>.trans (by rw [Nat.div_eq_of_lt (by omega), Nat.zero_add])
    have h5 : ((18446744073709551615 : Nat) / 2 ^ d : Nat) = ((2 ^ (64 - d) - 1 : Nat)) := h3
    have h6 := congrArg (fun x : Nat => (x : Int)) h5
    simpa using h6
  have hp2 : Hid ((18446744073709551615 : Int) / 2 ^ (c * 64 - n) = (Pk.low (last n) : Int)) := by rw [← hd]; exact hp
  clear hc
  go_enter Tryd.func24, Tryd.ntmps24
  go_wp2_with (first | (go_at_call 23; refine (hw _).mono ?_; rintro e w' ⟨rfl, rfl⟩))
  go_ret
  exact ⟨congrArg (fun x => Ending.returned (Value.int .u64 x)) hp2.out, rfl⟩

end Go.Proofs.YtkgipjabkalnaaaDoor.Wo
