/- Full of package words; WordsPlaces: at each of 64 places the sum is the sum and twice the carry. -/
import Derived.Test.YtcdefpfnjjahgacW7
namespace Go.Proofs.Ytcdefpfnjjahgac
open Go.RowKit
set_option linter.unusedVariables false

theorem fullC (a b c : Nat) (ha : a < 18446744073709551616) (hb : b < 18446744073709551616) (hc : c < 18446744073709551616) (w : World) :
    Calls Try.prog 12 #[.int .u64 a, .int .u64 b, .int .u64 c] w fun e w' => e = .returned (.tuple #[.int .u64 ((a ^^^ b ^^^ c : Nat) : Int), .int .u64 ((Pk.maj a b c : Nat) : Int)]) ∧ w' = w := by
  obtain ⟨x, hx⟩ : ∃ x, x = a ^^^ b := ⟨_, rfl⟩
  obtain ⟨y, hy⟩ : ∃ y, y = a &&& b := ⟨_, rfl⟩
  have xl : x < 18446744073709551616 := by rw [hx]; exact Pk.xor_lt ha hb
  have yl : y < 18446744073709551616 := by rw [hy]; exact Pk.and_lt ha
  have H1 := halfC a b ha hb
  rw [← hx, ← hy] at H1
  have H2 := halfC x c xl hc
  have hm : Pk.maj a b c = y ||| (x &&& c) := by unfold Pk.maj; rw [hx, hy]
  rw [← hx, hm]
  have hor := bits_or_u64_nat y (x &&& c) yl (Pk.and_lt xl)
  clear hx hy hm
  go_enter Try.func12, Try.ntmps12
  go_wp2_with (first | (go_at_call_of 11 (Value.int IntKind.u64 (a : Int)); refine (H1 w).mono ?_; rintro e w' ⟨rfl, hw'⟩; subst w') | (go_at_call_of 11 (Value.int IntKind.u64 (c : Int)); refine (H2 w).mono ?_; rintro e w' ⟨rfl, hw'⟩; subst w'))
  go_ret2
  exact ⟨rfl, rfl⟩

/-- The bit at place k. -/
def dg (x k : Nat) : Nat := x / 2 ^ k % 2
theorem dg_lt (x k : Nat) : dg x k < 2 := Nat.mod_lt _ (by decide)
theorem and_one (x k : Nat) (hx : x < 18446744073709551616) : bits .and .u64 ((x : Int) / 2 ^ k) 1 = (dg x k : Int) := by
  have h := bits_and_u64_nat (x / 2 ^ k) 1 (Nat.lt_of_le_of_lt (Nat.div_le_self _ _) hx) (by decide)
  have e : ((x / 2 ^ k : Nat) : Int) = (x : Int) / 2 ^ k := by simp
  rw [← e]
  have e1 : ((1 : Nat) : Int) = 1 := rfl
  rw [e1] at h
  rw [h]
  unfold dg
  rw [Nat.and_one_is_mod]

theorem walkPlaces (a b c : Nat) (ha : a < 18446744073709551616) (hb : b < 18446744073709551616) (hc : c < 18446744073709551616) (w : World) :
    Calls Try.prog 4 #[.int .u64 a, .int .u64 b, .int .u64 c] w fun e w' => e = .returned (.bool true) ∧ Below w.heap.size w w' := by
  obtain ⟨s, hs⟩ : ∃ s, s = a ^^^ b := ⟨_, rfl⟩
  obtain ⟨t, ht⟩ : ∃ t, t = a &&& b := ⟨_, rfl⟩
  obtain ⟨u, hu⟩ : ∃ u, u = a ^^^ b ^^^ c := ⟨_, rfl⟩
  obtain ⟨v, hv⟩ : ∃ v, v = Pk.maj a b c := ⟨_, rfl⟩
  have sl : s < 18446744073709551616 := by rw [hs]; exact Pk.xor_lt ha hb
  have tl : t < 18446744073709551616 := by rw [ht]; exact Pk.and_lt ha
  have ul : u < 18446744073709551616 := by rw [hu]; exact Pk.xor_lt (Pk.xor_lt ha hb) hc
  have vl : v < 18446744073709551616 := by rw [hv]; exact Pk.maj_lt ha hb
  have E1 : ∀ k, Hid (dg a k + dg b k = dg s k + 2 * dg t k) := fun k => by
    unfold Hid dg
    rw [hs, ht, Pk.xor_place, Pk.and_bits]
    omega
  have E2 : ∀ k, Hid (dg a k + dg b k + dg c k = dg u k + 2 * dg v k) := fun k => by
    unfold Hid dg
    rw [hu, hv, Pk.xor3_place, Pk.maj_place]
    omega
  have H1 := halfC a b ha hb
  rw [← hs, ← ht] at H1
  have H2 := fullC a b c ha hb hc
  rw [← hu, ← hv] at H2
  clear hs ht hu hv
  go_enter Try.func4, Try.ntmps4
  go_wp2_with (first | (go_at_call 5; refine (aliveC w).mono ?_; rintro e w1 ⟨rfl, g1⟩) | (go_at_call 11; refine (H1 w1).mono ?_; rintro e w' ⟨rfl, hw'⟩; subst w') | (go_at_call 12; refine (H2 w1).mono ?_; rintro e w' ⟨rfl, hw'⟩; subst w'))
  go_loop [12] (fun i => ∃ k : Nat, k ≤ 64 ∧ i = .int .i64 k) (fun i => 64 - (intOf i).toNat)
  case atStart => exact ⟨0, by omega, rfl⟩
  case round =>
    obtain ⟨k, hk, rfl⟩ := hrel
    by_cases hlt : k < 64
    · have hlt' : (k : Int) < 64 := by omega
      have A0 := and_one a k ha
      have A1 := and_one b k hb
      have A2 := and_one c k hc
      have A3 := and_one s k sl
      have A4 := and_one t k tl
      have A5 := and_one u k ul
      have A6 := and_one v k vl
      have L0 := dg_lt a k
      have L1 := dg_lt b k
      have L2 := dg_lt c k
      have L3 := dg_lt s k
      have L4 := dg_lt t k
      have L5 := dg_lt u k
      have L6 := dg_lt v k
      have D1 := E1 k
      have D2 := E2 k
      clear E1 E2
      have F1 : ((dg a k : Int) + (dg b k : Int) != (dg s k : Int) + 2 * (dg t k : Int)) = false := by have := D1.out; simp; omega
      have F2 : ((dg a k : Int) + (dg b k : Int) + (dg c k : Int) != (dg u k : Int) + 2 * (dg v k : Int)) = false := by have := D2.out; simp; omega
      go_wp2
      go_round
      case rel => exact ⟨k + 1, by omega, by go_num⟩
      case measure => simp [intOf]; omega
    · have hlt' : ¬ (k : Int) < 64 := by omega
      go_wp2
      go_ret
      exact ⟨rfl, gb_below g1⟩

end Go.Proofs.Ytcdefpfnjjahgac
