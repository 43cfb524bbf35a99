/- Full of package words, the document's sums, and WordsSums: they are the same. -/
import Derived.Test.YtcdefpfnjjahgabW7
namespace Go.Proofs.Ytcdefpfnjjahgab
open Go.RowKit
set_option linter.unusedVariables false

theorem fullC (a b c : Nat) (ha : a < 18446744073709551616) (hb : b < 18446744073709551616) (hc : c < 18446744073709551616) (w : World) :
    Calls Try.prog 10 #[.int .u64 a, .int .u64 b, .int .u64 c] w fun e w' => e = .returned (.tuple #[.int .u64 ((a ^^^ b ^^^ c : Nat) : Int), .int .u64 ((Pk.maj a b c : Nat) : Int)]) ∧ w' = w := by
  obtain ⟨x, hx⟩ : ∃ x, x = a ^^^ b := ⟨_, rfl⟩
  obtain ⟨y, hy⟩ : ∃ y, y = a &&& b := ⟨_, rfl⟩
  have xl : x < 18446744073709551616 := by rw [hx]; exact Pk.xor_lt ha hb
  have yl : y < 18446744073709551616 := by rw [hy]; exact Pk.and_lt ha
  have H1 := halfC a b ha hb
  rw [← hx, ← hy] at H1
  have H2 := halfC x c xl hc
  have hm : Pk.maj a b c = y ||| (x &&& c) := by unfold Pk.maj; rw [hx, hy]
  rw [← hx, hm]
  have hor := bits_or_u64_nat y (x &&& c) yl (Pk.and_lt xl)
  clear hx hy hm
  go_enter Try.func10, Try.ntmps10
  go_wp2_with (first | (go_at_call_of 8 (Value.int IntKind.u64 (a : Int)); refine (H1 w).mono ?_; rintro e w' ⟨rfl, hw'⟩; subst w') | (go_at_call_of 8 (Value.int IntKind.u64 (c : Int)); refine (H2 w).mono ?_; rintro e w' ⟨rfl, hw'⟩; subst w'))
  go_ret2
  exact ⟨rfl, rfl⟩


/-- The bit at place k; the places below k; the bit in its place. -/
def dg (x k : Nat) : Nat := x / 2 ^ k % 2
def md (x k : Nat) : Nat := x % 2 ^ k
def bv (x k : Nat) : Nat := dg x k * 2 ^ k
theorem dg_lt (x k : Nat) : dg x k < 2 := Nat.mod_lt _ (by decide)
theorem dg_int (x k : Nat) : (x : Int) / 2 ^ k % 2 = (dg x k : Int) := by unfold dg; simp
theorem dg_tmod (x k : Nat) : ((x : Int) / 2 ^ k).tmod 2 = (dg x k : Int) := by
  have e : ((x / 2 ^ k : Nat) : Int) = (x : Int) / 2 ^ k := by simp
  rw [← e, Int.tmod_eq_emod_of_nonneg (Int.natCast_nonneg _)]
  unfold dg
  rfl
theorem md_next (x k : Nat) : md x k + bv x k = md x (k + 1) := by unfold md bv dg; rw [Pk.mod_pow_next]
theorem md_le (x k : Nat) : md x k ≤ x := Nat.mod_le _ _
theorem bv_wrap (x k : Nat) (hx : x < 18446744073709551616) : IntKind.u64.wrap ((dg x k : Int) * 2 ^ k) = (bv x k : Int) := by
  have h := md_next x k
  have h2 := md_le x (k + 1)
  have e : ((dg x k : Int) * 2 ^ k) = (bv x k : Int) := by unfold bv; simp
  rw [e, IntKind.wrap_u64]
  omega
theorem md_wrap (x k : Nat) (hx : x < 18446744073709551616) : IntKind.u64.wrap ((md x k : Int) + (bv x k : Int)) = (md x (k + 1) : Int) := by
  have h := md_next x k
  have h2 := md_le x (k + 1)
  rw [IntKind.wrap_u64]
  omega

theorem sumsC (a b c : Nat) (ha : a < 18446744073709551616) (hb : b < 18446744073709551616) (hc : c < 18446744073709551616) (w : World) :
    Calls Try.prog 9 #[.int .u64 a, .int .u64 b, .int .u64 c] w fun e w' => e = .returned (.tuple #[.int .u64 ((a ^^^ b ^^^ c : Nat) : Int), .int .u64 ((Pk.maj a b c : Nat) : Int)]) ∧ w' = w := by
  obtain ⟨u, hu⟩ : ∃ u, u = a ^^^ b ^^^ c := ⟨_, rfl⟩
  obtain ⟨v, hv⟩ : ∃ v, v = Pk.maj a b c := ⟨_, rfl⟩
  have ul : u < 18446744073709551616 := by rw [hu]; exact Pk.xor_lt (Pk.xor_lt ha hb) hc
  have vl : v < 18446744073709551616 := by rw [hv]; exact Pk.maj_lt ha hb
  have E1 : ∀ k, Hid ((dg a k + dg b k + dg c k) % 2 = dg u k) := fun k => by
    unfold Hid dg
    rw [hu, Pk.xor3_place]
  have E2 : ∀ k, Hid ((dg a k + dg b k + dg c k) / 2 = dg v k) := fun k => by
    unfold Hid dg
    rw [hv, Pk.maj_place]
  rw [← hu, ← hv]
  clear hu hv
  go_enter Try.func9, Try.ntmps9
  go_wp2
  go_loop [8, 9, 10] (fun x y i => ∃ k : Nat, k ≤ 64 ∧ i = .int .i64 k ∧ x = .int .u64 (md u k) ∧ y = .int .u64 (md v k)) (fun _ _ i => 64 - (intOf i).toNat)
  case atStart => exact ⟨0, by omega, rfl, by unfold md; rw [Nat.pow_zero, Nat.mod_one]; rfl, by unfold md; rw [Nat.pow_zero, Nat.mod_one]; rfl⟩
  case round =>
    obtain ⟨k, hk, rfl, rfl, rfl⟩ := hrel
    by_cases hlt : k < 64
    · have hlt' : (k : Int) < 64 := by omega
      have A0 := dg_tmod a k
      have A1 := dg_tmod b k
      have A2 := dg_tmod c k
      have L0 := dg_lt a k
      have L1 := dg_lt b k
      have L2 := dg_lt c k
      have L3 := dg_lt u k
      have L4 := dg_lt v k
      have F1 : ((dg a k : Int) + (dg b k : Int) + (dg c k : Int)) % 2 = (dg u k : Int) := by have := (E1 k).out; omega
      have F2 : ((dg a k : Int) + (dg b k : Int) + (dg c k : Int)) / 2 = (dg v k : Int) := by have := (E2 k).out; omega
      have F3 : ((dg a k : Int) + (dg b k : Int) + (dg c k : Int)).tmod 2 = (dg u k : Int) := by rw [Int.tmod_eq_emod_of_nonneg (by omega)]; exact F1
      have F4 : ((dg a k : Int) + (dg b k : Int) + (dg c k : Int)).tdiv 2 = (dg v k : Int) := by rw [Int.tdiv_eq_ediv_of_nonneg (by omega)]; exact F2
      have B1 := bv_wrap u k ul
      have B2 := bv_wrap v k vl
      have M1 := md_wrap u k ul
      have M2 := md_wrap v k vl
      clear E1 E2
      go_wp2
      go_round
      case rel => exact ⟨k + 1, by omega, by go_num, rfl, rfl⟩
      case measure => simp [intOf]; omega
    · have hlt' : ¬ (k : Int) < 64 := by omega
      have hk6 : k = 64 := by omega
      have P1 : Hid (md u k = u) := by unfold Hid md; rw [hk6]; exact Nat.mod_eq_of_lt ul
      have P2 : Hid (md v k = v) := by unfold Hid md; rw [hk6]; exact Nat.mod_eq_of_lt vl
      clear hk6
      go_wp2
      go_ret2
      refine ⟨?_, rfl⟩
      show Ending.returned (.tuple #[.int .u64 (md u k : Int), .int .u64 (md v k : Int)]) = _
      rw [P1.out, P2.out]

theorem walkSums (a b c : Nat) (ha : a < 18446744073709551616) (hb : b < 18446744073709551616) (hc : c < 18446744073709551616) (w : World) :
    Calls Try.prog 3 #[.int .u64 a, .int .u64 b, .int .u64 c] w fun e w' => e = .returned (.bool true) ∧ Below w.heap.size w w' := by
  have H1 := halfC a b ha hb
  have H2 := sumsC a b 0 ha hb (by decide)
  rw [Pk.maj_zero, Nat.xor_zero] at H2
  have H3 := fullC a b c ha hb hc
  have H4 := sumsC a b c ha hb hc
  generalize a ^^^ b ^^^ c = u at H3 H4
  generalize Pk.maj a b c = v at H3 H4
  generalize a ^^^ b = s at H1 H2
  generalize a &&& b = t at H1 H2
  go_enter Try.func3, Try.ntmps3
  go_wp2_with (first | (go_at_call 7; refine (aliveC w).mono ?_; rintro e w1 ⟨rfl, g1⟩) | (go_at_call 8; refine (H1 w1).mono ?_; rintro e w' ⟨rfl, hw'⟩; subst w') | (go_at_call_of 9 (Value.int IntKind.u64 0); refine (H2 w1).mono ?_; rintro e w' ⟨rfl, hw'⟩; subst w') | (go_at_call_of 9 (Value.int IntKind.u64 (c : Int)); refine (H4 w1).mono ?_; rintro e w' ⟨rfl, hw'⟩; subst w') | (go_at_call 10; refine (H3 w1).mono ?_; rintro e w' ⟨rfl, hw'⟩; subst w'))
  go_ret
  exact ⟨rfl, gb_below g1⟩

end Go.Proofs.Ytcdefpfnjjahgab
