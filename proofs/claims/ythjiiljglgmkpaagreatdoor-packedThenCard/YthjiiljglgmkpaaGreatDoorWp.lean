/- How many bits of a word are 1, reckoned by halves: plain facts on numbers, nothing of the program in it. -/
import Derived.RowKit
import Derived.Test.YthjiiljglgmkpaaGreatDoorPack
import Derived.Test.YthjiiljglgmkpaaGreatDoorWa
namespace Go.Proofs.YthjiiljglgmkpaaGreatDoor.Pk

/-- The sum of the first k digits in base b. -/
def sd (b : Nat) : Nat → Nat → Nat
  | 0, _ => 0
  | k + 1, x => x % b + sd b k (x / b)

/-- The first k digits in base b are at most c. -/
def dl (b c : Nat) : Nat → Nat → Prop
  | 0, _ => True
  | k + 1, x => x % b ≤ c ∧ dl b c k (x / b)

/-- Of k pairs of digits of s bits the lower ones. -/
def lo (s : Nat) : Nat → Nat → Nat
  | 0, _ => 0
  | k + 1, x => x % 2 ^ s + 2 ^ (2 * s) * lo s k (x / 2 ^ (2 * s))

def mk (s : Nat) : Nat → Nat
  | 0 => 0
  | k + 1 => (2 ^ s - 1) + 2 ^ (2 * s) * mk s k

theorem and_digits (t a b c d : Nat) (ha : a < 2 ^ t) (hc : c < 2 ^ t) : (a + 2 ^ t * b) &&& (c + 2 ^ t * d) = (a &&& c) + 2 ^ t * (b &&& d) := by
  apply Nat.eq_of_testBit_eq
  intro j
  have hac : a &&& c < 2 ^ t := Nat.lt_of_le_of_lt Nat.and_le_left ha
  rw [Nat.testBit_and, Nat.add_comm a, Nat.add_comm c, Nat.add_comm (a &&& c), Nat.testBit_two_pow_mul_add _ ha, Nat.testBit_two_pow_mul_add _ hc, Nat.testBit_two_pow_mul_add _ hac]
  split <;> simp [Nat.testBit_and]

theorem pow_split (s : Nat) : 2 ^ (2 * s) = 2 ^ s * 2 ^ s := by rw [Nat.two_mul, Nat.pow_add]

theorem and_mk (s : Nat) : ∀ k x, x &&& mk s k = lo s k x
  | 0, x => by simp [mk, lo]
  | k + 1, x => by
    have ih := and_mk s k (x / 2 ^ (2 * s))
    have h1 : 1 ≤ 2 ^ s := Nat.one_le_two_pow
    have hB := pow_split s
    have hle : 2 ^ s ≤ 2 ^ (2 * s) := Nat.pow_le_pow_right (by decide) (by omega)
    have hx : x = x % 2 ^ (2 * s) + 2 ^ (2 * s) * (x / 2 ^ (2 * s)) := (Nat.mod_add_div _ _).symm
    have hr := and_digits (2 * s) (x % 2 ^ (2 * s)) (x / 2 ^ (2 * s)) (2 ^ s - 1) (mk s k) (Nat.mod_lt _ (by omega)) (by omega)
    rw [mk, lo, ← ih]
    conv => lhs; rw [hx]
    rw [hr, Nat.and_two_pow_sub_one_eq_mod]
    congr 1
    exact Nat.mod_mod_of_dvd _ (by rw [hB]; exact Nat.dvd_mul_left _ _)

theorem digits_mod {B a m : Nat} (h : a < B) : (a + B * m) % B = a := by rw [Nat.add_mul_mod_self_left, Nat.mod_eq_of_lt h]
theorem digits_div {B a m : Nat} (hB : 0 < B) (h : a < B) : (a + B * m) / B = m := by rw [Nat.add_mul_div_left _ _ hB, Nat.div_eq_of_lt h, Nat.zero_add]

/-- Two halves added: the digits' sum stays, and no digit is more than twice as large. -/
theorem sd_half (s : Nat) (hs : 1 ≤ s) : ∀ k x, sd (2 ^ (2 * s)) k (lo s k (x / 2 ^ s) + lo s k x) = sd (2 ^ s) (2 * k) x
  | 0, x => by simp [sd]
  | k + 1, x => by
    have ih := sd_half s hs k (x / 2 ^ (2 * s))
    have hB := pow_split s
    have h2 : 2 ≤ 2 ^ s := by
      have : 2 ^ 1 ≤ 2 ^ s := Nat.pow_le_pow_right (by decide) hs
      simpa using this
    have hp : 0 < 2 ^ s := by omega
    have hm1 : x / 2 ^ s % 2 ^ s < 2 ^ s := Nat.mod_lt _ hp
    have hm2 : x % 2 ^ s < 2 ^ s := Nat.mod_lt _ hp
    have hbig : 2 ^ s * 2 ≤ 2 ^ s * 2 ^ s := Nat.mul_le_mul_left _ h2
    have hBp : 0 < 2 ^ (2 * s) := by rw [hB]; exact Nat.mul_pos hp hp
    have e1 : lo s (k + 1) (x / 2 ^ s) + lo s (k + 1) x = (x / 2 ^ s % 2 ^ s + x % 2 ^ s) + 2 ^ (2 * s) * (lo s k (x / 2 ^ s / 2 ^ (2 * s)) + lo s k (x / 2 ^ (2 * s))) := by
      rw [lo, lo, Nat.mul_add]; omega
    have e2 : x / 2 ^ s / 2 ^ (2 * s) = x / 2 ^ (2 * s) / 2 ^ s := by rw [Nat.div_div_eq_div_mul, Nat.div_div_eq_div_mul, Nat.mul_comm]
    have e3 : x / 2 ^ s / 2 ^ s = x / 2 ^ (2 * s) := by rw [Nat.div_div_eq_div_mul, hB]
    rw [e1, sd, digits_mod (by rw [hB]; omega), digits_div hBp (by rw [hB]; omega), e2, ih, show 2 * (k + 1) = 2 * k + 1 + 1 by omega, sd, sd, e3]
    omega

theorem dl_half (s c : Nat) (hs : 1 ≤ s) : ∀ k x, dl (2 ^ s) c (2 * k) x → dl (2 ^ (2 * s)) (c + c) k (lo s k (x / 2 ^ s) + lo s k x)
  | 0, x => fun _ => trivial
  | k + 1, x => by
    intro h
    rw [show 2 * (k + 1) = 2 * k + 1 + 1 by omega, dl, dl] at h
    obtain ⟨h0, h1, hr⟩ := h
    have hB := pow_split s
    have h2 : 2 ≤ 2 ^ s := by
      have : 2 ^ 1 ≤ 2 ^ s := Nat.pow_le_pow_right (by decide) hs
      simpa using this
    have hp : 0 < 2 ^ s := by omega
    have hm1 : x / 2 ^ s % 2 ^ s < 2 ^ s := Nat.mod_lt _ hp
    have hm2 : x % 2 ^ s < 2 ^ s := Nat.mod_lt _ hp
    have hbig : 2 ^ s * 2 ≤ 2 ^ s * 2 ^ s := Nat.mul_le_mul_left _ h2
    have hBp : 0 < 2 ^ (2 * s) := by rw [hB]; exact Nat.mul_pos hp hp
    have e1 : lo s (k + 1) (x / 2 ^ s) + lo s (k + 1) x = (x / 2 ^ s % 2 ^ s + x % 2 ^ s) + 2 ^ (2 * s) * (lo s k (x / 2 ^ s / 2 ^ (2 * s)) + lo s k (x / 2 ^ (2 * s))) := by
      rw [lo, lo, Nat.mul_add]; omega
    have e2 : x / 2 ^ s / 2 ^ (2 * s) = x / 2 ^ (2 * s) / 2 ^ s := by rw [Nat.div_div_eq_div_mul, Nat.div_div_eq_div_mul, Nat.mul_comm]
    have e3 : x / 2 ^ s / 2 ^ s = x / 2 ^ (2 * s) := by rw [Nat.div_div_eq_div_mul, hB]
    rw [e3] at hr
    rw [e1, dl, digits_mod (by rw [hB]; omega), digits_div hBp (by rw [hB]; omega), e2]
    exact ⟨by omega, dl_half s c hs k _ hr⟩

/-- Where the digits are small the halves may be added ahead of the mask. -/
theorem lo_sum : ∀ k x, dl 16 4 (2 * k) x → x / 256 ^ k = 0 → lo 4 k (x / 16 + x) = lo 4 k (x / 16) + lo 4 k x
  | 0, x => fun _ _ => rfl
  | k + 1, x => by
    intro h h0
    rw [show 2 * (k + 1) = 2 * k + 1 + 1 by omega, dl, dl] at h
    obtain ⟨ha, hb, hr⟩ := h
    have e3 : x / 16 / 16 = x / 256 := by omega
    rw [e3] at hr
    have hn : x / 256 % 16 ≤ 4 := by
      cases k with
      | zero =>
        have : x / 256 = 0 := by simpa using h0
        omega
      | succ k =>
        rw [show 2 * (k + 1) = 2 * k + 1 + 1 by omega, dl] at hr
        exact hr.1
    have h0' : x / 256 / 256 ^ k = 0 := by rw [Nat.div_div_eq_div_mul, Nat.mul_comm, ← Nat.pow_succ]; exact h0
    have ih := lo_sum k (x / 256) hr h0'
    have e1 : (x / 16 + x) % 2 ^ 4 = x / 16 % 2 ^ 4 + x % 2 ^ 4 := by simp only [Nat.reducePow]; omega
    have e2 : (x / 16 + x) / 2 ^ (2 * 4) = x / 256 / 16 + x / 256 := by simp only [Nat.reducePow, Nat.reduceMul]; omega
    have e4 : x / 16 / 2 ^ (2 * 4) = x / 256 / 16 := by simp only [Nat.reducePow, Nat.reduceMul]; omega
    have e5 : x / 2 ^ (2 * 4) = x / 256 := by simp only [Nat.reducePow, Nat.reduceMul]
    rw [lo, lo, lo, e1, e2, e4, e5, ih, Nat.mul_add]
    omega

theorem dl_two : ∀ k x, dl 2 1 k x
  | 0, _ => trivial
  | k + 1, x => ⟨by omega, dl_two k _⟩

/-- How many of the 64 bits are 1. -/
def pop (x : Nat) : Nat := sd 2 64 x

theorem lo_lt (s : Nat) (hs : 1 ≤ s) : ∀ k x, 2 * lo s k x < (2 ^ (2 * s)) ^ k + (2 ^ (2 * s)) ^ k
  | 0, x => by simp [lo]
  | k + 1, x => by
    have ih := lo_lt s hs k (x / 2 ^ (2 * s))
    have hB := pow_split s
    have hp : 0 < 2 ^ s := Nat.two_pow_pos s
    have hm2 : x % 2 ^ s < 2 ^ s := Nat.mod_lt _ hp
    have hle : 2 ^ s ≤ 2 ^ (2 * s) := Nat.pow_le_pow_right (by decide) (by omega)
    have h1 : lo s k (x / 2 ^ (2 * s)) + 1 ≤ (2 ^ (2 * s)) ^ k := by omega
    have h2 : 2 ^ (2 * s) * (lo s k (x / 2 ^ (2 * s)) + 1) ≤ 2 ^ (2 * s) * (2 ^ (2 * s)) ^ k := Nat.mul_le_mul_left _ h1
    rw [lo, Nat.pow_succ, Nat.mul_comm ((2 ^ (2 * s)) ^ k)]
    rw [Nat.mul_add, Nat.mul_one] at h2
    omega

/-! The steps of the reckoning. -/
def s1 (x : Nat) : Nat := (x / 2 &&& 6148914691236517205) + (x &&& 6148914691236517205)
def s2 (x : Nat) : Nat := (x / 4 &&& 3689348814741910323) + (x &&& 3689348814741910323)
def s3 (x : Nat) : Nat := (x / 16 + x) &&& 1085102592571150095

theorem s1_eq (x : Nat) : s1 x = lo 1 32 (x / 2 ^ 1) + lo 1 32 x := by
  have e : (6148914691236517205 : Nat) = mk 1 32 := by decide
  unfold s1
  rw [e, and_mk, and_mk, Nat.pow_one]
theorem s2_eq (x : Nat) : s2 x = lo 2 16 (x / 2 ^ 2) + lo 2 16 x := by
  have e : (3689348814741910323 : Nat) = mk 2 16 := by decide
  unfold s2
  rw [e, and_mk, and_mk]
theorem s1_lt (x : Nat) : s1 x < 18446744073709551616 := by
  have a : x / 2 &&& 6148914691236517205 ≤ 6148914691236517205 := Nat.and_le_right
  have b : x &&& 6148914691236517205 ≤ 6148914691236517205 := Nat.and_le_right
  unfold s1
  omega
theorem s2_lt (x : Nat) : s2 x ≤ 7378697629483820646 := by
  have a : x / 4 &&& 3689348814741910323 ≤ 3689348814741910323 := Nat.and_le_right
  have b : x &&& 3689348814741910323 ≤ 3689348814741910323 := Nat.and_le_right
  unfold s2
  omega
theorem s3_lt (x : Nat) : s3 x ≤ 1085102592571150095 := Nat.and_le_right

theorem s3_dl (x : Nat) : dl 256 8 8 (s3 (s2 (s1 x))) ∧ sd 256 8 (s3 (s2 (s1 x))) = pop x := by
  have e : (1085102592571150095 : Nat) = mk 4 8 := by decide
  have d1 : dl 4 2 32 (s1 x) := by rw [s1_eq]; exact dl_half 1 1 (by decide) 32 x (dl_two _ _)
  have d2 : dl 16 4 16 (s2 (s1 x)) := by rw [s2_eq (s1 x)]; exact dl_half 2 2 (by decide) 16 _ d1
  have h0 : s2 (s1 x) / 256 ^ 8 = 0 := Nat.div_eq_of_lt (Nat.lt_of_le_of_lt (s2_lt _) (by decide))
  have h3 : s3 (s2 (s1 x)) = lo 4 8 (s2 (s1 x) / 2 ^ 4) + lo 4 8 (s2 (s1 x)) := by
    unfold s3
    rw [e, and_mk]
    exact lo_sum 8 _ d2 h0
  refine ⟨by rw [h3]; exact dl_half 4 4 (by decide) 8 _ d2, ?_⟩
  have a3 := sd_half 4 (by decide) 8 (s2 (s1 x))
  have a2 := sd_half 2 (by decide) 16 (s1 x)
  have a1 := sd_half 1 (by decide) 32 x
  rw [← h3] at a3
  rw [← s2_eq] at a2
  rw [← s1_eq] at a1
  exact a3.trans (a2.trans a1)

/-- Eight digits added by leaps. -/
theorem leaps (x : Nat) (hx : x ≤ 1085102592571150095) (hd : dl 256 8 8 x) :
    x + x / 256 < 18446744073709551616 ∧ (x + x / 256) + (x + x / 256) / 65536 < 18446744073709551616 ∧
    ((x + x / 256) + (x + x / 256) / 65536) + ((x + x / 256) + (x + x / 256) / 65536) / 4294967296 < 18446744073709551616 ∧
    (((x + x / 256) + (x + x / 256) / 65536) + ((x + x / 256) + (x + x / 256) / 65536) / 4294967296) % 128 = sd 256 8 x := by
  simp only [dl, sd] at hd ⊢
  obtain ⟨h0, h1, h2, h3, h4, h5, h6, h7, _⟩ := hd
  obtain ⟨d0, e0⟩ : ∃ d, d = x % 256 := ⟨_, rfl⟩
  obtain ⟨x1, f1⟩ : ∃ d, d = x / 256 := ⟨_, rfl⟩
  rw [← f1] at h1 h2 h3 h4 h5 h6 h7 ⊢
  obtain ⟨d1, e1⟩ : ∃ d, d = x1 % 256 := ⟨_, rfl⟩
  obtain ⟨x2, f2⟩ : ∃ d, d = x1 / 256 := ⟨_, rfl⟩
  rw [← f2] at h2 h3 h4 h5 h6 h7 ⊢
  obtain ⟨d2, e2⟩ : ∃ d, d = x2 % 256 := ⟨_, rfl⟩
  obtain ⟨x3, f3⟩ : ∃ d, d = x2 / 256 := ⟨_, rfl⟩
  rw [← f3] at h3 h4 h5 h6 h7 ⊢
  obtain ⟨d3, e3⟩ : ∃ d, d = x3 % 256 := ⟨_, rfl⟩
  obtain ⟨x4, f4⟩ : ∃ d, d = x3 / 256 := ⟨_, rfl⟩
  rw [← f4] at h4 h5 h6 h7 ⊢
  obtain ⟨d4, e4⟩ : ∃ d, d = x4 % 256 := ⟨_, rfl⟩
  obtain ⟨x5, f5⟩ : ∃ d, d = x4 / 256 := ⟨_, rfl⟩
  rw [← f5] at h5 h6 h7 ⊢
  obtain ⟨d5, e5⟩ : ∃ d, d = x5 % 256 := ⟨_, rfl⟩
  obtain ⟨x6, f6⟩ : ∃ d, d = x5 / 256 := ⟨_, rfl⟩
  rw [← f6] at h6 h7 ⊢
  obtain ⟨d6, e6⟩ : ∃ d, d = x6 % 256 := ⟨_, rfl⟩
  obtain ⟨x7, f7⟩ : ∃ d, d = x6 / 256 := ⟨_, rfl⟩
  rw [← f7] at h7 ⊢
  rw [← e0, ← e1, ← e2, ← e3, ← e4, ← e5, ← e6]
  have hx7 : x7 < 256 := by omega
  rw [Nat.mod_eq_of_lt hx7] at h7 ⊢
  have hx0 : x = d0 + 256 * (d1 + 256 * (d2 + 256 * (d3 + 256 * (d4 + 256 * (d5 + 256 * (d6 + 256 * x7)))))) := by omega
  have hx1 : x1 = d1 + 256 * (d2 + 256 * (d3 + 256 * (d4 + 256 * (d5 + 256 * (d6 + 256 * x7))))) := by omega
  rw [← e0] at h0
  rw [← e1] at h1
  rw [← e2] at h2
  rw [← e3] at h3
  rw [← e4] at h4
  rw [← e5] at h5
  rw [← e6] at h6
  clear e0 e1 e2 e3 e4 e5 e6 f1 f2 f3 f4 f5 f6 f7
  have hy : x + x1 = ((d0 + d1) + 256 * (d1 + d2)) + 65536 * ((d2 + d3) + 256 * ((d3 + d4) + 256 * ((d4 + d5) + 256 * ((d5 + d6) + 256 * ((d6 + x7) + 256 * x7))))) := by rw [hx0, hx1]; clear hx0 hx1 hx; omega
  obtain ⟨R1, hR1⟩ : ∃ R, R = (d2 + d3) + 256 * ((d3 + d4) + 256 * ((d4 + d5) + 256 * ((d5 + d6) + 256 * ((d6 + x7) + 256 * x7)))) := ⟨_, rfl⟩
  have hy1 : (x + x1) / 65536 = R1 := by rw [hy, hR1]; exact digits_div (by decide) (by clear hx0 hx1 hx hy hR1; omega)
  rw [hy1]
  have hz : x + x1 + R1 = ((d0 + d1 + d2 + d3) + 256 * (d1 + d2 + d3 + d4) + 65536 * (d2 + d3 + d4 + d5) + 16777216 * (d3 + d4 + d5 + d6)) + 4294967296 * ((d4 + d5 + d6 + x7) + 256 * ((d5 + d6 + x7) + 256 * ((d6 + x7) + 256 * x7))) := by rw [hy, hR1]; clear hx0 hx1 hx hy hy1 hR1; omega
  obtain ⟨R2, hR2⟩ : ∃ R, R = (d4 + d5 + d6 + x7) + 256 * ((d5 + d6 + x7) + 256 * ((d6 + x7) + 256 * x7)) := ⟨_, rfl⟩
  have hz1 : (x + x1 + R1) / 4294967296 = R2 := by rw [hz, hR2]; exact digits_div (by decide) (by clear hx0 hx1 hx hy hy1 hR1 hz hR2; omega)
  rw [hz1]
  have ht : x + x1 + R1 + R2 = (d0 + d1 + d2 + d3 + d4 + d5 + d6 + x7) + 128 * (2 * (d1 + d2 + d3 + d4) + 512 * (d2 + d3 + d4 + d5) + 131072 * (d3 + d4 + d5 + d6) + 33554432 * R2 + 2 * ((d5 + d6 + x7) + 256 * ((d6 + x7) + 256 * x7))) := by
    rw [hz, ← hR2]
    conv => lhs; rhs; rw [hR2]
    clear hx0 hx1 hx hy hy1 hR1 hz hz1 hR2
    omega
  have hb1 : x + x1 < 18446744073709551616 := by rw [hy]; clear hx0 hx1 hx hy hy1 hR1 hz hz1 hR2 ht; omega
  have hb2 : R2 < 4294967296 := by rw [hR2]; clear hx0 hx1 hx hy hy1 hR1 hz hz1 hR2 ht hb1; omega
  have hb3 : x + x1 + R1 < 18446744069414584320 := by rw [hz]; clear hx0 hx1 hx hy hy1 hR1 hz hz1 hR2 ht hb1 hb2; omega
  refine ⟨hb1, by omega, by omega, ?_⟩
  rw [ht, Nat.add_mul_mod_self_left]
  clear hx0 hx1 hx hy hy1 hR1 hz hz1 hR2 ht hb1 hb2 hb3
  omega

end Go.Proofs.YthjiiljglgmkpaaGreatDoor.Pk
namespace Go.Proofs.YthjiiljglgmkpaaGreatDoor.Wo
open Go.RowKit
set_option linter.unusedVariables false

theorem wrapU {x : Int} {n : Nat} (h : x = (n : Int)) (hn : n < 18446744073709551616) : IntKind.u64.wrap x = (n : Int) := by rw [h, IntKind.wrap_u64]; omega
theorem andU (x : Nat) (c : Nat) (hx : x < 18446744073709551616) (hc : c < 18446744073709551616) : bits .and .u64 (x : Int) (c : Int) = ((x &&& c : Nat) : Int) := bits_and_u64_nat x c hx hc

theorem popC (x : Nat) (hx : x < 18446744073709551616) (w : World) :
    Calls Tryz.prog 190 #[.int .u64 x] w fun e w' => e = .returned (.int .i64 (Pk.pop x)) ∧ w' = w := by
  obtain ⟨hd, hsum⟩ := Pk.s3_dl x
  obtain ⟨y, hy⟩ : ∃ y, y = Pk.s1 x := ⟨_, rfl⟩
  have yl : y < 18446744073709551616 := by rw [hy]; exact Pk.s1_lt x
  have H1 : IntKind.u64.wrap (bits BinOp.and IntKind.u64 ((x : Int) / 2) 6148914691236517205 + bits BinOp.and IntKind.u64 (x : Int) 6148914691236517205) = (y : Int) := by
    refine wrapU ?_ yl
    have a := andU (x / 2) 6148914691236517205 (by omega) (by decide)
    have b := andU x 6148914691236517205 hx (by decide)
    rw [show ((x : Int) / 2) = ((x / 2 : Nat) : Int) by omega]
    rw [hy]
    unfold Pk.s1
    rw [Int.natCast_add, ← a, ← b]; rfl
  rw [← hy] at hd hsum
  clear hy
  obtain ⟨z, hz⟩ : ∃ z, z = Pk.s2 y := ⟨_, rfl⟩
  have zl : z ≤ 7378697629483820646 := by rw [hz]; exact Pk.s2_lt y
  have H2 : IntKind.u64.wrap (bits BinOp.and IntKind.u64 ((y : Int) / 4) 3689348814741910323 + bits BinOp.and IntKind.u64 (y : Int) 3689348814741910323) = (z : Int) := by
    refine wrapU ?_ (by omega)
    have a := andU (y / 4) 3689348814741910323 (by omega) (by decide)
    have b := andU y 3689348814741910323 yl (by decide)
    rw [show ((y : Int) / 4) = ((y / 4 : Nat) : Int) by omega]
    rw [hz]
    unfold Pk.s2
    rw [Int.natCast_add, ← a, ← b]; rfl
  rw [← hz] at hd hsum
  clear hz
  obtain ⟨u, hu⟩ : ∃ u, u = Pk.s3 z := ⟨_, rfl⟩
  have ul : u ≤ 1085102592571150095 := by rw [hu]; exact Pk.s3_lt z
  have H3 : bits BinOp.and IntKind.u64 ((z : Int) / 16 + (z : Int)) 1085102592571150095 = (u : Int) := by
    have a := andU (z / 16 + z) 1085102592571150095 (by omega) (by decide)
    rw [show ((z : Int) / 16 + (z : Int)) = ((z / 16 + z : Nat) : Int) by omega, hu]
    unfold Pk.s3
    rw [← a]; rfl
  rw [← hu] at hd hsum
  clear hu
  obtain ⟨b1, b2, b3, b4⟩ := Pk.leaps u ul hd
  obtain ⟨v, hv⟩ : ∃ v, v = u + u / 256 := ⟨_, rfl⟩
  rw [← hv] at b1 b2 b3 b4
  have H4 : IntKind.u64.wrap ((u : Int) + (u : Int) / 256) = (v : Int) := wrapU (by omega) b1
  have H4' : (u : Int) + (u : Int) / 256 = (v : Int) := by omega
  obtain ⟨q, hq⟩ : ∃ q, q = v + v / 65536 := ⟨_, rfl⟩
  rw [← hq] at b2 b3 b4
  have H5 : IntKind.u64.wrap ((v : Int) + (v : Int) / 65536) = (q : Int) := wrapU (by omega) b2
  have H5' : (v : Int) + (v : Int) / 65536 = (q : Int) := by omega
  obtain ⟨t, ht⟩ : ∃ t, t = q + q / 4294967296 := ⟨_, rfl⟩
  rw [← ht] at b3 b4
  have H6 : IntKind.u64.wrap ((q : Int) + (q : Int) / 4294967296) = (t : Int) := wrapU (by omega) b3
  have H6' : (q : Int) + (q : Int) / 4294967296 = (t : Int) := by omega
  have B4 : Hid (t % 128 = Pk.pop x) := b4.trans hsum
  have tl : t < 9223372036854775808 := by clear hd b4 H1 H2 H3; omega
  have HB : Hid (bits BinOp.and IntKind.i64 (t : Int) 127 = Pk.pop x) := by
    have hm := bits_mask .i64 63 (by decide) (fun n h0 h1 => by rw [IntKind.wrap_i64]; omega) 7 (by decide) (t : Int) (by omega) (by omega)
    have e1 : ((2 : Int) ^ 7 - 1) = 127 := by decide
    have e2 : ((2 : Int) ^ 7) = 128 := by decide
    rw [e1, e2] at hm
    unfold Hid
    rw [hm, ← B4.out]
    clear hd b4 H1 H2 H3 H4 H5 H6 H4' H5' H6' hv hq ht
    omega
  clear hv hq ht b4 hsum hd B4
  go_enter Tryz.func190, Tryz.ntmps190
  go_wp2
  go_ret
  exact ⟨congrArg (fun x => Ending.returned (Value.int .i64 x)) HB.out, rfl⟩

/-- How many of the first m places have a 1. -/
def cnt (p : Nat → Bool) : Nat → Nat
  | 0 => 0
  | i + 1 => cnt p i + (if p i then 1 else 0)
theorem cnt_le (p : Nat → Bool) : ∀ m, cnt p m ≤ m
  | 0 => Nat.le_refl _
  | m + 1 => by have := cnt_le p m; rw [cnt]; split <;> omega
theorem cnt_add (p : Nat → Bool) (a : Nat) : ∀ b, cnt p (a + b) = cnt p a + cnt (fun i => p (a + i)) b
  | 0 => rfl
  | b + 1 => by rw [← Nat.add_assoc, cnt, cnt_add p a b, cnt]; omega
theorem cnt_head (p : Nat → Bool) (m : Nat) : cnt p (m + 1) = (if p 0 then 1 else 0) + cnt (fun i => p (i + 1)) m := by
  rw [Nat.add_comm m 1, cnt_add]
  have : (fun i => p (1 + i)) = (fun i => p (i + 1)) := by funext i; rw [Nat.add_comm]
  rw [this, cnt, cnt]; omega
theorem cnt_congr {p q : Nat → Bool} : ∀ {m : Nat}, (∀ i, i < m → p i = q i) → cnt p m = cnt q m
  | 0, _ => rfl
  | m + 1, h => by rw [cnt, cnt, cnt_congr (fun i hi => h i (by omega)), h m (by omega)]
theorem cnt_none {p : Nat → Bool} : ∀ {m : Nat}, (∀ i, i < m → p i = false) → cnt p m = 0
  | 0, _ => rfl
  | m + 1, h => by rw [cnt, cnt_none (fun i hi => h i (by omega)), h m (by omega)]; rfl
theorem sd_cnt : ∀ m x, Pk.sd 2 m x = cnt (fun i => x.testBit i) m
  | 0, _ => rfl
  | m + 1, x => by
    rw [Pk.sd, sd_cnt m (x / 2), cnt_head]
    have h0 : x % 2 = if x.testBit 0 then 1 else 0 := by have := Pk.bit_div x 0; simpa using this
    have h1 : (fun i => (x / 2).testBit i) = (fun i => x.testBit (i + 1)) := by funext i; rw [Nat.testBit_succ]
    rw [h0, h1]
theorem pop_pack (p : Nat → Bool) (k : Nat) : Pk.pop (Pk.pack p k) = cnt (fun j => p (64 * k + j)) 64 := by
  unfold Pk.pop
  rw [sd_cnt]
  exact cnt_congr fun i hi => by rw [Pk.testBit_pack]; simp [hi]
theorem cnt_word (p : Nat → Bool) (k : Nat) : cnt p (64 * (k + 1)) = cnt p (64 * k) + Pk.pop (Pk.pack p k) := by
  rw [show 64 * (k + 1) = 64 * k + 64 by omega, cnt_add, pop_pack]
theorem pop_le (x : Nat) : Pk.pop x ≤ 64 := by unfold Pk.pop; rw [sd_cnt]; exact cnt_le _ _
theorem cnt_row {m n : Nat} {p : Nat → Bool} (M : MayBe m n p) : cnt p (64 * n) = cnt p m := by
  have h := M.words
  obtain ⟨d, hd⟩ : ∃ d, 64 * n = m + d := ⟨64 * n - m, by omega⟩
  have h0 := cnt_none (p := fun i => p (m + i)) (m := d) (fun i hi => M.tail _ (by omega))
  rw [hd, cnt_add, h0]; rfl

theorem onesC (m n cap : Nat) (sp : Option Addr) (p : Nat → Bool) (M : MayBe m n p) (w : World) (hc : Wd w sp n (Pk.pack p)) :
    Calls Tryz.prog 189 #[.agg #[.int .i64 m, .slice sp n cap]] w fun e w' => e = .returned (.tuple #[.int .i64 (cnt p m), .int .i64 0]) ∧ w.grownBy w' none := by
  obtain ⟨W1, hW, c0, c1, sz, hg, hB⟩ := box2 w (.int .i64 m) (.slice sp n cap) 33
  have hc1 := hc.kept hg (by simp)
  have hnl := (MayBe.len M)
  go_enter Tryz.func189, Tryz.ntmps189
  go_wp2_with (first | (go_at_call 24; refine (validP m n cap sp p M W1 hc1).mono ?_; rintro e w2 ⟨rfl, g2⟩; have hB2 := hB.kept g2 (by simp); have x0 := hB2.cell0; have x1 := hB2.cell1; have hc2 := hc1.kept g2 (by simp)))
  go_loop [4, 13] (fun v i => ∃ k : Nat, k ≤ n ∧ i = .int .i64 k ∧ ∃ s : Nat, v = .int .i64 s ∧ s ≤ 64 * k ∧ Hid (s = cnt p (64 * k))) (fun _ i => n - (intOf i).toNat)
  case atStart => exact ⟨0, Nat.zero_le _, rfl, 0, rfl, by omega, rfl⟩
  case round =>
    obtain ⟨k, hk, rfl, s, rfl, hs, hsd⟩ := hrel
    have hsl : s ≤ 65600 := by omega
    by_cases hlt : k < n
    · obtain ⟨a, rfl⟩ := hc.some (by omega)
      have hca := hc2.at hlt
      have hpl := pop_le (Pk.pack p k)
      have hlt' : (k : Int) < (n : Int) := by omega
      go_wp2_with (first | (go_at_call 190; refine (popC (Pk.pack p k) (Pk.pack_lt _ _) _).mono ?_; rintro e w' ⟨rfl, rfl⟩))
      go_round
      case rel => exact ⟨k + 1, by omega, by go_num, s + Pk.pop (Pk.pack p k), by go_num, by omega, by unfold Hid; rw [cnt_word, ← hsd.out]⟩
      case measure => simp [intOf]; omega
    · have hkn : k = n := by omega
      have hlt' : ¬ (k : Int) < (n : Int) := by omega
      have HS : Hid ((s : Int) = cnt p m) := by unfold Hid; rw [hsd.out, hkn, cnt_row M]
      go_wp2
      go_ret2
      exact ⟨congrArg (fun x => Ending.returned (.tuple #[.int .i64 x, .int .i64 0])) HS.out, gb_trans hg g2⟩

end Go.Proofs.YthjiiljglgmkpaaGreatDoor.Wo
