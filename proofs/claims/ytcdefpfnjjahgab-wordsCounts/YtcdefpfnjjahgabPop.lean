/- How many bits of a word are 1, reckoned by halves: plain facts on numbers, nothing of the program in it. -/
import Derived.RowKit
import Derived.Test.YtcdefpfnjjahgabPack
namespace Go.Proofs.Ytcdefpfnjjahgab.Pk

/-- The sum of the first k digits in base b. -/
def sd (b : Nat) : Nat → Nat → Nat
  | 0, _ => 0
  | k + 1, x => x % b + sd b k (x / b)

/-- The first k digits in base b are at most c. -/
def dl (b c : Nat) : Nat → Nat → Prop
  | 0, _ => True
  | k + 1, x => x % b ≤ c ∧ dl b c k (x / b)

/-- Of k pairs of digits of s bits the lower ones. -/
def lo (s : Nat) : Nat → Nat → Nat
  | 0, _ => 0
  | k + 1, x => x % 2 ^ s + 2 ^ (2 * s) * lo s k (x / 2 ^ (2 * s))

def mk (s : Nat) : Nat → Nat
  | 0 => 0
  | k + 1 => (2 ^ s - 1) + 2 ^ (2 * s) * mk s k

theorem and_digits (t a b c d : Nat) (ha : a < 2 ^ t) (hc : c < 2 ^ t) : (a + 2 ^ t * b) &&& (c + 2 ^ t * d) = (a &&& c) + 2 ^ t * (b &&& d) := by
  apply Nat.eq_of_testBit_eq
  intro j
  have hac : a &&& c < 2 ^ t := Nat.lt_of_le_of_lt Nat.and_le_left ha
  rw [Nat.testBit_and, Nat.add_comm a, Nat.add_comm c, Nat.add_comm (a &&& c), Nat.testBit_two_pow_mul_add _ ha, Nat.testBit_two_pow_mul_add _ hc, Nat.testBit_two_pow_mul_add _ hac]
  split <;> simp [Nat.testBit_and]

theorem pow_split (s : Nat) : 2 ^ (2 * s) = 2 ^ s * 2 ^ s := by rw [Nat.two_mul, Nat.pow_add]

theorem and_mk (s : Nat) : ∀ k x, x &&& mk s k = lo s k x
  | 0, x => by simp [mk, lo]
  | k + 1, x => by
    have ih := and_mk s k (x / 2 ^ (2 * s))
    have h1 : 1 ≤ 2 ^ s := Nat.one_le_two_pow
    have hB := pow_split s
    have hle : 2 ^ s ≤ 2 ^ (2 * s) := Nat.pow_le_pow_right (by decide) (by omega)
    have hx : x = x % 2 ^ (2 * s) + 2 ^ (2 * s) * (x / 2 ^ (2 * s)) := (Nat.mod_add_div _ _).symm
    have hr := and_digits (2 * s) (x % 2 ^ (2 * s)) (x / 2 ^ (2 * s)) (2 ^ s - 1) (mk s k) (Nat.mod_lt _ (by omega)) (by omega)
    rw [mk, lo, ← ih]
    conv => lhs; rw [hx]
    rw [hr, Nat.and_two_pow_sub_one_eq_mod]
    congr 1
    exact Nat.mod_mod_of_dvd _ (by rw [hB]; exact Nat.dvd_mul_left _ _)

theorem digits_mod {B a m : Nat} (h : a < B) : (a + B * m) % B = a := by rw [Nat.add_mul_mod_self_left, Nat.mod_eq_of_lt h]
theorem digits_div {B a m : Nat} (hB : 0 < B) (h : a < B) : (a + B * m) / B = m := by rw [Nat.add_mul_div_left _ _ hB, Nat.div_eq_of_lt h, Nat.zero_add]

/-- Two halves added: the digits' sum stays, and no digit is more than twice as large. -/
theorem sd_half (s : Nat) (hs : 1 ≤ s) : ∀ k x, sd (2 ^ (2 * s)) k (lo s k (x / 2 ^ s) + lo s k x) = sd (2 ^ s) (2 * k) x
  | 0, x => by simp [sd]
  | k + 1, x => by
    have ih := sd_half s hs k (x / 2 ^ (2 * s))
    have hB := pow_split s
    have h2 : 2 ≤ 2 ^ s := by
      have : 2 ^ 1 ≤ 2 ^ s := Nat.pow_le_pow_right (by decide) hs
      simpa using this
    have hp : 0 < 2 ^ s := by omega
    have hm1 : x / 2 ^ s % 2 ^ s < 2 ^ s := Nat.mod_lt _ hp
    have hm2 : x % 2 ^ s < 2 ^ s := Nat.mod_lt _ hp
    have hbig : 2 ^ s * 2 ≤ 2 ^ s * 2 ^ s := Nat.mul_le_mul_left _ h2
    have hBp : 0 < 2 ^ (2 * s) := by rw [hB]; exact Nat.mul_pos hp hp
    have e1 : lo s (k + 1) (x / 2 ^ s) + lo s (k + 1) x = (x / 2 ^ s % 2 ^ s + x % 2 ^ s) + 2 ^ (2 * s) * (lo s k (x / 2 ^ s / 2 ^ (2 * s)) + lo s k (x / 2 ^ (2 * s))) := by
      rw [lo, lo, Nat.mul_add]; omega
    have e2 : x / 2 ^ s / 2 ^ (2 * s) = x / 2 ^ (2 * s) / 2 ^ s := by rw [Nat.div_div_eq_div_mul, Nat.div_div_eq_div_mul, Nat.mul_comm]
    have e3 : x / 2 ^ s / 2 ^ s = x / 2 ^ (2 * s) := by rw [Nat.div_div_eq_div_mul, hB]
    rw [e1, sd, digits_mod (by rw [hB]; omega), digits_div hBp (by rw [hB]; omega), e2, ih, show 2 * (k + 1) = 2 * k + 1 + 1 by omega, sd, sd, e3]
    omega

theorem dl_half (s c : Nat) (hs : 1 ≤ s) : ∀ k x, dl (2 ^ s) c (2 * k) x → dl (2 ^ (2 * s)) (c + c) k (lo s k (x / 2 ^ s) + lo s k x)
  | 0, x => fun _ => trivial
  | k + 1, x => by
    intro h
    rw [show 2 * (k + 1) = 2 * k + 1 + 1 by omega, dl, dl] at h
    obtain ⟨h0, h1, hr⟩ := h
    have hB := pow_split s
    have h2 : 2 ≤ 2 ^ s := by
      have : 2 ^ 1 ≤ 2 ^ s := Nat.pow_le_pow_right (by decide) hs
      simpa using this
    have hp : 0 < 2 ^ s := by omega
    have hm1 : x / 2 ^ s % 2 ^ s < 2 ^ s := Nat.mod_lt _ hp
    have hm2 : x % 2 ^ s < 2 ^ s := Nat.mod_lt _ hp
    have hbig : 2 ^ s * 2 ≤ 2 ^ s * 2 ^ s := Nat.mul_le_mul_left _ h2
    have hBp : 0 < 2 ^ (2 * s) := by rw [hB]; exact Nat.mul_pos hp hp
    have e1 : lo s (k + 1) (x / 2 ^ s) + lo s (k + 1) x = (x / 2 ^ s % 2 ^ s + x % 2 ^ s) + 2 ^ (2 * s) * (lo s k (x / 2 ^ s / 2 ^ (2 * s)) + lo s k (x / 2 ^ (2 * s))) := by
      rw [lo, lo, Nat.mul_add]; omega
    have e2 : x / 2 ^ s / 2 ^ (2 * s) = x / 2 ^ (2 * s) / 2 ^ s := by rw [Nat.div_div_eq_div_mul, Nat.div_div_eq_div_mul, Nat.mul_comm]
    have e3 : x / 2 ^ s / 2 ^ s = x / 2 ^ (2 * s) := by rw [Nat.div_div_eq_div_mul, hB]
    rw [e3] at hr
    rw [e1, dl, digits_mod (by rw [hB]; omega), digits_div hBp (by rw [hB]; omega), e2]
    exact ⟨by omega, dl_half s c hs k _ hr⟩

/-- Where the digits are small the halves may be added ahead of the mask. -/
theorem lo_sum : ∀ k x, dl 16 4 (2 * k) x → x / 256 ^ k = 0 → lo 4 k (x / 16 + x) = lo 4 k (x / 16) + lo 4 k x
  | 0, x => fun _ _ => rfl
  | k + 1, x => by
    intro h h0
    rw [show 2 * (k + 1) = 2 * k + 1 + 1 by omega, dl, dl] at h
    obtain ⟨ha, hb, hr⟩ := h
    have e3 : x / 16 / 16 = x / 256 := by omega
    rw [e3] at hr
    have hn : x / 256 % 16 ≤ 4 := by
      cases k with
      | zero =>
        have : x / 256 = 0 := by simpa using h0
        omega
      | succ k =>
        rw [show 2 * (k + 1) = 2 * k + 1 + 1 by omega, dl] at hr
        exact hr.1
    have h0' : x / 256 / 256 ^ k = 0 := by rw [Nat.div_div_eq_div_mul, Nat.mul_comm, ← Nat.pow_succ]; exact h0
    have ih := lo_sum k (x / 256) hr h0'
    have e1 : (x / 16 + x) % 2 ^ 4 = x / 16 % 2 ^ 4 + x % 2 ^ 4 := by simp only [Nat.reducePow]; omega
    have e2 : (x / 16 + x) / 2 ^ (2 * 4) = x / 256 / 16 + x / 256 := by simp only [Nat.reducePow, Nat.reduceMul]; omega
    have e4 : x / 16 / 2 ^ (2 * 4) = x / 256 / 16 := by simp only [Nat.reducePow, Nat.reduceMul]; omega
    have e5 : x / 2 ^ (2 * 4) = x / 256 := by simp only [Nat.reducePow, Nat.reduceMul]
    rw [lo, lo, lo, e1, e2, e4, e5, ih, Nat.mul_add]
    omega

theorem dl_two : ∀ k x, dl 2 1 k x
  | 0, _ => trivial
  | k + 1, x => ⟨by omega, dl_two k _⟩

/-- How many of the 64 bits are 1. -/
def pop (x : Nat) : Nat := sd 2 64 x

theorem lo_lt (s : Nat) (hs : 1 ≤ s) : ∀ k x, 2 * lo s k x < (2 ^ (2 * s)) ^ k + (2 ^ (2 * s)) ^ k
  | 0, x => by simp [lo]
  | k + 1, x => by
    have ih := lo_lt s hs k (x / 2 ^ (2 * s))
    have hB := pow_split s
    have hp : 0 < 2 ^ s := Nat.two_pow_pos s
    have hm2 : x % 2 ^ s < 2 ^ s := Nat.mod_lt _ hp
    have hle : 2 ^ s ≤ 2 ^ (2 * s) := Nat.pow_le_pow_right (by decide) (by omega)
    have h1 : lo s k (x / 2 ^ (2 * s)) + 1 ≤ (2 ^ (2 * s)) ^ k := by omega
    have h2 : 2 ^ (2 * s) * (lo s k (x / 2 ^ (2 * s)) + 1) ≤ 2 ^ (2 * s) * (2 ^ (2 * s)) ^ k := Nat.mul_le_mul_left _ h1
    rw [lo, Nat.pow_succ, Nat.mul_comm ((2 ^ (2 * s)) ^ k)]
    rw [Nat.mul_add, Nat.mul_one] at h2
    omega

/-! The steps of the reckoning. -/
def s1 (x : Nat) : Nat := (x / 2 &&& 6148914691236517205) + (x &&& 6148914691236517205)
def s2 (x : Nat) : Nat := (x / 4 &&& 3689348814741910323) + (x &&& 3689348814741910323)
def s3 (x : Nat) : Nat := (x / 16 + x) &&& 1085102592571150095

theorem s1_eq (x : Nat) : s1 x = lo 1 32 (x / 2 ^ 1) + lo 1 32 x := by
  have e : (6148914691236517205 : Nat) = mk 1 32 := by decide
  unfold s1
  rw [e, and_mk, and_mk, Nat.pow_one]
theorem s2_eq (x : Nat) : s2 x = lo 2 16 (x / 2 ^ 2) + lo 2 16 x := by
  have e : (3689348814741910323 : Nat) = mk 2 16 := by decide
  unfold s2
  rw [e, and_mk, and_mk]
theorem s1_lt (x : Nat) : s1 x < 18446744073709551616 := by
  have a : x / 2 &&& 6148914691236517205 ≤ 6148914691236517205 := Nat.and_le_right
  have b : x &&& 6148914691236517205 ≤ 6148914691236517205 := Nat.and_le_right
  unfold s1
  omega
theorem s2_lt (x : Nat) : s2 x ≤ 7378697629483820646 := by
  have a : x / 4 &&& 3689348814741910323 ≤ 3689348814741910323 := Nat.and_le_right
  have b : x &&& 3689348814741910323 ≤ 3689348814741910323 := Nat.and_le_right
  unfold s2
  omega
theorem s3_lt (x : Nat) : s3 x ≤ 1085102592571150095 := Nat.and_le_right

theorem s3_dl (x : Nat) : dl 256 8 8 (s3 (s2 (s1 x))) ∧ sd 256 8 (s3 (s2 (s1 x))) = pop x := by
  have e : (1085102592571150095 : Nat) = mk 4 8 := by decide
  have d1 : dl 4 2 32 (s1 x) := by rw [s1_eq]; exact dl_half 1 1 (by decide) 32 x (dl_two _ _)
  have d2 : dl 16 4 16 (s2 (s1 x)) := by rw [s2_eq (s1 x)]; exact dl_half 2 2 (by decide) 16 _ d1
  have h0 : s2 (s1 x) / 256 ^ 8 = 0 := Nat.div_eq_of_lt (Nat.lt_of_le_of_lt (s2_lt _) (by decide))
  have h3 : s3 (s2 (s1 x)) = lo 4 8 (s2 (s1 x) / 2 ^ 4) + lo 4 8 (s2 (s1 x)) := by
    unfold s3
    rw [e, and_mk]
    exact lo_sum 8 _ d2 h0
  refine ⟨by rw [h3]; exact dl_half 4 4 (by decide) 8 _ d2, ?_⟩
  have a3 := sd_half 4 (by decide) 8 (s2 (s1 x))
  have a2 := sd_half 2 (by decide) 16 (s1 x)
  have a1 := sd_half 1 (by decide) 32 x
  rw [← h3] at a3
  rw [← s2_eq] at a2
  rw [← s1_eq] at a1
  exact a3.trans (a2.trans a1)

/-- Eight digits added by leaps. -/
theorem leaps (x : Nat) (hx : x ≤ 1085102592571150095) (hd : dl 256 8 8 x) :
    x + x / 256 < 18446744073709551616 ∧ (x + x / 256) + (x + x / 256) / 65536 < 18446744073709551616 ∧
    ((x + x / 256) + (x + x / 256) / 65536) + ((x + x / 256) + (x + x / 256) / 65536) / 4294967296 < 18446744073709551616 ∧
    (((x + x / 256) + (x + x / 256) / 65536) + ((x + x / 256) + (x + x / 256) / 65536) / 4294967296) % 128 = sd 256 8 x := by
  simp only [dl, sd] at hd ⊢
  obtain ⟨h0, h1, h2, h3, h4, h5, h6, h7, _⟩ := hd
  obtain ⟨d0, e0⟩ : ∃ d, d = x % 256 := ⟨_, rfl⟩
  obtain ⟨x1, f1⟩ : ∃ d, d = x / 256 := ⟨_, rfl⟩
  rw [← f1] at h1 h2 h3 h4 h5 h6 h7 ⊢
  obtain ⟨d1, e1⟩ : ∃ d, d = x1 % 256 := ⟨_, rfl⟩
  obtain ⟨x2, f2⟩ : ∃ d, d = x1 / 256 := ⟨_, rfl⟩
  rw [← f2] at h2 h3 h4 h5 h6 h7 ⊢
  obtain ⟨d2, e2⟩ : ∃ d, d = x2 % 256 := ⟨_, rfl⟩
  obtain ⟨x3, f3⟩ : ∃ d, d = x2 / 256 := ⟨_, rfl⟩
  rw [← f3] at h3 h4 h5 h6 h7 ⊢
  obtain ⟨d3, e3⟩ : ∃ d, d = x3 % 256 := ⟨_, rfl⟩
  obtain ⟨x4, f4⟩ : ∃ d, d = x3 / 256 := ⟨_, rfl⟩
  rw [← f4] at h4 h5 h6 h7 ⊢
  obtain ⟨d4, e4⟩ : ∃ d, d = x4 % 256 := ⟨_, rfl⟩
  obtain ⟨x5, f5⟩ : ∃ d, d = x4 / 256 := ⟨_, rfl⟩
  rw [← f5] at h5 h6 h7 ⊢
  obtain ⟨d5, e5⟩ : ∃ d, d = x5 % 256 := ⟨_, rfl⟩
  obtain ⟨x6, f6⟩ : ∃ d, d = x5 / 256 := ⟨_, rfl⟩
  rw [← f6] at h6 h7 ⊢
  obtain ⟨d6, e6⟩ : ∃ d, d = x6 % 256 := ⟨_, rfl⟩
  obtain ⟨x7, f7⟩ : ∃ d, d = x6 / 256 := ⟨_, rfl⟩
  rw [← f7] at h7 ⊢
  rw [← e0, ← e1, ← e2, ← e3, ← e4, ← e5, ← e6]
  have hx7 : x7 < 256 := by omega
  rw [Nat.mod_eq_of_lt hx7] at h7 ⊢
  have hx0 : x = d0 + 256 * (d1 + 256 * (d2 + 256 * (d3 + 256 * (d4 + 256 * (d5 + 256 * (d6 + 256 * x7)))))) := by omega
  have hx1 : x1 = d1 + 256 * (d2 + 256 * (d3 + 256 * (d4 + 256 * (d5 + 256 * (d6 + 256 * x7))))) := by omega
  rw [← e0] at h0
  rw [← e1] at h1
  rw [← e2] at h2
  rw [← e3] at h3
  rw [← e4] at h4
  rw [← e5] at h5
  rw [← e6] at h6
  clear e0 e1 e2 e3 e4 e5 e6 f1 f2 f3 f4 f5 f6 f7
  have hy : x + x1 = ((d0 + d1) + 256 * (d1 + d2)) + 65536 * ((d2 + d3) + 256 * ((d3 + d4) + 256 * ((d4 + d5) + 256 * ((d5 + d6) + 256 * ((d6 + x7) + 256 * x7))))) := by rw [hx0, hx1]; clear hx0 hx1 hx; omega
  obtain ⟨R1, hR1⟩ : ∃ R, R = (d2 + d3) + 256 * ((d3 + d4) + 256 * ((d4 + d5) + 256 * ((d5 + d6) + 256 * ((d6 + x7) + 256 * x7)))) := ⟨_, rfl⟩
  have hy1 : (x + x1) / 65536 = R1 := by rw [hy, hR1]; exact digits_div (by decide) (by clear hx0 hx1 hx hy hR1; omega)
  rw [hy1]
  have hz : x + x1 + R1 = ((d0 + d1 + d2 + d3) + 256 * (d1 + d2 + d3 + d4) + 65536 * (d2 + d3 + d4 + d5) + 16777216 * (d3 + d4 + d5 + d6)) + 4294967296 * ((d4 + d5 + d6 + x7) + 256 * ((d5 + d6 + x7) + 256 * ((d6 + x7) + 256 * x7))) := by rw [hy, hR1]; clear hx0 hx1 hx hy hy1 hR1; omega
  obtain ⟨R2, hR2⟩ : ∃ R, R = (d4 + d5 + d6 + x7) + 256 * ((d5 + d6 + x7) + 256 * ((d6 + x7) + 256 * x7)) := ⟨_, rfl⟩
  have hz1 : (x + x1 + R1) / 4294967296 = R2 := by rw [hz, hR2]; exact digits_div (by decide) (by clear hx0 hx1 hx hy hy1 hR1 hz hR2; omega)
  rw [hz1]
  have ht : x + x1 + R1 + R2 = (d0 + d1 + d2 + d3 + d4 + d5 + d6 + x7) + 128 * (2 * (d1 + d2 + d3 + d4) + 512 * (d2 + d3 + d4 + d5) + 131072 * (d3 + d4 + d5 + d6) + 33554432 * R2 + 2 * ((d5 + d6 + x7) + 256 * ((d6 + x7) + 256 * x7))) := by
    rw [hz, ← hR2]
    conv => lhs; rhs; rw [hR2]
    clear hx0 hx1 hx hy hy1 hR1 hz hz1 hR2
    omega
  have hb1 : x + x1 < 18446744073709551616 := by rw [hy]; clear hx0 hx1 hx hy hy1 hR1 hz hz1 hR2 ht; omega
  have hb2 : R2 < 4294967296 := by rw [hR2]; clear hx0 hx1 hx hy hy1 hR1 hz hz1 hR2 ht hb1; omega
  have hb3 : x + x1 + R1 < 18446744069414584320 := by rw [hz]; clear hx0 hx1 hx hy hy1 hR1 hz hz1 hR2 ht hb1 hb2; omega
  refine ⟨hb1, by omega, by omega, ?_⟩
  rw [ht, Nat.add_mul_mod_self_left]
  clear hx0 hx1 hx hy hy1 hR1 hz hz1 hR2 ht hb1 hb2 hb3
  omega

end Go.Proofs.Ytcdefpfnjjahgab.Pk
