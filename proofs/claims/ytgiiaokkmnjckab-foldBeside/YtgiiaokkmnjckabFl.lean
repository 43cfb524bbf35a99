/- Whole numbers as floats: what a word stands for, exactly; sums, products, order, whole parts. Nothing of the program in it. -/
import Derived.Laws.ComplexArith
import GoSem.Extern.MathFloor
set_option linter.unusedSimpArgs false
set_option linter.unusedVariables false
namespace Go.Proofs.Ytgiiaokkmnjckab.Fl
open Ieee

theorem pw_pos (k : Nat) : (0 : Int) < 2 ^ k := Int.pow_pos (by decide)
theorem pwn_pos (k : Nat) : 0 < 2 ^ k := Nat.two_pow_pos k
theorem pw_cast (k : Nat) : ((2 ^ k : Nat) : Int) = 2 ^ k := by push_cast; rfl

/-- A number with its sign. -/
def sg (s : Bool) (m : Nat) : Int := if s then -(m : Int) else (m : Int)
theorem signed_sg (s : Bool) (m u : Nat) : signed s m u = sg s m * 2 ^ u := by
  unfold signed sg
  rw [Nat.shiftLeft_eq]
  cases s
  · simp
  · simp [Int.neg_mul]

/-- A datum is the whole number n. -/
def Val (d : Datum) (n : Int) : Prop := ∃ s m p, d = .number s m p ∧ sg s m * 2 ^ p.toNat = n * 2 ^ (-p).toNat
/-- A word is the whole number n. -/
def Is (b : Nat) (n : Int) : Prop := Val (double.read b) n

theorem cancel {a b : Int} {k : Nat} (h : a * 2 ^ k = b * 2 ^ k) : a = b := Int.eq_of_mul_eq_mul_right (Int.ne_of_gt (pw_pos k)) h

theorem val_inj {d : Datum} {a b : Int} (h : Val d a) (g : Val d b) : a = b := by
  obtain ⟨s, m, p, rfl, e⟩ := h
  obtain ⟨s', m', p', e1, e2⟩ := g
  cases e1
  exact cancel (e.symm.trans e2)

/-- A number seen at a lower place. -/
theorem lower {v a : Int} {i base : Int} (h : v * 2 ^ i.toNat = a * 2 ^ (-i).toNat) (hb : base ≤ i) : v * 2 ^ (i - base).toNat * 2 ^ base.toNat = a * 2 ^ (-base).toNat := by
  have e1 : i.toNat + (-base).toNat = (i - base).toNat + base.toNat + (-i).toNat := by omega
  refine cancel (k := (-i).toNat) ?_
  calc v * 2 ^ (i - base).toNat * 2 ^ base.toNat * 2 ^ (-i).toNat
      = v * 2 ^ ((i - base).toNat + base.toNat + (-i).toNat) := by rw [Int.pow_add, Int.pow_add]; ac_rfl
    _ = v * 2 ^ i.toNat * 2 ^ (-base).toNat := by rw [← e1, Int.pow_add]; ac_rfl
    _ = a * 2 ^ (-base).toNat * 2 ^ (-i).toNat := by rw [h]; ac_rfl

theorem sg_natAbs (s t : Bool) (z : Int) : sg (if z = 0 then s && t else decide (z < 0)) z.natAbs = z := by
  by_cases h : z = 0
  · subst h; simp [sg]
  · rw [if_neg h]
    by_cases g : z < 0
    · simp only [sg, decide_eq_true g, if_true]; omega
    · simp only [sg, decide_eq_false g]; simp; omega

theorem val_sum {d e : Datum} {a b : Int} (hd : Val d a) (he : Val e b) : ∃ g, d.sum e = some g ∧ Val g (a + b) := by
  obtain ⟨s, m, i, rfl, h⟩ := hd
  obtain ⟨t, n, j, rfl, g⟩ := he
  refine ⟨_, rfl, _, _, _, rfl, ?_⟩
  rw [sg_natAbs, signed_sg, signed_sg, Int.add_mul, lower h (by omega), lower g (by omega), Int.add_mul]

theorem val_opposite {d : Datum} {a : Int} (hd : Val d a) : Val d.opposite (-a) := by
  obtain ⟨s, m, i, rfl, h⟩ := hd
  refine ⟨_, _, _, rfl, ?_⟩
  have : sg (!s) m = - sg s m := by cases s <;> simp [sg]
  rw [this, Int.neg_mul, h, Int.neg_mul]

theorem sg_mul (s t : Bool) (m n : Nat) : sg (s ^^ t) (m * n) = sg s m * sg t n := by
  cases s <;> cases t <;> simp [sg, Int.neg_mul, Int.mul_neg]

theorem val_product {d e : Datum} {a b : Int} (hd : Val d a) (he : Val e b) : ∃ g, d.product e = some g ∧ Val g (a * b) := by
  obtain ⟨s, m, i, rfl, h⟩ := hd
  obtain ⟨t, n, j, rfl, g⟩ := he
  refine ⟨_, rfl, _, _, _, rfl, ?_⟩
  rw [sg_mul]
  have e1 : (i + j).toNat + (-i).toNat + (-j).toNat = (-(i + j)).toNat + i.toNat + j.toNat := by omega
  refine cancel (k := (-i).toNat) ?_
  refine cancel (k := (-j).toNat) ?_
  calc sg s m * sg t n * 2 ^ (i + j).toNat * 2 ^ (-i).toNat * 2 ^ (-j).toNat
      = sg s m * sg t n * 2 ^ ((i + j).toNat + (-i).toNat + (-j).toNat) := by rw [Int.pow_add, Int.pow_add]; ac_rfl
    _ = (sg s m * 2 ^ i.toNat) * (sg t n * 2 ^ j.toNat) * 2 ^ (-(i + j)).toNat := by rw [e1, Int.pow_add, Int.pow_add]; ac_rfl
    _ = a * b * 2 ^ (-(i + j)).toNat * 2 ^ (-i).toNat * 2 ^ (-j).toNat := by rw [h, g]; ac_rfl

theorem compare_scale {V U x y : Int} {k l : Nat} (h : V * 2 ^ k = x * 2 ^ l) (g : U * 2 ^ k = y * 2 ^ l) : compare V U = compare x y := by
  have lt {A B C D : Int} (h : A * 2 ^ k = B * 2 ^ l) (g : C * 2 ^ k = D * 2 ^ l) (q : A < C) : B < D := by
    have : A * 2 ^ k < C * 2 ^ k := Int.mul_lt_mul_of_pos_right q (pw_pos k)
    rw [h, g] at this
    exact Int.lt_of_mul_lt_mul_right this (Int.le_of_lt (pw_pos l))
  rcases Int.lt_trichotomy V U with q | q | q
  · have := lt h g q
    rw [Int.compare_eq_lt.2 q, Int.compare_eq_lt.2 this]
  · subst q
    have : x = y := cancel (h.symm.trans g)
    subst this
    rw [Int.compare_eq_eq.2 rfl, Int.compare_eq_eq.2 rfl]
  · have := lt g h q
    rw [Int.compare_eq_gt.2 q, Int.compare_eq_gt.2 this]

/-- Any number against a whole one. -/
theorem order_any (s : Bool) (m : Nat) (p : Int) {e : Datum} {c : Int} (he : Val e c) : (Datum.number s m p).order e = some (compare (sg s m * 2 ^ p.toNat) (c * 2 ^ (-p).toNat)) := by
  obtain ⟨t, n, j, rfl, g⟩ := he
  have hb : min p j ≤ p := by omega
  have e1 : p.toNat + (-(min p j)).toNat = (p - min p j).toNat + (min p j).toNat + (-p).toNat := by omega
  show some (compare (signed s m (p - min p j).toNat) (signed t n (j - min p j).toNat)) = _
  rw [signed_sg, signed_sg]
  have g' := lower g (base := min p j) (by omega)
  refine congrArg some (compare_scale (k := (min p j).toNat + (-p).toNat) (l := (-(min p j)).toNat) ?_ ?_)
  · rw [Int.pow_add]
    calc sg s m * 2 ^ (p - min p j).toNat * (2 ^ (min p j).toNat * 2 ^ (-p).toNat)
        = sg s m * 2 ^ ((p - min p j).toNat + (min p j).toNat + (-p).toNat) := by rw [Int.pow_add, Int.pow_add]; ac_rfl
      _ = sg s m * 2 ^ p.toNat * 2 ^ (-(min p j)).toNat := by rw [← e1, Int.pow_add]; ac_rfl
  · rw [Int.pow_add]
    calc sg t n * 2 ^ (j - min p j).toNat * (2 ^ (min p j).toNat * 2 ^ (-p).toNat)
        = (sg t n * 2 ^ (j - min p j).toNat * 2 ^ (min p j).toNat) * 2 ^ (-p).toNat := by ac_rfl
      _ = c * 2 ^ (-p).toNat * 2 ^ (-(min p j)).toNat := by rw [g']; ac_rfl

theorem val_order {d e : Datum} {a b : Int} (hd : Val d a) (he : Val e b) : d.order e = some (compare a b) := by
  obtain ⟨s, m, i, rfl, h⟩ := hd
  rw [order_any s m i he]
  exact congrArg some (compare_scale (k := 0) (l := (-i).toNat) (by simpa using h) (by simp))

theorem is_order {x y : Nat} {a b : Int} (hx : Is x a) (hy : Is y b) : double.order x y = some (compare a b) := val_order hx hy

/-- A cut that drops nothing. -/
theorem cut_zero_drop (way : Toward) (s : Bool) (n : Nat) : way.cut s n 0 = n := by
  cases way <;> simp [Toward.cut, Nat.mod_one, Nat.shiftLeft_eq]

/-- A cut of what ends in noughts. -/
theorem cut_exact (way : Toward) (s : Bool) (K drop : Nat) : way.cut s (K * 2 ^ drop) drop = K := by
  by_cases hK : K = 0
  · subst hK
    have : 0 < 1 <<< min drop (Nat.log2 0 + 2) := by rw [Nat.shiftLeft_eq, Nat.one_mul]; exact pwn_pos _
    cases way <;> simp [Toward.cut] <;> omega
  have hm : min drop ((K * 2 ^ drop).log2 + 2) = drop := by
    have h0 : K * 2 ^ drop ≠ 0 := Nat.mul_ne_zero hK (Nat.ne_of_gt (pwn_pos drop))
    have : drop ≤ (K * 2 ^ drop).log2 := (Nat.le_log2 h0).2 (Nat.le_mul_of_pos_left _ (Nat.pos_of_ne_zero hK))
    omega
  have hp : 0 < 2 ^ drop := pwn_pos drop
  have e1 : K * 2 ^ drop / 2 ^ drop = K := Nat.mul_div_cancel K hp
  have e2 : K * 2 ^ drop % 2 ^ drop = 0 := Nat.mul_mod_left ..
  unfold Toward.cut
  rw [hm, Nat.shiftLeft_eq, Nat.one_mul]
  dsimp only
  rw [e1, e2]
  cases way <;> simp <;> omega

theorem word_div (s : Bool) (r : Nat) (h : r < 2 ^ 63) : (double.word s r / double.signWeight % 2 == 1) = s ∧ double.word s r % double.signWeight = r := by
  have e : double.signWeight = 2 ^ 63 := rfl
  rw [e]
  unfold Format.word
  rw [e]
  cases s
  · simp only [Bool.false_eq_true, if_false]
    refine ⟨?_, by omega⟩
    have : r / 2 ^ 63 = 0 := by omega
    rw [this]; rfl
  · simp only [if_true]
    have : (2 ^ 63 + r) / 2 ^ 63 = 1 := by omega
    rw [this]
    exact ⟨rfl, by omega⟩

theorem read_word_small (s : Bool) (r : Nat) (h : r < 2 ^ 52) : double.read (double.word s r) = .number s r (-1074) := by
  obtain ⟨h1, h2⟩ := word_div s r (by omega)
  unfold Format.read
  rw [h1, h2]
  have : r < double.binade := h
  simp only [this, if_true]
  rfl

/-- A normal word read back: K from 2^52 up, e places above the least. -/
theorem read_word (s : Bool) (K e : Nat) (h1 : 2 ^ 52 ≤ K) (h2 : K < 2 ^ 53) (he : e < 2000) : double.read (double.word s (e * 2 ^ 52 + K)) = .number s K (-1074 + e) := by
  have hr : e * 2 ^ 52 + K < 2 ^ 63 := by omega
  obtain ⟨g1, g2⟩ := word_div s (e * 2 ^ 52 + K) hr
  unfold Format.read
  rw [g1, g2]
  have eb : double.binade = 2 ^ 52 := rfl
  have ei : double.infRung = 2047 * 2 ^ 52 := rfl
  have el : double.leastPlace = -1074 := by decide
  rw [eb, ei, el]
  have n1 : ¬ e * 2 ^ 52 + K < 2 ^ 52 := by omega
  have n2 : e * 2 ^ 52 + K < 2047 * 2 ^ 52 := by omega
  have e1 : (e * 2 ^ 52 + K) % 2 ^ 52 = K - 2 ^ 52 := by omega
  have e2 : (e * 2 ^ 52 + K) / 2 ^ 52 = e + 1 := by omega
  simp only [n1, n2, if_true, if_false, e1, e2]
  have e3 : 2 ^ 52 + (K - 2 ^ 52) = K := by omega
  rw [e3]
  simp

theorem log2_mul_two_pow (n k : Nat) (h : n ≠ 0) : (n * 2 ^ k).log2 = n.log2 + k := by
  have h0 : n * 2 ^ k ≠ 0 := Nat.mul_ne_zero h (Nat.ne_of_gt (pwn_pos k))
  refine (Nat.log2_eq_iff h0).2 ⟨?_, ?_⟩
  · rw [Nat.pow_add]; exact Nat.mul_le_mul_right _ (Nat.log2_self_le h)
  · have : n.log2 + k + 1 = (n.log2 + 1) + k := by omega
    rw [this, Nat.pow_add]
    exact Nat.mul_lt_mul_of_pos_right Nat.lt_log2_self (pwn_pos k)

theorem sg_abs {s : Bool} {m : Nat} {n : Int} {k l : Nat} (h : sg s m * 2 ^ k = n * 2 ^ l) : m * 2 ^ k = n.natAbs * 2 ^ l := by
  have : (sg s m * 2 ^ k).natAbs = (n * 2 ^ l).natAbs := by rw [h]
  rw [Int.natAbs_mul, Int.natAbs_mul, Int.natAbs_pow, Int.natAbs_pow] at this
  have e : (sg s m).natAbs = m := by cases s <;> simp [sg]
  rw [e] at this
  exact this
theorem sg_of {s : Bool} {m : Nat} {n : Int} {k l : Nat} (h : sg s m * 2 ^ k = n * 2 ^ l) : n = sg s n.natAbs := by
  have hk := pw_pos k
  have hl := pw_pos l
  cases s
  · have h' : (m : Int) * 2 ^ k = n * 2 ^ l := h
    have h0 : 0 ≤ (m : Int) * 2 ^ k := Int.mul_nonneg (Int.natCast_nonneg m) (Int.le_of_lt hk)
    have : 0 ≤ n := by
      rcases Int.lt_or_le n 0 with q | q
      · have := Int.mul_neg_of_neg_of_pos q hl; omega
      · exact q
    simp [sg]; omega
  · have h' : -(m : Int) * 2 ^ k = n * 2 ^ l := h
    have h0 : 0 ≤ (m : Int) * 2 ^ k := Int.mul_nonneg (Int.natCast_nonneg m) (Int.le_of_lt hk)
    rw [Int.neg_mul] at h'
    have : n ≤ 0 := by
      rcases Int.lt_or_le 0 n with q | q
      · have := Int.mul_pos q hl; omega
      · exact q
    simp [sg]; omega

/-- What is whole and below 2^53 is written as it is. -/
theorem val_write {d : Datum} {n : Int} (hd : Val d n) (hn : n.natAbs < 2 ^ 53) : Is (double.write d) n := by
  obtain ⟨s, m, p, rfl, h⟩ := hd
  have hN := sg_abs h
  have hs := sg_of h
  have hsn : ∀ K k l, K * 2 ^ k = n.natAbs * 2 ^ l → sg s K * 2 ^ k = n * 2 ^ l := by
    intro K k l e
    rw [hs]
    have e' : (K : Int) * 2 ^ k = (n.natAbs : Int) * 2 ^ l := by
      rw [← pw_cast, ← pw_cast]; exact_mod_cast e
    cases s
    · simpa [sg] using e'
    · simp only [sg, if_true, Int.neg_mul, e']
  generalize n.natAbs = N at *
  unfold Is
  show Val (double.read (double.nearest s m p)) n
  unfold Format.nearest
  by_cases hm : m = 0
  · rw [if_pos hm, read_word_small s 0 (by decide)]
    subst hm
    have hN0 : N = 0 := by
      have := pwn_pos (-p).toNat
      rcases Nat.eq_zero_or_pos N with q | q
      · exact q
      · have := Nat.mul_pos q this; omega
    refine ⟨s, 0, -1074, rfl, hsn _ _ _ ?_⟩
    rw [hN0, Nat.zero_mul, Nat.zero_mul]
  · rw [if_neg hm]
    have hN0 : N ≠ 0 := by
      intro q
      rw [q, Nat.zero_mul] at hN
      exact Nat.mul_ne_zero hm (Nat.ne_of_gt (pwn_pos _)) hN
    have hL : m.log2 + p.toNat = N.log2 + (-p).toNat := by
      rw [← log2_mul_two_pow m _ hm, ← log2_mul_two_pow N _ hN0, hN]
    have hL2 : N.log2 < 53 := (Nat.log2_lt hN0).2 hn
    have hl1 := Nat.log2_self_le hN0
    have hl2 : N < 2 ^ (N.log2 + 1) := Nat.lt_log2_self
    generalize hLe : N.log2 = L at *
    have el : double.leastPlace = -1074 := by decide
    have ef : double.fractionBits = 52 := rfl
    have eb : double.binade = 2 ^ 52 := rfl
    have ei : double.infRung = 2047 * 2 ^ 52 := rfl
    dsimp only
    rw [el, ef, eb, ei]
    have elast : max (p + (m.log2 : Int) - ((52 : Nat) : Int)) (-1074) = (L : Int) - 52 := by omega
    rw [elast]
    -- what is kept is N * 2^(52 - L)
    have hkept : Toward.even.cut s (m <<< (p - ((L : Int) - 52)).toNat) (((L : Int) - 52) - p).toNat = N * 2 ^ (52 - L) := by
      by_cases hp : (L : Int) - 52 ≤ p
      · have e0 : (((L : Int) - 52) - p).toNat = 0 := by omega
        rw [e0, cut_zero_drop, Nat.shiftLeft_eq]
        have e1 : p.toNat + (52 - L) = (p - ((L : Int) - 52)).toNat + (-p).toNat := by omega
        refine Nat.eq_of_mul_eq_mul_right (pwn_pos (-p).toNat) ?_
        calc m * 2 ^ (p - ((L : Int) - 52)).toNat * 2 ^ (-p).toNat
            = m * 2 ^ ((p - ((L : Int) - 52)).toNat + (-p).toNat) := by rw [Nat.pow_add]; ac_rfl
          _ = m * 2 ^ p.toNat * 2 ^ (52 - L) := by rw [← e1, Nat.pow_add]; ac_rfl
          _ = N * 2 ^ (52 - L) * 2 ^ (-p).toNat := by rw [hN]; ac_rfl
      · have e0 : (p - ((L : Int) - 52)).toNat = 0 := by omega
        rw [e0, Nat.shiftLeft_zero]
        have ep : p.toNat = 0 := by omega
        have em : m = N * 2 ^ (52 - L) * 2 ^ (((L : Int) - 52) - p).toNat := by
          rw [ep] at hN
          have e1 : (-p).toNat = (52 - L) + (((L : Int) - 52) - p).toNat := by omega
          rw [e1, Nat.pow_add] at hN
          simp only [Nat.pow_zero, Nat.mul_one] at hN
          rw [hN]; ac_rfl
        rw [em]
        exact cut_exact _ _ _ _
    rw [hkept]
    have hK1 : 2 ^ 52 ≤ N * 2 ^ (52 - L) := by
      have : 2 ^ L * 2 ^ (52 - L) = 2 ^ 52 := by rw [← Nat.pow_add]; congr 1; omega
      rw [← this]
      exact Nat.mul_le_mul_right _ hl1
    have hK2 : N * 2 ^ (52 - L) < 2 ^ 53 := by
      have : 2 ^ (L + 1) * 2 ^ (52 - L) = 2 ^ 53 := by rw [← Nat.pow_add]; congr 1; omega
      rw [← this]
      exact Nat.mul_lt_mul_of_pos_right hl2 (pwn_pos _)
    have ee : (((L : Int) - 52) - (-1074)).toNat = L + 1022 := by omega
    rw [ee]
    generalize hKe : N * 2 ^ (52 - L) = K at hK1 hK2 ⊢
    have hmin : (L + 1022) * 2 ^ 52 + K ≤ 2047 * 2 ^ 52 := by omega
    rw [Nat.min_eq_left hmin, read_word s K (L + 1022) hK1 hK2 (by omega)]
    refine ⟨s, K, -1074 + ((L + 1022 : Nat) : Int), rfl, hsn _ _ _ ?_⟩
    rw [← hKe]
    have e2 : (-1074 + ((L + 1022 : Nat) : Int)).toNat = 0 := by omega
    have e3 : (-(-1074 + ((L + 1022 : Nat) : Int))).toNat = 52 - L := by omega
    rw [e2, e3, Nat.pow_zero, Nat.mul_one]


/-- The float of a whole number. -/
theorem is_fl {n : Int} (h : n.natAbs < 2 ^ 53) : Is (floatOfInt .f64 n) n := by
  refine val_write (d := .number (n < 0) n.natAbs 0) ⟨_, _, 0, rfl, ?_⟩ h
  have := sg_natAbs false true n
  by_cases g : n = 0
  · subst g; simp [sg]
  · rw [if_neg g] at this; rw [this]; rfl

theorem is_neg {b : Nat} {n : Int} (h : Is b n) : Is (Op.negFloat .f64 b) (-n) := by
  unfold Is at h ⊢
  have e : double.read (Op.negFloat .f64 b) = (double.read b).opposite := by
    have e0 : Op.negFloat .f64 b = b ^^^ 2 ^ 63 := rfl
    have e1 : (b ^^^ 2 ^ 63) % 2 ^ 63 = b % 2 ^ 63 := by
      rw [Nat.xor_mod_two_pow, Nat.mod_self, Nat.xor_zero]
    have e2 : (b ^^^ 2 ^ 63) / 2 ^ 63 = b / 2 ^ 63 ^^^ 1 := by
      rw [Nat.xor_div_two_pow, Nat.div_self (by decide)]
    have e3 : (b / 2 ^ 63 ^^^ 1) % 2 = (b / 2 ^ 63 % 2) ^^^ 1 := by
      have := Nat.xor_mod_two_pow (a := b / 2 ^ 63) (b := 1) (n := 1)
      simpa using this
    have e4 : ((b / 2 ^ 63 % 2) ^^^ 1 == 1) = !(b / 2 ^ 63 % 2 == 1) := by
      have : b / 2 ^ 63 % 2 = 0 ∨ b / 2 ^ 63 % 2 = 1 := by omega
      rcases this with q | q <;> rw [q] <;> rfl
    rw [e0]
    unfold Format.read
    have es : double.signWeight = 2 ^ 63 := rfl
    rw [es, e1, e2, e3, e4]
    dsimp only
    generalize b % 2 ^ 63 = r
    generalize (b / 2 ^ 63 % 2 == 1) = s
    split
    · rfl
    · split
      · rfl
      · split <;> rfl
  rw [e]
  exact val_opposite h

theorem is_add {x y : Nat} {a b : Int} (hx : Is x a) (hy : Is y b) (h : (a + b).natAbs < 2 ^ 53) : ∃ r, floatBits .add .f64 x y = some r ∧ Is r (a + b) := by
  obtain ⟨g, e, hg⟩ := val_sum hx hy
  refine ⟨double.write g, ?_, val_write hg h⟩
  show ((double.read x).sum (double.read y)).map double.write = _
  rw [e]; rfl
theorem is_sub {x y : Nat} {a b : Int} (hx : Is x a) (hy : Is y b) (h : (a - b).natAbs < 2 ^ 53) : ∃ r, floatBits .sub .f64 x y = some r ∧ Is r (a - b) := by
  obtain ⟨g, e, hg⟩ := val_sum hx (val_opposite hy)
  rw [← Int.sub_eq_add_neg] at hg
  refine ⟨double.write g, ?_, val_write hg h⟩
  show ((double.read x).sum (double.read y).opposite).map double.write = _
  rw [e]; rfl
theorem is_mul {x y : Nat} {a b : Int} (hx : Is x a) (hy : Is y b) (h : (a * b).natAbs < 2 ^ 53) : ∃ r, floatBits .mul .f64 x y = some r ∧ Is r (a * b) := by
  obtain ⟨g, e, hg⟩ := val_product hx hy
  refine ⟨double.write g, ?_, val_write hg h⟩
  show ((double.read x).product (double.read y)).map double.write = _
  rw [e]; rfl

/-- A number from -1 to 1. -/
def Unit1 (u : Int) : Prop := u = -1 ∨ u = 0 ∨ u = 1
theorem unit_mul {u x : Int} (hu : Unit1 u) : (u * x).natAbs ≤ x.natAbs := by
  rcases hu with rfl | rfl | rfl
  · rw [Int.neg_one_mul]; omega
  · rw [Int.zero_mul]; exact Nat.zero_le _
  · rw [Int.one_mul]; exact Nat.le_refl _

/-- A unit times a number. -/
theorem is_cmul {a b c d : Nat} {u v x y : Int} (ha : Is a u) (hb : Is b v) (hc : Is c x) (hd : Is d y) (hu : Unit1 u) (hv : Unit1 v) (hx : x.natAbs ≤ 2 ^ 42) (hy : y.natAbs ≤ 2 ^ 42) :
    ∃ re im, cMulBits a b c d = some (re, im) ∧ Is re (u * x - v * y) ∧ Is im (u * y + v * x) := by
  have h1 := unit_mul (x := x) hu
  have h2 := unit_mul (x := y) hv
  have h3 := unit_mul (x := y) hu
  have h4 := unit_mul (x := x) hv
  obtain ⟨ac, e1, i1⟩ := is_mul ha hc (by omega)
  obtain ⟨bd, e2, i2⟩ := is_mul hb hd (by omega)
  obtain ⟨re, e3, i3⟩ := is_sub i1 i2 (by omega)
  obtain ⟨ad, e4, i4⟩ := is_mul ha hd (by omega)
  obtain ⟨bc, e5, i5⟩ := is_mul hb hc (by omega)
  obtain ⟨im, e6, i6⟩ := is_add i4 i5 (by omega)
  refine ⟨re, im, ?_, i3, i6⟩
  unfold cMulBits
  simp only [e1, e2, e3, e4, e5, e6, Option.bind_some]
theorem is_cadd {a b c d : Nat} {u v x y : Int} (ha : Is a u) (hb : Is b v) (hc : Is c x) (hd : Is d y) (h1 : (u + x).natAbs < 2 ^ 53) (h2 : (v + y).natAbs < 2 ^ 53) :
    ∃ re im, cSumBits .add .f64 a b c d = some (re, im) ∧ Is re (u + x) ∧ Is im (v + y) := by
  obtain ⟨re, e1, i1⟩ := is_add ha hc h1
  obtain ⟨im, e2, i2⟩ := is_add hb hd h2
  refine ⟨re, im, ?_, i1, i2⟩
  unfold cSumBits
  simp only [e1, e2, Option.bind_some]

theorem order_swap (s t : Bool) (m n : Nat) (i j : Int) : (Datum.number s m i).order (.number t n j) = ((Datum.number t n j).order (.number s m i)).map Ordering.swap := by
  show some (compare (signed s m (i - min i j).toNat) (signed t n (j - min i j).toNat)) = some (compare (signed t n (j - min j i).toNat) (signed s m (i - min j i).toNat)).swap
  rw [Int.min_comm j i, Int.compare_swap]

theorem cmp_eq {a b : Int} : (some (compare a b) == some Ordering.eq) = decide (a = b) := by
  by_cases h : a = b
  · subst h; rw [Int.compare_eq_eq.2 rfl]; simp
  · have : compare a b ≠ .eq := fun q => h (Int.compare_eq_eq.1 q)
    simp [h, this]

/-- Is a word this number? Any word. -/
theorem order_is {x y : Nat} {n : Int} (hy : Is y n) : (double.order y x == some .eq) = true ↔ Is x n := by
  unfold Is at *
  constructor
  · intro h
    unfold Format.order at h
    obtain ⟨t, m', j, ey, g⟩ := hy
    rw [ey] at h
    cases hx : double.read x with
    | number s m i =>
      rw [hx, order_swap, order_any s m i ⟨t, m', j, rfl, g⟩] at h
      refine ⟨s, m, i, rfl, ?_⟩
      rcases Int.lt_trichotomy (sg s m * 2 ^ i.toNat) (n * 2 ^ (-i).toNat) with q | q | q
      · rw [Int.compare_eq_lt.2 q] at h; cases h
      · exact q
      · rw [Int.compare_eq_gt.2 q] at h; cases h
    | infinity s => rw [hx] at h; cases s <;> cases h
    | nan s f => rw [hx] at h; cases h
  · intro h
    unfold Format.order
    rw [val_order hy h, Int.compare_eq_eq.2 rfl]; rfl
theorem order_is' {x y : Nat} {n : Int} (hy : Is y n) : (double.order x y == some .eq) = true ↔ Is x n := by
  unfold Is at *
  constructor
  · intro h
    unfold Format.order at h
    cases hx : double.read x with
    | number s m i =>
      rw [hx, order_any s m i hy] at h
      refine ⟨s, m, i, rfl, ?_⟩
      rcases Int.lt_trichotomy (sg s m * 2 ^ i.toNat) (n * 2 ^ (-i).toNat) with q | q | q
      · rw [Int.compare_eq_lt.2 q] at h; cases h
      · exact q
      · rw [Int.compare_eq_gt.2 q] at h; cases h
    | infinity s =>
      obtain ⟨t, m', j, ey, g⟩ := hy
      rw [hx, ey] at h; cases s <;> cases h
    | nan s f => rw [hx] at h; cases h
  · intro h
    unfold Format.order
    rw [val_order h hy, Int.compare_eq_eq.2 rfl]; rfl

/-- A whole number that is not too far. -/
def Wh (b : Nat) : Prop := ∃ n : Int, n.natAbs ≤ 2 ^ 40 ∧ Is b n

theorem cut_zero_le (s : Bool) (n drop : Nat) : Toward.zero.cut s n drop * 2 ^ drop ≤ n := by
  unfold Toward.cut
  dsimp only
  rw [Nat.shiftLeft_eq, Nat.one_mul]
  show (n / 2 ^ min drop (n.log2 + 2) + 0) * 2 ^ drop ≤ n
  by_cases h : drop ≤ n.log2 + 2
  · rw [Nat.min_eq_left h, Nat.add_zero]
    exact Nat.div_mul_le_self _ _
  · rw [Nat.min_eq_right (by omega)]
    have : n < 2 ^ (n.log2 + 2) := Nat.lt_of_lt_of_le Nat.lt_log2_self (Nat.pow_le_pow_right (by decide) (by omega))
    rw [Nat.div_eq_of_lt this]; simp

theorem whole_num {s : Bool} {m : Nat} {p : Int} (h1 : sg s m * 2 ^ p.toNat ≤ 2 ^ 40 * 2 ^ (-p).toNat) (h2 : -2 ^ 40 * 2 ^ (-p).toNat ≤ sg s m * 2 ^ p.toNat) :
    ∃ T : Nat, T ≤ 2 ^ 40 ∧ (Datum.number s m p).integral .zero = .number s T 0 := by
  refine ⟨_, ?_, rfl⟩
  have hm : m * 2 ^ p.toNat ≤ 2 ^ 40 * 2 ^ (-p).toNat := by
    have e : ((m * 2 ^ p.toNat : Nat) : Int) = (m : Int) * 2 ^ p.toNat := by push_cast; rfl
    have e' : ((2 ^ 40 * 2 ^ (-p).toNat : Nat) : Int) = 2 ^ 40 * 2 ^ (-p).toNat := by rw [Int.natCast_mul, pw_cast, pw_cast]
    have : ((m * 2 ^ p.toNat : Nat) : Int) ≤ ((2 ^ 40 * 2 ^ (-p).toNat : Nat) : Int) := by
      rw [e, e']
      cases s
      · exact h1
      · simp only [sg, if_true] at h2
        rw [Int.neg_mul, Int.neg_mul] at h2
        omega
    exact_mod_cast this
  rw [Nat.shiftLeft_eq]
  have := cut_zero_le s (m * 2 ^ p.toNat) (-p).toNat
  exact Nat.le_of_mul_le_mul_right (Nat.le_trans this hm) (pwn_pos _)

theorem val_T (s : Bool) (T : Nat) : Val (.number s T 0) (sg s T) := ⟨s, T, 0, rfl, rfl⟩
theorem sg_T (s : Bool) (T : Nat) : (sg s T).natAbs = T := by cases s <;> simp [sg]
/-- A whole number cut is itself. -/
theorem val_integral {s : Bool} {m : Nat} {p n : Int} (h : sg s m * 2 ^ p.toNat = n * 2 ^ (-p).toNat) {T : Nat} (e : (Datum.number s m p).integral .zero = .number s T 0) : n = sg s T := by
  have hN := sg_abs h
  have hs := sg_of h
  have e' : Toward.zero.cut s (m <<< p.toNat) (-p).toNat = T := by cases e; rfl
  rw [Nat.shiftLeft_eq, hN, cut_exact] at e'
  rw [hs, e']

theorem trunc_num {n : String} {way : Toward} {b : Nat} {s : Bool} {m : Nat} {p : Int} (h : FloatKind.f64.decode b = .number s m p) : Extern.MathFloor.toIntegral n way #[.float .f64 b] = pure (.float .f64 (FloatKind.f64.encode ((Datum.number s m p).integral way))) := by
  have h0 : Extern.MathFloor.toIntegral n way #[.float .f64 b] = Extern.MathFloor.toIntegral.match_1 (fun _ => Sem Value) (FloatKind.f64.decode b) _ _ := rfl
  rw [h0, h]
theorem whole_cases (b lo hi : Nat) (hlo : Is lo (-2 ^ 40)) (hhi : Is hi (2 ^ 40)) :
    ((double.order b lo == some .gt || double.order b lo == some .eq) = false ∧ ¬ Wh b) ∨
    ((double.order b lo == some .gt || double.order b lo == some .eq) = true ∧ (double.order b hi == some .lt || double.order b hi == some .eq) = false ∧ ¬ Wh b) ∨
    ((double.order b lo == some .gt || double.order b lo == some .eq) = true ∧ (double.order b hi == some .lt || double.order b hi == some .eq) = true ∧
      ∃ (t : Int) (r : Nat), t.natAbs ≤ 2 ^ 40 ∧ floatToIntVal .f64 b .i64 = some t ∧ Is r t ∧ (∀ P w, (Extern.MathFloor.toIntegral "math.archTrunc" .zero #[.float .f64 b]).run P w = .ok (.float .f64 r) w) ∧ (Wh b ↔ Is b t)) := by
  cases hb : double.read b with
  | nan s f =>
    refine .inl ⟨?_, ?_⟩
    · unfold Format.order; rw [hb]; rfl
    · rintro ⟨n, _, h⟩; unfold Is at h; rw [hb] at h; obtain ⟨_, _, _, e, _⟩ := h; cases e
  | infinity s =>
    have no : ¬ Wh b := by rintro ⟨n, _, h⟩; unfold Is at h; rw [hb] at h; obtain ⟨_, _, _, e, _⟩ := h; cases e
    obtain ⟨t, m', j, ey, g⟩ := hlo
    obtain ⟨t2, m2, j2, ey2, g2⟩ := hhi
    cases s
    · refine .inr (.inl ⟨?_, ?_, no⟩)
      · unfold Format.order; rw [hb, ey]; rfl
      · unfold Format.order; rw [hb, ey2]; rfl
    · refine .inl ⟨?_, no⟩
      unfold Format.order; rw [hb, ey]; rfl
  | number s m p =>
    have o1 : double.order b lo = some (compare (sg s m * 2 ^ p.toNat) (-2 ^ 40 * 2 ^ (-p).toNat)) := by unfold Format.order; rw [hb]; exact order_any s m p hlo
    have o2 : double.order b hi = some (compare (sg s m * 2 ^ p.toNat) (2 ^ 40 * 2 ^ (-p).toNat)) := by unfold Format.order; rw [hb]; exact order_any s m p hhi
    have hv {n : Int} (h : Is b n) : sg s m * 2 ^ p.toNat = n * 2 ^ (-p).toNat := by
      unfold Is at h; rw [hb] at h; obtain ⟨_, _, _, e, h⟩ := h; cases e; exact h
    have hpos := pw_pos (-p).toNat
    rw [o1, o2]
    by_cases h1 : sg s m * 2 ^ p.toNat < -2 ^ 40 * 2 ^ (-p).toNat
    · refine .inl ⟨by rw [Int.compare_eq_lt.2 h1]; rfl, ?_⟩
      rintro ⟨n, hn, h⟩
      rw [hv h] at h1
      have := Int.lt_of_mul_lt_mul_right h1 (Int.le_of_lt hpos)
      omega
    · have b1 : (some (compare (sg s m * 2 ^ p.toNat) (-2 ^ 40 * 2 ^ (-p).toNat)) == some Ordering.gt || some (compare (sg s m * 2 ^ p.toNat) (-2 ^ 40 * 2 ^ (-p).toNat)) == some Ordering.eq) = true := by
        rcases Int.lt_or_eq_of_le (Int.not_lt.1 h1) with q | q
        · rw [Int.compare_eq_gt.2 q]; rfl
        · rw [← q, Int.compare_eq_eq.2 rfl]; rfl
      by_cases h2 : 2 ^ 40 * 2 ^ (-p).toNat < sg s m * 2 ^ p.toNat
      · refine .inr (.inl ⟨b1, by rw [Int.compare_eq_gt.2 h2]; rfl, ?_⟩)
        rintro ⟨n, hn, h⟩
        rw [hv h] at h2
        have := Int.lt_of_mul_lt_mul_right h2 (Int.le_of_lt hpos)
        omega
      · refine .inr (.inr ⟨b1, ?_, ?_⟩)
        · rcases Int.lt_or_eq_of_le (Int.not_lt.1 h2) with q | q
          · rw [Int.compare_eq_lt.2 q]; rfl
          · rw [← q, Int.compare_eq_eq.2 rfl]; rfl
        · obtain ⟨T, hT, hI⟩ := whole_num (Int.not_lt.1 h2) (Int.not_lt.1 h1)
          have ha := sg_T s T
          refine ⟨sg s T, double.write (.number s T 0), by omega, ?_, val_write (val_T s T) (by omega), ?_, ?_⟩
          · unfold floatToIntVal Datum.toInt
            have e0 : FloatKind.f64.decode b = .number s m p := hb
            rw [e0, hI]
            dsimp only
            rw [signed_sg]
            simp only [Int.pow_zero, Int.mul_one]
            have r1 : IntKind.i64.min = -2 ^ 63 := by decide
            have r2 : IntKind.i64.max = 2 ^ 63 - 1 := by decide
            rw [if_pos (by rw [r1, r2]; omega)]
          · intro P w
            have e0 : FloatKind.f64.decode b = .number s m p := hb
            rw [trunc_num e0, hI]
            rfl
          · constructor
            · rintro ⟨n, hn, h⟩
              have := val_integral (hv h) hI
              rw [← this]; exact h
            · intro h
              exact ⟨_, by omega, h⟩

end Go.Proofs.Ytgiiaokkmnjckab.Fl
