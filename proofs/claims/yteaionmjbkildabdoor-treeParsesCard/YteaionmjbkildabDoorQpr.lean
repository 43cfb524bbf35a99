/- Reading numbers, words, nodes, trees out of a text; what is written is read. -/
import Derived.Lib.ItoaNum
namespace Go.Proofs.YteaionmjbkildabDoor
namespace Pa
open Go.Lib
set_option linter.unusedVariables false
set_option linter.unusedSimpArgs false
set_option maxRecDepth 100000

/-- Is a byte a digit? -/
def dgB (c : UInt8) : Bool := decide (48 ≤ c.toNat ∧ c.toNat ≤ 57)
/-- A number of at most k digits more, n so far: the number and the rest of the text. -/
def numR : Nat → Nat → List UInt8 → Nat × List UInt8
  | 0, n, r => (n, r)
  | _ + 1, n, [] => (n, [])
  | k + 1, n, c :: r => if dgB c then (if 10 * n + (c.toNat - 48) = 0 then (0, r) else numR k (10 * n + (c.toNat - 48)) r) else (n, c :: r)
theorem numR_le : ∀ k n r, (numR k n r).2.length ≤ r.length
  | 0, _, _ => Nat.le_refl _
  | _ + 1, _, [] => Nat.le_refl _
  | k + 1, n, c :: r => by
    unfold numR
    split
    · split
      · simp
      · exact Nat.le_trans (numR_le k _ r) (by simp)
    · exact Nat.le_refl _
theorem numR_suf : ∀ k n r, ∃ a, r = a ++ (numR k n r).2
  | 0, _, _ => ⟨[], rfl⟩
  | _ + 1, _, [] => ⟨[], rfl⟩
  | k + 1, n, c :: r => by
    unfold numR
    split
    · split
      · exact ⟨[c], rfl⟩
      · obtain ⟨a, ha⟩ := numR_suf k (10 * n + (c.toNat - 48)) r
        exact ⟨c :: a, by rw [List.cons_append, ← ha]⟩
    · exact ⟨[], rfl⟩
theorem numR_lt : ∀ k n r, (numR k n r).1 < 10 ^ k * (n + 1)
  | 0, n, r => by simp [numR]
  | k + 1, n, [] => by
    simp only [numR]
    have : 1 ≤ 10 ^ (k + 1) := Nat.le_trans (Nat.one_le_two_pow (n := k + 1)) (Nat.pow_le_pow_left (by decide) _)
    calc n < 1 * (n + 1) := by omega
      _ ≤ _ := Nat.mul_le_mul_right _ this
  | k + 1, n, c :: r => by
    have h1 : 1 ≤ 10 ^ (k + 1) := Nat.le_trans (Nat.one_le_two_pow (n := k + 1)) (Nat.pow_le_pow_left (by decide) _)
    have h0 : n < 10 ^ (k + 1) * (n + 1) := by
      calc n < 1 * (n + 1) := by omega
        _ ≤ _ := Nat.mul_le_mul_right _ h1
    unfold numR
    split
    · rename_i hd
      simp [dgB] at hd
      split
      · show 0 < _; omega
      · refine Nat.lt_of_lt_of_le (numR_lt k _ r) ?_
        rw [Nat.pow_succ, Nat.mul_assoc]
        exact Nat.mul_le_mul_left _ (by omega)
    · exact h0
theorem dg_byte {d : Nat} (h : d < 10) : dgB (UInt8.ofNat (48 + d)) = true ∧ (UInt8.ofNat (48 + d)).toNat - 48 = d := by
  have : ∀ d : Fin 10, dgB (UInt8.ofNat (48 + d.val)) = true ∧ (UInt8.ofNat (48 + d.val)).toNat - 48 = d.val := by decide
  exact this ⟨d, h⟩
theorem dec_ge {u : Nat} (h : ¬ u < 10) : decDigits u = decDigits (u / 10) ++ [UInt8.ofNat (48 + u % 10)] := by rw [decDigits, dif_neg h]
theorem numR_dec (k : Nat) : ∀ u, 0 < u → ∀ k B, numR (k + nDigits u) 0 (decDigits u ++ B) = numR k u B := by
  intro u
  induction u using Nat.strongRecOn with
  | _ u ih =>
    intro h k B
    by_cases hs : u < 10
    · rw [decDigits_one hs, nDigits_small hs]
      obtain ⟨d1, d2⟩ := dg_byte hs
      simp only [List.cons_append, List.nil_append, numR, d1, d2, if_true]
      rw [if_neg (by omega)]
      congr 1
      omega
    · rw [dec_ge hs, nDigits_big hs, List.append_assoc]
      have e : k + (nDigits (u / 10) + 1) = (k + 1) + nDigits (u / 10) := by omega
      rw [e, ih (u / 10) (by omega) (by omega) (k + 1)]
      obtain ⟨d1, d2⟩ := dg_byte (show u % 10 < 10 from Nat.mod_lt _ (by decide))
      simp only [List.cons_append, List.nil_append, numR, d1, d2, if_true]
      have e2 : 10 * (u / 10) + u % 10 = u := Nat.div_add_mod u 10
      rw [e2, if_neg (by omega)]
/-- Does a text begin with a digit? -/
def hasD : List UInt8 → Bool
  | [] => false
  | c :: _ => dgB c
theorem numR_stop {B : List UInt8} (h : hasD B = false) : ∀ k n, numR k n B = (n, B)
  | 0, _ => rfl
  | k + 1, n => by
    cases B with
    | nil => rfl
    | cons c r =>
      have h' : dgB c = false := h
      simp [numR, h']
theorem nDigits_le9 {u : Nat} (h : u < 1000000000) : nDigits u ≤ 9 := by
  by_cases h0 : nDigits u ≤ 9
  · exact h0
  · exfalso
    have key : ∀ k u, nDigits u = k + 1 → 0 < u → 10 ^ k ≤ u := by
      intro k
      induction k with
      | zero => intro u _ h; rw [Nat.pow_zero]; exact h
      | succ k ih =>
        intro u hu h1
        by_cases hs : u < 10
        · rw [nDigits_small hs] at hu; omega
        · rw [nDigits_big hs] at hu
          have := ih (u / 10) (by omega) (by omega)
          rw [Nat.pow_succ]
          omega
    have h1 : 0 < u := by
      rcases Nat.eq_zero_or_pos u with e | h1
      · rw [e, nDigits_small (by decide)] at h0; omega
      · exact h1
    have h2 := key (nDigits u - 1) u (by omega) h1
    have h3 : 10 ^ 9 ≤ 10 ^ (nDigits u - 1) := Nat.pow_le_pow_right (by decide) (by omega)
    omega
theorem numR_back {u : Nat} (hu : u < 1000000000) {B : List UInt8} (h : hasD B = false) : numR 9 0 (decDigits u ++ B) = (u, B) := by
  rcases Nat.eq_zero_or_pos u with rfl | h0
  · rw [decDigits_one (by decide)]
    rfl
  · have h9 := nDigits_le9 hu
    have e : 9 = (9 - nDigits u) + nDigits u := by omega
    rw [e, numR_dec 0 u h0]
    exact numR_stop h _ _
/-- What was read stood there. -/
theorem numR_was : ∀ k u r, 0 < u → decDigits u ++ r = decDigits (numR k u r).1 ++ (numR k u r).2
  | 0, _, _, _ => rfl
  | _ + 1, _, [], _ => rfl
  | k + 1, u, c :: r, h => by
    unfold numR
    split
    · rename_i hd
      rw [if_neg (by omega), ← numR_was k _ r (by omega)]
      simp [dgB] at hd
      have e1 : (10 * u + (c.toNat - 48)) / 10 = u := by omega
      have e2 : (10 * u + (c.toNat - 48)) % 10 = c.toNat - 48 := by omega
      rw [dec_ge (u := 10 * u + (c.toNat - 48)) (by omega), e1, e2, List.append_assoc]
      have e3 : UInt8.ofNat (48 + (c.toNat - 48)) = c := by
        rw [show 48 + (c.toNat - 48) = c.toNat by omega]; simp
      rw [e3]; rfl
    · rfl
theorem numR_was0 {k : Nat} {r : List UInt8} (h : (numR (k + 1) 0 r).2.length < r.length) : r = decDigits (numR (k + 1) 0 r).1 ++ (numR (k + 1) 0 r).2 := by
  cases r with
  | nil => simp [numR] at h
  | cons c r =>
    unfold numR at h ⊢
    by_cases hd : dgB c = true
    · simp only [hd, if_true] at h ⊢
      have hd' := hd
      simp [dgB] at hd'
      have e3 : UInt8.ofNat (48 + (c.toNat - 48)) = c := by
        rw [show 48 + (c.toNat - 48) = c.toNat by omega]; simp
      by_cases h0 : 10 * 0 + (c.toNat - 48) = 0
      · rw [if_pos h0]
        have e4 : c.toNat - 48 = 0 := by omega
        rw [e4] at e3
        rw [decDigits_one (show 0 < 10 by decide), e3]; rfl
      · rw [if_neg h0]
        have h1 := numR_was k (10 * 0 + (c.toNat - 48)) r (by omega)
        rw [← h1, decDigits_one (show 10 * 0 + (c.toNat - 48) < 10 by omega)]
        rw [show 48 + (10 * 0 + (c.toNat - 48)) = 48 + (c.toNat - 48) by omega, e3]; rfl
    · simp only [Bool.not_eq_true] at hd
      simp [hd] at h


/-- One byte is gone over. -/
def skR (b : UInt8) : List UInt8 → Bool × List UInt8
  | [] => (false, [])
  | c :: r => if c = b then (true, r) else (false, c :: r)
/-- A word is gone over byte by byte. -/
def wrdR : List UInt8 → List UInt8 → Bool × List UInt8
  | [], r => (true, r)
  | b :: bs, r => if (skR b r).1 then wrdR bs (skR b r).2 else (false, (skR b r).2)
theorem skR_suf (b : UInt8) (r : List UInt8) : ∃ a, r = a ++ (skR b r).2 := by
  cases r with
  | nil => exact ⟨[], rfl⟩
  | cons c r =>
    by_cases e : c = b
    · exact ⟨[c], by simp [skR, e]⟩
    · exact ⟨[], by simp [skR, e]⟩
theorem wrdR_suf : ∀ (w r : List UInt8), ∃ a, r = a ++ (wrdR w r).2
  | [], r => ⟨[], rfl⟩
  | b :: bs, r => by
    obtain ⟨a, ha⟩ := skR_suf b r
    unfold wrdR
    split
    · obtain ⟨c, hc⟩ := wrdR_suf bs (skR b r).2
      exact ⟨a ++ c, by rw [List.append_assoc, ← hc]; exact ha⟩
    · exact ⟨a, ha⟩
theorem wrdR_back : ∀ (w r : List UInt8), wrdR w (w ++ r) = (true, r)
  | [], r => rfl
  | b :: bs, r => by simp [wrdR, skR, wrdR_back bs r]
theorem skR_was {b : UInt8} {r : List UInt8} (h : (skR b r).1 = true) : r = b :: (skR b r).2 := by
  cases r with
  | nil => simp [skR] at h
  | cons c r =>
    by_cases e : c = b
    · simp [skR, e]
    · simp [skR, e] at h
theorem wrdR_was : ∀ {w r : List UInt8}, (wrdR w r).1 = true → r = w ++ (wrdR w r).2
  | [], r, _ => rfl
  | b :: bs, r, h => by
    unfold wrdR at h ⊢
    by_cases e : (skR b r).1 = true
    · rw [if_pos e] at h ⊢
      have := skR_was e
      have h2 := wrdR_was h
      rw [List.cons_append, ← h2]
      exact this
    · rw [if_neg e] at h; simp at h
/-- A branch's line, kids so far. -/
def brR : Nat → List Nat → List UInt8 → List Nat × Bool × List UInt8
  | 0, _, r => ([], false, r)
  | f + 1, acc, r => if (numR 9 0 r).2.length < r.length then (if (skR 32 (numR 9 0 r).2).1 then brR f (acc ++ [(numR 9 0 r).1]) (skR 32 (numR 9 0 r).2).2 else (acc ++ [(numR 9 0 r).1], true, (skR 32 (numR 9 0 r).2).2)) else ([], false, (numR 9 0 r).2)
/-- A node's line ahead of its end: state, kids; is the state too great; does it stand; the rest. -/
def lnR (r : List UInt8) : (Nat × List Nat) × Bool × Bool × List UInt8 :=
  if r.head? = some 61 then
    (if (wrdR [61, 32] r).1 then (((numR 9 0 (wrdR [61, 32] r).2).1 % 256, []), decide (256 ≤ (numR 9 0 (wrdR [61, 32] r).2).1), decide ((numR 9 0 (wrdR [61, 32] r).2).2.length < (wrdR [61, 32] r).2.length), (numR 9 0 (wrdR [61, 32] r).2).2)
    else ((0, []), false, false, (wrdR [61, 32] r).2))
  else ((0, (brR r.length [] r).1), false, (brR r.length [] r).2.1, (brR r.length [] r).2.2)
/-- A node's line. -/
def ndR (r : List UInt8) : (Nat × List Nat) × Bool × Bool × List UInt8 :=
  if (lnR r).2.2.1 then ((lnR r).1, (lnR r).2.1, (skR 10 (lnR r).2.2.2).1, (skR 10 (lnR r).2.2.2).2) else lnR r
/-- So many nodes more: the nodes, was a state too great, do all stand, the rest. -/
def nsR : Nat → List (Nat × List Nat) → Bool → List UInt8 → List (Nat × List Nat) × Bool × Bool × List UInt8
  | 0, acc, ns, r => (acc, ns, true, r)
  | k + 1, acc, ns, r => if (ndR r).2.2.1 then nsR k (acc ++ [(ndR r).1]) (ns || (ndR r).2.1) (ndR r).2.2.2 else (acc, ns || (ndR r).2.1, false, (ndR r).2.2.2)
/-- A number of the head. -/
def hnR (which : Nat) (r : List UInt8) : Nat × Bool × List UInt8 :=
  if (skR 32 r).1 then
    (if (numR 9 0 (skR 32 r).2).2.length < (skR 32 r).2.length ∧ which = 2 ∧ 65536 < (numR 9 0 (skR 32 r).2).1 then ((numR 9 0 (skR 32 r).2).1, false, (skR 32 r).2)
    else ((numR 9 0 (skR 32 r).2).1, decide ((numR 9 0 (skR 32 r).2).2.length < (skR 32 r).2.length), (numR 9 0 (skR 32 r).2).2))
  else (0, false, (skR 32 r).2)
/-- So many numbers of the head more. -/
def hsR : Nat → List Nat → List UInt8 → List Nat × Bool × List UInt8
  | 0, acc, r => (acc, true, r)
  | k + 1, acc, r => if (hnR acc.length r).2.1 then hsR k (acc ++ [(hnR acc.length r).1]) (hnR acc.length r).2.2 else (acc ++ [(hnR acc.length r).1], false, (hnR acc.length r).2.2)
/-- The head: four numbers. -/
def hdR (r : List UInt8) : List Nat × Bool × List UInt8 :=
  if (wrdR [116, 114, 101, 101] r).1 then
    (if (hsR 4 [] (wrdR [116, 114, 101, 101] r).2).2.1 then ((hsR 4 [] (wrdR [116, 114, 101, 101] r).2).1, (skR 10 (hsR 4 [] (wrdR [116, 114, 101, 101] r).2).2.2).1, (skR 10 (hsR 4 [] (wrdR [116, 114, 101, 101] r).2).2.2).2)
    else hsR 4 [] (wrdR [116, 114, 101, 101] r).2)
  else ([], false, (wrdR [116, 114, 101, 101] r).2)
/-- A tree's text: the numbers, the nodes, was a state too great, does it stand, the rest. -/
def trR (r : List UInt8) : List Nat × List (Nat × List Nat) × Bool × Bool × List UInt8 :=
  if (hdR r).2.1 then
    ((hdR r).1, (nsR ((hdR r).1.getD 2 0) [] false (hdR r).2.2).1, (nsR ((hdR r).1.getD 2 0) [] false (hdR r).2.2).2.1, (nsR ((hdR r).1.getD 2 0) [] false (hdR r).2.2).2.2.1 && (nsR ((hdR r).1.getD 2 0) [] false (hdR r).2.2).2.2.2.isEmpty, (nsR ((hdR r).1.getD 2 0) [] false (hdR r).2.2).2.2.2)
  else ([], [], false, false, (hdR r).2.2)

/-! ### What is written is read -/

def kidsT (kf : Nat → Nat) : Nat → List UInt8
  | 0 => []
  | k + 1 => kidsT kf k ++ (if k = 0 then [] else [32]) ++ decDigits (kf k)
theorem kidsT_len (kf : Nat → Nat) : ∀ k, k ≤ (kidsT kf k).length
  | 0 => Nat.le_refl _
  | k + 1 => by
    have h1 := kidsT_len kf k
    have h2 := nDigits_pos (kf k)
    rw [kidsT, List.length_append, List.length_append, decDigits_length]
    omega
theorem dec_pos (u : Nat) : 0 < (decDigits u).length := by rw [decDigits_length]; exact nDigits_pos u
theorem brR_one {u : Nat} (hu : u < 1000000000) {B : List UInt8} (hB : hasD B = false) (f : Nat) (acc : List Nat) : brR (f + 1) acc (decDigits u ++ B) = if (skR 32 B).1 then brR f (acc ++ [u]) (skR 32 B).2 else (acc ++ [u], true, (skR 32 B).2) := by
  have e := numR_back hu hB
  have hp := dec_pos u
  rw [brR, e, if_pos (by show B.length < (decDigits u ++ B).length; rw [List.length_append]; omega)]
theorem brR_kids (kf : Nat → Nat) {kn : Nat} (hk : ∀ i, i < kn → kf i < 1000000000) : ∀ k, k + 1 ≤ kn → ∀ (f : Nat) (acc : List Nat) (B : List UInt8), hasD B = false → brR (f + (k + 1)) acc (kidsT kf (k + 1) ++ B) = if (skR 32 B).1 then brR f (acc ++ (List.range (k + 1)).map kf) (skR 32 B).2 else (acc ++ (List.range (k + 1)).map kf, true, (skR 32 B).2)
  | 0, h, f, acc, B, hB => by
    have e : kidsT kf (0 + 1) = decDigits (kf 0) := by simp [kidsT]
    rw [e, brR_one (hk 0 (by omega)) hB]
    rfl
  | k + 1, h, f, acc, B, hB => by
    have e : kidsT kf (k + 1 + 1) ++ B = kidsT kf (k + 1) ++ (32 :: (decDigits (kf (k + 1)) ++ B)) := by
      rw [kidsT, if_neg (by omega)]; simp
    have e2 : f + (k + 1 + 1) = (f + 1) + (k + 1) := by omega
    rw [e, e2, brR_kids kf hk k (by omega) (f + 1) acc _ (by rfl)]
    have e3 : skR 32 (32 :: (decDigits (kf (k + 1)) ++ B)) = (true, decDigits (kf (k + 1)) ++ B) := by simp [skR]
    rw [e3]
    simp only [if_true]
    rw [brR_one (hk _ (by omega)) hB, List.range_succ (n := k + 1), List.map_append, List.append_assoc]
    rfl
def nodeT (st : Nat) (kf : Nat → Nat) (kn : Nat) : List UInt8 := if kn = 0 then [61, 32] ++ decDigits st ++ [10] else kidsT kf kn ++ [10]
theorem kidsT_head (kf : Nat → Nat) (B : List UInt8) : ∀ k, (kidsT kf (k + 1) ++ B).head? = (decDigits (kf 0)).head?
  | 0 => by
    have := dec_pos (kf 0)
    simp only [kidsT]
    cases h : decDigits (kf 0) with
    | nil => rw [h] at this; simp at this
    | cons c r => simp
  | k + 1 => by
    have ih := kidsT_head kf ((if k + 1 = 0 then [] else [32]) ++ decDigits (kf (k + 1)) ++ B) k
    rw [kidsT, ← ih]
    simp
theorem dec_head (u : Nat) : (decDigits u).head? ≠ some 61 := by
  induction u using Nat.strongRecOn with
  | _ u ih =>
    by_cases h : u < 10
    · rw [decDigits_one h]
      have : ∀ d : Fin 10, UInt8.ofNat (48 + d.val) ≠ 61 := by decide
      simpa using this ⟨u, h⟩
    · rw [dec_ge h]
      have h1 := ih (u / 10) (by omega)
      have h2 := dec_pos (u / 10)
      cases e : decDigits (u / 10) with
      | nil => rw [e] at h2; simp at h2
      | cons c r => rw [e] at h1; simpa using h1
theorem ndR_back {st kn : Nat} {kf : Nat → Nat} (hst : st < 256) (h0 : 0 < kn → st = 0) (hk : ∀ i, i < kn → kf i < 1000000000) (B : List UInt8) : ndR (nodeT st kf kn ++ B) = ((st, (List.range kn).map kf), false, true, B) := by
  by_cases h : kn = 0
  · subst h
    have e : nodeT st kf 0 ++ B = [61, 32] ++ (decDigits st ++ (10 :: B)) := by simp [nodeT]
    have e1 : lnR (nodeT st kf 0 ++ B) = ((st, []), false, true, 10 :: B) := by
      rw [e]
      have eh : ([61, 32] ++ (decDigits st ++ (10 :: B)) : List UInt8).head? = some 61 := rfl
      unfold lnR
      rw [if_pos eh, wrdR_back]
      simp only [if_true]
      have hb : hasD (10 :: B) = false := rfl
      rw [numR_back (by omega) hb]
      have hp := dec_pos st
      have d1 : decide (256 ≤ st) = false := by simp; omega
      have d2 : decide ((10 :: B).length < (decDigits st ++ (10 :: B)).length) = true := by simp; omega
      simp only [d1, d2, Nat.mod_eq_of_lt hst]
    unfold ndR
    rw [e1]
    simp [skR]
  · obtain ⟨k, rfl⟩ : ∃ k, kn = k + 1 := ⟨kn - 1, by omega⟩
    obtain rfl := h0 (by omega)
    have e : nodeT 0 kf (k + 1) ++ B = kidsT kf (k + 1) ++ (10 :: B) := by simp [nodeT]
    have hl := kidsT_len kf (k + 1)
    have e1 : lnR (nodeT 0 kf (k + 1) ++ B) = ((0, (List.range (k + 1)).map kf), false, true, 10 :: B) := by
      rw [e]
      unfold lnR
      rw [if_neg (by rw [kidsT_head]; exact dec_head _)]
      obtain ⟨f, hf⟩ : ∃ f, (kidsT kf (k + 1) ++ (10 :: B)).length = f + (k + 1) := ⟨(kidsT kf (k + 1) ++ (10 :: B)).length - (k + 1), by rw [List.length_append]; omega⟩
      rw [hf, brR_kids kf hk k (by omega) f [] _ (by rfl)]
      simp [skR]
    unfold ndR
    rw [e1]
    simp [skR]


def nodesT (st kn : Nat → Nat) (kf : Nat → Nat → Nat) : Nat → List UInt8
  | 0 => []
  | j + 1 => nodesT st kn kf j ++ nodeT (st j) (kf j) (kn j)
theorem nsR_back (st kn : Nat → Nat) (kf : Nat → Nat → Nat) (ns : Bool) : ∀ j, (∀ i, i < j → st i < 256 ∧ (0 < kn i → st i = 0) ∧ ∀ k, k < kn i → kf i k < 1000000000) → ∀ k acc B, nsR (k + j) acc ns (nodesT st kn kf j ++ B) = nsR k (acc ++ (List.range j).map fun i => (st i, (List.range (kn i)).map (kf i))) ns B
  | 0, _, k, acc, B => by simp [nodesT]
  | j + 1, h, k, acc, B => by
    obtain ⟨h1, h2, h3⟩ := h j (by omega)
    have e : nodesT st kn kf (j + 1) ++ B = nodesT st kn kf j ++ (nodeT (st j) (kf j) (kn j) ++ B) := by rw [nodesT, List.append_assoc]
    have e2 : k + (j + 1) = (k + 1) + j := by omega
    rw [e, e2, nsR_back st kn kf ns j (fun i hi => h i (by omega)) (k + 1) acc, nsR, ndR_back h1 h2 h3 B]
    simp only [if_true, Bool.or_false]
    rw [List.range_succ, List.map_append, List.append_assoc]
    rfl
def headT (S I n R : Nat) : List UInt8 := [116, 114, 101, 101] ++ [32] ++ decDigits S ++ [32] ++ decDigits I ++ [32] ++ decDigits n ++ [32] ++ decDigits R ++ [10]
theorem hnR_back {u : Nat} (hu : u < 1000000000) (which : Nat) (hw : which = 2 → u ≤ 65536) {B : List UInt8} (hB : hasD B = false) : hnR which (32 :: (decDigits u ++ B)) = (u, true, B) := by
  have e1 : skR 32 (32 :: (decDigits u ++ B)) = (true, decDigits u ++ B) := by simp [skR]
  have hp := dec_pos u
  unfold hnR
  rw [e1]
  simp only [if_true]
  rw [numR_back hu hB, if_neg (by rintro ⟨_, h1, h2⟩; have := hw h1; have h2' : 65536 < u := h2; omega)]
  have d : decide (B.length < (decDigits u ++ B).length) = true := by simp; omega
  simp only [d]
theorem hsR_step {u : Nat} (k : Nat) (acc : List Nat) (hu : u < 1000000000) (hw : acc.length = 2 → u ≤ 65536) {B : List UInt8} (hB : hasD B = false) : hsR (k + 1) acc (32 :: (decDigits u ++ B)) = hsR k (acc ++ [u]) B := by
  rw [hsR, hnR_back hu _ hw hB]
  simp
theorem hdR_back {S I n R : Nat} (hS : S < 1000000000) (hI : I < 1000000000) (hn : n ≤ 65536) (hR : R < 1000000000) (B : List UInt8) : hdR (headT S I n R ++ B) = ([S, I, n, R], true, B) := by
  have e : headT S I n R ++ B = [116, 114, 101, 101] ++ (32 :: (decDigits S ++ (32 :: (decDigits I ++ (32 :: (decDigits n ++ (32 :: (decDigits R ++ (10 :: B))))))))) := by simp [headT]
  have e2 : hsR 4 [] (32 :: (decDigits S ++ (32 :: (decDigits I ++ (32 :: (decDigits n ++ (32 :: (decDigits R ++ (10 :: B))))))))) = ([S, I, n, R], true, 10 :: B) := by
    rw [hsR_step 3 [] hS (by simp) (by rfl), hsR_step 2 _ hI (by simp) (by rfl), hsR_step 1 _ (by omega) (fun _ => hn) (by rfl), hsR_step 0 _ hR (by simp) (by rfl)]
    rfl
  unfold hdR
  rw [e, wrdR_back]
  simp only [if_true]
  rw [e2]
  simp [skR]
theorem trR_back {S I n R : Nat} (hS : S < 1000000000) (hI : I < 1000000000) (hn : n ≤ 65536) (hR : R < 1000000000) (st kn : Nat → Nat) (kf : Nat → Nat → Nat) (h : ∀ i, i < n → st i < 256 ∧ (0 < kn i → st i = 0) ∧ ∀ k, k < kn i → kf i k < 1000000000) :
    trR (headT S I n R ++ nodesT st kn kf n) = ([S, I, n, R], (List.range n).map (fun i => (st i, (List.range (kn i)).map (kf i))), false, true, []) := by
  have e := nsR_back st kn kf false n h 0 [] []
  rw [List.append_nil, Nat.zero_add, List.nil_append] at e
  unfold trR
  rw [hdR_back hS hI hn hR]
  simp only [if_true]
  have e2 : ([S, I, n, R] : List Nat).getD 2 0 = n := rfl
  rw [e2, e]
  rfl


/-! ### What is read was written -/

theorem kidsT_cons (kf : Nat → Nat) : ∀ m, kidsT kf (m + 1) = decDigits (kf 0) ++ (if m = 0 then [] else 32 :: kidsT (fun i => kf (i + 1)) m)
  | 0 => by simp [kidsT]
  | m + 1 => by
    rw [kidsT, kidsT_cons kf m, if_neg (Nat.succ_ne_zero m)]
    by_cases h : m = 0
    · subst h; simp [kidsT]
    · rw [if_neg h, if_neg (Nat.succ_ne_zero m), kidsT, if_neg h]; simp
/-- The kids of a list as a text. -/
def kidsL (ks : List Nat) : List UInt8 := kidsT (fun i => ks.getD i 0) ks.length
theorem kidsL_one (k : Nat) : kidsL [k] = decDigits k := by simp [kidsL, kidsT]
theorem kidsL_cons (k : Nat) {ks : List Nat} (h : 0 < ks.length) : kidsL (k :: ks) = decDigits k ++ 32 :: kidsL ks := by
  unfold kidsL
  rw [List.length_cons, kidsT_cons, if_neg (by omega)]
  simp
theorem numR_small (r : List UInt8) : (numR 9 0 r).1 < 1000000000 := by simpa using numR_lt 9 0 r
theorem brR_was : ∀ (f : Nat) (acc : List Nat) (r : List UInt8), (brR f acc r).2.1 = true → ∃ new, (brR f acc r).1 = acc ++ new ∧ 0 < new.length ∧ (∀ x ∈ new, x < 1000000000) ∧ r = kidsL new ++ (brR f acc r).2.2
  | 0, acc, r, h => by simp [brR] at h
  | f + 1, acc, r, h => by
    unfold brR at h ⊢
    by_cases h1 : (numR 9 0 r).2.length < r.length
    · have hw := numR_was0 h1
      have hs := numR_small r
      rw [if_pos h1] at h ⊢
      by_cases h2 : (skR 32 (numR 9 0 r).2).1 = true
      · rw [if_pos h2] at h ⊢
        obtain ⟨new, e1, e2, e3, e4⟩ := brR_was f _ _ h
        have h3 := skR_was h2
        refine ⟨(numR 9 0 r).1 :: new, ?_, by simp, fun x hx => ?_, ?_⟩
        · rw [e1, List.append_assoc]; rfl
        · rcases List.mem_cons.1 hx with rfl | hx
          · exact hs
          · exact e3 x hx
        · rw [kidsL_cons _ e2, List.append_assoc, List.cons_append, ← e4, ← h3]
          exact hw
      · rw [if_neg h2] at h ⊢
        have h3 : (skR 32 (numR 9 0 r).2).2 = (numR 9 0 r).2 := by
          cases e : (numR 9 0 r).2 with
          | nil => rfl
          | cons c q =>
            by_cases e5 : c = 32
            · rw [e] at h2; simp [skR, e5] at h2
            · simp [skR, e5]
        refine ⟨[(numR 9 0 r).1], rfl, by simp, fun x hx => ?_, ?_⟩
        · obtain rfl := List.mem_singleton.1 hx
          exact hs
        · rw [kidsL_one]
          show r = _ ++ (skR 32 (numR 9 0 r).2).2
          rw [h3]
          exact hw
    · rw [if_neg h1] at h; simp at h
/-- A node as a line. -/
def nodeL (x : Nat × List Nat) : List UInt8 := nodeT x.1 (fun i => x.2.getD i 0) x.2.length
/-- Such a node stands in a text. -/
def NdOk (x : Nat × List Nat) : Prop := x.1 < 256 ∧ (0 < x.2.length → x.1 = 0) ∧ ∀ y ∈ x.2, y < 1000000000
theorem ndR_was {r : List UInt8} (h : (ndR r).2.2.1 = true) (hn : (ndR r).2.1 = false) : NdOk (ndR r).1 ∧ r = nodeL (ndR r).1 ++ (ndR r).2.2.2 := by
  unfold ndR at h hn ⊢
  by_cases h1 : (lnR r).2.2.1 = true
  · simp only [if_pos h1] at h hn ⊢
    have h3 := skR_was h
    have key : NdOk (lnR r).1 ∧ ∀ q, (lnR r).2.2.2 = 10 :: q → r = nodeL (lnR r).1 ++ q := by
      unfold lnR at h1 hn ⊢
      by_cases h4 : r.head? = some 61
      · simp only [if_pos h4] at h1 hn ⊢
        by_cases h5 : (wrdR [61, 32] r).1 = true
        · simp only [if_pos h5] at h1 hn ⊢
          have h6 := wrdR_was h5
          have h7 := numR_was0 (of_decide_eq_true h1)
          have h8 := of_decide_eq_false hn
          have h9 : (numR 9 0 (wrdR [61, 32] r).2).1 % 256 = (numR 9 0 (wrdR [61, 32] r).2).1 := Nat.mod_eq_of_lt (by omega)
          refine ⟨⟨by show _ % 256 < 256; omega, fun h => absurd h (by simp), fun y hy => absurd hy (by simp)⟩, fun q hq => ?_⟩
          have hq' : (numR 9 0 (wrdR [61, 32] r).2).2 = 10 :: q := hq
          rw [hq'] at h7
          show r = nodeT ((numR 9 0 (wrdR [61, 32] r).2).1 % 256) _ 0 ++ q
          rw [h9]
          unfold nodeT
          rw [if_pos rfl, List.append_assoc, List.append_assoc]
          rw [show ([10] ++ q : List UInt8) = 10 :: q from rfl, ← h7]
          exact h6
        · simp only [if_neg h5] at h1
          simp at h1
      · simp only [if_neg h4] at h1 hn ⊢
        obtain ⟨new, e1, e2, e3, e4⟩ := brR_was _ _ _ h1
        rw [List.nil_append] at e1
        refine ⟨⟨by show 0 < 256; decide, fun _ => rfl, fun y hy => e3 y (by rw [← e1]; exact hy)⟩, fun q hq => ?_⟩
        have hq' : (brR r.length [] r).2.2 = 10 :: q := hq
        show r = nodeT 0 (fun i => (brR r.length [] r).1.getD i 0) (brR r.length [] r).1.length ++ q
        rw [e1]
        unfold nodeT
        rw [if_neg (by omega), List.append_assoc]
        rw [hq'] at e4
        exact e4
    exact ⟨key.1, key.2 _ h3⟩
  · simp only [if_neg h1] at h
    exact absurd h h1
def nodesL : List (Nat × List Nat) → List UInt8
  | [] => []
  | x :: xs => nodeL x ++ nodesL xs
theorem nodesL_snoc (x : Nat × List Nat) : ∀ xs, nodesL (xs ++ [x]) = nodesL xs ++ nodeL x
  | [] => by simp [nodesL]
  | y :: ys => by simp [nodesL, nodesL_snoc x ys]
theorem nsR_was : ∀ (k : Nat) (acc : List (Nat × List Nat)) (ns : Bool) (r : List UInt8), (nsR k acc ns r).2.2.1 = true → (nsR k acc ns r).2.1 = false → ns = false ∧ ∃ new, (nsR k acc ns r).1 = acc ++ new ∧ new.length = k ∧ (∀ x ∈ new, NdOk x) ∧ r = nodesL new ++ (nsR k acc ns r).2.2.2
  | 0, acc, ns, r, h, hn => ⟨hn, [], by simp [nsR], rfl, by simp, rfl⟩
  | k + 1, acc, ns, r, h, hn => by
    unfold nsR at h hn ⊢
    by_cases h1 : (ndR r).2.2.1 = true
    · rw [if_pos h1] at h hn ⊢
      obtain ⟨e0, new, e1, e2, e3, e4⟩ := nsR_was k _ _ _ h hn
      have e00 := e0
      rw [Bool.or_eq_false_iff] at e0
      obtain ⟨n1, n2⟩ := ndR_was h1 e0.2
      refine ⟨e0.1, (ndR r).1 :: new, ?_, by simp [e2], fun x hx => ?_, ?_⟩
      · rw [e1, List.append_assoc]; rfl
      · rcases List.mem_cons.1 hx with rfl | hx
        · exact n1
        · exact e3 x hx
      · rw [nodesL, List.append_assoc, ← e4]
        exact n2
    · rw [if_neg h1] at h; simp at h
theorem hnR_was {which : Nat} {r : List UInt8} (h : (hnR which r).2.1 = true) : (hnR which r).1 < 1000000000 ∧ (which = 2 → (hnR which r).1 ≤ 65536) ∧ r = 32 :: (decDigits (hnR which r).1 ++ (hnR which r).2.2) := by
  unfold hnR at h ⊢
  by_cases h1 : (skR 32 r).1 = true
  · simp only [if_pos h1] at h ⊢
    have h2 := skR_was h1
    have hs := numR_small (skR 32 r).2
    by_cases h3 : (numR 9 0 (skR 32 r).2).2.length < (skR 32 r).2.length ∧ which = 2 ∧ 65536 < (numR 9 0 (skR 32 r).2).1
    · simp only [if_pos h3] at h; simp at h
    · simp only [if_neg h3] at h ⊢
      have h4 := of_decide_eq_true h
      have h5 := numR_was0 h4
      refine ⟨hs, fun e => ?_, ?_⟩
      · by_cases h6 : 65536 < (numR 9 0 (skR 32 r).2).1
        · exact absurd ⟨h4, e, h6⟩ h3
        · show (numR 9 0 (skR 32 r).2).1 ≤ 65536
          omega
      · show r = 32 :: (decDigits (numR 9 0 (skR 32 r).2).1 ++ (numR 9 0 (skR 32 r).2).2)
        rw [← h5]
        exact h2
  · simp only [if_neg h1] at h; simp at h
theorem hsR_was (k : Nat) (acc : List Nat) (r : List UInt8) (h : (hsR (k + 1) acc r).2.1 = true) : ∃ u r2, u < 1000000000 ∧ (acc.length = 2 → u ≤ 65536) ∧ r = 32 :: (decDigits u ++ r2) ∧ hsR (k + 1) acc r = hsR k (acc ++ [u]) r2 := by
  have e := h
  unfold hsR at h
  by_cases h1 : (hnR acc.length r).2.1 = true
  · obtain ⟨a, b, c⟩ := hnR_was h1
    exact ⟨_, _, a, b, c, by rw [hsR, if_pos h1]⟩
  · rw [if_neg h1] at h; simp at h
theorem hdR_was {r : List UInt8} (h : (hdR r).2.1 = true) : ∃ S I n R, S < 1000000000 ∧ I < 1000000000 ∧ n ≤ 65536 ∧ R < 1000000000 ∧ (hdR r).1 = [S, I, n, R] ∧ r = headT S I n R ++ (hdR r).2.2 := by
  unfold hdR at h ⊢
  by_cases h1 : (wrdR [116, 114, 101, 101] r).1 = true
  · simp only [if_pos h1] at h ⊢
    have h0 := wrdR_was h1
    by_cases h2 : (hsR 4 [] (wrdR [116, 114, 101, 101] r).2).2.1 = true
    · simp only [if_pos h2] at h ⊢
      have h3 := skR_was h
      obtain ⟨q, hq⟩ : ∃ q, (wrdR [116, 114, 101, 101] r).2 = q := ⟨_, rfl⟩
      rw [hq] at h0 h2 h3 ⊢
      obtain ⟨S, r1, s1, _, s3, s4⟩ := hsR_was 3 [] q h2
      rw [s4] at h2
      obtain ⟨I, r2, i1, _, i3, i4⟩ := hsR_was 2 _ r1 h2
      rw [i4] at h2
      obtain ⟨n, r3, n1, n2, n3, n4⟩ := hsR_was 1 _ r2 h2
      rw [n4] at h2
      obtain ⟨R, r4, t1, _, t3, t4⟩ := hsR_was 0 _ r3 h2
      have e : hsR 4 [] q = ([S, I, n, R], true, r4) := by rw [s4, i4, n4, t4]; rfl
      rw [e] at h3 ⊢
      refine ⟨S, I, n, R, s1, i1, n2 rfl, t1, rfl, ?_⟩
      rw [h0, s3, i3, n3, t3]
      have h3' : r4 = 10 :: (skR 10 r4).2 := h3
      show _ = headT S I n R ++ (skR 10 r4).2
      conv => lhs; rw [h3']
      simp [headT]
    · simp only [if_neg h2] at h
      exact absurd h h2
  · simp only [if_neg h1] at h; simp at h
theorem trR_was {r : List UInt8} (h : (trR r).2.2.2.1 = true) (hn : (trR r).2.2.1 = false) : ∃ S I n R, S < 1000000000 ∧ I < 1000000000 ∧ n ≤ 65536 ∧ R < 1000000000 ∧ (trR r).1 = [S, I, n, R] ∧ (trR r).2.1.length = n ∧ (∀ x ∈ (trR r).2.1, NdOk x) ∧ r = headT S I n R ++ nodesL (trR r).2.1 := by
  unfold trR at h hn ⊢
  by_cases h1 : (hdR r).2.1 = true
  · simp only [if_pos h1] at h hn ⊢
    obtain ⟨S, I, n, R, a1, a2, a3, a4, a5, a6⟩ := hdR_was h1
    rw [a5] at h hn ⊢
    have e2 : ([S, I, n, R] : List Nat).getD 2 0 = n := rfl
    rw [e2] at h hn ⊢
    rw [Bool.and_eq_true] at h
    obtain ⟨b0, new, b1, b2, b3, b4⟩ := nsR_was _ _ _ _ h.1 hn
    rw [List.nil_append] at b1
    have h6 : (nsR n [] false (hdR r).2.2).2.2.2 = [] := List.isEmpty_iff.1 h.2
    rw [h6, List.append_nil] at b4
    refine ⟨S, I, n, R, a1, a2, a3, a4, rfl, by rw [b1]; exact b2, by rw [b1]; exact b3, ?_⟩
    rw [b1, ← b4]
    exact a6
  · simp only [if_neg h1] at h; simp at h
end Pa
end Go.Proofs.YteaionmjbkildabDoor
