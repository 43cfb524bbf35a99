/- Halves of what laid lays, gone through rune by rune; the table of the living. -/
import Derived.Test.YtjacoifhjfipaabBp
import Derived.Test.YtjacoifhjfipaabFp
namespace Go.Proofs.Ytjacoifhjfipaab
open Go.RowKit Ln
set_option linter.unusedVariables false
set_option linter.unusedSimpArgs false

theorem dw_split (V : Nat) (f : Nat → Nat → Int) : ∀ (M j : Nat), j ≤ M → ∃ r, dwP V f M = dwP V f j ++ r
  | 0, j, h => by
    obtain rfl : j = 0 := by omega
    exact ⟨[], by simp⟩
  | M + 1, j, h => by
    by_cases e : j = M + 1
    · subst e; exact ⟨[], by simp⟩
    · obtain ⟨r, hr⟩ := dw_split V f M j (by omega)
      refine ⟨r ++ ((List.range V).map (f M) ++ [10]), ?_⟩
      rw [dwP_succ]; unfold rwP; rw [hr]; simp
theorem rw_mid (V : Nat) (f : Nat → Nat → Int) {j i : Nat} (hi : i < V) : ∃ r, rwP V f j V = rwP V f j (i + 1) ++ r := by
  have h : ∀ k, i + 1 ≤ k → ∃ r, rwP V f j k = rwP V f j (i + 1) ++ r := fun k => by
    induction k with
    | zero => intro h; omega
    | succ k ih =>
      intro h
      by_cases e : i + 1 = k + 1
      · rw [e]; exact ⟨[], by simp⟩
      · obtain ⟨r, hr⟩ := ih (by omega)
        exact ⟨r ++ [f j k], by rw [rwP_succ, hr, List.append_assoc]⟩
  exact h V hi
theorem st_one (R P Q : List Int) (c : Int) (hc : Rn c) (h : R = P ++ [c] ++ Q) :
    (runesBytes P).size < (runesBytes R).size ∧ ((Utf8.decode (runesBytes R) (runesBytes P).size).1 : Int) = c ∧ (runesBytes P).size + (Utf8.decode (runesBytes R) (runesBytes P).size).2 = (runesBytes (P ++ [c])).size := by
  have e : runesBytes R = runesBytes P ++ Utf8.encode c ++ runesBytes Q := by rw [h, rb_app, rb_app, rb_one]
  have hd := dec_enc (runesBytes P) (runesBytes Q) hc
  have he := enc_pos hc
  rw [e, hd, ByteArray.size_append, ByteArray.size_append, rb_app, rb_one, ByteArray.size_append]
  refine ⟨by omega, ?_, rfl⟩
  show ((c.toNat : Nat) : Int) = c
  rcases hc with h | h <;> omega
/-- Where the run through the text stands: ahead of the rune i of the row j. -/
def pos (V : Nat) (f : Nat → Nat → Int) (j i : Nat) : Nat := (runesBytes (rwP V f j i)).size
theorem st_in (V : Nat) (f : Nat → Nat → Int) {M j i : Nat} (hj : j < M) (hi : i < V) (hf : Rn (f j i)) :
    pos V f j i < (runesBytes (dwP V f M)).size ∧ ((Utf8.decode (runesBytes (dwP V f M)) (pos V f j i)).1 : Int) = f j i ∧ pos V f j i + (Utf8.decode (runesBytes (dwP V f M)) (pos V f j i)).2 = pos V f j (i + 1) := by
  obtain ⟨r1, h1⟩ := dw_split V f M (j + 1) hj
  obtain ⟨r2, h2⟩ := rw_mid V f (j := j) hi
  have h := st_one (dwP V f M) (rwP V f j i) (r2 ++ [10] ++ r1) (f j i) hf (by rw [h1, dwP_succ, h2, rwP_succ]; simp)
  unfold pos
  rw [rwP_succ]
  exact h
theorem rn_ten : Rn 10 := by unfold Rn; omega
theorem st_end (V : Nat) (f : Nat → Nat → Int) {M j : Nat} (hj : j < M) :
    pos V f j V < (runesBytes (dwP V f M)).size ∧ ((Utf8.decode (runesBytes (dwP V f M)) (pos V f j V)).1 : Int) = 10 ∧ pos V f j V + (Utf8.decode (runesBytes (dwP V f M)) (pos V f j V)).2 = pos V f (j + 1) 0 := by
  obtain ⟨r1, h1⟩ := dw_split V f M (j + 1) hj
  have h := st_one (dwP V f M) (rwP V f j V) r1 10 rn_ten (by rw [h1, dwP_succ])
  unfold pos
  rw [rwP_zero, dwP_succ]
  exact h
theorem st_out (V : Nat) (f : Nat → Nat → Int) (M : Nat) : pos V f M 0 = (runesBytes (dwP V f M)).size := by unfold pos; rw [rwP_zero]
/-- The table of the living. -/
def lvT (l : List Cx) (q : Nat) : Bool := l.any fun c => decide (21 * c.2.1 + c.1 = (q : Int))
theorem lvT_snoc (l : List Cx) (a b : Nat) (z q : Nat) : lvT (l ++ [((a : Int), (b : Int), z)]) q = if q = 21 * b + a then true else lvT l q := by
  unfold lvT
  rw [List.any_append]
  simp only [List.any_cons, List.any_nil, Bool.or_false]
  by_cases h : q = 21 * b + a
  · rw [if_pos h, decide_eq_true (by subst h; push_cast; omega), Bool.or_true]
  · rw [if_neg h, decide_eq_false (by omega), Bool.or_false]
def lvA (g : Nat → Nat → Nat) (m y x : Nat) : Bool := decide (y < m) && decide (g y x ≠ 0)
theorem lvT_pic {n : Nat} (g : Nat → Nat → Nat) (m : Nat) {y x : Nat} (hn : n ≤ 20) (hx : x < n) : lvT (pic n g m) (21 * y + x) = lvA g m y x := by
  rw [Bool.eq_iff_iff]
  unfold lvT lvA
  rw [List.any_eq_true, Bool.and_eq_true, decide_eq_true_iff, decide_eq_true_iff]
  constructor
  · rintro ⟨c, hc, h⟩
    obtain ⟨j, i, hj, hi, h0, rfl⟩ := (pic_mem n g m c).1 hc
    rw [decide_eq_true_iff] at h
    have h' : 21 * (j : Int) + (i : Int) = ((21 * y + x : Nat) : Int) := h
    obtain rfl : i = x := by omega
    obtain rfl : j = y := by omega
    exact ⟨hj, h0⟩
  · rintro ⟨h1, h2⟩
    refine ⟨_, (pic_mem n g m _).2 ⟨y, x, h1, hx, h2, rfl⟩, ?_⟩
    rw [decide_eq_true_iff]
    show 21 * (y : Int) + (x : Int) = _
    omega
/-- The runes of Halves' picture. -/
def hG (g : Nat → Nat → Nat) (m j i : Nat) : Int := hfR (lvA g m (2 * j) i) (lvA g m (2 * j + 1) i)
theorem ld_H (X Y : Int) (n L : Nat) (st : Nat → Nat) (hX : -1000 ≤ X ∧ X ≤ 1000) (hY : -1000 ≤ Y ∧ Y ≤ 1000) {m : Nat} (hn : n ≤ 20) (hm : m ≤ 20) (h8 : ∀ q, q < L → st q < 256) :
    hvE (ldP X Y n L st (m + 2)) X Y (n : Int) (m : Int) = 0 ∧ hvS (ldP X Y n L st (m + 2)) X Y (n : Int) (m : Int) = runesBytes (dwP n (hG (gA n L st) m) ((m + 1) / 2)) ∧ (runesBytes (dwP n (hG (gA n L st) m) ((m + 1) / 2))).size ≤ 1680 := by
  have h0 := ld_E X Y n L st hX hY hn hm h8
  have hT : dwT ((m + 1) / 2) n (hvF (ldP X Y n L st (m + 2)) X Y (m : Int)) = runesBytes (dwP n (hG (gA n L st) m) ((m + 1) / 2)) := by
    unfold dwT
    rw [dwP_congr (f := hvF (ldP X Y n L st (m + 2)) X Y (m : Int)) (g := hG (gA n L st) m) _ (fun j i hj hi => by
      have key : ∀ y, (decide (((y : Nat) : Int) < (m : Int)) && decide (stA (ldP X Y n L st (m + 2)) (X + (i : Int)) (Y + ((y : Nat) : Int)) ≠ 0)) = lvA (gA n L st) m y i := fun y => by
        unfold lvA
        by_cases hy : y < m
        · rw [stA_in X Y n L st hi hy, decide_eq_true (show ((y : Nat) : Int) < (m : Int) by omega), decide_eq_true hy]
        · rw [decide_eq_false (show ¬ ((y : Nat) : Int) < (m : Int) by omega), decide_eq_false hy]; rfl
      unfold hvF hG
      rw [key, key])]
  have hz : (runesBytes (dwP n (hG (gA n L st) m) ((m + 1) / 2))).size ≤ 1680 := by
    have h1 := runesBytes_size_le (dwP n (hG (gA n L st) m) ((m + 1) / 2))
    rw [dwP_len] at h1
    have h2 : (m + 1) / 2 * (n + 1) ≤ 20 * 21 := Nat.mul_le_mul (by omega) (by omega)
    omega
  have hm2 : (m + 1) / 2 * (n + 1) ≤ 20 * 21 := Nat.mul_le_mul (by omega) (by omega)
  refine ⟨?_, ?_, hz⟩
  · unfold hvE dwE
    rw [if_pos h0, Int.toNat_natCast, Int.toNat_natCast, if_neg (by omega), hT, if_neg (by omega)]
  · unfold hvS dwS
    rw [if_pos h0, Int.toNat_natCast, Int.toNat_natCast, if_neg (by omega), hT, if_neg (by omega)]
theorem pic_in {n m : Nat} {g : Nat → Nat → Nat} : ∀ c ∈ pic n g m, ∃ i j z : Nat, c = ((i : Int), (j : Int), z) ∧ i < n ∧ j < m := fun c hc => by
  obtain ⟨j, i, hj, hi, h0, rfl⟩ := (pic_mem n g m c).1 hc
  exact ⟨i, j, _, rfl, hi, hj⟩
end Go.Proofs.Ytjacoifhjfipaab
