/- What is read is by rows; a list by rows is what is read of its picture. -/
import Derived.Test.YtjacoifhjfipaaaBt
import Derived.Test.YtjacoifhjfipaaaWr
import Derived.Test.YtjacoifhjfipaaaRd
namespace Go.Proofs.Ytjacoifhjfipaaa
open Go.RowKit Ln
set_option linter.unusedVariables false
set_option linter.unusedSimpArgs false

/-- By rows. -/
def Rw (c d : Cx) : Prop := c.2.1 < d.2.1 ∨ c.2.1 = d.2.1 ∧ c.1 < d.1
theorem rw_asym {c d : Cx} (h : Rw c d) (k : Rw d c) : False := by unfold Rw at h k; omega
theorem rw_irr {c : Cx} (h : Rw c c) : False := by unfold Rw at h; omega
theorem sorted_ext : ∀ (l k : List Cx), l.Pairwise Rw → k.Pairwise Rw → (∀ c, c ∈ l ↔ c ∈ k) → l = k
  | [], [], _, _, _ => rfl
  | [], d :: k, _, _, h => by have := (h d).2 (List.mem_cons_self ..); cases this
  | c :: l, [], _, _, h => by have := (h c).1 (List.mem_cons_self ..); cases this
  | c :: l, d :: k, h1, h2, h => by
    rw [List.pairwise_cons] at h1 h2
    have e : c = d := by
      rcases List.mem_cons.1 ((h c).1 (List.mem_cons_self ..)) with e | hc
      · exact e
      · rcases List.mem_cons.1 ((h d).2 (List.mem_cons_self ..)) with e | hd
        · exact e.symm
        · exact (rw_asym (h1.1 d hd) (h2.1 c hc)).elim
    subst e
    rw [sorted_ext l k h1.2 h2.2 (fun x => ?_)]
    constructor
    · intro hx
      rcases List.mem_cons.1 ((h x).1 (List.mem_cons_of_mem _ hx)) with e | hk
      · subst e; exact (rw_irr (h1.1 x hx)).elim
      · exact hk
    · intro hx
      rcases List.mem_cons.1 ((h x).2 (List.mem_cons_of_mem _ hx)) with e | hk
      · subst e; exact (rw_irr (h2.1 x hx)).elim
      · exact hk
/-- Cells by rows, all ahead of the place (x, y). -/
def Ah (acc : List Cx) (x y : Nat) : Prop := acc.Pairwise Rw ∧ ∀ c ∈ acc, (0 ≤ c.1 ∧ 0 ≤ c.2.1 ∧ c.2.2 ≠ 0 ∧ c.2.2 < 256) ∧ (c.2.1 < (y : Int) ∨ c.2.1 = (y : Int) ∧ c.1 < (x : Int)) ∧ c.1 < 1048576
theorem Ah.add {acc : List Cx} {x y v : Nat} (h : Ah acc x y) (hv : v < 256) (hx : x < 1048576) : Ah (adC acc x y v) (x + 1) y := by
  unfold adC
  split
  · exact ⟨h.1, fun c hc => ⟨(h.2 c hc).1, by have := (h.2 c hc).2.1; omega, (h.2 c hc).2.2⟩⟩
  · rename_i h0
    refine ⟨?_, fun c hc => ?_⟩
    · rw [List.pairwise_append]
      refine ⟨h.1, List.pairwise_singleton _ _, fun c hc d hd => ?_⟩
      obtain rfl : d = ((x : Int), (y : Int), v) := by simpa using hd
      exact (h.2 c hc).2.1
    · rcases List.mem_append.1 hc with hc | hc
      · exact ⟨(h.2 c hc).1, by have := (h.2 c hc).2.1; omega, (h.2 c hc).2.2⟩
      · obtain rfl : c = ((x : Int), (y : Int), v) := by simpa using hc
        exact ⟨⟨by show (0 : Int) ≤ (x : Int); omega, by show (0 : Int) ≤ (y : Int); omega, h0, hv⟩, .inr ⟨rfl, by show (x : Int) < ((x + 1 : Nat) : Int); omega⟩, by show (x : Int) < 1048576; omega⟩
theorem Ah.next {acc : List Cx} {x y : Nat} (h : Ah acc x y) : Ah acc 0 (y + 1) := ⟨h.1, fun c hc => ⟨(h.2 c hc).1, by have := (h.2 c hc).2.1; omega, (h.2 c hc).2.2⟩⟩
theorem rowA_ah (t : ByteArray) (ht : t.size ≤ 1048576) (y : Nat) : ∀ (f p x : Nat) (acc : List Cx), t.size - p ≤ f → x ≤ p → Ah acc x y → ∀ c, rowA t y p x acc = (c, none) → Ah c 0 (y + 1)
  | 0, p, x, acc, h, hx, ha, c, e => by
    rw [rowA_end (by omega)] at e
    cases e; exact ha.next
  | f + 1, p, x, acc, h, hx, ha, c, e => by
    by_cases hp : p < t.size
    · have hd := dec_pos t p hp
      cases hb : ofB ((Utf8.decode t p).1 : Int) with
      | false => rw [rowA_bad hp hb] at e; cases e
      | true => rw [rowA_go hp hb] at e; exact rowA_ah t ht y f _ _ _ (by omega) (by omega) (ha.add (ofN_lt _) (by omega)) c e
    · rw [rowA_end hp] at e
      cases e; exact ha.next
theorem rdF_ah (s : ByteArray) (hs : s.size ≤ 1048576) : ∀ (n : Nat) (l : List Nat), l.length = n → (rdF s l).2.2 = none → Ah (rdF s l).2.1 0 (rdF s l).1
  | 0, l, h, _ => by
    obtain rfl : l = [] := List.length_eq_zero_iff.1 h
    exact ⟨List.Pairwise.nil, fun c hc => by cases hc⟩
  | n + 1, l, h, hn => by
    rcases List.eq_nil_or_concat l with rfl | ⟨k, i, rfl⟩
    · simp at h
    rw [List.concat_eq_append] at h hn ⊢
    have hk : k.length = n := by simpa using h
    rw [rdF_snoc] at hn ⊢
    by_cases he : (rdF s k).2.2.isSome = true
    · rw [stepR_err he] at hn
      rw [hn] at he; cases he
    · have he' : (rdF s k).2.2 = none := by simpa using he
      have ih := rdF_ah s hs n k hk he'
      cases hr : remB (lin s i) with
      | true => rw [stepR_rem he' hr]; exact ih
      | false =>
        cases hp : (rowA (lin s i) (rdF s k).1 0 0 (rdF s k).2.1).2 with
        | some p => rw [stepR_bad he' hr hp] at hn; cases hn
        | none =>
          have e : rowA (lin s i) (rdF s k).1 0 0 (rdF s k).2.1 = ((rowA (lin s i) (rdF s k).1 0 0 (rdF s k).2.1).1, none) := by rw [← hp]
          rw [stepR_row he' hr e]
          exact rowA_ah (lin s i) (Nat.le_trans (lin_size s i) hs) _ _ 0 0 _ (Nat.le_refl _) (Nat.le_refl _) ih _ e
/-- What is read is by rows. -/
theorem rdC_ah (s : ByteArray) : Ah (rdC s) 0 (rdF s (lns s)).1 := by
  have hnil : Ah [] 0 (rdF s (lns s)).1 := ⟨List.Pairwise.nil, fun c hc => by cases hc⟩
  unfold rdC
  split
  · exact hnil
  · rename_i hs
    split
    · exact hnil
    · rename_i he
      have he' : (rdF s (lns s)).2.2 = none := by
        have : ¬ (rdF s (lns s)).2.2.isSome = true := he
        simpa using this
      exact rdF_ah s (by omega) _ _ rfl he'
theorem stA_mem : ∀ {l : List Cx}, l.Pairwise Rw → ∀ c ∈ l, c.2.2 ≠ 0 → stA l c.1 c.2.1 = c.2.2
  | d :: l, h, c, hc, h0 => by
    rw [List.pairwise_cons] at h
    show (if d.2.2 ≠ 0 ∧ d.1 = c.1 ∧ d.2.1 = c.2.1 then d.2.2 else stA l c.1 c.2.1) = c.2.2
    rcases List.mem_cons.1 hc with rfl | hc
    · rw [if_pos ⟨h0, rfl, rfl⟩]
    · have hr := h.1 c hc
      rw [if_neg (fun hh => by unfold Rw at hr; omega)]
      exact stA_mem h.2 c hc h0
theorem mem_stA : ∀ {l : List Cx} {x y : Int}, stA l x y ≠ 0 → (x, y, stA l x y) ∈ l
  | [], x, y, h => absurd rfl h
  | d :: l, x, y, h => by
    have e : stA (d :: l) x y = if d.2.2 ≠ 0 ∧ d.1 = x ∧ d.2.1 = y then d.2.2 else stA l x y := rfl
    rw [e] at h ⊢
    split
    · rename_i hh
      obtain ⟨_, rfl, rfl⟩ := hh
      exact List.mem_cons_self ..
    · rename_i hh
      rw [if_neg hh] at h
      exact List.mem_cons_of_mem _ (mem_stA h)
theorem mn_sorted : ∀ (l pre : List Cx), (pre ++ l).Pairwise Rw → mnA pre l = false
  | [], _, _ => rfl
  | c :: l, pre, h => by
    have h2 : ((pre ++ [c]) ++ l).Pairwise Rw := by rw [List.append_assoc]; exact h
    have e : stA pre c.1 c.2.1 = 0 := by
      by_cases h0 : stA pre c.1 c.2.1 = 0
      · exact h0
      · have hm := mem_stA h0
        have := (List.pairwise_append.1 h).2.2 _ hm c (List.mem_cons_self ..)
        exfalso
        unfold Rw at this
        have h1 : c.2.1 < c.2.1 ∨ c.2.1 = c.2.1 ∧ c.1 < c.1 := this
        omega
    show ((decide (c.2.2 ≠ 0) && decide (stA pre c.1 c.2.1 ≠ 0)) || mnA (pre ++ [c]) l) = false
    rw [mn_sorted l _ h2, e]; simp
theorem rcF_mem : ∀ (l : List Nat) (x y : Nat) (c : Cx), c ∈ rcF l x y ↔ ∃ i, i < l.length ∧ l[i]? ≠ some 0 ∧ ∃ v, l[i]? = some v ∧ c = (((x + i : Nat) : Int), (y : Int), v)
  | [], x, y, c => by simp [rcF]
  | v :: l, x, y, c => by
    rw [rcF, List.mem_append, rcF_mem l]
    constructor
    · rintro (h | ⟨i, h1, h2, u, h3, rfl⟩)
      · split at h
        · cases h
        · rename_i h0
          exact ⟨0, by simp, by simpa using h0, v, rfl, by simpa using h⟩
      · exact ⟨i + 1, by simpa using h1, by simpa using h2, u, by simpa using h3, by rw [show x + (i + 1) = x + 1 + i by omega]⟩
    · rintro ⟨i, h1, h2, u, h3, rfl⟩
      cases i with
      | zero =>
        have e : v = u := by simpa using h3
        subst e
        refine .inl ?_
        rw [if_neg (fun e => h2 (by rw [e]; rfl))]
        simp
      | succ i => exact .inr ⟨i, by simpa using h1, by simpa using h2, u, by simpa using h3, by rw [show x + (i + 1) = x + 1 + i by omega]⟩
theorem rcF_sorted : ∀ (l : List Nat) (x y : Nat), (rcF l x y).Pairwise Rw
  | [], _, _ => List.Pairwise.nil
  | v :: l, x, y => by
    rw [rcF, List.pairwise_append]
    refine ⟨?_, rcF_sorted l _ _, fun c hc d hd => ?_⟩
    · split
      · exact List.Pairwise.nil
      · exact List.pairwise_singleton _ _
    · split at hc
      · cases hc
      · obtain rfl : c = ((x : Int), (y : Int), v) := by simpa using hc
        obtain ⟨i, _, _, u, _, rfl⟩ := (rcF_mem l _ _ _).1 hd
        exact .inr ⟨rfl, by show (x : Int) < ((x + 1 + i : Nat) : Int); omega⟩
theorem pic_mem (n : Nat) (g : Nat → Nat → Nat) (m : Nat) (c : Cx) : c ∈ pic n g m ↔ ∃ j i, j < m ∧ i < n ∧ g j i ≠ 0 ∧ c = ((i : Int), (j : Int), g j i) := by
  unfold pic
  rw [List.mem_flatMap]
  constructor
  · rintro ⟨j, hj, h⟩
    obtain ⟨i, h1, h2, v, h3, rfl⟩ := (rcF_mem _ _ _ _).1 h
    unfold rowS at h1 h2 h3
    have hi : i < n := by simpa using h1
    have e : ((List.range n).map (g j))[i]? = some (g j i) := by simp [hi]
    rw [e] at h2 h3
    obtain rfl : g j i = v := by simpa using h3
    exact ⟨j, i, List.mem_range.1 hj, hi, fun h => h2 (by rw [h]), by rw [Nat.zero_add]⟩
  · rintro ⟨j, i, hj, hi, h0, rfl⟩
    refine ⟨j, List.mem_range.2 hj, (rcF_mem _ _ _ _).2 ⟨i, by unfold rowS; simpa using hi, ?_, g j i, ?_, by rw [Nat.zero_add]⟩⟩
    · unfold rowS; simp [hi, h0]
    · unfold rowS; simp [hi]
theorem pic_sorted (n : Nat) (g : Nat → Nat → Nat) : ∀ m, (pic n g m).Pairwise Rw
  | 0 => List.Pairwise.nil
  | m + 1 => by
    rw [pic_succ, List.pairwise_append]
    refine ⟨pic_sorted n g m, rcF_sorted _ _ _, fun c hc d hd => ?_⟩
    obtain ⟨j, i, hj, _, _, rfl⟩ := (pic_mem n g m c).1 hc
    obtain ⟨k, _, _, v, _, rfl⟩ := (rcF_mem _ _ _ _).1 hd
    exact .inl (by show (j : Int) < (m : Int); omega)
/-- The states of a list, as a picture's. -/
def gL (l : List Cx) (j i : Nat) : Nat := stA l (i : Int) (j : Int)
/-- **A list by rows is what is read of its picture.** -/
theorem pic_is {l : List Cx} (hs : l.Pairwise Rw) {n m : Nat} (h : ∀ c ∈ l, 0 ≤ c.1 ∧ c.1 < (n : Int) ∧ 0 ≤ c.2.1 ∧ c.2.1 < (m : Int) ∧ c.2.2 ≠ 0) : pic n (gL l) m = l := by
  refine sorted_ext _ _ (pic_sorted n _ m) hs (fun c => ?_)
  rw [pic_mem]
  constructor
  · rintro ⟨j, i, _, _, h0, rfl⟩
    exact mem_stA h0
  · intro hc
    obtain ⟨h1, h2, h3, h4, h5⟩ := h c hc
    have e1 : ((c.1.toNat : Nat) : Int) = c.1 := by omega
    have e2 : ((c.2.1.toNat : Nat) : Int) = c.2.1 := by omega
    have e3 : gL l c.2.1.toNat c.1.toNat = c.2.2 := by unfold gL; rw [e1, e2]; exact stA_mem hs c hc h5
    exact ⟨c.2.1.toNat, c.1.toNat, by omega, by omega, by rw [e3]; exact h5, by rw [e1, e2, e3]⟩
theorem enc_sz {v : Nat} (h : v < 256) : (Utf8.encode (sgn v)).size ≤ 3 := by
  rcases rn_sgn h with hr | hr
  · rw [enc1 hr]; show 1 ≤ 3; decide
  · rw [enc3 hr]; exact Nat.le_refl 3
theorem rb_sz : ∀ (l : List Nat), (∀ v ∈ l, v < 256) → (runesBytes (l.map sgn)).size ≤ 3 * l.length
  | [], _ => Nat.le_refl _
  | v :: l, h => by
    rw [List.map_cons, rb_cons, ByteArray.size_append, List.length_cons]
    have h1 := enc_sz (h v (List.mem_cons_self ..))
    have h2 := rb_sz l (fun u hu => h u (List.mem_cons_of_mem _ hu))
    omega
theorem PT_sz (n : Nat) (g : Nat → Nat → Nat) (hg : ∀ j i, g j i < 256) : ∀ m, (PT n g m).size ≤ m * (3 * n + 1)
  | 0 => Nat.le_of_eq (by unfold PT dwP; rw [Nat.zero_mul]; rfl)
  | m + 1 => by
    rw [PT_succ, ByteArray.size_append, ByteArray.size_append]
    have h1 := PT_sz n g hg m
    have h2 := rb_sz _ (rowS_lt n g hg m)
    have h3 : (rowS n g m).length = n := by unfold rowS; simp
    have h4 : (⟨#[10]⟩ : ByteArray).size = 1 := rfl
    rw [Nat.add_mul]
    omega
/-- What Write makes of a list by rows, in a rectangle that has it. -/
theorem form_W {l : List Cx} {x y : Nat} (h : Ah l x y) {n m : Nat} (hn : n ≤ 65536) (hm : m ≤ 65536) (hnm : n * m ≤ 300000) (hin : ∀ c ∈ l, c.1 < (n : Int) ∧ c.2.1 < (m : Int)) :
    wrE l 0 0 (n : Int) (m : Int) = 0 ∧ rdE (wrS l 0 0 (n : Int) (m : Int)) = 0 ∧ rdC (wrS l 0 0 (n : Int) (m : Int)) = l := by
  have h8 : ∀ c ∈ l, c.2.2 < 256 := fun c hc => (h.2 c hc).1.2.2.2
  have hg : ∀ j i, gL l j i < 256 := fun j i => stA_lt h8 _ _
  have h1 : farA l = false := by
    unfold farA; rw [List.any_eq_false]; intro c hc
    have a := h.2 c hc
    have b := hin c hc
    have e1 : farB c.1 = false := by unfold farB; rw [decide_eq_false_iff_not]; omega
    have e2 : farB c.2.1 = false := by unfold farB; rw [decide_eq_false_iff_not]; omega
    unfold farC; rw [e1, e2]; simp
  have h3 : sideB (n : Int) = true := by unfold sideB; rw [decide_eq_true_iff]; omega
  have h4 : sideB (m : Int) = true := by unfold sideB; rw [decide_eq_true_iff]; omega
  have h0 : lkE l 0 0 (n : Int) (m : Int) = 0 := by
    unfold lkE
    rw [h1, mn_sorted l [] h.1, h3, h4]; decide
  have hT : dwT m n (wrF l 0 0) = PT n (gL l) m := by
    unfold dwT PT
    have : wrF l 0 0 = fS (gL l) := by
      funext j i
      show sgn (stA l (0 + (i : Int)) (0 + (j : Int))) = sgn (stA l (i : Int) (j : Int))
      rw [Int.zero_add, Int.zero_add]
    rw [this]
  have hz := PT_sz n (gL l) hg m
  have e1 : m * (3 * n + 1) = 3 * (n * m) + m := by rw [Nat.mul_add, Nat.mul_one, Nat.mul_comm m (3 * n), Nat.mul_assoc]
  have e2 : m * (n + 1) = n * m + m := by rw [Nat.mul_add, Nat.mul_one, Nat.mul_comm]
  have hS : wrS l 0 0 (n : Int) (m : Int) = PT n (gL l) m := by
    unfold wrS dwS
    rw [if_pos h0, Int.toNat_natCast, Int.toNat_natCast, if_neg (by omega), hT, if_neg (by omega)]
  have hrd := rd_PT n (gL l) hg m
  refine ⟨?_, ?_, ?_⟩
  · unfold wrE dwE
    rw [if_pos h0, Int.toNat_natCast, Int.toNat_natCast, if_neg (by omega), hT, if_neg (by omega)]
  · rw [hS]; unfold rdE; rw [if_neg (by omega), hrd]; rfl
  · rw [hS]; unfold rdC; rw [if_neg (by omega), hrd]
    show pic n (gL l) m = l
    exact pic_is h.1 (fun c hc => ⟨(h.2 c hc).1.1, (hin c hc).1, (h.2 c hc).1.2.1, (hin c hc).2, (h.2 c hc).1.2.2.1⟩)
end Go.Proofs.Ytjacoifhjfipaaa
