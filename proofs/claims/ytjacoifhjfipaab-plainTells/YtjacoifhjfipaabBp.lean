/- What laid lays: its states; it is no fault; what of it stands in the rectangle. -/
import Derived.Test.YtjacoifhjfipaabFl
import Derived.Test.YtjacoifhjfipaabBt
import Derived.Test.YtjacoifhjfipaabWr
namespace Go.Proofs.Ytjacoifhjfipaab
open Go.RowKit Ln
set_option linter.unusedVariables false
set_option linter.unusedSimpArgs false

theorem mnA_app : ∀ (a pre b : List Cx), mnA pre (a ++ b) = (mnA pre a || mnA (pre ++ a) b)
  | [], pre, b => by rw [List.nil_append, List.append_nil]; rfl
  | c :: a, pre, b => by
    show ((decide (c.2.2 ≠ 0) && decide (stA pre c.1 c.2.1 ≠ 0)) || mnA (pre ++ [c]) (a ++ b)) = (((decide (c.2.2 ≠ 0) && decide (stA pre c.1 c.2.1 ≠ 0)) || mnA (pre ++ [c]) a) || mnA (pre ++ c :: a) b)
    rw [mnA_app a, List.append_assoc, Bool.or_assoc]; rfl
theorem rcF_snoc : ∀ (l : List Nat) (v x y : Nat), rcF (l ++ [v]) x y = rcF l x y ++ (if v = 0 then [] else [(((x + l.length : Nat) : Int), (y : Int), v)])
  | [], v, x, y => by simp [rcF]
  | u :: l, v, x, y => by
    rw [List.cons_append, rcF, rcF, rcF_snoc l, List.append_assoc, List.length_cons]
    rw [show x + 1 + l.length = x + (l.length + 1) by omega]
theorem rcF_range (g : Nat → Nat) (y : Nat) : ∀ n, rcF ((List.range n).map g) 0 y = (List.range n).flatMap fun i => if g i = 0 then [] else [((i : Int), (y : Int), g i)]
  | 0 => rfl
  | n + 1 => by
    rw [List.range_succ, List.map_append, List.map_cons, List.map_nil, rcF_snoc, rcF_range g y n, List.flatMap_append]
    simp
theorem flat_mid {α : Type} (G : Nat → List α) (k : Nat) (h0 : G 0 = []) (h1 : G (k + 1) = []) : (List.range (k + 2)).flatMap G = (List.range k).flatMap fun i => G (i + 1) := by
  rw [List.range_succ, List.flatMap_append, List.range_succ_eq_map, List.flatMap_cons, h0]
  simp [h1, List.flatMap_map]
section
variable (X Y : Int) (n L : Nat) (st : Nat → Nat)
def svA (q : Nat) : Nat := if q < L then st q else 0
theorem stA_ldI (j i i2 j2 : Nat) : stA (ldI X Y n L st j i) (X - 1 + (i2 : Int)) (Y - 1 + (j2 : Int)) = if i2 = i ∧ j2 = j then svA L st (j * (n + 2) + i) else 0 := by
  unfold ldI svA
  by_cases h : j * (n + 2) + i < L
  · rw [if_pos h, if_pos h]
    generalize st (j * (n + 2) + i) = s
    simp only [stA]
    by_cases e : i2 = i ∧ j2 = j
    · obtain ⟨rfl, rfl⟩ := e
      by_cases h0 : s = 0
      · subst h0; simp
      · simp [h0]
    · have e2 : ¬ (X - 1 + (i : Int) = X - 1 + (i2 : Int) ∧ Y - 1 + (j : Int) = Y - 1 + (j2 : Int)) := fun hh => e ⟨by omega, by omega⟩
      rw [if_neg e, if_neg (fun hh => e2 hh.2)]
  · rw [if_neg h, if_neg h]
    simp [stA]
theorem stA_ldR (j i2 j2 : Nat) : ∀ k, stA (ldR X Y n L st j k) (X - 1 + (i2 : Int)) (Y - 1 + (j2 : Int)) = if i2 < k ∧ j2 = j then svA L st (j * (n + 2) + i2) else 0
  | 0 => by rw [if_neg (fun h => by omega)]; rfl
  | k + 1 => by
    rw [ldR_succ, stA_app, stA_ldR j i2 j2 k, stA_ldI]
    by_cases e : j2 = j
    · subst e
      by_cases h2 : i2 = k
      · subst h2
        simp
      · have h4 : (i2 < k + 1) = (i2 < k) := by apply propext; omega
        generalize svA L st (j2 * (n + 2) + i2) = s
        by_cases h1 : i2 < k
        · by_cases h0 : s = 0
          · subst h0; simp [h2]
          · simp [h1, h4, h0]
        · simp [h1, h2, h4]
    · simp [e]
theorem stA_ldP (i2 j2 : Nat) (hi : i2 < n + 2) : ∀ k, stA (ldP X Y n L st k) (X - 1 + (i2 : Int)) (Y - 1 + (j2 : Int)) = if j2 < k then svA L st (j2 * (n + 2) + i2) else 0
  | 0 => by rw [if_neg (by omega)]; rfl
  | k + 1 => by
    rw [ldP_succ, stA_app, stA_ldP i2 j2 hi k, stA_ldR]
    by_cases h2 : j2 = k
    · subst h2
      simp [hi]
    · have h4 : (j2 < k + 1) = (j2 < k) := by apply propext; omega
      generalize svA L st (j2 * (n + 2) + i2) = s
      by_cases h1 : j2 < k
      · by_cases h0 : s = 0
        · subst h0; simp [h2]
        · simp [h1, h4, h0]
      · simp [h1, h2, h4]
theorem mn_ldR (j : Nat) : ∀ k, k ≤ n + 2 → mnA (ldP X Y n L st j) (ldR X Y n L st j k) = false
  | 0, _ => rfl
  | k + 1, h => by
    rw [ldR_succ, mnA_app, mn_ldR j k (by omega), Bool.false_or]
    have e : stA (ldP X Y n L st j ++ ldR X Y n L st j k) (X - 1 + (k : Int)) (Y - 1 + (j : Int)) = 0 := by
      rw [stA_app, stA_ldP X Y n L st k j (by omega) j, stA_ldR]; simp
    unfold ldI
    split
    · show ((decide _ && decide (stA (ldP X Y n L st j ++ ldR X Y n L st j k) (X - 1 + (k : Int)) (Y - 1 + (j : Int)) ≠ 0)) || false) = false
      rw [e]; simp
    · rfl
theorem mn_ldP : ∀ k, mnA [] (ldP X Y n L st k) = false
  | 0 => rfl
  | k + 1 => by rw [ldP_succ, mnA_app, mn_ldP k, Bool.false_or, List.nil_append]; exact mn_ldR X Y n L st k (n + 2) (Nat.le_refl _)
theorem mem_ldP {k : Nat} {c : Cx} (h : c ∈ ldP X Y n L st k) : ∃ j i, j < k ∧ i < n + 2 ∧ j * (n + 2) + i < L ∧ c = (X - 1 + (i : Int), Y - 1 + (j : Int), st (j * (n + 2) + i)) := by
  unfold ldP at h
  obtain ⟨j, hj, h⟩ := List.mem_flatMap.1 h
  unfold ldR at h
  obtain ⟨i, hi, h⟩ := List.mem_flatMap.1 h
  unfold ldI at h
  split at h
  · rename_i hq
    exact ⟨j, i, List.mem_range.1 hj, List.mem_range.1 hi, hq, by simpa using h⟩
  · cases h
theorem ld_ok (hX : -1000 ≤ X ∧ X ≤ 1000) (hY : -1000 ≤ Y ∧ Y ≤ 1000) {m : Nat} (hn : n ≤ 20) (hm : m ≤ 20) (h8 : ∀ q, q < L → st q < 256) : ∀ c ∈ ldP X Y n L st (m + 2), CxOk c ∧ farC c = false := fun c hc => by
  obtain ⟨j, i, hj, hi, hq, rfl⟩ := mem_ldP X Y n L st hc
  have e1 : farB (X - 1 + (i : Int)) = false := by unfold farB; rw [decide_eq_false_iff_not]; omega
  have e2 : farB (Y - 1 + (j : Int)) = false := by unfold farB; rw [decide_eq_false_iff_not]; omega
  refine ⟨⟨⟨⟨?_, ?_⟩, ?_, ?_⟩, h8 _ hq⟩, ?_⟩
  · show _ ≤ X - 1 + (i : Int); omega
  · show X - 1 + (i : Int) ≤ _; omega
  · show _ ≤ Y - 1 + (j : Int); omega
  · show Y - 1 + (j : Int) ≤ _; omega
  · unfold farC; show (_ && (farB (X - 1 + (i : Int)) || farB (Y - 1 + (j : Int)))) = false; rw [e1, e2]; simp
theorem ld_E (hX : -1000 ≤ X ∧ X ≤ 1000) (hY : -1000 ≤ Y ∧ Y ≤ 1000) {m : Nat} (hn : n ≤ 20) (hm : m ≤ 20) (h8 : ∀ q, q < L → st q < 256) : lkE (ldP X Y n L st (m + 2)) X Y (n : Int) (m : Int) = 0 := by
  have h1 : farA (ldP X Y n L st (m + 2)) = false := by
    unfold farA; rw [List.any_eq_false]; intro c hc; rw [(ld_ok X Y n L st hX hY hn hm h8 c hc).2]; decide
  have h3 : sideB (n : Int) = true := by unfold sideB; rw [decide_eq_true_iff]; omega
  have h4 : sideB (m : Int) = true := by unfold sideB; rw [decide_eq_true_iff]; omega
  have h5 : farB X = false := by unfold farB; rw [decide_eq_false_iff_not]; omega
  have h6 : farB Y = false := by unfold farB; rw [decide_eq_false_iff_not]; omega
  unfold lkE
  rw [h1, mn_ldP, h3, h4, h5, h6]; rfl
/-- The states of the rectangle. -/
def gA (j i : Nat) : Nat := svA L st ((j + 1) * (n + 2) + (i + 1))
theorem gA_lt (h8 : ∀ q, q < L → st q < 256) (j i : Nat) : gA n L st j i < 256 := by
  unfold gA svA
  split
  · rename_i h; exact h8 _ h
  · decide
theorem stA_in {m j i : Nat} (hi : i < n) (hj : j < m) : stA (ldP X Y n L st (m + 2)) (X + (i : Int)) (Y + (j : Int)) = gA n L st j i := by
  have h := stA_ldP X Y n L st (i + 1) (j + 1) (by omega) (m + 2)
  rw [if_pos (by omega)] at h
  rw [show X - 1 + ((i + 1 : Nat) : Int) = X + (i : Int) by omega, show Y - 1 + ((j + 1 : Nat) : Int) = Y + (j : Int) by omega] at h
  exact h
theorem dwP_congr {V : Nat} {f g : Nat → Nat → Int} : ∀ j, (∀ j2 i, j2 < j → i < V → f j2 i = g j2 i) → dwP V f j = dwP V g j
  | 0, _ => rfl
  | j + 1, h => by
    rw [dwP_succ, dwP_succ]
    unfold rwP
    rw [dwP_congr j (fun j2 i h1 h2 => h j2 i (by omega) h2)]
    congr 2
    exact List.map_congr_left (fun i hi => h j i (by omega) (List.mem_range.1 hi))
/-- What Write makes of it. -/
theorem ld_W (hX : -1000 ≤ X ∧ X ≤ 1000) (hY : -1000 ≤ Y ∧ Y ≤ 1000) {m : Nat} (hn : n ≤ 20) (hm : m ≤ 20) (h8 : ∀ q, q < L → st q < 256) :
    wrE (ldP X Y n L st (m + 2)) X Y (n : Int) (m : Int) = 0 ∧ wrS (ldP X Y n L st (m + 2)) X Y (n : Int) (m : Int) = PT n (gA n L st) m ∧ (PT n (gA n L st) m).size ≤ 1680 := by
  have h0 := ld_E X Y n L st hX hY hn hm h8
  have hT : dwT m n (wrF (ldP X Y n L st (m + 2)) X Y) = PT n (gA n L st) m := by
    unfold dwT PT
    rw [dwP_congr (f := wrF (ldP X Y n L st (m + 2)) X Y) (g := fS (gA n L st)) m (fun j i hj hi => by show sgn _ = sgn _; rw [stA_in X Y n L st hi hj])]
  have hz : (PT n (gA n L st) m).size ≤ 1680 := by
    unfold PT
    have h1 := runesBytes_size_le (dwP n (fS (gA n L st)) m)
    rw [dwP_len] at h1
    have h2 : m * (n + 1) ≤ 20 * 21 := Nat.mul_le_mul hm (by omega)
    omega
  have hm2 : m * (n + 1) ≤ 20 * 21 := Nat.mul_le_mul hm (by omega)
  refine ⟨?_, ?_, hz⟩
  · unfold wrE dwE
    rw [if_pos h0, Int.toNat_natCast, Int.toNat_natCast, if_neg (by omega), hT, if_neg (by omega)]
  · unfold wrS dwS
    rw [if_pos h0, Int.toNat_natCast, Int.toNat_natCast, if_neg (by omega), hT, if_neg (by omega)]
/-- What stands in the rectangle, moved. -/
def wnI (n m : Nat) (c : Cx) : List Cx := if c.2.2 ≠ 0 ∧ 0 ≤ c.1 - X ∧ c.1 - X < (n : Int) ∧ 0 ≤ c.2.1 - Y ∧ c.2.1 - Y < (m : Int) then [(c.1 - X, c.2.1 - Y, c.2.2)] else []
def wnL (n m : Nat) (l : List Cx) : List Cx := l.flatMap (wnI X Y n m)
theorem wn_ldI (m j i : Nat) : (ldI X Y n L st j i).flatMap (wnI X Y n m) = if svA L st (j * (n + 2) + i) ≠ 0 ∧ 1 ≤ i ∧ i ≤ n ∧ 1 ≤ j ∧ j ≤ m then [((i : Int) - 1, (j : Int) - 1, svA L st (j * (n + 2) + i))] else [] := by
  unfold ldI svA
  by_cases h : j * (n + 2) + i < L
  · rw [if_pos h, if_pos h]
    simp only [List.flatMap_cons, List.flatMap_nil, List.append_nil]
    unfold wnI
    by_cases c : st (j * (n + 2) + i) ≠ 0 ∧ 1 ≤ i ∧ i ≤ n ∧ 1 ≤ j ∧ j ≤ m
    · rw [if_pos c, if_pos ⟨c.1, by show 0 ≤ X - 1 + (i : Int) - X; omega, by show X - 1 + (i : Int) - X < _; omega, by show 0 ≤ Y - 1 + (j : Int) - Y; omega, by show Y - 1 + (j : Int) - Y < _; omega⟩]
      show [(X - 1 + (i : Int) - X, Y - 1 + (j : Int) - Y, st (j * (n + 2) + i))] = _
      rw [show X - 1 + (i : Int) - X = (i : Int) - 1 by omega, show Y - 1 + (j : Int) - Y = (j : Int) - 1 by omega]
    · rw [if_neg c, if_neg (fun hh => c ⟨hh.1, by have h2 : 0 ≤ X - 1 + (i : Int) - X := hh.2.1; omega, by have h2 : X - 1 + (i : Int) - X < (n : Int) := hh.2.2.1; omega, by have h2 : 0 ≤ Y - 1 + (j : Int) - Y := hh.2.2.2.1; omega, by have h2 : Y - 1 + (j : Int) - Y < (m : Int) := hh.2.2.2.2; omega⟩)]
  · rw [if_neg h, if_neg h, if_neg (fun hh => hh.1 rfl)]; rfl
theorem wn_ldR (m j : Nat) : wnL X Y n m (ldR X Y n L st j (n + 2)) = if 1 ≤ j ∧ j ≤ m then rcF (rowS n (gA n L st) (j - 1)) 0 (j - 1) else [] := by
  unfold wnL ldR
  rw [List.flatMap_assoc]
  simp only [wn_ldI]
  rw [flat_mid _ n (if_neg (fun h => by omega)) (if_neg (fun h => by omega))]
  by_cases hj : 1 ≤ j ∧ j ≤ m
  · rw [if_pos hj]
    unfold rowS
    rw [rcF_range]
    have key : ∀ (l : List Nat), (∀ i ∈ l, i < n) → l.flatMap (fun i => if svA L st (j * (n + 2) + (i + 1)) ≠ 0 ∧ 1 ≤ i + 1 ∧ i + 1 ≤ n ∧ 1 ≤ j ∧ j ≤ m then [(((i + 1 : Nat) : Int) - 1, (j : Int) - 1, svA L st (j * (n + 2) + (i + 1)))] else []) = l.flatMap (fun i => if gA n L st (j - 1) i = 0 then [] else [((i : Int), ((j - 1 : Nat) : Int), gA n L st (j - 1) i)]) := by
      intro l
      induction l with
      | nil => intro _; rfl
      | cons i l ih =>
        intro h
        rw [List.flatMap_cons, List.flatMap_cons, ih (fun k hk => h k (List.mem_cons_of_mem _ hk))]
        have hi := h i (List.mem_cons_self ..)
        have eg : gA n L st (j - 1) i = svA L st (j * (n + 2) + (i + 1)) := by unfold gA; rw [show j - 1 + 1 = j by omega]
        rw [eg]
        by_cases h0 : svA L st (j * (n + 2) + (i + 1)) = 0
        · rw [if_neg (fun hh => hh.1 h0), if_pos h0]
        · rw [if_pos ⟨h0, by omega, by omega, hj.1, hj.2⟩, if_neg h0]
          rw [show ((i + 1 : Nat) : Int) - 1 = (i : Int) by omega, show (j : Int) - 1 = ((j - 1 : Nat) : Int) by omega]
    exact key (List.range n) (fun i hi => List.mem_range.1 hi)
  · rw [if_neg hj]
    have key : ∀ (l : List Nat), l.flatMap (fun i => if svA L st (j * (n + 2) + (i + 1)) ≠ 0 ∧ 1 ≤ i + 1 ∧ i + 1 ≤ n ∧ 1 ≤ j ∧ j ≤ m then [(((i + 1 : Nat) : Int) - 1, (j : Int) - 1, svA L st (j * (n + 2) + (i + 1)))] else []) = [] := by
      intro l
      induction l with
      | nil => rfl
      | cons i l ih => rw [List.flatMap_cons, ih, if_neg (fun hh => hj ⟨hh.2.2.2.1, hh.2.2.2.2⟩)]; rfl
    exact key _
/-- **What stands in the rectangle is what is read.** -/
theorem wn_ld (m : Nat) : wnL X Y n m (ldP X Y n L st (m + 2)) = pic n (gA n L st) m := by
  have h : ∀ k, wnL X Y n m (ldP X Y n L st k) = (List.range k).flatMap fun j => if 1 ≤ j ∧ j ≤ m then rcF (rowS n (gA n L st) (j - 1)) 0 (j - 1) else [] := by
    intro k
    induction k with
    | zero => rfl
    | succ k ih =>
      rw [ldP_succ, List.range_succ, List.flatMap_append, ← ih]
      unfold wnL
      rw [List.flatMap_append]
      have := wn_ldR X Y n L st m k
      unfold wnL at this
      rw [this]
      simp
  rw [h, flat_mid _ m (if_neg (fun h => by omega)) (if_neg (fun h => by omega))]
  unfold pic
  have key : ∀ (l : List Nat), (∀ i ∈ l, i < m) → l.flatMap (fun j => if 1 ≤ j + 1 ∧ j + 1 ≤ m then rcF (rowS n (gA n L st) (j + 1 - 1)) 0 (j + 1 - 1) else []) = l.flatMap fun j => rcF (rowS n (gA n L st) j) 0 j := by
    intro l
    induction l with
    | nil => intro _; rfl
    | cons j l ih =>
      intro h
      rw [List.flatMap_cons, List.flatMap_cons, ih (fun k hk => h k (List.mem_cons_of_mem _ hk)), if_pos ⟨by omega, by have := h j (List.mem_cons_self ..); omega⟩, Nat.add_sub_cancel]
  exact key _ (fun i hi => List.mem_range.1 hi)
end
end Go.Proofs.Ytjacoifhjfipaab
