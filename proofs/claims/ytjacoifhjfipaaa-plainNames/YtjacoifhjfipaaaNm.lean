/- Sizes of pictures: of no cells, of 360000 cells of three bytes. -/
import Derived.Test.YtjacoifhjfipaaaFp
namespace Go.Proofs.Ytjacoifhjfipaaa
open Go.RowKit Ln
set_option linter.unusedVariables false
set_option linter.unusedSimpArgs false

theorem rw_size (V : Nat) (f : Nat → Nat → Int) (b j : Nat) (h : ∀ i, i < V → (Utf8.encode (f j i)).size = b) : ∀ i, i ≤ V → (runesBytes (rwP V f j i)).size = (runesBytes (dwP V f j)).size + i * b
  | 0, _ => by rw [rwP_zero]; omega
  | i + 1, hi => by
    rw [rwP_succ, rb_app, rb_one, ByteArray.size_append, rw_size V f b j h i (by omega), h i hi, Nat.add_mul]
    omega
theorem dw_size (V : Nat) (f : Nat → Nat → Int) (b : Nat) : ∀ L, (∀ j i, j < L → i < V → (Utf8.encode (f j i)).size = b) → (runesBytes (dwP V f L)).size = L * (V * b + 1)
  | 0, _ => by unfold dwP; rw [Nat.zero_mul]; rfl
  | L + 1, h => by
    have h1 := dw_size V f b L (fun j i hj hi => h j i (by omega) hi)
    have h2 := rw_size V f b L (fun i hi => h L i (by omega) hi) V (Nat.le_refl _)
    have h3 : (Utf8.encode 10).size = 1 := rfl
    rw [dwP_succ, rb_app, rb_one, ByteArray.size_append, h2, h1, h3, Nat.add_mul]
    omega
theorem lk_nil {n m : Nat} (hn : n ≤ 65536) (hm : m ≤ 65536) : lkE [] 0 0 (n : Int) (m : Int) = 0 := by
  have h3 : sideB (n : Int) = true := by unfold sideB; rw [decide_eq_true_iff]; omega
  have h4 : sideB (m : Int) = true := by unfold sideB; rw [decide_eq_true_iff]; omega
  unfold lkE
  rw [h3, h4]; decide
/-- A picture without cells. -/
theorem wr_nil {n m : Nat} (hn : n ≤ 65536) (hm : m ≤ 65536) : wrE [] 0 0 (n : Int) (m : Int) = (if 1048576 < m * (n + 1) then 3 else 0) ∧ (¬ 1048576 < m * (n + 1) → (wrS [] 0 0 (n : Int) (m : Int)).size = m * (n + 1)) := by
  have h0 := lk_nil hn hm
  have hz : (dwT m n (wrF [] 0 0)).size = m * (n + 1) := by
    unfold dwT
    rw [dw_size n (wrF [] 0 0) 1 m (fun j i _ _ => rfl), Nat.mul_one]
  unfold wrE wrS dwE dwS
  rw [if_pos h0, if_pos h0, Int.toNat_natCast, Int.toNat_natCast, hz]
  by_cases h : 1048576 < m * (n + 1)
  · rw [if_pos h, if_pos h]; exact ⟨rfl, fun h2 => absurd h h2⟩
  · rw [if_neg h, if_neg h, if_neg h, if_neg h]; exact ⟨rfl, fun _ => hz⟩
theorem hv_nil {n m : Nat} (hn : n ≤ 65536) (hm : m ≤ 65536) : hvE [] 0 0 (n : Int) (m : Int) = (if 1048576 < (m + 1) / 2 * (n + 1) then 3 else 0) ∧ (¬ 1048576 < (m + 1) / 2 * (n + 1) → (hvS [] 0 0 (n : Int) (m : Int)).size = (m + 1) / 2 * (n + 1)) := by
  have h0 := lk_nil hn hm
  have hz : (dwT ((m + 1) / 2) n (hvF [] 0 0 (m : Int))).size = (m + 1) / 2 * (n + 1) := by
    unfold dwT
    rw [dw_size n (hvF [] 0 0 (m : Int)) 1 _ (fun j i _ _ => by
      have e : hvF [] 0 0 (m : Int) j i = 32 := by
        unfold hvF
        have : ∀ x y, decide (stA [] x y ≠ 0) = false := fun x y => rfl
        rw [this, this, Bool.and_false, Bool.and_false]; rfl
      rw [e]; rfl), Nat.mul_one]
  unfold hvE hvS dwE dwS
  rw [if_pos h0, if_pos h0, Int.toNat_natCast, Int.toNat_natCast, hz]
  by_cases h : 1048576 < (m + 1) / 2 * (n + 1)
  · rw [if_pos h, if_pos h]; exact ⟨rfl, fun h2 => absurd h h2⟩
  · rw [if_neg h, if_neg h, if_neg h, if_neg h]; exact ⟨rfl, fun _ => hz⟩
/-- The first of 360000 cells by rows, 600 a row, of the state 2. -/
def dl (k : Nat) : List Cx := (List.range k).map fun q => (((q % 600 : Nat) : Int), ((q / 600 : Nat) : Int), 2)
theorem dl_succ (k : Nat) : dl (k + 1) = dl k ++ [(((k % 600 : Nat) : Int), ((k / 600 : Nat) : Int), 2)] := by
  unfold dl; rw [List.range_succ, List.map_append]; rfl
theorem dl_len (k : Nat) : (dl k).length = k := by unfold dl; simp
theorem dl_sorted (k : Nat) : (dl k).Pairwise Rw := by
  unfold dl
  rw [List.pairwise_map]
  refine List.Pairwise.imp ?_ List.pairwise_lt_range
  intro a b h
  unfold Rw
  show ((a / 600 : Nat) : Int) < ((b / 600 : Nat) : Int) ∨ ((a / 600 : Nat) : Int) = ((b / 600 : Nat) : Int) ∧ ((a % 600 : Nat) : Int) < ((b % 600 : Nat) : Int)
  omega
theorem dl_mem {k : Nat} {c : Cx} (h : c ∈ dl k) : ∃ q, q < k ∧ c = (((q % 600 : Nat) : Int), ((q / 600 : Nat) : Int), 2) := by
  unfold dl at h
  obtain ⟨q, hq, rfl⟩ := List.mem_map.1 h
  exact ⟨q, List.mem_range.1 hq, rfl⟩
theorem dl_st {k j i : Nat} (hk : k = 360000) (hi : i < 600) (hj : j < 600) : stA (dl k) (i : Int) (j : Int) = 2 := by
  have hm : ((i : Int), (j : Int), 2) ∈ dl k := by
    unfold dl
    refine List.mem_map.2 ⟨600 * j + i, List.mem_range.2 (by omega), ?_⟩
    have e1 : (600 * j + i) % 600 = i := by omega
    have e2 : (600 * j + i) / 600 = j := by omega
    rw [e1, e2]
  exact stA_mem (dl_sorted _) _ hm (by show (2 : Nat) ≠ 0; decide)
theorem wr_dots {k n : Nat} (hk : k = 360000) (hn : n ≤ 600) : wrE (dl k) 0 0 (n : Int) 600 = (if 1048576 < 600 * (n * 3 + 1) then 3 else 0) ∧ (¬ 1048576 < 600 * (n * 3 + 1) → (wrS (dl k) 0 0 (n : Int) 600).size = 600 * (n * 3 + 1)) := by
  have h1 : farA (dl k) = false := by
    unfold farA; rw [List.any_eq_false]; intro c hc
    obtain ⟨q, hq, rfl⟩ := dl_mem hc
    have e1 : farB (((q % 600 : Nat) : Int)) = false := by unfold farB; rw [decide_eq_false_iff_not]; omega
    have e2 : farB (((q / 600 : Nat) : Int)) = false := by unfold farB; rw [decide_eq_false_iff_not]; omega
    unfold farC
    show ¬ (decide ((2 : Nat) ≠ 0) && (farB ((q % 600 : Nat) : Int) || farB ((q / 600 : Nat) : Int))) = true
    rw [e1, e2]; decide
  have h3 : sideB (n : Int) = true := by unfold sideB; rw [decide_eq_true_iff]; omega
  have h4 : sideB 600 = true := by decide
  have h0 : lkE (dl k) 0 0 (n : Int) 600 = 0 := by
    unfold lkE
    rw [h1, mn_sorted (dl k) [] (dl_sorted _), h3, h4]; decide
  have hz : (dwT 600 n (wrF (dl k) 0 0)).size = 600 * (n * 3 + 1) := by
    unfold dwT
    rw [dw_size n (wrF (dl k) 0 0) 3 600 (fun j i hj hi => by
      have e : wrF (dl k) 0 0 j i = sgn 2 := by
        unfold wrF
        rw [Int.zero_add, Int.zero_add, dl_st hk (by omega) hj]
      rw [e]; rfl)]
  have hlt : ¬ 1048576 < 600 * (n + 1) := by omega
  have e6 : (600 : Int).toNat = 600 := rfl
  unfold wrE wrS dwE dwS
  rw [if_pos h0, if_pos h0, Int.toNat_natCast, e6, if_neg hlt, if_neg hlt, hz]
  by_cases h : 1048576 < 600 * (n * 3 + 1)
  · rw [if_pos h, if_pos h]; exact ⟨rfl, fun h2 => absurd h h2⟩
  · rw [if_neg h, if_neg h]; exact ⟨rfl, fun _ => hz⟩
end Go.Proofs.Ytjacoifhjfipaaa
