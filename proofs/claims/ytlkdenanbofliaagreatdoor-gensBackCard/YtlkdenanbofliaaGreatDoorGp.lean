/- The second slash, the first 9, a number cut off at a thousand: plain facts. Nothing of the program in it. -/
import Derived.Test.YtlkdenanbofliaaGreatDoorGm
set_option linter.unusedSimpArgs false
set_option linter.unusedVariables false
namespace Go.Proofs.YtlkdenanbofliaaGreatDoor.Gn
open Sc

/-- How many slashes the document has counted ahead of k. -/
def nsl (s : ByteArray) (k : Nat) : Nat := if k ≤ ov noSl s 0 then 0 else 1
theorem no_sl {c : Nat} (h : noSl c = true) : ¬ c = 47 := by unfold noSl at h; simpa using h
theorem is_sl {c : Nat} (h : noSl c = false) : c = 47 := by unfold noSl at h; simpa using h
theorem ss_gt {s : ByteArray} (h : ov noSl s 0 < s.size) : ov noSl s 0 < ss s := by
  unfold ss
  rw [if_pos h]
  exact ov_ge noSl (s := s) (i := ov noSl s 0 + 1) h
theorem ss_ge (s : ByteArray) : ov noSl s 0 ≤ ss s := by
  by_cases h : ov noSl s 0 < s.size
  · exact Nat.le_of_lt (ss_gt h)
  · have h1 := ov_le noSl (s := s) (i := 0) (Nat.zero_le _)
    unfold ss
    rw [if_neg h]; exact h1
/-- A place ahead of the second slash, where there is a byte. -/
theorem sl_at {s : ByteArray} {k : Nat} (hk : k < s.size) (hs : k ≤ ss s) : (¬ bt s k = 47 ∧ nsl s (k + 1) = nsl s k ∧ k + 1 ≤ ss s) ∨ (bt s k = 47 ∧ nsl s k = 0 ∧ nsl s (k + 1) = 1 ∧ k + 1 ≤ ss s) ∨ (bt s k = 47 ∧ nsl s k = 1 ∧ k = ss s) := by
  have k0 := ov_is noSl (s := s) (i := 0) (Nat.zero_le _)
  by_cases h1 : k < ov noSl s 0
  · refine Or.inl ⟨no_sl (k0.all k (Nat.zero_le _) h1), ?_, ?_⟩
    · unfold nsl; rw [if_pos (by omega), if_pos (by omega)]
    · have := ss_ge s; omega
  · by_cases h2 : k = ov noSl s 0
    · refine Or.inr (Or.inl ⟨?_, ?_, ?_, ?_⟩)
      · rw [h2]; exact is_sl (k0.stop (by omega))
      · unfold nsl; rw [if_pos (by omega)]
      · unfold nsl; rw [if_neg (by omega)]
      · have := ss_gt (s := s) (by omega); omega
    · have hf : ov noSl s 0 < s.size := by omega
      have k1 := ov_is noSl (s := s) (i := ov noSl s 0 + 1) hf
      have e : ss s = ov noSl s (ov noSl s 0 + 1) := by unfold ss; rw [if_pos hf]
      by_cases h3 : k < ss s
      · refine Or.inl ⟨no_sl (k1.all k (by omega) (by omega)), ?_, by omega⟩
        unfold nsl; rw [if_neg (by omega), if_neg (by omega)]
      · have h4 : k = ss s := by omega
        refine Or.inr (Or.inr ⟨?_, ?_, h4⟩)
        · rw [h4, e]; exact is_sl (k1.stop (by omega))
        · unfold nsl; rw [if_neg (by omega)]
/-- Where the first 9 ahead of k stands; -1: there is none. -/
def nz (s : ByteArray) : Nat → Int
  | 0 => -1
  | k + 1 => if bt s k = 57 ∧ nz s k < 0 then (k : Int) else nz s k
theorem nz_is (s : ByteArray) : ∀ k, (nz s k = -1 ∧ ∀ j, j < k → ¬ bt s j = 57) ∨ (∃ p : Nat, nz s k = p ∧ p < k ∧ bt s p = 57 ∧ ∀ j, j < p → ¬ bt s j = 57)
  | 0 => Or.inl ⟨rfl, fun j hj => by omega⟩
  | k + 1 => by
    rcases nz_is s k with ⟨h1, h2⟩ | ⟨p, h1, h2, h3, h4⟩
    · unfold nz
      by_cases h : bt s k = 57
      · rw [if_pos ⟨h, by omega⟩]
        exact Or.inr ⟨k, rfl, by omega, h, h2⟩
      · rw [if_neg (fun e => h e.1)]
        refine Or.inl ⟨h1, fun j hj => ?_⟩
        by_cases e : j = k
        · rw [e]; exact h
        · exact h2 j (by omega)
    · unfold nz
      rw [if_neg (fun e => by omega)]
      exact Or.inr ⟨p, h1, by omega, h3, h4⟩
theorem nz_nn {s : ByteArray} {e : Nat} (h : e ≤ s.size) : nz s e = if nn s e < e then ((nn s e : Nat) : Int) else -1 := by
  have hz : (s.extract 0 e).size = e := by rw [size_ext s h]; omega
  have b : ∀ j, j < e → bt (s.extract 0 e) j = bt s j := fun j hj => by
    rw [bt_ext s h (by omega), Nat.zero_add]
  rcases nz_is s e with ⟨h1, h2⟩ | ⟨p, h1, h2, h3, h4⟩
  · have : nn s e = e := by
      refine ov_of ⟨Nat.zero_le _, by omega, fun j _ hj => ?_, fun hl => by omega⟩
      rw [b j hj]
      unfold no9
      simpa using h2 j hj
    rw [h1, if_neg (by omega)]
  · have : nn s e = p := by
      refine ov_of ⟨Nat.zero_le _, by omega, fun j _ hj => ?_, fun hl => ?_⟩
      · rw [b j (by omega)]
        unfold no9
        simpa using h4 j hj
      · rw [b p h2, h3]; rfl
    rw [h1, this, if_pos h2]
theorem nz_lt (s : ByteArray) (k : Nat) : -1 ≤ nz s k ∧ nz s k < (k : Int) := by
  rcases nz_is s k with ⟨h1, h2⟩ | ⟨p, h1, h2, h3, h4⟩ <;> omega
/-- Where the lists have no fault, their end is the second slash. -/
theorem tl_sl {s : ByteArray} {i : Nat} (hi : i ≤ s.size) (h : (tl s i).er = 0) : ov noSl s i = (tl s i).a - 1 ∧ (tl s i).a - 1 < s.size ∧ i < (tl s i).a := by
  have d := tl_is (s := s) (i := i) hi
  have g := Lf.dg_is (s := s) (i := i) (v := 0) hi (by decide)
  have hgt := d.gt h
  have hle := d.le
  have hsl := d.sl h
  refine ⟨?_, by omega, hgt⟩
  have ha : (tl s i).a - 1 = (Lf.dg s i 0).a := by
    unfold tl tl1 at h ⊢
    split at h
    · cases h
    · split at h
      · rename_i h1 h2
        rw [if_neg h1, if_pos h2]
        simp
      · cases h
  refine ov_of ⟨by omega, by omega, fun j h1 h2 => ?_, fun _ => by rw [hsl]; rfl⟩
  have hd := g.all j h1 (by omega)
  unfold Lf.isD at hd
  unfold noSl
  simp at hd ⊢
  omega
theorem lists_ss {s : ByteArray} (h : (listsR s).er = 0) : (listsR s).a = ss s := by
  unfold listsR lists1 at h ⊢
  split at h
  · rename_i h1
    have t1 := tl_sl (Nat.zero_le _) h1
    have d1 := (tl_is (s := s) (i := 0) (Nat.zero_le _)).le
    unfold lists2 at h ⊢
    rw [if_pos h1]
    split at h
    · rename_i h2
      have t2 := tl_sl d1 h2
      rw [if_pos h2]
      split at h
      · cases h
      · rename_i h3
        rw [if_neg h3]
        show (tl s (tl s 0).a).a - 1 = ss s
        unfold ss
        rw [if_pos (by omega), t1.1, show (tl s 0).a - 1 + 1 = (tl s 0).a by omega, t2.1]
    · rename_i h2
      exact absurd h h2
  · rename_i h1
    exact absurd h h1
/-- A number that is cut off at a thousand. -/
theorem min_step (x d : Nat) : min (min x 1000 * 10 + d) 1000 = min (x * 10 + d) 1000 := by omega
end Go.Proofs.YtlkdenanbofliaaGreatDoor.Gn
