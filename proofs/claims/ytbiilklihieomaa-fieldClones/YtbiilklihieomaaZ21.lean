/- Lines that are laid, row by row. -/
import Derived.Test.YtbiilklihieomaaZ15
import Derived.Test.YtbiilklihieomaaZ13
namespace Go.Proofs.Ytbiilklihieomaa
open Go.RowKit
set_option linter.unusedVariables false
set_option linter.unusedSimpArgs false
set_option maxRecDepth 100000

/-- A line that came in. -/
structure LN where
  kp : Option Addr
  kn : Nat
  kc : Nat
  kf : Nat → Nat
/-- Lines that can be read. -/
def Ln (w : World) (q o n : Nat) (t : Nat → LN) : Prop := ∀ j, j < n → w.cell? ⟨q, o + j, none⟩ = some (.slice (t j).kp (t j).kn (t j).kc) ∧ By w (t j).kp (t j).kn (t j).kf
theorem Ln.kept {w w' : World} {q o n : Nat} {t : Nat → LN} (h : Ln w q o n t) (hg : w.grownBy w' none) : Ln w' q o n t := fun j hj => by
  obtain ⟨h1, h2⟩ := h j hj
  refine ⟨?_, h2.kept hg (by simp)⟩
  have hl := cell_lt h1
  rw [World.cell?, hg.block _ hl (by simp)]
  exact h1
theorem Fb.congr {w : World} {b s q C R S : Nat} {g g' : Nat → Nat} (h : Fb w b s q C R S g) (e : ∀ k, k < C * R → g k = g' k) : Fb w b s q C R S g' := by
  refine ⟨h.fld, ?_⟩
  obtain ⟨K, k1, k2, f0, k3, k4⟩ := h.st.cap
  exact ⟨K, k1, k2, f0, k3, fun k hk => by rw [k4 k hk, e k hk]⟩
theorem By.congr {w : World} {sp : Option Addr} {n : Nat} {f f' : Nat → Nat} (h : By w sp n f) (e : ∀ k, k < n → f k = f' k) : By w sp n f' := fun k hk => by
  obtain ⟨a, h1, h2⟩ := h k hk
  exact ⟨a, h1, by rw [h2, e k hk]⟩
/-- The cells, the first k lines being laid. -/
def gL (t : Nat → LN) (C k : Nat) (i : Nat) : Nat := if i / C < k ∧ (t (i / C)).kn = C then (t (i / C)).kf (i % C) else 0
theorem div_row {C y i : Nat} (hC : 0 < C) : (y * C ≤ i ∧ i < y * C + C) ↔ i / C = y := by
  constructor
  · rintro ⟨h1, h2⟩
    have h3 := Nat.div_add_mod i C
    have h4 := Nat.mod_lt i hC
    rcases Nat.lt_trichotomy (i / C) y with h | h | h
    · have := Nat.mul_le_mul_left C (show i / C + 1 ≤ y from h)
      rw [Nat.mul_add, Nat.mul_one, Nat.mul_comm C y] at this
      omega
    · exact h
    · have := Nat.mul_le_mul_left C (show y + 1 ≤ i / C from h)
      rw [Nat.mul_add, Nat.mul_one, Nat.mul_comm C y] at this
      omega
  · rintro rfl
    have h3 := Nat.div_add_mod i C
    have h4 := Nat.mod_lt i hC
    rw [Nat.mul_comm C] at h3
    omega
theorem gL_lay (t : Nat → LN) {C y : Nat} (hC : 0 < C) (hn : (t y).kn = C) (i : Nat) : (if y * C ≤ i ∧ i < y * C + C then (t y).kf (i - y * C) else gL t C y i) = gL t C (y + 1) i := by
  by_cases h : y * C ≤ i ∧ i < y * C + C
  · have h1 := (div_row hC).1 h
    rw [if_pos h]
    unfold gL
    rw [h1, if_pos ⟨Nat.lt_succ_self _, hn⟩]
    have h3 := Nat.div_add_mod i C
    rw [h1, Nat.mul_comm C y] at h3
    congr 1
    omega
  · have h1 : i / C ≠ y := fun e => h ((div_row hC).2 e)
    rw [if_neg h]
    unfold gL
    have : (i / C < y ∧ (t (i / C)).kn = C) ↔ (i / C < y + 1 ∧ (t (i / C)).kn = C) := by
      constructor
      · rintro ⟨a, b⟩; exact ⟨by omega, b⟩
      · rintro ⟨a, b⟩; exact ⟨by omega, b⟩
    simp only [this]
theorem gL_no (t : Nat → LN) {C y : Nat} (hn : (t y).kn ≠ C) (i : Nat) : gL t C y i = gL t C (y + 1) i := by
  unfold gL
  have : (i / C < y ∧ (t (i / C)).kn = C) ↔ (i / C < y + 1 ∧ (t (i / C)).kn = C) := by
    constructor
    · rintro ⟨a, b⟩; exact ⟨by omega, b⟩
    · rintro ⟨a, b⟩
      refine ⟨?_, b⟩
      by_cases e : i / C = y
      · rw [e] at b; exact absurd b hn
      · omega
  simp only [this]
theorem gL_at (t : Nat → LN) {C n y x : Nat} (hx : x < C) (hy : y < n) (hn : (t y).kn = C) : gL t C n (y * C + x) = (t y).kf x := by
  have h1 : (y * C + x) / C = y := (div_row (by omega)).1 ⟨by omega, by omega⟩
  have h3 := Nat.div_add_mod (y * C + x) C
  rw [h1, Nat.mul_comm C y] at h3
  have h2 : (y * C + x) % C = x := by omega
  unfold gL
  rw [h1, h2, if_pos ⟨hy, hn⟩]
theorem gL_lt {t : Nat → LN} (h : ∀ j i, (t j).kf i < 256) (C n i : Nat) : gL t C n i < 256 := by
  unfold gL
  split
  · exact h _ _
  · decide
theorem sz_of {W : Int} {n : Nat} (h : ckE W n 256 false = 0) : ∃ C : Nat, W = (C : Int) ∧ Sz C n 256 := by
  unfold ckE at h
  by_cases h1 : 1 ≤ W ∧ W ≤ 65536 ∧ 1 ≤ (n : Int) ∧ (n : Int) ≤ 65536 ∧ (2 : Int) ≤ 256 ∧ (256 : Int) ≤ 256
  · rw [if_pos h1, if_neg (by simp)] at h
    by_cases h2 : 1048576 < W * (n : Int)
    · rw [if_pos h2] at h; cases h
    · obtain ⟨C, rfl⟩ : ∃ C : Nat, W = (C : Int) := ⟨W.toNat, by omega⟩
      refine ⟨C, rfl, by omega, by omega, by omega, by omega, by omega, by omega, ?_⟩
      rw [← Int.natCast_mul] at h2
      omega
  · rw [if_neg h1] at h; cases h
/-- How many of the first k lines' cells live. -/
theorem pop_cnt (g : Nat → Nat) (C : Nat) : popN g C 0 = 0 := rfl
end Go.Proofs.Ytbiilklihieomaa
