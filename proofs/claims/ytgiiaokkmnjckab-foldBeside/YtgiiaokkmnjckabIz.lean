/- Maps in whole numbers: a linear part and a Move; what is done one behind the other; the way back. Nothing of the program in it. -/
import Derived.Test.YtgiiaokkmnjckabI3
namespace Go.Proofs.Ytgiiaokkmnjckab
open Go.RowKit
open Fl
set_option linter.unusedVariables false
set_option linter.unusedSimpArgs false

/-- Is a number not too far? -/
def nearB (n : Int) : Bool := decide (n.natAbs ≤ 1099511627776)
theorem near_of {n : Int} (h : nearB n = true) : n.natAbs ≤ 1099511627776 := of_decide_eq_true h
theorem far_near (n : Int) : farB n = !nearB n := by
  unfold farB nearB
  by_cases h : n.natAbs ≤ 1099511627776
  · rw [decide_eq_true h]; exact decide_eq_false (by omega)
  · rw [decide_eq_false h]; exact decide_eq_true (by omega)
theorem whB_is {b : Nat} {n : Int} (h : Is b n) : whB b = nearB n := by
  unfold nearB
  by_cases q : n.natAbs ≤ 1099511627776
  · rw [whB_yes ⟨n, q, h⟩, decide_eq_true q]
  · rw [whB_no, decide_eq_false q]
    rintro ⟨m, hm, h'⟩
    exact q (val_inj h h' ▸ hm)
theorem is_toInt {b : Nat} {n : Int} (h : Is b n) (hn : nearB n = true) : floatToIntVal .f64 b .i64 = some n := by
  have hn' := near_of hn
  obtain ⟨s, m, p, e, h⟩ := h
  have hI := val_integral h rfl
  unfold floatToIntVal Ieee.Datum.toInt
  have e0 : FloatKind.f64.decode b = .number s m p := e
  rw [e0]
  unfold Ieee.Datum.integral at hI ⊢
  dsimp only
  rw [signed_sg]
  simp only [Int.pow_zero, Int.mul_one]
  rw [← hI]
  have r1 : IntKind.i64.min = -2 ^ 63 := by decide
  have r2 : IntKind.i64.max = 2 ^ 63 - 1 := by decide
  rw [if_pos (by rw [r1, r2]; omega)]
theorem pl_is {b : Nat} {n : Int} (h : Is b n) : Is (pl b) n ∧ (n = 0 → pl b = 0) := by
  unfold pl
  by_cases q : (FloatKind.f64.format.order b 0 == some .eq) = true
  · rw [if_pos q]
    have := (order_is' is0).1 q
    rw [val_inj h this]
    exact ⟨is0, fun _ => rfl⟩
  · rw [if_neg q]
    exact ⟨h, fun k => absurd ((order_is' is0).2 (k ▸ h)) q⟩

/-- Has a linear part a reflection? -/
def fl4 (k : Nat) : Bool := decide (4 ≤ k)
/-- Where the linear part k takes (x, y). -/
def lx (k : Nat) (x y : Int) : Int := tx k * x - ty k * cj (fl4 k) y
def ly (k : Nat) (x y : Int) : Int := tx k * cj (fl4 k) y + ty k * x
/-- The linear part that is k, and behind it l. -/
def both (k l : Nat) : Nat := (if 4 ≤ l then (l + 4 - k % 4) % 4 else (k + l) % 4) + (if fl4 k = fl4 l then 0 else 4)
theorem both_tx : ∀ k, k < 8 → ∀ l, l < 8 → lx l (tx k) (ty k) = tx (both k l) ∧ ly l (tx k) (ty k) = ty (both k l) ∧ fl4 (both k l) = (fl4 k != fl4 l) ∧ both k l < 8 := by decide
theorem unit_t (k : Nat) : Unit1 (tx k) ∧ Unit1 (ty k) ∧ (tx k = 0 ∨ ty k = 0) := by
  unfold tx ty Unit1
  split
  · rename_i h; rw [if_neg (by omega), if_neg (by omega)]; omega
  · split
    · rename_i h; rw [if_neg (by omega), if_neg (by omega)]; omega
    · split
      · omega
      · split <;> omega
/-- The part that takes back. -/
def back (k : Nat) : Nat := if 4 ≤ k then k else (4 - k) % 4
theorem back_tx : ∀ k, k < 8 → tx (back k) = tx k ∧ ty (back k) = (if fl4 k then ty k else - ty k) ∧ fl4 (back k) = fl4 k ∧ back k < 8 := by decide

/-- A map: a linear part and a Move, as the words of its complex numbers say it. -/
structure Mp (a b : Nat) (f : Bool) (c d : Nat) (k : Nat) (x y : Int) : Prop where
  lt : k < 8
  t1 : Is a (tx k)
  t2 : Is b (ty k)
  fl : f = fl4 k
  m1 : Is c x
  m2 : Is d y
/-- It may be. -/
structure May (a b : Nat) (f : Bool) (c d : Nat) (k : Nat) (x y : Int) : Prop extends Mp a b f c d k x y where
  n1 : nearB x = true
  n2 : nearB y = true
/-- No nought with a sign. -/
structure Cl (a b c d : Nat) (k : Nat) (x y : Int) : Prop where
  c1 : tx k = 0 → a = 0
  c2 : ty k = 0 → b = 0
  c3 : x = 0 → c = 0
  c4 : y = 0 → d = 0
/-- May these words be a map's? -/
noncomputable def vB (a b c d : Nat) : Bool := @decide (Tu a b) (Classical.propDecidable _) && (whB c && whB d)
theorem tu_yes {a b : Nat} (h : Tu a b) : @decide (Tu a b) (Classical.propDecidable _) = true := @decide_eq_true _ (Classical.propDecidable _) h
theorem tu_no {a b : Nat} (h : ¬ Tu a b) : @decide (Tu a b) (Classical.propDecidable _) = false := @decide_eq_false _ (Classical.propDecidable _) h
theorem tu_of {a b : Nat} (h : @decide (Tu a b) (Classical.propDecidable _) = true) : Tu a b := @of_decide_eq_true _ (Classical.propDecidable _) h
theorem tx_mod (k : Nat) : tx (k % 4) = tx k ∧ ty (k % 4) = ty k := by unfold tx ty; simp
theorem May.v {a b : Nat} {f : Bool} {c d : Nat} {k : Nat} {x y : Int} (h : May a b f c d k x y) : vB a b c d = true := by
  unfold vB
  rw [tu_yes ⟨k % 4, by omega, (tx_mod k).1 ▸ h.t1, (tx_mod k).2 ▸ h.t2⟩, whB_is h.m1, whB_is h.m2, h.n1, h.n2]; rfl
theorem may_of {a b : Nat} (f : Bool) {c d : Nat} (h : vB a b c d = true) : ∃ k x y, May a b f c d k x y := by
  unfold vB at h
  obtain ⟨h1, h2⟩ := Bool.and_eq_true_iff.1 h
  obtain ⟨h2, h3⟩ := Bool.and_eq_true_iff.1 h2
  obtain ⟨q, hq, i1, i2⟩ := tu_of h1
  obtain ⟨x, hx, i3⟩ := wh_of h2
  obtain ⟨y, hy, i4⟩ := wh_of h3
  cases f
  · exact ⟨q, x, y, ⟨by omega, i1, i2, (by unfold fl4; exact (decide_eq_false (by omega)).symm), i3, i4⟩, decide_eq_true hx, decide_eq_true hy⟩
  · refine ⟨q + 4, x, y, ⟨by omega, ?_, ?_, (by unfold fl4; exact (decide_eq_true (by omega)).symm), i3, i4⟩, decide_eq_true hx, decide_eq_true hy⟩
    · rw [← (tx_mod (q + 4)).1, Nat.add_mod_right, (tx_mod q).1]; exact i1
    · rw [← (tx_mod (q + 4)).2, Nat.add_mod_right, (tx_mod q).2]; exact i2
theorem l_abs (k : Nat) (x y : Int) : (lx k x y).natAbs ≤ x.natAbs + y.natAbs ∧ (ly k x y).natAbs ≤ x.natAbs + y.natAbs := by
  obtain ⟨h1, h2, _⟩ := unit_t k
  have a1 := unit_mul (x := x) h1
  have a2 := unit_mul (x := cj (fl4 k) y) h2
  have a3 := unit_mul (x := cj (fl4 k) y) h1
  have a4 := unit_mul (x := x) h2
  have a5 := cj_abs (fl4 k) y
  unfold lx ly
  omega
end Go.Proofs.Ytgiiaokkmnjckab
