/- Generations of a line: twice as many are the same twice as far. -/
import Derived.Test.YtijjbejilpglnaaGreatN34
namespace Go.Proofs.YtijjbejilpglnaaGreat
open Go.RowKit
set_option linter.unusedVariables false
set_option linter.unusedSimpArgs false
set_option maxRecDepth 100000

namespace Ln
/-- n generations. -/
def gen (h : Nat → Int) (m : Nat) : Nat → (Int → Bool) → Int → Bool
  | 0, A => A
  | n + 1, A => gen h m n (parA h m A)
theorem parA_congr {h : Nat → Int} {A B : Int → Bool} : ∀ {m : Nat} {x : Int}, (∀ k, k < m → A (x + h k) = B (x + h k)) → parA h m A x = parA h m B x
  | 0, x, _ => rfl
  | m + 1, x, e => by
    show Bool.xor (parA h m A x) (A (x + h m)) = Bool.xor (parA h m B x) (B (x + h m))
    rw [parA_congr (fun k hk => e k (by omega)), e m (by omega)]
theorem parA_xor (h : Nat → Int) (A B : Int → Bool) : ∀ (m : Nat) (x : Int), parA h m (fun z => Bool.xor (A z) (B z)) x = Bool.xor (parA h m A x) (parA h m B x)
  | 0, x => rfl
  | m + 1, x => by
    show Bool.xor (parA h m _ x) (Bool.xor (A (x + h m)) (B (x + h m))) = Bool.xor (Bool.xor (parA h m A x) (A (x + h m))) (Bool.xor (parA h m B x) (B (x + h m)))
    rw [parA_xor h A B m x]
    cases parA h m A x <;> cases parA h m B x <;> cases A (x + h m) <;> cases B (x + h m) <;> rfl
theorem parA_shift (h : Nat → Int) (A : Int → Bool) (d : Int) : ∀ (m : Nat) (x : Int), parA h m (fun z => A (z + d)) x = parA h m A (x + d)
  | 0, x => rfl
  | m + 1, x => by
    show Bool.xor (parA h m _ x) (A (x + h m + d)) = Bool.xor (parA h m A (x + d)) (A (x + d + h m))
    rw [parA_shift h A d m x, show x + h m + d = x + d + h m by omega]
/-- Two generations: each offset twice. -/
theorem parA_two (h : Nat → Int) (A : Int → Bool) : ∀ (m : Nat) (x : Int), parA h m (parA h m A) x = parA (fun k => 2 * h k) m A x
  | 0, x => rfl
  | m + 1, x => by
    have e : parA h (m + 1) A = fun z => Bool.xor (parA h m A z) (A (z + h m)) := rfl
    show Bool.xor (parA h m (parA h (m + 1) A) x) (parA h (m + 1) A (x + h m)) = Bool.xor (parA (fun k => 2 * h k) m A x) (A (x + 2 * h m))
    rw [e, parA_xor h (parA h m A) (fun z => A (z + h m)) m x, parA_shift h A (h m) m x, parA_two h A m x]
    simp only
    rw [show x + h m + h m = x + 2 * h m by omega]
    cases parA (fun k => 2 * h k) m A x <;> cases parA h m A (x + h m) <;> cases A (x + 2 * h m) <;> rfl
theorem gen_congr {h : Nat → Int} {m : Nat} {A B : Int → Bool} (e : ∀ x, A x = B x) (n : Nat) (x : Int) : gen h m n A x = gen h m n B x := by rw [funext e]
/-- .. of the places of one remainder. -/
theorem parA_half (h : Nat → Int) (A : Int → Bool) (r : Int) : ∀ (m : Nat) (z : Int), parA (fun k => 2 * h k) m A (2 * z + r) = parA h m (fun y => A (2 * y + r)) z
  | 0, z => rfl
  | m + 1, z => by
    show Bool.xor (parA (fun k => 2 * h k) m A (2 * z + r)) (A (2 * z + r + 2 * h m)) = Bool.xor (parA h m (fun y => A (2 * y + r)) z) (A (2 * (z + h m) + r))
    rw [parA_half h A r m z, show 2 * z + r + 2 * h m = 2 * (z + h m) + r by omega]
theorem gen_half (h : Nat → Int) (m : Nat) (r : Int) : ∀ (n : Nat) (A : Int → Bool) (z : Int), gen h m (2 * n) A (2 * z + r) = gen h m n (fun y => A (2 * y + r)) z
  | 0, A, z => rfl
  | n + 1, A, z => by
    rw [show 2 * (n + 1) = 2 * n + 1 + 1 by omega]
    show gen h m (2 * n) (parA h m (parA h m A)) (2 * z + r) = gen h m n (parA h m (fun y => A (2 * y + r))) z
    rw [gen_half h m r n]
    refine gen_congr (fun y => ?_) n z
    rw [parA_two, parA_half]
theorem gen_out (h : Nat → Int) (m : Nat) : ∀ (n : Nat) (A : Int → Bool), gen h m (n + 1) A = parA h m (gen h m n A)
  | 0, A => rfl
  | n + 1, A => by
    show gen h m (n + 1) (parA h m A) = _
    rw [gen_out h m n (parA h m A)]
    rfl
/-- Line's answer is that generation's. -/
theorem lnR_gen (h : Nat → Int) (m : Nat) : ∀ (n : Nat) (A : Int → Bool) (p : Int), lnR h m n A p = gen h m n A p := by
  intro n
  induction n using Nat.strongRecOn with
  | _ n ih =>
    intro A p
    by_cases hn : n = 0
    · subst hn
      rw [lnR_zero]
      rfl
    · rw [lnR_pos h m hn, ih (n / 2) (by omega), ← gen_half h m (p % 2) (n / 2) (stA h m n A) (p / 2), show 2 * (p / 2) + p % 2 = p by omega]
      unfold stA
      by_cases ho : n % 2 = 1
      · rw [if_pos ho]
        rw [show gen h m n A p = gen h m (2 * (n / 2) + 1) A p by rw [show 2 * (n / 2) + 1 = n by omega]]
        rfl
      · rw [if_neg ho, show 2 * (n / 2) = n by omega]
/-- One living cell, at 0. -/
def oneA (x : Int) : Bool := decide (x = 0)
theorem lv_one : lv [(0, 0)] = oneA := funext fun x => by unfold lv oneA; simp
theorem gen_none (h : Nat → Int) (m : Nat) : ∀ (n : Nat) (x : Int), gen h m n (fun _ => false) x = false
  | 0, x => rfl
  | n + 1, x => by
    show gen h m n (parA h m (fun _ => false)) x = false
    have : parA h m (fun _ => false) = fun _ => false := funext fun y => by
      have : ∀ m, parA h m (fun _ => false) y = false := fun m => by
        induction m with
        | zero => rfl
        | succ m ih => show Bool.xor (parA h m (fun _ => false) y) false = false; rw [ih]; rfl
      exact this m
    rw [this]
    exact gen_none h m n x
/-- Half as many. -/
theorem gen_even (h : Nat → Int) (m n : Nat) (x : Int) : gen h m (2 * n) oneA x = (decide (x % 2 = 0) && gen h m n oneA (x / 2)) := by
  have e := gen_half h m (x % 2) n oneA (x / 2)
  rw [show 2 * (x / 2) + x % 2 = x by omega] at e
  rw [e]
  by_cases hx : x % 2 = 0
  · rw [decide_eq_true hx, Bool.true_and]
    refine gen_congr (fun y => ?_) n _
    unfold oneA
    rw [decide_eq_decide]
    omega
  · rw [decide_eq_false hx, Bool.false_and, ← gen_none h m n (x / 2)]
    refine gen_congr (fun y => ?_) n _
    unfold oneA
    exact decide_eq_false (by omega)
/-- No further than 64 places a generation. -/
theorem gen_far (h : Nat → Int) (m : Nat) (hh : ∀ k, k < m → -64 ≤ h k ∧ h k ≤ 64) : ∀ (n : Nat) (x : Int), (64 * (n : Int) < x ∨ x < -(64 * (n : Int))) → gen h m n oneA x = false
  | 0, x, hx => by
    show oneA x = false
    unfold oneA
    exact decide_eq_false (by omega)
  | n + 1, x, hx => by
    rw [gen_out]
    have : ∀ k, k ≤ m → parA h k (gen h m n oneA) x = false := fun k => by
      induction k with
      | zero => intro _; rfl
      | succ k ih =>
        intro hk
        show Bool.xor (parA h k (gen h m n oneA) x) (gen h m n oneA (x + h k)) = false
        have := hh k (by omega)
        rw [ih (by omega), gen_far h m hh n (x + h k) (by omega)]
        rfl
    exact this m (Nat.le_refl _)
/-- An odd number of the places C lives. -/
def parC (F : Int → Bool) (C : List Pt) : Bool := C.foldr (fun p a => Bool.xor (F p.1) a) false
theorem parC_nil (F : Int → Bool) : parC F [] = false := rfl
theorem parC_cons (F : Int → Bool) (p : Pt) (C : List Pt) : parC F (p :: C) = Bool.xor (F p.1) (parC F C) := rfl
theorem parC_app (F : Int → Bool) : ∀ C D : List Pt, parC F (C ++ D) = Bool.xor (parC F C) (parC F D)
  | [], D => by rw [List.nil_append, parC_nil]; simp
  | p :: C, D => by rw [List.cons_append, parC_cons, parC_cons, parC_app F C D]; cases F p.1 <;> cases parC F C <;> cases parC F D <;> rfl
end Ln
end Go.Proofs.YtijjbejilpglnaaGreat
