/- The document's ahead, turned. -/
import Derived.Test.YtbmpiddjakdebaaGreatNu
namespace Go.Proofs.YtbmpiddjakdebaaGreat
open Go.RowKit
set_option linter.unusedVariables false
set_option linter.unusedSimpArgs false
set_option maxRecDepth 100000

namespace Ln
/-- Ahead by rows. -/
def ahB (x y : Pt) : Bool := decide (x.2 < y.2) || (decide (x.2 = y.2) && decide (x.1 < y.1))
/-- A list by rows, a place put in or taken out. -/
def tnL : List Pt → Pt → List Pt
  | [], p => [p]
  | q :: L, p => if ahB q p = true then q :: tnL L p else if q = p then L else p :: q :: L
theorem drop_psL (f : Nat → Pt) (n i : Nat) (h : i < n) : (psL f n).drop i = f i :: (psL f n).drop (i + 1) := by
  have hl : i < (psL f n).length := by rw [psL_len]; exact h
  rw [List.drop_eq_getElem_cons hl]
  congr 1
  simp [psL]
end Ln
end Go.Proofs.YtbmpiddjakdebaaGreat
namespace Go.Proofs.YtbmpiddjakdebaaGreat
open Go.RowKit
set_option linter.unusedVariables false
set_option linter.unusedSimpArgs false
set_option maxRecDepth 100000

namespace Ln
/-- n generations. -/
def gen (h : Nat → Int) (m : Nat) : Nat → (Int → Bool) → Int → Bool
  | 0, A => A
  | n + 1, A => gen h m n (parA h m A)
theorem parA_congr {h : Nat → Int} {A B : Int → Bool} : ∀ {m : Nat} {x : Int}, (∀ k, k < m → A (x + h k) = B (x + h k)) → parA h m A x = parA h m B x
  | 0, x, _ => rfl
  | m + 1, x, e => by
    show Bool.xor (parA h m A x) (A (x + h m)) = Bool.xor (parA h m B x) (B (x + h m))
    rw [parA_congr (fun k hk => e k (by omega)), e m (by omega)]
theorem parA_xor (h : Nat → Int) (A B : Int → Bool) : ∀ (m : Nat) (x : Int), parA h m (fun z => Bool.xor (A z) (B z)) x = Bool.xor (parA h m A x) (parA h m B x)
  | 0, x => rfl
  | m + 1, x => by
    show Bool.xor (parA h m _ x) (Bool.xor (A (x + h m)) (B (x + h m))) = Bool.xor (Bool.xor (parA h m A x) (A (x + h m))) (Bool.xor (parA h m B x) (B (x + h m)))
    rw [parA_xor h A B m x]
    cases parA h m A x <;> cases parA h m B x <;> cases A (x + h m) <;> cases B (x + h m) <;> rfl
theorem parA_shift (h : Nat → Int) (A : Int → Bool) (d : Int) : ∀ (m : Nat) (x : Int), parA h m (fun z => A (z + d)) x = parA h m A (x + d)
  | 0, x => rfl
  | m + 1, x => by
    show Bool.xor (parA h m _ x) (A (x + h m + d)) = Bool.xor (parA h m A (x + d)) (A (x + d + h m))
    rw [parA_shift h A d m x, show x + h m + d = x + d + h m by omega]
/-- Two generations: each offset twice. -/
theorem parA_two (h : Nat → Int) (A : Int → Bool) : ∀ (m : Nat) (x : Int), parA h m (parA h m A) x = parA (fun k => 2 * h k) m A x
  | 0, x => rfl
  | m + 1, x => by
    have e : parA h (m + 1) A = fun z => Bool.xor (parA h m A z) (A (z + h m)) := rfl
    show Bool.xor (parA h m (parA h (m + 1) A) x) (parA h (m + 1) A (x + h m)) = Bool.xor (parA (fun k => 2 * h k) m A x) (A (x + 2 * h m))
    rw [e, parA_xor h (parA h m A) (fun z => A (z + h m)) m x, parA_shift h A (h m) m x, parA_two h A m x]
    simp only
    rw [show x + h m + h m = x + 2 * h m by omega]
    cases parA (fun k => 2 * h k) m A x <;> cases parA h m A (x + h m) <;> cases A (x + 2 * h m) <;> rfl
theorem gen_congr {h : Nat → Int} {m : Nat} {A B : Int → Bool} (e : ∀ x, A x = B x) (n : Nat) (x : Int) : gen h m n A x = gen h m n B x := by rw [funext e]
/-- .. of the places of one remainder. -/
theorem parA_half (h : Nat → Int) (A : Int → Bool) (r : Int) : ∀ (m : Nat) (z : Int), parA (fun k => 2 * h k) m A (2 * z + r) = parA h m (fun y => A (2 * y + r)) z
  | 0, z => rfl
  | m + 1, z => by
    show Bool.xor (parA (fun k => 2 * h k) m A (2 * z + r)) (A (2 * z + r + 2 * h m)) = Bool.xor (parA h m (fun y => A (2 * y + r)) z) (A (2 * (z + h m) + r))
    rw [parA_half h A r m z, show 2 * z + r + 2 * h m = 2 * (z + h m) + r by omega]
theorem gen_half (h : Nat → Int) (m : Nat) (r : Int) : ∀ (n : Nat) (A : Int → Bool) (z : Int), gen h m (2 * n) A (2 * z + r) = gen h m n (fun y => A (2 * y + r)) z
  | 0, A, z => rfl
  | n + 1, A, z => by
    rw [show 2 * (n + 1) = 2 * n + 1 + 1 by omega]
    show gen h m (2 * n) (parA h m (parA h m A)) (2 * z + r) = gen h m n (parA h m (fun y => A (2 * y + r))) z
    rw [gen_half h m r n]
    refine gen_congr (fun y => ?_) n z
    rw [parA_two, parA_half]
theorem gen_out (h : Nat → Int) (m : Nat) : ∀ (n : Nat) (A : Int → Bool), gen h m (n + 1) A = parA h m (gen h m n A)
  | 0, A => rfl
  | n + 1, A => by
    show gen h m (n + 1) (parA h m A) = _
    rw [gen_out h m n (parA h m A)]
    rfl
/-- Line's answer is that generation's. -/
theorem lnR_gen (h : Nat → Int) (m : Nat) : ∀ (n : Nat) (A : Int → Bool) (p : Int), lnR h m n A p = gen h m n A p := by
  intro n
  induction n using Nat.strongRecOn with
  | _ n ih =>
    intro A p
    by_cases hn : n = 0
    · subst hn
      rw [lnR_zero]
      rfl
    · rw [lnR_pos h m hn, ih (n / 2) (by omega), ← gen_half h m (p % 2) (n / 2) (stA h m n A) (p / 2), show 2 * (p / 2) + p % 2 = p by omega]
      unfold stA
      by_cases ho : n % 2 = 1
      · rw [if_pos ho]
        rw [show gen h m n A p = gen h m (2 * (n / 2) + 1) A p by rw [show 2 * (n / 2) + 1 = n by omega]]
        rfl
      · rw [if_neg ho, show 2 * (n / 2) = n by omega]
/-- One living cell, at 0. -/
def oneA (x : Int) : Bool := decide (x = 0)
theorem lv_one : lv [(0, 0)] = oneA := funext fun x => by unfold lv oneA; simp
theorem gen_none (h : Nat → Int) (m : Nat) : ∀ (n : Nat) (x : Int), gen h m n (fun _ => false) x = false
  | 0, x => rfl
  | n + 1, x => by
    show gen h m n (parA h m (fun _ => false)) x = false
    have : parA h m (fun _ => false) = fun _ => false := funext fun y => by
      have : ∀ m, parA h m (fun _ => false) y = false := fun m => by
        induction m with
        | zero => rfl
        | succ m ih => show Bool.xor (parA h m (fun _ => false) y) false = false; rw [ih]; rfl
      exact this m
    rw [this]
    exact gen_none h m n x
/-- Half as many. -/
theorem gen_even (h : Nat → Int) (m n : Nat) (x : Int) : gen h m (2 * n) oneA x = (decide (x % 2 = 0) && gen h m n oneA (x / 2)) := by
  have e := gen_half h m (x % 2) n oneA (x / 2)
  rw [show 2 * (x / 2) + x % 2 = x by omega] at e
  rw [e]
  by_cases hx : x % 2 = 0
  · rw [decide_eq_true hx, Bool.true_and]
    refine gen_congr (fun y => ?_) n _
    unfold oneA
    rw [decide_eq_decide]
    omega
  · rw [decide_eq_false hx, Bool.false_and, ← gen_none h m n (x / 2)]
    refine gen_congr (fun y => ?_) n _
    unfold oneA
    exact decide_eq_false (by omega)
/-- No further than 64 places a generation. -/
theorem gen_far (h : Nat → Int) (m : Nat) (hh : ∀ k, k < m → -64 ≤ h k ∧ h k ≤ 64) : ∀ (n : Nat) (x : Int), (64 * (n : Int) < x ∨ x < -(64 * (n : Int))) → gen h m n oneA x = false
  | 0, x, hx => by
    show oneA x = false
    unfold oneA
    exact decide_eq_false (by omega)
  | n + 1, x, hx => by
    rw [gen_out]
    have : ∀ k, k ≤ m → parA h k (gen h m n oneA) x = false := fun k => by
      induction k with
      | zero => intro _; rfl
      | succ k ih =>
        intro hk
        show Bool.xor (parA h k (gen h m n oneA) x) (gen h m n oneA (x + h k)) = false
        have := hh k (by omega)
        rw [ih (by omega), gen_far h m hh n (x + h k) (by omega)]
        rfl
    exact this m (Nat.le_refl _)
/-- An odd number of the places C lives. -/
def parC (F : Int → Bool) (C : List Pt) : Bool := C.foldr (fun p a => Bool.xor (F p.1) a) false
theorem parC_nil (F : Int → Bool) : parC F [] = false := rfl
theorem parC_cons (F : Int → Bool) (p : Pt) (C : List Pt) : parC F (p :: C) = Bool.xor (F p.1) (parC F C) := rfl
theorem parC_app (F : Int → Bool) : ∀ C D : List Pt, parC F (C ++ D) = Bool.xor (parC F C) (parC F D)
  | [], D => by rw [List.nil_append, parC_nil]; simp
  | p :: C, D => by rw [List.cons_append, parC_cons, parC_cons, parC_app F C D]; cases F p.1 <;> cases parC F C <;> cases parC F D <;> rfl
end Ln
end Go.Proofs.YtbmpiddjakdebaaGreat
namespace Go.Proofs.YtbmpiddjakdebaaGreat
open Go.RowKit
set_option linter.unusedVariables false
set_option linter.unusedSimpArgs false
set_option maxRecDepth 100000

namespace Ln
theorem ahB_is (x y : Pt) : ahB x y = true ↔ x.2 < y.2 ∨ (x.2 = y.2 ∧ x.1 < y.1) := by unfold ahB; simp
/-- By rows, none twice. -/
def Sd (L : List Pt) : Prop := L.Pairwise (fun x y => ahB x y = true)
theorem Sd.nodup {L : List Pt} (h : Sd L) : L.Nodup := h.imp (fun {x y} hxy e => by
  subst e
  rw [ahB_is] at hxy
  omega)
theorem tnL_mem {p q : Pt} : ∀ {L : List Pt}, q ∈ tnL L p → q ∈ L ∨ q = p
  | [], h => by
    have : q = p := by simpa [tnL] using h
    exact .inr this
  | r :: L, h => by
    unfold tnL at h
    split at h
    · rcases List.mem_cons.1 h with h | h
      · exact .inl (by rw [h]; exact List.mem_cons_self)
      · exact (tnL_mem h).imp (List.mem_cons_of_mem _) id
    · split at h
      · exact .inl (List.mem_cons_of_mem _ h)
      · rcases List.mem_cons.1 h with h | h
        · exact .inr h
        · exact .inl h
theorem tnL_sd {p : Pt} : ∀ {L : List Pt}, Sd L → Sd (tnL L p)
  | [], _ => List.pairwise_singleton _ _
  | r :: L, h => by
    obtain ⟨h1, h2⟩ := List.pairwise_cons.1 h
    unfold tnL
    split
    · rename_i hr
      refine List.pairwise_cons.2 ⟨fun y hy => ?_, tnL_sd h2⟩
      rcases tnL_mem hy with hy | hy
      · exact h1 y hy
      · rw [hy]; exact hr
    · rename_i hr
      split
      · exact h2
      · rename_i hp
        have hpr : ahB p r = true := by
          rw [ahB_is]
          have hr' : ¬ (r.2 < p.2 ∨ (r.2 = p.2 ∧ r.1 < p.1)) := fun e => hr ((ahB_is r p).2 e)
          have hp' : ¬ (r.1 = p.1 ∧ r.2 = p.2) := fun e => hp (Prod.ext e.1 e.2)
          omega
        refine List.pairwise_cons.2 ⟨fun y hy => ?_, h⟩
        rcases List.mem_cons.1 hy with hy | hy
        · rw [hy]; exact hpr
        · have := h1 y hy
          rw [ahB_is] at this hpr ⊢
          omega
theorem parC_tnL (F : Int → Bool) (p : Pt) : ∀ L : List Pt, parC F (tnL L p) = Bool.xor (parC F L) (F p.1)
  | [] => by unfold tnL; rw [parC_cons, parC_nil]; cases F p.1 <;> rfl
  | r :: L => by
    unfold tnL
    split
    · rw [parC_cons, parC_cons, parC_tnL F p L]
      cases F r.1 <;> cases parC F L <;> cases F p.1 <;> rfl
    · split
      · rename_i h
        rw [parC_cons, h]
        cases F p.1 <;> cases parC F L <;> rfl
      · rw [parC_cons, parC_cons]
        cases F r.1 <;> cases parC F L <;> cases F p.1 <;> rfl
/-- On the line, within a window. -/
structure Wi (C : List Pt) (lo hi : Int) : Prop where
  sd : Sd C
  on : ∀ p ∈ C, p.2 = 0 ∧ lo ≤ p.1 ∧ p.1 ≤ hi
theorem Wi.len {C : List Pt} {lo hi : Int} (h : Wi C lo hi) : C.length ≤ (hi - lo + 1).toNat := by
  have := len_sub C ((List.range (hi - lo + 1).toNat).map (fun i : Nat => ((lo + (i : Int), 0) : Pt))) h.sd.nodup (fun q hq => by
    obtain ⟨h1, h2, h3⟩ := h.on q hq
    refine List.mem_map.2 ⟨(q.1 - lo).toNat, List.mem_range.2 (by omega), ?_⟩
    obtain ⟨a, b⟩ := q
    simp only at h1 h2 h3 ⊢
    rw [h1, Int.toNat_of_nonneg (by omega)]
    congr 1
    omega)
  simpa using this
theorem Wi.turned {C : List Pt} {lo hi : Int} (h : Wi C lo hi) {x : Int} (hx : lo ≤ x ∧ x ≤ hi) : Wi (tnL C (x, 0)) lo hi := ⟨tnL_sd h.sd, fun p hp => by
  rcases tnL_mem hp with hp | hp
  · exact h.on p hp
  · subst hp; exact ⟨rfl, hx⟩⟩
/-- The even ones, halved. -/
def hfL (C : List Pt) : List Pt := (C.filter (fun p => decide (p.1 % 2 = 0))).map (fun p => (p.1 / 2, 0))
theorem hfL_snoc (C : List Pt) (p : Pt) : hfL (C ++ [p]) = hfL C ++ (if p.1 % 2 = 0 then [(p.1 / 2, 0)] else []) := by
  unfold hfL
  rw [List.filter_append, List.map_append]
  congr 1
  by_cases h : p.1 % 2 = 0 <;> simp [h]
theorem hfL_len (C : List Pt) : (hfL C).length ≤ C.length := by
  unfold hfL
  rw [List.length_map]
  exact List.length_filter_le _ _
theorem hfL_cons (p : Pt) (C : List Pt) : hfL (p :: C) = (if p.1 % 2 = 0 then [(p.1 / 2, 0)] else []) ++ hfL C := by
  unfold hfL
  by_cases h : p.1 % 2 = 0 <;> simp [h]
theorem hfL_mem {C : List Pt} {q : Pt} (h : q ∈ hfL C) : ∃ p ∈ C, p.1 % 2 = 0 ∧ q = (p.1 / 2, 0) := by
  unfold hfL at h
  obtain ⟨p, hp, rfl⟩ := List.mem_map.1 h
  obtain ⟨h1, h2⟩ := List.mem_filter.1 hp
  exact ⟨p, h1, by simpa using h2, rfl⟩
theorem hfL_sd : ∀ {C : List Pt}, (∀ p ∈ C, p.2 = 0) → Sd C → Sd (hfL C)
  | [], _, _ => List.Pairwise.nil
  | p :: C, h0, h => by
    obtain ⟨h1, h2⟩ := List.pairwise_cons.1 h
    have ih := hfL_sd (fun q hq => h0 q (List.mem_cons_of_mem _ hq)) h2
    rw [hfL_cons]
    by_cases hp : p.1 % 2 = 0
    · rw [if_pos hp]
      refine List.pairwise_cons.2 ⟨fun y hy => ?_, ih⟩
      obtain ⟨q, hq, he, rfl⟩ := hfL_mem hy
      have := h1 q hq
      have e1 := h0 p List.mem_cons_self
      have e2 := h0 q (List.mem_cons_of_mem _ hq)
      rw [ahB_is] at this ⊢
      refine .inr ⟨rfl, ?_⟩
      show p.1 / 2 < q.1 / 2
      omega
    · rw [if_neg hp]
      exact ih
theorem Wi.half {C : List Pt} {lo hi lo' hi' : Int} (h : Wi C lo hi) (h1 : lo' = lo / 2) (h2 : hi / 2 ≤ hi') : Wi (hfL C) lo' hi' := ⟨hfL_sd (fun p hp => (h.on p hp).1) h.sd, fun q hq => by
  obtain ⟨p, hp, he, rfl⟩ := hfL_mem hq
  obtain ⟨a, b, c⟩ := h.on p hp
  refine ⟨rfl, ?_, ?_⟩
  · show lo' ≤ p.1 / 2
    omega
  · show p.1 / 2 ≤ hi'
    omega⟩
theorem parC_half (F : Int → Bool) : ∀ C : List Pt, parC F (hfL C) = parC (fun x => decide (x % 2 = 0) && F (x / 2)) C
  | [] => rfl
  | p :: C => by
    rw [hfL_cons, parC_app, parC_cons, parC_half F C]
    by_cases hp : p.1 % 2 = 0
    · rw [if_pos hp, decide_eq_true hp, parC_cons, parC_nil]
      cases F (p.1 / 2) <;> cases parC (fun x => decide (x % 2 = 0) && F (x / 2)) C <;> rfl
    · rw [if_neg hp, decide_eq_false hp, parC_nil]
      cases parC (fun x => decide (x % 2 = 0) && F (x / 2)) C <;> rfl
theorem parC_congr {F G : Int → Bool} (h : ∀ x, F x = G x) (C : List Pt) : parC F C = parC G C := by rw [funext h]
theorem parC_no {C : List Pt} (h : ∀ p ∈ C, p.1 ≠ 0) : parC oneA C = false := by
  induction C with
  | nil => rfl
  | cons p C ih =>
    rw [parC_cons, ih (fun q hq => h q (List.mem_cons_of_mem _ hq))]
    have : oneA p.1 = false := by unfold oneA; exact decide_eq_false (h p List.mem_cons_self)
    rw [this]; rfl
theorem parC_yes : ∀ {C : List Pt}, C.Nodup → (∀ p ∈ C, p.2 = 0) → (0, 0) ∈ C → parC oneA C = true
  | [], _, _, h => by cases h
  | p :: C, hn, h0, h => by
    obtain ⟨n1, n2⟩ := List.nodup_cons.1 hn
    rw [parC_cons]
    by_cases e : p = (0, 0)
    · have hno : ∀ q ∈ C, q.1 ≠ 0 := fun q hq e2 => n1 (by
        have : q = p := by rw [e]; exact Prod.ext e2 (h0 q (List.mem_cons_of_mem _ hq))
        rw [← this]; exact hq)
      rw [parC_no hno, e]
      decide
    · have hm : (0, 0) ∈ C := (List.mem_cons.1 h).resolve_left (fun h' => e h'.symm)
      rw [parC_yes n2 (fun q hq => h0 q (List.mem_cons_of_mem _ hq)) hm]
      have : oneA p.1 = false := by
        unfold oneA
        exact decide_eq_false (fun e2 => e (Prod.ext e2 (h0 p List.mem_cons_self)))
      rw [this]; rfl
end Ln
end Go.Proofs.YtbmpiddjakdebaaGreat
namespace Go.Proofs.YtbmpiddjakdebaaGreat
open Go.RowKit
set_option linter.unusedVariables false
set_option linter.unusedSimpArgs false
set_option maxRecDepth 100000

namespace Ln
theorem tnL_len (p : Pt) : ∀ L : List Pt, (tnL L p).length ≤ L.length + 1
  | [] => Nat.le_refl _
  | r :: L => by
    have := tnL_len p L
    unfold tnL
    split
    · simp only [List.length_cons]; omega
    · split
      · simp only [List.length_cons]; omega
      · simp only [List.length_cons]; omega
theorem xor_swap (a b c : Bool) : Bool.xor (Bool.xor a b) c = Bool.xor (Bool.xor a c) b := by cases a <;> cases b <;> cases c <;> rfl
theorem dec_cons (q r : Pt) (L : List Pt) (h : r ∉ L) : decide (q ∈ r :: L) = Bool.xor (decide (q = r)) (decide (q ∈ L)) := by
  by_cases e : q = r
  · subst e
    rw [decide_eq_true (List.mem_cons_self), decide_eq_true rfl, decide_eq_false h]; rfl
  · rw [decide_eq_false e]
    by_cases m : q ∈ L
    · rw [decide_eq_true (List.mem_cons_of_mem _ m), decide_eq_true m]; rfl
    · rw [decide_eq_false (fun hh => (List.mem_cons.1 hh).elim e m), decide_eq_false m]; rfl
theorem tnL_flip (p q : Pt) : ∀ {L : List Pt}, Sd L → decide (q ∈ tnL L p) = Bool.xor (decide (q ∈ L)) (decide (q = p))
  | [], _ => by
    unfold tnL
    rw [dec_cons q p [] (by simp)]
    cases decide (q = p) <;> simp
  | r :: L, h => by
    obtain ⟨h1, h2⟩ := List.pairwise_cons.1 h
    have hr : r ∉ L := fun hm => by have := h1 r hm; rw [ahB_is] at this; omega
    have ih := tnL_flip p q h2
    unfold tnL
    split
    · rename_i ha
      have hn : r ∉ tnL L p := fun hm => by
        rcases tnL_mem hm with hm | hm
        · exact hr hm
        · subst hm; rw [ahB_is] at ha; omega
      rw [dec_cons q r _ hn, dec_cons q r L hr, ih]
      cases decide (q = r) <;> cases decide (q ∈ L) <;> cases decide (q = p) <;> rfl
    · rename_i ha
      split
      · rename_i e
        subst e
        rw [dec_cons q r L hr]
        cases decide (q = r) <;> cases decide (q ∈ L) <;> rfl
      · rename_i e
        have hp : p ∉ r :: L := fun hm => by
          rcases List.mem_cons.1 hm with hm | hm
          · exact e hm.symm
          · exact ha (h1 p hm)
        rw [dec_cons q p _ hp]
        cases decide (q = p) <;> cases decide (q ∈ r :: L) <;> rfl
theorem odS_snoc (f : Nat → Pt) (n : Nat) (q p : Pt) : ∀ S : List Pt, odS (S ++ [p]) f n q = Bool.xor (odS S f n q) (od1 p f n q)
  | [] => by show Bool.xor (od1 p f n q) false = Bool.xor false (od1 p f n q); cases od1 p f n q <;> rfl
  | r :: S => by
    show Bool.xor (od1 r f n q) (odS (S ++ [p]) f n q) = Bool.xor (Bool.xor (od1 r f n q) (odS S f n q)) (od1 p f n q)
    rw [odS_snoc f n q p S]
    cases od1 r f n q <;> cases odS S f n q <;> cases od1 p f n q <;> rfl
theorem adL_psL {f : Nat → Pt} : ∀ {n : Nat}, tw f n = false → adL f n = psL f n
  | 0, _ => rfl
  | n + 1, h => by
    have hd := (adL_full f (n + 1)).1 (by
      have := adL_len f (n + 1)
      unfold tw at h
      have := of_decide_eq_false h
      omega)
    have ih := adL_psL (f := f) (n := n) (tw_no (fun i j hij hj => hd i j hij (by omega)))
    rw [psL_succ, ← ih]
    show adp (adL f n) (f n) = _
    unfold adp
    rw [if_neg (fun hm => by
      obtain ⟨i, hi, e⟩ := (mem_adL f (f n) n).1 hm
      exact hd i n hi (by omega) e.symm)]
/-- The document's product is the program's. -/
theorem srt_doc {f1 f2 : Nat → Pt} {n1 n2 : Nat} {T D : List Pt} (ht : tw f1 n1 = false) (hT : tmS f1 n1 f2 n2 T) (hD : Sd D) (hq : ∀ q, decide (q ∈ D) = odS (psL f1 n1) f2 n2 q) : srt T = D := by
  obtain ⟨hn, hT⟩ := hT
  refine srtA ((List.perm_ext_iff_of_nodup hD.nodup hn).2 (fun q => ?_)) (hD.imp (fun {x y} h => (ahB_is x y).1 h))
  have e1 := hT q
  rw [adL_psL ht, ← hq q] at e1
  by_cases m : q ∈ D
  · rw [decide_eq_true m] at e1
    exact ⟨fun _ => of_decide_eq_true e1, fun _ => m⟩
  · rw [decide_eq_false m] at e1
    exact ⟨fun h => absurd h m, fun h => absurd h (of_decide_eq_false e1)⟩
end Ln
end Go.Proofs.YtbmpiddjakdebaaGreat
namespace Go.Proofs.YtbmpiddjakdebaaGreat
open Go.RowKit
set_option linter.unusedVariables false
set_option linter.unusedSimpArgs false
set_option maxRecDepth 100000

namespace Ln
/-- One place moved by the first k moves, put in or taken out. -/
def tK (p : Pt) (f : Nat → Pt) (M : List Pt) : Nat → List Pt
  | 0 => M
  | k + 1 => tnL (tK p f M k) (padd p (f k))
/-- The product of the first i places and n moves. -/
def tD (f1 f2 : Nat → Pt) (n : Nat) : Nat → List Pt
  | 0 => []
  | i + 1 => tK (f1 i) f2 (tD f1 f2 n i) n
theorem tK_sd {p : Pt} {f : Nat → Pt} {M : List Pt} (h : Sd M) : ∀ k, Sd (tK p f M k)
  | 0 => h
  | k + 1 => tnL_sd (tK_sd h k)
theorem tD_sd (f1 f2 : Nat → Pt) (n : Nat) : ∀ i, Sd (tD f1 f2 n i)
  | 0 => List.Pairwise.nil
  | i + 1 => tK_sd (tD_sd f1 f2 n i) n
theorem tK_len {p : Pt} {f : Nat → Pt} {M : List Pt} : ∀ k, (tK p f M k).length ≤ M.length + k
  | 0 => Nat.le_refl _
  | k + 1 => by have := tK_len (p := p) (f := f) (M := M) k; have := tnL_len (padd p (f k)) (tK p f M k); show (tnL (tK p f M k) (padd p (f k))).length ≤ _; omega
theorem tD_len (f1 f2 : Nat → Pt) (n : Nat) : ∀ i, (tD f1 f2 n i).length ≤ i * n
  | 0 => Nat.zero_le _
  | i + 1 => by
    have h1 := tD_len f1 f2 n i
    have h2 := tK_len (p := f1 i) (f := f2) (M := tD f1 f2 n i) n
    show (tK (f1 i) f2 (tD f1 f2 n i) n).length ≤ (i + 1) * n
    rw [Nat.succ_mul]
    omega
theorem tK_par {p q : Pt} {f : Nat → Pt} {M : List Pt} (h : Sd M) : ∀ k, decide (q ∈ tK p f M k) = Bool.xor (decide (q ∈ M)) (od1 p f k q)
  | 0 => by show _ = Bool.xor _ false; rw [Bool.xor_false]; rfl
  | k + 1 => by
    show decide (q ∈ tnL (tK p f M k) (padd p (f k))) = Bool.xor _ (Bool.xor (od1 p f k q) (decide (q = padd p (f k))))
    rw [tnL_flip _ q (tK_sd h k), tK_par h k]
    cases decide (q ∈ M) <;> cases od1 p f k q <;> cases decide (q = padd p (f k)) <;> rfl
theorem tD_par (f1 f2 : Nat → Pt) (n : Nat) (q : Pt) : ∀ i, decide (q ∈ tD f1 f2 n i) = odS (psL f1 i) f2 n q
  | 0 => by rfl
  | i + 1 => by
    rw [psL_succ, odS_snoc, ← tD_par f1 f2 n q i]
    exact tK_par (tD_sd f1 f2 n i) n
def tmE (f1 : Nat → Pt) (n1 : Nat) (f2 : Nat → Pt) (n2 : Nat) : Int := if orL [ckO f1 n1 1099511627776, ckO f2 n2 1099511627776] ≠ 0 then orL [ckO f1 n1 1099511627776, ckO f2 n2 1099511627776] else if lsW 1099511627776 (tD f1 f2 n2 n1) = true then 0 else 5
def tmV (f1 : Nat → Pt) (n1 : Nat) (f2 : Nat → Pt) (n2 : Nat) : List Pt := if tmE f1 n1 f2 n2 = 0 then tD f1 f2 n2 n1 else []
theorem orL2 {a b : Int} : orL [a, b] = 0 ↔ a = 0 ∧ b = 0 := by
  simp only [orL]
  by_cases h : a = 0
  · rw [if_pos h]
    by_cases h2 : b = 0
    · rw [if_pos h2]; simp [h, h2]
    · rw [if_neg h2]; simp [h]
  · rw [if_neg h]; simp [h]
theorem own_nil0 {w : World} {base : Nat} {D : List Pt} (h : D = []) : w.ownsRow base 40 2 (.slice none 0 0) D.length (fl D) := by subst h; exact World.ownsRow_nil _ _ _ _
/-- The program's. -/
theorem timesG (s1 s2 : Option Addr) (n1 c1 n2 c2 : Nat) (f1 f2 : Nat → Pt) (hf1 : ∀ k, k < n1 → PtOk (f1 k)) (hf2 : ∀ k, k < n2 → PtOk (f2 k)) (hn1 : n1 < 1073741824) (hn2 : n2 < 1073741824) (w : World) (h1 : Pl w s1 n1 f1) (h2 : Pl w s2 n2 f2) :
    Calls Tryz.prog 19 #[.slice s1 n1 c1, .slice s2 n2 c2] w fun e w' => ∃ v, e = .returned (.tuple #[v, .int .i64 (tmE f1 n1 f2 n2)]) ∧ w'.ownsRow w.heap.size 40 2 v (tmV f1 n1 f2 n2).length (fl (tmV f1 n1 f2 n2)) ∧ w.grownBy w' none := by
  by_cases hE : orL [ckO f1 n1 1099511627776, ckO f2 n2 1099511627776] = 0
  · obtain ⟨e1, e2⟩ := orL2.1 hE
    obtain ⟨_, _, ht⟩ := ckO_zero e1
    refine (timesY s1 s2 n1 c1 n2 c2 f1 f2 hn1 hn2 w h1 h2 e1 e2).mono ?_
    rintro e w' ⟨hg, T, hT, _, hh⟩
    have hs : srt T = tD f1 f2 n2 n1 := srt_doc ht hT (tD_sd _ _ _ _) (fun q => tD_par f1 f2 n2 q n1)
    have hl : T.length = (tD f1 f2 n2 n1).length := by rw [← srt_len T, hs]
    rw [hs] at hh
    rcases hh with ⟨h1, he⟩ | ⟨h1, g, cap, he, own⟩
    · have hm : tmE f1 n1 f2 n2 = 5 := by unfold tmE; rw [if_neg (by rw [hE]; simp), if_neg (by rw [h1]; simp)]
      refine ⟨_, by rw [hm]; exact he, own_nil0 (by unfold tmV; rw [hm, if_neg (by omega)]), hg⟩
    · have hm : tmE f1 n1 f2 n2 = 0 := by unfold tmE; rw [if_neg (by rw [hE]; simp), if_pos h1]
      have hv : tmV f1 n1 f2 n2 = tD f1 f2 n2 n1 := by unfold tmV; rw [if_pos hm]
      rw [hl] at he own
      exact ⟨_, by rw [hm]; exact he, by rw [hv]; exact own, hg⟩
  · refine (timesN s1 s2 n1 c1 n2 c2 f1 f2 hf1 hf2 hn1 hn2 w h1 h2 hE).mono ?_
    rintro e w' ⟨he, hg⟩
    have hm : tmE f1 n1 f2 n2 = orL [ckO f1 n1 1099511627776, ckO f2 n2 1099511627776] := by unfold tmE; rw [if_pos hE]
    exact ⟨_, by rw [hm]; exact he, own_nil0 (by unfold tmV; rw [hm, if_neg hE]), hg⟩
end Ln
end Go.Proofs.YtbmpiddjakdebaaGreat
