/- Lists by rows: plain. -/
import Derived.Test.YtijjbejilpglnaaGreatN37
import Derived.Test.YtijjbejilpglnaaGreatN38
namespace Go.Proofs.YtijjbejilpglnaaGreat
open Go.RowKit
set_option linter.unusedVariables false
set_option linter.unusedSimpArgs false
set_option maxRecDepth 100000

namespace Ln
theorem ahB_is (x y : Pt) : ahB x y = true ↔ x.2 < y.2 ∨ (x.2 = y.2 ∧ x.1 < y.1) := by unfold ahB; simp
/-- By rows, none twice. -/
def Sd (L : List Pt) : Prop := L.Pairwise (fun x y => ahB x y = true)
theorem Sd.nodup {L : List Pt} (h : Sd L) : L.Nodup := h.imp (fun {x y} hxy e => by
  subst e
  rw [ahB_is] at hxy
  omega)
theorem tnL_mem {p q : Pt} : ∀ {L : List Pt}, q ∈ tnL L p → q ∈ L ∨ q = p
  | [], h => by
    have : q = p := by simpa [tnL] using h
    exact .inr this
  | r :: L, h => by
    unfold tnL at h
    split at h
    · rcases List.mem_cons.1 h with h | h
      · exact .inl (by rw [h]; exact List.mem_cons_self)
      · exact (tnL_mem h).imp (List.mem_cons_of_mem _) id
    · split at h
      · exact .inl (List.mem_cons_of_mem _ h)
      · rcases List.mem_cons.1 h with h | h
        · exact .inr h
        · exact .inl h
theorem tnL_sd {p : Pt} : ∀ {L : List Pt}, Sd L → Sd (tnL L p)
  | [], _ => List.pairwise_singleton _ _
  | r :: L, h => by
    obtain ⟨h1, h2⟩ := List.pairwise_cons.1 h
    unfold tnL
    split
    · rename_i hr
      refine List.pairwise_cons.2 ⟨fun y hy => ?_, tnL_sd h2⟩
      rcases tnL_mem hy with hy | hy
      · exact h1 y hy
      · rw [hy]; exact hr
    · rename_i hr
      split
      · exact h2
      · rename_i hp
        have hpr : ahB p r = true := by
          rw [ahB_is]
          have hr' : ¬ (r.2 < p.2 ∨ (r.2 = p.2 ∧ r.1 < p.1)) := fun e => hr ((ahB_is r p).2 e)
          have hp' : ¬ (r.1 = p.1 ∧ r.2 = p.2) := fun e => hp (Prod.ext e.1 e.2)
          omega
        refine List.pairwise_cons.2 ⟨fun y hy => ?_, h⟩
        rcases List.mem_cons.1 hy with hy | hy
        · rw [hy]; exact hpr
        · have := h1 y hy
          rw [ahB_is] at this hpr ⊢
          omega
theorem parC_tnL (F : Int → Bool) (p : Pt) : ∀ L : List Pt, parC F (tnL L p) = Bool.xor (parC F L) (F p.1)
  | [] => by unfold tnL; rw [parC_cons, parC_nil]; cases F p.1 <;> rfl
  | r :: L => by
    unfold tnL
    split
    · rw [parC_cons, parC_cons, parC_tnL F p L]
      cases F r.1 <;> cases parC F L <;> cases F p.1 <;> rfl
    · split
      · rename_i h
        rw [parC_cons, h]
        cases F p.1 <;> cases parC F L <;> rfl
      · rw [parC_cons, parC_cons]
        cases F r.1 <;> cases parC F L <;> cases F p.1 <;> rfl
/-- On the line, within a window. -/
structure Wi (C : List Pt) (lo hi : Int) : Prop where
  sd : Sd C
  on : ∀ p ∈ C, p.2 = 0 ∧ lo ≤ p.1 ∧ p.1 ≤ hi
theorem Wi.len {C : List Pt} {lo hi : Int} (h : Wi C lo hi) : C.length ≤ (hi - lo + 1).toNat := by
  have := len_sub C ((List.range (hi - lo + 1).toNat).map (fun i : Nat => ((lo + (i : Int), 0) : Pt))) h.sd.nodup (fun q hq => by
    obtain ⟨h1, h2, h3⟩ := h.on q hq
    refine List.mem_map.2 ⟨(q.1 - lo).toNat, List.mem_range.2 (by omega), ?_⟩
    obtain ⟨a, b⟩ := q
    simp only at h1 h2 h3 ⊢
    rw [h1, Int.toNat_of_nonneg (by omega)]
    congr 1
    omega)
  simpa using this
theorem Wi.turned {C : List Pt} {lo hi : Int} (h : Wi C lo hi) {x : Int} (hx : lo ≤ x ∧ x ≤ hi) : Wi (tnL C (x, 0)) lo hi := ⟨tnL_sd h.sd, fun p hp => by
  rcases tnL_mem hp with hp | hp
  · exact h.on p hp
  · subst hp; exact ⟨rfl, hx⟩⟩
/-- The even ones, halved. -/
def hfL (C : List Pt) : List Pt := (C.filter (fun p => decide (p.1 % 2 = 0))).map (fun p => (p.1 / 2, 0))
theorem hfL_snoc (C : List Pt) (p : Pt) : hfL (C ++ [p]) = hfL C ++ (if p.1 % 2 = 0 then [(p.1 / 2, 0)] else []) := by
  unfold hfL
  rw [List.filter_append, List.map_append]
  congr 1
  by_cases h : p.1 % 2 = 0 <;> simp [h]
theorem hfL_len (C : List Pt) : (hfL C).length ≤ C.length := by
  unfold hfL
  rw [List.length_map]
  exact List.length_filter_le _ _
theorem hfL_cons (p : Pt) (C : List Pt) : hfL (p :: C) = (if p.1 % 2 = 0 then [(p.1 / 2, 0)] else []) ++ hfL C := by
  unfold hfL
  by_cases h : p.1 % 2 = 0 <;> simp [h]
theorem hfL_mem {C : List Pt} {q : Pt} (h : q ∈ hfL C) : ∃ p ∈ C, p.1 % 2 = 0 ∧ q = (p.1 / 2, 0) := by
  unfold hfL at h
  obtain ⟨p, hp, rfl⟩ := List.mem_map.1 h
  obtain ⟨h1, h2⟩ := List.mem_filter.1 hp
  exact ⟨p, h1, by simpa using h2, rfl⟩
theorem hfL_sd : ∀ {C : List Pt}, (∀ p ∈ C, p.2 = 0) → Sd C → Sd (hfL C)
  | [], _, _ => List.Pairwise.nil
  | p :: C, h0, h => by
    obtain ⟨h1, h2⟩ := List.pairwise_cons.1 h
    have ih := hfL_sd (fun q hq => h0 q (List.mem_cons_of_mem _ hq)) h2
    rw [hfL_cons]
    by_cases hp : p.1 % 2 = 0
    · rw [if_pos hp]
      refine List.pairwise_cons.2 ⟨fun y hy => ?_, ih⟩
      obtain ⟨q, hq, he, rfl⟩ := hfL_mem hy
      have := h1 q hq
      have e1 := h0 p List.mem_cons_self
      have e2 := h0 q (List.mem_cons_of_mem _ hq)
      rw [ahB_is] at this ⊢
      refine .inr ⟨rfl, ?_⟩
      show p.1 / 2 < q.1 / 2
      omega
    · rw [if_neg hp]
      exact ih
theorem Wi.half {C : List Pt} {lo hi lo' hi' : Int} (h : Wi C lo hi) (h1 : lo' = lo / 2) (h2 : hi / 2 ≤ hi') : Wi (hfL C) lo' hi' := ⟨hfL_sd (fun p hp => (h.on p hp).1) h.sd, fun q hq => by
  obtain ⟨p, hp, he, rfl⟩ := hfL_mem hq
  obtain ⟨a, b, c⟩ := h.on p hp
  refine ⟨rfl, ?_, ?_⟩
  · show lo' ≤ p.1 / 2
    omega
  · show p.1 / 2 ≤ hi'
    omega⟩
theorem parC_half (F : Int → Bool) : ∀ C : List Pt, parC F (hfL C) = parC (fun x => decide (x % 2 = 0) && F (x / 2)) C
  | [] => rfl
  | p :: C => by
    rw [hfL_cons, parC_app, parC_cons, parC_half F C]
    by_cases hp : p.1 % 2 = 0
    · rw [if_pos hp, decide_eq_true hp, parC_cons, parC_nil]
      cases F (p.1 / 2) <;> cases parC (fun x => decide (x % 2 = 0) && F (x / 2)) C <;> rfl
    · rw [if_neg hp, decide_eq_false hp, parC_nil]
      cases parC (fun x => decide (x % 2 = 0) && F (x / 2)) C <;> rfl
theorem parC_congr {F G : Int → Bool} (h : ∀ x, F x = G x) (C : List Pt) : parC F C = parC G C := by rw [funext h]
theorem parC_no {C : List Pt} (h : ∀ p ∈ C, p.1 ≠ 0) : parC oneA C = false := by
  induction C with
  | nil => rfl
  | cons p C ih =>
    rw [parC_cons, ih (fun q hq => h q (List.mem_cons_of_mem _ hq))]
    have : oneA p.1 = false := by unfold oneA; exact decide_eq_false (h p List.mem_cons_self)
    rw [this]; rfl
theorem parC_yes : ∀ {C : List Pt}, C.Nodup → (∀ p ∈ C, p.2 = 0) → (0, 0) ∈ C → parC oneA C = true
  | [], _, _, h => by cases h
  | p :: C, hn, h0, h => by
    obtain ⟨n1, n2⟩ := List.nodup_cons.1 hn
    rw [parC_cons]
    by_cases e : p = (0, 0)
    · have hno : ∀ q ∈ C, q.1 ≠ 0 := fun q hq e2 => n1 (by
        have : q = p := by rw [e]; exact Prod.ext e2 (h0 q (List.mem_cons_of_mem _ hq))
        rw [← this]; exact hq)
      rw [parC_no hno, e]
      decide
    · have hm : (0, 0) ∈ C := (List.mem_cons.1 h).resolve_left (fun h' => e h'.symm)
      rw [parC_yes n2 (fun q hq => h0 q (List.mem_cons_of_mem _ hq)) hm]
      have : oneA p.1 = false := by
        unfold oneA
        exact decide_eq_false (fun e2 => e (Prod.ext e2 (h0 p List.mem_cons_self)))
      rw [this]; rfl
end Ln
end Go.Proofs.YtijjbejilpglnaaGreat
