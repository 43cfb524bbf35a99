/- Plain facts: the living cells in their order, the box about them, how many they are. -/
import Derived.Test.YtbiilklihieomaaZ12
import Derived.Test.YtbiilklihieomaaZ18
namespace Go.Proofs.Ytbiilklihieomaa
set_option linter.unusedVariables false
set_option linter.unusedSimpArgs false

theorem cnt_liv (f : Nat → Nat) : ∀ C, (liv f C).length = cnt f C
  | 0 => rfl
  | C + 1 => by
    by_cases h : f C = 0
    · rw [liv_no h, cnt, cnt_liv f C, if_pos h]; rfl
    · rw [liv_yes h, cnt, List.length_append, cnt_liv f C, if_neg h]; rfl
theorem pop_livc (g : Nat → Nat) (C : Nat) : ∀ k, (livc g C k).length = popN g C k
  | 0 => rfl
  | k + 1 => by rw [livc, popN, List.length_append, List.length_map, cnt_liv, pop_livc g C k]
theorem liv_mem {f : Nat → Nat} {C x : Nat} : x ∈ liv f C ↔ x < C ∧ f x ≠ 0 := by
  unfold liv
  rw [List.mem_filter, List.mem_range]
  simp
theorem livc_mem {g : Nat → Nat} {C : Nat} : ∀ {k : Nat} {p : Nat × Nat}, p ∈ livc g C k ↔ p.2 < k ∧ p.1 < C ∧ g (p.2 * C + p.1) ≠ 0
  | 0, p => by simp [livc]
  | k + 1, p => by
    rw [livc, List.mem_append, livc_mem, List.mem_map]
    constructor
    · rintro (⟨h1, h2, h3⟩ | ⟨x, hx, rfl⟩)
      · exact ⟨by omega, h2, h3⟩
      · have := liv_mem.1 hx
        exact ⟨Nat.lt_succ_self _, this.1, this.2⟩
    · rintro ⟨h1, h2, h3⟩
      by_cases e : p.2 = k
      · refine .inr ⟨p.1, liv_mem.2 ⟨h2, by rw [← e]; exact h3⟩, by rw [← e]⟩
      · exact .inl ⟨by omega, h2, h3⟩
theorem liv_sorted (f : Nat → Nat) (C : Nat) : (liv f C).Pairwise (· < ·) := List.Pairwise.filter _ List.pairwise_lt_range
/-- Row by row, each from the left. -/
def lexL (p q : Nat × Nat) : Prop := p.2 < q.2 ∨ p.2 = q.2 ∧ p.1 < q.1
theorem livc_sorted (g : Nat → Nat) (C : Nat) : ∀ k, (livc g C k).Pairwise lexL
  | 0 => List.Pairwise.nil
  | k + 1 => by
    rw [livc, List.pairwise_append]
    refine ⟨livc_sorted g C k, ?_, fun p hp q hq => ?_⟩
    · rw [List.pairwise_map]
      exact (liv_sorted _ C).imp (fun h => .inr ⟨rfl, h⟩)
    · obtain ⟨x, _, rfl⟩ := List.mem_map.1 hq
      exact .inl (livc_mem.1 hp).1
theorem liv_head {f : Nat → Nat} {C : Nat} (h : (liv f C).isEmpty ≠ true) : (liv f C).headD 0 ∈ liv f C ∧ (∀ x ∈ liv f C, (liv f C).headD 0 ≤ x) ∧ (liv f C).getLastD 0 ∈ liv f C ∧ (∀ x ∈ liv f C, x ≤ (liv f C).getLastD 0) := by
  have hs := liv_sorted f C
  cases e : liv f C with
  | nil => rw [e] at h; exact absurd rfl h
  | cons a l =>
    rw [e] at hs
    have hp := List.pairwise_cons.1 hs
    have hl : (a :: l).getLastD 0 = (a :: l).getLast (by simp) := by rw [List.getLastD_eq_getLast?, List.getLast?_eq_some_getLast (by simp)]; rfl
    refine ⟨List.mem_cons_self .., fun x hx => ?_, by rw [hl]; exact List.getLast_mem _, fun x hx => ?_⟩
    · show a ≤ x
      rcases List.mem_cons.1 hx with rfl | hx
      · exact Nat.le_refl _
      · exact Nat.le_of_lt (hp.1 x hx)
    · rw [hl]
      have hd : (a :: l) = (a :: l).dropLast ++ [(a :: l).getLast (by simp)] := (List.dropLast_concat_getLast (by simp)).symm
      rw [hd] at hx
      rcases List.mem_append.1 hx with hx | hx
      · have hs2 := hs
        rw [hd, List.pairwise_append] at hs2
        exact Nat.le_of_lt (hs2.2.2 x hx _ (List.mem_singleton.2 rfl))
      · rw [List.mem_singleton.1 hx]
        exact Nat.le_refl _
/-- The edges are those of the cells. -/
structure Ebs (L : List (Nat × Nat)) (e : Eg) : Prop where
  ins : ∀ p ∈ L, e.l ≤ p.1 ∧ (p.1 : Int) ≤ e.r ∧ e.t ≤ p.2 ∧ (p.2 : Int) ≤ e.b
  l : ∃ p ∈ L, (p.1 : Int) = e.l
  r : ∃ p ∈ L, (p.1 : Int) = e.r
  t : ∃ p ∈ L, (p.2 : Int) = e.t
  b : ∃ p ∈ L, (p.2 : Int) = e.b
theorem bx_is (g : Nat → Nat) (C R : Nat) : ∀ k, k ≤ R → (livc g C k = [] ∧ bx g C R k = ⟨C, -1, R, -1⟩) ∨ (livc g C k ≠ [] ∧ Ebs (livc g C k) (bx g C R k))
  | 0, _ => .inl ⟨rfl, rfl⟩
  | k + 1, hk => by
    have ih := bx_is g C R k (by omega)
    by_cases he : (liv (fun x => g (k * C + x)) C).isEmpty = true
    · have hl : liv (fun x => g (k * C + x)) C = [] := by simpa using he
      rw [livc, bx, if_pos he, hl]
      simpa using ih
    · obtain ⟨h1, h2, h3, h4⟩ := liv_head he
      have hne : livc g C (k + 1) ≠ [] := by
        rw [livc]
        intro e
        have := (List.append_eq_nil_iff.1 e).2
        rw [List.map_eq_nil_iff] at this
        rw [this] at h1
        cases h1
      refine .inr ⟨hne, ?_⟩
      have m1 : ((liv (fun x => g (k * C + x)) C).headD 0, k) ∈ livc g C (k + 1) := by rw [livc]; exact List.mem_append.2 (.inr (List.mem_map.2 ⟨_, h1, rfl⟩))
      have m2 : ((liv (fun x => g (k * C + x)) C).getLastD 0, k) ∈ livc g C (k + 1) := by rw [livc]; exact List.mem_append.2 (.inr (List.mem_map.2 ⟨_, h3, rfl⟩))
      have hd1 := (liv_mem.1 h1).1
      have hd2 := (liv_mem.1 h3).1
      rw [bx, if_neg he]
      generalize (liv (fun x => g (k * C + x)) C).headD 0 = hd at *
      generalize (liv (fun x => g (k * C + x)) C).getLastD 0 = la at *
      have hold : ∀ p ∈ livc g C k, p ∈ livc g C (k + 1) := fun p hp => by rw [livc]; exact List.mem_append.2 (.inl hp)
      have hnew : ∀ p ∈ livc g C (k + 1), p ∈ livc g C k ∨ (p.2 = k ∧ hd ≤ p.1 ∧ p.1 ≤ la) := fun p hp => by
        rw [livc] at hp
        rcases List.mem_append.1 hp with hp | hp
        · exact .inl hp
        · obtain ⟨x, hx, rfl⟩ := List.mem_map.1 hp
          exact .inr ⟨rfl, h2 x hx, h4 x hx⟩
      rcases ih with ⟨e1, e2⟩ | ⟨e1, e2⟩
      · rw [e2]
        have hin : ∀ p ∈ livc g C (k + 1), p.2 = k ∧ hd ≤ p.1 ∧ p.1 ≤ la := fun p hp => by
          rcases hnew p hp with h | h
          · rw [e1] at h; cases h
          · exact h
        refine ⟨fun p hp => ?_, ⟨_, m1, ?_⟩, ⟨_, m2, ?_⟩, ⟨_, m1, ?_⟩, ⟨_, m1, rfl⟩⟩
        · have := hin p hp
          show min (C : Int) hd ≤ p.1 ∧ (p.1 : Int) ≤ max (-1 : Int) la ∧ min (R : Int) k ≤ p.2 ∧ (p.2 : Int) ≤ k
          omega
        · show (hd : Int) = min (C : Int) hd
          omega
        · show (la : Int) = max (-1 : Int) la
          omega
        · show (k : Int) = min (R : Int) k
          omega
      · obtain ⟨i1, ⟨pl, ml, el⟩, ⟨pr, mr, er⟩, ⟨pt, mt, et⟩, ⟨pb, mb, eb⟩⟩ := e2
        have hlt : ∀ p ∈ livc g C k, p.2 < k := fun p hp => (livc_mem.1 hp).1
        refine ⟨fun p hp => ?_, ?_, ?_, ⟨pt, hold _ mt, ?_⟩, ⟨_, m1, rfl⟩⟩
        · show min (bx g C R k).l hd ≤ p.1 ∧ (p.1 : Int) ≤ max (bx g C R k).r la ∧ min (bx g C R k).t k ≤ p.2 ∧ (p.2 : Int) ≤ k
          rcases hnew p hp with h | h
          · have := i1 p h
            have := hlt p h
            omega
          · omega
        · show ∃ p ∈ livc g C (k + 1), (p.1 : Int) = min (bx g C R k).l hd
          by_cases hc : (bx g C R k).l ≤ hd
          · exact ⟨pl, hold _ ml, by omega⟩
          · exact ⟨_, m1, by show (hd : Int) = _; omega⟩
        · show ∃ p ∈ livc g C (k + 1), (p.1 : Int) = max (bx g C R k).r la
          by_cases hc : la ≤ (bx g C R k).r
          · exact ⟨pr, hold _ mr, by omega⟩
          · exact ⟨_, m2, by show (la : Int) = _; omega⟩
        · show (pt.2 : Int) = min (bx g C R k).t k
          have := hlt pt mt
          omega
end Go.Proofs.Ytbiilklihieomaa
