/- States of places; what is wrong with cells and a rectangle; a map of states in memory. -/
import Derived.Test.YtjacoifhjfipaaaN1
import Derived.Test.YtjacoifhjfipaaaCl
namespace Go.Proofs.Ytjacoifhjfipaaa
open Go.RowKit Ln
set_option linter.unusedVariables false
set_option linter.unusedSimpArgs false

/-- The state at a place. -/
def stA : List Cx → Int → Int → Nat
  | [], _, _ => 0
  | c :: l, x, y => if c.2.2 ≠ 0 ∧ c.1 = x ∧ c.2.1 = y then c.2.2 else stA l x y
theorem stA_app (l k : List Cx) (x y : Int) : stA (l ++ k) x y = if stA l x y ≠ 0 then stA l x y else stA k x y := by
  induction l with
  | nil => simp [stA]
  | cons c l ih =>
    show (if c.2.2 ≠ 0 ∧ c.1 = x ∧ c.2.1 = y then c.2.2 else stA (l ++ k) x y) = if (if c.2.2 ≠ 0 ∧ c.1 = x ∧ c.2.1 = y then c.2.2 else stA l x y) ≠ 0 then _ else _
    by_cases h : c.2.2 ≠ 0 ∧ c.1 = x ∧ c.2.1 = y
    · rw [if_pos h, if_pos h, if_pos h.1]
      show _ = if c.2.2 ≠ 0 ∧ c.1 = x ∧ c.2.1 = y then c.2.2 else stA l x y
      rw [if_pos h]
    · rw [if_neg h, if_neg h, ih]
      show _ = if _ then (if c.2.2 ≠ 0 ∧ c.1 = x ∧ c.2.1 = y then c.2.2 else stA l x y) else _
      rw [if_neg h]
theorem stA_lt {l : List Cx} (h : ∀ c ∈ l, c.2.2 < 256) (x y : Int) : stA l x y < 256 := by
  induction l with
  | nil => exact Nat.zero_lt_succ _
  | cons c l ih =>
    show (if c.2.2 ≠ 0 ∧ c.1 = x ∧ c.2.1 = y then c.2.2 else stA l x y) < 256
    split
    · exact h c (List.mem_cons_self ..)
    · exact ih (fun d hd => h d (List.mem_cons_of_mem _ hd))
def farB (n : Int) : Bool := decide (n < -1099511627776 ∨ 1099511627776 < n)
def farC (c : Cx) : Bool := decide (c.2.2 ≠ 0) && (farB c.1 || farB c.2.1)
def farA (l : List Cx) : Bool := l.any farC
/-- Do two cells that live have one place? -/
def mnA : List Cx → List Cx → Bool
  | _, [] => false
  | pre, c :: r => (decide (c.2.2 ≠ 0) && decide (stA pre c.1 c.2.1 ≠ 0)) || mnA (pre ++ [c]) r
def sideB (n : Int) : Bool := decide (0 ≤ n ∧ n ≤ 65536)
/-- What is wrong with cells and a rectangle. -/
def lkE (l : List Cx) (X Y V H : Int) : Int := if farA l then 5 else if mnA [] l then 6 else if !(sideB V) || !(sideB H) then 231 else if farB X || farB Y then 5 else 0
theorem take_succ {α : Type} (l : List α) (k : Nat) (hk : k < l.length) : l.take (k + 1) = l.take k ++ [l[k]] := by
  rw [List.take_add_one, List.getElem?_eq_getElem hk]; rfl
theorem drop_cons {α : Type} (l : List α) (k : Nat) (hk : k < l.length) : l.drop k = l[k] :: l.drop (k + 1) := List.drop_eq_getElem_cons hk
theorem farA_snoc (l : List Cx) (c : Cx) : farA (l ++ [c]) = (farA l || farC c) := by unfold farA; simp
theorem mn_step (l : List Cx) (k : Nat) (hk : k < l.length) : mnA (l.take k) (l.drop k) = ((decide (l[k].2.2 ≠ 0) && decide (stA (l.take k) l[k].1 l[k].2.1 ≠ 0)) || mnA (l.take (k + 1)) (l.drop (k + 1))) := by
  rw [drop_cons l k hk, take_succ l k hk]; rfl
def CxOk (c : Cx) : Prop := PtOk (c.1, c.2.1) ∧ c.2.2 < 256
abbrev z8 : DataW Unit := .lit (.int .u8 0)
/-- The map of block b has the states of the cells l. -/
def Mp (w : World) (b : Nat) (l : List Cx) : Prop := ∃ D : DataW Unit, w.ownsMap Try.prog 76 (plainElem Try.prog 5) b l.length D ∧ ∀ p, PtOk p → Maps.has D (pk p) = decide (stA l p.1 p.2 ≠ 0) ∧ D.atKey (pk p) z8 = .lit (.int .u8 (stA l p.1 p.2 : Nat))
theorem Mp.kept {w w' : World} {b : Nat} {l : List Cx} {r : Option Nat} (h : Mp w b l) (hg : w.grownBy w' r) (hne : some b ≠ r) : Mp w' b l := by
  obtain ⟨D, h1, h2⟩ := h
  exact ⟨D, h1.kept hg hne, h2⟩
theorem Mp.lt {w : World} {b : Nat} {l : List Cx} (h : Mp w b l) : b < w.heap.size := by
  obtain ⟨D, h1, h2⟩ := h
  exact h1.lt
theorem Mp.made (w : World) : Mp (w.alloc (.map #[] 0)) w.heap.size [] := ⟨.map [], World.ownsMap_made _ _ _ _, fun p _ => ⟨rfl, rfl⟩⟩
theorem om_mono {w : World} {b n m : Nat} {D : DataW Unit} (h : w.ownsMap Try.prog 76 (plainElem Try.prog 5) b n D) (hm : n ≤ m) : w.ownsMap Try.prog 76 (plainElem Try.prog 5) b m D := by
  obtain ⟨es, clock, h1, h2, h3, h4⟩ := h
  exact ⟨es, clock, h1, h2, Nat.le_trans h3 hm, h4⟩
theorem Mp.skip {w : World} {b : Nat} {l : List Cx} {c : Cx} (h : Mp w b l) (hc : c.2.2 = 0) : Mp w b (l ++ [c]) := by
  obtain ⟨D, h1, h2⟩ := h
  have e : ∀ x y, stA (l ++ [c]) x y = stA l x y := fun x y => by
    rw [stA_app]
    split
    · rfl
    · rename_i h0
      have : stA [c] x y = 0 := by show (if c.2.2 ≠ 0 ∧ _ then _ else 0) = 0; rw [if_neg (fun hh => hh.1 hc)]
      omega
  exact ⟨D, om_mono h1 (by rw [List.length_append]; simp), fun p hp => by rw [e]; exact h2 p hp⟩
theorem wf8 {n : Nat} (h : n < 256) : (Lit.int .u8 (n : Int)).wf = true := by simp [Lit.wf, IntKind.min, IntKind.max, IntKind.signed, IntKind.bits]; omega
theorem put_is {w : World} {b : Nat} {l : List Cx} {c : Cx} {D : DataW Unit} (hc : CxOk c) (h0 : c.2.2 ≠ 0) (hn : stA l c.1 c.2.1 = 0) (hm : Maps.IsMap D)
    (h2 : ∀ p, PtOk p → Maps.has D (pk p) = decide (stA l p.1 p.2 ≠ 0) ∧ D.atKey (pk p) z8 = .lit (.int .u8 (stA l p.1 p.2 : Nat)))
    (own : w.ownsMap Try.prog 76 (plainElem Try.prog 5) b (l.length + 1) (D.put (pk (c.1, c.2.1)) (.lit (.int .u8 (c.2.2 : Nat))))) : Mp w b (l ++ [c]) := by
  refine ⟨_, by rw [List.length_append]; exact own, fun p hp => ?_⟩
  rw [stA_app]
  by_cases e : p = (c.1, c.2.1)
  · subst e
    have hs : stA [c] c.1 c.2.1 = c.2.2 := by show (if c.2.2 ≠ 0 ∧ c.1 = c.1 ∧ c.2.1 = c.2.1 then c.2.2 else 0) = _; rw [if_pos ⟨h0, rfl, rfl⟩]
    rw [Maps.has_put_same hm (lawK.key hp.key), Maps.atKey_put_same hm (lawK.key hp.key)]
    show true = decide ((if stA l c.1 c.2.1 ≠ 0 then stA l c.1 c.2.1 else stA [c] c.1 c.2.1) ≠ 0) ∧ _ = DataW.lit (.int .u8 ((if stA l c.1 c.2.1 ≠ 0 then stA l c.1 c.2.1 else stA [c] c.1 c.2.1 : Nat) : Int))
    rw [if_neg (by omega), hs, decide_eq_true h0]
    exact ⟨rfl, rfl⟩
  · have ek : pk p ≠ pk (c.1, c.2.1) := fun h => e (pk_inj hp hc.1 h)
    have hs : stA [c] p.1 p.2 = 0 := by
      show (if c.2.2 ≠ 0 ∧ c.1 = p.1 ∧ c.2.1 = p.2 then c.2.2 else 0) = 0
      rw [if_neg (fun hh => e (Prod.ext hh.2.1.symm hh.2.2.symm))]
    rw [Maps.has_put_other ek, Maps.atKey_put_other ek]
    have h3 := h2 p hp
    by_cases h4 : stA l p.1 p.2 ≠ 0
    · rw [if_pos h4]; exact h3
    · rw [if_neg h4, hs]
      have h5 : stA l p.1 p.2 = 0 := by omega
      rw [h5] at h3
      exact h3
end Go.Proofs.Ytjacoifhjfipaaa
