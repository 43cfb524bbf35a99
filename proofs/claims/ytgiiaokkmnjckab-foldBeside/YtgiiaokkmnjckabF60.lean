/- Who is beside whom on a grid of sides up to 6: as often one is beside another, as often is that one beside it. Nothing of the program in it. -/
import Derived.Test.YtgiiaokkmnjckabFo
namespace Go.Proofs.Ytgiiaokkmnjckab
namespace Bs
open Fo
set_option linter.unusedVariables false
set_option maxRecDepth 100000

/-- What the place (u, v) of the grid and its ring is, in home numbers. -/
def inB (x y u v : Int) : Bool := decide (0 ≤ u) && (decide (u < x) && (decide (0 ≤ v) && decide (v < y)))
def clp (n lo hi : Int) : Int := if n < lo then lo else if hi < n then hi else n
def tu (k x y t z u v : Int) : Int := if inB x y u v then u else if k = 5 then clp v 0 (y - 1) else cx k x y t z u v
def tv (k x y t z u v : Int) : Int := if inB x y u v then v else if k = 5 then clp u 0 (x - 1) else cy k x y t z u v
def isB (k x y t z u v : Int) : Bool := inB x y u v || decide (k ≠ 1)
/-- The step number s (nine for each place): the place it sets out from, and where it comes to, in one number; none, if it is no step. -/
def su (x : Int) (s : Nat) : Int := ((s / 9 : Nat) : Int) % x + ((s % 9 % 3 : Nat) : Int) - 1
def sv (x : Int) (s : Nat) : Int := ((s / 9 : Nat) : Int) / x + ((s % 9 / 3 : Nat) : Int) - 1
def ed (k x y t z : Int) (s : Nat) : Option Nat := if isB k x y t z (su x s) (sv x s) && !(s % 9 == 4) then some ((x * y).toNat * (s / 9) + (tu k x y t z (su x s) (sv x s) + x * tv k x y t z (su x s) (sv x s)).toNat) else none
def tr (n e : Nat) : Nat := n * (e % n) + e / n
def sumA (k x y t z : Int) : Nat → Nat
  | 0 => 0
  | s + 1 => sumA k x y t z s + (match ed k x y t z s with | some e => 512 ^ e | none => 0)
def sumB (k x y t z : Int) : Nat → Nat
  | 0 => 0
  | s + 1 => sumB k x y t z s + (match ed k x y t z s with | some e => 512 ^ (tr (x * y).toNat e) | none => 0)
def okS (k x y t z : Int) : Bool := Nat.beq (sumA k x y t z (9 * (x * y).toNat)) (sumB k x y t z (9 * (x * y).toNat))
def tst (k x y t z : Int) : Bool := !(decide (Tp.chk k x y t z = 0)) || okS k x y t z
def allK (k : Int) (x : Nat) : Bool := (List.range 6).all fun y => (List.range 3).all fun t => (List.range 13).all fun z => tst k ((x : Int) + 1) ((y : Int) + 1) (t : Int) ((z : Int) - 6)
theorem all10 : allK 1 0 = true := by decide +kernel
theorem all11 : allK 1 1 = true := by decide +kernel
theorem all12 : allK 1 2 = true := by decide +kernel
theorem all13 : allK 1 3 = true := by decide +kernel
theorem all14 : allK 1 4 = true := by decide +kernel
theorem all15 : allK 1 5 = true := by decide +kernel
theorem all20 : allK 2 0 = true := by decide +kernel
theorem all21 : allK 2 1 = true := by decide +kernel
theorem all22 : allK 2 2 = true := by decide +kernel
theorem all23 : allK 2 3 = true := by decide +kernel
theorem all24 : allK 2 4 = true := by decide +kernel
theorem all25 : allK 2 5 = true := by decide +kernel
theorem all30 : allK 3 0 = true := by decide +kernel
theorem all31 : allK 3 1 = true := by decide +kernel
theorem all32 : allK 3 2 = true := by decide +kernel
theorem all33 : allK 3 3 = true := by decide +kernel
theorem all34 : allK 3 4 = true := by decide +kernel
theorem all35 : allK 3 5 = true := by decide +kernel
theorem all40 : allK 4 0 = true := by decide +kernel
theorem all41 : allK 4 1 = true := by decide +kernel
theorem all42 : allK 4 2 = true := by decide +kernel
theorem all43 : allK 4 3 = true := by decide +kernel
theorem all44 : allK 4 4 = true := by decide +kernel
theorem all45 : allK 4 5 = true := by decide +kernel
theorem all50 : allK 5 0 = true := by decide +kernel
theorem all51 : allK 5 1 = true := by decide +kernel
theorem all52 : allK 5 2 = true := by decide +kernel
theorem all53 : allK 5 3 = true := by decide +kernel
theorem all54 : allK 5 4 = true := by decide +kernel
theorem all55 : allK 5 5 = true := by decide +kernel
theorem all_k (k x y t z : Int) (hk : 1 ≤ k ∧ k ≤ 5) (hx : 1 ≤ x ∧ x ≤ 6) (hy : 1 ≤ y ∧ y ≤ 6) (ht : 0 ≤ t ∧ t ≤ 2) (hz : -6 ≤ z ∧ z ≤ 6) : tst k x y t z = true := by
  have key : ∀ k' : Int, ∀ x' : Nat, allK k' x' = true → x = (x' : Int) + 1 → k = k' → tst k x y t z = true := fun k' x' h e e' => by
    unfold allK at h
    rw [List.all_eq_true] at h
    have h1 := h (y - 1).toNat (List.mem_range.2 (by omega))
    rw [List.all_eq_true] at h1
    have h2 := h1 t.toNat (List.mem_range.2 (by omega))
    rw [List.all_eq_true] at h2
    have h3 := h2 (z + 6).toNat (List.mem_range.2 (by omega))
    have e1 : ((y - 1).toNat : Int) + 1 = y := by omega
    have e2 : (t.toNat : Int) = t := by omega
    have e3 : ((z + 6).toNat : Int) - 6 = z := by omega
    rw [e1, e2, e3, ← e, ← e'] at h3
    exact h3
  have hx' : x = 1 ∨ x = 2 ∨ x = 3 ∨ x = 4 ∨ x = 5 ∨ x = 6 := by omega
  have hk' : k = 1 ∨ k = 2 ∨ k = 3 ∨ k = 4 ∨ k = 5 := by omega
  rcases hk' with e | e | e | e | e
  · rcases hx' with q | q | q | q | q | q
    · exact key 1 0 all10 (by omega) e
    · exact key 1 1 all11 (by omega) e
    · exact key 1 2 all12 (by omega) e
    · exact key 1 3 all13 (by omega) e
    · exact key 1 4 all14 (by omega) e
    · exact key 1 5 all15 (by omega) e
  · rcases hx' with q | q | q | q | q | q
    · exact key 2 0 all20 (by omega) e
    · exact key 2 1 all21 (by omega) e
    · exact key 2 2 all22 (by omega) e
    · exact key 2 3 all23 (by omega) e
    · exact key 2 4 all24 (by omega) e
    · exact key 2 5 all25 (by omega) e
  · rcases hx' with q | q | q | q | q | q
    · exact key 3 0 all30 (by omega) e
    · exact key 3 1 all31 (by omega) e
    · exact key 3 2 all32 (by omega) e
    · exact key 3 3 all33 (by omega) e
    · exact key 3 4 all34 (by omega) e
    · exact key 3 5 all35 (by omega) e
  · rcases hx' with q | q | q | q | q | q
    · exact key 4 0 all40 (by omega) e
    · exact key 4 1 all41 (by omega) e
    · exact key 4 2 all42 (by omega) e
    · exact key 4 3 all43 (by omega) e
    · exact key 4 4 all44 (by omega) e
    · exact key 4 5 all45 (by omega) e
  · rcases hx' with q | q | q | q | q | q
    · exact key 5 0 all50 (by omega) e
    · exact key 5 1 all51 (by omega) e
    · exact key 5 2 all52 (by omega) e
    · exact key 5 3 all53 (by omega) e
    · exact key 5 4 all54 (by omega) e
    · exact key 5 5 all55 (by omega) e
/-- A sum of powers tells how often each is there. -/
def D : List Nat → Nat
  | [] => 0
  | e :: l => 512 ^ e + D l
theorem D_app (l : List Nat) (e : Nat) : D (l ++ [e]) = D l + 512 ^ e := by
  induction l with
  | nil => simp [D]
  | cons a l ih => simp only [List.cons_append, D, ih]; omega
def dn : List Nat → List Nat
  | [] => []
  | 0 :: l => dn l
  | (e + 1) :: l => e :: dn l
theorem D_dn : ∀ l : List Nat, D l = l.count 0 + 512 * D (dn l)
  | [] => rfl
  | 0 :: l => by
    have := D_dn l
    simp only [D, dn, List.count_cons_self, Nat.pow_zero]
    omega
  | (e + 1) :: l => by
    have := D_dn l
    have h : List.count 0 ((e + 1) :: l) = List.count 0 l := List.count_cons_of_ne (by simp)
    rw [h]
    simp only [D, dn, Nat.pow_succ]
    omega
theorem cnt_dn (r : Nat) : ∀ l : List Nat, (dn l).count r = l.count (r + 1)
  | [] => rfl
  | 0 :: l => by
    have h : List.count (r + 1) (0 :: l) = List.count (r + 1) l := List.count_cons_of_ne (by simp)
    rw [h]
    exact cnt_dn r l
  | (e + 1) :: l => by
    have ih := cnt_dn r l
    simp only [dn, List.count_cons, ih]
    congr 1
    by_cases q : e = r
    · subst q; simp
    · have q1 : (e == r) = false := by simpa using q
      have q2 : (e + 1 == r + 1) = false := by simpa using q
      rw [q1, q2]
theorem len_dn : ∀ l : List Nat, (dn l).length ≤ l.length
  | [] => Nat.le_refl _
  | 0 :: l => by have := len_dn l; simp only [dn, List.length_cons]; omega
  | (e + 1) :: l => by have := len_dn l; simp only [dn, List.length_cons]; omega
theorem mem_dn {r : Nat} : ∀ l : List Nat, r ∈ dn l → r + 1 ∈ l
  | [], h => by simp [dn] at h
  | 0 :: l, h => List.mem_cons_of_mem _ (mem_dn l h)
  | (e + 1) :: l, h => by
    simp only [dn, List.mem_cons] at h
    rcases h with rfl | h
    · exact List.mem_cons_self
    · exact List.mem_cons_of_mem _ (mem_dn l h)
theorem D_count : ∀ (R : Nat) (l1 l2 : List Nat), (∀ e ∈ l1, e < R) → (∀ e ∈ l2, e < R) → l1.length < 512 → l2.length < 512 → D l1 = D l2 → ∀ r, l1.count r = l2.count r
  | 0, l1, l2, h1, h2, _, _, _, r => by
    have e1 : l1 = [] := List.eq_nil_iff_forall_not_mem.2 fun a ha => absurd (h1 a ha) (by omega)
    have e2 : l2 = [] := List.eq_nil_iff_forall_not_mem.2 fun a ha => absurd (h2 a ha) (by omega)
    rw [e1, e2]
  | R + 1, l1, l2, h1, h2, b1, b2, h, r => by
    have a1 := D_dn l1
    have a2 := D_dn l2
    have c1 : l1.count 0 ≤ l1.length := List.count_le_length
    have c2 : l2.count 0 ≤ l2.length := List.count_le_length
    have d1 := len_dn l1
    have d2 := len_dn l2
    have e0 : l1.count 0 = l2.count 0 := by omega
    have eD : D (dn l1) = D (dn l2) := by omega
    cases r with
    | zero => exact e0
    | succ r =>
      rw [← cnt_dn, ← cnt_dn]
      exact D_count R (dn l1) (dn l2) (fun e he => by have := h1 _ (mem_dn l1 he); omega) (fun e he => by have := h2 _ (mem_dn l2 he); omega) (by omega) (by omega) eD r
/-- The steps so far. -/
def El (k x y t z : Int) (s : Nat) : List Nat := (List.range s).filterMap (ed k x y t z)
theorem El_succ (k x y t z : Int) (s : Nat) : El k x y t z (s + 1) = El k x y t z s ++ (match ed k x y t z s with | some e => [e] | none => []) := by
  unfold El
  rw [List.range_succ, List.filterMap_append]
  congr 1
  cases h : ed k x y t z s <;> simp [h]
theorem sumA_is (k x y t z : Int) (s : Nat) : sumA k x y t z s = D (El k x y t z s) := by
  induction s with
  | zero => rfl
  | succ s ih =>
    rw [El_succ]
    unfold sumA
    cases h : ed k x y t z s with
    | none => simp [ih]
    | some e => simp only; rw [D_app, ih]
theorem sumB_is (k x y t z : Int) (s : Nat) : sumB k x y t z s = D ((El k x y t z s).map (tr (x * y).toNat)) := by
  induction s with
  | zero => rfl
  | succ s ih =>
    rw [El_succ, List.map_append]
    unfold sumB
    cases h : ed k x y t z s with
    | none => simp [ih]
    | some e => simp only [List.map_cons, List.map_nil]; rw [D_app, ih]
theorem tr_lt {n e : Nat} (h : e < n * n) : tr n e < n * n := by
  have hn : 0 < n := Nat.pos_of_ne_zero fun q => by subst q; simp at h
  have h1 : e % n < n := Nat.mod_lt _ hn
  have h2 : e / n < n := Nat.div_lt_of_lt_mul h
  unfold tr
  have h3 : n * (e % n) ≤ n * (n - 1) := Nat.mul_le_mul_left n (by omega)
  have h4 : n * (n - 1) + n = n * n := by
    have := Nat.mul_succ n (n - 1)
    rw [show (n - 1).succ = n by omega] at this
    omega
  omega
theorem tr_at {n i j : Nat} (hj : j < n) : tr n (n * i + j) = n * j + i := by
  unfold tr
  rw [Nat.mul_add_mod, Nat.mod_eq_of_lt hj, Nat.mul_add_div (by omega), Nat.div_eq_of_lt hj, Nat.add_zero]
theorem tr_tr {n e : Nat} (h : e < n * n) : tr n (tr n e) = e := by
  have hn : 0 < n := Nat.pos_of_ne_zero fun q => by subst q; simp at h
  have h2 : e / n < n := Nat.div_lt_of_lt_mul h
  have : tr n e = n * (e % n) + e / n := rfl
  rw [this, tr_at h2]
  exact Nat.div_add_mod e n
theorem count_tr {n : Nat} (r : Nat) (hr : r < n * n) : ∀ l : List Nat, (∀ e ∈ l, e < n * n) → (l.map (tr n)).count (tr n r) = l.count r
  | [], _ => rfl
  | e :: l, h => by
    have ih := count_tr r hr l (fun a ha => h a (List.mem_cons_of_mem _ ha))
    simp only [List.map_cons, List.count_cons, ih]
    congr 1
    by_cases q : e = r
    · subst q; simp
    · have q1 : (e == r) = false := by simpa using q
      have q2 : (tr n e == tr n r) = false := by
        simp only [beq_eq_false_iff_ne, ne_eq]
        intro e2
        have := congrArg (tr n) e2
        rw [tr_tr (h e List.mem_cons_self), tr_tr hr] at this
        exact q this
      rw [q1, q2]
theorem El_len (k x y t z : Int) (s : Nat) : (El k x y t z s).length ≤ s := by
  have := List.length_filterMap_le (ed k x y t z) (List.range s)
  rw [List.length_range] at this
  exact this
/-- **As often one is beside another, as often is that one beside it.** -/
theorem both_ways {k x y t z : Int} (n : Nat) (hn : (x * y).toNat = n) (h36 : n ≤ 36) (h : okS k x y t z = true) (hb : ∀ e ∈ El k x y t z (9 * n), e < n * n) (i j : Nat) (hi : i < n) (hj : j < n) : (El k x y t z (9 * n)).count (n * i + j) = (El k x y t z (9 * n)).count (n * j + i) := by
  have hl := El_len k x y t z (9 * n)
  have e : D (El k x y t z (9 * n)) = D ((El k x y t z (9 * n)).map (tr n)) := by
    unfold okS at h
    rw [hn, sumA_is, sumB_is, hn] at h
    exact Nat.eq_of_beq_eq_true h
  have hr : n * i + j < n * n := by
    have := Nat.mul_le_mul_left n (show i + 1 ≤ n from hi)
    rw [Nat.mul_add] at this
    omega
  have c := D_count (n * n) _ _ hb (fun a ha => by
    obtain ⟨b, hb', rfl⟩ := List.mem_map.1 ha
    exact tr_lt (hb b hb')) (by omega) (by rw [List.length_map]; omega) e (n * j + i)
  rw [c, ← tr_at hj, count_tr _ hr _ hb]
end Bs
end Go.Proofs.Ytgiiaokkmnjckab
