/- Keeps of every tree and list. -/
import Derived.Test.YteaionmjbkildaaDoorQ43
import Derived.Test.YteaionmjbkildaaDoorQ45
namespace Go.Proofs.YteaionmjbkildaaDoor
open Go.RowKit
set_option linter.unusedVariables false
set_option linter.unusedSimpArgs false
set_option maxRecDepth 100000

/-- Row number k. -/
def rowN (S I k : Nat) : List Nat := (List.range I).map (dgN S I k)
theorem rowN_succ (S I s k : Nat) (h1 : 1 ≤ S) (hs : s < S) (hk : k < S ^ I) : rowN S (I + 1) (s * S ^ I + k) = s :: rowN S I k := by
  have hp : 1 ≤ S ^ I := Nat.one_le_pow _ _ h1
  unfold rowN
  rw [List.range_succ_eq_map, List.map_cons, List.map_map]
  congr 1
  · unfold dgN
    rw [show I + 1 - 1 - 0 = I by omega, Nat.mul_comm, Nat.mul_add_div (by omega), Nat.div_eq_of_lt hk, Nat.add_zero, Nat.mod_eq_of_lt hs]
  · apply List.map_congr_left
    intro i hi
    have hi' := List.mem_range.1 hi
    show dgN S (I + 1) (s * S ^ I + k) (i + 1) = dgN S I k i
    unfold dgN
    obtain ⟨e, he⟩ : ∃ e, I = i + 1 + e := ⟨I - i - 1, by omega⟩
    rw [show I + 1 - 1 - (i + 1) = e by omega, show I - 1 - i = e by omega]
    have hsp : S ^ I = S ^ e * (S * S ^ i) := by
      rw [he, show i + 1 + e = e + (1 + i) by omega, Nat.pow_add, Nat.pow_add, Nat.pow_one]
    rw [hsp, show s * (S ^ e * (S * S ^ i)) + k = S ^ e * (S * (s * S ^ i)) + k by
      rw [Nat.mul_comm s, Nat.mul_assoc, Nat.mul_assoc, Nat.mul_comm (S ^ i) s], Nat.mul_add_div (Nat.one_le_pow _ _ h1), Nat.mul_add_mod]
theorem rws_rowN (S : Nat) (h1 : 1 ≤ S) : ∀ I, rws S I = (List.range (S ^ I)).map (rowN S I)
  | 0 => by simp [rws, rowN]
  | I + 1 => by
    rw [rws, rws_rowN S h1 I]
    have key : ∀ m, m ≤ S → ((List.range m).flatMap fun s => ((List.range (S ^ I)).map (rowN S I)).map (s :: ·)) = (List.range (m * S ^ I)).map (rowN S (I + 1)) := by
      intro m
      induction m with
      | zero => intro _; simp
      | succ m ih =>
        intro hm
        rw [List.range_succ, List.flatMap_append, ih (by omega), Nat.succ_mul, List.range_add, List.map_append]
        congr 1
        simp only [List.flatMap_cons, List.flatMap_nil, List.append_nil, List.map_map]
        apply List.map_congr_left
        intro k hk
        exact (rowN_succ S I m k h1 (by omega) (List.mem_range.1 hk)).symm
    rw [key S (Nat.le_refl _), Nat.pow_succ, Nat.mul_comm]
theorem all_rows (S I : Nat) (h1 : 1 ≤ S) (q : List Nat → Bool) : (rws S I).all q = true ↔ ∀ k, k < S ^ I → q (rowN S I k) = true := by
  rw [rws_rowN S h1, List.all_map, List.all_eq_true]
  exact ⟨fun h k hk => h k (List.mem_range.2 hk), fun h k hk => h k (List.mem_range.1 hk)⟩

/-- What Keeps says of a tree and a list. -/
def KeE (S I : Int) (n : Nat) (R : Int) (t : Nat → TN) (m : Nat) (p : Nat → Int) (b : Bool) (E : Int) : Prop :=
  (¬ CkOk S I n R t ∧ b = false ∧ E = 110) ∨ (CkOk S I n R t ∧ ((m : Int) ≠ I ∨ ((m : Int) = I ∧ ¬ Ord p m)) ∧ b = false ∧ E = 111) ∨
  (CkOk S I n R t ∧ (m : Int) = I ∧ Ord p m ∧ ¬ S.toNat ^ m ≤ 1048576 ∧ b = false ∧ E = 4) ∨
  (CkOk S I n R t ∧ (m : Int) = I ∧ Ord p m ∧ S.toNat ^ m ≤ 1048576 ∧ b = ((rws S.toNat m).all fun x => decide (ev t R.toNat m x = ev t R.toNat m (px (fun i => (p i).toNat) m x))) ∧ E = 0)
theorem KeE.some (S I : Int) (n : Nat) (R : Int) (t : Nat → TN) (m : Nat) (p : Nat → Int) : ∃ b E, KeE S I n R t m p b E := by
  by_cases h : CkOk S I n R t
  · by_cases h1 : (m : Int) = I
    · by_cases h2 : Ord p m
      · by_cases h3 : S.toNat ^ m ≤ 1048576
        · exact ⟨_, 0, .inr (.inr (.inr ⟨h, h1, h2, h3, rfl, rfl⟩))⟩
        · exact ⟨false, 4, .inr (.inr (.inl ⟨h, h1, h2, h3, rfl, rfl⟩))⟩
      · exact ⟨false, 111, .inr (.inl ⟨h, .inr ⟨h1, h2⟩, rfl, rfl⟩)⟩
    · exact ⟨false, 111, .inr (.inl ⟨h, .inl h1, rfl, rfl⟩)⟩
  · exact ⟨false, 110, .inl ⟨h, rfl, rfl⟩⟩
theorem ord_nat {p : Nat → Int} {m : Nat} (h : Ord p m) : Ord (fun i => (((p i).toNat : Nat) : Int)) m := fun i hi => by
  obtain ⟨h0, h1, h2⟩ := h i hi
  refine ⟨by show (0 : Int) ≤ ((p i).toNat : Int); omega, by show ((p i).toNat : Int) < _; omega, fun j hj => ?_⟩
  have := h2 j hj
  have := (h j (by omega)).1
  show ((p j).toNat : Int) ≠ ((p i).toNat : Int)
  omega
theorem in_nat {w : World} {sp : Option Addr} {p : Nat → Int} {m : Nat} (h : Ord p m) (hP : In w sp m p) : In w sp m (fun i => (((p i).toNat : Nat) : Int)) := hP.congr (fun k hk => by have := (h k hk).1; omega)
theorem keepsG (S I R : Int) (sn : Option Addr) (q o n c : Nat) (t : Nat → TN) (hsn : 0 < n → sn = some ⟨q, o, none⟩) (hst : ∀ j, (t j).st < 256) (sp : Option Addr) (m pc : Nat) (p : Nat → Int) (b : Bool) (E : Int) (hE : KeE S I n R t m p b E) (w : World) (hT : Tn w q o n t) (hP : In w sp m p) :
    Calls Tryd.prog 30 #[.agg #[.int .i64 S, .int .i64 I, .slice sn n c, .int .i64 R], .slice sp m pc] w fun e w' => e = .returned (.tuple #[.bool b, .int .i64 E]) ∧ w.grownBy w' none := by
  rcases hE with ⟨h, rfl, rfl⟩ | ⟨h, h1, rfl, rfl⟩ | ⟨h, h1, h2, h3, rfl, rfl⟩ | ⟨h, h1, h2, h3, rfl, rfl⟩
  · exact keepsT S I R sn q o n c t hsn hst h sp m pc w hT
  · exact keepsP S I R sn q o n c t hsn hst h sp m pc p h1 w hT hP
  all_goals
    have ht := h.tok hst
    have hm := maB_is h.1
    have hr0 := h.2.2.1
    have hr1 := h.2.2.2.1
    obtain ⟨S', rfl⟩ := Int.eq_ofNat_of_zero_le (show 0 ≤ S by omega)
    obtain ⟨I', rfl⟩ := Int.eq_ofNat_of_zero_le (show 0 ≤ I by omega)
    obtain ⟨R', rfl⟩ := Int.eq_ofNat_of_zero_le hr0
    obtain rfl : m = I' := by omega
  · exact keepsB S' m R' sn q o n c t hsn hst h h3 sp pc p h2 w hT hP
  · obtain rfl := hsn (by omega)
    exact keepsC S' m R' q o n c t _ ht h3 sp pc (fun i => (p i).toNat) (ord_nat h2) w hT (in_nat h2 hP)
theorem rkG (S I R : Int) (sn : Option Addr) (q o n c : Nat) (t : Nat → TN) (hsn : 0 < n → sn = some ⟨q, o, none⟩) (hst : ∀ j, (t j).st < 256) (sp : Option Addr) (m pc : Nat) (p : Nat → Int) (b : Bool) (E : Int) (hE : KeE S I n R t m p b E) (w : World) (hT : Tn w q o n t) (hP : In w sp m p) :
    Calls Tryd.prog 31 #[.agg #[.int .i64 S, .int .i64 I, .slice sn n c, .int .i64 R], .slice sp m pc] w fun e w' => e = .returned (.tuple #[.bool b, .int .i64 E]) ∧ w.grownBy w' none := by
  rcases hE with ⟨h, rfl, rfl⟩ | ⟨h, h1, rfl, rfl⟩ | ⟨h, h1, h2, h3, rfl, rfl⟩ | ⟨h, h1, h2, h3, hb, rfl⟩
  · exact rkT S I R sn q o n c t hsn hst h sp m pc w hT
  · exact rkP S I R sn q o n c t hsn hst h sp m pc p h1 w hT hP
  all_goals
    have ht := h.tok hst
    have hm := maB_is h.1
    have hr0 := h.2.2.1
    have hr1 := h.2.2.2.1
    obtain rfl := hsn (by omega)
    obtain ⟨S', rfl⟩ := Int.eq_ofNat_of_zero_le (show 0 ≤ S by omega)
    obtain ⟨I', rfl⟩ := Int.eq_ofNat_of_zero_le (show 0 ≤ I by omega)
    obtain ⟨R', rfl⟩ := Int.eq_ofNat_of_zero_le hr0
    obtain rfl : m = I' := by omega
  · exact rkB S' m R' q o n c t h hst h3 sp pc p h2 w hT hP
  · refine rkC S' m R' q o n c t _ ht h h3 sp pc (fun i => (p i).toNat) (ord_nat h2) b ?_ w hT (in_nat h2 hP)
    cases b with
    | true =>
      refine .inl ⟨fun k hk => ?_, rfl⟩
      exact of_decide_eq_true ((all_rows S' m (by omega) _).1 hb.symm k hk)
    | false =>
      refine .inr ⟨fun hh => ?_, rfl⟩
      have := (all_rows S' m (by omega) (fun x => decide (ev t R' m x = ev t R' m (px (fun i => (p i).toNat) m x)))).2 (fun k hk => decide_eq_true (hh k hk))
      rw [show (rws (S' : Int).toNat m) = rws S' m from rfl] at hb
      rw [show ((R' : Int).toNat) = R' from rfl, this] at hb
      cases hb
end Go.Proofs.YteaionmjbkildaaDoor
