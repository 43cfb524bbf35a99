/- At of every tree. -/
import Derived.Test.YteaionmjbkildaaDoorQ30
namespace Go.Proofs.YteaionmjbkildaaDoor
open Go.RowKit
set_option linter.unusedVariables false
set_option linter.unusedSimpArgs false
set_option maxRecDepth 100000

theorem atT (S I R : Int) (sp : Option Addr) (q o n c : Nat) (t : Nat → TN) (hsp : 0 < n → sp = some ⟨q, o, none⟩) (hst : ∀ j, (t j).st < 256) (h : ¬ CkOk S I n R t) (sa : Option Addr) (m ca : Nat) (w : World) (hT : Tn w q o n t) :
    Calls Tryd.prog 21 #[.agg #[.int .i64 S, .int .i64 I, .slice sp n c, .int .i64 R], .slice sa m ca] w fun e w' => e = .returned (.tuple #[.int .u8 0, .int .i64 110]) ∧ w.grownBy w' none := by
  obtain ⟨W1, hW1, sz1, g1, B1⟩ := boxn w #[.int .i64 S, .int .i64 I, .slice sp n c, .int .i64 R] 30
  have t0 := B1.cell 0 (v := .int .i64 S) rfl
  have t1 := B1.cell 1 (v := .int .i64 I) rfl
  have t2 := B1.cell 2 (v := .slice sp n c) rfl
  have t3 := B1.cell 3 (v := .int .i64 R) rfl
  have hc := checkC S I R sp q o n c t hsp hst W1 (hT.kept g1)
  rw [if_neg h] at hc
  go_enter Tryd.func21, Tryd.ntmps21
  go_wp2_with (first | (go_at_call 10; refine hc.mono ?_; rintro e w2 ⟨rfl, g2⟩; have G2 := gb_trans g1 g2))
  go_ret2
  exact ⟨rfl, G2⟩
theorem atA (S I R q o n c : Nat) (t : Nat → TN) (lv : Nat → Nat) (ht : Tok S I R n t lv) (sa : Option Addr) (m ca : Nat) (hm : m ≠ I) (w : World) (hT : Tn w q o n t) :
    Calls Tryd.prog 21 #[.agg #[.int .i64 (S : Nat), .int .i64 (I : Nat), .slice (some ⟨q, o, none⟩) n c, .int .i64 (R : Nat)], .slice sa m ca] w fun e w' => e = .returned (.tuple #[.int .u8 0, .int .i64 2]) ∧ w.grownBy w' none := by
  obtain ⟨W1, hW1, sz1, g1, B1⟩ := boxn w #[.int .i64 (S : Nat), .int .i64 (I : Nat), .slice (some ⟨q, o, none⟩) n c, .int .i64 (R : Nat)] 30
  have t0 := B1.cell 0 (v := .int .i64 (S : Nat)) rfl
  have t1 := B1.cell 1 (v := .int .i64 (I : Nat)) rfl
  have t2 := B1.cell 2 (v := .slice (some ⟨q, o, none⟩) n c) rfl
  have t3 := B1.cell 3 (v := .int .i64 (R : Nat)) rfl
  have hc := checkK S I R q o n c t lv ht W1 (hT.kept g1)
  have y : ((m : Int) != (I : Int)) = true := by simp; omega
  go_enter Tryd.func21, Tryd.ntmps21
  go_wp2_with (first | (go_at_call 10; refine hc.mono ?_; rintro e w2 ⟨rfl, g2⟩; have G2 := gb_trans g1 g2; have B2 := B1.kept g2 (by simp); have u0 := B2.cell 0 (v := .int .i64 (S : Nat)) rfl; have u1 := B2.cell 1 (v := .int .i64 (I : Nat)) rfl; have u2 := B2.cell 2 (v := .slice (some ⟨q, o, none⟩) n c) rfl; have u3 := B2.cell 3 (v := .int .i64 (R : Nat)) rfl))
  go_ret2
  exact ⟨rfl, G2⟩
set_option maxHeartbeats 1000000 in
theorem atS (S I R q o n c : Nat) (t : Nat → TN) (lv : Nat → Nat) (ht : Tok S I R n t lv) (sa : Option Addr) (ca : Nat) (f : Nat → Nat) (hf2 : ∀ i, f i < 256) (hf : ¬ ∀ i, i < I → f i < S) (w : World) (hT : Tn w q o n t) (hA : By w sa I f) :
    Calls Tryd.prog 21 #[.agg #[.int .i64 (S : Nat), .int .i64 (I : Nat), .slice (some ⟨q, o, none⟩) n c, .int .i64 (R : Nat)], .slice sa I ca] w fun e w' => e = .returned (.tuple #[.int .u8 0, .int .i64 7]) ∧ w.grownBy w' none := by
  have hi16 := ht.hi
  have hs2 := ht.hs2
  obtain ⟨W1, hW1, sz1, g1, B1⟩ := boxn w #[.int .i64 (S : Nat), .int .i64 (I : Nat), .slice (some ⟨q, o, none⟩) n c, .int .i64 (R : Nat)] 30
  have t0 := B1.cell 0 (v := .int .i64 (S : Nat)) rfl
  have t1 := B1.cell 1 (v := .int .i64 (I : Nat)) rfl
  have t2 := B1.cell 2 (v := .slice (some ⟨q, o, none⟩) n c) rfl
  have t3 := B1.cell 3 (v := .int .i64 (R : Nat)) rfl
  have hc := checkK S I R q o n c t lv ht W1 (hT.kept g1)
  have HF : Hid (¬ ∀ i, i < I → f i < S) := hf
  clear hf
  go_enter Tryd.func21, Tryd.ntmps21
  go_wp2_with (first | (go_at_call 10; refine hc.mono ?_; rintro e w2 ⟨rfl, g2⟩; have G2 := gb_trans g1 g2; have B2 := B1.kept g2 (by simp); have u0 := B2.cell 0 (v := .int .i64 (S : Nat)) rfl; have u1 := B2.cell 1 (v := .int .i64 (I : Nat)) rfl; have u2 := B2.cell 2 (v := .slice (some ⟨q, o, none⟩) n c) rfl; have u3 := B2.cell 3 (v := .int .i64 (R : Nat)) rfl))
  go_loopw [21] (fun i wr => ∃ k : Nat, k ≤ I ∧ i = .int .i64 k ∧ wr = w2 ∧ ∀ i, i < k → f i < S) (fun i _ => I - (intOf i).toNat)
  case atStart => exact ⟨0, Nat.zero_le _, rfl, rfl, fun i hi => absurd hi (Nat.not_lt_zero _)⟩
  case round =>
    obtain ⟨k, hk, rfl, rfl, hok⟩ := hrel
    by_cases hlt : k < I
    · have hlt' : (k : Int) < (I : Int) := by omega
      obtain ⟨a, rfl⟩ := hA.some (by omega)
      have ak := (hA.kept G2 (by simp)).at hlt
      have hf2k := hf2 k
      by_cases hfk : f k < S
      · have HO : Hid (∀ i, i < k + 1 → f i < S) := fun i hi => by
          by_cases e : i = k
          · subst e; exact hfk
          · exact hok i (by omega)
        clear hok
        go_wp2
        go_roundw
        case rel => exact ⟨k + 1, hlt, by go_num, trivial, HO.out⟩
        case measure => simp [intOf]; omega
      · clear hok
        go_wp2
        go_ret2
        exact ⟨rfl, G2⟩
    · have hkI : k = I := by omega
      subst hkI
      exact absurd hok HF.out

/-- What At says of a tree and a row: the error. -/
def AtE (S I : Int) (n : Nat) (R : Int) (t : Nat → TN) (m : Nat) (f : Nat → Nat) (E : Int) : Prop :=
  (¬ CkOk S I n R t ∧ E = 110) ∨ (CkOk S I n R t ∧ (m : Int) ≠ I ∧ E = 2) ∨ (CkOk S I n R t ∧ (m : Int) = I ∧ (¬ ∀ i, i < m → (f i : Int) < S) ∧ E = 7) ∨ (CkOk S I n R t ∧ (m : Int) = I ∧ (∀ i, i < m → (f i : Int) < S) ∧ E = 0)
theorem AtE.some (S I : Int) (n : Nat) (R : Int) (t : Nat → TN) (m : Nat) (f : Nat → Nat) : ∃ E, AtE S I n R t m f E := by
  by_cases h : CkOk S I n R t
  · by_cases h1 : (m : Int) = I
    · by_cases h2 : ∀ i, i < m → (f i : Int) < S
      · exact ⟨0, .inr (.inr (.inr ⟨h, h1, h2, rfl⟩))⟩
      · exact ⟨7, .inr (.inr (.inl ⟨h, h1, h2, rfl⟩))⟩
    · exact ⟨2, .inr (.inl ⟨h, h1, rfl⟩)⟩
  · exact ⟨110, .inl ⟨h, rfl⟩⟩
/-- .. and the state. -/
def atV (t : Nat → TN) (f : Nat → Nat) (R : Int) (m : Nat) (E : Int) : Nat := if E = 0 then (t (goN t f R.toNat m)).st else 0
theorem atG (S I R : Int) (sp : Option Addr) (q o n c : Nat) (t : Nat → TN) (hsp : 0 < n → sp = some ⟨q, o, none⟩) (hst : ∀ j, (t j).st < 256) (sa : Option Addr) (m ca : Nat) (f : Nat → Nat) (hf : ∀ i, f i < 256) (E : Int) (hE : AtE S I n R t m f E) (w : World) (hT : Tn w q o n t) (hA : By w sa m f) :
    Calls Tryd.prog 21 #[.agg #[.int .i64 S, .int .i64 I, .slice sp n c, .int .i64 R], .slice sa m ca] w fun e w' => e = .returned (.tuple #[.int .u8 (atV t f R m E : Nat), .int .i64 E]) ∧ w.grownBy w' none := by
  unfold atV
  rcases hE with ⟨h, rfl⟩ | ⟨h, h1, rfl⟩ | ⟨h, h1, h2, rfl⟩ | ⟨h, h1, h2, rfl⟩
  · exact atT S I R sp q o n c t hsp hst h sa m ca w hT
  all_goals
    have ht := h.tok hst
    have hm := maB_is h.1
    have hr0 := h.2.2.1
    have hr1 := h.2.2.2.1
    obtain rfl := hsp (by omega)
    obtain ⟨S', rfl⟩ := Int.eq_ofNat_of_zero_le (show 0 ≤ S by omega)
    obtain ⟨I', rfl⟩ := Int.eq_ofNat_of_zero_le (show 0 ≤ I by omega)
    obtain ⟨R', rfl⟩ := Int.eq_ofNat_of_zero_le hr0
  · exact atA S' I' R' q o n c t _ ht sa m ca (by omega) w hT
  · obtain rfl : m = I' := by omega
    exact atS S' m R' q o n c t _ ht sa ca f hf (fun hh => h2 (fun i hi => by have := hh i hi; omega)) w hT hA
  · obtain rfl : m = I' := by omega
    exact atC S' m R' q o n c t _ ht sa ca f (fun i hi => by have := h2 i hi; omega) w hT hA
end Go.Proofs.YteaionmjbkildaaDoor
