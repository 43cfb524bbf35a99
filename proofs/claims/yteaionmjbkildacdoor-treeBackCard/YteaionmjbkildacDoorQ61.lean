/- Print of every tree. -/
import Derived.Test.YteaionmjbkildacDoorQ25
import Derived.Test.YteaionmjbkildacDoorQ30
import Derived.Test.YteaionmjbkildacDoorQ30
namespace Go.Proofs.YteaionmjbkildacDoor
open Go.RowKit
set_option linter.unusedVariables false
set_option linter.unusedSimpArgs false
set_option maxRecDepth 100000

theorem printN (S I R : Int) (sp : Option Addr) (q o n c : Nat) (t : Nat → TN) (hsp : 0 < n → sp = some ⟨q, o, none⟩) (hst : ∀ j, (t j).st < 256) (h : ¬ CkOk S I n R t) (w : World) (hT : Tn w q o n t) :
    Calls Tryd.prog 5 #[.agg #[.int .i64 S, .int .i64 I, .slice sp n c, .int .i64 R]] w fun e w' => e = .returned (.tuple #[.string ⟨#[]⟩, .int .i64 110]) ∧ w.grownBy w' none := by
  obtain ⟨W1, hW1, sz1, g1, B1⟩ := boxn w #[.int .i64 S, .int .i64 I, .slice sp n c, .int .i64 R] 24
  have t0 := B1.cell 0 (v := .int .i64 S) rfl
  have t1 := B1.cell 1 (v := .int .i64 I) rfl
  have t2 := B1.cell 2 (v := .slice sp n c) rfl
  have t3 := B1.cell 3 (v := .int .i64 R) rfl
  have hc := checkC S I R sp q o n c t hsp hst W1 (hT.kept g1)
  rw [if_neg h] at hc
  go_enter Tryd.func5, Tryd.ntmps5
  go_wp2_with (first | (go_at_call 12; refine hc.mono ?_; rintro e w2 ⟨rfl, g2⟩; have G2 := gb_trans g1 g2))
  go_ret2
  exact ⟨rfl, G2⟩

/-- What Print says of a tree: the text and the error. -/
def PrE (S I : Int) (n : Nat) (R : Int) (t : Nat → TN) (l : List UInt8) (E : Int) : Prop :=
  (¬ CkOk S I n R t ∧ l = [] ∧ E = 110) ∨ (CkOk S I n R t ∧ l = prT (treeTx S.toNat I.toNat n R.toNat t) ∧ E = prE (treeTx S.toNat I.toNat n R.toNat t))
theorem PrE.some (S I : Int) (n : Nat) (R : Int) (t : Nat → TN) : ∃ l E, PrE S I n R t l E := by
  by_cases h : CkOk S I n R t
  · exact ⟨_, _, .inr ⟨h, rfl, rfl⟩⟩
  · exact ⟨_, _, .inl ⟨h, rfl, rfl⟩⟩
theorem printG (S I R : Int) (sp : Option Addr) (q o n c : Nat) (t : Nat → TN) (hsp : 0 < n → sp = some ⟨q, o, none⟩) (hst : ∀ j, (t j).st < 256) (l : List UInt8) (E : Int) (hE : PrE S I n R t l E) (w : World) (hT : Tn w q o n t) (htab : Tab w) :
    Calls Tryd.prog 5 #[.agg #[.int .i64 S, .int .i64 I, .slice sp n c, .int .i64 R]] w fun e w' => e = .returned (.tuple #[.string ⟨l.toArray⟩, .int .i64 E]) ∧ w.grownBy w' none := by
  rcases hE with ⟨h, rfl, rfl⟩ | ⟨h, rfl, rfl⟩
  · exact printN S I R sp q o n c t hsp hst h w hT
  · have ht := h.tok hst
    have hm := maB_is h.1
    have hr0 := h.2.2.1
    have hr1 := h.2.2.2.1
    obtain rfl := hsp (by omega)
    obtain ⟨S', rfl⟩ := Int.eq_ofNat_of_zero_le (show 0 ≤ S by omega)
    obtain ⟨I', rfl⟩ := Int.eq_ofNat_of_zero_le (show 0 ≤ I by omega)
    obtain ⟨R', rfl⟩ := Int.eq_ofNat_of_zero_le hr0
    exact printA S' I' R' q o n c t _ ht w hT htab
end Go.Proofs.YteaionmjbkildacDoor
