/- The document's At. -/
import Derived.Test.YteaionmjbkildabDoorQ30
import Derived.Test.YteaionmjbkildabDoorQ34
namespace Go.Proofs.YteaionmjbkildabDoor
open Go.RowKit
set_option linter.unusedVariables false
set_option linter.unusedSimpArgs false
set_option maxRecDepth 100000

open Classical in
theorem refCheckC (S I R : Int) (sp : Option Addr) (q o n c : Nat) (t : Nat → TN) (hsp : 0 < n → sp = some ⟨q, o, none⟩) (hst : ∀ j, (t j).st < 256) (w : World) (hT : Tn w q o n t) :
    Calls Tryd.prog 35 #[.agg #[.int .i64 S, .int .i64 I, .slice sp n c, .int .i64 R]] w fun e w' => e = .returned (.int .i64 (if CkOk S I n R t then 0 else 110)) ∧ w.grownBy w' none := by
  by_cases hr : maB S I = true ∧ n ≤ 65536 ∧ 0 ≤ R ∧ R < (n : Int)
  · obtain ⟨h1, h2, h3, h4⟩ := hr
    have hm := maB_is h1
    obtain rfl := hsp (by omega)
    obtain ⟨S', rfl⟩ := Int.eq_ofNat_of_zero_le (show 0 ≤ S by omega)
    obtain ⟨I', rfl⟩ := Int.eq_ofNat_of_zero_le (show 0 ≤ I by omega)
    obtain ⟨R', rfl⟩ := Int.eq_ofNat_of_zero_le h3
    refine rcL S' I' R' q o n c t (by omega) (by omega) (by omega) h2 (by omega) hst _ ?_ w hT
    by_cases hb : (∀ j, j < n → okN S' (lw t) (t j) j) ∧ lw t R' = I'
    · exact .inl ⟨hb.1, hb.2, by rw [if_pos ⟨h1, h2, h3, h4, hb.1, by rw [Int.toNat_natCast, hb.2]⟩]⟩
    · exact .inr ⟨hb, by rw [if_neg (fun h => hb ⟨h.2.2.2.2.1, by have := h.2.2.2.2.2; rw [Int.toNat_natCast] at this; omega⟩)]⟩
  · rw [if_neg (fun h => hr ⟨h.1, h.2.1, h.2.2.1, h.2.2.2.1⟩)]
    exact rcEarly S I R sp n c hr w

theorem refCheckK (S I R q o n c : Nat) (t : Nat → TN) (hck : CkOk S I n R t) (hst : ∀ j, (t j).st < 256) (w : World) (hT : Tn w q o n t) : Calls Tryd.prog 35 #[.agg #[.int .i64 (S : Nat), .int .i64 (I : Nat), .slice (some ⟨q, o, none⟩) n c, .int .i64 (R : Nat)]] w fun e w' => e = .returned (.int .i64 0) ∧ w.grownBy w' none := by
  have hc := refCheckC S I R (some ⟨q, o, none⟩) q o n c t (fun _ => rfl) hst w hT
  rw [if_pos hck] at hc
  exact hc
end Go.Proofs.YteaionmjbkildabDoor
