/- What Print of package topo answers, of every topology. -/
import Derived.Test.YteegbhnfkcbnoabDoorP13
namespace Go.Proofs.YteegbhnfkcbnoabDoor
open Go.RowKit
set_option linter.unusedVariables false
set_option linter.unusedSimpArgs false
set_option maxRecDepth 100000

/-- A topology's text. -/
def pTx (k x y t z : Int) : List UInt8 := if k = 5 then 83 :: Lib.itoa x else if x = 0 ∧ y = 0 then [Tp.letL k.toNat] else Tp.letL k.toNat :: (Lib.itoa x ++ (ttL k t z 1 ++ (44 :: (Lib.itoa y ++ ttL k t z 2))))
def pTxt (k x y t z : Int) : ByteArray := if Tp.chk k x y t z = 0 then Tp.tx (pTx k x y t z) else ⟨#[]⟩
theorem printC (k x y t z : Int) (w : World) (ht : 0 ≤ t) (h0 : -9223372036854775808 ≤ z) (h1 : z ≤ 9223372036854775807) (htab : Hid (Tab w)) (hT : Hid (Tf w)) :
    Calls Tryd.prog 16 #[.agg #[.int .u8 k, .int .i64 x, .int .i64 y, .int .u8 t, .int .i64 z]] w fun e w' => e = .returned (.tuple #[.string (pTxt k x y t z), .int .i64 (Tp.chk k x y t z)]) ∧ w.grownBy w' none := by
  unfold pTxt
  by_cases h : Tp.chk k x y t z = 0
  · have ok := Tp.ok_of h
    have a1 := ok.kind
    have hx : -9223372036854775808 ≤ x ∧ x ≤ 9223372036854775807 := by have := ok.wide; omega
    have hy : -9223372036854775808 ≤ y ∧ y ≤ 9223372036854775807 := by have := ok.high; omega
    rw [if_pos h, h]
    unfold pTx
    obtain h3 | h3 | h3 | h3 | h3 : k = 1 ∨ k = 2 ∨ k = 3 ∨ k = 4 ∨ k = 5 := by omega
    · subst h3
      rw [if_neg (by decide)]
      by_cases hx0 : x = 0
      · by_cases hy0 : y = 0
        · rw [if_pos ⟨hx0, hy0⟩]; exact print_z1 x y t z w ht h0 h1 htab hT h (by simp [hx0]) (by simp [hy0])
        · rw [if_neg (by omega)]; exact print_g1y x y t z w ht h0 h1 htab hT h hx hy (by simp [hx0]) (by simp [hy0])
      · rw [if_neg (by omega)]; exact print_g1x x y t z w ht h0 h1 htab hT h hx hy (by simp [hx0])
    · subst h3
      rw [if_neg (by decide)]
      by_cases hx0 : x = 0
      · by_cases hy0 : y = 0
        · rw [if_pos ⟨hx0, hy0⟩]; exact print_z2 x y t z w ht h0 h1 htab hT h (by simp [hx0]) (by simp [hy0])
        · rw [if_neg (by omega)]; exact print_g2y x y t z w ht h0 h1 htab hT h hx hy (by simp [hx0]) (by simp [hy0])
      · rw [if_neg (by omega)]; exact print_g2x x y t z w ht h0 h1 htab hT h hx hy (by simp [hx0])
    · subst h3
      have := ok.ended (by decide)
      rw [if_neg (by decide), if_neg (by omega)]
      exact print_g3x x y t z w ht h0 h1 htab hT h hx hy (by simp; omega)
    · subst h3
      have := ok.ended (by decide)
      rw [if_neg (by decide), if_neg (by omega)]
      exact print_g4x x y t z w ht h0 h1 htab hT h hx hy (by simp; omega)
    · subst h3
      rw [if_pos rfl]
      exact print_5 x y t z w ht h0 h1 htab hT h hx
  · rw [if_neg h]
    exact print_no k x y t z w ht h0 h1 htab hT h
end Go.Proofs.YteegbhnfkcbnoabDoor
