/- What Cell, Ring and Same of package fold answer, in plain words, of every topology and place. -/
import Derived.Test.YthgoillhjajanaaGreatF8
namespace Go.Proofs.YthgoillhjajanaaGreat.Fd
open Go.RowKit
set_option linter.unusedVariables false
set_option linter.unusedSimpArgs false
set_option maxRecDepth 100000

/-- Is a place one of the grid? -/
def giB (x y a b : Int) : Bool := To.liB a x && To.liB b y
/-- What Cell answers: the error, and the place. -/
def ceE (k x y t z a b : Int) : Int := if Tp.chk k x y t z = 0 then (if (To.frB a || To.frB b) = true then 5 else if glB k = false ∧ giB x y a b = false then 60 else 0) else 9
def ceX (k x y t z a b : Int) : Int := if glB k then Fo.cx k x y t z (a - To.fi x) (b - To.fi y) + To.fi x else a
def ceY (k x y t z a b : Int) : Int := if glB k then Fo.cy k x y t z (a - To.fi x) (b - To.fi y) + To.fi y else b
def ceV (k x y t z a b : Int) : Array Value := if ceE k x y t z a b = 0 then #[.int .i64 (ceX k x y t z a b), .int .i64 (ceY k x y t z a b)] else #[.int .i64 0, .int .i64 0]
theorem li_iff {n l : Int} : To.liB n l = true ↔ l = 0 ∨ (0 ≤ n - To.fi l ∧ n - To.fi l < l) := by
  unfold To.liB
  simp only [Bool.or_eq_true, Bool.and_eq_true, decide_eq_true_eq]
  omega
theorem gl_iff {k : Int} : glB k = true ↔ k = 2 ∨ k = 3 ∨ k = 4 := by unfold glB; exact decide_eq_true_iff
theorem fr_bd {a : Int} (h : To.frB a = false) : -1099511627776 ≤ a ∧ a ≤ 1099511627776 := by unfold To.frB at h; simp at h; omega
theorem ce_zero {k x y t z a b : Int} (h : ceE k x y t z a b ≠ 0) : ceV k x y t z a b = #[.int .i64 0, .int .i64 0] := if_neg h
theorem ce_yes {k x y t z a b : Int} (h : ceE k x y t z a b = 0) : ceV k x y t z a b = #[.int .i64 (ceX k x y t z a b), .int .i64 (ceY k x y t z a b)] := if_pos h
/-- The cell of a place that is not far, of a topology that may be. -/
theorem scellC (k x y t z a b : Int) (ht : 0 ≤ t) (h : Tp.chk k x y t z = 0) (h1 : To.frB a = false) (h2 : To.frB b = false) (w : World) :
    Calls Tryz.prog 91 #[.agg #[.int .u8 k, .int .i64 x, .int .i64 y, .int .u8 t, .int .i64 z, .int .i64 (To.fi x), .int .i64 (To.fi y), .int .i64 x, .int .i64 y, .int .i64 (a - To.fi x), .int .i64 (b - To.fi y), .int .i64 (Nm.divZ (a - To.fi x) x), .int .i64 (Nm.divZ (b - To.fi y) y), .bool (giB x y a b)]] w fun e w' => e = .returned (.tuple #[.agg (ceV k x y t z a b), .int .i64 (ceE k x y t z a b)]) ∧ w.grownBy w' none := by
  have ok := Tp.ok_of h
  have hx := ok.wide
  have hy := ok.high
  have bx := fi_bd hx
  have by' := fi_bd hy
  have ba := fr_bd h1
  have bb := fr_bd h2
  have hkk := ok.kind
  have e0 : ceE k x y t z a b = if glB k = false ∧ giB x y a b = false then 60 else 0 := by unfold ceE; rw [if_pos h, if_neg (by rw [h1, h2]; decide)]
  cases hi : giB x y a b
  · rw [hi] at e0
    cases hg : glB k
    · rw [hg, if_pos ⟨rfl, rfl⟩] at e0
      rw [ce_zero (by rw [e0]; decide), e0]
      refine scellLost k x y t z _ _ _ _ false ?_ w
      have : ¬ (k = 2 ∨ k = 3 ∨ k = 4) := fun q => by rw [gl_iff.2 q] at hg; exact absurd hg (by decide)
      obtain rfl | rfl : k = 1 ∨ k = 5 := by omega
      · rfl
      · rfl
    · have hk := gl_iff.1 hg
      rw [hg, if_neg (fun q => absurd q.1 (by decide))] at e0
      rw [ce_yes e0, e0]
      unfold ceX ceY
      rw [hg, if_pos rfl, if_pos rfl]
      refine scellOut k x y t z _ _ _ _ ?_ _ _ true (beyondG k x y t z _ _ false ht ok hk (by omega) (by omega)) w
      rcases hk with rfl | rfl | rfl <;> rfl
  · rw [hi, if_neg (fun q => absurd q.2 (by decide))] at e0
    rw [ce_yes e0, e0]
    have hi' := Bool.and_eq_true_iff.1 hi
    have hp := scellIn k x y t z (a - To.fi x) (b - To.fi y) (Nm.divZ (a - To.fi x) x) (Nm.divZ (b - To.fi y) y) a b (placeC k x y t z _ _ _ _ (by rw [IntKind.wrap_i64]; omega) (by rw [IntKind.wrap_i64]; omega)) w
    have eX : ceX k x y t z a b = a := by
      unfold ceX
      split
      · rw [Fo.cx_in k t z (li_iff.1 hi'.1) (li_iff.1 hi'.2)]; omega
      · rfl
    have eY : ceY k x y t z a b = b := by
      unfold ceY
      split
      · rw [Fo.cy_in k t z (li_iff.1 hi'.1) (li_iff.1 hi'.2)]; omega
      · rfl
    rw [eX, eY]
    exact hp
theorem lookE (k x y t z a b : Int) (ht : 0 ≤ t) (h : Tp.chk k x y t z = 0) (h1 : To.frB a = false) (h2 : To.frB b = false) (w : World) :
    Calls Tryz.prog 90 #[.agg #[.int .u8 k, .int .i64 x, .int .i64 y, .int .u8 t, .int .i64 z], .agg #[.int .i64 a, .int .i64 b]] w fun e w' => e = .returned (.tuple #[.agg #[.int .u8 k, .int .i64 x, .int .i64 y, .int .u8 t, .int .i64 z, .int .i64 (To.fi x), .int .i64 (To.fi y), .int .i64 x, .int .i64 y, .int .i64 (a - To.fi x), .int .i64 (b - To.fi y), .int .i64 (Nm.divZ (a - To.fi x) x), .int .i64 (Nm.divZ (b - To.fi y) y), .bool (giB x y a b)], .int .i64 0]) ∧ w.grownBy w' none := lookYes k x y t z a b ht h h1 h2 _ _ rfl rfl w
theorem lookF (k x y t z a b : Int) (ht : 0 ≤ t) (h : Tp.chk k x y t z = 0) (h1 : (To.frB a || To.frB b) = true) (w : World) :
    Calls Tryz.prog 90 #[.agg #[.int .u8 k, .int .i64 x, .int .i64 y, .int .u8 t, .int .i64 z], .agg #[.int .i64 a, .int .i64 b]] w fun e w' => e = .returned (.tuple #[.agg #[.int .u8 0, .int .i64 0, .int .i64 0, .int .u8 0, .int .i64 0, .int .i64 0, .int .i64 0, .int .i64 0, .int .i64 0, .int .i64 0, .int .i64 0, .int .i64 0, .int .i64 0, .bool false], .int .i64 5]) ∧ w.grownBy w' none := lookFar k x y t z a b ht h h1 w
theorem cellC (k x y t z a b : Int) (ht : 0 ≤ t) (w : World) : Calls Tryz.prog 76 #[.agg #[.int .u8 k, .int .i64 x, .int .i64 y, .int .u8 t, .int .i64 z], .agg #[.int .i64 a, .int .i64 b]] w fun e w' => e = .returned (.tuple #[.agg (ceV k x y t z a b), .int .i64 (ceE k x y t z a b)]) ∧ w.grownBy w' none := by
  by_cases h : Tp.chk k x y t z = 0
  · cases hf : (To.frB a || To.frB b)
    · have h1 := Bool.or_eq_false_iff.1 hf
      have hs := scellC k x y t z a b ht h h1.1 h1.2
      by_cases he : ceE k x y t z a b = 0
      · rw [ce_yes he] at hs ⊢
        exact cellY k x y t z a b _ _ _ _ _ (lookE k x y t z a b ht h h1.1 h1.2) _ _ _ hs w
      · rw [ce_zero he] at hs ⊢
        exact cellY k x y t z a b _ _ _ _ _ (lookE k x y t z a b ht h h1.1 h1.2) _ _ _ hs w
    · have e1 : ceE k x y t z a b = 5 := by unfold ceE; rw [if_pos h, if_pos hf]
      rw [ce_zero (by rw [e1]; decide), e1]
      exact cellX k x y t z a b 5 rfl (lookF k x y t z a b ht h hf) w
  · have e1 : ceE k x y t z a b = 9 := by unfold ceE; rw [if_neg h]
    rw [ce_zero (by rw [e1]; decide), e1]
    exact cellX k x y t z a b 9 rfl (lookNo k x y t z a b ht h) w
/-- What Same answers: the error, and whether. -/
def saE (k x y t z a b a2 b2 : Int) : Int := if Tp.chk k x y t z = 0 then (if (To.frB a || To.frB b) = true then 5 else if (To.frB a2 || To.frB b2) = true then 5 else if ceE k x y t z a b = 0 then ceE k x y t z a2 b2 else ceE k x y t z a b) else 9
def saB (k x y t z a b a2 b2 : Int) : Bool := decide (saE k x y t z a b a2 b2 = 0) && (decide (ceX k x y t z a b = ceX k x y t z a2 b2) && decide (ceY k x y t z a b = ceY k x y t z a2 b2))
/-- What Ring answers: the error, whether it is a cell, the place. -/
def riN (x y a b : Int) : Bool := toB (a - To.fi x) x && toB (b - To.fi y) y
def riE (k x y t z a b : Int) : Int := if Tp.chk k x y t z = 0 then (if (To.frB a || To.frB b) = true then 5 else if giB x y a b = true then 0 else if riN x y a b = true then 0 else 60) else 9
def riB (k x y t z a b : Int) : Bool := decide (riE k x y t z a b = 0) && (giB x y a b || decide (k ≠ 1))
def riX (k x y t z a b : Int) : Int := if giB x y a b then a else if k = 5 then Nm.nearZ (b - To.fi y) 0 (y - 1) + To.fi x else Fo.cx k x y t z (a - To.fi x) (b - To.fi y) + To.fi x
def riY (k x y t z a b : Int) : Int := if giB x y a b then b else if k = 5 then Nm.nearZ (a - To.fi x) 0 (x - 1) + To.fi y else Fo.cy k x y t z (a - To.fi x) (b - To.fi y) + To.fi y
def riV (k x y t z a b : Int) : Array Value := if riB k x y t z a b then #[.int .i64 (riX k x y t z a b), .int .i64 (riY k x y t z a b)] else #[.int .i64 0, .int .i64 0]
theorem riV_no {k x y t z a b : Int} (h : riB k x y t z a b = false) : riV k x y t z a b = #[.int .i64 0, .int .i64 0] := by unfold riV; rw [h]; rfl
theorem riV_yes {k x y t z a b : Int} (h : riB k x y t z a b = true) : riV k x y t z a b = #[.int .i64 (riX k x y t z a b), .int .i64 (riY k x y t z a b)] := by unfold riV; rw [h]; rfl
end Go.Proofs.YthgoillhjajanaaGreat.Fd
