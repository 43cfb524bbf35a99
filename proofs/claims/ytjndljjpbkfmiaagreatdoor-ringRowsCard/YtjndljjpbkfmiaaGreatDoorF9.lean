/- What Cell, Ring and Same of package fold answer, in plain words, of every topology and place. -/
import Derived.Test.YtjndljjpbkfmiaaGreatDoorF8
import Derived.Test.YtjndljjpbkfmiaaGreatDoorF8s
namespace Go.Proofs.YtjndljjpbkfmiaaGreatDoor.Fd
open Go.RowKit
set_option linter.unusedVariables false
set_option linter.unusedSimpArgs false
set_option maxRecDepth 100000

/-- Is a place one of the grid? -/
def giB (x y a b : Int) : Bool := To.liB a x && To.liB b y
/-- What Cell answers: the error, and the place. -/
def ceE (k x y t z a b : Int) : Int := if Tp.chk k x y t z = 0 then (if (To.frB a || To.frB b) = true then 5 else if glB k = false ∧ giB x y a b = false then 60 else 0) else 9
def ceX (k x y t z a b : Int) : Int := if glB k then Fo.cx k x y t z (a - To.fi x) (b - To.fi y) + To.fi x else a
def ceY (k x y t z a b : Int) : Int := if glB k then Fo.cy k x y t z (a - To.fi x) (b - To.fi y) + To.fi y else b
def ceV (k x y t z a b : Int) : Array Value := if ceE k x y t z a b = 0 then #[.int .i64 (ceX k x y t z a b), .int .i64 (ceY k x y t z a b)] else #[.int .i64 0, .int .i64 0]
theorem li_iff {n l : Int} : To.liB n l = true ↔ l = 0 ∨ (0 ≤ n - To.fi l ∧ n - To.fi l < l) := by
  unfold To.liB
  simp only [Bool.or_eq_true, Bool.and_eq_true, decide_eq_true_eq]
  omega
theorem gl_iff {k : Int} : glB k = true ↔ k = 2 ∨ k = 3 ∨ k = 4 := by unfold glB; exact decide_eq_true_iff
theorem fr_bd {a : Int} (h : To.frB a = false) : -1099511627776 ≤ a ∧ a ≤ 1099511627776 := by unfold To.frB at h; simp at h; omega
theorem ce_zero {k x y t z a b : Int} (h : ceE k x y t z a b ≠ 0) : ceV k x y t z a b = #[.int .i64 0, .int .i64 0] := if_neg h
theorem ce_yes {k x y t z a b : Int} (h : ceE k x y t z a b = 0) : ceV k x y t z a b = #[.int .i64 (ceX k x y t z a b), .int .i64 (ceY k x y t z a b)] := if_pos h
theorem lookE (k x y t z a b : Int) (ht : 0 ≤ t) (h : Tp.chk k x y t z = 0) (h1 : To.frB a = false) (h2 : To.frB b = false) (w : World) :
    Calls Tryz.prog 58 #[.agg #[.int .u8 k, .int .i64 x, .int .i64 y, .int .u8 t, .int .i64 z], .agg #[.int .i64 a, .int .i64 b]] w fun e w' => e = .returned (.tuple #[.agg #[.int .u8 k, .int .i64 x, .int .i64 y, .int .u8 t, .int .i64 z, .int .i64 (To.fi x), .int .i64 (To.fi y), .int .i64 x, .int .i64 y, .int .i64 (a - To.fi x), .int .i64 (b - To.fi y), .int .i64 (Nm.divZ (a - To.fi x) x), .int .i64 (Nm.divZ (b - To.fi y) y), .bool (giB x y a b)], .int .i64 0]) ∧ w.grownBy w' none := lookYes k x y t z a b ht h h1 h2 _ _ rfl rfl w
theorem lookF (k x y t z a b : Int) (ht : 0 ≤ t) (h : Tp.chk k x y t z = 0) (h1 : (To.frB a || To.frB b) = true) (w : World) :
    Calls Tryz.prog 58 #[.agg #[.int .u8 k, .int .i64 x, .int .i64 y, .int .u8 t, .int .i64 z], .agg #[.int .i64 a, .int .i64 b]] w fun e w' => e = .returned (.tuple #[.agg #[.int .u8 0, .int .i64 0, .int .i64 0, .int .u8 0, .int .i64 0, .int .i64 0, .int .i64 0, .int .i64 0, .int .i64 0, .int .i64 0, .int .i64 0, .int .i64 0, .int .i64 0, .bool false], .int .i64 5]) ∧ w.grownBy w' none := lookFar k x y t z a b ht h h1 w
/-- What Same answers: the error, and whether. -/
def saE (k x y t z a b a2 b2 : Int) : Int := if Tp.chk k x y t z = 0 then (if (To.frB a || To.frB b) = true then 5 else if (To.frB a2 || To.frB b2) = true then 5 else if ceE k x y t z a b = 0 then ceE k x y t z a2 b2 else ceE k x y t z a b) else 9
def saB (k x y t z a b a2 b2 : Int) : Bool := decide (saE k x y t z a b a2 b2 = 0) && (decide (ceX k x y t z a b = ceX k x y t z a2 b2) && decide (ceY k x y t z a b = ceY k x y t z a2 b2))
/-- What Ring answers: the error, whether it is a cell, the place. -/
def riN (x y a b : Int) : Bool := toB (a - To.fi x) x && toB (b - To.fi y) y
def riE (k x y t z a b : Int) : Int := if Tp.chk k x y t z = 0 then (if (To.frB a || To.frB b) = true then 5 else if giB x y a b = true then 0 else if riN x y a b = true then 0 else 60) else 9
def riB (k x y t z a b : Int) : Bool := decide (riE k x y t z a b = 0) && (giB x y a b || decide (k ≠ 1))
def riX (k x y t z a b : Int) : Int := if giB x y a b then a else if k = 5 then Nm.nearZ (b - To.fi y) 0 (y - 1) + To.fi x else Fo.cx k x y t z (a - To.fi x) (b - To.fi y) + To.fi x
def riY (k x y t z a b : Int) : Int := if giB x y a b then b else if k = 5 then Nm.nearZ (a - To.fi x) 0 (x - 1) + To.fi y else Fo.cy k x y t z (a - To.fi x) (b - To.fi y) + To.fi y
def riV (k x y t z a b : Int) : Array Value := if riB k x y t z a b then #[.int .i64 (riX k x y t z a b), .int .i64 (riY k x y t z a b)] else #[.int .i64 0, .int .i64 0]
theorem riV_no {k x y t z a b : Int} (h : riB k x y t z a b = false) : riV k x y t z a b = #[.int .i64 0, .int .i64 0] := by unfold riV; rw [h]; rfl
theorem riV_yes {k x y t z a b : Int} (h : riB k x y t z a b = true) : riV k x y t z a b = #[.int .i64 (riX k x y t z a b), .int .i64 (riY k x y t z a b)] := by unfold riV; rw [h]; rfl
theorem ringC (k x y t z a b : Int) (ht : 0 ≤ t) (w : World) : Calls Tryz.prog 28 #[.agg #[.int .u8 k, .int .i64 x, .int .i64 y, .int .u8 t, .int .i64 z], .agg #[.int .i64 a, .int .i64 b]] w fun e w' => e = .returned (.tuple #[.agg (riV k x y t z a b), .bool (riB k x y t z a b), .int .i64 (riE k x y t z a b)]) ∧ w.grownBy w' none := by
  by_cases h : Tp.chk k x y t z = 0
  · cases hf : (To.frB a || To.frB b)
    · have h1 := Bool.or_eq_false_iff.1 hf
      have ok := Tp.ok_of h
      have hx := ok.wide
      have hy := ok.high
      have bx := fi_bd hx
      have by' := fi_bd hy
      have ba := fr_bd h1.1
      have bb := fr_bd h1.2
      have hkk := ok.kind
      have l1 := lookE k x y t z a b ht h h1.1 h1.2
      have e0 : riE k x y t z a b = if giB x y a b = true then 0 else if riN x y a b = true then 0 else 60 := by unfold riE; rw [if_pos h, if_neg (by rw [hf]; decide)]
      cases hg : giB x y a b
      · rw [hg] at e0 l1
        rw [if_neg (by decide)] at e0
        cases hr : riN x y a b
        · rw [hr, if_neg (by decide)] at e0
          have e1 : riB k x y t z a b = false := by unfold riB; rw [e0]; rfl
          rw [riV_no e1, e1, e0]
          exact ringOut k x y t z a b _ _ _ _ l1 hr w
        · rw [hr, if_pos rfl] at e0
          by_cases k1 : k = 1
          · subst k1
            have e1 : riB 1 x y t z a b = false := by unfold riB; rw [hg]; simp
            rw [riV_no e1, e1, e0]
            exact ringB 1 x y t z a b _ _ _ _ l1 hr _ _ _ (beyondP x y t z _ _ false) w
          · have e1 : riB k x y t z a b = true := by unfold riB; rw [e0]; simp [k1]
            rw [riV_yes e1, e1, e0]
            unfold riX riY
            rw [hg]
            simp only [Bool.false_eq_true, if_false]
            by_cases k5 : k = 5
            · subst k5
              rw [if_pos rfl, if_pos rfl]
              exact ringB 5 x y t z a b _ _ _ _ l1 hr _ _ _ (beyondB x y t z _ _ false hx hy (by omega) (by omega)) w
            · rw [if_neg k5, if_neg k5]
              exact ringB k x y t z a b _ _ _ _ l1 hr _ _ _ (beyondG k x y t z _ _ false ht ok (by omega) (by omega) (by omega)) w
      · rw [hg] at e0 l1
        rw [if_pos rfl] at e0
        have e1 : riB k x y t z a b = true := by unfold riB; rw [e0, hg]; simp
        rw [riV_yes e1, e1, e0]
        unfold riX riY
        rw [hg, if_pos rfl, if_pos rfl]
        exact ringIn k x y t z a b _ _ _ _ l1 w
    · have e0 : riE k x y t z a b = 5 := by unfold riE; rw [if_pos h, if_pos hf]
      have e1 : riB k x y t z a b = false := by unfold riB; rw [e0]; rfl
      rw [riV_no e1, e1, e0]
      exact ringX k x y t z a b 5 rfl (lookF k x y t z a b ht h hf) w
  · have e0 : riE k x y t z a b = 9 := by unfold riE; rw [if_neg h]
    have e1 : riB k x y t z a b = false := by unfold riB; rw [e0]; rfl
    rw [riV_no e1, e1, e0]
    exact ringX k x y t z a b 9 rfl (lookNo k x y t z a b ht h) w
end Go.Proofs.YtjndljjpbkfmiaaGreatDoor.Fd
