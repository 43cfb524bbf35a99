/- What the two maps of a glued grid do, and how a place comes home by them. Nothing of the program in it. -/
import Derived.Test.YtgiiaokkmnjckabFo
namespace Go.Proofs.Ytgiiaokkmnjckab
namespace Fo
set_option linter.unusedVariables false

/-- A place comes home along a side: s the side, v where it is, after n steps; B: at most so many sides off. -/
def Cm (s B : Int) (n : Nat) (v : Int) : Prop := (v < 0 → (n : Int) * s ≤ v + B * s) ∧ (s ≤ v → (n : Int) * s ≤ B * s - v) ∧ (n : Int) ≤ B
theorem Cm.start {s B v : Int} (hB : 0 ≤ B) (h1 : -(B * s) ≤ v) (h2 : v ≤ B * s) : Cm s B 0 v := ⟨fun _ => by simp; omega, fun _ => by simp; omega, by simpa using hB⟩
theorem Cm.lt {s B v : Int} {n : Nat} (h : Cm s B n v) (hs : 1 ≤ s) (hv : v < 0 ∨ s ≤ v) : (n : Int) + 1 ≤ B := by
  have hm : (n : Int) * s < B * s := by
    rcases hv with hv | hv
    · have := h.1 hv; omega
    · have := h.2.1 hv; omega
  have := Int.lt_of_mul_lt_mul_right hm (by omega)
  omega
theorem Cm.up {s B v : Int} {n : Nat} (h : Cm s B n v) (hs : 1 ≤ s) (hv : v < 0) : Cm s B (n + 1) (v + s) := by
  have h1 := h.1 hv
  have hl := h.lt hs (.inl hv)
  have e : ((n + 1 : Nat) : Int) * s = (n : Int) * s + s := by rw [Int.natCast_add, Int.add_mul]; simp
  refine ⟨fun _ => by rw [e]; omega, fun q => by omega, by omega⟩
theorem Cm.down {s B v : Int} {n : Nat} (h : Cm s B n v) (hs : 1 ≤ s) (hv : s ≤ v) : Cm s B (n + 1) (v - s) := by
  have h1 := h.2.1 hv
  have hl := h.lt hs (.inr hv)
  have e : ((n + 1 : Nat) : Int) * s = (n : Int) * s + s := by rw [Int.natCast_add, Int.add_mul]; simp
  refine ⟨fun q => by omega, fun _ => by rw [e]; omega, by omega⟩
theorem Cm.bd {s B v : Int} {n : Nat} (h : Cm s B n v) (hs : 1 ≤ s) : -(B * s) ≤ v ∧ v ≤ B * s + s := by
  have hp : 0 ≤ (n : Int) * s := Int.mul_nonneg (by omega) (by omega)
  have hB : 0 ≤ B * s := Int.mul_nonneg (by have := h.2.2; omega) (by omega)
  by_cases q : v < 0
  · have := h.1 q; omega
  · by_cases r : s ≤ v
    · have := h.2.1 r; omega
    · omega
/-- What is across the way, after n steps: r its side, c where it is flipped, C sides off at first. -/
def Tv (c r C : Int) (n : Nat) (v : Int) : Prop := (-(C * r + (n : Int) * r) ≤ v ∧ v ≤ C * r + (n : Int) * r) ∨ (-(C * r + (n : Int) * r) ≤ c - v ∧ c - v ≤ C * r + (n : Int) * r)
def cc (k y z : Int) : Int := if k = 3 then y - 1 + z else y - 1
theorem Tv.start {c r C v : Int} (h1 : -(C * r) ≤ v) (h2 : v ≤ C * r) : Tv c r C 0 v := .inl (by simp; omega)
theorem Tv.step {k y t z C : Int} {n : Nat} {v : Int} (h : Tv (cc k y z) y C n v) (hy : 0 ≤ y) (hk : k = 2 ∨ k = 3 ∨ k = 4) (hz : k = 2 → t = 2 → -y ≤ z ∧ z ≤ y) : Tv (cc k y z) y C (n + 1) (gv k y t z v) ∧ Tv (cc k y z) y C (n + 1) (gw k y t z v) := by
  have e : ((n + 1 : Nat) : Int) * y = (n : Int) * y + y := by rw [Int.natCast_add, Int.add_mul]; simp
  unfold Tv at *
  rw [e]
  rcases hk with rfl | rfl | rfl
  · have e1 : cc 2 y z = y - 1 := if_neg (by decide)
    have e2 : gv 2 y t z v = (if t = 2 then v + z else v) := if_pos rfl
    have e3 : gw 2 y t z v = (if t = 2 then v - z else v) := if_pos rfl
    rw [e1] at h ⊢
    rw [e2, e3]
    by_cases ht : t = 2
    · have := hz rfl ht
      rw [if_pos ht, if_pos ht]
      omega
    · rw [if_neg ht, if_neg ht]
      omega
  · have e1 : cc 3 y z = y - 1 + z := if_pos rfl
    have e2 : gv 3 y t z v = (if t = 2 then y - 1 + z - v else v) := (if_neg (by decide)).trans (if_pos rfl)
    have e3 : gw 3 y t z v = (if t = 2 then y - 1 + z - v else v) := (if_neg (by decide)).trans (if_pos rfl)
    rw [e1] at h ⊢
    rw [e2, e3]
    by_cases ht : t = 2
    · rw [if_pos ht]
      omega
    · rw [if_neg ht]
      omega
  · have e1 : cc 4 y z = y - 1 := if_neg (by decide)
    have e2 : gv 4 y t z v = y - 1 - v := (if_neg (by decide)).trans (if_neg (by decide))
    have e3 : gw 4 y t z v = y - 1 - v := (if_neg (by decide)).trans (if_neg (by decide))
    rw [e1] at h ⊢
    rw [e2, e3]
    omega
theorem Tv.bd {k y z C : Int} {n : Nat} {v B : Int} (h : Tv (cc k y z) y C n v) (hy : 1 ≤ y) (hz : k = 3 → -y ≤ z ∧ z ≤ y) (hn : (n : Int) ≤ B) : -((C + B + 2) * y) ≤ v ∧ v ≤ (C + B + 2) * y := by
  have h1 : (n : Int) * y ≤ B * y := Int.mul_le_mul_of_nonneg_right hn (by omega)
  have e : (C + B + 2) * y = C * y + B * y + 2 * y := by rw [Int.add_mul, Int.add_mul]
  rw [e]
  unfold Tv cc at h
  by_cases q : k = 3
  · have := hz q
    rw [if_pos q] at h
    omega
  · rw [if_neg q] at h
    omega
/-- Where the map A leaves what is across. -/
theorem gv_id {k y t z : Int} (h : (k = 2 ∨ k = 3) ∧ ¬ t = 2) (v : Int) : gv k y t z v = v ∧ gw k y t z v = v := by
  unfold gv gw
  rcases h.1 with rfl | rfl
  · simp [h.2]
  · simp [h.2]
theorem gv_in {y z t v : Int} (h : 0 ≤ v ∧ v < y) : (0 ≤ gv 4 y t z v ∧ gv 4 y t z v < y) ∧ (0 ≤ gw 4 y t z v ∧ gw 4 y t z v < y) := by
  unfold gv gw
  simp
  omega
end Fo
end Go.Proofs.Ytgiiaokkmnjckab
