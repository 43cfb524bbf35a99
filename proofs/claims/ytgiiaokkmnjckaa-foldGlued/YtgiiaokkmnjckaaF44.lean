/- What stands turn by turn on a place's way home. Nothing of the program in it. -/
import Derived.Test.YtgiiaokkmnjckaaF43
namespace Go.Proofs.Ytgiiaokkmnjckaa
namespace Fp
open Fo
set_option linter.unusedVariables false

def inn (s v : Int) : Prop := s = 0 ∨ (0 ≤ v ∧ v < s)
def aid (k y t z : Int) : Prop := ∀ v, gv k y t z v = v ∧ gw k y t z v = v
def cou (x y : Int) (tn : Nat) (u v : Int) : Int := if 0 < x ∧ tn % 2 = 0 then u else v
def sdu (x y : Int) (tn : Nat) : Int := if 0 < x ∧ tn % 2 = 0 then x else y
def STu (k x y t z CX CY : Int) (tn : Nat) (u v : Int) : Prop := (cx k x y t z u v = CX ∧ cy k x y t z u v = CY) ∧
  (tn = 0 → -1032 ≤ u ∧ u ≤ 1032 ∧ -1032 ≤ v ∧ v ≤ 1032) ∧
  (tn = 1 → 0 < x → 0 < y → inn x u ∧ -(2066 * y) ≤ v ∧ v ≤ 2066 * y) ∧
  (tn = 2 → 0 < x → 0 < y → inn y v ∧ (inn x u ∨ aid k y t z) ∧ -(2070 * x) ≤ u ∧ u ≤ 2070 * x) ∧
  (1 ≤ tn → ¬ (0 < x ∧ 0 < y) → inn x u ∧ inn y v ∧ -1100 ≤ u ∧ u ≤ 1100 ∧ -1100 ≤ v ∧ v ≤ 1100) ∧
  (tn = 3 → inn x u ∧ inn y v)
def JJu (k x y t z CX CY : Int) (tn m : Nat) (u v : Int) : Prop := (cx k x y t z u v = CX ∧ cy k x y t z u v = CY) ∧
  (tn = 0 → 0 < x → Cm x 1032 m u ∧ (0 < y → Tv (cc k y t z) y 1032 m v) ∧ (¬ 0 < y → -1032 ≤ v ∧ v ≤ 1032)) ∧
  (tn = 0 → ¬ 0 < x → 0 < y ∧ Cm y 1032 m v ∧ -1032 ≤ u ∧ u ≤ 1032) ∧
  (tn = 1 → 0 < x ∧ 0 < y ∧ Cm y 2066 m v ∧ Tv (cc k x (3 - t) z) x 1 m u ∧ (inn x u ∨ aid k y t z)) ∧
  (tn = 2 → 0 < x → 0 < y → Cm x 2070 m u ∧ inn y v ∧ (inn x u ∨ aid k y t z)) ∧
  (tn = 2 → ¬ (0 < x ∧ 0 < y) → m = 0 ∧ inn x u ∧ inn y v ∧ (0 < x ∨ 0 < y) ∧ -1100 ≤ u ∧ u ≤ 1100 ∧ -1100 ≤ v ∧ v ≤ 1100) ∧ tn < 3
theorem aidA {k x y t : Int} (G : Gl k x y t) (hy : y = 0) (z : Int) : aid k y t z := fun v => by
  have a := G.ended; have b := G.torus; have c := G.kind
  have hk : k = 2 := by rcases c with h | h | h <;> first | exact h | (have := a (by omega); omega)
  exact gv_id ⟨.inl hk, fun e => by have := b hk (.inr e); omega⟩ v
theorem aidB {k x y t : Int} (G : Gl k x y t) (hx : x = 0) (z : Int) : aid k x (3 - t) z := aidA G.swap hx z
/-- Along the height the width stays home, or the map A leaves what is across. -/
theorem keepB {k x y t : Int} (G : Gl k x y t) (hx : 0 < x) (z u yy : Int) (h : inn x u ∨ aid k yy t z) : (inn x (gv k x (3 - t) z u) ∨ aid k yy t z) ∧ (inn x (gw k x (3 - t) z u) ∨ aid k yy t z) := by
  rcases h with h | h
  · by_cases k4 : k = 4
    · have h' : 0 ≤ u ∧ u < x := by unfold inn at h; omega
      have := gv_in (t := 3 - t) (z := z) h'
      subst k4
      exact ⟨.inl (.inr this.1), .inl (.inr this.2)⟩
    · have hk : k = 2 ∨ k = 3 := by have := G.kind; omega
      by_cases t1 : t = 1
      · exact ⟨.inr (gv_id ⟨hk, by omega⟩), .inr (gv_id ⟨hk, by omega⟩)⟩
      · have := gv_id (y := x) (z := z) (t := 3 - t) ⟨hk, by omega⟩ u
        rw [this.1, this.2]
        exact ⟨.inl h, .inl h⟩
  · exact ⟨.inr h, .inr h⟩

theorem l_up {k x y t z CX CY : Int} (G : Gl k x y t) (zA : k = 2 ∨ k = 3 → t = 2 → -y ≤ z ∧ z ≤ y) (zB : k = 2 ∨ k = 3 → 3 - t = 2 → -x ≤ z ∧ z ≤ x) (sx : x ≤ 64) (sy : y ≤ 64) {tn m : Nat} {u v : Int} (h : JJu k x y t z CX CY tn m u v) (hco : cou x y tn u v < 0) : JJu k x y t z CX CY tn (m + 1) (if 0 < x ∧ tn % 2 = 0 then u + x else gv k x (3 - t) z u) (if 0 < x ∧ tn % 2 = 0 then gv k y t z v else v + y) := by
  obtain ⟨hc, h0, h0', h1, h2, h2', h3⟩ := h
  have hw := G.wide
  have hh := G.high
  unfold cou at hco
  obtain rfl | rfl | rfl : tn = 0 ∨ tn = 1 ∨ tn = 2 := by omega
  · by_cases hx : 0 < x
    · have e : (0 < x ∧ 0 % 2 = 0) := ⟨hx, rfl⟩
      rw [if_pos e] at hco
      
      rw [if_pos e, if_pos e]
      obtain ⟨c1, c2, c3⟩ := h0 rfl hx
      have cl := gl_a z u v G (by omega)
      refine ⟨⟨cl.1.trans hc.1, cl.2.trans hc.2⟩, fun _ _ => ⟨c1.up (by omega) hco, fun hy => (Tv.step (c2 hy) (by omega) G.kind (fun _ q => zA (.inl ‹_›) q)).1, fun hy => ?_⟩, fun _ q => absurd hx q, fun q => absurd q (by decide), fun q => absurd q (by decide), fun q => absurd q (by decide), by decide⟩
      have := aidA G (by omega : y = 0)
      rw [(this z v).1]
      exact c3 hy
    · have e : ¬ (0 < x ∧ 0 % 2 = 0) := fun q => hx q.1
      rw [if_neg e] at hco
      
      rw [if_neg e, if_neg e]
      obtain ⟨c0, c1, c2⟩ := h0' rfl hx
      have cl := gl_b z u v G (by omega)
      refine ⟨⟨cl.1.trans hc.1, cl.2.trans hc.2⟩, fun _ q => absurd q hx, fun _ _ => ⟨c0, c1.up (by omega) hco, ?_⟩, fun q => absurd q (by decide), fun q => absurd q (by decide), fun q => absurd q (by decide), by decide⟩
      have := aidB G (by omega : x = 0)
      rw [(this z u).1]
      exact c2
  · have e : ¬ (0 < x ∧ 1 % 2 = 0) := fun q => absurd q.2 (by decide)
    rw [if_neg e] at hco
    
    rw [if_neg e, if_neg e]
    obtain ⟨hx, hy, c1, c2, c3⟩ := h1 rfl
    have cl := gl_b z u v G (by omega)
    exact ⟨⟨cl.1.trans hc.1, cl.2.trans hc.2⟩, fun q => absurd q (by decide), fun q => absurd q (by decide), fun _ => ⟨hx, hy, c1.up (by omega) hco, (Tv.step c2 (by omega) G.kind (fun q r => zB (.inl q) r)).1, (keepB G hx z u y c3).1⟩, fun q => absurd q (by decide), fun q => absurd q (by decide), by decide⟩
  · by_cases hb : 0 < x ∧ 0 < y
    · obtain ⟨hx, hy⟩ := hb
      have e : (0 < x ∧ 2 % 2 = 0) := ⟨hx, rfl⟩
      rw [if_pos e] at hco
      
      rw [if_pos e, if_pos e]
      obtain ⟨c1, c2, c3⟩ := h2 rfl hx hy
      have ai : aid k y t z := c3.elim (fun q => absurd q (by unfold inn; omega)) id
      have cl := gl_a z u v G (by omega)
      rw [(ai v).1] at cl ⊢
      exact ⟨⟨cl.1.trans hc.1, cl.2.trans hc.2⟩, fun q => absurd q (by decide), fun q => absurd q (by decide), fun q => absurd q (by decide), fun _ _ _ => ⟨c1.up (by omega) hco, c2, .inr ai⟩, fun _ q => absurd ⟨hx, hy⟩ q, by decide⟩
    · obtain ⟨_, c1, c2, c3, _⟩ := h2' rfl hb
      unfold inn at c1 c2
      by_cases hx : 0 < x
      · rw [if_pos ⟨hx, rfl⟩] at hco
        
        omega
      · rw [if_neg (fun q => hx q.1)] at hco
        
        omega

theorem l_dn {k x y t z CX CY : Int} (G : Gl k x y t) (zA : k = 2 ∨ k = 3 → t = 2 → -y ≤ z ∧ z ≤ y) (zB : k = 2 ∨ k = 3 → 3 - t = 2 → -x ≤ z ∧ z ≤ x) (sx : x ≤ 64) (sy : y ≤ 64) {tn m : Nat} {u v : Int} (h : JJu k x y t z CX CY tn m u v) (hco : sdu x y tn ≤ cou x y tn u v) : JJu k x y t z CX CY tn (m + 1) (if 0 < x ∧ tn % 2 = 0 then u - x else gw k x (3 - t) z u) (if 0 < x ∧ tn % 2 = 0 then gw k y t z v else v - y) := by
  obtain ⟨hc, h0, h0', h1, h2, h2', h3⟩ := h
  have hw := G.wide
  have hh := G.high
  unfold cou sdu at hco
  obtain rfl | rfl | rfl : tn = 0 ∨ tn = 1 ∨ tn = 2 := by omega
  · by_cases hx : 0 < x
    · have e : (0 < x ∧ 0 % 2 = 0) := ⟨hx, rfl⟩
      rw [if_pos e] at hco
      rw [if_pos e] at hco
      rw [if_pos e, if_pos e]
      obtain ⟨c1, c2, c3⟩ := h0 rfl hx
      have cl := gl_a' z u v G (by omega)
      refine ⟨⟨cl.1.trans hc.1, cl.2.trans hc.2⟩, fun _ _ => ⟨c1.down (by omega) hco, fun hy => (Tv.step (c2 hy) (by omega) G.kind (fun _ q => zA (.inl ‹_›) q)).2, fun hy => ?_⟩, fun _ q => absurd hx q, fun q => absurd q (by decide), fun q => absurd q (by decide), fun q => absurd q (by decide), by decide⟩
      have := aidA G (by omega : y = 0)
      rw [(this z v).2]
      exact c3 hy
    · have e : ¬ (0 < x ∧ 0 % 2 = 0) := fun q => hx q.1
      rw [if_neg e] at hco
      rw [if_neg e] at hco
      rw [if_neg e, if_neg e]
      obtain ⟨c0, c1, c2⟩ := h0' rfl hx
      have cl := gl_b' z u v G (by omega)
      refine ⟨⟨cl.1.trans hc.1, cl.2.trans hc.2⟩, fun _ q => absurd q hx, fun _ _ => ⟨c0, c1.down (by omega) hco, ?_⟩, fun q => absurd q (by decide), fun q => absurd q (by decide), fun q => absurd q (by decide), by decide⟩
      have := aidB G (by omega : x = 0)
      rw [(this z u).2]
      exact c2
  · have e : ¬ (0 < x ∧ 1 % 2 = 0) := fun q => absurd q.2 (by decide)
    rw [if_neg e] at hco
    rw [if_neg e] at hco
    rw [if_neg e, if_neg e]
    obtain ⟨hx, hy, c1, c2, c3⟩ := h1 rfl
    have cl := gl_b' z u v G (by omega)
    exact ⟨⟨cl.1.trans hc.1, cl.2.trans hc.2⟩, fun q => absurd q (by decide), fun q => absurd q (by decide), fun _ => ⟨hx, hy, c1.down (by omega) hco, (Tv.step c2 (by omega) G.kind (fun q r => zB (.inl q) r)).2, (keepB G hx z u y c3).2⟩, fun q => absurd q (by decide), fun q => absurd q (by decide), by decide⟩
  · by_cases hb : 0 < x ∧ 0 < y
    · obtain ⟨hx, hy⟩ := hb
      have e : (0 < x ∧ 2 % 2 = 0) := ⟨hx, rfl⟩
      rw [if_pos e] at hco
      rw [if_pos e] at hco
      rw [if_pos e, if_pos e]
      obtain ⟨c1, c2, c3⟩ := h2 rfl hx hy
      have ai : aid k y t z := c3.elim (fun q => absurd q (by unfold inn; omega)) id
      have cl := gl_a' z u v G (by omega)
      rw [(ai v).2] at cl ⊢
      exact ⟨⟨cl.1.trans hc.1, cl.2.trans hc.2⟩, fun q => absurd q (by decide), fun q => absurd q (by decide), fun q => absurd q (by decide), fun _ _ _ => ⟨c1.down (by omega) hco, c2, .inr ai⟩, fun _ q => absurd ⟨hx, hy⟩ q, by decide⟩
    · obtain ⟨_, c1, c2, c3, _⟩ := h2' rfl hb
      unfold inn at c1 c2
      by_cases hx : 0 < x
      · rw [if_pos ⟨hx, rfl⟩] at hco
        rw [if_pos ⟨hx, rfl⟩] at hco
        omega
      · rw [if_neg (fun q => hx q.1)] at hco
        rw [if_neg (fun q => hx q.1)] at hco
        omega

theorem l_J {k x y t z CX CY : Int} (G : Gl k x y t) (zA : k = 2 ∨ k = 3 → t = 2 → -y ≤ z ∧ z ≤ y) (zB : k = 2 ∨ k = 3 → 3 - t = 2 → -x ≤ z ∧ z ≤ x) (sx : x ≤ 64) (sy : y ≤ 64) {tn m : Nat} {u v : Int} (h : JJu k x y t z CX CY tn m u v) : (-200000 ≤ u ∧ u ≤ 200000) ∧ (-200000 ≤ v ∧ v ≤ 200000) ∧ m < 4000 := by
  obtain ⟨hc, h0, h0', h1, h2, h2', h3⟩ := h
  have hw := G.wide
  have hh := G.high
  obtain rfl | rfl | rfl : tn = 0 ∨ tn = 1 ∨ tn = 2 := by omega
  · by_cases hx : 0 < x
    · obtain ⟨c1, c2, c3⟩ := h0 rfl hx
      have b1 := c1.bd (by omega)
      have b2 := c1.2.2
      by_cases hy : 0 < y
      · have b3 := (c2 hy).bd (by omega) (fun q r => zA (.inr q) r) b2
        omega
      · have b3 := c3 hy
        omega
    · obtain ⟨c0, c1, c2⟩ := h0' rfl hx
      have b1 := c1.bd (by omega)
      have b2 := c1.2.2
      omega
  · obtain ⟨hx, hy, c1, c2, c3⟩ := h1 rfl
    have b1 := c1.bd (by omega)
    have b2 := c1.2.2
    have b3 := c2.bd (by omega) (fun q r => zB (.inr q) r) b2
    omega
  · by_cases hb : 0 < x ∧ 0 < y
    · obtain ⟨c1, c2, c3⟩ := h2 rfl hb.1 hb.2
      have b1 := c1.bd (by omega)
      have b2 := c1.2.2
      unfold inn at c2
      omega
    · obtain ⟨c0, c1, c2, c3, c4⟩ := h2' rfl hb
      omega
theorem l_in {k x y t z CX CY : Int} (G : Gl k x y t) (sx : x ≤ 64) (sy : y ≤ 64) {tn : Nat} {u v : Int} (n : Nat) (hn : (n : Int) = (if 0 < x then 1 else 0) + (if 0 < y then 1 else 0)) (ht : tn < 3) (hi : tn % 2 < n) (h : STu k x y t z CX CY tn u v) : JJu k x y t z CX CY tn 0 u v := by
  obtain ⟨hc, h0, h1, h2, h3, h4⟩ := h
  have hw := G.wide
  have hh := G.high
  obtain rfl | rfl | rfl : tn = 0 ∨ tn = 1 ∨ tn = 2 := by omega
  · have b := h0 rfl
    refine ⟨hc, fun _ hx => ⟨Cm.start (by decide) (by omega) (by omega), fun hy => Tv.start (by omega) (by omega), fun _ => b.2.2⟩, fun _ hx => ?_, fun q => absurd q (by decide), fun q => absurd q (by decide), fun q => absurd q (by decide), by decide⟩
    rw [if_neg hx] at hn
    by_cases hy : 0 < y
    · exact ⟨hy, Cm.start (by decide) (by omega) (by omega), b.1, b.2.1⟩
    · rw [if_neg hy] at hn; omega
  · have hx : 0 < x := Classical.byContradiction fun q => by rw [if_neg q] at hn; split at hn <;> omega
    have hy : 0 < y := Classical.byContradiction fun q => by rw [if_neg q] at hn; split at hn <;> omega
    obtain ⟨b1, b2⟩ := h1 rfl hx hy
    have b3 := b1
    unfold inn at b3
    exact ⟨hc, fun q => absurd q (by decide), fun q => absurd q (by decide), fun _ => ⟨hx, hy, Cm.start (by decide) b2.1 b2.2, Tv.start (by omega) (by omega), .inl b1⟩, fun q => absurd q (by decide), fun q => absurd q (by decide), by decide⟩
  · refine ⟨hc, fun q => absurd q (by decide), fun q => absurd q (by decide), fun q => absurd q (by decide), fun _ hx hy => ?_, fun _ hb => ?_, by decide⟩
    · obtain ⟨b1, b2, b3⟩ := h2 rfl hx hy
      exact ⟨Cm.start (by decide) b3.1 b3.2, b1, b2⟩
    · obtain ⟨b1, b2, b3⟩ := h3 (by decide) hb
      refine ⟨rfl, b1, b2, ?_, b3⟩
      by_cases hx : 0 < x
      · exact .inl hx
      · rw [if_neg hx] at hn
        by_cases hy : 0 < y
        · exact .inr hy
        · rw [if_neg hy] at hn; omega
theorem l_ou {k x y t z CX CY : Int} (G : Gl k x y t) (zA : k = 2 ∨ k = 3 → t = 2 → -y ≤ z ∧ z ≤ y) (zB : k = 2 ∨ k = 3 → 3 - t = 2 → -x ≤ z ∧ z ≤ x) (sx : x ≤ 64) (sy : y ≤ 64) {tn m : Nat} {u v : Int} (h : JJu k x y t z CX CY tn m u v) (h0' : 0 ≤ cou x y tn u v) (h1' : cou x y tn u v < sdu x y tn) : STu k x y t z CX CY (tn + 1) u v := by
  have bd := l_J G zA zB sx sy h
  obtain ⟨hc, h0, h0_, h1, h2, h2', h3⟩ := h
  have hw := G.wide
  have hh := G.high
  unfold cou at h0' h1'
  unfold sdu at h1'
  obtain rfl | rfl | rfl : tn = 0 ∨ tn = 1 ∨ tn = 2 := by omega
  · by_cases hx : 0 < x
    · rw [if_pos ⟨hx, rfl⟩] at h0' h1'
      rw [if_pos ⟨hx, rfl⟩] at h1'
      obtain ⟨c1, c2, c3⟩ := h0 rfl hx
      refine ⟨hc, fun q => absurd q (by decide), fun _ _ hy => ?_, fun q => absurd q (by decide), fun _ hb => ?_, fun q => absurd q (by decide)⟩
      · have b3 := (c2 hy).bd (by omega) (fun q r => zA (.inr q) r) c1.2.2
        exact ⟨.inr ⟨h0', h1'⟩, by omega, by omega⟩
      · have hy : ¬ 0 < y := fun q => hb ⟨hx, q⟩
        have b := c3 hy
        exact ⟨.inr ⟨h0', h1'⟩, .inl (by omega), by omega, by omega, by omega, by omega⟩
    · rw [if_neg (fun q => hx q.1)] at h0' h1'
      rw [if_neg (fun q => hx q.1)] at h1'
      obtain ⟨c0, c1, c2⟩ := h0_ rfl hx
      exact ⟨hc, fun q => absurd q (by decide), fun _ q => absurd q hx, fun q => absurd q (by decide), fun _ hb => ⟨.inl (by omega), .inr ⟨h0', h1'⟩, by omega, by omega, by omega, by omega⟩, fun q => absurd q (by decide)⟩
  · rw [if_neg (fun q => absurd q.2 (by decide))] at h0' h1'
    rw [if_neg (fun q => absurd q.2 (by decide))] at h1'
    obtain ⟨hx, hy, c1, c2, c3⟩ := h1 rfl
    have b3 := c2.bd (by omega) (fun q r => zB (.inr q) r) c1.2.2
    exact ⟨hc, fun q => absurd q (by decide), fun q => absurd q (by decide), fun _ _ _ => ⟨.inr ⟨h0', h1'⟩, c3, by omega, by omega⟩, fun _ hb => absurd ⟨hx, hy⟩ hb, fun q => absurd q (by decide)⟩
  · by_cases hb : 0 < x ∧ 0 < y
    · rw [if_pos ⟨hb.1, rfl⟩] at h0' h1'
      rw [if_pos ⟨hb.1, rfl⟩] at h1'
      obtain ⟨c1, c2, c3⟩ := h2 rfl hb.1 hb.2
      exact ⟨hc, fun q => absurd q (by decide), fun q => absurd q (by decide), fun q => absurd q (by decide), fun _ q => absurd hb q, fun _ => ⟨.inr ⟨h0', h1'⟩, c2⟩⟩
    · obtain ⟨_, c1, c2, _, c4⟩ := h2' rfl hb
      exact ⟨hc, fun q => absurd q (by decide), fun q => absurd q (by decide), fun q => absurd q (by decide), fun _ _ => ⟨c1, c2, c4⟩, fun _ => ⟨c1, c2⟩⟩
theorem l_sk {k x y t z CX CY : Int} (G : Gl k x y t) (sx : x ≤ 64) (sy : y ≤ 64) {tn : Nat} {u v : Int} (n : Nat) (hn : (n : Int) = (if 0 < x then 1 else 0) + (if 0 < y then 1 else 0)) (hi : n ≤ tn % 2) (h : STu k x y t z CX CY tn u v) : STu k x y t z CX CY (tn + 1) u v := by
  obtain ⟨hc, h0, h1, h2, h3, h4⟩ := h
  have hw := G.wide
  have hh := G.high
  have hb : ¬ (0 < x ∧ 0 < y) := fun q => by rw [if_pos q.1, if_pos q.2] at hn; omega
  have key : inn x u ∧ inn y v ∧ -1100 ≤ u ∧ u ≤ 1100 ∧ -1100 ≤ v ∧ v ≤ 1100 := by
    by_cases h1 : 1 ≤ tn
    · exact h3 h1 hb
    · have e : tn = 0 := by omega
      have b := h0 e
      subst e
      have hx : ¬ 0 < x := fun q => by rw [if_pos q] at hn; split at hn <;> omega
      have hy : ¬ 0 < y := fun q => by rw [if_pos q] at hn; split at hn <;> omega
      exact ⟨.inl (by omega), .inl (by omega), by omega, by omega, by omega, by omega⟩
  exact ⟨hc, fun q => by omega, fun _ a b => absurd ⟨a, b⟩ hb, fun _ a b => absurd ⟨a, b⟩ hb, fun _ _ => key, fun _ => ⟨key.1, key.2.1⟩⟩
theorem l_fin {k x y t z CX CY : Int} {u v : Int} (h : STu k x y t z CX CY 3 u v) : u = CX ∧ v = CY := by
  obtain ⟨hc, _, _, _, _, h4⟩ := h
  obtain ⟨a, b⟩ := h4 rfl
  exact ⟨(cx_in k t z a b).symm.trans hc.1, (cy_in k t z a b).symm.trans hc.2⟩
end Fp
end Go.Proofs.Ytgiiaokkmnjckaa
