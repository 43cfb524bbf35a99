/- What the document's worth, twist and shift answer of the parts of a text. -/
import Derived.Test.YteegbhnfkcbnoaaDoorR10
namespace Go.Proofs.YteegbhnfkcbnoaaDoor
open Go.RowKit
set_option linter.unusedVariables false
set_option linter.unusedSimpArgs false
set_option maxRecDepth 100000
theorem worthD (s : ByteArray) (i : Nat) (hs : s.size ≤ maxLen) (hi : i ≤ s.size) (w : World) : Calls Tryd.prog 22 #[.string (s.extract i (Tp.dg s i))] w fun e w' => e = .returned (.int .i64 (Tp.wo (Tp.num s i) : Nat)) ∧ w' = w := by
  have hov := Sc.ov_is Sc.digitB hi
  have hle : Tp.dg s i ≤ s.size := hov.le
  have hsz : (s.extract i (Tp.dg s i)).size = Tp.dg s i - i := by rw [ByteArray.size_extract]; omega
  exact rWorthC (s.extract i (Tp.dg s i)) (by rw [hsz]; omega) (fun j hj => by
    rw [hsz] at hj
    rw [Sc.bt_ext s hle hj]
    have := hov.all (i + j) (by omega) (by show i + j < Tp.dg s i; omega)
    exact (digit_iff _).1 this) w

/-- A part whose places lie in the text. -/
structure Din (s : ByteArray) (p : Tp.Dp) : Prop where
  a1 : 0 ≤ p.at_
  a2 : p.at_ ≤ s.size
  en : p.en = Tp.dg s p.at_.toNat
  sg : p.sg < 0 ∨ (0 ≤ p.sg ∧ 0 ≤ p.fr ∧ p.fr ≤ s.size ∧ p.to = Tp.dg s p.fr.toNat)
theorem din_of {s : ByteArray} {i : Nat} {t : Tp.Tk} (h : Tp.Dok s i t) (hi : i ≤ s.size) : Din s t.p := by
  have h1 := h.at_
  have h2 := h.en
  have h3 := h.sg
  refine ⟨by omega, by omega, by rw [h1, h2, Int.toNat_natCast], ?_⟩
  rcases h3 with h3 | ⟨a, b, c, d⟩
  · exact .inl (by omega)
  · exact .inr ⟨by omega, by omega, by omega, d⟩
theorem shx_is {s : ByteArray} {K W H : Nat} {p : Tp.Dp} : Tp.shX s K p W H = decide (shx K p.st (Tp.dN s p) (Tp.dW s p) W H) := rfl

theorem din_eq {s : ByteArray} {p : Tp.Dp} (h : Din s p) (hg : 0 ≤ p.sg) : p = ⟨(p.at_.toNat : Nat), (p.en.toNat : Nat), p.st, (p.sg.toNat : Nat), (p.fr.toNat : Nat), (p.to.toNat : Nat)⟩ := by
  have h1 := h.a1
  have h2 := h.en
  have h3 := h.sg
  obtain ⟨a, b, c, d, e, f⟩ := p
  simp only at *
  have e1 : ((a.toNat : Nat) : Int) = a := by omega
  have e2 : ((b.toNat : Nat) : Int) = b := by omega
  have e3 : ((d.toNat : Nat) : Int) = d := by omega
  have e4 : ((e.toNat : Nat) : Int) = e := by omega
  have e5 : ((f.toNat : Nat) : Int) = f := by omega
  rw [e1, e2, e3, e4, e5]
/-- What shift asks of a part with a sign. -/
theorem din_y {s : ByteArray} {p : Tp.Dp} (h : Din s p) (hs : s.size ≤ maxLen) (hg : 0 ≤ p.sg) : p.fr.toNat ≤ p.to.toNat ∧ p.to.toNat ≤ s.size ∧ p.at_.toNat ≤ p.en.toNat ∧ p.en.toNat ≤ s.size ∧
    (∀ w, Calls Tryd.prog 22 #[.string (s.extract p.fr.toNat p.to.toNat)] w fun e w' => e = .returned (.int .i64 (Tp.dN s p : Nat)) ∧ w' = w) ∧ (∀ w, Calls Tryd.prog 22 #[.string (s.extract p.at_.toNat p.en.toNat)] w fun e w' => e = .returned (.int .i64 (Tp.dW s p : Nat)) ∧ w' = w) := by
  have a1 := h.a1
  have a2 := h.a2
  have h3 := h.sg
  have e1 : p.en.toNat = Tp.dg s p.at_.toNat := by rw [h.en, Int.toNat_natCast]
  have e2 : p.to.toNat = Tp.dg s p.fr.toNat := by
    rcases h3 with h3 | h3
    · omega
    · rw [h3.2.2.2, Int.toNat_natCast]
  have i1 : p.at_.toNat ≤ s.size := by omega
  have i2 : p.fr.toNat ≤ s.size := by omega
  rw [e1, e2]
  exact ⟨Tp.dg_ge i2, Tp.dg_le' i2, Tp.dg_ge i1, Tp.dg_le' i1, worthD s _ hs i2, worthD s _ hs i1⟩
theorem shift1C (s : ByteArray) (K W H : Nat) (p : Tp.Dp) (hd : Din s p) (hs : s.size ≤ maxLen) (g c : Nat) (w : World) (hc : Cs w g (dpl p)) : Calls Tryd.prog 24 #[.string s, .int .u8 K, .slice (some ⟨g, 0, none⟩) 1 c, .int .i64 W, .int .i64 H] w fun e w' => e = .returned (.tuple #[.int .i64 (Tp.shP s K p (Tp.plainD p) W H), .bool (Tp.shB s K p (Tp.plainD p) W H)]) ∧ w.grownBy w' none := by
  have q1 : (Tp.plainD p).sg = -1 := rfl
  by_cases hg : 0 ≤ p.sg
  · obtain ⟨l1, l2, l3, l4, hn, ho⟩ := din_y hd hs hg
    have hp := din_eq hd hg
    refine sh1y s K W H p.at_.toNat p.en.toNat p.sg.toNat p.fr.toNat p.to.toNat p.st (Tp.dN s p) (Tp.dW s p) l1 l2 l3 l4 hn ho _ _ ?_ ?_ g c w (by rw [← hp]; exact hc)
    · unfold Hid Tp.shP
      rw [q1, shx_is]
      by_cases z : shx K p.st (Tp.dN s p) (Tp.dW s p) W H
      · rw [if_pos ⟨hg, decide_eq_true z⟩, if_pos z]; omega
      · rw [if_neg (fun k => z (of_decide_eq_true k.2)), if_neg (by omega), if_neg z]
    · unfold Hid Tp.shB
      rw [q1, shx_is, decide_eq_true hg]
      simp
  · have e1 : Tp.shP s K p (Tp.plainD p) W H = 0 := by unfold Tp.shP; rw [q1, if_neg (by omega), if_neg (by omega)]
    have e2 : Tp.shB s K p (Tp.plainD p) W H = false := by unfold Tp.shB; rw [q1]; simp; omega
    rw [e1, e2]
    exact shift1n s K W H p (by omega) g c w hc
theorem shift2C (s : ByteArray) (K W H : Nat) (p q : Tp.Dp) (hd : Din s p) (hq : Din s q) (hs : s.size ≤ maxLen) (g c : Nat) (w : World) (hc : Cs w g (dpl p ++ dpl q)) : Calls Tryd.prog 24 #[.string s, .int .u8 K, .slice (some ⟨g, 0, none⟩) 2 c, .int .i64 W, .int .i64 H] w fun e w' => e = .returned (.tuple #[.int .i64 (Tp.shP s K p q W H), .bool (Tp.shB s K p q W H)]) ∧ w.grownBy w' none := by
  by_cases hg : 0 ≤ p.sg
  · obtain ⟨l1, l2, l3, l4, hn, ho⟩ := din_y hd hs hg
    have hp := din_eq hd hg
    by_cases gg : 0 ≤ q.sg
    · obtain ⟨m1, m2, m3, m4, mn, mo⟩ := din_y hq hs gg
      have hqq := din_eq hq gg
      refine sh2yy s K W H p.at_.toNat p.en.toNat p.sg.toNat p.fr.toNat p.to.toNat p.st (Tp.dN s p) (Tp.dW s p) l1 l2 l3 l4 hn ho q.at_.toNat q.en.toNat q.sg.toNat q.fr.toNat q.to.toNat q.st (Tp.dN s q) (Tp.dW s q) m1 m2 m3 m4 mn mo _ _ ?_ ?_ g c w (by rw [← hp, ← hqq]; exact hc)
      · unfold Hid Tp.shP
        rw [shx_is]
        by_cases z : shx K p.st (Tp.dN s p) (Tp.dW s p) W H
        · rw [if_pos ⟨hg, decide_eq_true z⟩, if_pos z]; omega
        · rw [if_neg (fun k => z (of_decide_eq_true k.2)), if_pos ⟨gg, .inl hg⟩, if_neg z]; omega
      · unfold Hid Tp.shB
        rw [decide_eq_true hg, decide_eq_true gg]
        simp
    · refine sh2yn s K W H p.at_.toNat p.en.toNat p.sg.toNat p.fr.toNat p.to.toNat p.st (Tp.dN s p) (Tp.dW s p) l1 l2 l3 l4 hn ho q (by omega) _ _ ?_ ?_ g c w (by rw [← hp]; exact hc)
      · unfold Hid Tp.shP
        rw [shx_is]
        by_cases z : shx K p.st (Tp.dN s p) (Tp.dW s p) W H
        · rw [if_pos ⟨hg, decide_eq_true z⟩, if_pos z]; omega
        · rw [if_neg (fun k => z (of_decide_eq_true k.2)), if_neg (fun k => gg k.1), if_neg z]
      · unfold Hid Tp.shB
        rw [shx_is, decide_eq_true hg, decide_eq_false gg]
        simp
  · by_cases gg : 0 ≤ q.sg
    · obtain ⟨m1, m2, m3, m4, mn, mo⟩ := din_y hq hs gg
      have hqq := din_eq hq gg
      refine sh2ny s K W H p (by omega) q.at_.toNat q.en.toNat q.sg.toNat q.fr.toNat q.to.toNat q.st (Tp.dN s q) (Tp.dW s q) m1 m2 m3 m4 mn mo _ _ ?_ ?_ g c w (by rw [← hqq]; exact hc)
      · unfold Hid Tp.shP
        rw [if_neg (fun k => hg k.1), shx_is]
        by_cases z : shx K q.st (Tp.dN s q) (Tp.dW s q) W H
        · rw [if_pos ⟨gg, .inr (decide_eq_true z)⟩, if_pos z]; omega
        · rw [if_neg (fun k => k.2.elim hg (fun y => z (of_decide_eq_true y))), if_neg z]
      · unfold Hid Tp.shB
        rw [shx_is, shx_is, decide_eq_true gg, decide_eq_false hg]
        simp
    · refine sh2nn s K W H p (by omega) q (by omega) _ _ ?_ ?_ g c w hc
      · unfold Hid Tp.shP
        rw [if_neg (fun k => hg k.1), if_neg (fun k => gg k.1)]
      · unfold Hid Tp.shB
        rw [decide_eq_false hg, decide_eq_false gg]
        simp
end Go.Proofs.YteegbhnfkcbnoaaDoor
