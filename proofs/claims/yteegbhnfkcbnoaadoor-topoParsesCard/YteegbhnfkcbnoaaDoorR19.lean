/- What the document's Parse answers, of every text. -/
import Derived.Test.YteegbhnfkcbnoaaDoorR14
import Derived.Test.YteegbhnfkcbnoaaDoorR15
import Derived.Test.YteegbhnfkcbnoaaDoorR16
import Derived.Test.YteegbhnfkcbnoaaDoorR17
import Derived.Test.YteegbhnfkcbnoaaDoorR18a
import Derived.Test.YteegbhnfkcbnoaaDoorR18b
import Derived.Test.YteegbhnfkcbnoaaDoorP11
namespace Go.Proofs.YteegbhnfkcbnoaaDoor
open Go.RowKit
set_option linter.unusedVariables false
set_option linter.unusedSimpArgs false
set_option maxRecDepth 100000

/-- A part of a text, as it is kept. -/
structure Pin (s : ByteArray) (p : Tp.Dp) : Prop where
  d : Din s p
  k : Tp.Pok s p
  g : p.sg < 0 ∨ p.sg < s.size
theorem pin_of {s : ByteArray} {i : Nat} {t : Tp.Tk} (h : Tp.Dok s i t) (hi : 1 ≤ i) (his : i ≤ s.size) : Pin s t.p := by
  have h3 := h.sg
  exact ⟨din_of h his, Tp.dok_pok h hi, by omega⟩
def FmIn (s : ByteArray) : Tp.Fm → Prop
  | .bad _ e _ => e ≠ 0
  | .none k => k ≤ 5
  | .ok k n p q => 1 ≤ k ∧ k ≤ 5 ∧ Pin s p ∧ ((n = 1 ∧ q = Tp.plainD p) ∨ (n = 2 ∧ Pin s q))
theorem fm_in (s : ByteArray) : FmIn s (Tp.fmR s) := by
  unfold Tp.fmR
  split
  · exact (by decide : (40 : Nat) ≠ 0)
  · rename_i h0
    have hs : 0 < s.size := Tp.bt_in (s := s) (i := 0) (by intro q; rw [q] at h0; exact h0 rfl)
    have h5 := Tp.kind_le (Sc.bt s 0)
    generalize Tp.kindR (Sc.bt s 0) = k at *
    unfold Tp.fmK
    split
    · exact h5
    · have ok := Tp.tkR_ok (s := s) (i := 1) (b := decide (k ≠ 5)) (by omega) (by omega)
      have p1 := pin_of ok (by omega) (by omega)
      generalize Tp.tkR s 1 (decide (k ≠ 5)) = t at *
      unfold Tp.fm1
      split
      · split
        · rename_i hc
          have hlt := Tp.bt_in (s := s) (i := t.j) (by omega)
          have ok2 := Tp.tkR_ok (s := s) (i := t.j + 1) (b := true) (by omega) (by omega)
          have p2 := pin_of ok2 (by omega) (by omega)
          generalize Tp.tkR s (t.j + 1) true = u at *
          unfold Tp.fm2
          split
          · split
            · exact (by decide : (45 : Nat) ≠ 0)
            · exact ⟨by omega, h5, p1, .inr ⟨rfl, p2⟩⟩
          · rename_i hu; exact hu
        · split
          · exact (by decide : (45 : Nat) ≠ 0)
          · exact ⟨by omega, h5, p1, .inl ⟨rfl, rfl⟩⟩
      · rename_i hu; exact hu
/-- Parse's answer. -/
def Ans4 (r : Tp.Res) (w : World) (e : Ending) (w' : World) : Prop := e = .returned (.tuple #[.agg (resV r), .int .i64 (r.a : Nat), .int .i64 (r.e : Nat)]) ∧ w.grownBy w' none
theorem no_ans {e0 : Nat} {a : Int} (ha : 0 ≤ a) {w w' : World} (g : w.grownBy w' none) : Ans4 (Tp.Res.no e0 a.toNat) w (.returned (.tuple #[.agg #[.int .u8 0, .int .i64 0, .int .i64 0, .int .u8 0, .int .i64 0], .int .i64 a, .int .i64 (e0 : Nat)])) w' := by
  refine ⟨?_, g⟩
  have : ((a.toNat : Nat) : Int) = a := by omega
  simp only [resV, Tp.Res.no, this]
  rfl
theorem beq0n {v : Nat} (h : ¬ v = 0) : ((v : Int) == 0) = false := beq_eq_false_iff_ne.2 (by omega)
theorem beq0y {v : Nat} (h : v = 0) : ((v : Int) == 0) = true := by simp [h]
theorem tw_nn {s : ByteArray} {k : Nat} {p q : Tp.Dp} : 0 ≤ Tp.twP s.size k p q := by unfold Tp.twP; repeat' split <;> omega
theorem sh_nn {s : ByteArray} {k W H : Nat} {p q : Tp.Dp} : 0 ≤ Tp.shP s k p q W H := by unfold Tp.shP; repeat' split <;> omega
theorem part_w {s : ByteArray} {p : Tp.Dp} (h : Pin s p) (hs : s.size ≤ maxLen) : 0 ≤ p.at_ ∧ p.at_ ≤ p.en ∧ p.en ≤ (s.size : Int) ∧ (∀ w, Calls Tryd.prog 22 #[.string (s.extract p.at_.toNat p.en.toNat)] w fun x w' => x = .returned (.int .i64 (Tp.dW s p : Nat)) ∧ w' = w) := by
  have a1 := h.d.a1
  have a2 := h.d.a2
  have i1 : p.at_.toNat ≤ s.size := by omega
  have e1 := h.d.en
  have g1 := Tp.dg_ge i1
  have g2 := Tp.dg_le' i1
  refine ⟨a1, by omega, by omega, ?_⟩
  have e2 : p.en.toNat = Tp.dg s p.at_.toNat := by rw [e1, Int.toNat_natCast]
  rw [e2]
  exact worthD s _ hs i1
theorem part_sg {s : ByteArray} {p : Tp.Dp} (h : Pin s p) (hs : s.size ≤ maxLen) (hg : 0 ≤ p.sg) : p.sg < (s.size : Int) ∧ p.sg.toNat < s.size ∧ 0 ≤ p.fr ∧ p.fr ≤ p.to ∧ p.to ≤ (s.size : Int) ∧ Tp.dN s p ≤ 1048577 ∧ (∀ w, Calls Tryd.prog 22 #[.string (s.extract p.fr.toNat p.to.toNat)] w fun x w' => x = .returned (.int .i64 (Tp.dN s p : Nat)) ∧ w' = w) := by
  obtain ⟨l1, l2, l3, l4, hn, ho⟩ := din_y h.d hs hg
  have g1 := h.g
  have d1 := h.d.sg
  have hw : Tp.dN s p ≤ 1048577 := by unfold Tp.dN Tp.wo; split <;> omega
  exact ⟨by omega, by omega, by omega, by omega, by omega, hw, hn⟩
theorem topo_ans {s : ByteArray} {k V1 V2 : Nat} {t : Nat} {z : Int} {w w' : World} {r : Tp.Res} (hr : r = ⟨k, V1, V2, t, z, 0, 0⟩) (g : w.grownBy w' none) : Ans4 r w (.returned (.tuple #[.agg #[.int .u8 (k : Nat), .int .i64 (V1 : Nat), .int .i64 (V2 : Nat), .int .u8 (t : Nat), .int .i64 z], .int .i64 0, .int .i64 0])) w' := by
  subst hr
  exact ⟨rfl, g⟩

set_option maxHeartbeats 4000000 in
theorem parse_one (s : ByteArray) (hs : ¬ (1048576 : Int) < (s.size : Int)) (k : Nat) (hk1 : 1 ≤ k) (hk5 : k ≤ 5) (p : Tp.Dp) (hp : Pin s p) (hf : ∀ w, Calls Tryd.prog 21 #[.string s] w fun x w' => (∃ g c, x = .returned (.tuple #[.int .u8 (k : Nat), .slice (some ⟨g, 0, none⟩) 1 c, .int .i64 0, .int .i64 0]) ∧ Cs w' g (dpl p)) ∧ w.grownBy w' none) (w : World) : Calls Tryd.prog 9 #[.string s] w (Ans4 (Tp.senD s k p (Tp.plainD p)) w) := by
  have hm : s.size ≤ maxLen := by unfold maxLen; omega
  have hk : k ≤ 255 := by omega
  obtain ⟨a1, a2, a3, a4⟩ := part_w hp hm
  unfold Tp.senD
  by_cases c1 : 65536 < Tp.dW s p
  · rw [if_pos c1]
    refine (one_w s hs k hk p (Tp.dW s p) a1 a2 a3 a4 hf (by omega) w).mono ?_
    rintro e w' ⟨rfl, g⟩
    exact no_ans a1 g
  rw [if_neg c1]
  have c2 : ¬ 65536 < Tp.dW s (Tp.plainD p) := c1
  rw [if_neg c2]
  by_cases c3 : 3 ≤ k ∧ Tp.dW s p = 0
  · rw [if_pos c3]
    refine (one_w0 s hs k hk p (Tp.dW s p) a1 a2 a3 a4 hf (by omega) (by omega) (beq0y c3.2) w).mono ?_
    rintro e w' ⟨rfl, g⟩
    exact no_ans a1 g
  rw [if_neg c3]
  have c4 : ¬ (3 ≤ k ∧ Tp.dW s (Tp.plainD p) = 0) := c3
  rw [if_neg c4]
  have htw := fun w g c (h : Cs w g (dpl p)) => twist1 s k p g c w h
  have hsh := fun w g c (h : Cs w g (dpl p)) => shift1C s k (Tp.dW s p) (Tp.dW s p) p hp.d hm g c w h
  cases c5 : Tp.twB k p (Tp.plainD p)
  case true =>
    rw [if_pos rfl]
    rw [c5] at htw
    by_cases c3' : 3 ≤ k
    · refine (one_t1 s hs k hk p (Tp.dW s p) a1 a2 a3 a4 hf (by omega) (by omega) (beq0n (by omega)) _ htw w).mono ?_
      rintro e w' ⟨rfl, g⟩
      exact no_ans tw_nn g
    · refine (one_t0 s hs k hk p (Tp.dW s p) a1 a2 a3 a4 hf (by omega) (by omega) _ htw w).mono ?_
      rintro e w' ⟨rfl, g⟩
      exact no_ans tw_nn g
  rw [if_neg (by decide)]
  rw [c5] at htw
  cases c6 : Tp.shB s k p (Tp.plainD p) (Tp.dW s p) (Tp.dW s (Tp.plainD p))
  case true =>
    rw [if_pos rfl]
    rw [show Tp.shB s k p (Tp.plainD p) (Tp.dW s p) (Tp.dW s p) = true from c6] at hsh
    by_cases c3' : 3 ≤ k
    · refine (one_s1 s hs k hk p (Tp.dW s p) a1 a2 a3 a4 hf (by omega) (by omega) (beq0n (by omega)) _ htw _ hsh w).mono ?_
      rintro e w' ⟨rfl, g⟩
      exact no_ans sh_nn g
    · refine (one_s0 s hs k hk p (Tp.dW s p) a1 a2 a3 a4 hf (by omega) (by omega) _ htw _ hsh w).mono ?_
      rintro e w' ⟨rfl, g⟩
      exact no_ans sh_nn g
  rw [if_neg (by decide)]
  rw [show Tp.shB s k p (Tp.plainD p) (Tp.dW s p) (Tp.dW s p) = false from c6] at hsh
  by_cases yp : 0 ≤ p.st ∨ 0 ≤ p.sg
  · skip
    by_cases y2 : 0 ≤ p.sg
    · obtain ⟨m1, m2, m3, m4, m5, m6, m7⟩ := part_sg hp hm y2
      by_cases hb : Sc.bt s p.sg.toNat = 45
      · skip
        have hr : Tp.topD s k p (Tp.plainD p) = ⟨k, Tp.dW s p, (Tp.dW s p), 1, -(Tp.dN s p : Int), 0, 0⟩ := by
          unfold Tp.topD Tp.dSh
          rw [show (Tp.plainD p).st = -1 from rfl, show (Tp.plainD p).sg = -1 from rfl]; rw [if_neg (by omega), if_pos (by omega), if_neg (by omega), if_pos y2, if_pos hb] <;> rfl
        by_cases c3z : 3 ≤ k
        · refine (one_f_minus1 s hs k hk p (Tp.dW s p) a1 a2 a3 a4 hf (by omega) (by omega) (beq0n (by omega)) _ htw _ hsh (Tp.dN s p) y2 m1 m2 m3 m4 m5 (by simp [hb]) m6 m7 w).mono ?_
          rintro e w' ⟨rfl, g⟩
          exact topo_ans (s := s) (t := 1) hr g
        · refine (one_f_minus0 s hs k hk p (Tp.dW s p) a1 a2 a3 a4 hf (by omega) (by omega) _ htw _ hsh (Tp.dN s p) y2 m1 m2 m3 m4 m5 (by simp [hb]) m6 m7 w).mono ?_
          rintro e w' ⟨rfl, g⟩
          exact topo_ans (s := s) (t := 1) hr g
      · skip
        have hr : Tp.topD s k p (Tp.plainD p) = ⟨k, Tp.dW s p, (Tp.dW s p), 1, (Tp.dN s p : Int), 0, 0⟩ := by
          unfold Tp.topD Tp.dSh
          rw [show (Tp.plainD p).st = -1 from rfl, show (Tp.plainD p).sg = -1 from rfl]; rw [if_neg (by omega), if_pos (by omega), if_neg (by omega), if_pos y2, if_neg hb] <;> rfl
        by_cases c3z : 3 ≤ k
        · refine (one_f_plus1 s hs k hk p (Tp.dW s p) a1 a2 a3 a4 hf (by omega) (by omega) (beq0n (by omega)) _ htw _ hsh (Tp.dN s p) y2 m1 m2 m3 m4 m5 (beq_eq_false_iff_ne.2 (by omega)) m6 m7 w).mono ?_
          rintro e w' ⟨rfl, g⟩
          exact topo_ans (s := s) (t := 1) hr g
        · refine (one_f_plus0 s hs k hk p (Tp.dW s p) a1 a2 a3 a4 hf (by omega) (by omega) _ htw _ hsh (Tp.dN s p) y2 m1 m2 m3 m4 m5 (beq_eq_false_iff_ne.2 (by omega)) m6 m7 w).mono ?_
          rintro e w' ⟨rfl, g⟩
          exact topo_ans (s := s) (t := 1) hr g
    · have y1 : 0 ≤ p.st := by omega
      have hr : Tp.topD s k p (Tp.plainD p) = ⟨k, Tp.dW s p, (Tp.dW s p), 1, 0, 0, 0⟩ := by
        unfold Tp.topD
        rw [show (Tp.plainD p).st = -1 from rfl, show (Tp.plainD p).sg = -1 from rfl]; rw [if_neg (by omega), if_pos (by omega), if_neg (by omega), if_neg (by omega)] <;> rfl
      by_cases c3z : 3 ≤ k
      · refine (one_f_star1 s hs k hk p (Tp.dW s p) a1 a2 a3 a4 hf (by omega) (by omega) (beq0n (by omega)) _ htw _ hsh y1 y2 w).mono ?_
        rintro e w' ⟨rfl, g⟩
        exact topo_ans (s := s) (t := 1) hr g
      · refine (one_f_star0 s hs k hk p (Tp.dW s p) a1 a2 a3 a4 hf (by omega) (by omega) _ htw _ hsh y1 y2 w).mono ?_
        rintro e w' ⟨rfl, g⟩
        exact topo_ans (s := s) (t := 1) hr g
  · have y1 : ¬ 0 ≤ p.st := by omega
    have y2 : ¬ 0 ≤ p.sg := by omega
    have hr : Tp.topD s k p (Tp.plainD p) = ⟨k, Tp.dW s p, (Tp.dW s p), 0, 0, 0, 0⟩ := by
      unfold Tp.topD
      rw [show (Tp.plainD p).st = -1 from rfl, show (Tp.plainD p).sg = -1 from rfl]; rw [if_neg (by omega), if_neg (by omega), if_neg (by omega), if_neg (by omega)] <;> rfl
    by_cases c3z : 3 ≤ k
    · refine (one_f_none1 s hs k hk p (Tp.dW s p) a1 a2 a3 a4 hf (by omega) (by omega) (beq0n (by omega)) _ htw _ hsh y1 y2 w).mono ?_
      rintro e w' ⟨rfl, g⟩
      exact topo_ans (s := s) (t := 0) hr g
    · refine (one_f_none0 s hs k hk p (Tp.dW s p) a1 a2 a3 a4 hf (by omega) (by omega) _ htw _ hsh y1 y2 w).mono ?_
      rintro e w' ⟨rfl, g⟩
      exact topo_ans (s := s) (t := 0) hr g

set_option maxHeartbeats 4000000 in
theorem parse_two (s : ByteArray) (hs : ¬ (1048576 : Int) < (s.size : Int)) (k : Nat) (hk1 : 1 ≤ k) (hk5 : k ≤ 5) (p q : Tp.Dp) (hp : Pin s p) (hq : Pin s q) (hf : ∀ w, Calls Tryd.prog 21 #[.string s] w fun x w' => (∃ g c, x = .returned (.tuple #[.int .u8 (k : Nat), .slice (some ⟨g, 0, none⟩) 2 c, .int .i64 0, .int .i64 0]) ∧ Cs w' g (dpl p ++ dpl q)) ∧ w.grownBy w' none) (w : World) : Calls Tryd.prog 9 #[.string s] w (Ans4 (Tp.senD s k p q) w) := by
  have hm : s.size ≤ maxLen := by unfold maxLen; omega
  have hk : k ≤ 255 := by omega
  obtain ⟨a1, a2, a3, a4⟩ := part_w hp hm
  obtain ⟨b1, b2, b3, b4⟩ := part_w hq hm
  unfold Tp.senD
  by_cases c1 : 65536 < Tp.dW s p
  · rw [if_pos c1]
    refine (two_w s hs k hk p q (Tp.dW s p) (Tp.dW s q) a1 a2 a3 a4 b1 b2 b3 b4 hf (by omega) w).mono ?_
    rintro e w' ⟨rfl, g⟩
    exact no_ans a1 g
  rw [if_neg c1]
  by_cases c2 : 65536 < Tp.dW s q
  · rw [if_pos c2]
    refine (two_h s hs k hk p q (Tp.dW s p) (Tp.dW s q) a1 a2 a3 a4 b1 b2 b3 b4 hf (by omega) (by omega) w).mono ?_
    rintro e w' ⟨rfl, g⟩
    exact no_ans b1 g
  rw [if_neg c2]
  by_cases c3 : 3 ≤ k ∧ Tp.dW s p = 0
  · rw [if_pos c3]
    refine (two_w0 s hs k hk p q (Tp.dW s p) (Tp.dW s q) a1 a2 a3 a4 b1 b2 b3 b4 hf (by omega) (by omega) (by omega) (beq0y c3.2) w).mono ?_
    rintro e w' ⟨rfl, g⟩
    exact no_ans a1 g
  rw [if_neg c3]
  by_cases c4 : 3 ≤ k ∧ Tp.dW s q = 0
  · rw [if_pos c4]
    refine (two_h0 s hs k hk p q (Tp.dW s p) (Tp.dW s q) a1 a2 a3 a4 b1 b2 b3 b4 hf (by omega) (by omega) (by omega) (beq0n (by omega)) (beq0y c4.2) w).mono ?_
    rintro e w' ⟨rfl, g⟩
    exact no_ans b1 g
  rw [if_neg c4]
  have htw := fun w g c (h : Cs w g (dpl p ++ dpl q)) => twist2 s k p q g c w h
  have hsh := fun w g c (h : Cs w g (dpl p ++ dpl q)) => shift2C s k (Tp.dW s p) (Tp.dW s q) p q hp.d hq.d hm g c w h
  cases c5 : Tp.twB k p q
  case true =>
    rw [if_pos rfl]
    rw [c5] at htw
    by_cases c3' : 3 ≤ k
    · refine (two_t1 s hs k hk p q (Tp.dW s p) (Tp.dW s q) a1 a2 a3 a4 b1 b2 b3 b4 hf (by omega) (by omega) (by omega) (beq0n (by omega)) (beq0n (by omega)) _ htw w).mono ?_
      rintro e w' ⟨rfl, g⟩
      exact no_ans tw_nn g
    · refine (two_t0 s hs k hk p q (Tp.dW s p) (Tp.dW s q) a1 a2 a3 a4 b1 b2 b3 b4 hf (by omega) (by omega) (by omega) _ htw w).mono ?_
      rintro e w' ⟨rfl, g⟩
      exact no_ans tw_nn g
  rw [if_neg (by decide)]
  rw [c5] at htw
  cases c6 : Tp.shB s k p q (Tp.dW s p) (Tp.dW s q)
  case true =>
    rw [if_pos rfl]
    rw [c6] at hsh
    by_cases c3' : 3 ≤ k
    · refine (two_s1 s hs k hk p q (Tp.dW s p) (Tp.dW s q) a1 a2 a3 a4 b1 b2 b3 b4 hf (by omega) (by omega) (by omega) (beq0n (by omega)) (beq0n (by omega)) _ htw _ hsh w).mono ?_
      rintro e w' ⟨rfl, g⟩
      exact no_ans sh_nn g
    · refine (two_s0 s hs k hk p q (Tp.dW s p) (Tp.dW s q) a1 a2 a3 a4 b1 b2 b3 b4 hf (by omega) (by omega) (by omega) _ htw _ hsh w).mono ?_
      rintro e w' ⟨rfl, g⟩
      exact no_ans sh_nn g
  rw [if_neg (by decide)]
  rw [c6] at hsh
  have f5 := c5
  have f6 := c6
  unfold Tp.twB at f5
  unfold Tp.shB Tp.shX at f6
  simp only [Bool.or_eq_false_iff, Bool.and_eq_false_iff, decide_eq_false_iff_not] at f5 f6
  by_cases yp : 0 ≤ p.st ∨ 0 ≤ p.sg
  · have n1 : ¬ 0 ≤ q.st := by omega
    have n2 : ¬ 0 ≤ q.sg := by omega
    by_cases y2 : 0 ≤ p.sg
    · obtain ⟨m1, m2, m3, m4, m5, m6, m7⟩ := part_sg hp hm y2
      by_cases hb : Sc.bt s p.sg.toNat = 45
      · skip
        have hr : Tp.topD s k p q = ⟨k, Tp.dW s p, (Tp.dW s q), 1, -(Tp.dN s p : Int), 0, 0⟩ := by
          unfold Tp.topD Tp.dSh
          rw [if_neg (by omega), if_pos (by omega), if_neg (by omega), if_pos y2, if_pos hb]
        by_cases c3z : 3 ≤ k
        · refine (two_f_minus_none1 s hs k hk p q (Tp.dW s p) (Tp.dW s q) a1 a2 a3 a4 b1 b2 b3 b4 hf (by omega) (by omega) (by omega) (beq0n (by omega)) (beq0n (by omega)) _ htw _ hsh (Tp.dN s p) y2 m1 m2 m3 m4 m5 (by simp [hb]) m6 m7 n1 n2 w).mono ?_
          rintro e w' ⟨rfl, g⟩
          exact topo_ans (s := s) (t := 1) hr g
        · refine (two_f_minus_none0 s hs k hk p q (Tp.dW s p) (Tp.dW s q) a1 a2 a3 a4 b1 b2 b3 b4 hf (by omega) (by omega) (by omega) _ htw _ hsh (Tp.dN s p) y2 m1 m2 m3 m4 m5 (by simp [hb]) m6 m7 n1 n2 w).mono ?_
          rintro e w' ⟨rfl, g⟩
          exact topo_ans (s := s) (t := 1) hr g
      · skip
        have hr : Tp.topD s k p q = ⟨k, Tp.dW s p, (Tp.dW s q), 1, (Tp.dN s p : Int), 0, 0⟩ := by
          unfold Tp.topD Tp.dSh
          rw [if_neg (by omega), if_pos (by omega), if_neg (by omega), if_pos y2, if_neg hb]
        by_cases c3z : 3 ≤ k
        · refine (two_f_plus_none1 s hs k hk p q (Tp.dW s p) (Tp.dW s q) a1 a2 a3 a4 b1 b2 b3 b4 hf (by omega) (by omega) (by omega) (beq0n (by omega)) (beq0n (by omega)) _ htw _ hsh (Tp.dN s p) y2 m1 m2 m3 m4 m5 (beq_eq_false_iff_ne.2 (by omega)) m6 m7 n1 n2 w).mono ?_
          rintro e w' ⟨rfl, g⟩
          exact topo_ans (s := s) (t := 1) hr g
        · refine (two_f_plus_none0 s hs k hk p q (Tp.dW s p) (Tp.dW s q) a1 a2 a3 a4 b1 b2 b3 b4 hf (by omega) (by omega) (by omega) _ htw _ hsh (Tp.dN s p) y2 m1 m2 m3 m4 m5 (beq_eq_false_iff_ne.2 (by omega)) m6 m7 n1 n2 w).mono ?_
          rintro e w' ⟨rfl, g⟩
          exact topo_ans (s := s) (t := 1) hr g
    · have y1 : 0 ≤ p.st := by omega
      have hr : Tp.topD s k p q = ⟨k, Tp.dW s p, (Tp.dW s q), 1, 0, 0, 0⟩ := by
        unfold Tp.topD
        rw [if_neg (by omega), if_pos (by omega), if_neg (by omega), if_neg (by omega)]
      by_cases c3z : 3 ≤ k
      · refine (two_f_star_none1 s hs k hk p q (Tp.dW s p) (Tp.dW s q) a1 a2 a3 a4 b1 b2 b3 b4 hf (by omega) (by omega) (by omega) (beq0n (by omega)) (beq0n (by omega)) _ htw _ hsh y1 y2 n1 n2 w).mono ?_
        rintro e w' ⟨rfl, g⟩
        exact topo_ans (s := s) (t := 1) hr g
      · refine (two_f_star_none0 s hs k hk p q (Tp.dW s p) (Tp.dW s q) a1 a2 a3 a4 b1 b2 b3 b4 hf (by omega) (by omega) (by omega) _ htw _ hsh y1 y2 n1 n2 w).mono ?_
        rintro e w' ⟨rfl, g⟩
        exact topo_ans (s := s) (t := 1) hr g
  · have n1 : ¬ 0 ≤ p.st := by omega
    have n2 : ¬ 0 ≤ p.sg := by omega
    by_cases yq : 0 ≤ q.st ∨ 0 ≤ q.sg
    · skip
      by_cases y2 : 0 ≤ q.sg
      · obtain ⟨m1, m2, m3, m4, m5, m6, m7⟩ := part_sg hq hm y2
        by_cases hb : Sc.bt s q.sg.toNat = 45
        · skip
          have hr : Tp.topD s k p q = ⟨k, Tp.dW s p, (Tp.dW s q), 2, -(Tp.dN s q : Int), 0, 0⟩ := by
            unfold Tp.topD Tp.dSh
            rw [if_pos (by omega), if_pos y2, if_pos hb]
          by_cases c3z : 3 ≤ k
          · refine (two_f_none_minus1 s hs k hk p q (Tp.dW s p) (Tp.dW s q) a1 a2 a3 a4 b1 b2 b3 b4 hf (by omega) (by omega) (by omega) (beq0n (by omega)) (beq0n (by omega)) _ htw _ hsh n1 n2 (Tp.dN s q) y2 m1 m2 m3 m4 m5 (by simp [hb]) m6 m7 w).mono ?_
            rintro e w' ⟨rfl, g⟩
            exact topo_ans (s := s) (t := 2) hr g
          · refine (two_f_none_minus0 s hs k hk p q (Tp.dW s p) (Tp.dW s q) a1 a2 a3 a4 b1 b2 b3 b4 hf (by omega) (by omega) (by omega) _ htw _ hsh n1 n2 (Tp.dN s q) y2 m1 m2 m3 m4 m5 (by simp [hb]) m6 m7 w).mono ?_
            rintro e w' ⟨rfl, g⟩
            exact topo_ans (s := s) (t := 2) hr g
        · skip
          have hr : Tp.topD s k p q = ⟨k, Tp.dW s p, (Tp.dW s q), 2, (Tp.dN s q : Int), 0, 0⟩ := by
            unfold Tp.topD Tp.dSh
            rw [if_pos (by omega), if_pos y2, if_neg hb]
          by_cases c3z : 3 ≤ k
          · refine (two_f_none_plus1 s hs k hk p q (Tp.dW s p) (Tp.dW s q) a1 a2 a3 a4 b1 b2 b3 b4 hf (by omega) (by omega) (by omega) (beq0n (by omega)) (beq0n (by omega)) _ htw _ hsh n1 n2 (Tp.dN s q) y2 m1 m2 m3 m4 m5 (beq_eq_false_iff_ne.2 (by omega)) m6 m7 w).mono ?_
            rintro e w' ⟨rfl, g⟩
            exact topo_ans (s := s) (t := 2) hr g
          · refine (two_f_none_plus0 s hs k hk p q (Tp.dW s p) (Tp.dW s q) a1 a2 a3 a4 b1 b2 b3 b4 hf (by omega) (by omega) (by omega) _ htw _ hsh n1 n2 (Tp.dN s q) y2 m1 m2 m3 m4 m5 (beq_eq_false_iff_ne.2 (by omega)) m6 m7 w).mono ?_
            rintro e w' ⟨rfl, g⟩
            exact topo_ans (s := s) (t := 2) hr g
      · have y1 : 0 ≤ q.st := by omega
        have hr : Tp.topD s k p q = ⟨k, Tp.dW s p, (Tp.dW s q), 2, 0, 0, 0⟩ := by
          unfold Tp.topD
          rw [if_pos (by omega), if_neg (by omega), if_neg (by omega)]
        by_cases c3z : 3 ≤ k
        · refine (two_f_none_star1 s hs k hk p q (Tp.dW s p) (Tp.dW s q) a1 a2 a3 a4 b1 b2 b3 b4 hf (by omega) (by omega) (by omega) (beq0n (by omega)) (beq0n (by omega)) _ htw _ hsh n1 n2 y1 y2 w).mono ?_
          rintro e w' ⟨rfl, g⟩
          exact topo_ans (s := s) (t := 2) hr g
        · refine (two_f_none_star0 s hs k hk p q (Tp.dW s p) (Tp.dW s q) a1 a2 a3 a4 b1 b2 b3 b4 hf (by omega) (by omega) (by omega) _ htw _ hsh n1 n2 y1 y2 w).mono ?_
          rintro e w' ⟨rfl, g⟩
          exact topo_ans (s := s) (t := 2) hr g
    · have y1 : ¬ 0 ≤ q.st := by omega
      have y2 : ¬ 0 ≤ q.sg := by omega
      have hr : Tp.topD s k p q = ⟨k, Tp.dW s p, (Tp.dW s q), 0, 0, 0, 0⟩ := by
        unfold Tp.topD
        rw [if_neg (by omega), if_neg (by omega), if_neg (by omega), if_neg (by omega)]
      by_cases c3z : 3 ≤ k
      · refine (two_f_none_none1 s hs k hk p q (Tp.dW s p) (Tp.dW s q) a1 a2 a3 a4 b1 b2 b3 b4 hf (by omega) (by omega) (by omega) (beq0n (by omega)) (beq0n (by omega)) _ htw _ hsh n1 n2 y1 y2 w).mono ?_
        rintro e w' ⟨rfl, g⟩
        exact topo_ans (s := s) (t := 0) hr g
      · refine (two_f_none_none0 s hs k hk p q (Tp.dW s p) (Tp.dW s q) a1 a2 a3 a4 b1 b2 b3 b4 hf (by omega) (by omega) (by omega) _ htw _ hsh n1 n2 y1 y2 w).mono ?_
        rintro e w' ⟨rfl, g⟩
        exact topo_ans (s := s) (t := 0) hr g

theorem parseD (s : ByteArray) (w : World) : Calls Tryd.prog 9 #[.string s] w (Ans4 (Tp.parseR s) w) := by
  rw [← Tp.doc_is]
  unfold Tp.docR
  by_cases h : 1048576 < s.size
  · rw [if_pos h]
    refine (parse_long s (by omega) w).mono ?_
    rintro e w' ⟨rfl, g⟩
    exact ⟨rfl, g⟩
  rw [if_neg h]
  have hf := formC s (by omega)
  have hi := fm_in s
  have hs : ¬ (1048576 : Int) < (s.size : Int) := by omega
  cases hz : Tp.fmR s with
  | bad k e a =>
    rw [hz] at hf hi
    refine (parse_bad s hs k a e (by have : e ≠ 0 := hi; simp [bne]; omega) hf w).mono ?_
    rintro x w' ⟨rfl, g⟩
    exact ⟨rfl, g⟩
  | none k =>
    rw [hz] at hf
    refine (parse_none s hs k hf w).mono ?_
    rintro e w' ⟨rfl, g⟩
    exact ⟨rfl, g⟩
  | ok k n p q =>
    rw [hz] at hf hi
    obtain ⟨k1, k5, hp, hq⟩ := hi
    rcases hq with ⟨rfl, rfl⟩ | ⟨rfl, hq⟩
    · exact parse_one s hs k k1 k5 p hp hf w
    · exact parse_two s hs k k1 k5 p q hp hq hf w
end Go.Proofs.YteegbhnfkcbnoaaDoor
