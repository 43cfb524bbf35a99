/- What the document's Parse says is what a text says. Nothing of the program in it. -/
import Derived.Test.YteegbhnfkcbnoaaDoorTd
namespace Go.Proofs.YteegbhnfkcbnoaaDoor.Tp
set_option linter.unusedVariables false

/-- A part of the document's as the model keeps it. -/
def toPt (s : ByteArray) (d : Dp) : Pt := ⟨d.at_.toNat, cap (num s d.at_.toNat), d.st.toNat, d.sg.toNat, if d.sg < 0 then 0 else if Sc.bt s d.sg.toNat = 45 then -(cap (num s d.fr.toNat) : Int) else (cap (num s d.fr.toNat) : Int)⟩
def toPR (s : ByteArray) (t : Tk) : PR := if t.e = 0 then .ok (toPt s t.p) t.j else .bad t.e t.j
theorem dg_ge {s : ByteArray} {i : Nat} (hi : i ≤ s.size) : i ≤ dg s i := Sc.ov_ge _ hi
theorem dg_le' {s : ByteArray} {i : Nat} (hi : i ≤ s.size) : dg s i ≤ s.size := Sc.ov_le _ hi
theorem bt_in {s : ByteArray} {i : Nat} (h : ¬ Sc.bt s i = 0) : i < s.size := by
  rcases Nat.lt_or_ge i s.size with q | q
  · exact q
  · exact absurd (Sc.bt_off (by omega)) h
/-- What a part that is kept is like. -/
structure Dok (s : ByteArray) (i : Nat) (t : Tk) : Prop where
  at_ : t.p.at_ = i
  en : t.p.en = dg s i
  st : t.p.st = -1 ∨ (1 ≤ t.p.st ∧ t.p.st < s.size)
  sg : (t.p.sg = -1 ∧ t.p.fr = 0) ∨ (1 ≤ t.p.sg ∧ t.p.sg < s.size ∧ t.p.fr = t.p.sg + 1 ∧ t.p.to = dg s t.p.fr.toNat)
  j : t.j ≤ s.size
theorem tkS_ok {s : ByteArray} {i a b : Nat} {st : Int} (hb : 1 ≤ b) (hbs : b ≤ s.size) (hst : st = -1 ∨ (1 ≤ st ∧ st < s.size)) : (tkS s i a st b).p.at_ = i ∧ (tkS s i a st b).p.en = a ∧ (tkS s i a st b).p.st = st ∧ (((tkS s i a st b).p.sg = -1 ∧ (tkS s i a st b).p.fr = 0) ∨ (1 ≤ (tkS s i a st b).p.sg ∧ (tkS s i a st b).p.sg < s.size ∧ (tkS s i a st b).p.fr = (tkS s i a st b).p.sg + 1 ∧ (tkS s i a st b).p.to = dg s (tkS s i a st b).p.fr.toNat)) ∧ (tkS s i a st b).j ≤ s.size := by
  unfold tkS
  split
  · rename_i h
    have hlt := bt_in (s := s) (i := b) (by omega)
    have := dg_le' (s := s) (i := b + 1) (by omega)
    split
    · rename_i h2
      refine ⟨rfl, rfl, rfl, .inr ⟨?_, ?_, ?_, ?_⟩, ?_⟩
      · show (1 : Int) ≤ (b : Int); omega
      · show (b : Int) < (s.size : Int); omega
      · show ((b + 1 : Nat) : Int) = (b : Int) + 1; omega
      · show ((b + 1 : Nat) : Int) = ((dg s ((b + 1 : Nat) : Int).toNat : Nat) : Int); rw [Int.toNat_natCast, h2]
      · show b + 1 ≤ s.size; omega
    · refine ⟨rfl, rfl, rfl, .inr ⟨?_, ?_, ?_, ?_⟩, ?_⟩
      · show (1 : Int) ≤ (b : Int); omega
      · show (b : Int) < (s.size : Int); omega
      · show ((b + 1 : Nat) : Int) = (b : Int) + 1; omega
      · show ((dg s (b + 1) : Nat) : Int) = ((dg s ((b + 1 : Nat) : Int).toNat : Nat) : Int); rw [Int.toNat_natCast]
      · exact this
  · exact ⟨rfl, rfl, rfl, .inl ⟨rfl, rfl⟩, hbs⟩
theorem tkR_ok {s : ByteArray} {i : Nat} {b : Bool} (hi : 1 ≤ i) (his : i ≤ s.size) : Dok s i (tkR s i b) := by
  have h1 := dg_ge his
  have h2 := dg_le' his
  unfold tkR
  split
  · exact ⟨rfl, rfl, .inl rfl, .inl ⟨rfl, rfl⟩, his⟩
  · split
    · unfold tkB
      split
      · rename_i h
        have hlt := bt_in (s := s) (i := dg s i) (by omega)
        obtain ⟨a1, a2, a3, a4, a5⟩ := tkS_ok (s := s) (i := i) (a := dg s i) (b := dg s i + 1) (st := (dg s i : Int)) (by omega) (by omega) (.inr ⟨by omega, by omega⟩)
        exact ⟨a1, a2, .inr ⟨by rw [a3]; omega, by rw [a3]; omega⟩, a4, a5⟩
      · obtain ⟨a1, a2, a3, a4, a5⟩ := tkS_ok (s := s) (i := i) (a := dg s i) (b := dg s i) (st := -1) (by omega) (by omega) (.inl rfl)
        exact ⟨a1, a2, .inl a3, a4, a5⟩
    · exact ⟨rfl, rfl, .inl rfl, .inl ⟨rfl, rfl⟩, h2⟩
theorem tkS_part {s : ByteArray} {i a : Nat} {st : Int} {b : Nat} (hb : 1 ≤ b) (hd : b ≤ s.size) : toPR s (tkS s i a st b) = partC s i st.toNat b := by
  by_cases h : Sc.bt s b = 43 ∨ Sc.bt s b = 45
  · have hlt := bt_in (s := s) (i := b) (by omega)
    have hge := dg_ge (s := s) (i := b + 1) (by omega)
    have hp : Sc.bt s b = 45 ∨ Sc.bt s b = 43 := by omega
    by_cases h2 : dg s (b + 1) = b + 1
    · have e1 : tkS s i a st b = ⟨⟨i, a, st, b, (b + 1 : Nat), (b + 1 : Nat)⟩, b + 1, 43⟩ := by unfold tkS; rw [if_pos h, if_pos h2]
      have e2 : partC s i st.toNat b = .bad 43 (b + 1) := by unfold partC; rw [if_pos hp, if_neg (by omega)]
      rw [e1, e2]; rfl
    · have e1 : tkS s i a st b = ⟨⟨i, a, st, b, (b + 1 : Nat), dg s (b + 1)⟩, dg s (b + 1), 0⟩ := by unfold tkS; rw [if_pos h, if_neg h2]
      have hlt2 : b + 1 < dg s (b + 1) := by omega
      have e3 : ¬ ((b : Int) < 0) := by omega
      rw [e1]
      unfold partC
      rw [if_pos hp, if_pos hlt2]
      show PR.ok (toPt s _) _ = _
      unfold toPt
      simp only [e3, if_false, Int.toNat_natCast]
  · have e1 : tkS s i a st b = ⟨⟨i, a, st, -1, 0, 0⟩, b, 0⟩ := by unfold tkS; rw [if_neg h]
    have hp : ¬ (Sc.bt s b = 45 ∨ Sc.bt s b = 43) := by omega
    have e2 : partC s i st.toNat b = .ok ⟨i, cap (num s i), st.toNat, 0, 0⟩ b := by unfold partC; rw [if_neg hp]
    rw [e1, e2]; rfl
theorem tk_part {s : ByteArray} {i : Nat} (hi : 1 ≤ i) (his : i ≤ s.size) : toPR s (tkR s i true) = partR s i := by
  have h1 := dg_ge his
  have h2 := dg_le' his
  by_cases h : dg s i = i
  · have e1 : tkR s i true = ⟨⟨i, dg s i, -1, -1, 0, 0⟩, i, 41⟩ := by unfold tkR; rw [if_pos h]
    have e2 : partR s i = .bad 41 i := by unfold partR; rw [if_neg (by omega)]
    rw [e1, e2]; rfl
  · have hlt : i < dg s i := by omega
    have e1 : tkR s i true = tkB s i (dg s i) := by unfold tkR; rw [if_neg h]; rfl
    have e2 : partR s i = partB s i (dg s i) := by unfold partR; rw [if_pos hlt]
    rw [e1, e2]
    unfold tkB partB
    by_cases hs : Sc.bt s (dg s i) = 42
    · have hlt := bt_in (s := s) (i := dg s i) (by omega)
      rw [if_pos hs, if_pos hs, tkS_part (by omega) (by omega)]
      rfl
    · rw [if_neg hs, if_neg hs, tkS_part (by omega) (by omega)]
      rfl
def toFR (s : ByteArray) : Fm → FR
  | .bad _ e a => .bad e a
  | .none k => .ok k Pt.zero Pt.zero 0 1
  | .ok k n p q => .ok k (toPt s p) (toPt s q) n s.size
theorem end_doc {s : ByteArray} {k n j : Nat} {p q : Dp} (hj : j ≤ s.size) : toFR s (if j < s.size then .bad k 45 j else .ok k n p q) = endR s k (toPt s p) (toPt s q) n j := by
  unfold endR
  by_cases h : j < s.size
  · rw [if_pos h, if_neg (by omega)]; rfl
  · have : j = s.size := by omega
    rw [if_neg h, if_pos this, this]; rfl
theorem one_plain (s : ByteArray) (p : Dp) : toPt s (plainD p) = one (toPt s p) := rfl
theorem fm_form (s : ByteArray) : toFR s (fmR s) = formR s := by
  unfold fmR formR
  by_cases h0 : kindR (Sc.bt s 0) = 0
  · rw [if_pos h0, if_pos h0]; rfl
  rw [if_neg h0, if_neg h0]
  have hs : 0 < s.size := bt_in (s := s) (i := 0) (by intro q; rw [q] at h0; exact h0 rfl)
  generalize kindR (Sc.bt s 0) = k at *
  unfold fmK bodyR
  by_cases h5 : k = 5
  · subst h5
    rw [if_neg (by omega), if_pos rfl]
    have hd1 := dg_ge (s := s) (i := 1) (by omega)
    have hd2 := dg_le' (s := s) (i := 1) (by omega)
    have ef : decide ((5 : Nat) ≠ 5) = false := by decide
    rw [ef]
    by_cases h : dg s 1 = 1
    · have e1 : tkR s 1 false = ⟨⟨1, dg s 1, -1, -1, 0, 0⟩, 1, 41⟩ := by unfold tkR; rw [if_pos h]; rfl
      rw [e1, if_neg (by omega)]; rfl
    · have e1 : tkR s 1 false = ⟨⟨1, dg s 1, -1, -1, 0, 0⟩, dg s 1, 0⟩ := by unfold tkR; rw [if_neg h]; rfl
      have hlt : 1 < dg s 1 := by omega
      rw [e1, if_pos hlt]
      unfold fm1
      rw [if_pos rfl, if_neg (by simp), end_doc hd2]
      rfl
  · by_cases h1 : s.size = 1 ∧ k ≤ 2
    · rw [if_pos h1, if_neg h5, if_pos ⟨h1.2, h1.1⟩]; rfl
    · rw [if_neg h1, if_neg h5, if_neg (by omega), ← tk_part (by omega) (by omega)]
      have et : decide (k ≠ 5) = true := by simp [h5]
      rw [et]
      have ok := tkR_ok (s := s) (i := 1) (b := true) (by omega) (by omega)
      generalize tkR s 1 true = t at *
      unfold fm1 toPR
      by_cases he : t.e = 0
      · rw [if_pos he, if_pos he]
        have hj := ok.j
        show _ = if Sc.bt s t.j = 44 then secR s k (toPt s t.p) (partR s (t.j + 1)) else endR s k (toPt s t.p) (one (toPt s t.p)) 1 t.j
        by_cases hc : Sc.bt s t.j = 44
        · have hlt := bt_in (s := s) (i := t.j) (by omega)
          rw [if_pos ⟨h5, hc⟩, if_pos hc, ← tk_part (by omega) (by omega)]
          have ok2 := tkR_ok (s := s) (i := t.j + 1) (b := true) (by omega) (by omega)
          generalize tkR s (t.j + 1) true = u at *
          unfold fm2 toPR
          by_cases hu : u.e = 0
          · rw [if_pos hu, if_pos hu, end_doc ok2.j]; rfl
          · rw [if_neg hu, if_neg hu]; rfl
        · rw [if_neg (by simp [hc]), if_neg hc, ← one_plain, end_doc hj]
      · rw [if_neg he, if_neg he]; rfl

/-- What both parts must be like. -/
structure Pok (s : ByteArray) (p : Dp) : Prop where
  at_ : 1 ≤ p.at_
  st : p.st = -1 ∨ 1 ≤ p.st
  sg : p.sg = -1 ∨ 1 ≤ p.sg
theorem wo_cap {v : Nat} : (65536 < wo v ↔ 65536 < cap v) ∧ (wo v ≤ 65536 → wo v = v ∧ cap v = v) := by
  unfold wo cap
  split <;> split <;> omega
theorem chk1 {k w h : Nat} {z : Int} (hk1 : 1 ≤ k) (hk5 : k ≤ 5) (hw : w ≤ 65536) (hh : h ≤ 65536) (h0 : 3 ≤ k → w ≠ 0 ∧ h ≠ 0) : (chk k w h 1 z = 0) ↔ ¬ ((k ≠ 2 ∧ k ≠ 3) ∨ (w : Int) ≤ z ∨ z ≤ -(w : Int) ∨ (k = 2 ∧ (z = 0 ∨ w = 0 ∨ h = 0))) := by
  unfold chk sd
  repeat' split
  all_goals omega
theorem chk2 {k w h : Nat} {z : Int} (hk1 : 1 ≤ k) (hk5 : k ≤ 5) (hw : w ≤ 65536) (hh : h ≤ 65536) (h0 : 3 ≤ k → w ≠ 0 ∧ h ≠ 0) : (chk k w h 2 z = 0) ↔ ¬ ((k ≠ 2 ∧ k ≠ 3) ∨ (h : Int) ≤ z ∨ z ≤ -(h : Int) ∨ (k = 2 ∧ (z = 0 ∨ w = 0 ∨ h = 0))) := by
  unfold chk sd
  repeat' split
  all_goals omega
/-- The shift of a part, in both readings. -/
theorem sh_bd {s : ByteArray} {p : Dp} {w : Nat} (hw : w ≤ 65536) (hg : 0 ≤ p.sg) : (((w : Int) ≤ (toPt s p).sh ∨ (toPt s p).sh ≤ -(w : Int)) ↔ w ≤ dN s p) ∧ ((toPt s p).sh = 0 ↔ dN s p = 0) ∧ (dN s p < w → (toPt s p).sh = dSh s p) := by
  have e : (toPt s p).sh = if Sc.bt s p.sg.toNat = 45 then -(cap (num s p.fr.toNat) : Int) else (cap (num s p.fr.toNat) : Int) := by
    unfold toPt
    rw [if_neg (by omega)]
  rw [e]
  unfold dSh dN
  have hc := wo_cap (v := num s p.fr.toNat)
  have hcp : cap (num s p.fr.toNat) = 0 ↔ wo (num s p.fr.toNat) = 0 := by
    unfold wo cap
    split <;> split <;> omega
  generalize cap (num s p.fr.toNat) = c at *
  generalize hv : wo (num s p.fr.toNat) = v at *
  generalize num s p.fr.toNat = u at *
  split <;> omega
theorem tw_doc {s : ByteArray} {k : Nat} {p q : Dp} (hs : 0 < s.size) (hp : Pok s p) (hq : Pok s q) : (wst k (toPt s p) (toPt s q) s.size ≠ 0 ↔ twB k p q = true) ∧ (twB k p q = true → wst k (toPt s p) (toPt s q) s.size = (twP s.size k p q).toNat) := by
  have s1 : (toPt s p).star = p.st.toNat := rfl
  have s2 : (toPt s q).star = q.st.toNat := rfl
  have h1 := hp.st
  have h2 := hq.st
  unfold wst twB twP
  rw [s1, s2]
  simp only [Bool.or_eq_true, decide_eq_true_eq]
  constructor
  · repeat' split
    all_goals omega
  · intro h
    repeat' split
    all_goals omega
theorem wsp_doc {s : ByteArray} {k w h : Nat} {p : Dp} {Q : Pt} (hk1 : 1 ≤ k) (hk5 : k ≤ 5) (hp : Pok s p) (hw : (toPt s p).len = w) (hh : Q.len = h) (hdw : dW s p = w) (bw : w ≤ 65536) (bh : h ≤ 65536) (h0 : 3 ≤ k → w ≠ 0 ∧ h ≠ 0) (hg : 0 ≤ p.sg) : wsp k (toPt s p) Q = shX s k p w h := by
  have c := chk1 (z := (toPt s p).sh) hk1 hk5 bw bh h0
  obtain ⟨b1, b2, _⟩ := sh_bd (s := s) (p := p) bw hg
  have s1 : (toPt s p).star = p.st.toNat := rfl
  have h1 := hp.st
  unfold wsp shX
  rw [hw, hh, hdw, s1, Bool.eq_iff_iff]
  simp only [Bool.or_eq_true, decide_eq_true_eq, Bool.not_eq_true', beq_eq_false_iff_ne, ne_eq]
  generalize chk (k : Int) (w : Int) (h : Int) 1 (toPt s p).sh = x at *
  generalize (toPt s p).sh = z at *
  generalize dN s p = n at *
  omega
theorem wsq_doc {s : ByteArray} {k w h : Nat} {p q : Dp} (hk1 : 1 ≤ k) (hk5 : k ≤ 5) (hp : Pok s p) (hq : Pok s q) (hw : (toPt s p).len = w) (hh : (toPt s q).len = h) (hdw : dW s q = h) (bw : w ≤ 65536) (bh : h ≤ 65536) (h0 : 3 ≤ k → w ≠ 0 ∧ h ≠ 0) (hg : 0 ≤ q.sg) : wsq k (toPt s p) (toPt s q) = (decide (0 ≤ p.sg) || shX s k q w h) := by
  have c := chk2 (z := (toPt s q).sh) hk1 hk5 bw bh h0
  obtain ⟨b1, b2, _⟩ := sh_bd (s := s) (p := q) bh hg
  have s1 : (toPt s q).star = q.st.toNat := rfl
  have s2 : (toPt s p).sign = p.sg.toNat := rfl
  have h1 := hq.st
  have h2 := hp.sg
  unfold wsq shX
  rw [hw, hh, hdw, s1, s2, Bool.eq_iff_iff]
  simp only [Bool.or_eq_true, decide_eq_true_eq, Bool.not_eq_true', beq_eq_false_iff_ne, ne_eq]
  generalize chk (k : Int) (w : Int) (h : Int) 2 (toPt s q).sh = x at *
  generalize (toPt s q).sh = z at *
  generalize dN s q = n at *
  omega
theorem sen_doc {s : ByteArray} {k : Nat} {p q : Dp} (hs : 0 < s.size) (hk1 : 1 ≤ k) (hk5 : k ≤ 5) (hp : Pok s p) (hq : Pok s q) : sayR k (toPt s p) (toPt s q) s.size = senD s k p q := by
  have a1 := wo_cap (v := num s p.at_.toNat)
  have a2 := wo_cap (v := num s q.at_.toNat)
  have l1 : (toPt s p).len = cap (num s p.at_.toNat) := rfl
  have l2 : (toPt s q).len = cap (num s q.at_.toNat) := rfl
  have w1 : dW s p = wo (num s p.at_.toNat) := rfl
  have w2 : dW s q = wo (num s q.at_.toNat) := rfl
  unfold sayR senseR senD
  by_cases c1 : 65536 < dW s p
  · rw [if_pos c1, if_pos (show 65536 < (toPt s p).len by omega)]; rfl
  rw [if_neg c1, if_neg (show ¬ 65536 < (toPt s p).len by omega)]
  by_cases c2 : 65536 < dW s q
  · rw [if_pos c2, if_pos (show 65536 < (toPt s q).len by omega)]; rfl
  rw [if_neg c2, if_neg (show ¬ 65536 < (toPt s q).len by omega)]
  have e1 : (toPt s p).len = dW s p := by omega
  have e2 : (toPt s q).len = dW s q := by omega
  rw [e1, e2]
  by_cases c3 : 3 ≤ k ∧ dW s p = 0
  · rw [if_pos c3, if_pos c3]; rfl
  rw [if_neg c3, if_neg c3]
  by_cases c4 : 3 ≤ k ∧ dW s q = 0
  · rw [if_pos c4, if_pos c4]; rfl
  rw [if_neg c4, if_neg c4]
  obtain ⟨t1, t2⟩ := tw_doc (k := k) hs hp hq
  by_cases c5 : twB k p q = true
  · have c5' := t1.2 c5
    rw [if_pos c5, if_pos c5', t2 c5]; rfl
  have c5' : ¬ wst k (toPt s p) (toPt s q) s.size ≠ 0 := fun h => c5 (t1.1 h)
  rw [if_neg c5, if_neg c5']
  have h0 : 3 ≤ k → dW s p ≠ 0 ∧ dW s q ≠ 0 := by omega
  have bw : dW s p ≤ 65536 := by omega
  have bh : dW s q ≤ 65536 := by omega
  have sp := hp.sg
  have sq := hq.sg
  have g1 : (toPt s p).sign = p.sg.toNat := rfl
  have g2 : (toPt s q).sign = q.sg.toNat := rfl
  have x1 : 0 ≤ p.sg → wsp k (toPt s p) (toPt s q) = shX s k p (dW s p) (dW s q) := wsp_doc hk1 hk5 hp e1 e2 rfl bw bh h0
  have x2 : 0 ≤ q.sg → wsq k (toPt s p) (toPt s q) = (decide (0 ≤ p.sg) || shX s k q (dW s p) (dW s q)) := wsq_doc hk1 hk5 hp hq e1 e2 rfl bw bh h0
  have key : (wsg k (toPt s p) (toPt s q) ≠ 0 ↔ shB s k p q (dW s p) (dW s q) = true) ∧ (shB s k p q (dW s p) (dW s q) = true → wsg k (toPt s p) (toPt s q) = (shP s k p q (dW s p) (dW s q)).toNat) := by
    unfold wsg shB shP
    rw [g1, g2]
    by_cases y1 : 0 ≤ p.sg
    · rw [x1 y1]
      cases z1 : shX s k p (dW s p) (dW s q)
      · by_cases y2 : 0 ≤ q.sg
        · rw [x2 y2]
          simp [y1, y2]; omega
        · have n2 : ¬ 0 ≤ q.sg := y2
          have m2 : q.sg.toNat = 0 := by omega
          simp [y1, n2, m2]
      · have m1 : p.sg.toNat ≠ 0 := by omega
        simp [y1, m1]
    · have m1 : p.sg.toNat = 0 := by omega
      by_cases y2 : 0 ≤ q.sg
      · rw [x2 y2]
        have m2 : q.sg.toNat ≠ 0 := by omega
        cases z2 : shX s k q (dW s p) (dW s q)
        · simp [y1, y2, m1]
        · simp [y1, y2, m1, m2]
      · have m2 : q.sg.toNat = 0 := by omega
        simp [y1, y2, m1, m2]
  by_cases c6 : shB s k p q (dW s p) (dW s q) = true
  · have c6' := key.1.2 c6
    rw [if_pos c6, if_pos c6', key.2 c6]; rfl
  have c6' : ¬ wsg k (toPt s p) (toPt s q) ≠ 0 := fun h => c6 (key.1.1 h)
  rw [if_neg c6, if_neg c6']
  show topoR k (toPt s p) (toPt s q) = topD s k p q
  have f6 : shB s k p q (dW s p) (dW s q) = false := by simpa using c6
  have f5 : twB k p q = false := by simpa using c5
  have d1 := fun (hg : 0 ≤ p.sg) => (sh_bd (s := s) (p := p) bw hg).2.2
  have d2 := fun (hg : 0 ≤ q.sg) => (sh_bd (s := s) (p := q) bh hg).2.2
  have o1 : p.sg < 0 → (toPt s p).sh = 0 := fun h => by unfold toPt; rw [if_pos h]
  have o2 : q.sg < 0 → (toPt s q).sh = 0 := fun h => by unfold toPt; rw [if_pos h]
  unfold shB at f6
  unfold twB at f5
  simp only [Bool.or_eq_false_iff, Bool.and_eq_false_iff, decide_eq_false_iff_not] at f5 f6
  unfold shX at f6
  simp only [decide_eq_false_iff_not] at f6
  have s1 : (toPt s p).star = p.st.toNat := rfl
  have s2 : (toPt s q).star = q.st.toNat := rfl
  have h1 := hp.st
  have h2 := hq.st
  unfold topoR topD
  rw [e1, e2, g1, g2, s1, s2]
  by_cases y : 0 ≤ p.st ∨ 0 ≤ p.sg
  · have n1 : ¬ (0 ≤ q.st ∨ 0 ≤ q.sg) := by omega
    rw [if_pos (show p.st.toNat ≠ 0 ∨ p.sg.toNat ≠ 0 by omega), if_neg n1, if_pos y, if_neg (show ¬ 0 ≤ q.sg by omega)]
    by_cases z : 0 ≤ p.sg
    · rw [if_pos z, d1 z (by omega)]
    · rw [if_neg z, o1 (by omega)]
  · rw [if_neg (show ¬ (p.st.toNat ≠ 0 ∨ p.sg.toNat ≠ 0) by omega)]
    by_cases y2 : 0 ≤ q.st ∨ 0 ≤ q.sg
    · rw [if_pos (show q.st.toNat ≠ 0 ∨ q.sg.toNat ≠ 0 by omega), if_pos y2]
      by_cases z : 0 ≤ q.sg
      · rw [if_pos z, d2 z (by omega)]
      · rw [if_neg z, if_neg (show ¬ 0 ≤ p.sg by omega), o2 (by omega)]
    · rw [if_neg (show ¬ (q.st.toNat ≠ 0 ∨ q.sg.toNat ≠ 0) by omega), if_neg y2, if_neg y, if_neg (show ¬ 0 ≤ q.sg by omega), if_neg (show ¬ 0 ≤ p.sg by omega)]
theorem dok_pok {s : ByteArray} {i : Nat} {t : Tk} (h : Dok s i t) (hi : 1 ≤ i) : Pok s t.p := by
  have h1 := h.at_
  have h2 := h.st
  have h3 := h.sg
  exact ⟨by omega, by omega, by omega⟩
theorem plain_pok {s : ByteArray} {p : Dp} (h : Pok s p) : Pok s (plainD p) := ⟨h.at_, .inl rfl, .inl rfl⟩
/-- What the form of a text is like. -/
def FmOk (s : ByteArray) : Fm → Prop
  | .bad _ _ _ => True
  | .none k => 1 ≤ k ∧ k ≤ 2
  | .ok k n p q => 0 < s.size ∧ 1 ≤ k ∧ k ≤ 5 ∧ Pok s p ∧ Pok s q
theorem fm_ok (s : ByteArray) : FmOk s (fmR s) := by
  unfold fmR
  split
  · trivial
  · rename_i h0
    have hs : 0 < s.size := bt_in (s := s) (i := 0) (by intro q; rw [q] at h0; exact h0 rfl)
    have h5 := kind_le (Sc.bt s 0)
    generalize kindR (Sc.bt s 0) = k at *
    unfold fmK
    split
    · rename_i h; exact ⟨by omega, h.2⟩
    · have ok := tkR_ok (s := s) (i := 1) (b := decide (k ≠ 5)) (by omega) (by omega)
      have p1 := dok_pok ok (by omega)
      generalize tkR s 1 (decide (k ≠ 5)) = t at *
      unfold fm1
      split
      · split
        · rename_i hc
          have hlt := bt_in (s := s) (i := t.j) (by omega)
          have ok2 := tkR_ok (s := s) (i := t.j + 1) (b := true) (by omega) (by omega)
          have p2 := dok_pok ok2 (by omega)
          generalize tkR s (t.j + 1) true = u at *
          unfold fm2
          split
          · split
            · trivial
            · exact ⟨hs, by omega, h5, p1, p2⟩
          · trivial
        · split
          · trivial
          · exact ⟨hs, by omega, h5, p1, plain_pok p1⟩
      · trivial
theorem say_zero {k : Nat} (h1 : 1 ≤ k) (h2 : k ≤ 2) : sayR k Pt.zero Pt.zero 1 = ⟨k, 0, 0, 0, 0, 0, 0⟩ := by
  obtain rfl | rfl : k = 1 ∨ k = 2 := by omega
  · rfl
  · rfl
theorem doc_is (s : ByteArray) : docR s = parseR s := by
  unfold docR parseR
  split
  · rfl
  · rw [← fm_form]
    have ok := fm_ok s
    cases h : fmR s with
    | bad k e a => rfl
    | none k =>
      rw [h] at ok
      exact (say_zero ok.1 ok.2).symm
    | ok k n p q =>
      rw [h] at ok
      obtain ⟨a1, a2, a3, a4, a5⟩ := ok
      exact (sen_doc a1 a2 a3 a4 a5).symm
end Go.Proofs.YteegbhnfkcbnoaaDoor.Tp
