/- Plain facts on the texts of topologies: the text that P4.3 writes is read, by P4.2, as the topology. Nothing of the program in it. -/
import Derived.Test.YteegbhnfkcbnoaaDoorTm
namespace Go.Proofs.YteegbhnfkcbnoaaDoor.Tp
open Go.Lib
set_option linter.unusedSimpArgs false

/-- The first byte of a list (0 of none). -/
def hd (r : List UInt8) : Nat := match r with | [] => 0 | c :: _ => c.toNat
abbrev tx (l : List UInt8) : ByteArray := ⟨l.toArray⟩
theorem tx_size (l : List UInt8) : (tx l).size = l.length := by simp [tx, ByteArray.size]
theorem bt_tx {l : List UInt8} {i : Nat} {c : UInt8} (h : l[i]? = some c) : Sc.bt (tx l) i = c.toNat := Sc.bt_list (by simpa [tx] using h)
theorem bt_off {l : List UInt8} {i : Nat} (h : l.length ≤ i) : Sc.bt (tx l) i = 0 := Sc.bt_off (by rw [tx_size]; omega)
theorem bt_hd (a r : List UInt8) : Sc.bt (tx (a ++ r)) a.length = hd r := by
  cases r with
  | nil => rw [List.append_nil]; exact bt_off (Nat.le_refl _)
  | cons c r => exact bt_tx (by simp)
theorem list_ext' (s : ByteArray) (a b : Nat) : (s.extract a b).data.toList = (s.data.toList.drop a).take (b - a) := by
  rw [ByteArray.data_extract, Array.toList_extract]
theorem dg_app (a d r : List UInt8) (hD : Tx.allD d = true) (hr : Sc.digitB (hd r) = false) : dg (tx (a ++ (d ++ r))) a.length = a.length + d.length := by
  refine Sc.ov_of ⟨by omega, by rw [tx_size]; simp, fun j h1 h2 => ?_, fun h => ?_⟩
  · obtain ⟨m, rfl⟩ : ∃ m, j = a.length + m := ⟨j - a.length, by omega⟩
    have hm : m < d.length := by omega
    have h3 : (a ++ (d ++ r))[a.length + m]? = some d[m] := by
      rw [List.getElem?_append_right (by omega), show a.length + m - a.length = m by omega, List.getElem?_append_left hm, List.getElem?_eq_getElem hm]
    rw [bt_tx h3]
    have h4 : Tx.isD d[m] = true := (List.all_eq_true.1 hD) _ (List.getElem_mem hm)
    have h5 := (Tx.isD_iff _).1 h4
    unfold Sc.digitB
    rw [Sc.wi_iff]; omega
  · have h3 := bt_hd (a ++ d) r
    rw [List.append_assoc, List.length_append] at h3
    rw [h3]; exact hr
theorem num_app (a d r : List UInt8) (hD : Tx.allD d = true) (hr : Sc.digitB (hd r) = false) : num (tx (a ++ (d ++ r))) a.length = Tx.vl 0 d := by
  unfold num
  rw [dg_app a d r hD hr, list_ext']
  congr 1
  simp [tx]
/-- A sign and digits. -/
def sgn (z : Int) : List UInt8 := if z = 0 then [] else if z < 0 then 45 :: decDigits z.natAbs else 43 :: decDigits z.natAbs
def hasB (b : Bool) : List UInt8 := if b then [42] else []
theorem not_digit {c : Nat} (h : c < 48 ∨ 57 < c) : Sc.digitB c = false := by unfold Sc.digitB; rw [Sc.wi_niff]; omega
theorem dec_digits (u : Nat) : Tx.allD (decDigits u) = true := (Tx.dec_vl u).1
theorem dec_val (u : Nat) : Tx.vl 0 (decDigits u) = u := (Tx.dec_vl u).2
theorem dec_len (u : Nat) : 0 < (decDigits u).length := List.length_pos_iff.2 (Tx.dec_ne u)
/-- A part that is written is read. -/
theorem part_app (a : List UInt8) (n : Nat) (st : Bool) (z : Int) (r : List UInt8) (hn : n ≤ 65536) (hz : z.natAbs ≤ 65536) (hr : hd r = 0 ∨ hd r = 44) :
    partR (tx (a ++ (decDigits n ++ (hasB st ++ (sgn z ++ r))))) a.length = .ok ⟨a.length, n, if st then a.length + (decDigits n).length else 0, if z = 0 then 0 else a.length + (decDigits n).length + (hasB st).length, z⟩ (a.length + (decDigits n).length + (hasB st).length + (sgn z).length) := by
  have hR : Sc.digitB (hd r) = false := not_digit (by omega)
  have hS : Sc.digitB (hd (sgn z ++ r)) = false := by
    by_cases z0 : z = 0
    · rw [sgn, if_pos z0]; exact hR
    · by_cases z1 : z < 0
      · rw [sgn, if_neg z0, if_pos z1]; rfl
      · rw [sgn, if_neg z0, if_neg z1]; rfl
  have hB : Sc.digitB (hd (hasB st ++ (sgn z ++ r))) = false := by cases st with | true => rfl | false => exact hS
  have e1 := dg_app a (decDigits n) _ (dec_digits n) hB
  have e2 := num_app a (decDigits n) _ (dec_digits n) hB
  rw [dec_val] at e2
  have h0 := dec_len n
  have c1 : cap n = n := cap_yes (by omega)
  have c2 : cap z.natAbs = z.natAbs := cap_yes (by omega)
  unfold partR
  rw [e1, if_pos (by omega)]
  -- the part behind the star, at b = a ++ digits ++ star
  have key : ∀ (b : List UInt8) (i0 : Nat) (sp : Nat), num (tx (b ++ (sgn z ++ r))) i0 = n → partC (tx (b ++ (sgn z ++ r))) i0 sp b.length = .ok ⟨i0, n, sp, if z = 0 then 0 else b.length, z⟩ (b.length + (sgn z).length) := by
    intro b i0 sp hnum
    unfold partC
    rw [bt_hd b, hnum, c1]
    by_cases z0 : z = 0
    · have e3 : sgn z = [] := if_pos z0
      rw [e3, List.nil_append, if_neg (by omega), if_pos z0, List.length_nil, z0]; rfl
    · by_cases z1 : z < 0
      · have e3 : sgn z = 45 :: decDigits z.natAbs := by rw [sgn, if_neg z0, if_pos z1]
        rw [e3]
        have e4 := dg_app (b ++ [45]) (decDigits z.natAbs) r (dec_digits _) hR
        have e5 := num_app (b ++ [45]) (decDigits z.natAbs) r (dec_digits _) hR
        rw [dec_val] at e5
        have e6 : b ++ [45] ++ (decDigits z.natAbs ++ r) = b ++ (45 :: decDigits z.natAbs ++ r) := by simp
        rw [e6, List.length_append, List.length_singleton] at e4 e5
        have h1 := dec_len z.natAbs
        have e8 : hd (45 :: decDigits z.natAbs ++ r) = 45 := rfl
        rw [e8, e4, e5, c2, if_pos (Or.inl rfl), if_pos (by omega), if_neg z0, if_pos rfl]
        have e7 : -((z.natAbs : Nat) : Int) = z := by omega
        rw [e7, List.length_cons, show b.length + 1 + (decDigits z.natAbs).length = b.length + ((decDigits z.natAbs).length + 1) by omega]
      · have e3 : sgn z = 43 :: decDigits z.natAbs := by rw [sgn, if_neg z0, if_neg z1]
        rw [e3]
        have e4 := dg_app (b ++ [43]) (decDigits z.natAbs) r (dec_digits _) hR
        have e5 := num_app (b ++ [43]) (decDigits z.natAbs) r (dec_digits _) hR
        rw [dec_val] at e5
        have e6 : b ++ [43] ++ (decDigits z.natAbs ++ r) = b ++ (43 :: decDigits z.natAbs ++ r) := by simp
        rw [e6, List.length_append, List.length_singleton] at e4 e5
        have h1 := dec_len z.natAbs
        have e8 : hd (43 :: decDigits z.natAbs ++ r) = 43 := rfl
        rw [e8, e4, e5, c2, if_pos (Or.inr rfl), if_pos (by omega), if_neg z0, if_neg (by decide)]
        have e7 : ((z.natAbs : Nat) : Int) = z := by omega
        rw [e7, List.length_cons, show b.length + 1 + (decDigits z.natAbs).length = b.length + ((decDigits z.natAbs).length + 1) by omega]
  unfold partB
  have e8 := bt_hd (a ++ decDigits n) (hasB st ++ (sgn z ++ r))
  rw [List.append_assoc, List.length_append] at e8
  rw [e8]
  cases st with
  | true =>
    have k1 := key (a ++ decDigits n ++ [42]) a.length (a.length + (decDigits n).length)
    have e9 : a ++ decDigits n ++ [42] ++ (sgn z ++ r) = a ++ (decDigits n ++ (hasB true ++ (sgn z ++ r))) := by simp [hasB]
    rw [e9, List.length_append, List.length_append, List.length_singleton] at k1
    rw [if_pos rfl, k1 e2]
    rfl
  | false =>
    have k1 := key (a ++ decDigits n) a.length 0
    have e9 : a ++ decDigits n ++ (sgn z ++ r) = a ++ (decDigits n ++ (hasB false ++ (sgn z ++ r))) := by simp [hasB]
    rw [e9, List.length_append] at k1
    rw [if_neg, k1 e2]
    · rfl
    · change ¬ hd (sgn z ++ r) = 42
      by_cases z0 : z = 0
      · rw [sgn, if_pos z0]; change ¬ hd r = 42; omega
      · by_cases z1 : z < 0
        · rw [sgn, if_neg z0, if_pos z1]; simp [hd]
        · rw [sgn, if_neg z0, if_neg z1]; simp [hd]
/-- A kind's letter. -/
def letL (k : Nat) : UInt8 := if k = 1 then 80 else if k = 2 then 84 else if k = 3 then 75 else if k = 4 then 67 else 83
theorem kind_let {k : Nat} (h1 : 1 ≤ k) (h5 : k ≤ 5) : kindR (letL k).toNat = k := by
  obtain h | h | h | h | h : k = 1 ∨ k = 2 ∨ k = 3 ∨ k = 4 ∨ k = 5 := by omega
  all_goals subst h; rfl
/-- What stands behind a side's number: i = 1, the width; i = 2, the height. -/
def tailL (k t : Nat) (z : Int) (i : Nat) : List UInt8 := if t = i then hasB (decide (k = 3)) ++ sgn z else []
/-- A topology's text. -/
def printL (k w h t : Nat) (z : Int) : List UInt8 :=
  if k = 5 then letL k :: decDigits w
  else if w = 0 ∧ h = 0 then [letL k]
  else letL k :: (decDigits w ++ (tailL k t z 1 ++ (44 :: (decDigits h ++ tailL k t z 2))))
theorem pT : parseR ⟨#[84]⟩ = ⟨2, 0, 0, 0, 0, 0, 0⟩ := by kernel_rfl
theorem sgn_zero : sgn 0 = [] := rfl
theorem dg_end (a d : List UInt8) (hD : Tx.allD d = true) : dg (tx (a ++ d)) a.length = a.length + d.length := by
  have := dg_app a d [] hD rfl
  rwa [List.append_nil] at this
theorem num_end (a d : List UInt8) (hD : Tx.allD d = true) : num (tx (a ++ d)) a.length = Tx.vl 0 d := by
  have := num_app a d [] hD rfl
  rwa [List.append_nil] at this
theorem dec_up : ∀ (n u : Nat), u < 10 ^ (n + 1) → (decDigits u).length ≤ n + 1
  | 0, u, h => by rw [decDigits, dif_pos (by simpa using h)]; simp
  | n + 1, u, h => by
    by_cases h0 : u < 10
    · rw [decDigits, dif_pos h0]; simp
    · rw [decDigits, dif_neg h0, List.length_append]
      have h1 : 10 ^ (n + 1 + 1) = 10 ^ (n + 1) * 10 := Nat.pow_succ 10 (n + 1)
      have := dec_up n (u / 10) (by omega)
      simp; omega
theorem dec_short {u : Nat} (h : u < 1000000) : (decDigits u).length ≤ 6 := dec_up 5 u h
theorem tail_is (k t : Nat) (z : Int) (i : Nat) : tailL k t z i = hasB (decide (t = i ∧ k = 3)) ++ sgn (if t = i then z else 0) := by
  unfold tailL
  by_cases h : t = i
  · simp [h]
  · simp [h, sgn_zero, hasB]
theorem has_le (b : Bool) : (hasB b).length ≤ 1 := by cases b <;> decide
theorem sgn_le {z : Int} (h : z.natAbs ≤ 65536) : (sgn z).length ≤ 7 := by
  have := dec_short (u := z.natAbs) (by omega)
  unfold sgn
  repeat' split
  all_goals simp <;> omega
set_option maxHeartbeats 2000000 in
/-- THERE AND BACK. -/
theorem back {k w h t : Nat} {z : Int} (o : Ok k w h t z) : parseR (tx (printL k w h t z)) = ⟨k, w, h, t, z, 0, 0⟩ := by
  have a1 := o.kind; have a2 := o.wide; have a3 := o.high; have a4 := o.alike; have a5 := o.ended; have a6 := o.turn; have a7 := o.turns; have a8 := o.flips; have a9 := o.none; have a10 := o.near; have a11 := o.torus
  have lw := Tx.dec_vl w
  by_cases k5 : k = 5
  · subst k5
    have hwh : w = h := by omega
    have ht : t = 0 := by omega
    have hz : z = 0 := by omega
    subst hwh; subst ht; subst hz
    have hp : printL 5 w w 0 0 = [letL 5] ++ decDigits w := by rw [printL, if_pos rfl]; rfl
    rw [hp]
    have e1 := dg_end [letL 5] (decDigits w) (dec_digits w)
    have e2 := num_end [letL 5] (decDigits w) (dec_digits w)
    rw [dec_val] at e2
    have h0 := dec_len w
    have e3 : Sc.bt (tx ([letL 5] ++ decDigits w)) 0 = 83 := bt_hd [] ([letL 5] ++ decDigits w)
    have hs : (tx ([letL 5] ++ decDigits w)).size = 1 + (decDigits w).length := by rw [tx_size]; simp; omega
    have hl : (decDigits w).length ≤ 6 := dec_short (by omega)
    have e4 : lenR (tx ([letL 5] ++ decDigits w)) 1 = ⟨1, w, 0, 0, 0⟩ := by
      unfold lenR
      have : num (tx ([letL 5] ++ decDigits w)) 1 = w := e2
      rw [this, cap_yes (by omega)]
    unfold parseR
    rw [if_neg (by omega)]
    have e5 : formR (tx ([letL 5] ++ decDigits w)) = .ok 5 ⟨1, w, 0, 0, 0⟩ ⟨1, w, 0, 0, 0⟩ 1 (1 + (decDigits w).length) := by
      unfold formR bodyR endR
      have e6 : dg (tx ([letL 5] ++ decDigits w)) 1 = 1 + (decDigits w).length := e1
      rw [e3, if_neg (by decide), if_pos (by decide), e6, if_pos (by omega), hs, if_pos rfl, e4]
    rw [e5]
    change sayR 5 _ _ _ = _
    unfold sayR
    have e6 : senseR 5 ⟨1, w, 0, 0, 0⟩ ⟨1, w, 0, 0, 0⟩ (1 + (decDigits w).length) = ⟨0, 0⟩ := by
      unfold senseR
      rw [if_neg (by change ¬ 65536 < w; omega), if_neg (by change ¬ 65536 < w; omega), if_neg (by change ¬ (3 ≤ 5 ∧ w = 0); omega), if_neg (by change ¬ (3 ≤ 5 ∧ w = 0); omega)]
      rfl
    rw [e6]
    rfl
  · by_cases w0 : w = 0 ∧ h = 0
    · have ht : t = 0 := by
        by_cases t0 : t = 0
        · exact t0
        · have := a7 (by omega)
          have := a11 (by omega) (by omega)
          omega
      have hz : z = 0 := by omega
      obtain ⟨rfl, rfl⟩ := w0
      subst ht; subst hz
      obtain h12 | h12 : k = 1 ∨ k = 2 := by omega
      · subst h12; exact pP
      · subst h12; exact pT
    · have hp : printL k w h t z = [letL k] ++ (decDigits w ++ (tailL k t z 1 ++ (44 :: (decDigits h ++ tailL k t z 2)))) := by rw [printL, if_neg k5, if_neg w0]; rfl
      rw [hp, tail_is, tail_is]
      generalize hst1 : decide (t = 1 ∧ k = 3) = st1
      generalize hst2 : decide (t = 2 ∧ k = 3) = st2
      generalize hz1 : (if t = 1 then z else 0) = z1
      generalize hz2 : (if t = 2 then z else 0) = z2
      have hzn : z.natAbs < 65536 := by
        by_cases t0 : t = 0
        · have := a9 (by omega); omega
        · have b1 := a10 (by omega)
          have b2 : sd w h t ≤ 65536 := by unfold sd; split <;> omega
          omega
      have hn1 : z1.natAbs ≤ 65536 := by rw [← hz1]; split <;> omega
      have hn2 : z2.natAbs ≤ 65536 := by rw [← hz2]; split <;> omega
      have p1 := part_app [letL k] w st1 z1 (44 :: (decDigits h ++ (hasB st2 ++ sgn z2))) (by omega) hn1 (Or.inr rfl)
      have p2 := part_app ([letL k] ++ decDigits w ++ hasB st1 ++ sgn z1 ++ [44]) h st2 z2 [] (by omega) hn2 (Or.inl rfl)
      rw [List.append_nil] at p2
      have e1 : [letL k] ++ decDigits w ++ hasB st1 ++ sgn z1 ++ [44] ++ (decDigits h ++ (hasB st2 ++ sgn z2)) = [letL k] ++ (decDigits w ++ (hasB st1 ++ sgn z1 ++ (44 :: (decDigits h ++ (hasB st2 ++ sgn z2))))) := by simp
      have e1' : [letL k] ++ (decDigits w ++ (hasB st1 ++ (sgn z1 ++ (44 :: (decDigits h ++ (hasB st2 ++ sgn z2)))))) = [letL k] ++ (decDigits w ++ (hasB st1 ++ sgn z1 ++ (44 :: (decDigits h ++ (hasB st2 ++ sgn z2))))) := by simp
      rw [e1] at p2
      rw [e1'] at p1
      have e2 := bt_hd ([letL k] ++ decDigits w ++ hasB st1 ++ sgn z1) (44 :: (decDigits h ++ (hasB st2 ++ sgn z2)))
      have e3 : [letL k] ++ decDigits w ++ hasB st1 ++ sgn z1 ++ (44 :: (decDigits h ++ (hasB st2 ++ sgn z2))) = [letL k] ++ (decDigits w ++ (hasB st1 ++ sgn z1 ++ (44 :: (decDigits h ++ (hasB st2 ++ sgn z2))))) := by simp
      rw [e3] at e2
      have e4 : Sc.bt (tx ([letL k] ++ (decDigits w ++ (hasB st1 ++ sgn z1 ++ (44 :: (decDigits h ++ (hasB st2 ++ sgn z2))))))) 0 = (letL k).toNat := bt_hd [] ([letL k] ++ (decDigits w ++ (hasB st1 ++ sgn z1 ++ (44 :: (decDigits h ++ (hasB st2 ++ sgn z2))))))
      have e5 := tx_size ([letL k] ++ (decDigits w ++ (hasB st1 ++ sgn z1 ++ (44 :: (decDigits h ++ (hasB st2 ++ sgn z2))))))
      have hL : ([letL k] ++ (decDigits w ++ (hasB st1 ++ sgn z1 ++ (44 :: (decDigits h ++ (hasB st2 ++ sgn z2)))))).length = 1 + (decDigits w).length + (hasB st1).length + (sgn z1).length + 1 + (decDigits h).length + (hasB st2).length + (sgn z2).length := by simp; omega
      have e7 : ([letL k] ++ decDigits w ++ hasB st1 ++ sgn z1).length = 1 + (decDigits w).length + (hasB st1).length + (sgn z1).length := by simp; omega
      have e8 : ([letL k] ++ decDigits w ++ hasB st1 ++ sgn z1 ++ [44]).length = 1 + (decDigits w).length + (hasB st1).length + (sgn z1).length + 1 := by simp; omega
      have b1 := dec_short (u := w) (by omega)
      have b2 := dec_short (u := h) (by omega)
      have b3 := has_le st1
      have b4 := has_le st2
      have b5 := sgn_le (z := z1) hn1
      have b6 := sgn_le (z := z2) hn2
      have b7 := dec_len w
      have b8 := dec_len h
      rw [hL] at e5
      rw [e7] at e2
      rw [e8] at p2
      clear hp e1 e1' e3 hL e7 e8
      generalize [letL k] ++ (decDigits w ++ (hasB st1 ++ sgn z1 ++ (44 :: (decDigits h ++ (hasB st2 ++ sgn z2))))) = L at p1 p2 e2 e4 e5 ⊢
      have p1' : partR (tx L) 1 = _ := p1
      have hc : hd (44 :: (decDigits h ++ (hasB st2 ++ sgn z2))) = 44 := rfl
      rw [hc] at e2
      clear p1 hc
      generalize hP : Pt.mk [letL k].length w (if st1 then [letL k].length + (decDigits w).length else 0) (if z1 = 0 then 0 else [letL k].length + (decDigits w).length + (hasB st1).length) z1 = P at p1'
      generalize hQ : Pt.mk (1 + (decDigits w).length + (hasB st1).length + (sgn z1).length + 1) h (if st2 then 1 + (decDigits w).length + (hasB st1).length + (sgn z1).length + 1 + (decDigits h).length else 0) (if z2 = 0 then 0 else 1 + (decDigits w).length + (hasB st1).length + (sgn z1).length + 1 + (decDigits h).length + (hasB st2).length) z2 = Q at p2
      have e6 : formR (tx L) = .ok k P Q 2 (tx L).size := by
        unfold formR bodyR
        rw [e4, kind_let (by omega) (by omega), if_neg (by omega), if_neg k5, if_neg (by omega), p1']
        unfold firR
        have e9 : Sc.bt (tx L) ([letL k].length + (decDigits w).length + (hasB st1).length + (sgn z1).length) = 44 := e2
        have e10 : [letL k].length + (decDigits w).length + (hasB st1).length + (sgn z1).length + 1 = 1 + (decDigits w).length + (hasB st1).length + (sgn z1).length + 1 := rfl
        simp only []
        rw [if_pos e9, e10, p2]
        unfold secR endR
        simp only []
        rw [if_pos (by omega), e5]
      unfold parseR
      rw [if_neg (by omega), e6]
      change sayR k P Q (tx L).size = _
      have hPl : P.len = w := by rw [← hP]
      have hQl : Q.len = h := by rw [← hQ]
      have hPs : P.star ≠ 0 ↔ (t = 1 ∧ k = 3) := by rw [← hP]; cases st1 <;> simp_all
      have hQs : Q.star ≠ 0 ↔ (t = 2 ∧ k = 3) := by
        rw [← hQ]; cases st2 <;> simp_all
      have hPg : P.sign ≠ 0 ↔ (t = 1 ∧ z ≠ 0) := by
        rw [← hP, ← hz1]
        by_cases t1 : t = 1
        · rw [if_pos t1]; by_cases zz : z = 0 <;> simp [zz, t1]
        · rw [if_neg t1]; simp [t1]
      have hQg : Q.sign ≠ 0 ↔ (t = 2 ∧ z ≠ 0) := by
        rw [← hQ, ← hz2]
        by_cases t1 : t = 2
        · rw [if_pos t1]; by_cases zz : z = 0 <;> simp [zz, t1]
        · rw [if_neg t1]; simp [t1]
      have hPh : P.sh = if t = 1 then z else 0 := by rw [← hP, hz1]
      have hQh : Q.sh = if t = 2 then z else 0 := by rw [← hQ, hz2]
      have hck := of_ok o (by omega)
      have s1 : wst k P Q (tx L).size = 0 := by
        unfold wst
        by_cases k3 : k = 3
        · rw [if_pos k3]
          by_cases t1 : t = 1
          · rw [if_neg (hPs.2 ⟨t1, k3⟩)]
            by_cases hq : Q.star = 0
            · exact hq
            · have := hQs.1 hq; omega
          · have hq := hQs.2 ⟨by omega, k3⟩
            have hp0 : P.star = 0 := by
              by_cases hp : P.star = 0
              · exact hp
              · have := hPs.1 hp; omega
            rw [if_pos hp0, if_neg hq]
        · rw [if_neg k3]
          have hp0 : P.star = 0 := by
            by_cases hp : P.star = 0
            · exact hp
            · have := hPs.1 hp; omega
          rw [if_pos hp0]
          by_cases hq : Q.star = 0
          · exact hq
          · have := hQs.1 hq; omega
      have s2 : wsg k P Q = 0 := by
        unfold wsg
        rw [if_neg, if_neg]
        · intro ⟨g1, g2⟩
          have g3 := hQg.1 g1
          unfold wsq at g2
          have g4 : P.sign = 0 := by
            by_cases hp : P.sign = 0
            · exact hp
            · have := hPg.1 hp; omega
          rw [hPl, hQl, hQh, if_pos g3.1] at g2
          have g5 : chk k w h 2 z = 0 := by rw [← hck, g3.1]; rfl
          rw [g5] at g2
          have g6 : ¬ (k = 3 ∧ Q.star = 0) := fun ⟨x, y⟩ => hQs.2 ⟨g3.1, x⟩ y
          simp [g4, g6] at g2
        · intro ⟨g1, g2⟩
          have g3 := hPg.1 g1
          unfold wsp at g2
          rw [hPl, hQl, hPh, if_pos g3.1] at g2
          have g5 : chk k w h 1 z = 0 := by rw [← hck, g3.1]; rfl
          rw [g5] at g2
          have g6 : ¬ (k = 3 ∧ P.star = 0) := fun ⟨x, y⟩ => hPs.2 ⟨g3.1, x⟩ y
          simp [g6] at g2
      have s3 : senseR k P Q (tx L).size = ⟨0, 0⟩ := by
        unfold senseR
        rw [hPl, hQl, if_neg (by omega), if_neg (by omega), if_neg (by omega), if_neg (by omega), s1, s2]
        rfl
      unfold sayR
      rw [s3, if_pos rfl]
      unfold topoR
      rw [hPl, hQl, hPh, hQh]
      by_cases t1 : t = 1
      · rw [if_pos]
        · rw [if_pos t1, t1]
        · by_cases k3 : k = 3
          · exact Or.inl (hPs.2 ⟨t1, k3⟩)
          · exact Or.inr (hPg.2 ⟨t1, by have := a7 (by omega); have := a11 (by omega) (by omega); omega⟩)
      · rw [if_neg]
        · by_cases t2 : t = 2
          · rw [if_pos]
            · rw [if_pos t2, t2]
            · by_cases k3 : k = 3
              · exact Or.inl (hQs.2 ⟨t2, k3⟩)
              · exact Or.inr (hQg.2 ⟨t2, by have := a7 (by omega); have := a11 (by omega) (by omega); omega⟩)
          · have t0 : t = 0 := by omega
            rw [if_neg, a9 (by omega), t0]
            intro g
            rcases g with g | g
            · have := hQs.1 g; omega
            · have := hQg.1 g; omega
        · intro g
          rcases g with g | g
          · have := hPs.1 g; omega
          · have := hPg.1 g; omega
end Go.Proofs.YteegbhnfkcbnoaaDoor.Tp
