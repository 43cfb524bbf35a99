/- A rule that is written is read again; digits may stand in any order; a rule turned twice is itself. Plain. -/
import Derived.Test.YtlkdenanbofliaaGreatDoorL9
set_option linter.unusedSimpArgs false
set_option linter.unusedVariables false
set_option maxRecDepth 100000
namespace Go.Proofs.YtlkdenanbofliaaGreatDoor.Lf
open Sc

/-- The set with the digits of a list. -/
def adb (u : Nat) : List UInt8 → Nat
  | [] => u
  | c :: l => adb (u ||| 2 ^ (c.toNat - 48)) l
/-- A list of digits, none twice, none in the set. -/
def Fresh (u : Nat) : List UInt8 → Prop
  | [] => True
  | c :: l => isD c.toNat = true ∧ u.testBit (c.toNat - 48) = false ∧ Fresh (u ||| 2 ^ (c.toNat - 48)) l
theorem adb_app (u : Nat) (a b : List UInt8) : adb u (a ++ b) = adb (adb u a) b := by
  induction a generalizing u with
  | nil => rfl
  | cons c l ih => exact ih _
theorem fresh_app (u : Nat) (a b : List UInt8) : Fresh u (a ++ b) ↔ Fresh u a ∧ Fresh (adb u a) b := by
  induction a generalizing u with
  | nil => simp [Fresh, adb]
  | cons c l ih => simp only [List.cons_append, Fresh, adb, ih]; constructor <;> (intro h; simp_all)
theorem adb_has (l : List UInt8) : ∀ (u j : Nat), u.testBit j = true → (adb u l).testBit j = true := by
  induction l with
  | nil => intro u j h; exact h
  | cons c l ih => intro u j h; exact ih _ _ (by rw [Nat.testBit_or, h]; rfl)
theorem adb_mem {l : List UInt8} {c : UInt8} : ∀ (u : Nat), c ∈ l → (adb u l).testBit (c.toNat - 48) = true := by
  induction l with
  | nil => intro u h; cases h
  | cons d l ih =>
    intro u h
    rcases List.mem_cons.1 h with rfl | h
    · show (adb (u ||| 2 ^ (c.toNat - 48)) l).testBit _ = true
      exact adb_has l _ _ (by rw [Nat.testBit_or, one_bit]; simp)
    · exact ih _ h
theorem fresh_isD {l : List UInt8} {c : UInt8} : ∀ (u : Nat), Fresh u l → c ∈ l → isD c.toNat = true := by
  induction l with
  | nil => intro u _ h; cases h
  | cons d l ih =>
    intro u hf h
    rcases List.mem_cons.1 h with rfl | h
    · exact hf.1
    · exact ih _ hf.2.2 h
/-- A list of digits that stands in a text is gone over. -/
theorem dg_list (s : ByteArray) : ∀ (l : List UInt8) (i u : Nat), (∀ j c, l[j]? = some c → bt s (i + j) = c.toNat) → Fresh u l → dg s i u = dg s (i + l.length) (adb u l)
  | [], i, u, _, _ => rfl
  | c :: l, i, u, hm, hf => by
    have h0 : bt s i = c.toNat := hm 0 c rfl
    have h1 : isD (bt s i) = true := by rw [h0]; exact hf.1
    have h2 : u.testBit (bt s i - 48) = false := by rw [h0]; exact hf.2.1
    rw [dg_go h1 h2, h0]
    have := dg_list s l (i + 1) (u ||| 2 ^ (c.toNat - 48)) (fun j d hd => by
      have := hm (j + 1) d (by simpa using hd)
      rw [← this]; congr 1; omega) hf.2.2
    rw [this]
    show dg s (i + 1 + l.length) _ = dg s (i + (l.length + 1)) _
    rw [show i + 1 + l.length = i + (l.length + 1) by omega]
    rfl
theorem bt_mk (l : List UInt8) (i : Nat) (c : UInt8) (h : l[i]? = some c) : bt ⟨l.toArray⟩ i = c.toNat := bt_list (s := ⟨l.toArray⟩) (by simpa using h)
theorem bt_mk_end (l : List UInt8) (i : Nat) (h : l.length ≤ i) : bt ⟨l.toArray⟩ i = 0 := bt_off (by show ¬ i < l.toArray.size; simp; omega)
/-- What stands at a text's end. -/
def Tail (h : Nat) (L : List UInt8) : Prop := (h = 1 ∧ L = []) ∨ (h = 2 ∧ ∃ x : UInt8, L = [x] ∧ tk x.toNat 86 = true) ∨ (h = 3 ∧ ∃ x : UInt8, L = [x] ∧ tk x.toNat 72 = true)
theorem tk_or {c b : Nat} (hb : 65 ≤ b) (hb2 : b ≤ 90) (h : tk c b = true) : c = b ∨ c = b + 32 := by
  unfold tk at h
  simp at h
  omega
def txt (b c : UInt8) (D1 D2 L : List UInt8) : List UInt8 := b :: (D1 ++ (47 :: c :: (D2 ++ L)))
theorem read_list (b c : UInt8) (D1 D2 L : List UInt8) (h : Nat) (hb : tk b.toNat 66 = true) (hc : tk c.toNat 83 = true) (hL : Tail h L) (f1 : Fresh 0 D1) (f2 : Fresh 0 D2) :
    readR ⟨(txt b c D1 D2 L).toArray⟩ = ⟨h, adb 0 D1, adb 0 D2, (txt b c D1 D2 L).length, 0⟩ := by
  have e0 : bt ⟨(txt b c D1 D2 L).toArray⟩ 0 = b.toNat := bt_mk _ _ _ rfl
  have m1 : ∀ j x, D1[j]? = some x → bt ⟨(txt b c D1 D2 L).toArray⟩ (1 + j) = x.toNat := fun j x hx => by
    apply bt_mk
    unfold txt
    rw [Nat.add_comm, List.getElem?_cons_succ, List.getElem?_append_left (List.getElem?_eq_some_iff.1 hx).1]
    exact hx
  have e1 : bt ⟨(txt b c D1 D2 L).toArray⟩ (1 + D1.length) = 47 := by
    apply bt_mk (c := 47)
    unfold txt
    rw [Nat.add_comm, List.getElem?_cons_succ, List.getElem?_append_right (Nat.le_refl _), Nat.sub_self]
    rfl
  have e2 : bt ⟨(txt b c D1 D2 L).toArray⟩ (1 + D1.length + 1) = c.toNat := by
    apply bt_mk
    unfold txt
    rw [show 1 + D1.length + 1 = (D1.length + 1) + 1 by omega, List.getElem?_cons_succ, List.getElem?_append_right (by omega), show D1.length + 1 - D1.length = 1 by omega]
    rfl
  have m2 : ∀ j x, D2[j]? = some x → bt ⟨(txt b c D1 D2 L).toArray⟩ (1 + D1.length + 2 + j) = x.toNat := fun j x hx => by
    apply bt_mk
    unfold txt
    rw [show 1 + D1.length + 2 + j = (D1.length + 2 + j) + 1 by omega, List.getElem?_cons_succ, List.getElem?_append_right (by omega), show D1.length + 2 + j - D1.length = j + 1 + 1 by omega, List.getElem?_cons_succ, List.getElem?_cons_succ, List.getElem?_append_left (List.getElem?_eq_some_iff.1 hx).1]
    exact hx
  have e3 : ∀ j x, L[j]? = some x → bt ⟨(txt b c D1 D2 L).toArray⟩ (1 + D1.length + 2 + D2.length + j) = x.toNat := fun j x hx => by
    apply bt_mk
    unfold txt
    rw [show 1 + D1.length + 2 + D2.length + j = (D1.length + 2 + D2.length + j) + 1 by omega, List.getElem?_cons_succ, List.getElem?_append_right (by omega), show D1.length + 2 + D2.length + j - D1.length = (D2.length + j) + 1 + 1 by omega, List.getElem?_cons_succ, List.getElem?_cons_succ, List.getElem?_append_right (by omega), show D2.length + j - D2.length = j by omega]
    exact hx
  have len : (txt b c D1 D2 L).length = 1 + D1.length + 2 + D2.length + L.length := by
    unfold txt
    simp only [List.length_cons, List.length_append]
    omega
  have sz : (⟨(txt b c D1 D2 L).toArray⟩ : ByteArray).size = 1 + D1.length + 2 + D2.length + L.length := by
    show (txt b c D1 D2 L).toArray.size = _
    rw [List.size_toArray, len]
  have e4 : L = [] → bt ⟨(txt b c D1 D2 L).toArray⟩ (1 + D1.length + 2 + D2.length) = 0 := fun hl => by
    apply bt_mk_end
    rw [len, hl]
    exact Nat.le_refl _
  rw [len]
  generalize (⟨(txt b c D1 D2 L).toArray⟩ : ByteArray) = s at *
  have t1 := dg_list s D1 1 0 m1 f1
  have t2 := dg_list s D2 (1 + D1.length + 2) 0 m2 f2
  have n1 : isD (bt s (1 + D1.length)) = false := by rw [e1]; rfl
  have n2 : isD (bt s (1 + D1.length + 2 + D2.length)) = false := by
    rcases hL with ⟨_, hl⟩ | ⟨_, x, hl, hx⟩ | ⟨_, x, hl, hx⟩
    · rw [e4 hl]; rfl
    · rw [show 1 + D1.length + 2 + D2.length = 1 + D1.length + 2 + D2.length + 0 from rfl, e3 0 x (by rw [hl]; rfl)]
      rcases tk_or (by decide) (by decide) hx with e | e <;> rw [e] <;> rfl
    · rw [show 1 + D1.length + 2 + D2.length = 1 + D1.length + 2 + D2.length + 0 from rfl, e3 0 x (by rw [hl]; rfl)]
      rcases tk_or (by decide) (by decide) hx with e | e <;> rw [e] <;> rfl
  unfold readR
  rw [e0, hb, if_pos rfl, t1, dg_no n1]
  unfold read1
  simp only [Bool.false_eq_true, if_false]
  rw [if_pos e1, e2, hc, if_pos rfl, t2, dg_no n2]
  unfold read2
  simp only [Bool.false_eq_true, if_false]
  have hE : hoodEnd s (1 + D1.length + 2 + D2.length) = s.size ∧ hoodAt s (1 + D1.length + 2 + D2.length) = h := by
    rw [sz]
    unfold hoodEnd hoodAt
    rcases hL with ⟨rfl, hl⟩ | ⟨rfl, x, hl, hx⟩ | ⟨rfl, x, hl, hx⟩
    · rw [e4 hl, hl]
      exact ⟨rfl, rfl⟩
    · have e := e3 0 x (by rw [hl]; rfl)
      rw [Nat.add_zero] at e
      rw [e, hx, hl]
      exact ⟨rfl, rfl⟩
    · have e := e3 0 x (by rw [hl]; rfl)
      rw [Nat.add_zero] at e
      have hv : tk x.toNat 86 = false := by
        rcases tk_or (by decide) (by decide) hx with e | e <;> rw [e] <;> rfl
      rw [e, hx, hv, hl]
      exact ⟨rfl, rfl⟩
  rw [if_pos hE.1, hE.2, hE.1, sz]
theorem mem_txt {b c x : UInt8} {D1 D2 L : List UInt8} (h : x ∈ txt b c D1 D2 L) : x = b ∨ x ∈ D1 ∨ x = 47 ∨ x = c ∨ x ∈ D2 ∨ x ∈ L := by
  unfold txt at h
  simp only [List.mem_cons, List.mem_append] at h
  rcases h with h | h | h | h | h | h <;> simp [h]
theorem chars_d {h : Nat} (h1 : 1 ≤ h) (h3 : h ≤ 3) {x : UInt8} (hx : (chars h).contains x = true) : mo h + 48 < x.toNat ∧ x.toNat ≤ 57 := by
  obtain rfl | rfl | rfl : h = 1 ∨ h = 2 ∨ h = 3 := by omega
  all_goals
    simp [chars] at hx
    rcases hx with rfl | rfl | rfl | rfl | rfl <;> decide
theorem great_none (b c : UInt8) (D1 D2 L : List UInt8) (h : Nat) (hb : tk b.toNat 66 = true) (hc : tk c.toNat 83 = true) (hL : Tail h L) (f1 : Fresh 0 D1) (f2 : Fresh 0 D2) (v1 : adb 0 D1 < 2 ^ (mo h + 1)) (v2 : adb 0 D2 < 2 ^ (mo h + 1)) :
    great ⟨(txt b c D1 D2 L).toArray⟩ h = -1 := by
  have h13 : 1 ≤ h ∧ h ≤ 3 := by rcases hL with ⟨rfl, _⟩ | ⟨rfl, _⟩ | ⟨rfl, _⟩ <;> decide
  have hd : ∀ (D : List UInt8), Fresh 0 D → adb 0 D < 2 ^ (mo h + 1) → ∀ x ∈ D, x.toNat ≤ mo h + 48 := fun D f v x hx => by
    have h1 := adb_mem 0 hx
    have h2 := fresh_isD 0 f hx
    unfold isD at h2
    simp at h2
    by_cases hle : x.toNat - 48 < mo h + 1
    · omega
    · have := Nat.testBit_lt_two_pow (Nat.lt_of_lt_of_le v (Nat.pow_le_pow_right (n := 2) (by decide) (Nat.le_of_not_lt hle)))
      rw [this] at h1; cases h1
  unfold great
  apply Lib.indexAny_none
  intro j x hj hx
  have hm : x ∈ txt b c D1 D2 L := by
    have : (txt b c D1 D2 L)[j]? = some x := by simpa using hx
    exact List.mem_of_getElem? this
  cases hcx : (chars h).contains x with
  | false => rfl
  | true =>
    exfalso
    have hr := chars_d h13.1 h13.2 hcx
    rcases mem_txt hm with rfl | hm | rfl | rfl | hm | hm
    · rcases tk_or (by decide) (by decide) hb with e | e <;> omega
    · have := hd D1 f1 v1 x hm; omega
    · have : (47 : UInt8).toNat = 47 := rfl
      omega
    · rcases tk_or (by decide) (by decide) hc with e | e <;> omega
    · have := hd D2 f2 v2 x hm; omega
    · rcases hL with ⟨_, rfl⟩ | ⟨_, y, rfl, hy⟩ | ⟨_, y, rfl, hy⟩
      · cases hm
      · obtain rfl : x = y := by simpa using hm
        rcases tk_or (by decide) (by decide) hy with e | e <;> omega
      · obtain rfl : x = y := by simpa using hm
        rcases tk_or (by decide) (by decide) hy with e | e <;> omega
/-- What such a text says. -/
theorem parse_list (b c : UInt8) (D1 D2 L : List UInt8) (h : Nat) (hb : tk b.toNat 66 = true) (hc : tk c.toNat 83 = true) (hL : Tail h L) (f1 : Fresh 0 D1) (f2 : Fresh 0 D2) (v1 : adb 0 D1 < 2 ^ (mo h + 1)) (v2 : adb 0 D2 < 2 ^ (mo h + 1)) (hs : (txt b c D1 D2 L).length ≤ 1048576) :
    parseR ⟨(txt b c D1 D2 L).toArray⟩ = ⟨h, adb 0 D1, adb 0 D2, 0, 0⟩ := by
  unfold parseR
  rw [if_neg (by show ¬ 1048576 < (txt b c D1 D2 L).toArray.size; rw [List.size_toArray]; omega), read_list b c D1 D2 L h hb hc hL f1 f2]
  unfold parse2
  simp only [if_true]
  rw [great_none b c D1 D2 L h hb hc hL f1 f2 v1 v2]
  rfl
/-- The digits that are written, rising. -/
theorem ofn (k : Nat) (h : k < 10) : (UInt8.ofNat (k + 48)).toNat = k + 48 := by
  match k, h with
  | 0, _ => rfl
  | 1, _ => rfl
  | 2, _ => rfl
  | 3, _ => rfl
  | 4, _ => rfl
  | 5, _ => rfl
  | 6, _ => rfl
  | 7, _ => rfl
  | 8, _ => rfl
  | 9, _ => rfl
theorem tdl_adb (v : Nat) : ∀ k, k ≤ 10 → Fresh 0 (tdl v k) ∧ adb 0 (tdl v k) = v % 2 ^ k
  | 0, _ => ⟨trivial, by simp [tdl, adb]; omega⟩
  | k + 1, hk => by
    have ⟨i1, i2⟩ := tdl_adb v k (by omega)
    unfold tdl
    have hn := ofn k (by omega)
    cases h : v.testBit k with
    | true =>
      simp only [if_true]
      rw [fresh_app, adb_app, i2]
      have hb : (v % 2 ^ k).testBit k = false := by rw [Nat.testBit_mod_two_pow]; simp
      refine ⟨⟨i1, ?_, ?_, trivial⟩, ?_⟩
      · rw [hn]; unfold isD; simp; omega
      · rw [hn, Nat.add_sub_cancel]; exact hb
      · show v % 2 ^ k ||| 2 ^ ((UInt8.ofNat (k + 48)).toNat - 48) = _
        rw [hn, Nat.add_sub_cancel]
        apply Nat.eq_of_testBit_eq
        intro j
        rw [Nat.testBit_or, Nat.testBit_mod_two_pow, Nat.testBit_mod_two_pow, one_bit]
        by_cases e : k = j
        · subst e; simp [h]
        · by_cases hj : j < k
          · have : j < k + 1 := by omega
            simp [e, hj, this]
          · have : ¬ j < k + 1 := by omega
            simp [e, hj, this]
    | false =>
      simp only [Bool.false_eq_true, if_false, List.append_nil]
      refine ⟨i1, ?_⟩
      rw [i2]
      apply Nat.eq_of_testBit_eq
      intro j
      rw [Nat.testBit_mod_two_pow, Nat.testBit_mod_two_pow]
      by_cases e : k = j
      · subst e; simp [h]
      · by_cases hj : j < k
        · have : j < k + 1 := by omega
          simp [hj, this]
        · have : ¬ j < k + 1 := by omega
          simp [hj, this]
theorem td_adb {v : Nat} (h : v < 1024) : adb 0 (tdl v 10) = v := by
  rw [(tdl_adb v 10 (Nat.le_refl _)).2]
  exact Nat.mod_eq_of_lt h
def ltl (h : Nat) : List UInt8 := if h = 2 then [86] else if h = 3 then [72] else []
theorem tail_ltl {h : Nat} (h1 : 1 ≤ h) (h3 : h ≤ 3) : Tail h (ltl h) := by
  obtain rfl | rfl | rfl : h = 1 ∨ h = 2 ∨ h = 3 := by omega
  · exact .inl ⟨rfl, rfl⟩
  · exact .inr (.inl ⟨rfl, 86, rfl, by decide⟩)
  · exact .inr (.inr ⟨rfl, 72, rfl, by decide⟩)
theorem lt_ltl (h : Nat) : lt h = ⟨(ltl h).toArray⟩ := by unfold lt ltl; split; rfl; split <;> rfl
theorem pr_txt {h bo st : Nat} (hc : ck h bo st = 0) : pr h bo st = ⟨(txt 66 83 (tdl bo 10) (tdl st 10) (ltl h)).toArray⟩ := by
  unfold pr
  rw [if_pos hc, lt_ltl]
  unfold td
  rw [show (⟨#[66]⟩ : ByteArray) = ⟨[66].toArray⟩ from rfl, show (⟨#[47, 83]⟩ : ByteArray) = ⟨[47, 83].toArray⟩ from rfl, ByteArray.mk_append_mk, ByteArray.mk_append_mk, ByteArray.mk_append_mk, ByteArray.mk_append_mk]
  congr 2
  unfold txt
  simp
theorem p1024 (h : Nat) : 2 ^ (mo h + 1) ≤ 1024 := by
  have := mo_le h
  exact (show 2 ^ (mo h + 1) ≤ 2 ^ 10 from Nat.pow_le_pow_right (by decide) (by omega))
theorem ltl_len (h : Nat) : (ltl h).length ≤ 1 := by unfold ltl; split; exact Nat.le_refl _; split; exact Nat.le_refl _; exact Nat.zero_le _
theorem txt_len (b c : UInt8) (D1 D2 L : List UInt8) : (txt b c D1 D2 L).length = 3 + D1.length + D2.length + L.length := by
  unfold txt
  simp only [List.length_cons, List.length_append]
  omega
/-- What is written is read. -/
theorem back {h bo st : Nat} (hc : ck h bo st = 0) : parseR (pr h bo st) = ⟨h, bo, st, 0, 0⟩ := by
  have hi := ck_in hc
  have hp := p1024 h
  have f1 := (tdl_adb bo 10 (Nat.le_refl _)).1
  have f2 := (tdl_adb st 10 (Nat.le_refl _)).1
  have e1 := td_adb (v := bo) (by omega)
  have e2 := td_adb (v := st) (by omega)
  rw [pr_txt hc, parse_list 66 83 _ _ _ h (by decide) (by decide) (tail_ltl hi.1 hi.2.1) f1 f2 (by rw [e1]; exact hi.2.2.1) (by rw [e2]; exact hi.2.2.2) ?_, e1, e2]
  have := tdl_len bo 10
  have := tdl_len st 10
  have := ltl_len h
  rw [txt_len]
  omega
theorem pr_inj {h bo st h' bo' st' : Nat} (hc : ck h bo st = 0) (hc' : ck h' bo' st' = 0) (e : pr h bo st = pr h' bo' st') : h = h' ∧ bo = bo' ∧ st = st' := by
  have := back hc
  rw [e, back hc'] at this
  injection this with a b c
  exact ⟨a.symm, b.symm, c.symm⟩
theorem ck_of {h bo st : Nat} (h1 : 1 ≤ h) (h3 : h ≤ 3) (b : bo < 2 ^ (mo h + 1)) (s : st < 2 ^ (mo h + 1)) : ck h bo st = 0 := by unfold ck; rw [if_pos ⟨h1, h3⟩, if_pos ⟨b, s⟩]
end Go.Proofs.YtlkdenanbofliaaGreatDoor.Lf
