/- Rules whose dead fade: what is read may be, and a fault lies within the text; what is written is read, with any letter ahead of the number and without one. -/
import Derived.Test.YtlkdenanbofliaaGreatDoorLq
import Derived.Test.YtlkdenanbofliaaGreatDoorGp
import Derived.Test.YtlkdenanbofliaaGreatDoorG8
set_option linter.unusedSimpArgs false
set_option linter.unusedVariables false
namespace Go.Proofs.YtlkdenanbofliaaGreatDoor.Gn
open Sc

theorem stR_is {s : ByteArray} {p : Nat} (hp : p ≤ s.size) : (stR s p).a ≤ s.size ∧ ((stR s p).er = 0 → (stR s p).a = 0 ∧ 2 ≤ (stR s p).n ∧ (stR s p).n ≤ 256) ∧ ((stR s p).er ≠ 0 → (stR s p).n = 0) := by
  have h1 := fs_le hp
  have h2 := ov_le digitB h1.2
  unfold stR st1
  split
  · exact ⟨h2, (nofun), fun _ => rfl⟩
  · split
    · rename_i h
      exact ⟨Nat.zero_le _, fun _ => ⟨rfl, h.1, h.2⟩, fun h => absurd rfl h⟩
    · exact ⟨h1.2, (nofun), fun _ => rfl⟩
theorem bad_zero (a er : Nat) : (Lf.bad a er).ho = 0 ∧ (Lf.bad a er).bo = 0 ∧ (Lf.bad a er).st = 0 := ⟨rfl, rfl, rfl⟩
theorem readR_le (s : ByteArray) : (readR s).a ≤ s.size := by
  unfold readR
  split
  · unfold lettR
    have h := (Lf.parse_le (s.extract 0 (ss s))).1
    have hs := ss_le s
    rw [size_ext s hs] at h
    revert h
    generalize Lf.parseR (s.extract 0 (ss s)) = r
    intro h
    unfold lett1
    split
    · exact hs
    · show r.a ≤ s.size; omega
  · exact (lists_is s).le
/-- A fault lies within the text; with a fault there is no rule. -/
theorem parse_le (s : ByteArray) : (parseR s).a ≤ s.size ∧ ((parseR s).er ≠ 0 → (parseR s).ho = 0 ∧ (parseR s).bo = 0 ∧ (parseR s).st = 0 ∧ (parseR s).n = 0) := by
  unfold parseR
  split
  · exact ⟨Nat.zero_le _, fun _ => ⟨rfl, rfl, rfl, rfl⟩⟩
  · have h := readR_le s
    revert h
    generalize readR s = r
    intro h
    unfold parse1
    split
    · have k := stR_is h
      revert k
      generalize stR s r.a = t
      intro k
      unfold parse2
      split
      · exact ⟨Nat.zero_le _, fun h => absurd rfl h⟩
      · exact ⟨k.1, fun _ => ⟨rfl, rfl, rfl, rfl⟩⟩
    · exact ⟨h, fun _ => ⟨rfl, rfl, rfl, rfl⟩⟩
theorem dgf_ge (s : ByteArray) : ∀ (f i v : Nat), i ≤ (Lf.dgf f s i v).a
  | 0, i, v => Nat.le_refl _
  | f + 1, i, v => by
    unfold Lf.dgf
    split
    · split
      · exact Nat.le_refl _
      · have := dgf_ge s f (i + 1) (v ||| 2 ^ (bt s i - 48)); omega
    · exact Nat.le_refl _
/-- A bit of a list is a digit's that stands in it. -/
theorem dgf_in (s : ByteArray) : ∀ (f i v j : Nat), (Lf.dgf f s i v).v.testBit j = true → v.testBit j = true ∨ ∃ p, p < (Lf.dgf f s i v).a ∧ bt s p = j + 48
  | 0, i, v, j, h => Or.inl h
  | f + 1, i, v, j, h => by
    unfold Lf.dgf at h ⊢
    by_cases hd : Lf.isD (bt s i) = true
    · rw [if_pos hd] at h ⊢
      by_cases ht : v.testBit (bt s i - 48) = true
      · rw [if_pos ht] at h
        exact Or.inl h
      · rw [if_neg ht] at h ⊢
        have hge := dgf_ge s f (i + 1) (v ||| 2 ^ (bt s i - 48))
        have hdd : 48 ≤ bt s i := by unfold Lf.isD at hd; simp at hd; omega
        rcases dgf_in s f (i + 1) (v ||| 2 ^ (bt s i - 48)) j h with h1 | ⟨p, h2, h3⟩
        · rw [Nat.testBit_or] at h1
          by_cases hv : v.testBit j = true
          · exact Or.inl hv
          · have h4 : (2 ^ (bt s i - 48)).testBit j = true := by simpa [hv] using h1
            rw [Nat.testBit_two_pow] at h4
            have h5 : bt s i - 48 = j := by simpa using h4
            exact Or.inr ⟨i, by omega, by omega⟩
        · exact Or.inr ⟨p, h2, h3⟩
    · rw [if_neg hd] at h
      exact Or.inl h
theorem tl_in {s : ByteArray} {i j : Nat} (h : (tl s i).v.testBit j = true) : ∃ p, p < (tl s i).a - 1 ∧ bt s p = j + 48 := by
  unfold tl tl1 at h ⊢
  split at h
  · rw [Nat.zero_testBit] at h; cases h
  · rename_i h1
    split at h
    · rename_i h2
      rw [if_neg h1, if_pos h2]
      rcases dgf_in s _ i 0 j h with h3 | ⟨p, h3, h4⟩
      · rw [Nat.zero_testBit] at h3; cases h3
      · exact ⟨p, h3, h4⟩
    · rw [Nat.zero_testBit] at h; cases h
theorem no_nine {s : ByteArray} {e p : Nat} (he : e ≤ s.size) (h : ¬ nn s e < e) (hp : p < e) : bt s p ≠ 57 := by
  have k := ov_is no9 (s := s.extract 0 e) (i := 0) (Nat.zero_le _)
  have hz : (s.extract 0 e).size = e := by rw [size_ext s he]; omega
  have hn : ov no9 (s.extract 0 e) 0 = e := by
    have h1 := nn_le he
    have h2 : nn s e = e := by omega
    exact h2
  have := k.all p (Nat.zero_le _) (by rw [hn]; exact hp)
  rw [bt_ext s he (by omega), Nat.zero_add] at this
  unfold no9 at this
  simpa using this
theorem lt512 {v : Nat} (h : v < 1024) (h9 : v.testBit 9 = false) : v < 512 := by
  apply Nat.lt_pow_two_of_testBit (n := 9)
  intro j hj
  by_cases e : j = 9
  · rw [e]; exact h9
  · exact Nat.testBit_lt_two_pow (Nat.lt_of_lt_of_le h (show 1024 ≤ 2 ^ j from Nat.pow_le_pow_right (n := 2) (i := 10) (by decide) (by omega)))
/-- What is read may be. -/
theorem parse_may {s : ByteArray} (h : (parseR s).er = 0) : ck (parseR s).ho (parseR s).bo (parseR s).st (parseR s).n = 0 ∧ (parseR s).a = 0 ∧ (parseR s).ho < 256 ∧ (parseR s).bo < 65536 ∧ (parseR s).st < 65536 := by
  unfold parseR at h ⊢
  split at h
  · cases h
  · rename_i hs
    rw [if_neg hs]
    have hle := readR_le s
    have hck : (readR s).er = 0 → Lf.ck (readR s).ho (readR s).bo (readR s).st = 0 ∧ (readR s).ho < 256 ∧ (readR s).bo < 65536 ∧ (readR s).st < 65536 := by
      unfold readR
      split
      · unfold lettR
        have hf := @Lf.fits (s.extract 0 (ss s))
        revert hf
        generalize Lf.parseR (s.extract 0 (ss s)) = r
        intro hf
        unfold lett1
        split
        · rename_i h0
          intro _
          have hk := (hf h0).1.ck
          have hi := Lf.ck_in hk
          have hp := Lf.p1024 r.ho
          exact ⟨hk, by show r.ho < 256; omega, by show r.bo < 65536; omega, by show r.st < 65536; omega⟩
        · rename_i h0
          exact fun h => absurd h h0
      · intro h0
        unfold listsR lists1 at h0 ⊢
        split at h0
        · rename_i h1
          have d1 := tl_is (s := s) (i := 0) (Nat.zero_le _)
          rw [if_pos h1]
          unfold lists2 at h0 ⊢
          split at h0
          · rename_i h2
            have d2 := tl_is (s := s) (i := (tl s 0).a) d1.le
            rw [if_pos h2]
            split at h0
            · cases h0
            · rename_i h3
              rw [if_neg h3]
              have hg := d2.gt h2
              have hl2 := d2.le
              have e1 : (tl s 0).v < 512 := lt512 d1.v (by
                cases hb : (tl s 0).v.testBit 9 with
                | false => rfl
                | true =>
                  obtain ⟨p, h4, h5⟩ := tl_in hb
                  exact absurd h5 (no_nine (by omega) h3 (by omega)))
              have e2 : (tl s (tl s 0).a).v < 512 := lt512 d2.v (by
                cases hb : (tl s (tl s 0).a).v.testBit 9 with
                | false => rfl
                | true =>
                  obtain ⟨p, h4, h5⟩ := tl_in hb
                  exact absurd h5 (no_nine (by omega) h3 (by omega)))
              refine ⟨Lf.ck_of (by show 1 ≤ 1; decide) (by show 1 ≤ 3; decide) (by show (tl s (tl s 0).a).v < 2 ^ 9; omega) (by show (tl s 0).v < 2 ^ 9; omega), by show 1 < 256; decide, by show (tl s (tl s 0).a).v < 65536; omega, by show (tl s 0).v < 65536; omega⟩
          · rename_i h2
            exact absurd h0 h2
        · rename_i h1
          exact absurd h0 h1
    revert h hle hck
    generalize readR s = r
    intro h hle hck
    unfold parse1 at h ⊢
    split at h
    · rename_i h1
      have k := stR_is hle
      rw [if_pos h1]
      unfold parse2 at h ⊢
      split at h
      · rename_i h2
        rw [if_pos h2]
        have hc := hck h1
        have hn := k.2.1 h2
        refine ⟨?_, rfl, hc.2.1, hc.2.2.1, hc.2.2.2⟩
        show ck r.ho r.bo r.st ((stR s r.a).n : Nat) = 0
        unfold ck
        rw [if_pos hc.1, if_pos (by unfold may; simp; omega)]
      · rename_i h2
        exact absurd h h2
    · rename_i h1
      exact absurd h h1

theorem ov_mid (p : Nat → Bool) (A B C : List UInt8) (hB : ∀ c ∈ B, p c.toNat = true) (hC : ∀ c r, C = c :: r → p c.toNat = false) : ov p ⟨(A ++ (B ++ C)).toArray⟩ A.length = A.length + B.length := by
  have hz : (ByteArray.mk (A ++ (B ++ C)).toArray).size = A.length + (B.length + C.length) := by simp [ByteArray.size]
  refine ov_of ⟨by omega, by omega, fun j h1 h2 => ?_, fun h => ?_⟩
  · obtain ⟨k, rfl⟩ : ∃ k, j = A.length + k := ⟨j - A.length, by omega⟩
    have hk : k < B.length := by omega
    have e : (A ++ (B ++ C))[A.length + k]? = some B[k] := by
      rw [List.getElem?_append_right (by omega), Nat.add_sub_cancel_left, List.getElem?_append_left hk, List.getElem?_eq_getElem hk]
    rw [Lf.bt_mk _ _ _ e]
    exact hB _ (List.getElem_mem hk)
  · cases hc : C with
    | nil =>
      rw [hc, List.length_nil] at hz
      rw [hc] at h
      have h9 := h
      omega
    | cons c r =>
      have e : (A ++ (B ++ C))[A.length + B.length]? = some c := by
        rw [List.getElem?_append_right (by omega), Nat.add_sub_cancel_left, List.getElem?_append_right (by omega), Nat.sub_self, hc]; rfl
      rw [← hc, Lf.bt_mk _ _ _ e]
      exact hC c r hc
theorem bt_mid (A B : List UInt8) (c : UInt8) : bt ⟨(A ++ (c :: B)).toArray⟩ A.length = c.toNat := by
  refine Lf.bt_mk _ _ _ ?_
  rw [List.getElem?_append_right (by omega), Nat.sub_self]; rfl
theorem ext_left (A B : List UInt8) : (ByteArray.mk (A ++ B).toArray).extract 0 A.length = ⟨A.toArray⟩ := by
  apply ByteArray.ext
  rw [ByteArray.data_extract]
  apply Array.ext'
  simp
theorem ext_right (A B : List UInt8) : (ByteArray.mk (A ++ B).toArray).extract A.length (A ++ B).length = ⟨B.toArray⟩ := by
  apply ByteArray.ext
  rw [ByteArray.data_extract]
  apply Array.ext'
  simp
theorem dec_isD (n : Nat) : ∀ c ∈ Lib.decDigits n, 48 ≤ c.toNat ∧ c.toNat ≤ 57 := by
  have h := (Tx.dec_vl n).1
  unfold Tx.allD at h
  rw [List.all_eq_true] at h
  intro c hc
  have := h c hc
  unfold Tx.isD at this
  simpa using this
theorem vl_dec (n : Nat) : Tx.vl 0 (Lib.decDigits n) = n := (Tx.dec_vl n).2
/-- A rule's text with what may stand ahead of the number. -/
def wr (P L : List UInt8) (n : Nat) : List UInt8 := P ++ (47 :: (L ++ Lib.decDigits n))
def Lead (L : List UInt8) : Prop := L = [] ∨ ∃ c : UInt8, L = [c] ∧ isG c.toNat = true
theorem nosl_D {c : UInt8} (h : Lf.isD c.toNat = true) : noSl c.toNat = true := by
  unfold Lf.isD at h
  unfold noSl
  simp at h ⊢
  omega
theorem ltl_nosl (h : Nat) : ∀ c ∈ Lf.ltl h, noSl c.toNat = true := by
  unfold Lf.ltl
  split
  · intro c hc; simp at hc; rw [hc]; rfl
  · split
    · intro c hc; simp at hc; rw [hc]; rfl
    · intro c hc; cases hc
theorem ss_wr {ho bo st n : Nat} (L : List UInt8) : ss ⟨(wr (Lf.txt 66 83 (Lf.tdl bo 10) (Lf.tdl st 10) (Lf.ltl ho)) L n).toArray⟩ = (Lf.txt 66 83 (Lf.tdl bo 10) (Lf.tdl st 10) (Lf.ltl ho)).length := by
  have f1 := (Lf.tdl_adb bo 10 (Nat.le_refl _)).1
  have f2 := (Lf.tdl_adb st 10 (Nat.le_refl _)).1
  have d1 : ∀ c ∈ Lf.tdl bo 10, noSl c.toNat = true := fun c hc => nosl_D (Lf.fresh_isD 0 f1 hc)
  have d2 : ∀ c ∈ Lf.tdl st 10, noSl c.toNat = true := fun c hc => nosl_D (Lf.fresh_isD 0 f2 hc)
  have d3 := ltl_nosl ho
  generalize Lf.tdl bo 10 = D1 at d1 ⊢
  generalize Lf.tdl st 10 = D2 at d2 ⊢
  generalize Lf.ltl ho = T at d3 ⊢
  have o1 := ov_mid noSl [] (66 :: D1) (47 :: 83 :: (D2 ++ T) ++ (47 :: (L ++ Lib.decDigits n))) (by
    intro c hc
    rcases List.mem_cons.1 hc with rfl | hc
    · rfl
    · exact d1 c hc) (by intro c r h; cases h; rfl)
  have o2 := ov_mid noSl (66 :: D1 ++ [47]) (83 :: (D2 ++ T)) (47 :: (L ++ Lib.decDigits n)) (by
    intro c hc
    rcases List.mem_cons.1 hc with rfl | hc
    · rfl
    · rcases List.mem_append.1 hc with hc | hc
      · exact d2 c hc
      · exact d3 c hc) (by intro c r h; cases h; rfl)
  have e1 : wr (Lf.txt 66 83 D1 D2 T) L n = [] ++ ((66 :: D1) ++ (47 :: 83 :: (D2 ++ T) ++ (47 :: (L ++ Lib.decDigits n)))) := by unfold wr Lf.txt; simp
  have e2 : wr (Lf.txt 66 83 D1 D2 T) L n = (66 :: D1 ++ [47]) ++ ((83 :: (D2 ++ T)) ++ (47 :: (L ++ Lib.decDigits n))) := by unfold wr Lf.txt; simp
  rw [← e1] at o1
  rw [← e2] at o2
  have hz : (ByteArray.mk (wr (Lf.txt 66 83 D1 D2 T) L n).toArray).size = (wr (Lf.txt 66 83 D1 D2 T) L n).length := by simp [ByteArray.size]
  have hl : (wr (Lf.txt 66 83 D1 D2 T) L n).length = (66 :: D1).length + (2 + (D2 ++ T).length + (1 + (L ++ Lib.decDigits n).length)) := by
    rw [e1]; simp; omega
  have h0 : ([] : List UInt8).length = 0 := rfl
  have h1 : (66 :: D1 ++ [47] : List UInt8).length = (66 :: D1).length + 1 := by simp
  have h2 : (83 :: (D2 ++ T)).length = (D2 ++ T).length + 1 := by simp
  rw [h0, Nat.zero_add] at o1
  rw [h1] at o2
  unfold ss
  rw [o1, if_pos (by omega), o2, Lf.txt_len, h2]
  simp
  omega
/-- What is written is read, whatever letter stands ahead of the number. -/
theorem back_any {ho bo st n : Nat} (hc : ck ho bo st n = 0) (L : List UInt8) (hL : Lead L) : parseR ⟨(wr (Lf.txt 66 83 (Lf.tdl bo 10) (Lf.tdl st 10) (Lf.ltl ho)) L n).toArray⟩ = ⟨ho, bo, st, n, 0, 0⟩ := by
  have hi := ck_in hc
  have hs := ss_wr (ho := ho) (bo := bo) (st := st) (n := n) L
  have hpt := Lf.pr_txt hi.1
  have hb := Lf.back hi.1
  rw [hpt] at hb
  have hlt : (Lf.txt 66 83 (Lf.tdl bo 10) (Lf.tdl st 10) (Lf.ltl ho)).length ≤ 24 := by
    have h1 := Lf.pr_le ho bo st
    rw [hpt] at h1
    simpa [ByteArray.size] using h1
  have h66 : ∃ r, Lf.txt 66 83 (Lf.tdl bo 10) (Lf.tdl st 10) (Lf.ltl ho) = 66 :: r := ⟨_, rfl⟩
  generalize Lf.txt 66 83 (Lf.tdl bo 10) (Lf.tdl st 10) (Lf.ltl ho) = P at hs hb hlt h66 ⊢
  have hdl : (Lib.decDigits n).length ≤ 21 := by
    have := Lib.itoa_length_le (n : Int) (by omega) (by omega)
    unfold Lib.itoa at this
    rw [if_neg (by omega), Int.toNat_natCast] at this
    exact this
  have hLl : L.length ≤ 1 := by rcases hL with rfl | ⟨c, rfl, _⟩ <;> simp
  have hz : (ByteArray.mk (wr P L n).toArray).size = (wr P L n).length := by simp [ByteArray.size]
  have hzl : (wr P L n).length = P.length + (1 + (L.length + (Lib.decDigits n).length)) := by unfold wr; simp; omega
  have hne : 1 ≤ (Lib.decDigits n).length := by
    have := Tx.dec_ne n
    cases hd : Lib.decDigits n with
    | nil => exact absurd hd this
    | cons a b => simp
  have b0 : bt ⟨(wr P L n).toArray⟩ 0 = 66 := by
    obtain ⟨r, rfl⟩ := h66
    exact Lf.bt_mk _ _ 66 rfl
  have bP : bt ⟨(wr P L n).toArray⟩ P.length = 47 := bt_mid P _ 47
  have hex : (ByteArray.mk (wr P L n).toArray).extract 0 P.length = ⟨P.toArray⟩ := ext_left P _
  have hfs : fs ⟨(wr P L n).toArray⟩ P.length = P.length + 1 + L.length := by
    unfold fs sl1
    rw [if_pos bP]
    unfold le1
    rcases hL with rfl | ⟨c, rfl, hg⟩
    · cases hd : Lib.decDigits n with
      | nil => rw [hd] at hne; simp at hne
      | cons a b =>
        have ha := dec_isD n a (by rw [hd]; simp)
        have e : bt ⟨(wr P [] n).toArray⟩ (P.length + 1) = a.toNat := by
          have := bt_mid (P ++ [47]) b a
          rw [List.length_append] at this
          rw [← this]
          unfold wr
          rw [hd]; simp
        rw [e, if_neg (by unfold isG; simp; omega)]; rfl
    · have e : bt ⟨(wr P [c] n).toArray⟩ (P.length + 1) = c.toNat := by
        have := bt_mid (P ++ [47]) (Lib.decDigits n) c
        rw [List.length_append] at this
        rw [← this]
        unfold wr
        simp
      rw [e, if_pos hg]; rfl
  have hw : wr P L n = (P ++ 47 :: L) ++ (Lib.decDigits n ++ []) := by unfold wr; simp
  have hov : ov digitB ⟨(wr P L n).toArray⟩ (P.length + 1 + L.length) = (wr P L n).length := by
    have := ov_mid digitB (P ++ 47 :: L) (Lib.decDigits n) [] (fun c hc => by
      have := dec_isD n c hc
      unfold digitB
      rw [wi_iff]; omega) (by intro c r h; cases h)
    rw [← hw] at this
    have h1 : (P ++ 47 :: L).length = P.length + 1 + L.length := by simp; omega
    rw [h1] at this
    rw [this, hzl]; omega
  have hnum : num ⟨(wr P L n).toArray⟩ (P.length + 1 + L.length) = n := by
    unfold num
    rw [hov]
    have h1 : (P ++ 47 :: L).length = P.length + 1 + L.length := by simp; omega
    have := ext_right (P ++ 47 :: L) (Lib.decDigits n ++ [])
    rw [← hw, h1] at this
    rw [this]
    show Tx.vl 0 (Lib.decDigits n ++ []).toArray.toList = n
    rw [List.append_nil]
    simp [vl_dec]
  have hst : stR ⟨(wr P L n).toArray⟩ P.length = ⟨n, 0, 0⟩ := by
    unfold stR st1
    rw [hfs, hov, if_neg (by omega), hnum, if_pos (by omega)]
  unfold parseR
  rw [if_neg (by omega)]
  unfold readR
  rw [b0, if_pos (show isB 66 = true from rfl)]
  unfold lettR
  rw [hs, hex, hb]
  unfold lett1
  simp only [if_true]
  unfold parse1
  simp only [if_true]
  rw [hst]
  unfold parse2
  simp
/-- The text of a rule's births and stays. -/
def tx (ho bo st : Nat) : List UInt8 := Lf.txt 66 83 (Lf.tdl bo 10) (Lf.tdl st 10) (Lf.ltl ho)
theorem pr_wr {ho bo st n : Nat} (hc : ck ho bo st n = 0) : pr ho bo st n = ⟨(wr (tx ho bo st) [67] n).toArray⟩ := by
  have hi := ck_in hc
  unfold pr
  rw [if_pos hc, Lf.pr_txt hi.1]
  unfold tn wr tx Lib.itoa
  rw [if_neg (by omega), Int.toNat_natCast]
  apply ByteArray.ext
  simp
theorem tx_len {ho bo st n : Nat} (hc : ck ho bo st n = 0) : 1 ≤ (tx ho bo st).length ∧ (tx ho bo st).length ≤ 24 := by
  have hi := ck_in hc
  have h1 := Lf.pr_le ho bo st
  rw [Lf.pr_txt hi.1] at h1
  refine ⟨?_, by simpa [ByteArray.size, tx] using h1⟩
  unfold tx
  rw [Lf.txt_len]; omega
theorem dec_len (n : Nat) (hn : n ≤ 256) : 1 ≤ (Lib.decDigits n).length ∧ (Lib.decDigits n).length ≤ 21 := by
  have := Lib.itoa_length_le (n : Int) (by omega) (by omega)
  unfold Lib.itoa at this
  rw [if_neg (by omega), Int.toNat_natCast] at this
  refine ⟨?_, this⟩
  have h2 := Tx.dec_ne n
  cases hd : Lib.decDigits n with
  | nil => exact absurd hd h2
  | cons a b => simp
end Go.Proofs.YtlkdenanbofliaaGreatDoor.Gn
