/- A text with its letters small says the same; a rule that is read may be, and is written no longer than the text. Plain. -/
import Derived.Test.YtlkdenanbofliaaGreatDoorLp
set_option linter.unusedSimpArgs false
set_option linter.unusedVariables false
set_option maxRecDepth 100000
namespace Go.Proofs.YtlkdenanbofliaaGreatDoor.Lf
open Sc

/-- A great letter made small. -/
def low (c : Nat) : Nat := if 65 ≤ c ∧ c ≤ 90 then c + 32 else c
theorem low_tk (c b : Nat) (hb : 65 ≤ b) (hb2 : b ≤ 90) : tk (low c) b = tk c b := by
  unfold low tk
  split <;> first | rfl | (rw [Bool.eq_iff_iff]; simp; omega)
theorem low_isD (c : Nat) : isD (low c) = isD c := by
  unfold low isD
  split <;> first | rfl | (rw [Bool.eq_iff_iff]; simp; omega)
theorem low_D {c : Nat} (h : isD c = true) : low c = c := by
  unfold isD at h; simp at h
  unfold low
  rw [if_neg (by omega)]
theorem low_47 (c : Nat) : (low c = 47) ↔ (c = 47) := by unfold low; split <;> omega
theorem low_gq (h c : Nat) : (decide (mo h + 48 < low c) && decide (low c ≤ 57)) = (decide (mo h + 48 < c) && decide (c ≤ 57)) := by
  unfold low
  split <;> first | rfl | (rw [Bool.eq_iff_iff]; simp; omega)
/-- Two texts that differ but in their letters' size. -/
structure Al (s t : ByteArray) : Prop where
  sz : t.size = s.size
  bt : ∀ j, bt t j = low (bt s j)
theorem al_dgf {s t : ByteArray} (h : Al s t) : ∀ (f i v : Nat), dgf f t i v = dgf f s i v
  | 0, _, _ => rfl
  | f + 1, i, v => by
    unfold dgf
    rw [h.bt i, low_isD]
    by_cases hd : isD (bt s i) = true
    · rw [if_pos hd, if_pos hd, low_D hd, al_dgf h f]
    · rw [if_neg hd, if_neg hd]
theorem al_dg {s t : ByteArray} (h : Al s t) (i v : Nat) : dg t i v = dg s i v := by unfold dg; rw [h.sz]; exact al_dgf h _ i v
theorem al_hoodAt {s t : ByteArray} (h : Al s t) (i : Nat) : hoodAt t i = hoodAt s i := by unfold hoodAt; rw [h.bt i, low_tk _ 86 (by decide) (by decide), low_tk _ 72 (by decide) (by decide)]
theorem al_hoodEnd {s t : ByteArray} (h : Al s t) (i : Nat) : hoodEnd t i = hoodEnd s i := by unfold hoodEnd; rw [h.bt i, low_tk _ 86 (by decide) (by decide), low_tk _ 72 (by decide) (by decide)]
theorem al_read2 {s t : ByteArray} (h : Al s t) (v : Nat) (r : DR) : read2 t v r = read2 s v r := by unfold read2; rw [al_hoodAt h, al_hoodEnd h, h.sz]
theorem al_read1 {s t : ByteArray} (h : Al s t) (r : DR) : read1 t r = read1 s r := by
  unfold read1
  rw [h.bt (r.a + 1), low_tk _ 83 (by decide) (by decide), al_dg h, al_read2 h, h.bt r.a]
  by_cases e : bt s r.a = 47
  · rw [if_pos ((low_47 _).2 e), if_pos e]
  · rw [if_neg (fun x => e ((low_47 _).1 x)), if_neg e]
theorem al_read {s t : ByteArray} (h : Al s t) : readR t = readR s := by unfold readR; rw [h.bt 0, low_tk _ 66 (by decide) (by decide), al_dg h, al_read1 h]
theorem chars_all' : ([1, 2, 3].all fun h => (List.range 256).all fun c => (chars h).contains (UInt8.ofNat c) == (decide (mo h + 48 < c) && decide (c ≤ 57))) = true := by decide +kernel
theorem chars_is' {h : Nat} (h1 : 1 ≤ h) (h3 : h ≤ 3) (x : UInt8) : (chars h).contains x = (decide (mo h + 48 < x.toNat) && decide (x.toNat ≤ 57)) := by
  have hm : h ∈ [1, 2, 3] := by obtain rfl | rfl | rfl : h = 1 ∨ h = 2 ∨ h = 3 := by omega
                                all_goals decide
  have := List.all_eq_true.1 (List.all_eq_true.1 chars_all' h hm) x.toNat (List.mem_range.2 (UInt8.toNat_lt x))
  rw [UInt8.ofNat_toNat] at this
  simpa using this
theorem al_any {h : Nat} (h1 : 1 ≤ h) (h3 : h ≤ 3) : ∀ (a b : List UInt8), a.length = b.length → (∀ (j : Nat) (x y : UInt8), a[j]? = some x → b[j]? = some y → y.toNat = low x.toNat) → Lib.indexAny b (chars h) = Lib.indexAny a (chars h)
  | [], [], _, _ => rfl
  | [], _ :: _, hl, _ => by cases hl
  | _ :: _, [], hl, _ => by cases hl
  | x :: a, y :: b, hl, hp => by
    have e := hp 0 x y rfl rfl
    have ih := al_any h1 h3 a b (by simpa using hl) (fun j u v hu hv => hp (j + 1) u v (by simpa using hu) (by simpa using hv))
    rw [Lib.indexAny, Lib.indexAny, chars_is' h1 h3, chars_is' h1 h3, e, low_gq, ih]
theorem al_great {s t : ByteArray} (h : Al s t) {n : Nat} (h1 : 1 ≤ n) (h3 : n ≤ 3) : great t n = great s n := by
  unfold great
  refine al_any h1 h3 _ _ ?_ (fun j x y hx hy => ?_)
  · have := h.sz
    simpa using this.symm
  · rw [← bt_list hx, ← bt_list hy]; exact h.bt j
/-- With its letters small it says the same. -/
theorem al_parse {s t : ByteArray} (h : Al s t) : parseR t = parseR s := by
  unfold parseR
  rw [h.sz, al_read h]
  unfold parse2
  by_cases he : (readR s).er = 0
  · have hh := (read_is s).ho he
    rw [al_great h hh.1 hh.2]
  · rw [if_neg he, if_neg he]

/-- How many digits a set has. -/
def cnt (v : Nat) : Nat := (tdl v 10).length
theorem tdl_or {v x : Nat} (hx : v.testBit x = false) : ∀ k, (tdl (v ||| 2 ^ x) k).length = (tdl v k).length + (if x < k then 1 else 0)
  | 0 => by simp [tdl]
  | k + 1 => by
    have ih := tdl_or hx k
    unfold tdl
    rw [List.length_append, List.length_append, ih, Nat.testBit_or, one_bit]
    by_cases e : x = k
    · subst e
      rw [hx]
      simp
    · by_cases h : x < k
      · have h2 : x < k + 1 := by omega
        simp [e, h, h2]; omega
      · have h2 : ¬ x < k + 1 := by omega
        simp [e, h, h2]
theorem dgf_cnt (s : ByteArray) : ∀ (f i v : Nat), cnt (dgf f s i v).v + i = cnt v + (dgf f s i v).a
  | 0, i, v => rfl
  | f + 1, i, v => by
    unfold dgf
    by_cases h : isD (bt s i) = true
    · rw [if_pos h]
      by_cases ht : v.testBit (bt s i - 48) = true
      · rw [if_pos ht]
      · rw [if_neg ht]
        have ih := dgf_cnt s f (i + 1) (v ||| 2 ^ (bt s i - 48))
        have hx := tdl_or (v := v) (x := bt s i - 48) (by simpa using ht) 10
        rw [if_pos (d_lt h)] at hx
        have : cnt (v ||| 2 ^ (bt s i - 48)) = cnt v + 1 := hx
        omega
    · rw [if_neg h]
theorem dg_cnt (s : ByteArray) (i : Nat) : cnt (dg s i 0).v + i = (dg s i 0).a := by
  have := dgf_cnt s (s.size - i) i 0
  have h0 : cnt 0 = 0 := by decide
  unfold dg
  omega
theorem dgf_from (s : ByteArray) : ∀ (f i v j : Nat), (dgf f s i v).v.testBit j = true → v.testBit j = true ∨ ∃ p, isD (bt s p) = true ∧ bt s p = j + 48
  | 0, i, v, j, h => .inl h
  | f + 1, i, v, j, h => by
    unfold dgf at h
    by_cases hd : isD (bt s i) = true
    · rw [if_pos hd] at h
      by_cases ht : v.testBit (bt s i - 48) = true
      · rw [if_pos ht] at h; exact .inl h
      · rw [if_neg ht] at h
        rcases dgf_from s f (i + 1) _ j h with h | h
        · rw [Nat.testBit_or, one_bit] at h
          by_cases e : bt s i - 48 = j
          · refine .inr ⟨i, hd, ?_⟩
            unfold isD at hd; simp at hd; omega
          · simp [e] at h; exact .inl h
        · exact .inr h
    · rw [if_neg hd] at h; exact .inl h
theorem dg_from {s : ByteArray} {i j : Nat} (h : (dg s i 0).v.testBit j = true) : ∃ p, isD (bt s p) = true ∧ bt s p = j + 48 := by
  rcases dgf_from s _ i 0 j h with h | h
  · rw [Nat.zero_testBit] at h; cases h
  · exact h
theorem no_great {s : ByteArray} {h p : Nat} (h1 : 1 ≤ h) (h3 : h ≤ 3) (hg : ¬ 0 ≤ great s h) (hd : isD (bt s p) = true) : bt s p ≤ mo h + 48 := by
  have hp := isD_lt hd
  obtain ⟨c, e1, e2⟩ := list_bt hp
  by_cases hle : bt s p ≤ mo h + 48
  · exact hle
  · exfalso
    have hc : (chars h).contains c = true := by
      rw [chars_is' h1 h3, e2]
      unfold isD at hd; simp at hd
      simp; omega
    apply hg
    have key : ∀ (l : List UInt8) (q : Nat), l[q]? = some c → 0 ≤ Lib.indexAny l (chars h) := by
      intro l
      induction l with
      | nil => intro q hq; simp at hq
      | cons x l ih =>
        intro q hq
        unfold Lib.indexAny
        split
        · exact Int.le_refl _
        · rename_i hx
          cases q with
          | zero => simp at hq; rw [hq] at hx; exact absurd hc hx
          | succ q =>
            have := ih q (by simpa using hq)
            split
            · rename_i h5
              have := beq_iff_eq.1 h5
              omega
            · omega
    exact key _ p e1
/-- A rule that is read may be, and is written no longer than the text. -/
structure Fit (s : ByteArray) (r : PR) : Prop where
  ck : ck r.ho r.bo r.st = 0
  sz : 3 + cnt r.bo + cnt r.st + (ltl r.ho).length ≤ s.size
theorem fits {s : ByteArray} (he : (parseR s).er = 0) : Fit s (parseR s) ∧ (parseR s).a = 0 := by
  unfold parseR at he ⊢
  by_cases hs : 1048576 < s.size
  · rw [if_pos hs] at he; cases he
  · rw [if_neg hs] at he ⊢
    unfold parse2 at he ⊢
    by_cases e0 : (readR s).er = 0
    · rw [if_pos e0] at he ⊢
      by_cases hg : 0 ≤ great s (readR s).ho
      · rw [if_pos hg] at he; cases he
      · rw [if_neg hg]
        refine ⟨?_, rfl⟩
        have hh := (read_is s).ho e0
        revert e0 hg hh
        unfold readR
        split
        · rename_i h66
          have d1 := dg_is (s := s) (i := 1) (v := 0) (tk_lt (by decide) h66) (by decide)
          have n1 := dg_cnt s 1
          have f1 := fun j => dg_from (s := s) (i := 1) (j := j)
          revert d1 n1 f1
          generalize dg s 1 0 = r
          intro d1 n1 f1
          unfold read1
          split
          · intro e0; cases e0
          · split
            · split
              · rename_i h83
                have l2 := tk_lt (by decide) h83
                have d2 := dg_is (s := s) (i := r.a + 2) (v := 0) l2 (by decide)
                have n2 := dg_cnt s (r.a + 2)
                have f2 := fun j => dg_from (s := s) (i := r.a + 2) (j := j)
                revert d2 n2 f2
                generalize dg s (r.a + 2) 0 = q
                intro d2 n2 f2
                unfold read2
                split
                · intro e0; cases e0
                · split
                  · rename_i hE
                    intro _ hg hh
                    simp only [] at hg hh ⊢
                    have up : ∀ v : Nat, (∀ j, v.testBit j = true → ∃ p, isD (bt s p) = true ∧ bt s p = j + 48) → v < 2 ^ (mo (hoodAt s q.a) + 1) := fun v hv => by
                      apply Nat.lt_pow_two_of_testBit
                      intro j hj
                      cases hb : v.testBit j with
                      | false => rfl
                      | true =>
                        obtain ⟨p, p1, p2⟩ := hv j hb
                        have := no_great hh.1 hh.2 hg p1
                        omega
                    refine ⟨ck_of hh.1 hh.2 (up _ f1) (up _ f2), ?_⟩
                    show 3 + cnt r.v + cnt q.v + (ltl (hoodAt s q.a)).length ≤ s.size
                    have hl : q.a + (ltl (hoodAt s q.a)).length = hoodEnd s q.a := by
                      unfold hoodAt hoodEnd
                      split
                      · rfl
                      · split <;> rfl
                    omega
                  · intro e0; cases e0
              · intro e0; cases e0
            · intro e0; cases e0
        · intro e0; cases e0
    · rw [if_neg e0] at he; exact absurd he e0
theorem pr_size {h bo st : Nat} (hc : ck h bo st = 0) : (pr h bo st).size = 3 + cnt bo + cnt st + (ltl h).length := by
  rw [pr_txt hc]
  show (txt 66 83 (tdl bo 10) (tdl st 10) (ltl h)).toArray.size = _
  rw [List.size_toArray, txt_len]
  rfl
theorem parse_le (s : ByteArray) : (parseR s).a ≤ s.size ∧ ((parseR s).er ≠ 0 → (parseR s).ho = 0 ∧ (parseR s).bo = 0 ∧ (parseR s).st = 0) := by
  unfold parseR
  split
  · exact ⟨Nat.zero_le _, fun _ => ⟨rfl, rfl, rfl⟩⟩
  · unfold parse2
    split
    · split
      · rename_i hg
        refine ⟨?_, fun _ => ⟨rfl, rfl, rfl⟩⟩
        show (great s (readR s).ho).toNat ≤ s.size
        have key : ∀ (l c : List UInt8), Lib.indexAny l c ≤ l.length := by
          intro l c
          induction l with
          | nil => simp [Lib.indexAny]
          | cons x l ih =>
            unfold Lib.indexAny
            split
            · simp; omega
            · split
              · simp; omega
              · simp only [List.length_cons]; push_cast; omega
        have := key s.data.toList (chars (readR s).ho)
        have e : s.data.toList.length = s.size := Array.length_toList
        unfold great
        omega
      · exact ⟨Nat.zero_le _, fun h => absurd rfl h⟩
    · rename_i he
      exact ⟨(read_is s).le, fun _ => (read_is s).zero he⟩
end Go.Proofs.YtlkdenanbofliaaGreatDoor.Lf
