/- fits of the document, Is of the program, of every four rows. -/
import Derived.Test.YtcdefpfnjjahgabW18
import Derived.Test.YtcdefpfnjjahgabW47
namespace Go.Proofs.Ytcdefpfnjjahgab
open Go.RowKit
set_option linter.unusedVariables false
set_option linter.unusedSimpArgs false

theorem refValidRD (r : RD) (w : World) (h : r.ok w) :
    Calls Try.prog 46 #[.agg #[.int .i64 r.N, .slice r.sp r.n r.cap]] w fun e w' => e = .returned (.bool r.valid) ∧ w.grownBy w' none := refValidC r.N r.n r.cap r.sp r.f h.2.1 h.2.2 w h.1
set_option maxRecDepth 100000 in
set_option maxHeartbeats 2000000 in
theorem fitsC (q k cap : Nat) (r : Nat → RD) (sp : Option Addr) (hsp : 0 < k → sp = some ⟨q, 0, none⟩) (hk : k ≤ 1000000) (w : World) (h : Rws w q k r) :
    Calls Try.prog 31 #[.slice sp k cap] w fun e w' => e = .returned (.int .i64 (alikeZ r k)) ∧ w.grownBy w' none := by
  go_enter Try.func31, Try.ntmps31
  go_wp2
  go_loopw [3] (fun i wr => ∃ j : Nat, j ≤ k ∧ i = .int .i64 j ∧ Hid (∀ t, t < j → (r t).valid = true) ∧ w.grownBy wr none) (fun i _ => k - (intOf i).toNat)
  case atStart => exact ⟨0, Nat.zero_le _, rfl, (fun t ht => absurd ht (Nat.not_lt_zero _)), World.grownBy.refl _ _⟩
  case round =>
    obtain ⟨j, hj, rfl, hv, hg⟩ := hrel
    by_cases hlt : j < k
    · obtain rfl := hsp (by omega)
      have hlt' : (j : Int) < (k : Int) := by omega
      obtain ⟨x0, x1, x2⟩ := (h.kept hg) j hlt
      have hrd := refValidRD (r j) wr x2
      cases hvj : (r j).valid with
      | true =>
        rw [hvj] at hrd
        go_wp2_with (first | (go_at_call 46; refine hrd.mono ?_; rintro e w2 ⟨rfl, g2⟩))
        first
          | (go_roundw; (case rel => exact ⟨j + 1, by omega, by go_num, (fun t ht => by
              by_cases e : t = j
              · subst e; exact hvj
              · exact hv.out t (by omega)), gb_trans hg g2⟩); (case measure => (simp [intOf]; omega)))
          | (refine ⟨⟨j + 1, by omega, by go_num, (fun t ht => by
              by_cases e : t = j
              · subst e; exact hvj
              · exact hv.out t (by omega)), gb_trans hg g2⟩, ?_⟩; simp [intOf]; omega)
      | false =>
        rw [hvj] at hrd
        have HZ : Hid (alikeZ r k = 20) := by unfold Hid alikeZ; rw [allV_no hvj hlt]; rfl
        go_wp2_with (first | (go_at_call 46; refine hrd.mono ?_; rintro e w2 ⟨rfl, g2⟩))
        go_ret
        exact ⟨by rw [HZ.out]; rfl, gb_trans hg g2⟩
    · have hlt' : ¬ (j : Int) < (k : Int) := by omega
      have hjk : j = k := by omega
      have HV : Hid (allV r k = true) := allV_yes (fun t ht => hv.out t (by omega))
      clear hjk
      go_wp2
      go_loopw [4] (fun i wr' => ∃ l : Nat, 1 ≤ l ∧ (l ≤ k ∨ l = 1) ∧ i = .int .i64 l ∧ Hid (∀ t, t < l → t < k → (r t).N = (r 0).N) ∧ w.grownBy wr' none) (fun i _ => k - (intOf i).toNat)
      case atStart => exact ⟨1, Nat.le_refl _, .inr rfl, by first | rfl | simp, (fun t ht _ => by rw [show t = 0 by omega]), hg⟩
      case round =>
        obtain ⟨l, hl1, hl, rfl, hn, hgl⟩ := hrel
        by_cases hll : l < k
        · obtain rfl := hsp (by omega)
          have hll' : (l : Int) < (k : Int) := by omega
          have hk0 : (0 : Int) < (k : Int) := by omega
          obtain ⟨x0, x1, x2⟩ := (h.kept hgl) l hll
          obtain ⟨y0, _, _⟩ := (h.kept hgl) 0 (by omega)
          rw [Nat.zero_mul] at y0
          by_cases he : (r l).N = (r 0).N
          · have he' : ((r l).N != (r 0).N) = false := by simp [he]
            have HE : Hid ((r l).N = (r 0).N) := he
            clear he
            go_wp2
            go_quiet (fail)
            go_wp2
            have HN : Hid (∀ t, t < l + 1 → t < k → (r t).N = (r 0).N) := fun t ht h9 => by
              by_cases e : t = l
              · subst e; exact HE.out
              · exact hn.out t (by omega) h9
            first
              | (go_roundw; (case rel => exact ⟨l + 1, by omega, .inl (by omega), by go_num, HN, gb_drewN hgl _⟩); (case measure => (simp [intOf]; omega)))
              | (refine ⟨⟨l + 1, by omega, .inl (by omega), by go_num, HN, gb_drewN hgl _⟩, ?_⟩; simp [intOf]; omega)
          · have he' : ((r l).N != (r 0).N) = true := by simp [he]
            have HZ : Hid (alikeZ r k = 21) := by unfold Hid alikeZ; rw [HV.out, allN_no he hll]; rfl
            go_wp2
            go_quiet (fail)
            go_wp2
            go_ret
            exact ⟨by rw [HZ.out]; rfl, gb_drewN hgl _⟩
        · have hll' : ¬ (l : Int) < (k : Int) := by omega
          have HZ : Hid (alikeZ r k = 0) := by unfold Hid alikeZ; rw [HV.out, allN_yes (fun t ht => hn.out t (by omega) ht)]; rfl
          go_wp2
          go_ret
          exact ⟨by rw [HZ.out]; rfl, hgl⟩
/-- Where a count says a number. -/
def isAns (r : Nat → RD) (v : Int) : Ans := if alikeZ r 4 = 0 then (if v < 0 ∨ 15 < v then noAns 2 else okAns (r 0).N.toNat (fun t => isN (fun d => Pk.bitAt (r d).f) v.toNat 4 t && decide (t < (r 0).N.toNat))) else noAns (alikeZ r 4)
/-- What four rows that are alike are. -/
structure Four (r : Nat → RD) (m n : Nat) (pp : Nat → Nat → Bool) : Prop where
  eN : ∀ d, d < 4 → (r d).N = m
  en : ∀ d, d < 4 → (r d).n = n
  may : ∀ d, d < 4 → MayBe m n (pp d)
  ef : ∀ d, d < 4 → ∀ k, k < n → (r d).f k = Pk.pack (pp d) k
theorem four_of {r : Nat → RD} (hf : ∀ d, d < 4 → ∀ k, k < (r d).n → (r d).f k < 18446744073709551616) (h : alikeZ r 4 = 0) : ∃ m n pp, Four r m n pp := by
  have hV : allV r 4 = true := by
    unfold alikeZ at h
    cases hv : allV r 4 with
    | true => rfl
    | false => rw [hv] at h; simp at h
  have hN : allN r 4 = true := by
    unfold alikeZ at h
    rw [hV] at h
    cases hv : allN r 4 with
    | true => rfl
    | false => rw [hv] at h; simp at h
  have v : ∀ d, d < 4 → (r d).valid = true := fun d hd => by
    cases hv : (r d).valid with
    | true => rfl
    | false => rw [allV_no hv hd] at hV; cases hV
  have e : ∀ d, d < 4 → (r d).N = (r 0).N := fun d hd => by
    by_cases hh : (r d).N = (r 0).N
    · exact hh
    · rw [allN_no hh hd] at hN; cases hN
  obtain ⟨m, p0, hm, M0, _⟩ := may_of_validB (hf 0 (by decide)) (v 0 (by decide))
  have hx : ∀ d, d < 4 → ∃ p, (r d).n = (r 0).n ∧ MayBe m (r 0).n p ∧ ∀ k, k < (r 0).n → (r d).f k = Pk.pack p k := fun d hd => by
    obtain ⟨m', p, hm', M', hp⟩ := may_of_validB (hf d hd) (v d hd)
    have e1 := e d hd
    obtain rfl : m' = m := by omega
    have e2 : (r d).n = (r 0).n := by rw [M'.words, M0.words]
    rw [e2] at M' hp
    exact ⟨p, e2, M', hp⟩
  refine ⟨m, (r 0).n, fun d => if hd : d < 4 then Classical.choose (hx d hd) else fun _ => false, fun d hd => by rw [e d hd]; exact hm, fun d hd => (Classical.choose_spec (hx d hd)).1, fun d hd => ?_, fun d hd => ?_⟩
  · rw [dif_pos hd]; exact (Classical.choose_spec (hx d hd)).2.1
  · rw [dif_pos hd]; exact (Classical.choose_spec (hx d hd)).2.2
theorem isN_congr {pp qq : Nat → Nat → Bool} {v t : Nat} : ∀ d, (∀ e, e < d → pp e t = qq e t) → isN pp v d t = isN qq v d t
  | 0, _ => rfl
  | d + 1, h => by
    show (isN pp v d t && (if v.testBit d then pp d t else !pp d t)) = (isN qq v d t && (if v.testBit d then qq d t else !qq d t))
    rw [isN_congr d (fun e he => h e (by omega)), h d (by omega)]
theorem is_c {r : Nat → RD} (hf : ∀ d, d < 4 → ∀ k, k < (r d).n → (r d).f k < 18446744073709551616) (v : Int) : (isAns r v).c ≤ 1025 := by
  unfold isAns
  by_cases h : alikeZ r 4 = 0
  · rw [if_pos h]
    obtain ⟨m, n, pp, F⟩ := four_of hf h
    split
    · exact Nat.zero_le _
    · rw [F.eN 0 (by decide)]
      exact ok_c (by have := (F.may 0 (by decide)).le; omega)
  · rw [if_neg h]; exact Nat.zero_le _
set_option maxRecDepth 100000 in
set_option maxHeartbeats 2000000 in
theorem isBad (r : Nat → RD) (v E : Int) (hE : ¬ E = 0) (hz : alikeZ r 4 = E) (w : World) (hok : ∀ d, d < 4 → (r d).ok w) :
    Calls Try.prog 19 #[.agg #[.int .i64 (r 0).N, .slice (r 0).sp (r 0).n (r 0).cap, .int .i64 (r 1).N, .slice (r 1).sp (r 1).n (r 1).cap, .int .i64 (r 2).N, .slice (r 2).sp (r 2).n (r 2).cap, .int .i64 (r 3).N, .slice (r 3).sp (r 3).n (r 3).cap], .int .i64 v] w (Made (noAns E) w) := by
  obtain ⟨W1, hW1, hA, sz1, g1⟩ := box8 w 36 (.int .i64 (r 0).N) (.slice (r 0).sp (r 0).n (r 0).cap) (.int .i64 (r 1).N) (.slice (r 1).sp (r 1).n (r 1).cap) (.int .i64 (r 2).N) (.slice (r 2).sp (r 2).n (r 2).cap) (.int .i64 (r 3).N) (.slice (r 3).sp (r 3).n (r 3).cap)
  obtain ⟨W2, hW2, d0, d1, sz2, g2, hR⟩ := box2 W1 (.int .i64 0) (.slice none 0 0) 31
  have G2 := gb_trans g1 g2
  have hA2 := hA.kept g2
  have hR2 : Rws W2 w.heap.size 4 r := by
    intro j hj
    have hok' : RD.ok W2 (r j) := (hok j hj).kept G2 (by simp)
    rcases (show j = 0 ∨ j = 1 ∨ j = 2 ∨ j = 3 by omega) with rfl | rfl | rfl | rfl
    · exact ⟨hA2.c0, hA2.c1, hok'⟩
    · exact ⟨hA2.c2, hA2.c3, hok'⟩
    · exact ⟨hA2.c4, hA2.c5, hok'⟩
    · exact ⟨hA2.c6, hA2.c7, hok'⟩
  have hak := alikeC w.heap.size 4 4 r (some ⟨w.heap.size, 0, none⟩) (fun _ => rfl) (by omega) W2 hR2
  rw [hz] at hak
  clear hz hR2
  obtain ⟨fs, hfs⟩ := underR
  go_enter Try.func19, Try.ntmps19
  go_wp2_with (first | (go_at_call 34; refine hak.mono ?_; rintro e w3 ⟨rfl, g3⟩; have hR3 := hR.kept g3 (by simp); have y2 := hR3.free0; have y3 := hR3.free1; have y0 := hR3.cell0; have y1 := hR3.cell1))
  refine ret_box2 (g := W1.heap.size) (t := 31) rfl hfs infoR rfl (hR3.set _ _) rfl ?_
  exact made_bad E (gb_new (gb_new (gb_trans G2 g3) g1.size _) g1.size _)
set_option maxRecDepth 100000 in
set_option maxHeartbeats 2000000 in
theorem isArg (r : Nat → RD) (v : Int) (hv : v < 0 ∨ 15 < v) (hz : alikeZ r 4 = 0) (w : World) (hok : ∀ d, d < 4 → (r d).ok w) :
    Calls Try.prog 19 #[.agg #[.int .i64 (r 0).N, .slice (r 0).sp (r 0).n (r 0).cap, .int .i64 (r 1).N, .slice (r 1).sp (r 1).n (r 1).cap, .int .i64 (r 2).N, .slice (r 2).sp (r 2).n (r 2).cap, .int .i64 (r 3).N, .slice (r 3).sp (r 3).n (r 3).cap], .int .i64 v] w (Made (noAns 2) w) := by
  obtain ⟨W1, hW1, hA, sz1, g1⟩ := box8 w 36 (.int .i64 (r 0).N) (.slice (r 0).sp (r 0).n (r 0).cap) (.int .i64 (r 1).N) (.slice (r 1).sp (r 1).n (r 1).cap) (.int .i64 (r 2).N) (.slice (r 2).sp (r 2).n (r 2).cap) (.int .i64 (r 3).N) (.slice (r 3).sp (r 3).n (r 3).cap)
  obtain ⟨W2, hW2, d0, d1, sz2, g2, hR⟩ := box2 W1 (.int .i64 0) (.slice none 0 0) 31
  have G2 := gb_trans g1 g2
  have hA2 := hA.kept g2
  have hR2 : Rws W2 w.heap.size 4 r := by
    intro j hj
    have hok' : RD.ok W2 (r j) := (hok j hj).kept G2 (by simp)
    rcases (show j = 0 ∨ j = 1 ∨ j = 2 ∨ j = 3 by omega) with rfl | rfl | rfl | rfl
    · exact ⟨hA2.c0, hA2.c1, hok'⟩
    · exact ⟨hA2.c2, hA2.c3, hok'⟩
    · exact ⟨hA2.c4, hA2.c5, hok'⟩
    · exact ⟨hA2.c6, hA2.c7, hok'⟩
  have hak := alikeC w.heap.size 4 4 r (some ⟨w.heap.size, 0, none⟩) (fun _ => rfl) (by omega) W2 hR2
  rw [hz] at hak
  clear hz hR2
  obtain ⟨fs, hfs⟩ := underR
  have arm : True := trivial
  by_cases h0 : v < 0
  · have hv0 : decide (v < 0) = true := by simpa using h0
    clear hv h0
    go_enter Try.func19, Try.ntmps19
    go_wp2_with (first | (go_at_call 34; refine hak.mono ?_; rintro e w3 ⟨rfl, g3⟩; have hR3 := hR.kept g3 (by simp); have y2 := hR3.free0; have y3 := hR3.free1; have y0 := hR3.cell0; have y1 := hR3.cell1))
    refine ret_box2 (g := W1.heap.size) (t := 31) rfl hfs infoR rfl (hR3.set _ _) rfl ?_
    exact made_bad 2 (gb_new (gb_new (gb_trans G2 g3) g1.size _) g1.size _)
  · have hv0 : decide (v < 0) = false := by simpa using h0
    have hv1 : decide ((15 : Int) < v) = true := by simp; omega
    clear hv h0
    go_enter Try.func19, Try.ntmps19
    go_wp2_with (first | (go_at_call 34; refine hak.mono ?_; rintro e w3 ⟨rfl, g3⟩; have hR3 := hR.kept g3 (by simp); have y2 := hR3.free0; have y3 := hR3.free1; have y0 := hR3.cell0; have y1 := hR3.cell1))
    refine ret_box2 (g := W1.heap.size) (t := 31) rfl hfs infoR rfl (hR3.set _ _) rfl ?_
    exact made_bad 2 (gb_new (gb_new (gb_trans G2 g3) g1.size _) g1.size _)
theorem isU (r : Nat → RD) (v : Int) (w : World) (hok : ∀ d, d < 4 → (r d).ok w) :
    Calls Try.prog 19 #[.agg #[.int .i64 (r 0).N, .slice (r 0).sp (r 0).n (r 0).cap, .int .i64 (r 1).N, .slice (r 1).sp (r 1).n (r 1).cap, .int .i64 (r 2).N, .slice (r 2).sp (r 2).n (r 2).cap, .int .i64 (r 3).N, .slice (r 3).sp (r 3).n (r 3).cap], .int .i64 v] w (Made (isAns r v) w) := by
  unfold isAns
  by_cases hz : alikeZ r 4 = 0
  · rw [if_pos hz]
    by_cases hv : v < 0 ∨ 15 < v
    · rw [if_pos hv]
      exact isArg r v hv hz w hok
    · rw [if_neg hv]
      obtain ⟨v, rfl⟩ : ∃ x : Nat, v = x := ⟨v.toNat, by omega⟩
      obtain ⟨m, n, pp, F⟩ := four_of (fun d hd => (hok d hd).2.1) hz
      have hw : ∀ d, d < 4 → Wd w ((fun d => (r d).sp) d) n (Pk.pack (pp d)) := fun d hd => by
        have := (hok d hd).1
        rw [F.en d hd] at this
        exact this.congr (F.ef d hd)
      have h := isC m n v (fun d => (r d).cap) (fun d => (r d).sp) pp F.may (by omega) w hw
      rw [F.eN 0 (by decide), F.eN 1 (by decide), F.eN 2 (by decide), F.eN 3 (by decide), F.en 0 (by decide), F.en 1 (by decide), F.en 2 (by decide), F.en 3 (by decide), Int.toNat_natCast, Int.toNat_natCast]
      refine h.mono ?_
      rintro e w' ⟨b, rfl, hr, hg, hb⟩
      have hwd := (F.may 0 (by decide)).words
      have hr' := hr.congr (q := fun t => isN (fun d => Pk.bitAt (r d).f) v 4 t && decide (t < m)) (fun t ht => by
        rw [isN_congr (pp := pp) (qq := fun d => Pk.bitAt (r d).f) 4 (fun e he => (bitAt_of (F.ef e he) ht).symm)])
      clear hr h
      subst hwd
      exact made_ok hr' hg hb
  · rw [if_neg hz]
    exact isBad r v _ hz rfl w hok
end Go.Proofs.Ytcdefpfnjjahgab
