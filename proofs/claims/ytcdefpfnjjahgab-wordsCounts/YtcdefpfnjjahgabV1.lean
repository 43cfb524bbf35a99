/- Count of every list of rows. -/
import Derived.Test.YtcdefpfnjjahgabW17
import Derived.Test.YtcdefpfnjjahgabW34
import Derived.Test.YtcdefpfnjjahgabW47
namespace Go.Proofs.Ytcdefpfnjjahgab
open Go.RowKit
set_option linter.unusedVariables false
set_option linter.unusedSimpArgs false
set_option maxRecDepth 100000

/-- What k rows that are alike are. -/
structure Many (r : Nat → RD) (k m n : Nat) (pp : Nat → Nat → Bool) : Prop where
  eN : ∀ d, d < k → (r d).N = m
  en : ∀ d, d < k → (r d).n = n
  may : ∀ d, d < k → MayBe m n (pp d)
  ef : ∀ d, d < k → ∀ i, i < n → (r d).f i = Pk.pack (pp d) i
  hm : m ≤ 65538
  hn : n = (m + 63) / 64
  h0 : k = 0 → m = 0
theorem many_of {r : Nat → RD} {k : Nat} (hf : ∀ d, d < k → ∀ i, i < (r d).n → (r d).f i < 18446744073709551616) (h : alikeZ r k = 0) : ∃ m n pp, Many r k m n pp := by
  by_cases hk : k = 0
  · subst hk
    exact ⟨0, 0, fun _ _ => false, fun d hd => absurd hd (Nat.not_lt_zero _), fun d hd => absurd hd (Nat.not_lt_zero _), fun d hd => absurd hd (Nat.not_lt_zero _), fun d hd => absurd hd (Nat.not_lt_zero _), by decide, rfl, fun _ => rfl⟩
  have hV : allV r k = true := by
    unfold alikeZ at h
    cases hv : allV r k with
    | true => rfl
    | false => rw [hv] at h; simp at h
  have hN : allN r k = true := by
    unfold alikeZ at h
    rw [hV] at h
    cases hv : allN r k with
    | true => rfl
    | false => rw [hv] at h; simp at h
  have v : ∀ d, d < k → (r d).valid = true := fun d hd => by
    cases hv : (r d).valid with
    | true => rfl
    | false => rw [allV_no hv hd] at hV; cases hV
  have e : ∀ d, d < k → (r d).N = (r 0).N := fun d hd => by
    by_cases hh : (r d).N = (r 0).N
    · exact hh
    · rw [allN_no hh hd] at hN; cases hN
  obtain ⟨m, p0, hm, M0, _⟩ := may_of_validB (hf 0 (by omega)) (v 0 (by omega))
  have hx : ∀ d, d < k → ∃ p, (r d).n = (r 0).n ∧ MayBe m (r 0).n p ∧ ∀ i, i < (r 0).n → (r d).f i = Pk.pack p i := fun d hd => by
    obtain ⟨m', p, hm', M', hp⟩ := may_of_validB (hf d hd) (v d hd)
    have e1 := e d hd
    obtain rfl : m' = m := by omega
    have e2 : (r d).n = (r 0).n := by rw [M'.words, M0.words]
    rw [e2] at M' hp
    exact ⟨p, e2, M', hp⟩
  refine ⟨m, (r 0).n, fun d => if hd : d < k then Classical.choose (hx d hd) else fun _ => false, fun d hd => by rw [e d hd]; exact hm, fun d hd => (Classical.choose_spec (hx d hd)).1, fun d hd => ?_, fun d hd => ?_, M0.le, M0.words, fun h => absurd h hk⟩
  · rw [dif_pos hd]; exact (Classical.choose_spec (hx d hd)).2.1
  · rw [dif_pos hd]; exact (Classical.choose_spec (hx d hd)).2.2

/-- The error of a list of rows; how many places; the four answers. -/
def cE (r : Nat → RD) (k : Nat) : Int := if 15 < k then 6 else alikeZ r k
def cM (r : Nat → RD) (k : Nat) : Nat := if k = 0 then 0 else (r 0).N.toNat
def cAns (r : Nat → RD) (k d : Nat) : Ans := if cE r k = 0 then okAns (cM r k) (fun t => dgF (fun j => Pk.bitAt (r j).f) k d t) else noAns (cE r k)
/-- What a count leaves: four rows of one's own. -/
def MadeF (An : Nat → Ans) (w : World) (e : Ending) (w' : World) : Prop := ∃ s : Nat → Option Addr, e = .returned (.tuple #[.agg #[.int .i64 (An 0).N, .slice (s 0) (An 0).c (An 0).c, .int .i64 (An 1).N, .slice (s 1) (An 1).c (An 1).c, .int .i64 (An 2).N, .slice (s 2) (An 2).c (An 2).c, .int .i64 (An 3).N, .slice (s 3) (An 3).c (An 3).c], .int .i64 (An 0).e]) ∧ (∀ d, d < 4 → Gr w' (s d) (An d).c (An d).f) ∧ (∀ d, d < 4 → ∀ x, s d = some x → w.heap.size ≤ x.block) ∧ Apart 4 s ∧ w.grownBy w' none
theorem madeF_bad {w w' : World} (E : Int) (hg : w.grownBy w' none) : MadeF (fun _ => noAns E) w (.returned (.tuple #[.agg #[.int .i64 0, .slice none 0 0, .int .i64 0, .slice none 0 0, .int .i64 0, .slice none 0 0, .int .i64 0, .slice none 0 0], .int .i64 E])) w' :=
  ⟨fun _ => none, rfl, fun d hd => .inl ⟨rfl, rfl⟩, fun d hd x h => (by cases h), fun i j _ _ _ a b h => (by cases h), hg⟩
theorem cn_congr {P Q : Nat → Nat → Bool} {t : Nat} : ∀ k, (∀ j, j < k → P j t = Q j t) → cn P k t = cn Q k t
  | 0, _ => rfl
  | k + 1, h => by rw [cn, cn, cn_congr k (fun j hj => h j (by omega)), h k (by omega)]
theorem dg_congr {P Q : Nat → Nat → Bool} {k d t : Nat} (h : ∀ j, j < k → P j t = Q j t) : dgF P k d t = dgF Q k d t := by
  unfold dgF
  rw [cn_congr k h]

set_option maxHeartbeats 1000000 in
theorem countMany (q k cap : Nat) (r : Nat → RD) (sp : Option Addr) (hsp : 0 < k → sp = some ⟨q, 0, none⟩) (hk : 15 < k) (hkl : k ≤ 4398046510976) (w : World) :
    Calls Try.prog 13 #[.slice sp k cap] w (MadeF (fun _ => noAns 6) w) := by
  obtain ⟨W1, hW1, hR1, sz1, g1⟩ := box8 w 36 (.int .i64 0) (.slice none 0 0) (.int .i64 0) (.slice none 0 0) (.int .i64 0) (.slice none 0 0) (.int .i64 0) (.slice none 0 0)
  have hkd : (15 : Int) < (k : Int) := by omega
  have x0 := hR1.c0
  have xf0 := hR1.f0
  have x1 := hR1.c1
  have xf1 := hR1.f1
  have x2 := hR1.c2
  have xf2 := hR1.f2
  have x3 := hR1.c3
  have xf3 := hR1.f3
  have x4 := hR1.c4
  have xf4 := hR1.f4
  have x5 := hR1.c5
  have xf5 := hR1.f5
  have x6 := hR1.c6
  have xf6 := hR1.f6
  have x7 := hR1.c7
  have xf7 := hR1.f7
  go_enter Try.func13, Try.ntmps13
  go_wp2
  refine ret_box8 (g := w.heap.size) (t := 36) rfl underC infoC rfl (hR1.set _ _ _ _ _ _ _ _) rfl ?_
  exact madeF_bad 6 (gb_new8 g1 (Nat.le_refl _) _ _ _ _ _ _ _ _)
set_option maxHeartbeats 1000000 in
theorem countBad (q k cap : Nat) (r : Nat → RD) (E : Int) (hE : ¬ E = 0) (hz : alikeZ r k = E) (sp : Option Addr) (hsp : 0 < k → sp = some ⟨q, 0, none⟩) (hk : k ≤ 15) (w : World) (h : Rws w q k r) :
    Calls Try.prog 13 #[.slice sp k cap] w (MadeF (fun _ => noAns E) w) := by
  obtain ⟨W1, hW1, hR1, sz1, g1⟩ := box8 w 36 (.int .i64 0) (.slice none 0 0) (.int .i64 0) (.slice none 0 0) (.int .i64 0) (.slice none 0 0) (.int .i64 0) (.slice none 0 0)
  have hkd : decide ((15 : Int) < (k : Int)) = false := by simp; omega
  have hak := alikeC q k cap r sp hsp (by omega) W1 (h.kept g1)
  rw [hz] at hak
  have hne : (E != 0) = true := by simp [hE]
  clear hz hE
  go_enter Try.func13, Try.ntmps13
  go_wp2_with (first | (go_at_call 34; refine hak.mono ?_; rintro e w2 ⟨rfl, g2⟩; have hR2 := hR1.kept g2; have x0 := hR2.c0; have xf0 := hR2.f0; have x1 := hR2.c1; have xf1 := hR2.f1; have x2 := hR2.c2; have xf2 := hR2.f2; have x3 := hR2.c3; have xf3 := hR2.f3; have x4 := hR2.c4; have xf4 := hR2.f4; have x5 := hR2.c5; have xf5 := hR2.f5; have x6 := hR2.c6; have xf6 := hR2.f6; have x7 := hR2.c7; have xf7 := hR2.f7))
  refine ret_box8 (g := w.heap.size) (t := 36) rfl underC infoC rfl (hR2.set _ _ _ _ _ _ _ _) rfl ?_
  exact madeF_bad E (gb_new8 (gb_trans g1 g2) (Nat.le_refl _) _ _ _ _ _ _ _ _)

theorem countU (q k cap : Nat) (r : Nat → RD) (sp : Option Addr) (hsp : 0 < k → sp = some ⟨q, 0, none⟩) (hkl : k ≤ 4398046510976) (w : World) (h : k ≤ 15 → Rws w q k r) :
    Calls Try.prog 13 #[.slice sp k cap] w (MadeF (cAns r k) w) := by
  by_cases hk : 15 < k
  · have e : cAns r k = fun _ => noAns 6 := by
      funext d
      unfold cAns cE
      rw [if_pos hk, if_neg (by decide)]
    rw [e]
    exact countMany q k cap r sp hsp hk hkl w
  · have hR := h (by omega)
    by_cases hz : alikeZ r k = 0
    · have hE : cE r k = 0 := by unfold cE; rw [if_neg hk, hz]
      obtain ⟨m, n, pp, F⟩ := many_of (fun d hd => (hR d hd).2.2.2.1) hz
      have hM : cM r k = m := by
        unfold cM
        by_cases h0 : k = 0
        · rw [if_pos h0, F.h0 h0]
        · rw [if_neg h0, F.eN 0 (by omega), Int.toNat_natCast]
      have hR' : Rws w q k (fun j => ⟨m, (r j).sp, n, (r j).cap, Pk.pack (pp j)⟩) := fun j hj => by
        obtain ⟨a0, a1, a2⟩ := hR j hj
        rw [F.eN j hj] at a0
        rw [F.en j hj] at a1
        refine ⟨a0, a1, ?_, fun i hi => Pk.pack_lt _ _, ?_⟩
        · have := a2.1
          rw [F.en j hj] at this
          exact this.congr (F.ef j hj)
        · have := a2.2.2
          rw [F.en j hj] at this
          exact this
      have hc := countC pp q k cap n m sp (fun j => (r j).cap) (fun j => (r j).sp) hsp (by omega) F.hm F.hn F.h0 F.may w hR'
      refine hc.mono ?_
      rintro e w' ⟨b0, b1, b2, b3, rfl, r0, r1, r2, r3, hg, l0, l1, l2, l3, o1, o2, o3⟩
      have hwd := F.hn
      have fd : ∀ d t, t < 64 * n → dgF pp k d t = dgF (fun j => Pk.bitAt (r j).f) k d t := fun d t ht => dg_congr (fun j hj => (bitAt_of (F.ef j hj) ht).symm)
      have e4 : ∀ d, cAns r k d = okAns m (fun t => dgF (fun j => Pk.bitAt (r j).f) k d t) := fun d => by unfold cAns; rw [if_pos hE, hM]
      refine ⟨fun d => some ⟨[b0, b1, b2, b3].getD d 0, 0, none⟩, ?_, ?_, ?_, ?_, hg⟩
      · rw [e4, e4, e4, e4]
        show _ = Ending.returned (.tuple #[.agg #[.int .i64 (m : Int), .slice (some ⟨b0, 0, none⟩) ((m + 63) / 64) ((m + 63) / 64), .int .i64 (m : Int), .slice (some ⟨b1, 0, none⟩) ((m + 63) / 64) ((m + 63) / 64), .int .i64 (m : Int), .slice (some ⟨b2, 0, none⟩) ((m + 63) / 64) ((m + 63) / 64), .int .i64 (m : Int), .slice (some ⟨b3, 0, none⟩) ((m + 63) / 64) ((m + 63) / 64)], .int .i64 0])
        rw [← hwd]
      · intro d hd
        rw [e4]
        show Gr w' _ ((m + 63) / 64) (Pk.pack _)
        rw [← hwd]
        rcases (show d = 0 ∨ d = 1 ∨ d = 2 ∨ d = 3 by omega) with rfl | rfl | rfl | rfl
        · exact gr_row (r0.congr (fd 0))
        · exact gr_row (r1.congr (fd 1))
        · exact gr_row (r2.congr (fd 2))
        · exact gr_row (r3.congr (fd 3))
      · intro d hd x hx
        cases hx
        rcases (show d = 0 ∨ d = 1 ∨ d = 2 ∨ d = 3 by omega) with rfl | rfl | rfl | rfl
        · exact l0
        · exact l1
        · exact l2
        · exact l3
      · intro i j hi hj hij a b ha hb
        cases ha
        cases hb
        show [b0, b1, b2, b3].getD i 0 ≠ [b0, b1, b2, b3].getD j 0
        rcases (show i = 0 ∨ i = 1 ∨ i = 2 ∨ i = 3 by omega) with rfl | rfl | rfl | rfl <;> rcases (show j = 0 ∨ j = 1 ∨ j = 2 ∨ j = 3 by omega) with rfl | rfl | rfl | rfl <;> simp <;> omega
    · have e : cAns r k = fun _ => noAns (alikeZ r k) := by
        funext d
        unfold cAns cE
        rw [if_neg hk, if_neg hz]
      rw [e]
      exact countBad q k cap r _ hz rfl sp hsp (by omega) w hR
end Go.Proofs.Ytcdefpfnjjahgab
