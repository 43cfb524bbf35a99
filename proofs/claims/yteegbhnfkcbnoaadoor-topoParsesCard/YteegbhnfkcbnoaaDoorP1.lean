/- What takeDigits, takeNumber, takeLength and takePart of package topo answer. -/
import Derived.Test.YteegbhnfkcbnoaaDoorS3
import Derived.Test.YteegbhnfkcbnoaaDoorTm
import Derived.Test.YteegbhnfkcbnoaaDoorBo
namespace Go.Proofs.YteegbhnfkcbnoaaDoor
open Go.RowKit
set_option linter.unusedVariables false
set_option linter.unusedSimpArgs false
set_option maxRecDepth 100000

theorem Bo.same {w : World} {g : Nat} {t : TypeId} {cs : Array Value} (h : Bo w g t cs) (i : Nat) {v : Value} (hi : cs[i]? = some v) : w.setCell ⟨g, i, none⟩ v = w := by
  have hcs : cs.setIfInBounds i v = cs := by
    obtain ⟨h1, h2⟩ := Array.getElem?_eq_some_iff.1 hi
    subst h2
    apply Array.ext
    · simp
    · intro j h3 h4
      rw [Array.getElem_setIfInBounds]
      split
      · subst_vars; rfl
      · rfl
  have h2 := h.set i v
  rw [hcs] at h2
  have hh : (w.setCell ⟨g, i, none⟩ v).heap = w.heap := by
    apply Array.ext_getElem?
    intro j
    by_cases hj : j = g
    · subst hj; rw [show (w.setCell ⟨j, i, none⟩ v).heap[j]? = _ from h2, show w.heap[j]? = _ from h]
    · simp [World.setCell, Array.getElem?_modify, Ne.symm hj]
  show { w with heap := _ } = w
  exact congrArg (fun x => { w with heap := x }) hh
/-- Take, whatever stands there. -/
theorem takeU (b c : Nat) (s : ByteArray) (i : Nat) (w : World) (h : Cu w b s i) (hi : i ≤ s.size) (hs : s.size ≤ maxLen) (hc : 0 < c) : Calls Tryd.prog 51 #[.pointer (some ⟨b, 0, none⟩), .int .u8 c] w fun e w' => e = .returned (.bool (decide (Sc.bt s i = c))) ∧ Cu w' b s (if Sc.bt s i = c then i + 1 else i) ∧ w.grownBy w' (some b) := by
  by_cases hi' : i < s.size
  · by_cases hb : Sc.bt s i = c
    · rw [if_pos hb]
      refine (takeYes b c s i w h hi' (by simp; omega) hs).mono ?_
      rintro e w' ⟨rfl, h1, h2⟩
      exact ⟨by simp [hb], h1, h2⟩
    · rw [if_neg hb]
      refine (takeNo b c s i w h hi' (by simp; omega)).mono ?_
      rintro e w' ⟨rfl, k, rfl⟩
      exact ⟨by simp [hb], h.drew, gb_drewN (World.grownBy.refl _ _) _⟩
  · obtain rfl : i = s.size := by omega
    have hb : ¬ Sc.bt s s.size = c := by rw [Sc.bt_off (by omega)]; omega
    rw [if_neg hb]
    refine (takeEnd b c s w h).mono ?_
    rintro e w' ⟨rfl, k, rfl⟩
    exact ⟨by simp [hb], h.drew, gb_drewN (World.grownBy.refl _ _) _⟩
theorem takeIs (b c : Nat) (s : ByteArray) (i : Nat) (w : World) (h : Cu w b s i) (hi : i ≤ s.size) (hs : s.size ≤ maxLen) (hc : 0 < c) (hb : Hid (Sc.bt s i = c)) : Calls Tryd.prog 51 #[.pointer (some ⟨b, 0, none⟩), .int .u8 c] w fun e w' => e = .returned (.bool true) ∧ Cu w' b s (i + 1) ∧ w.grownBy w' (some b) := by
  have := takeU b c s i w h hi hs hc
  rw [if_pos hb.out, decide_eq_true hb.out] at this
  exact this
theorem takeIsnt (b c : Nat) (s : ByteArray) (i : Nat) (w : World) (h : Cu w b s i) (hi : i ≤ s.size) (hs : s.size ≤ maxLen) (hc : 0 < c) (hb : Hid (¬ Sc.bt s i = c)) : Calls Tryd.prog 51 #[.pointer (some ⟨b, 0, none⟩), .int .u8 c] w fun e w' => e = .returned (.bool false) ∧ Cu w' b s i ∧ w.grownBy w' (some b) := by
  have := takeU b c s i w h hi hs hc
  rw [if_neg hb.out, decide_eq_false hb.out] at this
  exact this
theorem lt_of_bt {s : ByteArray} {i c : Nat} (hb : Sc.bt s i = c) (hc : 0 < c) : i < s.size := by
  by_cases h : i < s.size
  · exact h
  · rw [Sc.bt_off h] at hb; omega
theorem dg_le {s : ByteArray} {i : Nat} (hi : i ≤ s.size) : Tp.dg s i ≤ s.size := Sc.ov_le Sc.digitB hi
theorem dg_ge {s : ByteArray} {i : Nat} (hi : i ≤ s.size) : i ≤ Tp.dg s i := Sc.ov_ge Sc.digitB hi

theorem digit_iff (c : Nat) : Sc.digitB c = true ↔ 48 ≤ c ∧ c ≤ 57 := by unfold Sc.digitB; rw [Sc.wi_iff]; omega
set_option maxHeartbeats 2000000 in
theorem takeDigitsC (b : Nat) (s : ByteArray) (i : Nat) (w : World) (h : Cu w b s i) (hi : i ≤ s.size) (hs : s.size ≤ maxLen) : Calls Tryd.prog 62 #[.pointer (some ⟨b, 0, none⟩)] w fun e w' => e = .returned (.tuple #[]) ∧ Cu w' b s (Tp.dg s i) ∧ w.grownBy w' (some b) := by
  have hov := Sc.ov_is Sc.digitB (s := s) (i := i) hi
  have HO : Hid (Sc.Ov Sc.digitB s i (Tp.dg s i)) := hov
  clear hov
  go_enter Tryd.func62, Tryd.ntmps62
  go_wp2
  go_loopw [] (fun wr => ∃ k : Nat, i ≤ k ∧ k ≤ Tp.dg s i ∧ Cu wr b s k ∧ w.grownBy wr (some b)) (fun wr => s.size - (match wr.cell? ⟨b, 2, none⟩ with | some (.int _ z) => z.toNat | _ => 0))
  case atStart => exact ⟨i, Nat.le_refl _, HO.out.ge, h, World.grownBy.refl _ _⟩
  case round =>
    obtain ⟨k, hk0, hk, hc, hg⟩ := hrel
    have hle : Tp.dg s i ≤ s.size := HO.out.le
    have hkc := hc.c2
    by_cases hlt : k < Tp.dg s i
    · have hd := (digit_iff _).1 (HO.out.all k hk0 hlt)
      have hk' : k < s.size := by omega
      have n1 : ¬ (Sc.bt s k : Int) < 48 := by omega
      have n2 : ¬ (57 : Int) < (Sc.bt s k : Int) := by omega
      go_wp2_with (first | (go_at_call 57; refine (peekC _ _ _ _ hc hk').mono ?_; rintro e w' ⟨rfl, q1, hw'⟩; subst w') | (go_at_call 51; refine (takeYes _ _ _ _ _ hc.drew hk' (by simp) hs).mono ?_; rintro e w2 ⟨rfl, hc2, hg2⟩))
      go_roundw
      case rel => exact ⟨k + 1, by omega, by omega, hc2, gb_trans (gb_drewN hg _) hg2⟩
      case measure =>
        have hkd := hc2.c2
        have hsub : s.size - (k + 1) < s.size - k := by omega
        simp only [hkc, hkd, Int.toNat_natCast]
        exact hsub
    · obtain rfl : k = Tp.dg s i := by omega
      by_cases hend : Tp.dg s i < s.size
      · have hd : ¬ (48 ≤ Sc.bt s (Tp.dg s i) ∧ Sc.bt s (Tp.dg s i) ≤ 57) := fun hx => by
          have h1 := HO.out.stop hend
          rw [(digit_iff _).2 hx] at h1
          cases h1
        by_cases n1 : (Sc.bt s (Tp.dg s i) : Int) < 48
        · go_wp2_with (first | (go_at_call 57; refine (peekC _ _ _ _ hc hend).mono ?_; rintro e w' ⟨rfl, q1, hw'⟩; subst w'))
          refine bodyPost_ret (results_none rfl _ _ _) rfl ?_
          exact ⟨rfl, hc.drew, gb_drewN hg _⟩
        · have n2 : (57 : Int) < (Sc.bt s (Tp.dg s i) : Int) := by omega
          go_wp2_with (first | (go_at_call 57; refine (peekC _ _ _ _ hc hend).mono ?_; rintro e w' ⟨rfl, q1, hw'⟩; subst w'))
          refine bodyPost_ret (results_none rfl _ _ _) rfl ?_
          exact ⟨rfl, hc.drew, gb_drewN hg _⟩
      · have he : Tp.dg s i = s.size := by omega
        have hc' : Cu wr b s s.size := he ▸ hc
        go_wp2_with (first | (go_at_call 57; refine (peekEnd _ _ _ hc').mono ?_; rintro e w' ⟨rfl, q1, hw'⟩; subst w'))
        refine bodyPost_ret (results_none rfl _ _ _) rfl ?_
        exact ⟨rfl, hc.drew, gb_drewN hg _⟩

/-- What the calls need of the world: the variable of the library, the cutter's block behind it. -/
def Ev (tp : TypeId) (p : Value) (b : Nat) (w : World) : Prop := Er tp p w ∧ 7 < b ∧ b < w.heap.size
theorem evK {tp : TypeId} {p : Value} {b : Nat} {w w' : World} (h : Hid (Ev tp p b w)) (hg : w.grownBy w' (some b)) : Hid (Ev tp p b w') :=
  ⟨h.out.1.grown hg h.out.2.1 (Nat.lt_trans h.out.2.1 h.out.2.2), h.out.2.1, Nat.lt_of_lt_of_le h.out.2.2 hg.size⟩
theorem gb_any {a c : World} {r : Option Nat} (h : a.grownBy c none) : a.grownBy c r := gb_none (World.grownBy.refl _ _) h
theorem evE {tp : TypeId} {p : Value} {b : Nat} {w : World} (h : Hid (Ev tp p b w)) : Hid (Er tp p w) := h.out.1
theorem evG {tp : TypeId} {p : Value} {b : Nat} {w : World} (h : Hid (Ev tp p b w)) : 7 < w.heap.size := Nat.lt_trans h.out.2.1 h.out.2.2

theorem takeNumNo (b : Nat) (s : ByteArray) (i : Nat) (w : World) (h : Cu w b s i) (hi : i ≤ s.size) (hs : s.size ≤ maxLen) (tp : TypeId) (p : Value) (hE : Hid (Ev tp p b w)) (hn : Hid (¬ i < Tp.dg s i)) : Calls Tryd.prog 59 #[.pointer (some ⟨b, 0, none⟩)] w fun e w' => e = .returned (.tuple #[.int .i64 0, .bool false]) ∧ Cu w' b s i ∧ w.grownBy w' (some b) := by
  have hn' : Hid (dg s i = i) := by
    have h1 := dg_ge (s := s) hi
    have h2 := hn.out
    unfold Hid
    have : Tp.dg s i = i := by omega
    exact this
  go_enter Tryd.func59, Tryd.ntmps59
  go_wp2_with (go_at_call 61; refine (numberNo _ _ _ _ h hs hi hn').mono ?_; rintro e w' ⟨rfl, k1, hw'⟩; subst w')
  go_ret2
  exact ⟨rfl, h.drew, gb_drewN (World.grownBy.refl _ _) _⟩
theorem takeNumOk (b : Nat) (s : ByteArray) (i : Nat) (w : World) (h : Cu w b s i) (hi : i ≤ s.size) (hs : s.size ≤ maxLen) (tp : TypeId) (p : Value) (hE : Hid (Ev tp p b w)) (hn : Hid (i < Tp.dg s i)) : Calls Tryd.prog 59 #[.pointer (some ⟨b, 0, none⟩)] w fun e w' => e = .returned (.tuple #[.int .i64 (Tp.cap (Tp.num s i) : Nat), .bool true]) ∧ Cu w' b s (Tp.dg s i) ∧ w.grownBy w' (some b) := by
  by_cases hv : Tp.num s i ≤ 9223372036854775807
  · have hv' : Hid (numV s i ≤ 9223372036854775807) := hv
    have hq : Hid (Tp.cap (Tp.num s i) = numV s i) := Tp.cap_yes hv
    clear hv
    go_enter Tryd.func59, Tryd.ntmps59
    go_wp2_with (go_at_call 61; refine (numberOk _ _ _ _ h hs hi hn hv' tp p (evE hE) (evG hE)).mono ?_; rintro e w1 ⟨rfl, h1, g1⟩)
    go_ret2
    exact ⟨ret_ib (by rw [hq.out]) rfl, h1, g1⟩
  · have hv' : Hid (¬ numV s i ≤ 9223372036854775807) := hv
    have hq : Hid (Tp.cap (Tp.num s i) = 9223372036854775807) := Tp.cap_no hv
    clear hv
    go_enter Tryd.func59, Tryd.ntmps59
    go_wp2_with (first | (go_at_call 61; refine (numberFar _ _ _ _ h hs hi hn hv' tp p (evE hE) (evG hE)).mono ?_; rintro e w1 ⟨rfl, g1⟩; have h1 := h.kept g1 (by simp)) | (go_at_call 62; refine (takeDigitsC _ _ _ _ h1 hi hs).mono ?_; rintro e w2 ⟨rfl, h2, g2⟩))
    go_ret2
    exact ⟨ret_ib (by rw [hq.out]; rfl) rfl, h2, gb_trans (gb_any g1) g2⟩

theorem underP : ∃ fs, Tryd.prog.underlying 37 = some (.struct fs) := by
  first | exact ⟨_, Tryd.underlying37⟩ | exact ⟨_, by kernel_rfl⟩
theorem infoP : (Tryd.prog.info? 37).map (·.size) = some 5 := by kernel_rfl
/-- A part in memory. -/
def pv (q : Tp.Pt) : Array Value := #[.int .i64 q.pl, .int .i64 q.len, .int .i64 q.star, .int .i64 q.sign, .int .i64 q.sh]
theorem ret_pi {a b : Int} {c d : Array Value} (h : c = d) (hp : a = b) : Ending.returned (.tuple #[.agg c, .int .i64 a]) = .returned (.tuple #[.agg d, .int .i64 b]) := by rw [h, hp]

theorem setCu {w : World} {b : Nat} {s : ByteArray} {i : Nat} (h : Cu w b s i) {c j : Nat} {v : Value} (hc : c ≠ b) : Cu (w.setCell ⟨c, j, none⟩ v) b s i := by
  unfold Cu at h ⊢
  simp [World.setCell, Array.getElem?_modify, h, hc]

set_option maxHeartbeats 1000000 in
theorem takeLenNo (b : Nat) (s : ByteArray) (i : Nat) (w : World) (h : Cu w b s i) (hi : i ≤ s.size) (hs : s.size ≤ maxLen) (tp : TypeId) (p : Value) (hE : Hid (Ev tp p b w)) (hn : Hid (¬ i < Tp.dg s i)) : Calls Tryd.prog 53 #[.pointer (some ⟨b, 0, none⟩)] w fun e w' => e = .returned (.tuple #[.agg #[.int .i64 0, .int .i64 0, .int .i64 0, .int .i64 0, .int .i64 0], .int .i64 41]) ∧ Cu w' b s i ∧ w.grownBy w' (some b) := by
  obtain ⟨fs, hfs⟩ := underP
  obtain ⟨W1, hW1, sz1, g1, B1⟩ := boxn w #[.int .i64 0, .int .i64 0, .int .i64 0, .int .i64 0, .int .i64 0] 37
  have h1 := h.kept g1 (by simp)
  have hE1 := evK hE (gb_any g1)
  have hb := h.lt
  have HN : Hid (b ≠ w.heap.size) := by unfold Hid; omega
  have HM : Hid (w.heap.size ≠ b) := by unfold Hid; omega
  clear hb
  go_enter Tryd.func53, Tryd.ntmps53
  go_wp2_with (first | (go_at_call 16; refine (atC _ _ _ _ h1).mono ?_; rintro e w' ⟨rfl, hw'⟩; subst w') | (go_at_call 59; refine (takeNumNo _ _ _ _ h1 hi hs tp p hE1 hn).mono ?_; rintro e w2 ⟨rfl, h2, g2⟩; have G2 := gb_trans (gb_any (r := some b) g1) g2; have BR := B1.kept g2 (by intro hx; exact HM.out (Option.some.inj hx)); have r0 := BR.cell 0 (v := .int .i64 0) rfl; have r1 := BR.cell 1 (v := .int .i64 0) rfl; have r2 := BR.cell 2 (v := .int .i64 0) rfl; have r3 := BR.cell 3 (v := .int .i64 0) rfl; have r4 := BR.cell 4 (v := .int .i64 0) rfl; have f0 := BR.frozen 0; have f1 := BR.frozen 1; have f2 := BR.frozen 2; have f3 := BR.frozen 3; have f4 := BR.frozen 4))
  refine ret_c2 (g := w.heap.size) (cs := #[.int .i64 0, .int .i64 0, .int .i64 0, .int .i64 0, .int .i64 0]) rfl hfs infoP rfl ((((((BR).set 0 _).set 1 _).set 2 _).set 3 _).set 4 _) rfl ⟨ret_pi rfl rfl, ?_, gb_new (gb_new (gb_new (gb_new (gb_new (G2) (Nat.le_refl _) _) (Nat.le_refl _) _) (Nat.le_refl _) _) (Nat.le_refl _) _) (Nat.le_refl _) _⟩
  exact setCu (setCu (setCu (setCu (setCu h2 HM.out) HM.out) HM.out) HM.out) HM.out

set_option maxHeartbeats 1000000 in
theorem takeLenOk (b : Nat) (s : ByteArray) (i : Nat) (w : World) (h : Cu w b s i) (hi : i ≤ s.size) (hs : s.size ≤ maxLen) (tp : TypeId) (p : Value) (hE : Hid (Ev tp p b w)) (hn : Hid (i < Tp.dg s i)) : Calls Tryd.prog 53 #[.pointer (some ⟨b, 0, none⟩)] w fun e w' => e = .returned (.tuple #[.agg #[.int .i64 i, .int .i64 (Tp.cap (Tp.num s i) : Nat), .int .i64 0, .int .i64 0, .int .i64 0], .int .i64 0]) ∧ Cu w' b s (Tp.dg s i) ∧ w.grownBy w' (some b) := by
  obtain ⟨fs, hfs⟩ := underP
  obtain ⟨W1, hW1, sz1, g1, B1⟩ := boxn w #[.int .i64 0, .int .i64 0, .int .i64 0, .int .i64 0, .int .i64 0] 37
  have h1 := h.kept g1 (by simp)
  have hE1 := evK hE (gb_any g1)
  have hb := h.lt
  have HN : Hid (b ≠ w.heap.size) := by unfold Hid; omega
  have HM : Hid (w.heap.size ≠ b) := by unfold Hid; omega
  clear hb
  go_enter Tryd.func53, Tryd.ntmps53
  go_wp2_with (first | (go_at_call 16; refine (atC _ _ _ _ h1).mono ?_; rintro e w' ⟨rfl, hw'⟩; subst w') | (go_at_call 59; refine (takeNumOk _ _ _ _ h1 hi hs tp p hE1 hn).mono ?_; rintro e w2 ⟨rfl, h2, g2⟩; have G2 := gb_trans (gb_any (r := some b) g1) g2; have BR := B1.kept g2 (by intro hx; exact HM.out (Option.some.inj hx)); have r0 := BR.cell 0 (v := .int .i64 0) rfl; have r1 := BR.cell 1 (v := .int .i64 0) rfl; have r2 := BR.cell 2 (v := .int .i64 0) rfl; have r3 := BR.cell 3 (v := .int .i64 0) rfl; have r4 := BR.cell 4 (v := .int .i64 0) rfl; have f0 := BR.frozen 0; have f1 := BR.frozen 1; have f2 := BR.frozen 2; have f3 := BR.frozen 3; have f4 := BR.frozen 4))
  refine ret_c2 (g := w.heap.size) (cs := #[.int .i64 i, .int .i64 (Tp.cap (Tp.num s i) : Nat), .int .i64 0, .int .i64 0, .int .i64 0]) rfl hfs infoP rfl ((((((BR).set 0 _).set 1 _).set 2 _).set 3 _).set 4 _) rfl ⟨ret_pi rfl rfl, ?_, gb_new (gb_new (gb_new (gb_new (gb_new (G2) (Nat.le_refl _) _) (Nat.le_refl _) _) (Nat.le_refl _) _) (Nat.le_refl _) _) (Nat.le_refl _) _⟩
  exact setCu (setCu (setCu (setCu (setCu h2 HM.out) HM.out) HM.out) HM.out) HM.out
end Go.Proofs.YteegbhnfkcbnoaaDoor
