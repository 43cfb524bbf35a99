/- isFar, isSide, near, living: what they answer. -/
import Derived.Test.YtjacoifhjfipaaaMk
import Derived.LoopN
namespace Go.Proofs.Ytjacoifhjfipaaa
open Go.RowKit Ln
set_option linter.unusedVariables false
set_option linter.unusedSimpArgs false
set_option maxRecDepth 100000

set_option maxHeartbeats 1000000 in
theorem isFarC (n : Int) (w : World) : Calls Try.prog 45 #[.int .i64 n] w fun e w' => e = .returned (.bool (farB n)) ∧ w' = w := by
  by_cases h1 : n < -1099511627776
  · have e : farB n = true := by unfold farB; rw [decide_eq_true_iff]; omega
    have h2 : ¬ -1099511627776 ≤ n := by omega
    rw [e]
    clear e
    go_enter Try.func45, Try.ntmps45
    go_wp2
    go_ret
    exact ⟨rfl, rfl⟩
  · have h2 : -1099511627776 ≤ n := by omega
    by_cases h3 : 1099511627776 < n
    · have e : farB n = true := by unfold farB; rw [decide_eq_true_iff]; omega
      have h4 : ¬ n ≤ 1099511627776 := by omega
      rw [e]
      clear e
      go_enter Try.func45, Try.ntmps45
      go_wp2
      go_ret
      exact ⟨rfl, rfl⟩
    · have e : farB n = false := by unfold farB; rw [decide_eq_false_iff_not]; omega
      have h4 : n ≤ 1099511627776 := by omega
      rw [e]
      clear e
      go_enter Try.func45, Try.ntmps45
      go_wp2
      go_ret
      exact ⟨rfl, rfl⟩
set_option maxHeartbeats 1000000 in
theorem nearC (n : Int) (w : World) : Calls Try.prog 46 #[.int .i64 n] w fun e w' => e = .returned (.bool (!(farB n))) ∧ w' = w := by
  by_cases h1 : n < -1099511627776
  · have e : farB n = true := by unfold farB; rw [decide_eq_true_iff]; omega
    have h2 : ¬ -1099511627776 ≤ n := by omega
    rw [e]
    clear e
    go_enter Try.func46, Try.ntmps46
    go_wp2
    go_ret
    exact ⟨rfl, rfl⟩
  · have h2 : -1099511627776 ≤ n := by omega
    by_cases h3 : 1099511627776 < n
    · have e : farB n = true := by unfold farB; rw [decide_eq_true_iff]; omega
      have h4 : ¬ n ≤ 1099511627776 := by omega
      rw [e]
      clear e
      go_enter Try.func46, Try.ntmps46
      go_wp2
      go_ret
      exact ⟨rfl, rfl⟩
    · have e : farB n = false := by unfold farB; rw [decide_eq_false_iff_not]; omega
      have h4 : n ≤ 1099511627776 := by omega
      rw [e]
      clear e
      go_enter Try.func46, Try.ntmps46
      go_wp2
      go_ret
      exact ⟨rfl, rfl⟩
set_option maxHeartbeats 1000000 in
theorem isSideC (n : Int) (w : World) : Calls Try.prog 44 #[.int .i64 n] w fun e w' => e = .returned (.bool (sideB n)) ∧ w' = w := by
  by_cases h1 : 0 ≤ n
  · by_cases h3 : n ≤ 65536
    · have e : sideB n = true := by unfold sideB; rw [decide_eq_true_iff]; omega
      rw [e]
      clear e
      go_enter Try.func44, Try.ntmps44
      go_wp2
      go_ret
      exact ⟨rfl, rfl⟩
    · have e : sideB n = false := by unfold sideB; rw [decide_eq_false_iff_not]; omega
      rw [e]
      clear e
      go_enter Try.func44, Try.ntmps44
      go_wp2
      go_ret
      exact ⟨rfl, rfl⟩
  · have e : sideB n = false := by unfold sideB; rw [decide_eq_false_iff_not]; omega
    rw [e]
    clear e
    go_enter Try.func44, Try.ntmps44
    go_wp2
    go_ret
    exact ⟨rfl, rfl⟩
theorem mkM0 (w : World) : (Instr.makeMap 54 none).run Try.prog w = .ok (.map (some w.heap.size)) (w.alloc (.map #[] 0)) := by
  simp [Instr.makeMap, asInt, asIntOf]
/-- What living leaves. -/
def LvP (w : World) (l : List Cx) (e : Ending) (w' : World) : Prop := w.grownBy w' none ∧ (if farA l then e = .returned (.tuple #[.map none, .int .i64 5]) else if mnA [] l then e = .returned (.tuple #[.map none, .int .i64 6]) else ∃ b, e = .returned (.tuple #[.map (some b), .int .i64 0]) ∧ Mp w' b l ∧ w.heap.size ≤ b)
theorem any_far {l : List Cx} {k : Nat} (hk : k < l.length) (h : farC l[k] = true) : farA l = true := List.any_eq_true.2 ⟨_, List.getElem_mem hk, h⟩
set_option maxHeartbeats 4000000 in
theorem livingC (sp : Option Addr) (cap : Nat) (l : List Cx) (hl : l.length < 1099511627776) (hok : ∀ c ∈ l, CxOk c) (w : World) (h : Ce w sp l) : Calls Try.prog 43 #[.slice sp l.length cap] w (LvP w l) := by
  have H : Hid (Ce w sp l) := h
  have HO : Hid (∀ c ∈ l, CxOk c) := hok
  clear h hok
  go_enter Try.func43, Try.ntmps43
  go_wp2
  go_loopw [14] (fun v wr => ∃ k : Nat, k ≤ l.length ∧ v = .int .i64 (k : Nat) ∧ w.grownBy wr none ∧ Hid (farA (l.take k) = false)) (fun v _ => l.length - (intOf v).toNat)
  case atStart => exact ⟨0, Nat.zero_le _, rfl, World.grownBy.refl _ _, rfl⟩
  case round =>
    obtain ⟨k, hk, rfl, hg, HF⟩ := hrel
    by_cases hlt : k < l.length
    · have hlt' : (k : Int) < (l.length : Int) := by omega
      have OKc := HO.out _ (List.getElem_mem hlt)
      obtain ⟨q, o, rfl, c0, c1, c2⟩ := (H.out.kept hg (by simp)) k hlt
      obtain ⟨c, hc⟩ : ∃ c, l[k] = c := ⟨_, rfl⟩
      rw [hc] at c0 c1 c2 OKc
      have HC : Hid (l[k] = c) := hc
      clear hc
      obtain ⟨x, y, st⟩ := c
      obtain ⟨V, hV, szV, gV, BV⟩ := boxn wr #[.int .i64 x, .int .i64 y, .int .u8 (st : Nat)] 33
      have d0 := BV.cell 0 (v := .int .i64 x) rfl
      have d1 := BV.cell 1 (v := .int .i64 y) rfl
      have d2 := BV.cell 2 (v := .int .u8 (st : Nat)) rfl
      have hw1 : IntKind.i64.wrap ((k : Int) + 1) = (k : Int) + 1 := by rw [IntKind.wrap_i64]; omega
      have HN : Hid (farC (x, y, st) = false → farA (l.take (k + 1)) = false) := fun hh => by rw [take_succ l k hlt, farA_snoc, HF.out, HC.out, hh]; rfl
      have HY : Hid (farC (x, y, st) = true → farA l = true) := fun hh => any_far hlt (by rw [HC.out]; exact hh)
      by_cases h0 : st = 0
      · have n0 : ((st : Int) != 0) = false := by simp; omega
        have HN2 : Hid (farA (l.take (k + 1)) = false) := HN.out (by unfold farC; rw [decide_eq_false (show ¬ (x, y, st).2.2 ≠ 0 from fun h => h h0)]; rfl)
        clear h0
        go_wp2
        go_roundw
        case rel => exact ⟨k + 1, hlt, by go_num, gb_trans hg gV, HN2⟩
        case measure => simp [intOf]; omega
      · have n0 : ((st : Int) != 0) = true := by simp; omega
        cases hx : farB x with
        | true =>
          have hfa : Hid (farA l = true) := HY.out (by unfold farC; rw [decide_eq_true h0, hx]; rfl)
          go_wp2_with (go_at_call 45; refine (isFarC _ _).mono ?_; rintro e w8 ⟨rfl, hw8⟩; subst w8; rw [hx])
          go_ret2
          unfold LvP
          rw [hfa.out]
          exact ⟨gb_trans hg gV, rfl⟩
        | false =>
          cases hy : farB y with
          | true =>
            have hfa : Hid (farA l = true) := HY.out (by unfold farC; rw [decide_eq_true h0, hx, hy]; rfl)
            go_wp2_with (first | (go_at_call 45; (fail_if_success (guard_hyp mk)); refine (isFarC _ _).mono ?_; rintro e w8 ⟨rfl, hw8⟩; subst w8; rw [hx]; have mk : True := trivial) | (go_at_call 45; guard_hyp mk; refine (isFarC _ _).mono ?_; rintro e w8 ⟨rfl, hw8⟩; subst w8; rw [hy]))
            go_ret2
            unfold LvP
            rw [hfa.out]
            exact ⟨gb_trans hg gV, rfl⟩
          | false =>
            have HN2 : Hid (farA (l.take (k + 1)) = false) := HN.out (by unfold farC; rw [hx, hy]; simp)
            go_wp2_with (first | (go_at_call 45; (fail_if_success (guard_hyp mk)); refine (isFarC _ _).mono ?_; rintro e w8 ⟨rfl, hw8⟩; subst w8; rw [hx]; have mk : True := trivial) | (go_at_call 45; guard_hyp mk; refine (isFarC _ _).mono ?_; rintro e w8 ⟨rfl, hw8⟩; subst w8; rw [hy]))
            go_roundw
            case rel => exact ⟨k + 1, hlt, by go_num, gb_trans hg gV, HN2⟩
            case measure => simp [intOf]; omega
    · have hkn : k = l.length := by omega
      subst hkn
      have hlt' : ¬ (l.length : Int) < (l.length : Int) := by omega
      have HFA : Hid (farA l = false) := by have := HF.out; rw [List.take_length] at this; exact this
      have hmk := mkM0 wr
      have M1 := Mp.made wr
      obtain ⟨W1, hW1⟩ : ∃ W1, wr.alloc (.map #[] 0) = W1 := ⟨_, rfl⟩
      have g1 : wr.grownBy W1 none := (by rw [← hW1]; exact World.grownBy_alloc _ _ _)
      have G1 := gb_trans hg g1
      have hb0 := hg.size
      rw [hW1] at M1 hmk
      obtain ⟨wr0, hwr0⟩ : ∃ n, wr.heap.size = n := ⟨_, rfl⟩
      rw [hwr0] at M1 hmk hb0
      have hB0 : Hid (w.heap.size ≤ wr0) := hb0
      clear hW1 HF hwr0 hb0
      go_wp2
      clear hmk
      go_loopw [35] (fun v w2 => ∃ k : Nat, k ≤ l.length ∧ v = .int .i64 (k : Nat) ∧ w.grownBy w2 none ∧ Mp w2 wr0 (l.take k) ∧ Hid (mnA [] l = mnA (l.take k) (l.drop k))) (fun v _ => l.length - (intOf v).toNat)
      case atStart => exact ⟨0, Nat.zero_le _, rfl, G1, M1, rfl⟩
      case round =>
        obtain ⟨k, hk, rfl, hg, MK, HM⟩ := hrel
        clear G1 g1 M1
        by_cases hlt : k < l.length
        · have hlt' : (k : Int) < (l.length : Int) := by omega
          have OKc := HO.out _ (List.getElem_mem hlt)
          obtain ⟨q, o, rfl, c0, c1, c2⟩ := (H.out.kept hg (by simp)) k hlt
          obtain ⟨c, hc⟩ : ∃ c, l[k] = c := ⟨_, rfl⟩
          rw [hc] at c0 c1 c2 OKc
          have HC : Hid (l[k] = c) := hc
          clear hc
          have HT : Hid (l.take (k + 1) = l.take k ++ [c]) := by unfold Hid; rw [take_succ l k hlt, HC.out]
          have HS : Hid (mnA [] l = ((decide (c.2.2 ≠ 0) && decide (stA (l.take k) c.1 c.2.1 ≠ 0)) || mnA (l.take (k + 1)) (l.drop (k + 1)))) := by
            unfold Hid; rw [HM.out, mn_step l k hlt, HC.out]
          have HL : Hid ((l.take k).length = k) := by unfold Hid; rw [List.length_take]; omega
          clear HM
          obtain ⟨x, y, st⟩ := c
          obtain ⟨V, hV, szV, gV, BV⟩ := boxn wr #[.int .i64 x, .int .i64 y, .int .u8 (st : Nat)] 33
          have d0 := BV.cell 0 (v := .int .i64 x) rfl
          have d1 := BV.cell 1 (v := .int .i64 y) rfl
          have d2 := BV.cell 2 (v := .int .u8 (st : Nat)) rfl
          have hw1 : IntKind.i64.wrap ((k : Int) + 1) = (k : Int) + 1 := by rw [IntKind.wrap_i64]; omega
          have MV := MK.kept gV (by simp)
          have GV := gb_trans hg gV
          by_cases h0 : st = 0
          · have n0 : ((st : Int) == 0) = true := by simp; omega
            have HN2 : Hid (mnA [] l = mnA (l.take (k + 1)) (l.drop (k + 1))) := by
              unfold Hid; rw [HS.out]; show (decide (st ≠ 0) && _ || _) = _; rw [decide_eq_false (by omega)]; rfl
            have M2 : Mp V wr0 (l.take (k + 1)) := by rw [HT.out]; exact MV.skip h0
            clear h0
            go_wp2
            go_roundw
            case rel => exact ⟨k + 1, hlt, by go_num, GV, M2, HN2⟩
            case measure => simp [intOf]; omega
          · have n0 : ((st : Int) == 0) = false := by simp; omega
            obtain ⟨D, ownD, hD⟩ := MV
            obtain ⟨V3, hV3, szV3, g3, B3⟩ := boxn V #[.int .i64 x, .int .i64 y] 76
            have e0 := B3.cell 0 (v := .int .i64 x) rfl
            have e1 := B3.cell 1 (v := .int .i64 y) rfl
            have f2 := (BV.kept g3 (by simp)).cell 2 (v := .int .u8 (st : Nat)) rfl
            have own3 := ownD.kept g3 (by simp)
            have G3 := gb_trans GV g3
            have KY : keyOf Try.prog 76 (.agg #[.int .i64 x, .int .i64 y]) = some (pk (x, y)) := OKc.1.key
            have HH := hD (x, y) OKc.1
            have HH : Hid (Maps.has D (pk (x, y)) = decide (stA (l.take k) x y ≠ 0) ∧ D.atKey (pk (x, y)) z8 = .lit (.int .u8 (stA (l.take k) x y : Nat))) := HH
            have HD : Hid (∀ p, PtOk p → Maps.has D (pk p) = decide (stA (l.take k) p.1 p.2 ≠ 0) ∧ D.atKey (pk p) z8 = .lit (.int .u8 (stA (l.take k) p.1 p.2 : Nat))) := hD
            have HO3 : Hid (V3.ownsMap Try.prog 76 (plainElem Try.prog 5) wr0 (l.take k).length D) := own3
            have hb3 := HO3.out.lt
            clear hD ownD own3
            have own3 := HO3.out
            rw [HL.out] at own3
            by_cases h1 : stA (l.take k) x y = 0
            · have hh : Hid (Maps.has D (pk (x, y)) = false) := by unfold Hid; rw [HH.out.1]; exact decide_eq_false (by omega)
              have H1 : Hid (stA (l.take k) x y = 0) := h1
              have HN2 : Hid (mnA [] l = mnA (l.take (k + 1)) (l.drop (k + 1))) := by
                unfold Hid; rw [HS.out]; show (decide (st ≠ 0) && decide (stA (l.take k) x y ≠ 0) || _) = _; rw [decide_eq_false (show ¬ stA (l.take k) x y ≠ 0 by omega), Bool.and_false]; rfl
              have OK8 := wf8 OKc.2
              have OKh : Hid (CxOk (x, y, st)) := OKc
              clear h1
              go_wp2_with (first | (at_lookup; refine wpList_lookup_own_ok_int _ rfl _ _ 54 rfl 76 5 .u8 lawK underM underU (zeroU _) _ _ D rfl own3 _ _ rfl KY ?_; intro c9 hat hwc; rw [hh.out]; clear hat hwc) | (at_mapUpdate; refine wpList_mapUpdate_own _ rfl _ _ _ 54 rfl 76 5 lawK underM _ _ _ _ rfl own3 (by unfold maxLen; omega) _ _ _ rfl rfl KY _ [] (plainElem_int underU OK8) ?_; intro w4 own4 g4; refine Hid.out ?_) | go_in)
              refine Lib.hid ?_
              have M4 : Mp w4 wr0 (l.take (k + 1)) := by
                rw [HT.out]
                exact put_is OKh.out h0 H1.out HO3.out.isMap HD.out (by rw [HL.out]; exact own4)
              have G4 : w.grownBy w4 none := G3.andThen g4 (fun j hj => .inl (by injection hj with hj; have := hB0.out; omega))
              clear own4 g4 own3
              go_wp2
              go_roundw
              case rel => exact ⟨k + 1, hlt, by go_num, G4, M4, HN2⟩
              case measure => simp [intOf]; omega
            · have hh : Hid (Maps.has D (pk (x, y)) = true) := by unfold Hid; rw [HH.out.1]; exact decide_eq_true h1
              have HN2 : Hid (mnA [] l = true) := by
                unfold Hid; rw [HS.out]; show (decide (st ≠ 0) && decide (stA (l.take k) x y ≠ 0) || _) = _; rw [decide_eq_true h0, decide_eq_true h1]; rfl
              clear h1
              go_wp2_with (first | (at_lookup; refine wpList_lookup_own_ok_int _ rfl _ _ 54 rfl 76 5 .u8 lawK underM underU (zeroU _) _ _ D rfl own3 _ _ rfl KY ?_; intro c9 hat hwc; rw [hh.out]; clear hat hwc) | go_in)
              go_ret2
              unfold LvP
              rw [HFA.out, HN2.out]
              exact ⟨G3, rfl⟩
        · have hkn : k = l.length := by omega
          subst hkn
          have hlt' : ¬ (l.length : Int) < (l.length : Int) := by omega
          have HN2 : Hid (mnA [] l = false) := by unfold Hid; rw [HM.out, List.drop_length]; rfl
          rw [List.take_length] at MK
          go_wp2
          go_ret2
          unfold LvP
          rw [HFA.out, HN2.out]
          exact ⟨hg, wr0, rfl, MK, hB0.out⟩
end Go.Proofs.Ytjacoifhjfipaaa
