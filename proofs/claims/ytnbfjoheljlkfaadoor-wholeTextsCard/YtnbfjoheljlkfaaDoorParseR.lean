/- What the document's own Parse answers at every text. -/
import Derived.Test.YtnbfjoheljlkfaaDoorTextR
namespace Go.Proofs.YtnbfjoheljlkfaaDoor
open Go.RowKit
set_option linter.unusedVariables false

theorem Tx.get_drop {s : ByteArray} {i j : Nat} (h : j < s.size) (hi : i ≤ j) : (s.data.toList.drop i)[j - i]? = some s[j] := by
  rw [List.getElem?_drop, show i + (j - i) = j from by omega, Array.getElem?_toList]
  exact Array.getElem?_eq_getElem (xs := s.data) h
theorem Tx.num_no {l d : List UInt8} (hd : d = Tx.dg l) (h : Tx.allD d = false) : Tx.numB l = false := by
  unfold Tx.numB; rw [← hd, h]; rfl
theorem Tx.num_yes {l : List UInt8} (h : Tx.allD (Tx.dg l) = true) (hne : Tx.dg l ≠ []) : Tx.numB l = true := by
  unfold Tx.numB; rw [h]; simpa using hne
theorem Tx.dig_at {l : List UInt8} {k : Nat} {c : UInt8} (h : Tx.allD l = true) (hc : l[k]? = some c) : 48 ≤ c.toNat ∧ c.toNat ≤ 57 := by
  unfold Tx.allD at h
  rw [List.all_eq_true] at h
  exact (Tx.isD_iff c).1 (h c (List.mem_of_getElem? hc))
theorem Tx.vl_take (l : List UInt8) (k : Nat) : Tx.vl 0 (l.take k) ≤ Tx.vl 0 l := by
  have h : Tx.vl 0 l = Tx.vl (Tx.vl 0 (l.take k)) (l.drop k) := by
    unfold Tx.vl
    rw [← List.foldl_append, List.take_append_drop]
  rw [h]
  exact Tx.vl_ge _ _
theorem Tx.parse_neg {l : List UInt8} (hl : l.length ≤ 1048576) (hn : Tx.numB l = true) (hs : l.head? = some 45) :
    (((Tx.vl 0 (Tx.dg l) : Int)) ≤ 9223372036854775808 → Nm.sv (Tx.vl 0 (Tx.dg l) : Int) true = Tx.parseV l ∧ 0 = Tx.parseE l) ∧ (¬ (Tx.vl 0 (Tx.dg l) : Int) ≤ 9223372036854775808 → 0 = Tx.parseV l ∧ 11 = Tx.parseE l) := by
  rcases Tx.num_cases hn with ⟨r, rfl, h1, h2⟩ | ⟨c, r, rfl, h1, h2, h3⟩
  · have ha := Tx.atoi_neg h1 h2
    rw [Tx.dg_minus]
    refine ⟨fun hv => ?_, fun hv => ?_⟩
    · rw [if_pos (by omega)] at ha
      have := Tx.parse_ok hl hn ha
      exact ⟨by rw [← this.1]; simp [Nm.sv], this.2⟩
    · rw [if_neg (by omega)] at ha
      exact Tx.parse_range hl hn ha
  · simp only [List.head?_cons, Option.some.injEq] at hs
    rw [hs] at h1
    exact absurd rfl h1
theorem Tx.parse_pos {l : List UInt8} (hl : l.length ≤ 1048576) (hn : Tx.numB l = true) (hs : l.head? ≠ some 45) :
    (((Tx.vl 0 (Tx.dg l) : Int)) ≤ 9223372036854775807 → Nm.sv (Tx.vl 0 (Tx.dg l) : Int) false = Tx.parseV l ∧ 0 = Tx.parseE l) ∧ (¬ (Tx.vl 0 (Tx.dg l) : Int) ≤ 9223372036854775807 → 0 = Tx.parseV l ∧ 11 = Tx.parseE l) := by
  rcases Tx.num_cases hn with ⟨r, rfl, h1, h2⟩ | ⟨c, r, rfl, h1, h2, h3⟩
  · exact absurd List.head?_cons hs
  · have ha := Tx.atoi_pos h1 h2 h3
    rw [Tx.dg_else hs]
    refine ⟨fun hv => ?_, fun hv => ?_⟩
    · rw [if_pos (by omega)] at ha
      have := Tx.parse_ok hl hn ha
      exact ⟨by rw [← this.1]; simp [Nm.sv], this.2⟩
    · rw [if_neg (by omega)] at ha
      exact Tx.parse_range hl hn ha
theorem Tx.parse_big {l : List UInt8} (hl : l.length ≤ 1048576) (hn : Tx.numB l = true) (hb : 9223372036854775808 < (Tx.vl 0 (Tx.dg l) : Int)) : 0 = Tx.parseV l ∧ 11 = Tx.parseE l := by
  by_cases hs : l.head? = some 45
  · exact (Tx.parse_neg hl hn hs).2 (by omega)
  · exact (Tx.parse_pos hl hn hs).2 (by omega)
theorem Tx.dg_tail {l : List UInt8} (h : l.head? = some 45) : Tx.dg l = l.drop 1 := by
  cases l with
  | nil => simp at h
  | cons c r =>
    simp only [List.head?_cons, Option.some.injEq] at h
    subst h
    rw [Tx.dg_minus]; rfl

set_option maxHeartbeats 4000000 in
theorem parseRef (s : ByteArray) (w : World) (hs : s.size ≤ maxLen) :
    Calls Tryd.prog 9 #[.string s] w fun e w' => e = .returned (.tuple #[.int .i64 (Tx.parseV s.data.toList), .int .i64 (Tx.parseE s.data.toList)]) ∧ w' = w := by
  unfold maxLen at hs
  have hl : s.data.toList.length = s.size := Array.length_toList
  by_cases c1 : 1048576 < s.size
  · have HV : Hid (0 = Tx.parseV s.data.toList) := (Tx.parse_long (by omega)).1
    have HE : Hid (3 = Tx.parseE s.data.toList) := (Tx.parse_long (by omega)).2
    have c2 : 1048576 < (s.size : Int) := by omega
    clear hl
    go_enter Tryd.func9, Tryd.ntmps9
    go_wp2
    go_ret2
    exact ⟨ret2i HV.out HE.out, rfl⟩
  have c3 : s.size ≤ 1048576 := by omega
  have hlen : Hid (s.data.toList.length ≤ 1048576) := by unfold Hid; omega
  by_cases z : s.size = 0
  · have hnil : s.data.toList = [] := List.length_eq_zero_iff.1 (by omega)
    have HN : Hid (Tx.numB s.data.toList = false) := by unfold Hid; rw [hnil]; rfl
    have HV : Hid (0 = Tx.parseV s.data.toList) := (Tx.parse_not hlen.out HN.out).1
    have HE : Hid (10 = Tx.parseE s.data.toList) := (Tx.parse_not hlen.out HN.out).2
    have z2 : ((s.size : Int)) ≤ 0 := by omega
    clear hl hnil c1
    go_enter Tryd.func9, Tryd.ntmps9
    go_wp2
    go_ret2
    exact ⟨ret2i HV.out HE.out, rfl⟩
  have hs0 : 0 < s.size := by omega
  by_cases c0 : ((s[0]).toNat : Int) = 45
  · have c4 : (((s[0]).toNat : Int) == 45) = true := by simpa using c0
    have hsg : Hid (s.data.toList.head? = some 45) := Tx.head_is hs0 (by omega)
    have hdg : Hid (s.data.toList.drop 1 = Tx.dg s.data.toList) := (Tx.dg_tail hsg.out).symm
    by_cases o1 : s.size = 1
    · have HN : Hid (Tx.numB s.data.toList = false) := by
        unfold Hid Tx.numB
        rw [← hdg.out, List.drop_of_length_le (by omega)]; rfl
      have HV : Hid (0 = Tx.parseV s.data.toList) := (Tx.parse_not hlen.out HN.out).1
      have HE : Hid (10 = Tx.parseE s.data.toList) := (Tx.parse_not hlen.out HN.out).2
      have o2 : ((1 : Int) == (s.size : Int)) = true := by simp [o1]
      clear hl c1 c0 z o1
      go_enter Tryd.func9, Tryd.ntmps9
      go_wp2
      go_ret2
      exact ⟨ret2i HV.out HE.out, rfl⟩
    · have o2 : ((1 : Int) == (s.size : Int)) = false := by simpa using (show (1 : Int) ≠ (s.size : Int) by omega)
      have o3 : 2 ≤ s.size := by omega
      have hne : Hid (Tx.dg s.data.toList ≠ []) := by
        unfold Hid
        rw [← hdg.out]
        intro h
        have := congrArg List.length h
        rw [List.length_drop] at this
        simp at this; omega
      clear hl c1 c0 z o1
      go_enter Tryd.func9, Tryd.ntmps9
      go_wp2
      go_loop [5] (fun k => ∃ j : Nat, 1 ≤ j ∧ j ≤ s.size ∧ k = .int .i64 j ∧ Hid (Tx.allD ((s.data.toList.drop 1).take (j - 1)) = true)) (fun k => s.size - (intOf k).toNat)
      case atStart => exact ⟨1, Nat.le_refl _, by omega, rfl, by unfold Hid; simp [Tx.allD]⟩
      case round =>
        obtain ⟨j, j1, j2, rfl, hd⟩ := hrel
        have hjs : (j : Int) ≤ 1048576 := by omega
        by_cases hlt : j < s.size
        · have hget : Hid ((s.data.toList.drop 1)[j - 1]? = some s[j]) := Tx.get_drop hlt j1
          by_cases c1 : ((s[j]).toNat : Int) < 48
          · have HN : Hid (Tx.numB s.data.toList = false) := Tx.num_no hdg.out (Tx.allD_no hget.out (by omega))
            have HV : Hid (0 = Tx.parseV s.data.toList) := (Tx.parse_not hlen.out HN.out).1
            have HE : Hid (10 = Tx.parseE s.data.toList) := (Tx.parse_not hlen.out HN.out).2
            go_wp2
            go_ret2
            exact ⟨ret2i HV.out HE.out, rfl⟩
          · by_cases c2 : 57 < ((s[j]).toNat : Int)
            · have HN : Hid (Tx.numB s.data.toList = false) := Tx.num_no hdg.out (Tx.allD_no hget.out (by omega))
              have HV : Hid (0 = Tx.parseV s.data.toList) := (Tx.parse_not hlen.out HN.out).1
              have HE : Hid (10 = Tx.parseE s.data.toList) := (Tx.parse_not hlen.out HN.out).2
              go_wp2
              go_ret2
              exact ⟨ret2i HV.out HE.out, rfl⟩
            · have HS : Hid (Tx.allD ((s.data.toList.drop 1).take (j + 1 - 1)) = true) := by
                unfold Hid
                obtain ⟨g1, g2⟩ := List.getElem?_eq_some_iff.1 hget.out
                rw [show j + 1 - 1 = (j - 1) + 1 from by omega, List.take_succ_eq_append_getElem g1, g2]
                exact Tx.allD_snoc _ _ hd.out (by omega) (by omega)
              go_wp2
              go_round
              case rel => exact ⟨j + 1, by omega, by omega, by go_num, HS⟩
              case measure => simp [intOf]; omega
        · have hA : Hid (Tx.allD (Tx.dg s.data.toList) = true) := by
            have := hd.out
            have hl : s.data.toList.length = s.size := Array.length_toList
            rw [List.take_of_length_le (by rw [List.length_drop]; omega)] at this
            rw [hdg.out] at this
            exact this
          have HN : Hid (Tx.numB s.data.toList = true) := Tx.num_yes hA.out hne.out
          have hge0 : ¬ (j : Int) < (s.size : Int) := by omega
          clear hlt hd
          go_wp2
          go_loop [6, 7] (fun x k => ∃ (j : Nat) (a : Int), 1 ≤ j ∧ j ≤ s.size ∧ k = .int .i64 j ∧ x = .int .u64 a ∧ 0 ≤ a ∧ a ≤ 11529215046068469769 ∧ Hid (a = (Tx.vl 0 ((s.data.toList.drop 1).take (j - 1)) : Int))) (fun _ k => s.size - (intOf k).toNat)
          case atStart => exact ⟨1, 0, Nat.le_refl _, by omega, rfl, rfl, by omega, by omega, by unfold Hid; simp [Tx.vl]⟩
          case round =>
            obtain ⟨j, a, j1, j2, rfl, rfl, a1, a2, ha⟩ := hrel
            have hjs : (j : Int) ≤ 1048576 := by omega
            by_cases hlt : j < s.size
            · have hget : Hid ((s.data.toList.drop 1)[j - 1]? = some s[j]) := Tx.get_drop hlt j1
              have hdig : 48 ≤ (s[j]).toNat ∧ (s[j]).toNat ≤ 57 := by
                have := hget.out
                rw [hdg.out] at this
                exact Tx.dig_at hA.out this
              have g1 : (48 : Int) ≤ ((s[j]).toNat : Int) := by omega
              have g2 : ((s[j]).toNat : Int) ≤ 57 := by omega
              have HX : Hid ((Tx.vl 0 ((s.data.toList.drop 1).take (j + 1 - 1)) : Int) = a * 10 + ((s[j]).toNat - 48)) := by
                unfold Hid
                obtain ⟨q1, q2⟩ := List.getElem?_eq_some_iff.1 hget.out
                rw [show j + 1 - 1 = (j - 1) + 1 from by omega, List.take_succ_eq_append_getElem q1, q2, Tx.vl_snoc, ha.out]
                omega
              have HY : Hid ((Tx.vl 0 ((s.data.toList.drop 1).take (j + 1 - 1)) : Int) ≤ Tx.vl 0 (Tx.dg s.data.toList)) := by
                unfold Hid
                rw [← hdg.out]
                exact Int.ofNat_le.2 (Tx.vl_take _ _)
              clear hdig
              by_cases c1 : 1152921504606846976 < a
              · have HB : Hid (9223372036854775808 < (Tx.vl 0 (Tx.dg s.data.toList) : Int)) := by
                  have h1 := HX.out
                  have h2 := HY.out
                  unfold Hid
                  omega
                have HV : Hid (0 = Tx.parseV s.data.toList) := (Tx.parse_big hlen.out HN.out HB.out).1
                have HE : Hid (11 = Tx.parseE s.data.toList) := (Tx.parse_big hlen.out HN.out HB.out).2
                go_wp2
                go_ret2
                exact ⟨ret2i HV.out HE.out, rfl⟩
              · have c2 : a ≤ 1152921504606846976 := by omega
                clear c1
                go_wp2
                go_round
                case rel => exact ⟨j + 1, _, by omega, by omega, by go_num, rfl, by omega, by omega, by have := HX.out; unfold Hid; omega⟩
                case measure => simp [intOf]; omega
            · have hge : ¬ (j : Int) < (s.size : Int) := by omega
              have HX : Hid (a = (Tx.vl 0 (Tx.dg s.data.toList) : Int)) := by
                have := ha.out
                have hl : s.data.toList.length = s.size := Array.length_toList
                rw [List.take_of_length_le (by rw [List.length_drop]; omega), hdg.out] at this
                exact this
              have hp := Tx.parse_neg hlen.out HN.out hsg.out
              rw [← HX.out] at hp
              by_cases r : -9223372036854775808 ≤ Nm.sv a true ∧ Nm.sv a true ≤ 9223372036854775807
              · have f1 := Nm.fitZ_yes r.1 r.2
                have f2 := Nm.fitB_yes r.1 r.2
                have HV : Hid (Nm.sv a true = Tx.parseV s.data.toList) := (hp.1 (by unfold Nm.sv at r; simp at r; omega)).1
                have HE : Hid (0 = Tx.parseE s.data.toList) := (hp.1 (by unfold Nm.sv at r; simp at r; omega)).2
                clear hp r hlt
                go_wp2_with (go_at_call 20; refine (signedRef _ _ _ (by omega) (by omega)).mono ?_; rintro e w1 ⟨rfl, rfl⟩)
                go_ret2
                exact ⟨ret2i HV.out HE.out, rfl⟩
              · have f2 := Nm.fitB_no r
                have HV : Hid (0 = Tx.parseV s.data.toList) := (hp.2 (by unfold Nm.sv at r; simp at r; omega)).1
                have HE : Hid (11 = Tx.parseE s.data.toList) := (hp.2 (by unfold Nm.sv at r; simp at r; omega)).2
                clear hp r hlt
                go_wp2_with (go_at_call 20; refine (signedRef _ _ _ (by omega) (by omega)).mono ?_; rintro e w1 ⟨rfl, rfl⟩)
                go_ret2
                exact ⟨ret2i HV.out HE.out, rfl⟩
  · have c4 : (((s[0]).toNat : Int) == 45) = false := by simpa using c0
    have hsg : Hid (s.data.toList.head? ≠ some 45) := Tx.head_not hs0 (by omega)
    have hdg : Hid (s.data.toList.drop 0 = Tx.dg s.data.toList) := by unfold Hid; rw [List.drop_zero, Tx.dg_else hsg.out]
    have o2 : ((0 : Int) == (s.size : Int)) = false := by simpa using (show (0 : Int) ≠ (s.size : Int) by omega)
    have hne : Hid (Tx.dg s.data.toList ≠ []) := by
      unfold Hid
      rw [← hdg.out, List.drop_zero]
      intro h
      have := congrArg List.length h
      rw [List.length_nil] at this; omega
    clear hl c1 c0 z
    go_enter Tryd.func9, Tryd.ntmps9
    go_wp2
    go_loop [5] (fun k => ∃ j : Nat, 0 ≤ j ∧ j ≤ s.size ∧ k = .int .i64 j ∧ Hid (Tx.allD ((s.data.toList.drop 0).take (j - 0)) = true)) (fun k => s.size - (intOf k).toNat)
    case atStart => exact ⟨0, Nat.le_refl _, by omega, rfl, by unfold Hid; simp [Tx.allD]⟩
    case round =>
      obtain ⟨j, j1, j2, rfl, hd⟩ := hrel
      have hjs : (j : Int) ≤ 1048576 := by omega
      by_cases hlt : j < s.size
      · have hget : Hid ((s.data.toList.drop 0)[j - 0]? = some s[j]) := Tx.get_drop hlt j1
        by_cases c1 : ((s[j]).toNat : Int) < 48
        · have HN : Hid (Tx.numB s.data.toList = false) := Tx.num_no hdg.out (Tx.allD_no hget.out (by omega))
          have HV : Hid (0 = Tx.parseV s.data.toList) := (Tx.parse_not hlen.out HN.out).1
          have HE : Hid (10 = Tx.parseE s.data.toList) := (Tx.parse_not hlen.out HN.out).2
          go_wp2
          go_ret2
          exact ⟨ret2i HV.out HE.out, rfl⟩
        · by_cases c2 : 57 < ((s[j]).toNat : Int)
          · have HN : Hid (Tx.numB s.data.toList = false) := Tx.num_no hdg.out (Tx.allD_no hget.out (by omega))
            have HV : Hid (0 = Tx.parseV s.data.toList) := (Tx.parse_not hlen.out HN.out).1
            have HE : Hid (10 = Tx.parseE s.data.toList) := (Tx.parse_not hlen.out HN.out).2
            go_wp2
            go_ret2
            exact ⟨ret2i HV.out HE.out, rfl⟩
          · have HS : Hid (Tx.allD ((s.data.toList.drop 0).take (j + 1 - 0)) = true) := by
              unfold Hid
              obtain ⟨g1, g2⟩ := List.getElem?_eq_some_iff.1 hget.out
              rw [show j + 1 - 0 = (j - 0) + 1 from by omega, List.take_succ_eq_append_getElem g1, g2]
              exact Tx.allD_snoc _ _ hd.out (by omega) (by omega)
            go_wp2
            go_round
            case rel => exact ⟨j + 1, by omega, by omega, by go_num, HS⟩
            case measure => simp [intOf]; omega
      · have hA : Hid (Tx.allD (Tx.dg s.data.toList) = true) := by
          have := hd.out
          have hl : s.data.toList.length = s.size := Array.length_toList
          rw [List.take_of_length_le (by rw [List.length_drop]; omega)] at this
          rw [hdg.out] at this
          exact this
        have HN : Hid (Tx.numB s.data.toList = true) := Tx.num_yes hA.out hne.out
        have hge0 : ¬ (j : Int) < (s.size : Int) := by omega
        clear hlt hd
        go_wp2
        go_loop [6, 7] (fun x k => ∃ (j : Nat) (a : Int), 0 ≤ j ∧ j ≤ s.size ∧ k = .int .i64 j ∧ x = .int .u64 a ∧ 0 ≤ a ∧ a ≤ 11529215046068469769 ∧ Hid (a = (Tx.vl 0 ((s.data.toList.drop 0).take (j - 0)) : Int))) (fun _ k => s.size - (intOf k).toNat)
        case atStart => exact ⟨0, 0, Nat.le_refl _, by omega, rfl, rfl, by omega, by omega, by unfold Hid; simp [Tx.vl]⟩
        case round =>
          obtain ⟨j, a, j1, j2, rfl, rfl, a1, a2, ha⟩ := hrel
          have hjs : (j : Int) ≤ 1048576 := by omega
          by_cases hlt : j < s.size
          · have hget : Hid ((s.data.toList.drop 0)[j - 0]? = some s[j]) := Tx.get_drop hlt j1
            have hdig : 48 ≤ (s[j]).toNat ∧ (s[j]).toNat ≤ 57 := by
              have := hget.out
              rw [hdg.out] at this
              exact Tx.dig_at hA.out this
            have g1 : (48 : Int) ≤ ((s[j]).toNat : Int) := by omega
            have g2 : ((s[j]).toNat : Int) ≤ 57 := by omega
            have HX : Hid ((Tx.vl 0 ((s.data.toList.drop 0).take (j + 1 - 0)) : Int) = a * 10 + ((s[j]).toNat - 48)) := by
              unfold Hid
              obtain ⟨q1, q2⟩ := List.getElem?_eq_some_iff.1 hget.out
              rw [show j + 1 - 0 = (j - 0) + 1 from by omega, List.take_succ_eq_append_getElem q1, q2, Tx.vl_snoc, ha.out]
              omega
            have HY : Hid ((Tx.vl 0 ((s.data.toList.drop 0).take (j + 1 - 0)) : Int) ≤ Tx.vl 0 (Tx.dg s.data.toList)) := by
              unfold Hid
              rw [← hdg.out]
              exact Int.ofNat_le.2 (Tx.vl_take _ _)
            clear hdig
            by_cases c1 : 1152921504606846976 < a
            · have HB : Hid (9223372036854775808 < (Tx.vl 0 (Tx.dg s.data.toList) : Int)) := by
                have h1 := HX.out
                have h2 := HY.out
                unfold Hid
                omega
              have HV : Hid (0 = Tx.parseV s.data.toList) := (Tx.parse_big hlen.out HN.out HB.out).1
              have HE : Hid (11 = Tx.parseE s.data.toList) := (Tx.parse_big hlen.out HN.out HB.out).2
              go_wp2
              go_ret2
              exact ⟨ret2i HV.out HE.out, rfl⟩
            · have c2 : a ≤ 1152921504606846976 := by omega
              clear c1
              go_wp2
              go_round
              case rel => exact ⟨j + 1, _, by omega, by omega, by go_num, rfl, by omega, by omega, by have := HX.out; unfold Hid; omega⟩
              case measure => simp [intOf]; omega
          · have hge : ¬ (j : Int) < (s.size : Int) := by omega
            have HX : Hid (a = (Tx.vl 0 (Tx.dg s.data.toList) : Int)) := by
              have := ha.out
              have hl : s.data.toList.length = s.size := Array.length_toList
              rw [List.take_of_length_le (by rw [List.length_drop]; omega), hdg.out] at this
              exact this
            have hp := Tx.parse_pos hlen.out HN.out hsg.out
            rw [← HX.out] at hp
            by_cases r : -9223372036854775808 ≤ Nm.sv a false ∧ Nm.sv a false ≤ 9223372036854775807
            · have f1 := Nm.fitZ_yes r.1 r.2
              have f2 := Nm.fitB_yes r.1 r.2
              have HV : Hid (Nm.sv a false = Tx.parseV s.data.toList) := (hp.1 (by unfold Nm.sv at r; simp at r; omega)).1
              have HE : Hid (0 = Tx.parseE s.data.toList) := (hp.1 (by unfold Nm.sv at r; simp at r; omega)).2
              clear hp r hlt
              go_wp2_with (go_at_call 20; refine (signedRef _ _ _ (by omega) (by omega)).mono ?_; rintro e w1 ⟨rfl, rfl⟩)
              go_ret2
              exact ⟨ret2i HV.out HE.out, rfl⟩
            · have f2 := Nm.fitB_no r
              have HV : Hid (0 = Tx.parseV s.data.toList) := (hp.2 (by unfold Nm.sv at r; simp at r; omega)).1
              have HE : Hid (11 = Tx.parseE s.data.toList) := (hp.2 (by unfold Nm.sv at r; simp at r; omega)).2
              clear hp r hlt
              go_wp2_with (go_at_call 20; refine (signedRef _ _ _ (by omega) (by omega)).mono ?_; rintro e w1 ⟨rfl, rfl⟩)
              go_ret2
              exact ⟨ret2i HV.out HE.out, rfl⟩
end Go.Proofs.YtnbfjoheljlkfaaDoor
