/- The document's number and tagAt: what they answer. -/
import Derived.Test.YtimknahfgpafaaaDoorS6
import Derived.Test.YtimknahfgpafaaaDoorS11
namespace Go.Proofs.YtimknahfgpafaaaDoor
open Go.RowKit
set_option linter.unusedVariables false
set_option linter.unusedSimpArgs false

theorem ret_iib {a b c d : Int} {x y : Bool} (h1 : a = b) (h2 : c = d) (h3 : x = y) : Ending.returned (.tuple #[.int .i64 a, .int .i64 c, .bool x]) = .returned (.tuple #[.int .i64 b, .int .i64 d, .bool y]) := by rw [h1, h2, h3]
/-- The number of the longest piece from i on whose number fits. -/
def nlF : Nat → ByteArray → Nat → Nat
  | 0, _, _ => 0
  | c + 1, s, i => if nm s i (i + c + 1) ≤ 9223372036854775807 then nm s i (i + c + 1) else nlF c s i
theorem nl_yes {s : ByteArray} {i k : Nat} (hk : i ≤ k) (h : nm s i (k + 1) ≤ 9223372036854775807) : nlF (k + 1 - i) s i = nm s i (k + 1) := by
  rw [show k + 1 - i = (k - i) + 1 by omega, nlF, show i + (k - i) + 1 = k + 1 by omega, if_pos h]
theorem nl_no {s : ByteArray} {i k : Nat} (hk : i ≤ k) (h : ¬ nm s i (k + 1) ≤ 9223372036854775807) : nlF (k + 1 - i) s i = nlF (k - i) s i := by
  rw [show k + 1 - i = (k - i) + 1 by omega, nlF, show i + (k - i) + 1 = k + 1 by omega, if_neg h]
set_option maxRecDepth 100000 in
set_option maxHeartbeats 4000000 in
theorem rnumberD (s : ByteArray) (i : Nat) (w : World) (hs : s.size ≤ maxLen) (hi : i ≤ s.size) :
    Calls Tryd.prog 45 #[.string s, .int .i64 i] w fun e w' => e = .returned (.tuple #[.int .i64 (nlF (dg s i - i) s i : Nat), .int .i64 (dg s i : Nat), .bool (nvB (numV s i))]) ∧ w' = w := by
  unfold maxLen at hs
  go_enter Tryd.func45, Tryd.ntmps45
  go_wp2
  go_loopw [1, 7, 8] (fun va vn vf wr => ∃ (k : Nat) (n : Nat) (b : Bool), i ≤ k ∧ k ≤ s.size ∧ va = .int .i64 k ∧ vn = .int .i64 n ∧ vf = .bool b ∧ n ≤ 9223372036854775807 ∧ Hid (∀ j, i ≤ j → j < k → Sc.digitB (Sc.bt s j) = true) ∧ Hid (b = nvB (nm s i k)) ∧ Hid (nm s i k ≤ 9223372036854775807 → n = nm s i k) ∧ Hid (n = nlF (k - i) s i) ∧ wr = w) (fun va _ _ _ => s.size - (intOf va).toNat)
  case atStart => exact ⟨i, 0, true, Nat.le_refl _, hi, rfl, rfl, rfl, by omega, fun j h1 h2 => by omega, by unfold Hid; rw [nm_self]; rfl, fun _ => (nm_self s i).symm, by unfold Hid; rw [Nat.sub_self]; rfl, rfl⟩
  case round =>
    obtain ⟨k, n, b, hk0, hk, rfl, rfl, rfl, hn, hd, HB, HV, HL, hw⟩ := hrel
    subst wr
    by_cases hlt : k < s.size
    · have hb := Sc.bt_at hlt
      have hlt' : (k : Int) < (s.size : Int) := by omega
      have hsu := nm_succ s hk0 hlt
      cases ht : Sc.digitB (Sc.bt s k) with
      | true =>
        have HS : Hid (∀ j, i ≤ j → j < k + 1 → Sc.digitB (Sc.bt s j) = true) := fun j h1 h2 => by
          by_cases hj : j = k
          · rw [hj]; exact ht
          · exact hd j h1 (by omega)
        have hdr : 48 ≤ Sc.bt s k ∧ Sc.bt s k ≤ 57 := by have := ht; unfold Sc.digitB at this; rw [Sc.wi_iff] at this; omega
        obtain ⟨hd1, hd2⟩ := hdr
        have HSU : Hid (nm s i (k + 1) = nm s i k * 10 + (Sc.bt s k - 48)) := hsu
        clear hsu
        by_cases hov : (9223372036854775807 - (Sc.bt s k - 48)) / 10 < n
        · have HO : (9223372036854775807 - ((Sc.bt s k : Int) - 48)) / 10 < (n : Int) := by omega
          have HB' : Hid (false = nvB (nm s i (k + 1))) := by
            unfold Hid nvB
            have h1 := HSU.out
            rw [decide_eq_false]
            intro h2
            have h3 : nm s i k ≤ 9223372036854775807 := by omega
            have h4 := HV.out h3
            omega
          have HV' : Hid (nm s i (k + 1) ≤ 9223372036854775807 → n = nm s i (k + 1)) := fun h2 => by
            have h1 := HB'.out
            unfold nvB at h1
            rw [decide_eq_true h2] at h1; cases h1
          have HL' : Hid (n = nlF (k + 1 - i) s i) := by
            unfold Hid
            rw [nl_no hk0 (fun h2 => by have h1 := HB'.out; unfold nvB at h1; rw [decide_eq_true h2] at h1; cases h1)]
            exact HL.out
          go_wp2_with (go_at_call 44; refine (rdigitC _ _).mono ?_; rintro e w' ⟨rfl, rfl⟩)
          go_roundw
          case rel => exact ⟨k + 1, n, false, by omega, by omega, by go_num, rfl, rfl, hn, HS, HB', HV', HL', by first | rfl | trivial⟩
          case measure => simp [intOf]; omega
        · have HO : ¬ (9223372036854775807 - ((Sc.bt s k : Int) - 48)) / 10 < (n : Int) := by omega
          cases b with
          | true =>
            have h0 : nm s i k ≤ 9223372036854775807 := by
              have h1 := HB.out
              unfold nvB at h1
              exact of_decide_eq_true h1.symm
            have h4 := HV.out h0
            have hw1 : IntKind.i64.wrap ((n : Int) * 10) = (n : Int) * 10 := by rw [IntKind.wrap_i64]; omega
            have hw2 : IntKind.i64.wrap ((n : Int) * 10 + ((Sc.bt s k : Int) - 48)) = ((n * 10 + (Sc.bt s k - 48) : Nat) : Int) := by rw [IntKind.wrap_i64]; omega
            have HB' : Hid (true = nvB (nm s i (k + 1))) := by
              unfold Hid nvB
              have h1 := HSU.out
              rw [decide_eq_true]
              omega
            have HV' : Hid (nm s i (k + 1) ≤ 9223372036854775807 → n * 10 + (Sc.bt s k - 48) = nm s i (k + 1)) := fun _ => by rw [HSU.out, h4]
            have hn' : n * 10 + (Sc.bt s k - 48) ≤ 9223372036854775807 := by omega
            have HL' : Hid (n * 10 + (Sc.bt s k - 48) = nlF (k + 1 - i) s i) := by
              unfold Hid
              have h1 := HSU.out
              rw [nl_yes hk0 (by omega), HSU.out, h4]
            clear h4 h0
            go_wp2_with (go_at_call 44; refine (rdigitC _ _).mono ?_; rintro e w' ⟨rfl, rfl⟩)
            go_roundw
            case rel => exact ⟨k + 1, n * 10 + (Sc.bt s k - 48), true, by omega, by omega, by go_num, rfl, rfl, hn', HS, HB', HV', HL', by first | rfl | trivial⟩
            case measure => simp [intOf]; omega
          | false =>
            have h0 : ¬ nm s i k ≤ 9223372036854775807 := by
              have h1 := HB.out
              unfold nvB at h1
              exact of_decide_eq_false h1.symm
            have HB' : Hid (false = nvB (nm s i (k + 1))) := by
              unfold Hid nvB
              have h1 := HSU.out
              rw [decide_eq_false]
              omega
            have HV' : Hid (nm s i (k + 1) ≤ 9223372036854775807 → n = nm s i (k + 1)) := fun h2 => by
              have h1 := HSU.out
              omega
            have HL' : Hid (n = nlF (k + 1 - i) s i) := by
              unfold Hid
              have h1 := HSU.out
              rw [nl_no hk0 (by omega)]
              exact HL.out
            clear h0
            go_wp2_with (go_at_call 44; refine (rdigitC _ _).mono ?_; rintro e w' ⟨rfl, rfl⟩)
            go_roundw
            case rel => exact ⟨k + 1, n, false, by omega, by omega, by go_num, rfl, rfl, hn, HS, HB', HV', HL', by first | rfl | trivial⟩
            case measure => simp [intOf]; omega
      | false =>
        have HE : Hid (dg s i = k) := Sc.ov_of ⟨hk0, hk, hd, fun _ => ht⟩
        have e1 : Hid (numV s i = nm s i k) := by unfold Hid numV; rw [HE.out]
        clear hsu
        go_wp2_with (go_at_call 44; refine (rdigitC _ _).mono ?_; rintro e w' ⟨rfl, rfl⟩)
        refine bodyPost_ret (results_tmp3 rfl _ _ _) rfl ?_
        exact ⟨ret_iib (by rw [HE.out, ← HL.out]) (by rw [HE.out]) (by rw [e1.out]; exact HB.out), rfl⟩
    · have HE : Hid (dg s i = k) := Sc.ov_of ⟨hk0, hk, hd, fun h => absurd h hlt⟩
      have e1 : Hid (numV s i = nm s i k) := by unfold Hid numV; rw [HE.out]
      have hlt' : ¬ (k : Int) < (s.size : Int) := by omega
      go_wp2
      refine bodyPost_ret (results_tmp3 rfl _ _ _) rfl ?_
      exact ⟨ret_iib (by rw [HE.out, ← HL.out]) (by rw [HE.out]) (by rw [e1.out]; exact HB.out), rfl⟩

theorem nl_fits {s : ByteArray} {i : Nat} (hi : i ≤ s.size) (h : numV s i ≤ 9223372036854775807) : nlF (dg s i - i) s i = numV s i := by
  have h1 := dg_ge hi
  unfold numV at h ⊢
  cases hc : dg s i - i with
  | zero =>
    have e : dg s i = i := by omega
    rw [e, nm_self]; rfl
  | succ c =>
    have e : dg s i = i + c + 1 := by omega
    rw [e] at h ⊢
    rw [nlF, if_pos h]
theorem rnumberC (s : ByteArray) (i : Nat) (w : World) (hs : s.size ≤ maxLen) (hi : i ≤ s.size) :
    Calls Tryd.prog 45 #[.string s, .int .i64 i] w fun e w' => ∃ n : Int, e = .returned (.tuple #[.int .i64 n, .int .i64 (dg s i : Nat), .bool (nvB (numV s i))]) ∧ (numV s i ≤ 9223372036854775807 → n = numV s i) ∧ w' = w :=
  (rnumberD s i w hs hi).mono fun e w' h => ⟨_, h.1, fun hf => by rw [nl_fits hi hf], h.2⟩
/-- What tagAt answers. -/
def tgR (s : ByteArray) (i : Nat) : Int := if s.size < i + tl s i then -1 else if tgB s i = true then (tl s i : Nat) else 0
theorem ret_i {a b : Int} (h : a = b) : Ending.returned (.int .i64 a) = .returned (.int .i64 b) := by rw [h]
theorem one_list {s : ByteArray} {i : Nat} (hi : i < s.size) : ((s.extract i (i + 1)).toList == [36]) = decide (Sc.bt s i = 36) := by
  have hz := Sc.size_ext s (a := i) (b := i + 1) hi
  have h0 : i + 1 - i = 1 := by omega
  obtain ⟨c, h1, h2⟩ := list_snoc s (Nat.le_refl i) hi
  have h3 : (s.extract i i).data.toList = [] := by rw [list_ext, Nat.sub_self, List.take_zero]
  rw [Lib.toList_data, h1, h3, List.nil_append]
  by_cases h4 : Sc.bt s i = 36
  · rw [decide_eq_true h4]
    have : c = 36 := UInt8.toNat_inj.1 (by rw [h2, h4]; rfl)
    rw [this]; rfl
  · rw [decide_eq_false h4, beq_eq_false_iff_ne]
    intro e
    simp only [List.cons.injEq, and_true] at e
    rw [e] at h2
    exact h4 h2.symm
theorem stOf_one {s : ByteArray} {i : Nat} (hi : i < s.size) : stOf (s.extract i (i + 1)) = st1 (Sc.bt s i) := by
  have hz := Sc.size_ext s (a := i) (b := i + 1) hi
  unfold stOf
  rw [if_pos (by rw [hz]; omega), Sc.bt_ext s hi (by omega), Nat.add_zero]
theorem st1_two {c : Nat} (h : Sc.twoB c = true) : st1 c = none := by
  unfold Sc.twoB at h
  rw [Sc.wi_iff] at h
  unfold st1
  rw [if_neg (by omega), if_neg (by omega), if_neg]
  unfold Sc.stateB
  rw [Sc.wi_iff]
  omega
set_option maxRecDepth 100000 in
set_option maxHeartbeats 4000000 in
theorem rtagAtC (s : ByteArray) (i : Nat) (w : World) (hs : s.size ≤ maxLen) (hi : i ≤ s.size) :
    Calls Tryd.prog 46 #[.string s, .int .i64 i] w fun e w' => e = .returned (.int .i64 (tgR s i)) ∧ w.grownBy w' none := by
  unfold maxLen at hs
  by_cases h0 : i = s.size
  · subst h0
    have HE : Hid (-1 = tgR s s.size) := by unfold Hid tgR; rw [if_pos (by have := (tl_pos s s.size).1; omega)]
    go_enter Tryd.func46, Tryd.ntmps46
    go_wp2
    go_ret
    exact ⟨ret_i HE.out, World.grownBy.refl _ _⟩
  · have hlt : i < s.size := by omega
    have hlt' : (i : Int) < (s.size : Int) := by omega
    have hne : ((i : Int) == (s.size : Int)) = false := by simp; omega
    have hb := Sc.bt_at hlt
    have h1l := one_list hlt
    have h1s := stOf_one hlt
    have hw1 : IntKind.i64.wrap ((i : Int) + 1) = ((i + 1 : Nat) : Int) := by rw [IntKind.wrap_i64]; omega
    by_cases h36 : Sc.bt s i = 36
    · have e36 : ((Sc.bt s i : Int) == 36) = true := by simp; omega
      have htl : tl s i = 1 := by unfold tl; rw [h36, if_neg (by decide)]
      have HE : Hid (1 = tgR s i) := by
        unfold Hid tgR
        rw [htl, if_neg (by omega), if_pos (by unfold tgB tagAt; rw [htl, h1l, decide_eq_true h36, Bool.or_true])]
        rfl
      clear h1l h1s h36 htl
      go_enter Tryd.func46, Tryd.ntmps46
      go_wp2
      go_ret
      exact ⟨ret_i HE.out, World.grownBy.refl _ _⟩
    · have e36 : ((Sc.bt s i : Int) == 36) = false := by simp; omega
      obtain ⟨t1, ht1⟩ : ∃ t1, s.extract i (i + 1) = t1 := ⟨_, rfl⟩
      rw [ht1] at h1s h1l
      cases hx : oB (stOf t1) with
      | true =>
        have htw : Sc.twoB (Sc.bt s i) = false := by
          cases h : Sc.twoB (Sc.bt s i) with
          | false => rfl
          | true => rw [h1s, st1_two h] at hx; cases hx
        have htl : tl s i = 1 := by unfold tl; rw [htw, if_neg (by simp)]
        have HE : Hid (1 = tgR s i) := by
          unfold Hid tgR
          rw [htl, if_neg (by omega), if_pos (by unfold tgB tagAt; rw [htl, ht1, hx, Bool.true_or])]
          rfl
        clear h1l h1s h36 htl htw
        go_enter Tryd.func46, Tryd.ntmps46
        go_wp2_with (go_at_call 23; refine (rstateC _ _).mono ?_; rintro e w1 ⟨rfl, g1⟩)
        go_ret
        exact ⟨ret_i HE.out, g1⟩
      | false =>
        cases htw : Sc.twoB (Sc.bt s i) with
        | false =>
          have htl : tl s i = 1 := by unfold tl; rw [htw, if_neg (by simp)]
          have HE : Hid (0 = tgR s i) := by
            unfold Hid tgR
            rw [htl, if_neg (by omega), if_neg (by unfold tgB tagAt; rw [htl, ht1, hx, h1l, decide_eq_false h36]; simp)]
          have htz : ¬ (112 ≤ (Sc.bt s i : Int) ∧ (Sc.bt s i : Int) ≤ 121) := by unfold Sc.twoB at htw; exact Sc.wi_niff.1 htw
          clear h1l h1s h36 htl
          by_cases h112 : (Sc.bt s i : Int) < 112
          · clear htz
            go_enter Tryd.func46, Tryd.ntmps46
            go_wp2_with (go_at_call 23; refine (rstateC _ _).mono ?_; rintro e w1 ⟨rfl, g1⟩)
            go_ret
            exact ⟨ret_i HE.out, g1⟩
          · have h121 : 121 < (Sc.bt s i : Int) := by omega
            clear htz
            go_enter Tryd.func46, Tryd.ntmps46
            go_wp2_with (go_at_call 23; refine (rstateC _ _).mono ?_; rintro e w1 ⟨rfl, g1⟩)
            go_ret
            exact ⟨ret_i HE.out, g1⟩
        | true =>
          have htl : tl s i = 2 := by unfold tl; rw [if_pos htw]
          have htz : 112 ≤ (Sc.bt s i : Int) ∧ (Sc.bt s i : Int) ≤ 121 := by unfold Sc.twoB at htw; exact Sc.wi_iff.1 htw
          obtain ⟨hz1, hz2⟩ := htz
          have h112 : ¬ (Sc.bt s i : Int) < 112 := by omega
          have h121 : ¬ 121 < (Sc.bt s i : Int) := by omega
          clear h1l h1s h36
          by_cases h2 : i + 1 = s.size
          · have HE : Hid (-1 = tgR s i) := by unfold Hid tgR; rw [htl, if_pos (by omega)]
            have e2 : (((i : Int) + 1) == (s.size : Int)) = true := by simp; omega
            have h2' : Hid (i + 1 = s.size) := h2
            clear h2 htl
            go_enter Tryd.func46, Tryd.ntmps46
            go_wp2_with (go_at_call 23; refine (rstateC _ _).mono ?_; rintro e w1 ⟨rfl, g1⟩)
            go_ret
            exact ⟨ret_i HE.out, g1⟩
          · have e2 : (((i : Int) + 1) == (s.size : Int)) = false := by simp; omega
            have hlt2 : (i : Int) + 2 ≤ (s.size : Int) := by omega
            have hw2 : IntKind.i64.wrap ((i : Int) + 2) = ((i + 2 : Nat) : Int) := by rw [IntKind.wrap_i64]; omega
            obtain ⟨t2, ht2⟩ : ∃ t2, s.extract i (i + 2) = t2 := ⟨_, rfl⟩
            have hrow : (t2.toList == [36]) = false := ext_oneRow (by rw [← ht2, Sc.size_ext s (by omega)]; omega)
            cases hy : oB (stOf t2) with
            | true =>
              have HE : Hid (2 = tgR s i) := by
                unfold Hid tgR
                rw [htl, if_neg (by omega), if_pos (by unfold tgB tagAt; rw [htl, ht2, hy, Bool.true_or])]
                rfl
              clear htl hrow
              go_enter Tryd.func46, Tryd.ntmps46
              go_wp2_with (first | (go_at_call_of 23 (Value.string t1); refine (rstateC t1 _).mono ?_; rintro e w1 ⟨rfl, g1⟩) | (go_at_call 23; refine (rstateC t2 _).mono ?_; rintro e w2 ⟨rfl, g2⟩))
              go_ret
              exact ⟨ret_i HE.out, gb_trans g1 g2⟩
            | false =>
              have HE : Hid (0 = tgR s i) := by
                unfold Hid tgR
                rw [htl, if_neg (by omega), if_neg (by unfold tgB tagAt; rw [htl, ht2, hy, hrow]; simp)]
              clear htl hrow
              go_enter Tryd.func46, Tryd.ntmps46
              go_wp2_with (first | (go_at_call_of 23 (Value.string t1); refine (rstateC t1 _).mono ?_; rintro e w1 ⟨rfl, g1⟩) | (go_at_call 23; refine (rstateC t2 _).mono ?_; rintro e w2 ⟨rfl, g2⟩))
              go_ret
              exact ⟨ret_i HE.out, gb_trans g1 g2⟩
end Go.Proofs.YtimknahfgpafaaaDoor
