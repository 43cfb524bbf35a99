/- What isNumber, Parse and Text of package whole answer at every text and every number. -/
import Derived.Test.YtnbfjoheljlkfabDoorGcd0
import Derived.Test.YtnbfjoheljlkfabDoorMul0
import Derived.Test.YtnbfjoheljlkfabDoorShelf
import Derived.Test.YtnbfjoheljlkfabDoorTexts2
import Derived.Lib.AtoiErrMem
import Derived.Lib.AppendIntMem
import Derived.Lib.SmallJoins
import Derived.WalkSmall
namespace Go.Proofs.YtnbfjoheljlkfabDoor
open Go.RowKit
set_option linter.unusedVariables false

theorem retB {a b : Bool} (h : a = b) : Ending.returned (.bool a) = .returned (.bool b) := by rw [h]
theorem trimC (s : ByteArray) (w : World) :
    Calls Tryd.prog 34 #[.string s, .string ⟨#[45]⟩] w fun e w' => ∃ t : ByteArray, e = .returned (.string t) ∧ Hid (t.data.toList = Tx.dg s.data.toList) ∧ w' = w :=
  (Tryd.strings_TrimPrefix s ⟨#[45]⟩ w).mono fun e w' h => ⟨_, h.1, by unfold Hid Tx.dg; rfl, h.2⟩

set_option maxHeartbeats 1000000 in
theorem isNumberC (s : ByteArray) (w : World) (hs : s.size ≤ 1048576) :
    Calls Tryd.prog 31 #[.string s] w fun e w' => e = .returned (.bool (Tx.numB s.data.toList)) ∧ w' = w := by
  go_enter Tryd.func31, Tryd.ntmps31
  go_wp2_with (go_at_call 34; refine (trimC _ _).mono ?_; rintro e w' ⟨t, rfl, ht, rfl⟩; refine Hid.out ?_)
  have htl : t.size ≤ 1048577 := by
    have h1 : t.data.toList.length = t.size := Array.length_toList
    have h2 : s.data.toList.length = s.size := Array.length_toList
    have := Tx.dg_len s.data.toList
    rw [← ht.out] at this
    omega
  refine Lib.hid ?_
  go_wp2
  go_loop [4, 9] (fun _ i => ∃ k : Nat, k ≤ t.size ∧ i = .int .i64 k ∧ Hid (Tx.allD (t.data.toList.take k) = true)) (fun _ i => t.size - (intOf i).toNat)
  case atStart => exact ⟨0, Nat.zero_le _, rfl, rfl⟩
  case round =>
    obtain ⟨k, hk, rfl, hd⟩ := hrel
    have hks : k ≤ 1048577 := by omega
    by_cases hlt : k < t.size
    · have hget : Hid (t.data.toList[k]? = some t[k]) := by
        unfold Hid
        rw [Array.getElem?_toList]
        exact Array.getElem?_eq_getElem (xs := t.data) hlt
      by_cases c1 : ((t[k]).toNat : Int) < 48
      · have HN : Hid (false = Tx.numB s.data.toList) := by
          unfold Hid Tx.numB
          rw [← ht.out, Tx.allD_no hget.out (by omega)]; rfl
        go_wp2
        go_ret
        exact ⟨retB HN.out, rfl⟩
      · by_cases c2 : 57 < ((t[k]).toNat : Int)
        · have HN : Hid (false = Tx.numB s.data.toList) := by
            unfold Hid Tx.numB
            rw [← ht.out, Tx.allD_no hget.out (by omega)]; rfl
          go_wp2
          go_ret
          exact ⟨retB HN.out, rfl⟩
        · have HS : Hid (Tx.allD (t.data.toList.take (k + 1)) = true) := by
            unfold Hid
            obtain ⟨h1, h2⟩ := List.getElem?_eq_some_iff.1 hget.out
            rw [List.take_succ_eq_append_getElem h1, h2]
            exact Tx.allD_snoc _ _ hd.out (by omega) (by omega)
          go_wp2
          go_round
          case rel => exact ⟨k + 1, by omega, by go_num, HS⟩
          case measure => simp [intOf]; omega
    · have HA : Hid (Tx.allD (Tx.dg s.data.toList) = true) := by
        have h1 : t.data.toList.length = t.size := Array.length_toList
        have := hd.out
        rw [List.take_of_length_le (by omega), ht.out] at this
        exact this
      have HE : Hid ((!t.data.toList.isEmpty) = Tx.numB s.data.toList) := by
        unfold Hid Tx.numB
        rw [HA.out, ht.out]; rfl
      go_wp2
      go_ret
      exact ⟨retB ((congrArg (fun l : List UInt8 => !l.isEmpty) (Lib.toList_data t)).trans HE.out), rfl⟩

theorem atoiOkC (s : ByteArray) (hs : s.size ≤ 1048576) (v : Int) (h : Lib.atoiAll s.data.toList = .ok v) (w : World) :
    Calls Tryd.prog 32 #[.string s] w fun e w' => e = .returned (.tuple #[.int .i64 v, .nilIface]) ∧ Below w.heap.size w w' :=
  (Tryd.strconv_Atoi_ok s (by omega) v h w).mono fun e w' hh => ⟨hh.1, by
    rcases hh.2 with h2 | ⟨t, h2⟩
    · subst h2; exact Below.refl _ _
    · subst h2; exact Lib.bytesWorld_below _ _ _⟩
theorem atoiRangeC (s : ByteArray) (hs : s.size ≤ 1048576) (h : Lib.atoiAll s.data.toList = .range) (tp : TypeId) (p : Value) (w : World) (hvar : w.var? Tryd.prog "strconv.ErrRange" = some #[.iface tp p]) :
    Calls Tryd.prog 32 #[.string s] w fun e w' => ∃ (u : Int) (T : TypeId) (a : Addr), e = .returned (.tuple #[.int .i64 u, .iface T (.pointer (some a))]) ∧ Below w.heap.size w w' :=
  (Tryd.strconv_Atoi_range_var s (by omega) h tp p w hvar).mono fun e w' hh => by
    obtain ⟨N, he, _, _, hb⟩ := hh
    exact ⟨_, _, _, he, hb⟩
theorem ret2i {k j : IntKind} {a b c d : Int} (h : a = b) (hp : c = d) : Ending.returned (.tuple #[.int k a, .int j c]) = .returned (.tuple #[.int k b, .int j d]) := by rw [h, hp]

set_option maxHeartbeats 1000000 in
theorem parseC (s : ByteArray) (w : World) (hs : s.size ≤ maxLen) (tp : TypeId) (p : Value) (hvar : Lib.atoiAll s.data.toList = .range → w.var? Tryd.prog "strconv.ErrRange" = some #[.iface tp p]) :
    Calls Tryd.prog 23 #[.string s] w fun e w' => e = .returned (.tuple #[.int .i64 (Tx.parseV s.data.toList), .int .i64 (Tx.parseE s.data.toList)]) ∧ Below w.heap.size w w' := by
  unfold maxLen at hs
  have hlen : s.data.toList.length = s.size := Array.length_toList
  by_cases c1 : 1048576 < s.size
  · have HV : Hid (0 = Tx.parseV s.data.toList) := (Tx.parse_long (by omega)).1
    have HE : Hid (3 = Tx.parseE s.data.toList) := (Tx.parse_long (by omega)).2
    have c2 : 1048576 < (s.size : Int) := by omega
    clear hlen hvar
    go_enter Tryd.func23, Tryd.ntmps23
    go_wp2
    go_ret2
    exact ⟨ret2i HV.out HE.out, Below.refl _ _⟩
  · have c2 : ¬ 1048576 < (s.size : Int) := by omega
    have c3 : s.size ≤ 1048576 := by omega
    cases hn : Tx.numB s.data.toList with
    | false =>
      have HV : Hid (0 = Tx.parseV s.data.toList) := (Tx.parse_not (by omega) hn).1
      have HE : Hid (10 = Tx.parseE s.data.toList) := (Tx.parse_not (by omega) hn).2
      clear hlen hvar
      go_enter Tryd.func23, Tryd.ntmps23
      go_wp2_with (go_at_call 31; refine (isNumberC _ _ c3).mono ?_; rintro e w' ⟨rfl, rfl⟩)
      go_ret2
      exact ⟨ret2i HV.out HE.out, Below.refl _ _⟩
    | true =>
      rcases Tx.num_ends hn with ⟨v, ha⟩ | ha
      · have HV : Hid (v = Tx.parseV s.data.toList) := (Tx.parse_ok (by omega) hn ha).1
        have HE : Hid (0 = Tx.parseE s.data.toList) := (Tx.parse_ok (by omega) hn ha).2
        have HA : Hid (Lib.atoiAll s.data.toList = .ok v) := ha
        clear hlen hvar ha
        go_enter Tryd.func23, Tryd.ntmps23
        go_wp2_with (first | (go_at_call 31; refine (isNumberC _ _ c3).mono ?_; rintro e w' ⟨rfl, rfl⟩) | (go_at_call 32; refine (atoiOkC _ c3 _ HA.out _).mono ?_; rintro e w1 ⟨rfl, hb⟩))
        go_ret2
        exact ⟨ret2i HV.out HE.out, hb⟩
      · have HV : Hid (0 = Tx.parseV s.data.toList) := (Tx.parse_range (by omega) hn ha).1
        have HE : Hid (11 = Tx.parseE s.data.toList) := (Tx.parse_range (by omega) hn ha).2
        have HA : Hid (Lib.atoiAll s.data.toList = .range) := ha
        have HW : Hid (w.var? Tryd.prog "strconv.ErrRange" = some #[.iface tp p]) := hvar ha
        clear hlen hvar ha
        go_enter Tryd.func23, Tryd.ntmps23
        go_wp2_with (first | (go_at_call 31; refine (isNumberC _ _ c3).mono ?_; rintro e w' ⟨rfl, rfl⟩) | (go_at_call 32; refine (atoiRangeC _ c3 HA.out _ _ _ HW.out).mono ?_; rintro e w1 ⟨u, T, a, rfl, hb⟩))
        go_ret2
        exact ⟨ret2i HV.out HE.out, hb⟩

set_option maxHeartbeats 400000 in
theorem textC (n : Int) (w : World) (h0 : -9223372036854775808 ≤ n) (h1 : n ≤ 9223372036854775807) (htab : Hid (Lib.TabIs Tryd.prog w "internal/strconv.uint64pow10" .u64 Lib.pow10Tab)) :
    Calls Tryd.prog 24 #[.int .i64 n] w fun e w' => e = .returned (.string ⟨(Lib.itoa n).toArray⟩) ∧ Below w.heap.size w w' := by
  go_enter Tryd.func24, Tryd.ntmps24
  go_wp2_with (go_at_call 33; refine (Tryd.strconv_Itoa _ h0 h1 _ htab.out).mono ?_; rintro e w' ⟨rfl, k, os, rfl⟩)
  go_ret
  exact ⟨rfl, Lib.below_grow _ _ (Nat.le_refl _) _ _⟩

end Go.Proofs.YtnbfjoheljlkfabDoor