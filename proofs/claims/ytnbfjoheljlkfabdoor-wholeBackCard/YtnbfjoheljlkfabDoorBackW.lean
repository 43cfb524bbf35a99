import Derived.Test.YtnbfjoheljlkfabDoorAlive
import Derived.Test.YtnbfjoheljlkfabDoorTexts2
import Derived.Lib.IndexBytes
import Derived.Deep.RegionWith
import Derived.Lib.SmallJoins
namespace Go.Proofs.YtnbfjoheljlkfabDoor
open Go.RowKit
set_option linter.unusedVariables false

theorem Tx.strip_zero {c : UInt8} {r : List UInt8} (h : c.toNat = 48) (hr : r ≠ []) : Tx.strip (c :: r) = Tx.strip r := by
  have hc : c = 48 := UInt8.toNat_inj.1 h
  cases r with
  | nil => exact absurd rfl hr
  | cons d r => rw [Tx.strip, if_pos hc]
theorem Tx.strip_head {c : UInt8} {r : List UInt8} (h : c.toNat ≠ 48) : Tx.strip (c :: r) = c :: r := by
  have hc : c ≠ 48 := fun hc => h (by rw [hc]; rfl)
  cases r with
  | nil => rfl
  | cons d r => rw [Tx.strip, if_neg hc]

theorem retS {a b : ByteArray} (h : a = b) : Ending.returned (.string a) = .returned (.string b) := by rw [h]
theorem Tx.fin_plain {s : ByteArray} {k : Nat} (hdg : Tx.dg s.data.toList = s.data.toList) (hh : s.data.toList.head? ≠ some 45) (h : s.data.toList.drop k = Tx.strip s.data.toList) :
    (ByteArray.mk #[]) ++ s.extract k s.size = ⟨(Tx.plainL s.data.toList).toArray⟩ := by
  apply WideShapes.bytes_inj
  rw [Joins.data_append, Lib.extract_to_end, h]
  unfold Tx.plainL
  rw [hdg, if_neg hh]
  simp
theorem Tx.fin_zero {s t : ByteArray} {k : Nat} (ht : t.data.toList = Tx.dg s.data.toList) (h : t.data.toList.drop k = Tx.strip t.data.toList) (hz : t.data.toList.drop k = [48]) :
    (ByteArray.mk #[]) ++ t.extract k t.size = ⟨(Tx.plainL s.data.toList).toArray⟩ := by
  apply WideShapes.bytes_inj
  rw [Joins.data_append, Lib.extract_to_end]
  unfold Tx.plainL
  rw [← ht, ← h, if_pos hz]
  simp
theorem Tx.fin_minus {s t : ByteArray} {k : Nat} (ht : t.data.toList = Tx.dg s.data.toList) (hh : s.data.toList.head? = some 45) (h : t.data.toList.drop k = Tx.strip t.data.toList) (hz : t.data.toList.drop k ≠ [48]) :
    (ByteArray.mk #[45]) ++ t.extract k t.size = ⟨(Tx.plainL s.data.toList).toArray⟩ := by
  apply WideShapes.bytes_inj
  rw [Joins.data_append, Lib.extract_to_end]
  unfold Tx.plainL
  rw [← ht, ← h, if_neg hz, if_pos hh]
  simp
theorem Tx.dg_tail {l : List UInt8} (h : l.head? = some 45) : Tx.dg l = l.drop 1 := by
  cases l with
  | nil => simp at h
  | cons c r =>
    simp only [List.head?_cons, Option.some.injEq] at h
    subst h
    rw [Tx.dg_minus]; rfl
theorem Tx.num_dg {l : List UInt8} (h : Tx.numB l = true) : Tx.dg l ≠ [] := by
  unfold Tx.numB at h
  rw [Bool.and_eq_true] at h
  simpa using h.2

set_option maxHeartbeats 1000000 in
theorem plainC (s : ByteArray) (w : World) (hs : s.size ≤ 1048576) (hn : Hid (Tx.numB s.data.toList = true)) :
    Calls Tryd.prog 25 #[.string s] w fun e w' => e = .returned (.string ⟨(Tx.plainL s.data.toList).toArray⟩) ∧ w' = w := by
  have hs0 : 0 < s.size := Tx.num_size hn.out
  by_cases c0 : ((s[0]).toNat : Int) = 45
  · have c1 : (((s[0]).toNat : Int) == 45) = true := by simpa using c0
    have hh : Hid (s.data.toList.head? = some 45) := Tx.head_is hs0 (by omega)
    obtain ⟨t, htx⟩ : ∃ t, s.extract 1 s.size = t := ⟨_, rfl⟩
    have htd : Hid (t.data.toList = Tx.dg s.data.toList) := by
      unfold Hid
      rw [← htx, Lib.extract_to_end, Tx.dg_tail hh.out]
    have hsz : 0 < t.size := by
      have hl : t.data.toList.length = t.size := Array.length_toList
      have := Tx.num_dg hn.out
      rw [← htd.out] at this
      cases hq : t.data.toList with
      | nil => exact absurd hq this
      | cons x r => rw [hq] at hl; simp at hl; omega
    have hts : t.size ≤ 1048576 := by
      have hl : t.data.toList.length = t.size := Array.length_toList
      have hl2 : s.data.toList.length = s.size := Array.length_toList
      have := Tx.dg_len s.data.toList
      rw [← htd.out] at this
      omega
    clear c0
    go_enter Tryd.func25, Tryd.ntmps25
    go_wp2
    clear htx
    go_loop [4] (fun i => ∃ k : Nat, k < t.size ∧ i = .int .i64 k ∧ Hid (Tx.strip (t.data.toList.drop k) = Tx.strip t.data.toList)) (fun i => t.size - (intOf i).toNat)
    case atStart => exact ⟨0, hsz, rfl, by unfold Hid; rw [List.drop_zero]⟩
    case round =>
      obtain ⟨k, hk, rfl, hd⟩ := hrel
      have hlen : t.data.toList.length = t.size := Array.length_toList
      have hget : Hid (t.data.toList.drop k = t[k] :: t.data.toList.drop (k + 1)) := by
        unfold Hid
        rw [List.drop_eq_getElem_cons (by omega)]; rfl
      have hks : (k : Int) ≤ 1048576 := by omega
      have hb : (t[k].toNat : Int) ≤ 255 := by have := t[k].toNat_lt; omega
      by_cases c1 : (k : Int) < (t.size : Int) - 1
      · by_cases c2 : (t[k].toNat : Int) = 48
        · have c3 : ((t[k].toNat : Int) == 48) = true := by simpa using c2
          have HS : Hid (Tx.strip (t.data.toList.drop (k + 1)) = Tx.strip t.data.toList) := by
            unfold Hid
            rw [← hd.out, hget.out]
            exact (Tx.strip_zero (by omega) (by intro h; have := congrArg List.length h; simp at this; omega)).symm
          clear c2 hlen
          go_wp2
          go_round
          case rel => exact ⟨k + 1, by omega, by go_num, HS⟩
          case measure => simp [intOf]; omega
        · have c3 : ((t[k].toNat : Int) == 48) = false := by simpa using c2
          have HF : Hid (t.data.toList.drop k = Tx.strip t.data.toList) := by
            unfold Hid
            rw [← hd.out, hget.out]
            exact (Tx.strip_head (by omega)).symm
          clear c2 hlen
          by_cases ez : t.data.toList.drop k = [48]
          · have e2 : ((t.extract k t.size).toList == [48]) = true := by rw [Lib.toList_data, Lib.extract_to_end, ez]; rfl
            have e1 : Hid (t.data.toList.drop k = [48]) := ez
            clear ez
            go_wp2
            go_ret
            exact ⟨retS (Tx.fin_zero htd.out HF.out e1.out), rfl⟩
          · have e2 : ((t.extract k t.size).toList == [48]) = false := by rw [Lib.toList_data, Lib.extract_to_end]; simpa using ez
            have e1 : Hid (t.data.toList.drop k ≠ [48]) := ez
            clear ez
            go_wp2
            go_ret
            exact ⟨retS (Tx.fin_minus htd.out hh.out HF.out e1.out), rfl⟩
      · have HF : Hid (t.data.toList.drop k = Tx.strip t.data.toList) := by
          unfold Hid
          rw [← hd.out, hget.out, List.drop_of_length_le (by omega)]
          rfl
        clear hlen
        by_cases ez : t.data.toList.drop k = [48]
        · have e2 : ((t.extract k t.size).toList == [48]) = true := by rw [Lib.toList_data, Lib.extract_to_end, ez]; rfl
          have e1 : Hid (t.data.toList.drop k = [48]) := ez
          clear ez
          go_wp2
          go_ret
          exact ⟨retS (Tx.fin_zero htd.out HF.out e1.out), rfl⟩
        · have e2 : ((t.extract k t.size).toList == [48]) = false := by rw [Lib.toList_data, Lib.extract_to_end]; simpa using ez
          have e1 : Hid (t.data.toList.drop k ≠ [48]) := ez
          clear ez
          go_wp2
          go_ret
          exact ⟨retS (Tx.fin_minus htd.out hh.out HF.out e1.out), rfl⟩
    
  · have c1 : (((s[0]).toNat : Int) == 45) = false := by simpa using c0
    have hh : Hid (s.data.toList.head? ≠ some 45) := Tx.head_not hs0 (by omega)
    have hdg : Hid (Tx.dg s.data.toList = s.data.toList) := Tx.dg_else hh.out
    have hsz := hs0
    clear c0
    go_enter Tryd.func25, Tryd.ntmps25
    go_wp2
    go_loop [4] (fun i => ∃ k : Nat, k < s.size ∧ i = .int .i64 k ∧ Hid (Tx.strip (s.data.toList.drop k) = Tx.strip s.data.toList)) (fun i => s.size - (intOf i).toNat)
    case atStart => exact ⟨0, hsz, rfl, by unfold Hid; rw [List.drop_zero]⟩
    case round =>
      obtain ⟨k, hk, rfl, hd⟩ := hrel
      have hlen : s.data.toList.length = s.size := Array.length_toList
      have hget : Hid (s.data.toList.drop k = s[k] :: s.data.toList.drop (k + 1)) := by
        unfold Hid
        rw [List.drop_eq_getElem_cons (by omega)]; rfl
      have hks : (k : Int) ≤ 1048576 := by omega
      have hb : (s[k].toNat : Int) ≤ 255 := by have := s[k].toNat_lt; omega
      by_cases c1 : (k : Int) < (s.size : Int) - 1
      · by_cases c2 : (s[k].toNat : Int) = 48
        · have c3 : ((s[k].toNat : Int) == 48) = true := by simpa using c2
          have HS : Hid (Tx.strip (s.data.toList.drop (k + 1)) = Tx.strip s.data.toList) := by
            unfold Hid
            rw [← hd.out, hget.out]
            exact (Tx.strip_zero (by omega) (by intro h; have := congrArg List.length h; simp at this; omega)).symm
          clear c2 hlen
          go_wp2
          go_round
          case rel => exact ⟨k + 1, by omega, by go_num, HS⟩
          case measure => simp [intOf]; omega
        · have c3 : ((s[k].toNat : Int) == 48) = false := by simpa using c2
          have HF : Hid (s.data.toList.drop k = Tx.strip s.data.toList) := by
            unfold Hid
            rw [← hd.out, hget.out]
            exact (Tx.strip_head (by omega)).symm
          clear c2 hlen
          go_wp2
          all_goals go_ret
          all_goals exact ⟨retS (Tx.fin_plain hdg.out hh.out HF.out), rfl⟩
      · have HF : Hid (s.data.toList.drop k = Tx.strip s.data.toList) := by
          unfold Hid
          rw [← hd.out, hget.out, List.drop_of_length_le (by omega)]
          rfl
        clear hlen
        go_wp2
        all_goals go_ret
        all_goals exact ⟨retS (Tx.fin_plain hdg.out hh.out HF.out), rfl⟩
    

/-- What the walk needs of the listed variables. -/
def Vars (tp : TypeId) (p : Value) (w : World) : Prop := Tab w ∧ w.var? Tryd.prog "strconv.ErrRange" = some #[.iface tp p]
theorem gER : Tryd.prog.globalNamed "strconv.ErrRange" = some 1 := by kernel_rfl
theorem vars_below {tp : TypeId} {p : Value} {w w1 : World} (h : Hid (Vars tp p w)) (hb : Below w.heap.size w w1) : Hid (Vars tp p w1) :=
  ⟨tab_below h.1 hb, Joins.var_stays gER h.2 hb (Nat.le_refl _)⟩
theorem textV (n : Int) (w : World) (tp : TypeId) (p : Value) (h0 : -9223372036854775808 ≤ n) (h1 : n ≤ 9223372036854775807) (hv : Hid (Vars tp p w)) :
    Calls Tryd.prog 24 #[.int .i64 n] w fun e w' => e = .returned (.string ⟨(Lib.itoa n).toArray⟩) ∧ Below w.heap.size w w' ∧ Hid (Vars tp p w') :=
  (textC n w h0 h1 hv.1).mono fun e w' h => ⟨h.1, h.2, vars_below hv h.2⟩
theorem aliveV (w : World) (tp : TypeId) (p : Value) (hv : Hid (Vars tp p w)) :
    Calls Tryd.prog 8 #[] w fun e w' => e = .returned (.bool true) ∧ Below w.heap.size w w' ∧ Hid (Vars tp p w') :=
  (aliveC w hv.1).mono fun e w' h => ⟨h.1, h.2, vars_below hv h.2⟩
theorem parseV (s : ByteArray) (w : World) (hs : s.size ≤ maxLen) (tp : TypeId) (p : Value) (hv : Hid (Vars tp p w)) (v x : Int) (h1 : Hid (Tx.parseV s.data.toList = v)) (h2 : Hid (Tx.parseE s.data.toList = x)) :
    Calls Tryd.prog 23 #[.string s] w fun e w' => e = .returned (.tuple #[.int .i64 v, .int .i64 x]) ∧ Below w.heap.size w w' ∧ Hid (Vars tp p w') := by
  have h := parseC s w hs tp p (fun _ => hv.2)
  rw [h1.out, h2.out] at h
  exact h.mono fun e w' h => ⟨h.1, h.2, vars_below hv h.2⟩
theorem parseText (n : Int) (w : World) (tp : TypeId) (p : Value) (h0 : -9223372036854775808 ≤ n) (h1 : n ≤ 9223372036854775807) (hv : Hid (Vars tp p w)) :
    Calls Tryd.prog 23 #[.string ⟨(Lib.itoa n).toArray⟩] w fun e w' => e = .returned (.tuple #[.int .i64 n, .int .i64 0]) ∧ Below w.heap.size w w' ∧ Hid (Vars tp p w') := by
  have hl := Lib.itoa_length_le n h0 h1
  obtain ⟨b1, b2⟩ := Tx.itoa_back h0 h1
  have e := Tx.parse_ok (l := Lib.itoa n) (by omega) b1 b2
  refine parseV _ w ?_ tp p hv n 0 ?_ ?_
  · show (Lib.itoa n).toArray.size ≤ maxLen
    unfold maxLen
    simp; omega
  · show Tx.parseV (Lib.itoa n).toArray.toList = n
    rw [List.toList_toArray]; exact e.1.symm
  · show Tx.parseE (Lib.itoa n).toArray.toList = 0
    rw [List.toList_toArray]; exact e.2.symm
theorem plainV (s : ByteArray) (v : Int) (w : World) (hs : s.size ≤ 1048576) (hn : Hid (Tx.numB s.data.toList = true)) (ha : Hid (Lib.atoiAll s.data.toList = .ok v)) :
    Calls Tryd.prog 25 #[.string s] w fun e w' => e = .returned (.string ⟨(Lib.itoa v).toArray⟩) ∧ w' = w := by
  rw [Tx.itoa_plain hn.out ha.out]
  exact plainC s w hs hn
theorem atoi_bd {l : List UInt8} {v : Int} (hn : Tx.numB l = true) (ha : Lib.atoiAll l = .ok v) : -9223372036854775808 ≤ v ∧ v ≤ 9223372036854775807 := by
  rcases Tx.num_cases hn with ⟨r, rfl, h1, h2⟩ | ⟨c, r, rfl, h1, h2, h3⟩
  · rw [Tx.atoi_neg h1 h2] at ha
    split at ha
    · injection ha with ha
      omega
    · cases ha
  · rw [Tx.atoi_pos h1 h2 h3] at ha
    split at ha
    · injection ha with ha
      omega
    · cases ha

set_option maxHeartbeats 4000000 in
set_option maxRecDepth 100000 in
theorem back_walk (n : Int) (s : ByteArray) (w : World) (h0 : -9223372036854775808 ≤ n) (h1 : n ≤ 9223372036854775807) (hs : s.size ≤ maxLen) (ht : Tab w) (tp : TypeId) (p : Value) (hvar : w.var? Tryd.prog "strconv.ErrRange" = some #[.iface tp p]) :
    Calls Tryd.prog 7 #[.int .i64 n, .string s] w fun e w' => e = .returned (.bool true) ∧ Below w.heap.size w w' := by
  have hV : Hid (Vars tp p w) := ⟨ht, hvar⟩
  have hs2 := hs
  unfold maxLen at hs2
  have hlen : s.data.toList.length = s.size := Array.length_toList
  clear ht hvar
  have hnn : (n != n) = false := by simp
  by_cases c1 : 1048576 < s.size
  · have HV : Hid (Tx.parseV s.data.toList = 0) := (Tx.parse_long (by omega)).1.symm
    have HE : Hid (Tx.parseE s.data.toList = 3) := (Tx.parse_long (by omega)).2.symm
    have c2 : 1048576 < (s.size : Int) := by omega
    clear hlen c1
    go_enter Tryd.func7, Tryd.ntmps7
    go_wp2_with (first
      | (go_at_call 8; refine (aliveV _ _ _ hV).mono ?_; rintro e w1 ⟨rfl, hb1, hV1⟩)
      | (go_at_call_of 24 (Value.int IntKind.i64 n); have _t := hb1; refine (textV _ _ _ _ h0 h1 hV1).mono ?_; rintro e w2 ⟨rfl, hb2, hV2⟩)
      | (go_at_call_of 23 (Value.string s); refine (parseV _ _ hs _ _ hV3 _ _ HV HE).mono ?_; rintro e w4 ⟨rfl, hb4, hV4⟩)
      | (go_at_call 23; refine (parseText _ _ _ _ h0 h1 hV2).mono ?_; rintro e w3 ⟨rfl, hb3, hV3⟩))
    go_ret
    exact ⟨rfl, hb1.trans ((hb2.mono hb1.size).trans ((hb3.mono (Nat.le_trans hb1.size hb2.size)).trans (hb4.mono (Nat.le_trans hb1.size (Nat.le_trans hb2.size hb3.size)))))⟩
  · have c3 : s.size ≤ 1048576 := by omega
    cases hn : Tx.numB s.data.toList with
    | false =>
      have HV : Hid (Tx.parseV s.data.toList = 0) := (Tx.parse_not (by omega) hn).1.symm
      have HE : Hid (Tx.parseE s.data.toList = 10) := (Tx.parse_not (by omega) hn).2.symm
      clear hlen c1 hn
      go_enter Tryd.func7, Tryd.ntmps7
      go_wp2_with (first
        | (go_at_call 8; refine (aliveV _ _ _ hV).mono ?_; rintro e w1 ⟨rfl, hb1, hV1⟩)
        | (go_at_call_of 24 (Value.int IntKind.i64 n); have _t := hb1; refine (textV _ _ _ _ h0 h1 hV1).mono ?_; rintro e w2 ⟨rfl, hb2, hV2⟩)
        | (go_at_call_of 23 (Value.string s); refine (parseV _ _ hs _ _ hV3 _ _ HV HE).mono ?_; rintro e w4 ⟨rfl, hb4, hV4⟩)
        | (go_at_call 23; refine (parseText _ _ _ _ h0 h1 hV2).mono ?_; rintro e w3 ⟨rfl, hb3, hV3⟩))
      go_ret
      exact ⟨rfl, hb1.trans ((hb2.mono hb1.size).trans ((hb3.mono (Nat.le_trans hb1.size hb2.size)).trans (hb4.mono (Nat.le_trans hb1.size (Nat.le_trans hb2.size hb3.size)))))⟩
    | true =>
      have HN : Hid (Tx.numB s.data.toList = true) := hn
      have hp : 0 < s.size := Tx.num_size hn
      have hp2 : 0 < (s.size : Int) := by omega
      rcases Tx.num_ends hn with ⟨v, ha⟩ | ha
      · have HV : Hid (Tx.parseV s.data.toList = v) := (Tx.parse_ok (by omega) hn ha).1.symm
        have HE : Hid (Tx.parseE s.data.toList = 0) := (Tx.parse_ok (by omega) hn ha).2.symm
        have HA : Hid (Lib.atoiAll s.data.toList = .ok v) := ha
        obtain ⟨v1, v2⟩ := atoi_bd hn ha
        clear hlen c1 hn ha
        go_enter Tryd.func7, Tryd.ntmps7
        go_wp2_with (first
          | (go_at_call 8; refine (aliveV _ _ _ hV).mono ?_; rintro e w1 ⟨rfl, hb1, hV1⟩)
          | (go_at_call_of 24 (Value.int IntKind.i64 n); have _t := hb1; refine (textV _ _ _ _ h0 h1 hV1).mono ?_; rintro e w2 ⟨rfl, hb2, hV2⟩)
          | (go_at_call_of 23 (Value.string s); refine (parseV _ _ hs _ _ hV3 _ _ HV HE).mono ?_; rintro e w4 ⟨rfl, hb4, hV4⟩)
          | (go_at_call 23; refine (parseText _ _ _ _ h0 h1 hV2).mono ?_; rintro e w3 ⟨rfl, hb3, hV3⟩)
          | (go_at_call 24; refine (textV _ _ _ _ v1 v2 hV4).mono ?_; rintro e w5 ⟨rfl, hb5, hV5⟩)
          | (go_at_call 25; refine (plainV _ v _ c3 HN HA).mono ?_; rintro e w6 ⟨rfl, rfl⟩))
        go_ret
        exact ⟨rfl, hb1.trans ((hb2.mono hb1.size).trans ((hb3.mono (Nat.le_trans hb1.size hb2.size)).trans ((hb4.mono (Nat.le_trans hb1.size (Nat.le_trans hb2.size hb3.size))).trans (hb5.mono (Nat.le_trans hb1.size (Nat.le_trans hb2.size (Nat.le_trans hb3.size hb4.size)))))))⟩
      · have HV : Hid (Tx.parseV s.data.toList = 0) := (Tx.parse_range (by omega) hn ha).1.symm
        have HE : Hid (Tx.parseE s.data.toList = 11) := (Tx.parse_range (by omega) hn ha).2.symm
        have hr := Tx.range_long hn ha
        have hr2 : 19 ≤ (s.size : Int) := by omega
        clear hlen c1 hn ha hr
        go_enter Tryd.func7, Tryd.ntmps7
        go_wp2_with (first
          | (go_at_call 8; refine (aliveV _ _ _ hV).mono ?_; rintro e w1 ⟨rfl, hb1, hV1⟩)
          | (go_at_call_of 24 (Value.int IntKind.i64 n); have _t := hb1; refine (textV _ _ _ _ h0 h1 hV1).mono ?_; rintro e w2 ⟨rfl, hb2, hV2⟩)
          | (go_at_call_of 23 (Value.string s); refine (parseV _ _ hs _ _ hV3 _ _ HV HE).mono ?_; rintro e w4 ⟨rfl, hb4, hV4⟩)
          | (go_at_call 23; refine (parseText _ _ _ _ h0 h1 hV2).mono ?_; rintro e w3 ⟨rfl, hb3, hV3⟩))
        go_ret
        exact ⟨rfl, hb1.trans ((hb2.mono hb1.size).trans ((hb3.mono (Nat.le_trans hb1.size hb2.size)).trans (hb4.mono (Nat.le_trans hb1.size (Nat.le_trans hb2.size hb3.size)))))⟩
end Go.Proofs.YtnbfjoheljlkfabDoor
