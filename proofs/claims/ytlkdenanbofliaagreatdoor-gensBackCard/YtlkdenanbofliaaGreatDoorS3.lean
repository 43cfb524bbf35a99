/- What Parse of package whole, and worth and Number of package scan answer. -/
import Derived.Test.YtlkdenanbofliaaGreatDoorS2
import Derived.Test.YtlkdenanbofliaaGreatDoorShelf
import Derived.Test.YtlkdenanbofliaaGreatDoorTexts2
import Derived.Lib.AtoiErrMem
import Derived.Lib.SmallJoins
import Derived.WalkSmall
namespace Go.Proofs.YtlkdenanbofliaaGreatDoor.Nu
open Go.RowKit
set_option linter.unusedVariables false
set_option linter.unusedSimpArgs false

theorem trimC (s : ByteArray) (w : World) :
    Calls Tryz.prog 118 #[.string s, .string ⟨#[45]⟩] w fun e w' => ∃ t : ByteArray, e = .returned (.string t) ∧ Hid (t.data.toList = Tx.dg s.data.toList) ∧ w' = w :=
  (Tryz.strings_TrimPrefix s ⟨#[45]⟩ w).mono fun e w' h => ⟨_, h.1, by unfold Hid Tx.dg; rfl, h.2⟩

set_option maxHeartbeats 1000000 in
theorem isNumberC (s : ByteArray) (w : World) (hs : s.size ≤ 1048576) :
    Calls Tryz.prog 104 #[.string s] w fun e w' => e = .returned (.bool (Tx.numB s.data.toList)) ∧ w' = w := by
  go_enter Tryz.func104, Tryz.ntmps104
  go_wp2_with (go_at_call 118; refine (trimC _ _).mono ?_; rintro e w' ⟨t, rfl, ht, rfl⟩; refine Hid.out ?_)
  have htl : t.size ≤ 1048577 := by
    have h1 : t.data.toList.length = t.size := Array.length_toList
    have h2 : s.data.toList.length = s.size := Array.length_toList
    have := Tx.dg_len s.data.toList
    rw [← ht.out] at this
    omega
  refine Lib.hid ?_
  go_wp2
  go_loop [4, 9] (fun _ i => ∃ k : Nat, k ≤ t.size ∧ i = .int .i64 k ∧ Hid (Tx.allD (t.data.toList.take k) = true)) (fun _ i => t.size - (intOf i).toNat)
  case atStart => exact ⟨0, Nat.zero_le _, rfl, rfl⟩
  case round =>
    obtain ⟨k, hk, rfl, hd⟩ := hrel
    have hks : k ≤ 1048577 := by omega
    by_cases hlt : k < t.size
    · have hget : Hid (t.data.toList[k]? = some t[k]) := by
        unfold Hid
        rw [Array.getElem?_toList]
        exact Array.getElem?_eq_getElem (xs := t.data) hlt
      by_cases c1 : ((t[k]).toNat : Int) < 48
      · have HN : Hid (false = Tx.numB s.data.toList) := by
          unfold Hid Tx.numB
          rw [← ht.out, Tx.allD_no hget.out (by omega)]; rfl
        go_wp2
        go_ret
        exact ⟨retB HN.out, rfl⟩
      · by_cases c2 : 57 < ((t[k]).toNat : Int)
        · have HN : Hid (false = Tx.numB s.data.toList) := by
            unfold Hid Tx.numB
            rw [← ht.out, Tx.allD_no hget.out (by omega)]; rfl
          go_wp2
          go_ret
          exact ⟨retB HN.out, rfl⟩
        · have HS : Hid (Tx.allD (t.data.toList.take (k + 1)) = true) := by
            unfold Hid
            obtain ⟨h1, h2⟩ := List.getElem?_eq_some_iff.1 hget.out
            rw [List.take_succ_eq_append_getElem h1, h2]
            exact Tx.allD_snoc _ _ hd.out (by omega) (by omega)
          go_wp2
          go_round
          case rel => exact ⟨k + 1, by omega, by go_num, HS⟩
          case measure => simp [intOf]; omega
    · have HA : Hid (Tx.allD (Tx.dg s.data.toList) = true) := by
        have h1 : t.data.toList.length = t.size := Array.length_toList
        have := hd.out
        rw [List.take_of_length_le (by omega), ht.out] at this
        exact this
      have HE : Hid ((!t.data.toList.isEmpty) = Tx.numB s.data.toList) := by
        unfold Hid Tx.numB
        rw [HA.out, ht.out]; rfl
      go_wp2
      go_ret
      exact ⟨retB ((congrArg (fun l : List UInt8 => !l.isEmpty) (Lib.toList_data t)).trans HE.out), rfl⟩
theorem atoiOkC (s : ByteArray) (hs : s.size ≤ 1048576) (v : Int) (h : Lib.atoiAll s.data.toList = .ok v) (w : World) :
    Calls Tryz.prog 105 #[.string s] w fun e w' => e = .returned (.tuple #[.int .i64 v, .nilIface]) ∧ Below w.heap.size w w' :=
  (Tryz.strconv_Atoi_ok s (by omega) v h w).mono fun e w' hh => ⟨hh.1, by
    rcases hh.2 with h2 | ⟨t, h2⟩
    · subst h2; exact Below.refl _ _
    · subst h2; exact Lib.bytesWorld_below _ _ _⟩
theorem atoiRangeC (s : ByteArray) (hs : s.size ≤ 1048576) (h : Lib.atoiAll s.data.toList = .range) (tp : TypeId) (p : Value) (w : World) (hvar : w.var? Tryz.prog "strconv.ErrRange" = some #[.iface tp p]) :
    Calls Tryz.prog 105 #[.string s] w fun e w' => ∃ (u : Int) (T : TypeId) (a : Addr), e = .returned (.tuple #[.int .i64 u, .iface T (.pointer (some a))]) ∧ Below w.heap.size w w' :=
  (Tryz.strconv_Atoi_range_var s (by omega) h tp p w hvar).mono fun e w' hh => by
    obtain ⟨N, he, _, _, hb⟩ := hh
    exact ⟨_, _, _, he, hb⟩
theorem ret2i {k j : IntKind} {a b c d : Int} (h : a = b) (hp : c = d) : Ending.returned (.tuple #[.int k a, .int j c]) = .returned (.tuple #[.int k b, .int j d]) := by rw [h, hp]

set_option maxHeartbeats 1000000 in
theorem parseC (s : ByteArray) (w : World) (hs : s.size ≤ maxLen) (tp : TypeId) (p : Value) (hvar : Lib.atoiAll s.data.toList = .range → w.var? Tryz.prog "strconv.ErrRange" = some #[.iface tp p]) :
    Calls Tryz.prog 92 #[.string s] w fun e w' => e = .returned (.tuple #[.int .i64 (Tx.parseV s.data.toList), .int .i64 (Tx.parseE s.data.toList)]) ∧ Below w.heap.size w w' := by
  unfold maxLen at hs
  have hlen : s.data.toList.length = s.size := Array.length_toList
  by_cases c1 : 1048576 < s.size
  · have HV : Hid (0 = Tx.parseV s.data.toList) := (Tx.parse_long (by omega)).1
    have HE : Hid (3 = Tx.parseE s.data.toList) := (Tx.parse_long (by omega)).2
    have c2 : 1048576 < (s.size : Int) := by omega
    clear hlen hvar
    go_enter Tryz.func92, Tryz.ntmps92
    go_wp2
    go_ret2
    exact ⟨ret2i HV.out HE.out, Below.refl _ _⟩
  · have c2 : ¬ 1048576 < (s.size : Int) := by omega
    have c3 : s.size ≤ 1048576 := by omega
    cases hn : Tx.numB s.data.toList with
    | false =>
      have HV : Hid (0 = Tx.parseV s.data.toList) := (Tx.parse_not (by omega) hn).1
      have HE : Hid (10 = Tx.parseE s.data.toList) := (Tx.parse_not (by omega) hn).2
      clear hlen hvar
      go_enter Tryz.func92, Tryz.ntmps92
      go_wp2_with (go_at_call 104; refine (isNumberC _ _ c3).mono ?_; rintro e w' ⟨rfl, rfl⟩)
      go_ret2
      exact ⟨ret2i HV.out HE.out, Below.refl _ _⟩
    | true =>
      rcases Tx.num_ends hn with ⟨v, ha⟩ | ha
      · have HV : Hid (v = Tx.parseV s.data.toList) := (Tx.parse_ok (by omega) hn ha).1
        have HE : Hid (0 = Tx.parseE s.data.toList) := (Tx.parse_ok (by omega) hn ha).2
        have HA : Hid (Lib.atoiAll s.data.toList = .ok v) := ha
        clear hlen hvar ha
        go_enter Tryz.func92, Tryz.ntmps92
        go_wp2_with (first | (go_at_call 104; refine (isNumberC _ _ c3).mono ?_; rintro e w' ⟨rfl, rfl⟩) | (go_at_call 105; refine (atoiOkC _ c3 _ HA.out _).mono ?_; rintro e w1 ⟨rfl, hb⟩))
        go_ret2
        exact ⟨ret2i HV.out HE.out, hb⟩
      · have HV : Hid (0 = Tx.parseV s.data.toList) := (Tx.parse_range (by omega) hn ha).1
        have HE : Hid (11 = Tx.parseE s.data.toList) := (Tx.parse_range (by omega) hn ha).2
        have HA : Hid (Lib.atoiAll s.data.toList = .range) := ha
        have HW : Hid (w.var? Tryz.prog "strconv.ErrRange" = some #[.iface tp p]) := hvar ha
        clear hlen hvar ha
        go_enter Tryz.func92, Tryz.ntmps92
        go_wp2_with (first | (go_at_call 104; refine (isNumberC _ _ c3).mono ?_; rintro e w' ⟨rfl, rfl⟩) | (go_at_call 105; refine (atoiRangeC _ c3 HA.out _ _ _ HW.out).mono ?_; rintro e w1 ⟨u, T, a, rfl, hb⟩))
        go_ret2
        exact ⟨ret2i HV.out HE.out, hb⟩


/-- strconv.ErrRange is an error. -/
def Er (tp : TypeId) (p : Value) (w : World) : Prop := w.var? Tryz.prog "strconv.ErrRange" = some #[.iface tp p]
theorem gER : Tryz.prog.globalNamed "strconv.ErrRange" = some 8 := by kernel_rfl
theorem Er.below {tp : TypeId} {p : Value} {w w1 : World} {n : Nat} (h : Er tp p w) (hb : Below n w w1) (hn : 8 < n) : Er tp p w1 := var?_below hb gER hn h
theorem Er.drew {tp : TypeId} {p : Value} {w : World} {k : Nat} (h : Er tp p w) : Er tp p (w.drewN k) := h
theorem Er.hd {tp : TypeId} {p : Value} {w : World} {k : Nat} (h : Hid (Er tp p w)) : Hid (Er tp p (w.drewN k)) := h
theorem Er.grown {tp : TypeId} {p : Value} {w w1 : World} {b : Nat} (h : Er tp p w) (hb : w.grownBy w1 (some b)) (hn : 8 < b) (hz : 8 < w.heap.size) : Er tp p w1 :=
  h.below (n := 8 + 1) ⟨hb.os, hb.tape, hb.output, hb.size, fun k hk => hb.block k (by omega) (by intro e; cases e; omega)⟩ (by omega)

theorem ext_ext (d : ByteArray) (k : Nat) (h : k < d.size) : (d.extract k d.size).extract 1 (d.extract k d.size).size = d.extract (k + 1) d.size := by
  have e0 := Sc.size_ext d (a := k) (Nat.le_refl d.size)
  have e2 := Sc.size_ext d (a := k + 1) (Nat.le_refl d.size)
  refine Sc.ext ?_ fun i hi => ?_
  · rw [Sc.size_ext _ (Nat.le_refl _), e0, e2]; omega
  · rw [Sc.size_ext _ (Nat.le_refl _), e0] at hi
    rw [Sc.bt_ext _ (Nat.le_refl _) (by rw [e0]; omega), Sc.bt_ext _ (Nat.le_refl _) (by omega), Sc.bt_ext _ (Nat.le_refl _) (by omega)]
    congr 1; omega
theorem ext_all (d : ByteArray) : d.extract 0 d.size = d := by
  refine Sc.ext ?_ fun i hi => ?_
  · rw [Sc.size_ext d (Nat.le_refl _)]; omega
  · rw [Sc.size_ext d (Nat.le_refl _)] at hi
    rw [Sc.bt_ext d (Nat.le_refl _) (by omega)]
    congr 1; omega

theorem empty_no {d : ByteArray} (h : ¬ d.size = 0) : d.toList.isEmpty = false := by
  rw [Lib.toList_data]
  cases hl : d.data.toList with
  | nil =>
    have : d.data.toList.length = d.size := Array.length_toList
    rw [hl] at this
    exact absurd this.symm h
  | cons c r => rfl
/-- How many noughts stand ahead. -/
def zs (d : ByteArray) : Nat := Sc.ov (fun c => Sc.eqB 48 c) d 0
set_option maxHeartbeats 1000000 in
theorem trimByteC (d : ByteArray) (hd : d.size ≤ maxLen) (w : World) : Calls Tryz.prog 69 #[.string d, .int .u8 48] w fun e w' => e = .returned (.string (d.extract (zs d) d.size)) ∧ w' = w := by
  unfold maxLen at hd
  go_enter Tryz.func69, Tryz.ntmps69
  go_wp2
  go_loop [0] (fun v => ∃ (k : Nat) (t : ByteArray), v = .string t ∧ k ≤ d.size ∧ t.size = d.size - k ∧ Hid (t = d.extract k d.size) ∧ Hid (∀ j, j < k → Sc.bt d j = 48)) (fun v => match v with | .string t => t.size | _ => 0)
  case atStart => exact ⟨0, d, rfl, Nat.zero_le _, by omega, (ext_all d).symm, fun j hj => by omega⟩
  case round =>
    obtain ⟨k, t, rfl, hk, hz, ht, hj⟩ := hrel
    by_cases hlt : k < d.size
    · have h0 : 0 < t.size := by omega
      have hb := Sc.bt_at h0
      have hz' : Hid (t.size = d.size - k) := hz
      clear hz
      have h0' : (0 : Int) < (t.size : Int) := by omega
      have h1' : (1 : Int) ≤ (t.size : Int) := by omega
      have hbd : Hid (Sc.bt t 0 = Sc.bt d k) := by unfold Hid; rw [ht.out, Sc.bt_ext d (Nat.le_refl _) (by omega)]; rfl
      by_cases hc : Sc.bt d k = 48
      · have hc' : ((Sc.bt t 0 : Int) == 48) = true := by have := hbd.out; simp; omega
        go_wp2
        go_round
        case rel => exact ⟨k + 1, _, rfl, by omega, by have := hz'.out; rw [Sc.size_ext _ (Nat.le_refl _)]; omega, by unfold Hid; rw [ht.out]; exact ext_ext d k hlt, fun j h => by
          by_cases e : j = k
          · rw [e]; exact hc
          · exact hj j (by omega)⟩
        case measure =>
          show (t.extract 1 t.size).size < t.size
          rw [Sc.size_ext _ (Nat.le_refl _)]; omega
      · have hc' : ((Sc.bt t 0 : Int) == 48) = false := by have := hbd.out; simp; omega
        have HE : Hid (zs d = k) := by
          refine Sc.ov_of ⟨Nat.zero_le _, hk, fun j _ h => ?_, fun _ => ?_⟩
          · have := hj j h; simp [Sc.eqB, this]
          · simp [Sc.eqB]; omega
        go_wp2
        go_ret
        exact ⟨by rw [HE.out, ← ht.out]; rfl, rfl⟩
    · have h0 : t.size = 0 := by omega
      have HE : Hid (zs d = k) := by
        refine Sc.ov_of ⟨Nat.zero_le _, hk, fun j _ h => ?_, fun h => absurd h hlt⟩
        have := hj j h; simp [Sc.eqB, this]
      clear hz
      go_wp2
      go_ret
      exact ⟨by rw [HE.out, ← ht.out]; rfl, rfl⟩

set_option maxRecDepth 100000 in
theorem trimLeftC (d : ByteArray) (hd : d.size ≤ maxLen) (w : World) : Calls Tryz.prog 51 #[.string d, .string ⟨#[48]⟩] w fun e w' => e = .returned (.string (d.extract (zs d) d.size)) ∧ w.grownBy w' none := by
  by_cases h0 : d.size = 0
  · have hd0 : d = ⟨#[]⟩ := Sc.ext (by rw [h0]; rfl) fun i hi => by omega
    subst hd0
    go_enter Tryz.func51, Tryz.ntmps51
    go_wp2
    go_ret
    exact ⟨rfl, World.grownBy.refl _ _⟩
  · have h1 : d.toList.isEmpty = false := empty_no h0
    go_enter Tryz.func51, Tryz.ntmps51
    go_wp2_with (go_at_call 69; refine (trimByteC _ hd _).mono ?_; rintro e w' ⟨rfl, rfl⟩)
    go_ret
    exact ⟨rfl, World.grownBy.refl _ _⟩

theorem list_ext (s : ByteArray) (a b : Nat) : (s.extract a b).data.toList = (s.data.toList.drop a).take (b - a) := by
  rw [ByteArray.data_extract, Array.toList_extract]
theorem list_snoc (s : ByteArray) {i k : Nat} (hi : i ≤ k) (hk : k < s.size) : ∃ c : UInt8, (s.extract i (k + 1)).data.toList = (s.extract i k).data.toList ++ [c] ∧ c.toNat = Sc.bt s k := by
  obtain ⟨c, h1, h2⟩ := Sc.list_bt hk
  refine ⟨c, ?_, h2⟩
  rw [list_ext, list_ext, show k + 1 - i = (k - i) + 1 by omega]
  have h3 : (s.data.toList.drop i)[k - i]? = some c := by rw [List.getElem?_drop, show i + (k - i) = k by omega]; exact h1
  rw [List.take_add_one, h3]
  rfl
/-- The number that the bytes from i to k tell. -/
def nm (s : ByteArray) (i k : Nat) : Nat := Tx.vl 0 (s.extract i k).data.toList
theorem nm_self (s : ByteArray) (i : Nat) : nm s i i = 0 := by
  unfold nm; rw [list_ext]; simp [Tx.vl_nil]
theorem nm_succ (s : ByteArray) {i k : Nat} (hi : i ≤ k) (hk : k < s.size) : nm s i (k + 1) = nm s i k * 10 + (Sc.bt s k - 48) := by
  obtain ⟨c, h1, h2⟩ := list_snoc s hi hk
  unfold nm; rw [h1, Tx.vl_snoc, h2]
theorem allD_of {s : ByteArray} {i k : Nat} (hk : k ≤ s.size) (h : ∀ j, i ≤ j → j < k → Sc.digitB (Sc.bt s j) = true) : Tx.allD (s.extract i k).data.toList = true := by
  unfold Tx.allD
  rw [List.all_eq_true]
  intro c hc
  obtain ⟨j, hj, e⟩ := List.mem_iff_getElem.1 hc
  have hz := Sc.size_ext s (a := i) hk
  have hj' : j < k - i := by rw [← hz]; exact hj
  have h1 : (s.extract i k).data.toList[j]? = some c := by rw [List.getElem?_eq_getElem hj, e]
  have h2 := Sc.bt_list h1
  rw [Sc.bt_ext s hk hj'] at h2
  have h3 := h (i + j) (by omega) (by omega)
  rw [h2] at h3
  unfold Sc.digitB at h3
  rw [Sc.wi_iff] at h3
  exact (Tx.isD_iff c).2 (by omega)
theorem vl_append (a b : List UInt8) (acc : Nat) : Tx.vl acc (a ++ b) = Tx.vl (Tx.vl acc a) b := by
  unfold Tx.vl; rw [List.foldl_append]
theorem nm_noughts (d : ByteArray) {z : Nat} (hz : z ≤ d.size) (h : ∀ j, j < z → Sc.bt d j = 48) : Tx.vl 0 (d.extract z d.size).data.toList = Tx.vl 0 d.data.toList := by
  have h1 : ∀ k, k ≤ z → nm d 0 k = 0 := by
    intro k
    induction k with
    | zero => intro _; exact nm_self d 0
    | succ k ih => intro hk; rw [nm_succ d (Nat.zero_le _) (by omega), ih (by omega), h k (by omega)]
  have h2 := h1 z (Nat.le_refl _)
  unfold nm at h2
  have h3 : d.data.toList = (d.extract 0 z).data.toList ++ (d.extract z d.size).data.toList := by
    rw [list_ext, list_ext, List.drop_zero, Nat.sub_zero]
    have e : (List.drop z d.data.toList).take (d.size - z) = List.drop z d.data.toList := List.take_of_length_le (by rw [List.length_drop]; exact Nat.le_of_eq rfl)
    rw [e, List.take_append_drop]
  rw [h3, vl_append, h2]

def nvB (v : Nat) : Bool := decide (v ≤ 9223372036854775807)
def nvZ (v : Nat) : Int := if v ≤ 9223372036854775807 then (v : Int) else 0
theorem vl_big {c : UInt8} {r : List UInt8} (hc : 49 ≤ c.toNat) : 10 ^ r.length ≤ Tx.vl 0 (c :: r) := by
  have key : ∀ (r : List UInt8) (acc : Nat), 1 ≤ acc → 10 ^ r.length ≤ Tx.vl acc r := by
    intro r
    induction r with
    | nil => intro acc h; rw [Tx.vl_nil]; simpa using h
    | cons c r ih =>
      intro acc h
      rw [Tx.vl_cons, List.length_cons, Nat.pow_succ]
      have h2 : ∀ (r : List UInt8) (a b : Nat), a ≤ b → Tx.vl a r ≤ Tx.vl b r := by
        intro r
        induction r with
        | nil => intro a b h; rw [Tx.vl_nil, Tx.vl_nil]; exact h
        | cons c r ih => intro a b h; rw [Tx.vl_cons, Tx.vl_cons]; exact ih _ _ (by omega)
      have h3 : ∀ (r : List UInt8) (a : Nat), a * 10 ^ r.length ≤ Tx.vl a r := by
        intro r
        induction r with
        | nil => intro a; rw [Tx.vl_nil]; simp
        | cons c r ih =>
          intro a
          rw [Tx.vl_cons, List.length_cons, Nat.pow_succ]
          have := ih (a * 10 + (c.toNat - 48))
          have h5 : a * (10 ^ r.length * 10) = (a * 10) * 10 ^ r.length := by rw [Nat.mul_comm (10 ^ r.length), Nat.mul_assoc]
          have h6 : (a * 10) * 10 ^ r.length ≤ (a * 10 + (c.toNat - 48)) * 10 ^ r.length := Nat.mul_le_mul_right _ (by omega)
          omega
      have := h3 r (acc * 10 + (c.toNat - 48))
      have h6 : 10 * 10 ^ r.length ≤ (acc * 10 + (c.toNat - 48)) * 10 ^ r.length := Nat.mul_le_mul_right _ (by omega)
      omega
  rw [Tx.vl_cons]
  exact key r _ (by omega)

/-- What Parse answers to digits without a nought ahead. -/
theorem parse_digits {c : UInt8} {r : List UInt8} (h : Tx.allD (c :: r) = true) (hc : c.toNat ≠ 48) : Tx.parseV (c :: r) = nvZ (Tx.vl 0 (c :: r)) ∧ (Tx.parseE (c :: r) == 0) = nvB (Tx.vl 0 (c :: r)) := by
  have hd := (Tx.allD_cons h).1
  have hdg : Tx.dg (c :: r) = c :: r := Tx.dg_else (by simp; intro e; subst e; simp at hd)
  have hn : Tx.numB (c :: r) = true := by unfold Tx.numB; rw [hdg, h]; rfl
  have ha := Tx.atoi_pos (c := c) (r := r) (by omega) (by omega) h
  by_cases hl : 1048576 < (c :: r).length
  · have h1 := Tx.parse_long hl
    have h2 : 9223372036854775807 < Tx.vl 0 (c :: r) := by
      have h3 := vl_big (c := c) (r := r) (by omega)
      have h4 : (10 : Nat) ^ 19 ≤ 10 ^ r.length := Nat.pow_le_pow_right (by decide) (by rw [List.length_cons] at hl; omega)
      have h5 : (10 : Nat) ^ 19 = 10000000000000000000 := by decide
      omega
    rw [← h1.1, ← h1.2]
    unfold nvZ nvB
    rw [if_neg (by omega), decide_eq_false (by omega)]
    exact ⟨rfl, rfl⟩
  · by_cases h2 : Tx.vl 0 (c :: r) < 9223372036854775808
    · rw [if_pos h2] at ha
      have h1 := Tx.parse_ok (by omega) hn ha
      rw [← h1.1, ← h1.2]
      unfold nvZ nvB
      rw [if_pos (by omega), decide_eq_true (by omega)]
      exact ⟨rfl, rfl⟩
    · rw [if_neg h2] at ha
      have h1 := Tx.parse_range (by omega) hn ha
      rw [← h1.1, ← h1.2]
      unfold nvZ nvB
      rw [if_neg (by omega), decide_eq_false (by omega)]
      exact ⟨rfl, rfl⟩

theorem gb_of_below {w w' : World} (h : Below w.heap.size w w') : w.grownBy w' none := ⟨h.os, h.tape, h.output, h.size, fun k hk _ => h.block k hk⟩
theorem below_of_gb {w w' : World} (h : w.grownBy w' none) : Below w.heap.size w w' := gb_below h
theorem ret_ib {k : IntKind} {a b : Int} {c d : Bool} (h : a = b) (hp : c = d) : Ending.returned (.tuple #[.int k a, .bool c]) = .returned (.tuple #[.int k b, .bool d]) := by rw [h, hp]

set_option maxHeartbeats 1000000 in
theorem worthC (d : ByteArray) (hd : d.size ≤ maxLen) (hD : Tx.allD d.data.toList = true) (w : World) (tp : TypeId) (p : Value) (hE : Hid (Er tp p w)) (hG : 8 < w.heap.size) : Calls Tryz.prog 75 #[.string d] w fun e w' => e = .returned (.tuple #[.int .i64 (nvZ (Tx.vl 0 d.data.toList)), .bool (nvB (Tx.vl 0 d.data.toList))]) ∧ w.grownBy w' none := by
  have hO := Sc.ov_is (fun c => Sc.eqB 48 c) (s := d) (i := 0) (Nat.zero_le _)
  have hz : zs d ≤ d.size := hO.le
  have hno : ∀ j, j < zs d → Sc.bt d j = 48 := fun j hj => by
    have := hO.all j (Nat.zero_le _) hj
    simp [Sc.eqB] at this; omega
  have hvl := nm_noughts d hz hno
  have hsz := Sc.size_ext d (a := zs d) (Nat.le_refl _)
  have hD2 : Tx.allD (d.extract (zs d) d.size).data.toList = true := by
    rw [list_ext]
    unfold Tx.allD at hD ⊢
    rw [List.all_eq_true] at hD ⊢
    exact fun c hc => hD c (List.mem_of_mem_drop (List.mem_of_mem_take hc))
  have hfirst : ∀ c r, (d.extract (zs d) d.size).data.toList = c :: r → c.toNat ≠ 48 := fun c r e hc => by
    have h1 : (d.extract (zs d) d.size).data.toList[0]? = some c := by rw [e]; rfl
    have h2 := Sc.bt_list h1
    have h3 : 0 < (d.extract (zs d) d.size).size := by
      have : (d.extract (zs d) d.size).data.toList.length = (d.extract (zs d) d.size).size := Array.length_toList
      rw [e, List.length_cons] at this; omega
    rw [Sc.bt_ext d (Nat.le_refl _) (by omega), Nat.add_zero] at h2
    have h4 := hO.stop (by show zs d < d.size; omega)
    have h5 : Sc.eqB 48 ((Sc.bt d (zs d) : Nat) : Int) = false := h4
    simp [Sc.eqB] at h5; omega
  obtain ⟨t, ht⟩ : ∃ t, d.extract (zs d) d.size = t := ⟨_, rfl⟩
  have htl := trimLeftC d hd
  rw [ht] at hvl hD2 hfirst htl hsz
  rw [← hvl]
  clear hvl hno hO ht hD
  cases hl : t.data.toList with
  | nil =>
    have ht0 : t = ⟨#[]⟩ := ByteArray.ext (Array.ext' hl)
    subst ht0
    have e1 : Hid ((0 : Int) = nvZ (Tx.vl 0 [])) := by unfold Hid; decide
    have e2 : Hid (true = nvB (Tx.vl 0 [])) := by unfold Hid; decide
    clear hfirst hl hsz hz
    go_enter Tryz.func75, Tryz.ntmps75
    go_wp2_with (go_at_call 51; refine (htl _).mono ?_; rintro e w1 ⟨rfl, g1⟩)
    go_ret2
    exact ⟨ret_ib e1.out e2.out, g1⟩
  | cons c r =>
    rw [hl] at hD2
    have hp := parse_digits hD2 (hfirst c r hl)
    rw [← hl] at hp ⊢
    have h1 : t.toList.isEmpty = false := by rw [Lib.toList_data, hl]; rfl
    have e1 : Hid (Tx.parseV t.data.toList = nvZ (Tx.vl 0 t.data.toList)) := hp.1
    have e2 : Hid ((Tx.parseE t.data.toList == 0) = nvB (Tx.vl 0 t.data.toList)) := hp.2
    have hts : t.size ≤ maxLen := by omega
    clear hp hfirst hD2 hl hsz hz
    go_enter Tryz.func75, Tryz.ntmps75
    go_wp2_with (first | (go_at_call 51; refine (htl _).mono ?_; rintro e w1 ⟨rfl, g1⟩) | (go_at_call 92; refine (parseC t _ hts tp p (fun _ => hE.out.below (gb_below g1) hG)).mono ?_; rintro e w2 ⟨rfl, g2⟩))
    go_ret2
    exact ⟨ret_ib e1.out e2.out, gb_trans g1 (gb_of_below g2)⟩

/-- Where digits begin at i and end. -/
def dg (s : ByteArray) (i : Nat) : Nat := Sc.ov Sc.digitB s i
def numV (s : ByteArray) (i : Nat) : Nat := nm s i (dg s i)
set_option maxHeartbeats 1000000 in
theorem numberNo (b : Nat) (s : ByteArray) (i : Nat) (w : World) (h : Cu w b s i) (hs : s.size ≤ maxLen) (hi : i ≤ s.size) (hn : Hid (dg s i = i)) : Calls Tryz.prog 52 #[.pointer (some ⟨b, 0, none⟩)] w fun e w' => e = .returned (.tuple #[.int .i64 0, .int .i64 10]) ∧ ∃ k, w' = w.drewN k := by
  have ha := ahead_isDigit b s i w h hs hi
  rw [show Sc.ov Sc.digitB s i = i from hn.out, show s.extract i i = ⟨#[]⟩ from Sc.ext (by rw [Sc.size_ext s hi, Nat.sub_self]; rfl) fun j hj => by rw [Sc.size_ext s hi, Nat.sub_self] at hj; omega] at ha
  go_enter Tryz.func52, Tryz.ntmps52
  go_wp2_with (first | (go_at_call 64; refine (lacksC _ _ _ _ h).mono ?_; rintro e w' ⟨rfl, rfl⟩) | (go_at_call 73; refine ha.mono ?_; rintro e w' ⟨rfl, k1, rfl⟩))
  go_ret2
  exact ⟨rfl, _, rfl⟩
theorem dig_ne {s : ByteArray} {i : Nat} (hi : i ≤ s.size) (hn : Hid (i < dg s i)) : (s.extract i (Sc.ov Sc.digitB s i)).toList.isEmpty = false := by
  refine empty_no ?_
  rw [Sc.size_ext s (Sc.ov_le _ hi)]
  have h2 : i < Sc.ov Sc.digitB s i := hn.out
  omega
set_option maxHeartbeats 1000000 in
theorem numberOk (b : Nat) (s : ByteArray) (i : Nat) (w : World) (h : Cu w b s i) (hs : s.size ≤ maxLen) (hi : i ≤ s.size) (hn : Hid (i < dg s i)) (hv : Hid (numV s i ≤ 9223372036854775807)) (tp : TypeId) (p : Value) (hE : Hid (Er tp p w)) (hG : 8 < w.heap.size) :
    Calls Tryz.prog 52 #[.pointer (some ⟨b, 0, none⟩)] w fun e w' => e = .returned (.tuple #[.int .i64 (numV s i : Nat), .int .i64 0]) ∧ Cu w' b s (dg s i) ∧ w.grownBy w' (some b) := by
  have h2 := Sc.ov_le Sc.digitB hi
  have h1 := Sc.ov_ge Sc.digitB hi
  have hz := Sc.size_ext s (a := i) h2
  have hO := Sc.ov_is Sc.digitB hi
  have hne := dig_ne hi hn
  have hm := hs
  unfold maxLen at hm
  have hw : IntKind.i64.wrap ((i : Int) + ((Sc.ov Sc.digitB s i - i : Nat) : Int)) = ((dg s i : Nat) : Int) := by rw [IntKind.wrap_i64]; unfold dg; omega
  have hwo := worthC (s.extract i (Sc.ov Sc.digitB s i)) (by unfold maxLen; rw [hz]; omega) (allD_of h2 hO.all)
  have e1 : nvZ (Tx.vl 0 (s.extract i (Sc.ov Sc.digitB s i)).data.toList) = (numV s i : Nat) := by
    have : Tx.vl 0 (s.extract i (Sc.ov Sc.digitB s i)).data.toList = numV s i := rfl
    unfold nvZ; rw [this, if_pos hv.out]
  have e2 : nvB (Tx.vl 0 (s.extract i (Sc.ov Sc.digitB s i)).data.toList) = true := by
    have : Tx.vl 0 (s.extract i (Sc.ov Sc.digitB s i)).data.toList = numV s i := rfl
    unfold nvB; rw [this, decide_eq_true hv.out]
  rw [e1, e2] at hwo
  clear hO e1 e2
  go_enter Tryz.func52, Tryz.ntmps52
  go_wp2_with (first | (go_at_call 64; refine (lacksC _ _ _ _ h).mono ?_; rintro e w' ⟨rfl, rfl⟩) | (go_at_call 73; refine (ahead_isDigit b s i _ h hs hi).mono ?_; rintro e w' ⟨rfl, k1, rfl⟩) | (go_at_call 75; refine (hwo _ tp p (Er.hd hE) hG).mono ?_; rintro e w1 ⟨rfl, g1⟩; have h3 := (Cu.drew h).kept g1 (by simp); have x2 := h3.c2; have y2 := h3.f2))
  go_ret2
  exact ⟨rfl, h3.set _, gb_set (gb_trans (gb_drewN (World.grownBy.refl _ _) _) (gb_none (World.grownBy.refl _ _) g1)) _ _⟩
set_option maxHeartbeats 1000000 in
theorem numberFar (b : Nat) (s : ByteArray) (i : Nat) (w : World) (h : Cu w b s i) (hs : s.size ≤ maxLen) (hi : i ≤ s.size) (hn : Hid (i < dg s i)) (hv : Hid (¬ numV s i ≤ 9223372036854775807)) (tp : TypeId) (p : Value) (hE : Hid (Er tp p w)) (hG : 8 < w.heap.size) :
    Calls Tryz.prog 52 #[.pointer (some ⟨b, 0, none⟩)] w fun e w' => e = .returned (.tuple #[.int .i64 0, .int .i64 11]) ∧ w.grownBy w' none := by
  have h2 := Sc.ov_le Sc.digitB hi
  have h1 := Sc.ov_ge Sc.digitB hi
  have hz := Sc.size_ext s (a := i) h2
  have hO := Sc.ov_is Sc.digitB hi
  have hne := dig_ne hi hn
  have hm := hs
  unfold maxLen at hm
  have hwo := worthC (s.extract i (Sc.ov Sc.digitB s i)) (by unfold maxLen; rw [hz]; omega) (allD_of h2 hO.all)
  have e2 : nvB (Tx.vl 0 (s.extract i (Sc.ov Sc.digitB s i)).data.toList) = false := by
    have : Tx.vl 0 (s.extract i (Sc.ov Sc.digitB s i)).data.toList = numV s i := rfl
    unfold nvB; rw [this, decide_eq_false hv.out]
  rw [e2] at hwo
  clear hO e2
  go_enter Tryz.func52, Tryz.ntmps52
  go_wp2_with (first | (go_at_call 64; refine (lacksC _ _ _ _ h).mono ?_; rintro e w' ⟨rfl, rfl⟩) | (go_at_call 73; refine (ahead_isDigit b s i _ h hs hi).mono ?_; rintro e w' ⟨rfl, k1, rfl⟩) | (go_at_call 75; refine (hwo _ tp p (Er.hd hE) hG).mono ?_; rintro e w1 ⟨rfl, g1⟩))
  go_ret2
  exact ⟨rfl, gb_trans (gb_drewN (World.grownBy.refl _ _) _) g1⟩
end Go.Proofs.YtlkdenanbofliaaGreatDoor.Nu
