/- Lines of package scan: what it goes through. -/
import Derived.Test.YtjacoifhjfipaaaS22
import Derived.Test.YtjacoifhjfipaaaLh
namespace Go.Proofs.Ytjacoifhjfipaaa
open Go.RowKit Go.Shelf
set_option linter.unusedVariables false
set_option linter.unusedSimpArgs false
attribute [local go_sem] Oper.semAt_some

def trE (u : ByteArray) : Nat := if 0 < u.size ∧ Sc.bt u (u.size - 1) = 13 then u.size - 1 else u.size
theorem suffix_one (l : List UInt8) (c d : UInt8) : Lib.hasSuffix (l ++ [c]) [d] = decide (c = d) := by
  unfold Lib.hasSuffix
  rw [Bool.eq_iff_iff, List.isSuffixOf_iff_suffix, decide_eq_true_iff]
  constructor
  · rintro ⟨t, ht⟩
    have := List.append_inj' ht rfl
    simpa using this.2.symm
  · rintro rfl
    exact ⟨l, rfl⟩
theorem trim_ext (u : ByteArray) : (⟨(Lib.trimSuffix u.data.toList [13]).toArray⟩ : ByteArray) = u.extract 0 (trE u) := by
  have hlen : u.data.toList.length = u.size := Array.length_toList
  apply ByteArray.ext
  apply Array.ext'
  rw [list_ext, List.drop_zero, Nat.sub_zero]
  show (Lib.trimSuffix u.data.toList [13]).toArray.toList = _
  rw [List.toList_toArray]
  rcases List.eq_nil_or_concat u.data.toList with h | ⟨l, c, h⟩
  · rw [h]; simp [Lib.trimSuffix, Lib.hasSuffix]
  · rw [List.concat_eq_append] at h
    have hz : u.size = l.length + 1 := by rw [← hlen, h]; simp
    have hc : Sc.bt u (u.size - 1) = c.toNat := by
      refine Sc.bt_list ?_
      rw [h, hz, Nat.add_sub_cancel, List.getElem?_append_right (Nat.le_refl _), Nat.sub_self]; rfl
    unfold Lib.trimSuffix trE
    rw [h, suffix_one]
    by_cases e : c = 13
    · rw [if_pos (by simpa using e), if_pos ⟨by omega, by rw [hc, e]; rfl⟩, hz]
      simp
    · rw [if_neg (by simpa using e), if_neg (fun hh => e (UInt8.toNat_inj.1 (by rw [← hc, hh.2]; rfl))), hz]
      rw [List.take_of_length_le (by simp)]
/-- Where a line's text ends; where the next line begins. -/
def le (s : ByteArray) (i : Nat) : Nat := if i < ln s i ∧ Sc.bt s (ln s i - 1) = 13 then ln s i - 1 else ln s i
def lx (s : ByteArray) (i : Nat) : Nat := if ln s i < s.size then ln s i + 1 else ln s i
theorem ln_ge {s : ByteArray} {i : Nat} (hi : i ≤ s.size) : i ≤ ln s i := Sc.ov_ge _ hi
theorem ln_le {s : ByteArray} {i : Nat} (hi : i ≤ s.size) : ln s i ≤ s.size := Sc.ov_le _ hi
theorem le_bd {s : ByteArray} {i : Nat} (hi : i ≤ s.size) : i ≤ le s i ∧ le s i ≤ ln s i := by
  have := ln_ge hi
  unfold le; split <;> omega
theorem lx_bd {s : ByteArray} {i : Nat} (hi : i < s.size) : i < lx s i ∧ lx s i ≤ s.size := by
  have h1 := ln_ge (Nat.le_of_lt hi)
  have h2 := ln_le (Nat.le_of_lt hi)
  unfold lx; split <;> omega
theorem ln_tail {s : ByteArray} {i : Nat} (hi : i ≤ s.size) : ln (s.extract i s.size) 0 = ln s i - i := by
  have h := Sc.ov_is Sc.noEndB hi
  have hz := Sc.size_ext s (a := i) (Nat.le_refl s.size)
  have h1 : i ≤ ln s i := h.ge
  have h2 : ln s i ≤ s.size := h.le
  refine Sc.ov_of ⟨Nat.zero_le _, by rw [hz]; omega, fun j _ hj => ?_, fun hj => ?_⟩
  · rw [Sc.bt_ext s (Nat.le_refl _) (by omega)]
    exact h.all (i + j) (by omega) (by show i + j < ln s i; omega)
  · rw [hz] at hj
    rw [Sc.bt_ext s (Nat.le_refl _) (by omega), show i + (ln s i - i) = ln s i by omega]
    exact h.stop (by show ln s i < s.size; omega)
theorem tr_line {s : ByteArray} {i : Nat} (hi : i ≤ s.size) : (s.extract i (ln s i)).extract 0 (trE (s.extract i (ln s i))) = s.extract i (le s i) := by
  have h1 := ln_ge hi
  have h2 := ln_le hi
  have hz := Sc.size_ext s (a := i) h2
  have e : trE (s.extract i (ln s i)) = le s i - i := by
    unfold trE le
    rw [hz]
    by_cases h0 : i < ln s i
    · rw [Sc.bt_ext s h2 (by omega), show i + (ln s i - i - 1) = ln s i - 1 by omega]
      by_cases h13 : Sc.bt s (ln s i - 1) = 13
      · rw [if_pos ⟨by omega, h13⟩, if_pos ⟨h0, h13⟩]; omega
      · rw [if_neg (fun h => h13 h.2), if_neg (fun h => h13 h.2)]
    · rw [if_neg (fun h => by omega), if_neg (fun h => h0 h.1)]
  have hb := le_bd hi
  rw [e]
  refine Sc.ext ?_ fun j hj => ?_
  · rw [Sc.size_ext _ (by rw [hz]; omega), Sc.size_ext s (by omega)]; omega
  · rw [Sc.size_ext _ (by rw [hz]; omega)] at hj
    rw [Sc.bt_ext _ (by rw [hz]; omega) (by omega), Sc.bt_ext s h2 (by omega), Sc.bt_ext s (by omega) (by omega)]
    congr 1; omega

theorem trimRC (u : ByteArray) (hu : u.size ≤ maxLen) (w : World) : Calls Try.prog 48 #[.string u, .string ⟨#[13]⟩] w fun e w' => e = .returned (.string (u.extract 0 (trE u))) ∧ w' = w := by
  unfold maxLen at hu
  refine (Try.strings_TrimSuffix u ⟨#[13]⟩ w (by omega)).mono ?_
  rintro e w' ⟨rfl, rfl⟩
  exact ⟨by rw [← trim_ext], rfl⟩
set_option maxRecDepth 100000 in
set_option maxHeartbeats 2000000 in
theorem lineAtC (s : ByteArray) (i : Nat) (hs : s.size ≤ maxLen) (hi : i ≤ s.size) (w : World) : Calls Try.prog 41 #[.string s, .int .i64 i] w fun e w' => e = .returned (.tuple #[.string (s.extract i (le s i)), .int .i64 (lx s i : Nat)]) ∧ ∃ k, w' = w.drewN k := by
  have hz := Sc.size_ext s (a := i) (Nat.le_refl s.size)
  have h1 := ln_ge hi
  have h2 := ln_le hi
  have hc := fun w => scutC (s.extract i s.size) (by rw [hz]; unfold maxLen at *; omega) w
  rw [ln_tail hi, hz, ext_head s (by omega), show i + (ln s i - i) = ln s i by omega] at hc
  have hz2 := Sc.size_ext s (a := i) h2
  have ht := fun w => trimRC (s.extract i (ln s i)) (by rw [hz2]; unfold maxLen at *; omega) w
  rw [tr_line hi] at ht
  unfold maxLen at hs
  have hi1 : (i : Int) ≤ (s.size : Int) := by omega
  have hw1 : IntKind.i64.wrap ((i : Int) + ((ln s i - i : Nat) : Int)) = ((ln s i : Nat) : Int) := by rw [IntKind.wrap_i64]; omega
  clear hz
  by_cases hlt : ln s i < s.size
  · rw [decide_eq_true (show ln s i - i < s.size - i by omega)] at hc
    have e : lx s i = ln s i + 1 := by unfold lx; rw [if_pos hlt]
    rw [e]
    have hw2 : IntKind.i64.wrap ((ln s i : Int) + 1) = ((ln s i + 1 : Nat) : Int) := by rw [IntKind.wrap_i64]; omega
    clear e
    go_enter Try.func41, Try.ntmps41
    go_wp2_with (first | (go_at_call 47; refine (hc _).mono ?_; rintro e w1 ⟨r, rfl, k, rfl⟩) | (go_at_call 48; refine (ht _).mono ?_; rintro e w2 ⟨rfl, hw2⟩; subst w2))
    go_ret2
    exact ⟨rfl, _, rfl⟩
  · rw [decide_eq_false (show ¬ ln s i - i < s.size - i by omega)] at hc
    have e : lx s i = ln s i := by unfold lx; rw [if_neg hlt]
    rw [e]
    clear e
    go_enter Try.func41, Try.ntmps41
    go_wp2_with (first | (go_at_call 47; refine (hc _).mono ?_; rintro e w1 ⟨r, rfl, k, rfl⟩) | (go_at_call 48; refine (ht _).mono ?_; rintro e w2 ⟨rfl, hw2⟩; subst w2))
    go_ret2
    exact ⟨rfl, _, rfl⟩

def lnF : Nat → ByteArray → Nat → List Nat
  | 0, _, _ => []
  | f + 1, s, i => if i < s.size then i :: lnF f s (lx s i) else []
/-- The lines' beginnings. -/
def lns (s : ByteArray) : List Nat := lnF (s.size + 1) s 0
theorem lnF_fuel (s : ByteArray) : ∀ (f k i : Nat), s.size < i + f → s.size < i + k → lnF f s i = lnF k s i
  | 0, 0, i, _, _ => rfl
  | 0, k + 1, i, h, h' => by rw [lnF, lnF, if_neg (by omega)]
  | f + 1, 0, i, h, h' => by rw [lnF, lnF, if_neg (by omega)]
  | f + 1, k + 1, i, h, h' => by
    rw [lnF, lnF]
    by_cases h0 : i < s.size
    · have := lx_bd h0
      rw [if_pos h0, if_pos h0, lnF_fuel s f k _ (by omega) (by omega)]
    · rw [if_neg h0, if_neg h0]
abbrev lineV (s : ByteArray) (x : Nat) : Array Value := #[.int .i64 (x : Nat), .string (s.extract x (le s x))]
set_option maxRecDepth 100000 in
set_option maxHeartbeats 2000000 in
theorem lines1_in (n : Nat) (hn : 1 ≤ n) (l Bs : Nat) (s : ByteArray) (hs : s.size ≤ maxLen) (J Jx : List Nat → World → Prop)
    (hY : ∀ pre x W, x ≤ s.size → J pre W → pre.length < s.size + 1 → YieldAt Fence.wide (n - 1) Try.prog l (lineV s x) W fun e W' =>
      (e = .returned (.bool true) ∧ J (pre ++ [x]) W' ∧ Kb Bs W W') ∨ (e = .returned (.bool false) ∧ Jx (pre ++ [x]) W'))
    (W : World) (hBs : W.cell? ⟨Bs, 0, none⟩ = some (.string s)) (hJd : ∀ pre W k, J pre W → J pre (W.drewN k)) (h0 : J [] W) :
    CallsIn Fence.wide n Try.prog 40 #[.func (.yield l) #[] #[], .pointer (some ⟨Bs, 0, none⟩)] W fun e W' => (∃ v, e = .returned v) ∧
      ((∃ ys, ys = lns s ∧ J ys W') ∨ (∃ pre, (∃ q, pre ++ q = lns s) ∧ Jx pre W')) := by
  have hm := hs
  unfold maxLen at hm
  refine callsIn_of_wp Try.func40 rfl trivial ?_ rfl
  simp only [Try.ntmps40, List.size_toArray, List.length_cons, List.length_nil, Nat.reduceAdd, Nat.reduceSub, Array.replicate_succ, Array.replicate_zero, List.push_toArray, List.append_toArray, List.nil_append, List.cons_append]
  gi_wp2
  gi_loopw [3] (fun v wr => ∃ (k : Nat) (pre : List Nat), k ≤ s.size ∧ v = .int .i64 k ∧ Hid (pre ++ lnF (s.size + 1) s k = lns s) ∧ pre.length ≤ k ∧ J pre wr ∧ Kb Bs W wr)
    (fun v _ => s.size - (intOf v).toNat)
  case atStart => exact ⟨0, [], Nat.zero_le _, rfl, rfl, Nat.zero_le _, h0, Kb.refl _ _⟩
  case round =>
    obtain ⟨k, pre, hk, rfl, HP, hpl, hJ, hnx⟩ := hrel
    have hBr := hnx.cell.trans hBs
    by_cases hlt : k < s.size
    · have hlt' : (k : Int) < (s.size : Int) := by omega
      have hb := lx_bd hlt
      have HN : Hid ((pre ++ [k]) ++ lnF (s.size + 1) s (lx s k) = lns s) := by
        have hpk : lnF (s.size + 1) s k = k :: lnF s.size s (lx s k) := by rw [lnF, if_pos hlt]
        unfold Hid
        rw [← HP.out, hpk, List.append_assoc, List.singleton_append, lnF_fuel s (s.size + 1) s.size (lx s k) (by omega) (by omega)]
      have hla := fun w => lineAtC s k hs hk w
      clear HP
      gi_wp2_with (refine ⟨trivial, ?_⟩; gi_at_call 41; refine (callsIn_wide.2 (hla _)).mono ?_; rintro e w8 ⟨rfl, q8, hw8⟩; subst w8; obtain ⟨fn, tmps, assign, body, hy, hR⟩ := hY pre k (wr.drewN q8) hk (hJd _ _ _ hJ) (by omega))
      refine hR.mono ?_
      rintro e W3 (⟨rfl, hJ3, hk3⟩ | ⟨rfl, hJx3⟩)
      · have hB3 := hk3.cell.trans (show (wr.drewN q8).cell? ⟨Bs, 0, none⟩ = _ from hBr)
        gi_wp2
        go_roundw
        case rel => exact ⟨lx s k, pre ++ [k], by omega, rfl, HN, by rw [List.length_append]; simp only [List.length_cons, List.length_nil]; omega, hJ3, hnx.trans hk3⟩
        case measure => simp [intOf]; omega
      · gi_wp2
        refine bodyPost_ret (results_none rfl _ _ _) rfl ?_
        exact ⟨⟨_, rfl⟩, .inr ⟨_, ⟨_, HN.out⟩, hJx3⟩⟩
    · have HE : Hid (pre = lns s) := by
        unfold Hid
        rw [← HP.out, lnF, if_neg hlt, List.append_nil]
      clear HP
      gi_wp2
      go_end0
      exact ⟨⟨_, rfl⟩, .inl ⟨_, HE.out, hJ⟩⟩
set_option maxHeartbeats 1000000 in
theorem lines_in (n : Nat) (s : ByteArray) (w : World) :
    CallsIn Fence.wide n Try.prog 27 #[.string s] w fun e w' => e = .returned (.func (.func 40) #[] #[.pointer (some ⟨w.heap.size, 0, none⟩)]) ∧ w' = w.alloc (.cells #[.string s] 9) := by
  refine callsIn_of_wp Try.func27 rfl trivial ?_ rfl
  simp only [Try.ntmps27, List.size_toArray, List.length_cons, List.length_nil, Nat.reduceAdd, Nat.reduceSub, Array.replicate_succ, Array.replicate_zero, List.push_toArray, List.append_toArray, List.nil_append, List.cons_append]
  gi_wp2
  go_ret
  exact ⟨rfl, rfl⟩
theorem lines_stops (n : Nat) (hn : 1 ≤ n) (Bs : Nat) (s : ByteArray) (hs : s.size ≤ maxLen) (w : World) (hBs : w.cell? ⟨Bs, 0, none⟩ = some (.string s)) :
    SeqStopsK Fence.wide n Try.prog 40 #[.pointer (some ⟨Bs, 0, none⟩)] (lineV s) (Kb Bs) (fun ys => ys = lns s) (fun pre => ∃ q, pre ++ q = lns s) (s.size + 1) w := fun l J Jx W hW hA _ hY h0 => by
  have hb := cell_lt hBs
  exact lines1_in n hn l Bs s hs J Jx (fun pre x W _ => hY pre x W) W ((hW.cell (p := ⟨Bs, 0, none⟩) hb).trans hBs) (fun pre W k h => hA pre W (W.drewN k) none h (gb_drewN (World.grownBy.refl _ _) _) (fun r e => by cases e)) h0
end Go.Proofs.Ytjacoifhjfipaaa
