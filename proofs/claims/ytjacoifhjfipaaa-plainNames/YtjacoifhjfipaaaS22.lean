/- lineAt of package scan: what it answers. -/
import Derived.Test.YtjacoifhjfipaaaLh
namespace Go.Proofs.Ytjacoifhjfipaaa
open Go.RowKit
set_option linter.unusedVariables false
set_option linter.unusedSimpArgs false

theorem idx_spec (c : UInt8) : ∀ l : List UInt8, (Lib.indexByte l c = -1 ∧ ∀ (j : Nat) x, l[j]? = some x → x ≠ c) ∨ (∃ k : Nat, Lib.indexByte l c = k ∧ l[k]? = some c ∧ ∀ (j : Nat) x, j < k → l[j]? = some x → x ≠ c)
  | [] => .inl ⟨rfl, fun j x h => by simp at h⟩
  | b :: l => by
    rw [Lib.indexByte]
    by_cases hb : b = c
    · subst hb
      exact .inr ⟨0, by simp, rfl, fun j x h => by omega⟩
    · rw [if_neg (by simpa using hb)]
      rcases idx_spec c l with ⟨h1, h2⟩ | ⟨k, h1, h2, h3⟩
      · refine .inl ⟨by rw [h1]; rfl, fun j x h => ?_⟩
        cases j with
        | zero => simp at h; rw [← h]; exact hb
        | succ j => exact h2 j x (by simpa using h)
      · refine .inr ⟨k + 1, ?_, by simpa using h2, fun j x hj h => ?_⟩
        · rw [h1, if_neg (by first | (simp; done) | (simp; omega))]; try omega
        · cases j with
          | zero => simp at h; rw [← h]; exact hb
          | succ j => exact h3 j x (by omega) (by simpa using h)
/-- Where the line ends. -/
def ln (s : ByteArray) (i : Nat) : Nat := Sc.ov Sc.noEndB s i
def ixZ (t : ByteArray) : Int := if ln t 0 < t.size then (ln t 0 : Nat) else -1
theorem noEnd_iff (c : Nat) : Sc.noEndB c = true ↔ c ≠ 10 := by unfold Sc.noEndB Sc.eqB; simp; omega
theorem noEnd_no (c : Nat) : Sc.noEndB c = false ↔ c = 10 := by unfold Sc.noEndB Sc.eqB; simp; omega
theorem idx_ln (t : ByteArray) : Lib.indexByte t.data.toList 10 = ixZ t := by
  have hlen : t.data.toList.length = t.size := Array.length_toList
  unfold ixZ ln
  rcases idx_spec 10 t.data.toList with ⟨h1, h2⟩ | ⟨k, h1, h2, h3⟩
  · have e : Sc.ov Sc.noEndB t 0 = t.size := Sc.ov_of ⟨Nat.zero_le _, Nat.le_refl _, fun j _ hj => by
      obtain ⟨c, hc, hn⟩ := Sc.list_bt hj
      rw [noEnd_iff, ← hn]
      intro h
      exact h2 j c hc (UInt8.toNat_inj.1 (by rw [h]; rfl)), fun h => absurd h (Nat.lt_irrefl _)⟩
    rw [h1, e, if_neg (Nat.lt_irrefl _)]
  · have hk : k < t.size := by rw [← hlen]; exact (List.getElem?_eq_some_iff.1 h2).1
    have e : Sc.ov Sc.noEndB t 0 = k := Sc.ov_of ⟨Nat.zero_le _, Nat.le_of_lt hk, fun j _ hj => by
      obtain ⟨c, hc, hn⟩ := Sc.list_bt (s := t) (i := j) (by omega)
      rw [noEnd_iff, ← hn]
      intro h
      exact h3 j c hj hc (UInt8.toNat_inj.1 (by rw [h]; rfl)), fun _ => by rw [noEnd_no, Sc.bt_list h2]; rfl⟩
    rw [h1, e, if_pos hk]
set_option maxRecDepth 100000 in
set_option maxHeartbeats 2000000 in
theorem indexC (t : ByteArray) (w : World) : Calls Try.prog 51 #[.string t, .string ⟨#[10]⟩] w fun e w' => e = .returned (.int .i64 (ixZ t)) ∧ w' = w := by
  have hib := fun w => Try.stringslite_IndexByte t 10 w
  have e10 : (10 : Int).toNat.toUInt8 = 10 := rfl
  rw [e10, idx_ln] at hib
  cases h1 : (t.toList == [10]) with
  | true =>
    have ht : t = ⟨#[10]⟩ := by
      rw [Lib.toList_data, beq_iff_eq] at h1
      exact ByteArray.ext (Array.ext' h1)
    subst ht
    clear hib
    go_enter Try.func51, Try.ntmps51
    go_wp2
    go_ret
    exact ⟨congrArg (fun z => Ending.returned (Value.int .i64 z)) (show (0 : Int) = ixZ ⟨#[10]⟩ by decide +kernel), rfl⟩
  | false =>
    have h2 : ([10] == t.toList) = false := by
      rw [beq_eq_false_iff_ne] at h1 ⊢
      exact fun h => h1 h.symm
    go_enter Try.func51, Try.ntmps51
    go_wp2_with (go_at_call 53; refine (hib _).mono ?_; rintro e w' ⟨rfl, rfl⟩)
    go_ret
    exact ⟨rfl, rfl⟩
theorem ret_ssb {a b c d : ByteArray} {x y : Bool} (h1 : a = b) (h3 : x = y) : Ending.returned (.tuple #[.string a, .string c, .bool x]) = .returned (.tuple #[.string b, .string c, .bool y]) := by rw [h1, h3]
set_option maxRecDepth 100000 in
set_option maxHeartbeats 2000000 in
theorem cutC (t : ByteArray) (ht : t.size ≤ maxLen) (w : World) : Calls Try.prog 49 #[.string t, .string ⟨#[10]⟩] w fun e w' => ∃ r, e = .returned (.tuple #[.string (t.extract 0 (ln t 0)), .string r, .bool (decide (ln t 0 < t.size))]) ∧ ∃ k, w' = w.drewN k := by
  unfold maxLen at ht
  have hx := fun w => indexC t w
  unfold ixZ at hx
  have hO := Sc.ov_is Sc.noEndB (s := t) (i := 0) (Nat.zero_le _)
  have hle : ln t 0 ≤ t.size := hO.le
  by_cases h : ln t 0 < t.size
  · rw [if_pos h] at hx
    rw [decide_eq_true h]
    have h1 : (0 : Int) ≤ (ln t 0 : Nat) := by omega
    have h2 : (ln t 0 : Int) ≤ (t.size : Int) := by omega
    have h3 : IntKind.i64.wrap ((ln t 0 : Int) + 1) = ((ln t 0 + 1 : Nat) : Int) := by rw [IntKind.wrap_i64]; omega
    have h4 : (ln t 0 : Int) + 1 ≤ (t.size : Int) := by omega
    generalize ln t 0 = k at *
    go_enter Try.func49, Try.ntmps49
    go_wp2_with (go_at_call 51; refine (hx _).mono ?_; rintro e w' ⟨rfl, hw'⟩; subst w')
    go_quiet (fail)
    go_wp2
    refine bodyPost_ret (results_tmp3 rfl _ _ _) rfl ?_
    exact ⟨_, rfl, _, rfl⟩
  · rw [if_neg h] at hx
    have e : ln t 0 = t.size := by omega
    rw [decide_eq_false h, e, ext_all]
    go_enter Try.func49, Try.ntmps49
    go_wp2_with (go_at_call 51; refine (hx _).mono ?_; rintro e w' ⟨rfl, hw'⟩; subst w')
    refine bodyPost_ret (results_tmp3 rfl _ _ _) rfl ?_
    exact ⟨_, rfl, 0, rfl⟩
theorem scutC (t : ByteArray) (ht : t.size ≤ maxLen) (w : World) : Calls Try.prog 47 #[.string t, .string ⟨#[10]⟩] w fun e w' => ∃ r, e = .returned (.tuple #[.string (t.extract 0 (ln t 0)), .string r, .bool (decide (ln t 0 < t.size))]) ∧ ∃ k, w' = w.drewN k := by
  go_enter Try.func47, Try.ntmps47
  go_wp2_with (go_at_call 49; refine (cutC t ht _).mono ?_; rintro e w' ⟨r, rfl, k, rfl⟩)
  refine bodyPost_ret (results_tmp3 rfl _ _ _) rfl ?_
  exact ⟨_, rfl, _, rfl⟩
end Go.Proofs.Ytjacoifhjfipaaa
