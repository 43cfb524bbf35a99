/- The document's State: what it answers. -/
import Derived.Test.YtimknahfgpafaaaDoorS4
namespace Go.Proofs.YtimknahfgpafaaaDoor
open Go.RowKit
set_option linter.unusedVariables false
set_option linter.unusedSimpArgs false

theorem eq_of_lists {t u : ByteArray} (h : (t.toList == u.toList) = true) : t = u := by
  rw [Lib.toList_data, Lib.toList_data, beq_iff_eq] at h
  exact ByteArray.ext (Array.ext' h)
theorem lists_ne {t u : ByteArray} (h : (t.toList == u.toList) = false) : t ≠ u := by
  rintro rfl
  rw [beq_self_eq_true] at h; cases h
theorem stT_all : ∀ n : Fin 256, stOf (tagT n.val) = some n.val := by decide +kernel
theorem stF_all : ∀ n : Fin 256, tagF n.val = ⟨#[]⟩ ∨ stOf (tagF n.val) = some n.val := by decide +kernel
theorem one_all : ∀ c : Fin 256, ∀ v, st1 c.val = some v → v < 256 ∧ ((⟨#[UInt8.ofNat c.val]⟩ : ByteArray) = tagT v ∨ (⟨#[UInt8.ofNat c.val]⟩ : ByteArray) = tagF v) := by
  have h : ∀ c : Fin 256, (match st1 c.val with | some v => decide (v < 256 ∧ ((⟨#[UInt8.ofNat c.val]⟩ : ByteArray) = tagT v ∨ (⟨#[UInt8.ofNat c.val]⟩ : ByteArray) = tagF v)) | none => true) = true := by decide +kernel
  intro c v hv
  have := h c
  rw [hv] at this
  simpa using this
theorem stOf_some {t : ByteArray} {v : Nat} (h : stOf t = some v) : v < 256 ∧ (t = tagT v ∨ t = tagF v) := by
  unfold stOf at h
  by_cases h1 : t.size = 1
  · rw [if_pos h1] at h
    have h2 := one_all ⟨Sc.bt t 0, Sc.bt_lt t 0⟩ v h
    have h3 : t = ⟨#[UInt8.ofNat (Sc.bt t 0)]⟩ := by
      refine Sc.ext (by rw [h1]; rfl) fun i hi => ?_
      obtain rfl : i = 0 := by omega
      have : Sc.bt ⟨#[UInt8.ofNat (Sc.bt t 0)]⟩ 0 = (UInt8.ofNat (Sc.bt t 0)).toNat := rfl
      rw [this, UInt8.toNat_ofNat', Nat.mod_eq_of_lt (Sc.bt_lt t 0)]
    exact ⟨h2.1, by rw [h3]; exact h2.2⟩
  · rw [if_neg h1] at h
    by_cases h2 : t.size = 2
    · rw [if_pos h2] at h
      unfold st2 at h
      split at h
      case isFalse => cases h
      case isTrue hc =>
        obtain ⟨ha, hb, hv⟩ := hc
        unfold Sc.twoB at ha
        unfold Sc.stateB at hb
        rw [Sc.wi_iff] at ha hb
        cases h
        refine ⟨hv, .inl ?_⟩
        unfold tagT
        rw [if_neg (by omega), if_neg (by omega)]
        refine Sc.ext (by rw [h2]; rfl) fun i hi => ?_
        rw [h2] at hi
        rcases (by omega : i = 0 ∨ i = 1) with rfl | rfl
        · have : ∀ x y : UInt8, Sc.bt ⟨#[x, y]⟩ 0 = x.toNat := fun _ _ => rfl
          rw [this, UInt8.toNat_ofNat']
          omega
        · have : ∀ x y : UInt8, Sc.bt ⟨#[x, y]⟩ 1 = y.toNat := fun _ _ => rfl
          rw [this, UInt8.toNat_ofNat']
          omega
    · rw [if_neg h2] at h; cases h

theorem ret_nb' {x : Option Nat} {a : Nat} {c : Bool} (h : Hid (oN x = a)) (hp : Hid (oB x = c)) : Ending.returned (.tuple #[.int .u8 (a : Nat), .bool c]) = .returned (.tuple #[.int .u8 (oN x : Nat), .bool (oB x)]) := by rw [h.out, hp.out]
set_option maxRecDepth 100000 in
set_option maxHeartbeats 4000000 in
theorem rstateC (t : ByteArray) (w : World) : Calls Tryd.prog 23 #[.string t] w fun e w' => e = .returned (.tuple #[.int .u8 (oN (stOf t) : Nat), .bool (oB (stOf t))]) ∧ w.grownBy w' none := by
  by_cases ht : t.size = 0
  · have ht' : t = ⟨#[]⟩ := Sc.ext (by rw [ht]; rfl) fun i hi => by omega
    subst ht'
    go_enter Tryd.func23, Tryd.ntmps23
    go_wp2
    go_loopw [4] (fun v wr => ∃ n : Nat, n ≤ 256 ∧ v = .int .i64 n ∧ wr = w) (fun v _ => 256 - (intOf v).toNat)
    case atStart => exact ⟨0, by omega, rfl, rfl⟩
    case round =>
      obtain ⟨n, hn, rfl, rfl⟩ := hrel
      by_cases hlt : n < 256
      · have hlt' : (n : Int) < 256 := by omega
        go_wp2
        go_roundw
        case rel => exact ⟨n + 1, by omega, by go_num, by first | rfl | trivial⟩
        case measure => simp [intOf]; omega
      · have hlt' : ¬ (n : Int) < 256 := by omega
        go_wp2
        go_ret2
        exact ⟨rfl, World.grownBy.refl _ _⟩
  · have he : t.toList.isEmpty = false := by
      rw [Lib.toList_data]
      cases hl : t.data.toList with
      | nil =>
        have : t.data.toList.length = t.size := Array.length_toList
        rw [hl] at this
        exact absurd this.symm ht
      | cons c r => rfl
    go_enter Tryd.func23, Tryd.ntmps23
    go_wp2
    go_loopw [4] (fun v wr => ∃ n : Nat, n ≤ 256 ∧ v = .int .i64 n ∧ Hid (∀ j, j < n → t ≠ tagT j ∧ t ≠ tagF j) ∧ w.grownBy wr none) (fun v _ => 256 - (intOf v).toNat)
    case atStart => exact ⟨0, by omega, rfl, fun j h => by omega, World.grownBy.refl _ _⟩
    case round =>
      obtain ⟨n, hn, rfl, HM, hg⟩ := hrel
      by_cases hlt : n < 256
      · have hlt' : (n : Int) < 256 := by omega
        cases hT : (t.toList == (tagT n).toList) with
        | true =>
          have HE : Hid (stOf t = some n) := by
            unfold Hid; rw [eq_of_lists hT]; exact stT_all ⟨n, hlt⟩
          go_wp2_with (first | (go_at_call_of 25 (Value.bool true); refine (rtagTC n _ hlt).mono ?_; rintro e w2 ⟨rfl, g2⟩) | (go_at_call_of 25 (Value.bool false); refine (rtagFC n _ hlt).mono ?_; rintro e w3 ⟨rfl, hw3⟩; subst w3))
          go_ret2
          exact ⟨by rw [HE.out]; rfl, gb_trans hg g2⟩
        | false =>
          cases hF : (t.toList == (tagF n).toList) with
          | true =>
            have HE : Hid (stOf t = some n) := by
              unfold Hid
              have e := eq_of_lists hF
              rcases stF_all ⟨n, hlt⟩ with h | h
              · rw [e, h] at ht; exact absurd rfl ht
              · rw [e]; exact h
            go_wp2_with (first | (go_at_call_of 25 (Value.bool true); refine (rtagTC n _ hlt).mono ?_; rintro e w2 ⟨rfl, g2⟩) | (go_at_call_of 25 (Value.bool false); refine (rtagFC n _ hlt).mono ?_; rintro e w3 ⟨rfl, hw3⟩; subst w3))
            go_ret2
            exact ⟨by rw [HE.out]; rfl, gb_trans hg g2⟩
          | false =>
            go_wp2_with (first | (go_at_call_of 25 (Value.bool true); refine (rtagTC n _ hlt).mono ?_; rintro e w2 ⟨rfl, g2⟩) | (go_at_call_of 25 (Value.bool false); refine (rtagFC n _ hlt).mono ?_; rintro e w3 ⟨rfl, hw3⟩; subst w3))
            go_roundw
            case rel => exact ⟨n + 1, by omega, by go_num, fun j hj => by
              by_cases e : j = n
              · rw [e]; exact ⟨lists_ne hT, lists_ne hF⟩
              · exact HM.out j (by omega), gb_trans hg g2⟩
            case measure => simp [intOf]; omega
      · have hlt' : ¬ (n : Int) < 256 := by omega
        have HE : Hid (stOf t = none) := by
          unfold Hid
          cases h : stOf t with
          | none => rfl
          | some v =>
            have h2 := stOf_some h
            have h3 := HM.out v (by omega)
            rcases h2.2 with e | e
            · exact absurd e h3.1
            · exact absurd e h3.2
        go_wp2
        go_ret2
        exact ⟨by rw [HE.out]; rfl, hg⟩
end Go.Proofs.YtimknahfgpafaaaDoor
