/- A run's count and its tag: what the cutter of package scan answers. -/
import Derived.Test.YtimknahfgpafaaaDoorS3
import Derived.Test.YtimknahfgpafaaaDoorS4
namespace Go.Proofs.YtimknahfgpafaaaDoor
open Go.RowKit
set_option linter.unusedVariables false
set_option linter.unusedSimpArgs false

set_option maxRecDepth 100000 in
set_option maxHeartbeats 1000000 in
theorem countNone (b : Nat) (s : ByteArray) (i : Nat) (w : World) (h : Cu w b s i) (hs : s.size ≤ maxLen) (hi : i ≤ s.size) (hn : Hid (dg s i = i)) : Calls Tryd.prog 65 #[.pointer (some ⟨b, 0, none⟩)] w fun e w' => e = .returned (.tuple #[.int .i64 1, .int .i64 0]) ∧ ∃ k, w' = w.drewN k := by
  go_enter Tryd.func65, Tryd.ntmps65
  go_wp2_with (go_at_call 27; refine (numberNo b s i _ h hs hi hn).mono ?_; rintro e w' ⟨rfl, k, rfl⟩)
  go_ret2
  exact ⟨rfl, _, rfl⟩
set_option maxRecDepth 100000 in
set_option maxHeartbeats 1000000 in
theorem countOk (b : Nat) (s : ByteArray) (i : Nat) (w : World) (h : Cu w b s i) (hs : s.size ≤ maxLen) (hi : i ≤ s.size) (hn : Hid (i < dg s i)) (h1 : 1 ≤ numV s i) (h2 : numV s i ≤ 1099511627776) (tp : TypeId) (p : Value) (hE : Hid (Er tp p w)) (hG : 4 < w.heap.size) :
    Calls Tryd.prog 65 #[.pointer (some ⟨b, 0, none⟩)] w fun e w' => e = .returned (.tuple #[.int .i64 (numV s i : Nat), .int .i64 0]) ∧ Cu w' b s (dg s i) ∧ w.grownBy w' (some b) := by
  have h3 : ¬ (numV s i : Int) < 1 := by omega
  have h4 : ¬ (1099511627776 : Int) < (numV s i : Int) := by omega
  have h5 : Hid (numV s i ≤ 9223372036854775807) := by unfold Hid; omega
  go_enter Tryd.func65, Tryd.ntmps65
  go_wp2_with (go_at_call 27; refine (numberOk b s i _ h hs hi hn h5 tp p hE hG).mono ?_; rintro e w1 ⟨rfl, hc, hg⟩)
  go_ret2
  exact ⟨rfl, hc, hg⟩
set_option maxRecDepth 100000 in
set_option maxHeartbeats 1000000 in
theorem countBad (b : Nat) (s : ByteArray) (i : Nat) (w : World) (h : Cu w b s i) (hs : s.size ≤ maxLen) (hi : i ≤ s.size) (hn : Hid (i < dg s i)) (hv : Hid (¬ (1 ≤ numV s i ∧ numV s i ≤ 1099511627776))) (tp : TypeId) (p : Value) (hE : Hid (Er tp p w)) (hG : 4 < w.heap.size) :
    Calls Tryd.prog 65 #[.pointer (some ⟨b, 0, none⟩)] w fun e w' => e = .returned (.tuple #[.int .i64 0, .int .i64 11]) ∧ w.grownBy w' (some b) := by
  by_cases h5 : numV s i ≤ 9223372036854775807
  · by_cases h1 : 1 ≤ numV s i
    · have h3 : ¬ (numV s i : Int) < 1 := by omega
      have h4 : (1099511627776 : Int) < (numV s i : Int) := by have := hv.out; omega
      go_enter Tryd.func65, Tryd.ntmps65
      go_wp2_with (go_at_call 27; refine (numberOk b s i _ h hs hi hn h5 tp p hE hG).mono ?_; rintro e w1 ⟨rfl, hc, hg⟩)
      go_ret2
      exact ⟨rfl, hg⟩
    · have h3 : (numV s i : Int) < 1 := by omega
      go_enter Tryd.func65, Tryd.ntmps65
      go_wp2_with (go_at_call 27; refine (numberOk b s i _ h hs hi hn h5 tp p hE hG).mono ?_; rintro e w1 ⟨rfl, hc, hg⟩)
      go_ret2
      exact ⟨rfl, hg⟩
  · go_enter Tryd.func65, Tryd.ntmps65
    go_wp2_with (go_at_call 27; refine (numberFar b s i _ h hs hi hn h5 tp p hE hG).mono ?_; rintro e w1 ⟨rfl, hg⟩)
    go_ret2
    exact ⟨rfl, gb_none (World.grownBy.refl _ _) hg⟩

/-- How many bytes a tag has that begins at i. -/
def tl (s : ByteArray) (i : Nat) : Nat := if Sc.twoB (Sc.bt s i) = true then 2 else 1
def tagAt (s : ByteArray) (i : Nat) : ByteArray := s.extract i (i + tl s i)
/-- Whether they are a tag. -/
def tagB (s : ByteArray) (i : Nat) : Bool := oB (stOf (tagAt s i)) || decide (Sc.bt s i = 36 ∧ tl s i = 1)
set_option maxRecDepth 100000 in
set_option maxHeartbeats 1000000 in
theorem tagNone (b : Nat) (s : ByteArray) (w : World) (h : Cu w b s s.size) (hs : s.size ≤ maxLen) : Calls Tryd.prog 66 #[.pointer (some ⟨b, 0, none⟩)] w fun e w' => e = .returned (.tuple #[.string ⟨#[]⟩, .int .i64 30]) ∧ ∃ k, w' = w.drewN k := by
  have x1 := h.c1
  have x2 := h.c2
  have hx : s.extract s.size s.size = ⟨#[]⟩ := Sc.ext (by rw [Sc.size_ext s (Nat.le_refl _), Nat.sub_self]; rfl) fun j hj => by rw [Sc.size_ext s (Nat.le_refl _), Nat.sub_self] at hj; omega
  go_enter Tryd.func66, Tryd.ntmps66
  go_wp2
  go_quiet (fail)
  go_wp2
  go_ret2
  exact ⟨rfl, _, rfl⟩
set_option maxRecDepth 100000 in
set_option maxHeartbeats 1000000 in
theorem tagShort (b : Nat) (s : ByteArray) (i : Nat) (w : World) (h : Cu w b s i) (hs : s.size ≤ maxLen) (hi : i < s.size) (hl : s.size < i + tl s i) : Calls Tryd.prog 66 #[.pointer (some ⟨b, 0, none⟩)] w fun e w' => e = .returned (.tuple #[.string ⟨#[]⟩, .int .i64 30]) ∧ ∃ k, w' = w.drewN k := by
  have x1 := h.c1
  have x2 := h.c2
  have ht : Sc.twoB (Sc.bt s i) = true := by unfold tl at hl; split at hl <;> first | assumption | omega
  obtain ⟨t, hx⟩ : ∃ t, s.extract i s.size = t := ⟨_, rfl⟩
  have hz : t.size = s.size - i := by rw [← hx]; exact Sc.size_ext s (Nat.le_refl _)
  have hz1 : t.size = 1 := by unfold tl at hl; rw [if_pos ht] at hl; omega
  have h0 : 0 < t.size := by omega
  have hb : (t[0]).toNat = Sc.bt s i := by rw [Sc.bt_at h0, ← hx, Sc.bt_ext s (Nat.le_refl _) (by omega)]; rfl
  have he : t.toList.isEmpty = false := empty_no (by omega)
  have hi1 : (i : Int) ≤ (s.size : Int) := by omega
  clear hz hl
  go_enter Tryd.func66, Tryd.ntmps66
  go_wp2
  go_quiet (fail)
  go_wp2_with (go_at_call 68; refine (beginsTwoC _ _).mono ?_; rintro e w' ⟨rfl, rfl⟩)
  go_ret2
  exact ⟨rfl, _, rfl⟩
theorem ext_head (s : ByteArray) {i k : Nat} (h : i + k ≤ s.size) : (s.extract i s.size).extract 0 k = s.extract i (i + k) := by
  have e0 := Sc.size_ext s (a := i) (Nat.le_refl s.size)
  have e2 := Sc.size_ext s (a := i) h
  refine Sc.ext ?_ fun j hj => ?_
  · rw [Sc.size_ext _ (by rw [e0]; omega), e2]; omega
  · rw [Sc.size_ext _ (by rw [e0]; omega)] at hj
    rw [Sc.bt_ext _ (by rw [e0]; omega) (by omega), Sc.bt_ext _ (Nat.le_refl _) (by omega), Sc.bt_ext _ h (by omega)]
    congr 1; omega

set_option maxRecDepth 100000 in
set_option maxHeartbeats 1000000 in
theorem tagIs1 (b : Nat) (s : ByteArray) (i : Nat) (w : World) (h : Cu w b s i) (hs : s.size ≤ maxLen) (hi : i + 1 ≤ s.size) (ht : Sc.twoB (Sc.bt s i) = false) (t1 : ByteArray) (ht1 : Hid (s.extract i (i + 1) = t1)) (hb : oB (stOf t1) = true) : Calls Tryd.prog 66 #[.pointer (some ⟨b, 0, none⟩)] w fun e w' => e = .returned (.tuple #[.string (s.extract i (i + 1)), .int .i64 0]) ∧ Cu w' b s (i + 1) ∧ w.grownBy w' (some b) := by
  have x1 := h.c1
  have x2 := h.c2
  have y2 := h.f2
  have hm := hs
  unfold maxLen at hm
  obtain ⟨t, hx⟩ : ∃ t, s.extract i s.size = t := ⟨_, rfl⟩
  have hz : t.size = s.size - i := by rw [← hx]; exact Sc.size_ext s (Nat.le_refl _)
  have h0 : 0 < t.size := by omega
  have hb0 : (t[0]).toNat = Sc.bt s i := by rw [Sc.bt_at h0, ← hx, Sc.bt_ext s (Nat.le_refl _) (by omega)]; rfl
  have he : t.toList.isEmpty = false := empty_no (by omega)
  have hi1 : (i : Int) ≤ (s.size : Int) := by omega
  have hl1 : ¬ (t.size : Int) < 1 := by omega
  have hl2 : (1 : Int) ≤ (t.size : Int) := by omega
  have hh : t.extract 0 1 = t1 := by rw [← hx, ext_head s hi]; exact ht1.out
  have hw : IntKind.i64.wrap ((i : Int) + 1) = ((i + 1 : Nat) : Int) := by rw [IntKind.wrap_i64]; omega
  clear hz
  go_enter Tryd.func66, Tryd.ntmps66
  go_wp2
  go_quiet (fail)
  go_wp2_with (first | (go_at_call 68; refine (beginsTwoC _ _).mono ?_; rintro e w' ⟨rfl, rfl⟩) | (go_at_call 22; refine (stateC _ _).mono ?_; rintro e w' ⟨rfl, k2, rfl⟩))
  go_ret2
  exact ⟨by rw [ht1.out]; rfl, Cu.set (Cu.drew h) _, gb_set (gb_drewN (World.grownBy.refl _ _) _) _ _⟩

set_option maxRecDepth 100000 in
set_option maxHeartbeats 1000000 in
theorem tagRow1 (b : Nat) (s : ByteArray) (i : Nat) (w : World) (h : Cu w b s i) (hs : s.size ≤ maxLen) (hi : i + 1 ≤ s.size) (ht : Sc.twoB (Sc.bt s i) = false) (t1 : ByteArray) (ht1 : Hid (s.extract i (i + 1) = t1)) (hb : oB (stOf t1) = false) (hr : (t1.toList == [36]) = true) : Calls Tryd.prog 66 #[.pointer (some ⟨b, 0, none⟩)] w fun e w' => e = .returned (.tuple #[.string (s.extract i (i + 1)), .int .i64 0]) ∧ Cu w' b s (i + 1) ∧ w.grownBy w' (some b) := by
  have x1 := h.c1
  have x2 := h.c2
  have y2 := h.f2
  have hm := hs
  unfold maxLen at hm
  obtain ⟨t, hx⟩ : ∃ t, s.extract i s.size = t := ⟨_, rfl⟩
  have hz : t.size = s.size - i := by rw [← hx]; exact Sc.size_ext s (Nat.le_refl _)
  have h0 : 0 < t.size := by omega
  have hb0 : (t[0]).toNat = Sc.bt s i := by rw [Sc.bt_at h0, ← hx, Sc.bt_ext s (Nat.le_refl _) (by omega)]; rfl
  have he : t.toList.isEmpty = false := empty_no (by omega)
  have hi1 : (i : Int) ≤ (s.size : Int) := by omega
  have hl1 : ¬ (t.size : Int) < 1 := by omega
  have hl2 : (1 : Int) ≤ (t.size : Int) := by omega
  have hh : t.extract 0 1 = t1 := by rw [← hx, ext_head s hi]; exact ht1.out
  have hw : IntKind.i64.wrap ((i : Int) + 1) = ((i + 1 : Nat) : Int) := by rw [IntKind.wrap_i64]; omega
  clear hz
  go_enter Tryd.func66, Tryd.ntmps66
  go_wp2
  go_quiet (fail)
  go_wp2_with (first | (go_at_call 68; refine (beginsTwoC _ _).mono ?_; rintro e w' ⟨rfl, rfl⟩) | (go_at_call 22; refine (stateC _ _).mono ?_; rintro e w' ⟨rfl, k2, rfl⟩))
  go_ret2
  exact ⟨by rw [ht1.out]; rfl, Cu.set (Cu.drew h) _, gb_set (gb_drewN (World.grownBy.refl _ _) _) _ _⟩

set_option maxRecDepth 100000 in
set_option maxHeartbeats 1000000 in
theorem tagBad1 (b : Nat) (s : ByteArray) (i : Nat) (w : World) (h : Cu w b s i) (hs : s.size ≤ maxLen) (hi : i + 1 ≤ s.size) (ht : Sc.twoB (Sc.bt s i) = false) (t1 : ByteArray) (ht1 : Hid (s.extract i (i + 1) = t1)) (hb : oB (stOf t1) = false) (hr : (t1.toList == [36]) = false) : Calls Tryd.prog 66 #[.pointer (some ⟨b, 0, none⟩)] w fun e w' => e = .returned (.tuple #[.string ⟨#[]⟩, .int .i64 31]) ∧ ∃ k, w' = w.drewN k := by
  have x1 := h.c1
  have x2 := h.c2
  have y2 := h.f2
  have hm := hs
  unfold maxLen at hm
  obtain ⟨t, hx⟩ : ∃ t, s.extract i s.size = t := ⟨_, rfl⟩
  have hz : t.size = s.size - i := by rw [← hx]; exact Sc.size_ext s (Nat.le_refl _)
  have h0 : 0 < t.size := by omega
  have hb0 : (t[0]).toNat = Sc.bt s i := by rw [Sc.bt_at h0, ← hx, Sc.bt_ext s (Nat.le_refl _) (by omega)]; rfl
  have he : t.toList.isEmpty = false := empty_no (by omega)
  have hi1 : (i : Int) ≤ (s.size : Int) := by omega
  have hl1 : ¬ (t.size : Int) < 1 := by omega
  have hl2 : (1 : Int) ≤ (t.size : Int) := by omega
  have hh : t.extract 0 1 = t1 := by rw [← hx, ext_head s hi]; exact ht1.out
  have hw : IntKind.i64.wrap ((i : Int) + 1) = ((i + 1 : Nat) : Int) := by rw [IntKind.wrap_i64]; omega
  clear hz
  go_enter Tryd.func66, Tryd.ntmps66
  go_wp2
  go_quiet (fail)
  go_wp2_with (first | (go_at_call 68; refine (beginsTwoC _ _).mono ?_; rintro e w' ⟨rfl, rfl⟩) | (go_at_call 22; refine (stateC _ _).mono ?_; rintro e w' ⟨rfl, k2, rfl⟩))
  go_ret2
  exact ⟨rfl, _, rfl⟩

set_option maxRecDepth 100000 in
set_option maxHeartbeats 1000000 in
theorem tagIs2 (b : Nat) (s : ByteArray) (i : Nat) (w : World) (h : Cu w b s i) (hs : s.size ≤ maxLen) (hi : i + 2 ≤ s.size) (ht : Sc.twoB (Sc.bt s i) = true) (t1 : ByteArray) (ht1 : Hid (s.extract i (i + 2) = t1)) (hb : oB (stOf t1) = true) : Calls Tryd.prog 66 #[.pointer (some ⟨b, 0, none⟩)] w fun e w' => e = .returned (.tuple #[.string (s.extract i (i + 2)), .int .i64 0]) ∧ Cu w' b s (i + 2) ∧ w.grownBy w' (some b) := by
  have x1 := h.c1
  have x2 := h.c2
  have y2 := h.f2
  have hm := hs
  unfold maxLen at hm
  obtain ⟨t, hx⟩ : ∃ t, s.extract i s.size = t := ⟨_, rfl⟩
  have hz : t.size = s.size - i := by rw [← hx]; exact Sc.size_ext s (Nat.le_refl _)
  have h0 : 0 < t.size := by omega
  have hb0 : (t[0]).toNat = Sc.bt s i := by rw [Sc.bt_at h0, ← hx, Sc.bt_ext s (Nat.le_refl _) (by omega)]; rfl
  have he : t.toList.isEmpty = false := empty_no (by omega)
  have hi1 : (i : Int) ≤ (s.size : Int) := by omega
  have hl1 : ¬ (t.size : Int) < 2 := by omega
  have hl2 : (2 : Int) ≤ (t.size : Int) := by omega
  have hh : t.extract 0 2 = t1 := by rw [← hx, ext_head s hi]; exact ht1.out
  have hw : IntKind.i64.wrap ((i : Int) + 2) = ((i + 2 : Nat) : Int) := by rw [IntKind.wrap_i64]; omega
  clear hz
  go_enter Tryd.func66, Tryd.ntmps66
  go_wp2
  go_quiet (fail)
  go_wp2_with (first | (go_at_call 68; refine (beginsTwoC _ _).mono ?_; rintro e w' ⟨rfl, rfl⟩) | (go_at_call 22; refine (stateC _ _).mono ?_; rintro e w' ⟨rfl, k2, rfl⟩))
  go_ret2
  exact ⟨by rw [ht1.out]; rfl, Cu.set (Cu.drew h) _, gb_set (gb_drewN (World.grownBy.refl _ _) _) _ _⟩

set_option maxRecDepth 100000 in
set_option maxHeartbeats 1000000 in
theorem tagBad2 (b : Nat) (s : ByteArray) (i : Nat) (w : World) (h : Cu w b s i) (hs : s.size ≤ maxLen) (hi : i + 2 ≤ s.size) (ht : Sc.twoB (Sc.bt s i) = true) (t1 : ByteArray) (ht1 : Hid (s.extract i (i + 2) = t1)) (hb : oB (stOf t1) = false) (hr : (t1.toList == [36]) = false) : Calls Tryd.prog 66 #[.pointer (some ⟨b, 0, none⟩)] w fun e w' => e = .returned (.tuple #[.string ⟨#[]⟩, .int .i64 31]) ∧ ∃ k, w' = w.drewN k := by
  have x1 := h.c1
  have x2 := h.c2
  have y2 := h.f2
  have hm := hs
  unfold maxLen at hm
  obtain ⟨t, hx⟩ : ∃ t, s.extract i s.size = t := ⟨_, rfl⟩
  have hz : t.size = s.size - i := by rw [← hx]; exact Sc.size_ext s (Nat.le_refl _)
  have h0 : 0 < t.size := by omega
  have hb0 : (t[0]).toNat = Sc.bt s i := by rw [Sc.bt_at h0, ← hx, Sc.bt_ext s (Nat.le_refl _) (by omega)]; rfl
  have he : t.toList.isEmpty = false := empty_no (by omega)
  have hi1 : (i : Int) ≤ (s.size : Int) := by omega
  have hl1 : ¬ (t.size : Int) < 2 := by omega
  have hl2 : (2 : Int) ≤ (t.size : Int) := by omega
  have hh : t.extract 0 2 = t1 := by rw [← hx, ext_head s hi]; exact ht1.out
  have hw : IntKind.i64.wrap ((i : Int) + 2) = ((i + 2 : Nat) : Int) := by rw [IntKind.wrap_i64]; omega
  clear hz
  go_enter Tryd.func66, Tryd.ntmps66
  go_wp2
  go_quiet (fail)
  go_wp2_with (first | (go_at_call 68; refine (beginsTwoC _ _).mono ?_; rintro e w' ⟨rfl, rfl⟩) | (go_at_call 22; refine (stateC _ _).mono ?_; rintro e w' ⟨rfl, k2, rfl⟩))
  go_ret2
  exact ⟨rfl, _, rfl⟩
end Go.Proofs.YtimknahfgpafaaaDoor
