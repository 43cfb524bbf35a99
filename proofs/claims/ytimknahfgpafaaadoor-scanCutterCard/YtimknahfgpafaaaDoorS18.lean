/- The document's cutter: what it answers. -/
import Derived.Test.YtimknahfgpafaaaDoorS13
import Derived.Test.YtimknahfgpafaaaDoorS17
import Derived.Deep.LoopGhost
namespace Go.Proofs.YtimknahfgpafaaaDoor
open Go.RowKit
set_option linter.unusedVariables false
set_option linter.unusedSimpArgs false

/-- The document's cutter of the text s that stands at i. -/
def Rc (w : World) (b : Nat) (s : ByteArray) (i : Nat) : Prop := w.heap[b]? = some (.cells #[.string s, .int .i64 i] 64 (0, 0))
theorem Rc.lt {w : World} {b : Nat} {s : ByteArray} {i : Nat} (h : Rc w b s i) : b < w.heap.size := (Array.getElem?_eq_some_iff.1 h).1
theorem Rc.kept {w w' : World} {b : Nat} {s : ByteArray} {i : Nat} {r : Option Nat} (h : Rc w b s i) (hg : w.grownBy w' r) (hne : some b ≠ r) : Rc w' b s i := (hg.block b h.lt hne).trans h
theorem Rc.c0 {w : World} {b : Nat} {s : ByteArray} {i : Nat} (h : Rc w b s i) : w.cell? ⟨b, 0, none⟩ = some (.string s) := by unfold Rc at h; simp [World.cell?, h]
theorem Rc.c1 {w : World} {b : Nat} {s : ByteArray} {i : Nat} (h : Rc w b s i) : w.cell? ⟨b, 1, none⟩ = some (.int .i64 i) := by unfold Rc at h; simp [World.cell?, h]
theorem Rc.f1 {w : World} {b : Nat} {s : ByteArray} {i : Nat} (h : Rc w b s i) : w.frozen? ⟨b, 1, none⟩ = false := by unfold Rc at h; simp [World.frozen?, h]
theorem Rc.set {w : World} {b : Nat} {s : ByteArray} {i : Nat} (h : Rc w b s i) (k : Nat) : Rc (w.setCell ⟨b, 1, none⟩ (.int .i64 k)) b s k := by unfold Rc at h ⊢; simp [World.setCell, Array.getElem?_modify, h]
theorem Rc.drew {w : World} {b : Nat} {s : ByteArray} {i k : Nat} (h : Rc w b s i) : Rc (w.drewN k) b s i := h

theorem rnewC (s : ByteArray) (w : World) : Calls Tryd.prog 15 #[.string s] w fun e w' => e = .returned (.pointer (some ⟨w.heap.size, 0, none⟩)) ∧ Rc w' w.heap.size s 0 ∧ w.grownBy w' none := by
  go_enter Tryd.func15, Tryd.ntmps15
  go_wp2
  go_ret
  exact ⟨rfl, heap_alloc_new w _, World.grownBy_alloc _ _ _⟩
theorem ratC (b : Nat) (s : ByteArray) (i : Nat) (w : World) (h : Rc w b s i) : Calls Tryd.prog 18 #[.pointer (some ⟨b, 0, none⟩)] w fun e w' => e = .returned (.int .i64 i) ∧ w' = w := by
  have x1 := h.c1
  go_enter Tryd.func18, Tryd.ntmps18
  go_wp2
  go_ret
  exact ⟨rfl, rfl⟩
theorem ratN (w : World) : Calls Tryd.prog 18 #[.pointer none] w fun e w' => e = .returned (.int .i64 0) ∧ w' = w := by
  go_enter Tryd.func18, Tryd.ntmps18
  go_wp2
  go_ret
  exact ⟨rfl, rfl⟩
set_option maxRecDepth 100000 in
set_option maxHeartbeats 2000000 in
theorem rdoneC (b : Nat) (s : ByteArray) (i : Nat) (w : World) (h : Rc w b s i) : Calls Tryd.prog 34 #[.pointer (some ⟨b, 0, none⟩)] w fun e w' => e = .returned (.bool ((i : Int) == s.size)) ∧ ∃ k, w' = w.drewN k := by
  have x0 := h.c0
  have x1 := h.c1
  go_enter Tryd.func34, Tryd.ntmps34
  go_wp2
  go_quiet (fail)
  go_wp2
  go_ret
  exact ⟨rfl, _, rfl⟩
theorem rdoneN (w : World) : Calls Tryd.prog 34 #[.pointer none] w fun e w' => e = .returned (.bool false) ∧ ∃ k, w' = w.drewN k := by
  go_enter Tryd.func34, Tryd.ntmps34
  go_wp2
  go_quiet (fail)
  go_wp2
  go_ret
  exact ⟨rfl, _, rfl⟩
set_option maxRecDepth 100000 in
set_option maxHeartbeats 2000000 in
theorem rpeekC (b : Nat) (s : ByteArray) (i : Nat) (w : World) (h : Rc w b s i) (hi : i ≤ s.size) : Calls Tryd.prog 36 #[.pointer (some ⟨b, 0, none⟩)] w fun e w' => e = .returned (.tuple #[.int .u8 (Sc.bt s i : Nat), .bool (pkB s i)]) ∧ ∃ k, w' = w.drewN k := by
  have x0 := h.c0
  have x1 := h.c1
  by_cases h1 : i < s.size
  · unfold pkB; rw [decide_eq_true h1]
    have hb := Sc.bt_at h1
    have h3 : (i : Int) < (s.size : Int) := by omega
    have h2 : ((i : Int) == (s.size : Int)) = false := by simp; omega
    go_enter Tryd.func36, Tryd.ntmps36
    go_wp2
    go_quiet (fail)
    go_wp2
    go_quiet (fail)
    go_wp2
    go_ret2
    exact ⟨rfl, _, World.drewN_drewN _ _ _⟩
  · obtain rfl : i = s.size := by omega
    unfold pkB; rw [decide_eq_false h1, Sc.bt_off h1]
    go_enter Tryd.func36, Tryd.ntmps36
    go_wp2
    go_quiet (fail)
    go_wp2
    go_ret2
    exact ⟨rfl, _, rfl⟩
theorem rpeekN (w : World) : Calls Tryd.prog 36 #[.pointer none] w fun e w' => e = .returned (.tuple #[.int .u8 0, .bool false]) ∧ ∃ k, w' = w.drewN k := by
  go_enter Tryd.func36, Tryd.ntmps36
  go_wp2
  go_quiet (fail)
  go_wp2
  go_ret2
  exact ⟨rfl, _, rfl⟩
set_option maxRecDepth 100000 in
set_option maxHeartbeats 2000000 in
theorem rtakeC (b : Nat) (c : Int) (s : ByteArray) (i : Nat) (w : World) (h : Rc w b s i) (hi : i ≤ s.size) (hs : s.size ≤ maxLen) : Calls Tryd.prog 38 #[.pointer (some ⟨b, 0, none⟩), .int .u8 c] w fun e w' => e = .returned (.bool (tkB s i c)) ∧ Rc w' b s (tkI s i c) ∧ w.grownBy w' (some b) := by
  have x0 := h.c0
  have x1 := h.c1
  have y1 := h.f1
  unfold maxLen at hs
  by_cases h1 : i < s.size
  · have hb := Sc.bt_at h1
    have h3 : (i : Int) < (s.size : Int) := by omega
    have h4 : ((i : Int) == (s.size : Int)) = false := by simp; omega
    cases h2 : ((Sc.bt s i : Int) == c) with
    | true =>
      have e : tkB s i c = true := by unfold tkB; rw [decide_eq_true h1, h2]; rfl
      unfold tkI; rw [e, if_pos rfl]
      clear e
      go_enter Tryd.func38, Tryd.ntmps38
      go_wp2
      go_quiet (fail)
      go_wp2
      go_ret
      exact ⟨rfl, Rc.set (Rc.drew h) _, gb_set (gb_drewN (World.grownBy.refl _ _) _) _ _⟩
    | false =>
      have e : tkB s i c = false := by unfold tkB; rw [h2, Bool.and_false]
      unfold tkI; rw [e, if_neg (by simp)]
      clear e
      go_enter Tryd.func38, Tryd.ntmps38
      go_wp2
      go_quiet (fail)
      go_wp2
      go_ret
      exact ⟨rfl, h.drew, gbr _ _ _⟩
  · obtain rfl : i = s.size := by omega
    have e : tkB s s.size c = false := by unfold tkB; rw [decide_eq_false h1, Bool.false_and]
    unfold tkI; rw [e, if_neg (by simp)]
    clear e
    go_enter Tryd.func38, Tryd.ntmps38
    go_wp2
    go_quiet (fail)
    go_wp2
    go_ret
    exact ⟨rfl, h.drew, gbr _ _ _⟩
theorem rtakeN (c : Int) (w : World) : Calls Tryd.prog 38 #[.pointer none, .int .u8 c] w fun e w' => e = .returned (.bool false) ∧ ∃ k, w' = w.drewN k := by
  go_enter Tryd.func38, Tryd.ntmps38
  go_wp2
  go_quiet (fail)
  go_wp2
  go_ret
  exact ⟨rfl, _, rfl⟩
theorem rnumberN (w : World) : Calls Tryd.prog 40 #[.pointer none] w fun e w' => e = .returned (.tuple #[.int .i64 0, .int .i64 1]) ∧ w' = w := by
  go_enter Tryd.func40, Tryd.ntmps40
  go_wp2
  go_ret2
  exact ⟨rfl, rfl⟩
theorem rnameN (w : World) : Calls Tryd.prog 41 #[.pointer none] w fun e w' => e = .returned (.tuple #[.string ⟨#[]⟩, .int .i64 1]) ∧ w' = w := by
  go_enter Tryd.func41, Tryd.ntmps41
  go_wp2
  go_ret2
  exact ⟨rfl, rfl⟩
set_option maxRecDepth 100000 in
set_option maxHeartbeats 2000000 in
theorem rnumC (b : Nat) (s : ByteArray) (i : Nat) (w : World) (h : Rc w b s i) (hs : s.size ≤ maxLen) (hi : i ≤ s.size) : Calls Tryd.prog 40 #[.pointer (some ⟨b, 0, none⟩)] w fun e w' => e = .returned (.tuple #[.int .i64 (nbV s i : Nat), .int .i64 (nbE s i : Nat)]) ∧ Rc w' b s (nbI s i) ∧ w.grownBy w' (some b) := by
  have x0 := h.c0
  have x1 := h.c1
  have y1 := h.f1
  have hnum := fun w => rnumberD s i w hs hi
  unfold maxLen at hs
  by_cases h1 : dg s i = i
  · have e : nbE s i = 10 := by unfold nbE; rw [if_pos h1]
    unfold nbV nbI; rw [e, if_neg (by decide), if_neg (by decide)]
    have h1' : Hid (dg s i = i) := h1
    have h2 : ((dg s i : Int) == (i : Int)) = true := by simp; omega
    clear e h1
    go_enter Tryd.func40, Tryd.ntmps40
    go_wp2
    go_quiet (first | (go_at_call 45; refine Calls.quiet_of_same (hnum _)))
    go_wp2
    go_ret2
    exact ⟨rfl, h.drew, gbr _ _ _⟩
  · have h3 : i < dg s i := by have := dg_ge hi; omega
    have h4 : ((dg s i : Int) == (i : Int)) = false := by simp; omega
    by_cases h2 : numV s i ≤ 9223372036854775807
    · have e : nbE s i = 0 := by unfold nbE; rw [if_neg h1, if_pos h2]
      unfold nbV nbI; rw [e, if_pos rfl, if_pos rfl]
      have hf : nvB (numV s i) = true := decide_eq_true h2
      rw [hf, nl_fits hi h2] at hnum
      clear e hf
      go_enter Tryd.func40, Tryd.ntmps40
      go_wp2
      go_quiet (first | (go_at_call 45; refine Calls.quiet_of_same (hnum _)))
      go_wp2
      go_ret2
      exact ⟨rfl, Rc.set (Rc.drew h) _, gb_set (gb_drewN (World.grownBy.refl _ _) _) _ _⟩
    · have e : nbE s i = 11 := by unfold nbE; rw [if_neg h1, if_neg h2]
      unfold nbV nbI; rw [e, if_neg (by decide), if_neg (by decide)]
      have hf : nvB (numV s i) = false := decide_eq_false h2
      rw [hf] at hnum
      clear e hf
      go_enter Tryd.func40, Tryd.ntmps40
      go_wp2
      go_quiet (first | (go_at_call 45; refine Calls.quiet_of_same (hnum _)))
      go_wp2
      go_ret2
      exact ⟨rfl, h.drew, gbr _ _ _⟩
set_option maxRecDepth 100000 in
set_option maxHeartbeats 2000000 in
theorem rblanksC (b : Nat) (s : ByteArray) (i : Nat) (w : World) (h : Rc w b s i) (hs : s.size ≤ maxLen) (hi : i ≤ s.size) : Calls Tryd.prog 39 #[.pointer (some ⟨b, 0, none⟩)] w fun e w' => e = .returned (.int .i64 ((Sc.ov Sc.blankB s i - i : Nat) : Int)) ∧ Rc w' b s (Sc.ov Sc.blankB s i) ∧ w.grownBy w' (some b) := by
  unfold maxLen at hs
  go_enter Tryd.func39, Tryd.ntmps39
  go_wp2
  go_loopw [3] (fun v wr => ∃ k : Nat, i + k ≤ s.size ∧ v = .int .i64 k ∧ Rc wr b s (i + k) ∧ Hid (∀ j, i ≤ j → j < i + k → Sc.blankB (Sc.bt s j) = true) ∧ w.grownBy wr (some b)) (fun v _ => s.size - (intOf v).toNat)
  case atStart => exact ⟨0, by omega, rfl, h, fun j h1 h2 => by omega, World.grownBy.refl _ _⟩
  case round =>
    obtain ⟨k, hk, rfl, hr, hd, hg⟩ := hrel
    have x0 := hr.c0
    have x1 := hr.c1
    have y1 := hr.f1
    by_cases hlt : i + k < s.size
    · have hb := Sc.bt_at hlt
      have hlt' : ((i + k : Nat) : Int) < (s.size : Int) := by omega
      cases ht : Sc.blankB (Sc.bt s (i + k)) with
      | true =>
        have HS : Hid (∀ j, i ≤ j → j < i + (k + 1) → Sc.blankB (Sc.bt s j) = true) := fun j h1 h2 => by
          by_cases hj : j = i + k
          · rw [hj]; exact ht
          · exact hd.out j h1 (by omega)
        have hw1 : IntKind.i64.wrap (((i + k : Nat) : Int) + 1) = ((i + (k + 1) : Nat) : Int) := by rw [IntKind.wrap_i64]; omega
        generalize hq : i + k = q at *
        go_wp2
        go_quiet (first | (go_at_call 31; refine Calls.quiet_of_same (rblankC _ _)))
        go_wp2
        go_roundw
        case rel => exact ⟨k + 1, by omega, by go_num, Rc.set (Rc.drew hr) _, HS, gb_set (gb_drewN hg _) _ _⟩
        case measure => simp [intOf]; omega
      | false =>
        have HE : Hid (Sc.ov Sc.blankB s i = i + k) := Sc.ov_of ⟨by omega, hk, hd.out, fun _ => ht⟩
        have HK : Hid (Sc.ov Sc.blankB s i - i = k) := by unfold Hid; rw [HE.out]; omega
        generalize hq : i + k = q at *
        go_wp2
        go_quiet (first | (go_at_call 31; refine Calls.quiet_of_same (rblankC _ _)))
        go_wp2
        go_ret
        exact ⟨by rw [HK.out]; rfl, by rw [HE.out]; exact Rc.drew hr, gb_drewN hg _⟩
    · have HE : Hid (Sc.ov Sc.blankB s i = i + k) := Sc.ov_of ⟨by omega, hk, hd.out, fun h => absurd h hlt⟩
      have HK : Hid (Sc.ov Sc.blankB s i - i = k) := by unfold Hid; rw [HE.out]; omega
      have hlt' : ¬ ((i + k : Nat) : Int) < (s.size : Int) := by omega
      generalize hq : i + k = q at *
      go_wp2
      go_quiet (first | (go_at_call 31; refine Calls.quiet_of_same (rblankC _ _)))
      go_wp2
      go_ret
      exact ⟨by rw [HK.out]; rfl, by rw [HE.out]; exact Rc.drew hr, gb_drewN hg _⟩
set_option maxRecDepth 100000 in
set_option maxHeartbeats 2000000 in
theorem rblanksN (w : World) : Calls Tryd.prog 39 #[.pointer none] w fun e w' => e = .returned (.int .i64 0) ∧ ∃ k, w' = w.drewN k := by
  go_enter Tryd.func39, Tryd.ntmps39
  go_wp2
  go_loopw [3] (fun v wr => v = .int .i64 0 ∧ wr = w) (fun v _ => 0)
  case atStart => exact ⟨rfl, rfl⟩
  case round =>
    obtain ⟨rfl, hw⟩ := hrel
    subst wr
    go_wp2
    go_quiet (first | (go_at_call 31; refine Calls.quiet_of_same (rblankC _ _)))
    go_wp2
    go_ret
    exact ⟨rfl, _, rfl⟩
set_option maxRecDepth 100000 in
set_option maxHeartbeats 2000000 in
theorem rnameC (b : Nat) (s : ByteArray) (i : Nat) (w : World) (h : Rc w b s i) (hs : s.size ≤ maxLen) (hi : i ≤ s.size) : Calls Tryd.prog 41 #[.pointer (some ⟨b, 0, none⟩)] w fun e w' => e = .returned (.tuple #[.string (nmS s i), .int .i64 (nmE s i : Nat)]) ∧ Rc w' b s (nmI s i) ∧ w.grownBy w' (some b) := by
  unfold maxLen at hs
  have x0 := h.c0
  have x1 := h.c1
  have y1 := h.f1
  by_cases h0 : i < s.size
  · have hb := Sc.bt_at h0
    have h3 : (i : Int) < (s.size : Int) := by omega
    have h4 : ((i : Int) == (s.size : Int)) = false := by simp; omega
    cases h1 : Sc.letterB (Sc.bt s i) with
    | false =>
      have e : nmE s i = 31 := by unfold nmE; rw [if_pos h1]
      unfold nmS nmI; rw [e, if_neg (by decide), if_neg (by decide)]
      clear e
      go_enter Tryd.func41, Tryd.ntmps41
      go_wp2
      go_quiet (first | (go_at_call 63; refine Calls.quiet_of_same (rletterC _ _)))
      go_wp2
      go_ret2
      exact ⟨rfl, h.drew, gbr _ _ _⟩
    | true =>
      have hnE : ∀ k, Sc.ov Sc.namedB s i = k → nmE s i = if k - i ≤ 32 then 0 else 6 := fun k hk => by unfold nmE; rw [if_neg (by rw [h1]; simp), hk]
      go_enter Tryd.func41, Tryd.ntmps41
      go_wp2
      go_quiet (first | (go_at_call 63; refine Calls.quiet_of_same (rletterC _ _)))
      go_wp2
      simp only [h1]
      go_loopw [4] (fun v wr => ∃ k : Nat, i ≤ k ∧ k ≤ s.size ∧ v = .int .i64 k ∧ Hid (∀ j, i ≤ j → j < k → Sc.namedB (Sc.bt s j) = true) ∧ Hid (∃ q, wr = w.drewN q)) (fun v _ => s.size - (intOf v).toNat)
      case atStart => exact ⟨i, Nat.le_refl _, hi, rfl, fun j h1 h2 => by omega, ⟨_, rfl⟩⟩
      case round =>
        obtain ⟨k, hk0, hk, rfl, hd, hwq⟩ := hrel
        obtain ⟨q, hw⟩ := hwq.out
        subst wr
        by_cases hlt : k < s.size
        · have hbk := Sc.bt_at hlt
          have hlt' : (k : Int) < (s.size : Int) := by omega
          cases ht : Sc.namedB (Sc.bt s k) with
          | true =>
            have HS : Hid (∀ j, i ≤ j → j < k + 1 → Sc.namedB (Sc.bt s j) = true) := fun j h1 h2 => by
              by_cases hj : j = k
              · rw [hj]; exact ht
              · exact hd.out j h1 (by omega)
            go_wp2_with (go_at_call 64; refine (rgoesC _ _).mono ?_; rintro e w' ⟨rfl, hw'⟩; subst w')
            go_roundw
            case rel =>
              first
              | exact ⟨k + 1, by omega, by omega, by go_num, HS, ⟨q, rfl⟩⟩
              | (refine ⟨_, _, _, _, _, _, _, _, _, _, _, _, _, _, _, _, _, _, _, ⟨k + 1, ?_, ?_, ?_, HS, ⟨q, rfl⟩⟩, rfl⟩
                 · omega
                 · omega
                 · go_num)
            case measure => simp [intOf]; omega
          | false =>
            have HE : Hid (Sc.ov Sc.namedB s i = k) := Sc.ov_of ⟨hk0, hk, hd.out, fun _ => ht⟩
            have hkz : (k : Int) ≤ (s.size : Int) := by omega
            have hik : (i : Int) ≤ (k : Int) := by omega
            by_cases h32 : k - i ≤ 32
            · have e : Hid (nmE s i = 0) := by unfold Hid; rw [hnE k HE.out, if_pos h32]
              have e1 : Hid (nmS s i = s.extract i k) := by unfold Hid nmS; rw [e.out, if_pos rfl, HE.out]
              have e2 : Hid (nmI s i = k) := by unfold Hid nmI; rw [e.out, if_pos rfl, HE.out]
              have h33 : ¬ (32 : Int) < (k : Int) - (i : Int) := by omega
              clear hnE
              go_wp2_with (go_at_call 64; refine (rgoesC _ _).mono ?_; rintro e w' ⟨rfl, hw'⟩; subst w')
              go_quiet (fail)
              go_wp2
              go_ret2
              exact ⟨by rw [e.out, e1.out]; rfl, by rw [e2.out]; exact Rc.set (Rc.drew h) _, gb_set (gb_drewN (World.grownBy.refl _ _) _) _ _⟩
            · have e : Hid (nmE s i = 6) := by unfold Hid; rw [hnE k HE.out, if_neg h32]
              have e1 : Hid (nmS s i = ⟨#[]⟩) := by unfold Hid nmS; rw [e.out, if_neg (by decide)]
              have e2 : Hid (nmI s i = i) := by unfold Hid nmI; rw [e.out, if_neg (by decide)]
              have h33 : (32 : Int) < (k : Int) - (i : Int) := by omega
              clear hnE
              go_wp2_with (go_at_call 64; refine (rgoesC _ _).mono ?_; rintro e w' ⟨rfl, hw'⟩; subst w')
              go_ret2
              exact ⟨by rw [e.out, e1.out]; rfl, by rw [e2.out]; exact Rc.drew h, gbr _ _ _⟩
        · have HE : Hid (Sc.ov Sc.namedB s i = k) := Sc.ov_of ⟨hk0, hk, hd.out, fun h => absurd h hlt⟩
          have hlt' : ¬ (k : Int) < (s.size : Int) := by omega
          have hkz : (k : Int) ≤ (s.size : Int) := by omega
          have hik : (i : Int) ≤ (k : Int) := by omega
          by_cases h32 : k - i ≤ 32
          · have e : Hid (nmE s i = 0) := by unfold Hid; rw [hnE k HE.out, if_pos h32]
            have e1 : Hid (nmS s i = s.extract i k) := by unfold Hid nmS; rw [e.out, if_pos rfl, HE.out]
            have e2 : Hid (nmI s i = k) := by unfold Hid nmI; rw [e.out, if_pos rfl, HE.out]
            have h33 : ¬ (32 : Int) < (k : Int) - (i : Int) := by omega
            clear hnE
            go_wp2
            go_quiet (fail)
            go_wp2
            go_ret2
            exact ⟨by rw [e.out, e1.out]; rfl, by rw [e2.out]; exact Rc.set (Rc.drew h) _, gb_set (gb_drewN (World.grownBy.refl _ _) _) _ _⟩
          · have e : Hid (nmE s i = 6) := by unfold Hid; rw [hnE k HE.out, if_neg h32]
            have e1 : Hid (nmS s i = ⟨#[]⟩) := by unfold Hid nmS; rw [e.out, if_neg (by decide)]
            have e2 : Hid (nmI s i = i) := by unfold Hid nmI; rw [e.out, if_neg (by decide)]
            have h33 : (32 : Int) < (k : Int) - (i : Int) := by omega
            clear hnE
            go_wp2
            go_ret2
            exact ⟨by rw [e.out, e1.out]; rfl, by rw [e2.out]; exact Rc.drew h, gbr _ _ _⟩
  · obtain rfl : i = s.size := by omega
    have e : nmE s s.size = 31 := by unfold nmE; rw [Sc.bt_off h0, if_pos (by decide)]
    unfold nmS nmI; rw [e, if_neg (by decide), if_neg (by decide)]
    clear e
    go_enter Tryd.func41, Tryd.ntmps41
    go_wp2
    go_quiet (first | (go_at_call 63; refine Calls.quiet_of_same (rletterC _ _)))
    go_wp2
    go_ret2
    exact ⟨rfl, h.drew, gbr _ _ _⟩
end Go.Proofs.YtimknahfgpafaaaDoor
