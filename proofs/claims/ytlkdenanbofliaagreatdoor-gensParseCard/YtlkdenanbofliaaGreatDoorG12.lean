/- What slash, digit and states of the document answer. -/
import Derived.Test.YtlkdenanbofliaaGreatDoorGp
import Derived.Test.YtlkdenanbofliaaGreatDoorG5
namespace Go.Proofs.YtlkdenanbofliaaGreatDoor
open Go.RowKit
set_option linter.unusedVariables false
set_option linter.unusedSimpArgs false
set_option maxRecDepth 100000

set_option maxHeartbeats 1000000 in
theorem slashD (s : ByteArray) (hs : s.size ≤ 1048576) (w : World) : Calls Tryz.prog 19 #[.string s] w fun e w' => e = .returned (.int .i64 (Gn.ss s : Nat)) ∧ w.grownBy w' none := by
  have hsl := Gn.ss_le s
  go_enter Tryz.func19, Tryz.ntmps19
  go_wp2
  go_loopw [3, 4] (fun vn vi wr => ∃ k : Nat, k ≤ Gn.ss s ∧ vn = .int .i64 (Gn.nsl s k : Nat) ∧ vi = .int .i64 k ∧ w.grownBy wr none) (fun _ vi _ => s.size - (intOf vi).toNat)
  case atStart => exact ⟨0, by omega, rfl, rfl, World.grownBy.refl _ _⟩
  case round =>
    obtain ⟨k, hk, rfl, rfl, hG⟩ := hrel
    by_cases hlt : k < s.size
    · have hlt' : (k : Int) < (s.size : Int) := by omega
      have hbt := Sc.bt_at hlt
      rcases Gn.sl_at hlt hk with ⟨h1, h2, h3⟩ | ⟨h1, h2, h3, h4⟩ | ⟨h1, h2, h3⟩
      · have H2 : Hid (Gn.nsl s (k + 1) = Gn.nsl s k) := h2
        have e1 : ¬ ((Sc.bt s k : Nat) : Int) = 47 := by omega
        have e1' : (((Sc.bt s k : Nat) : Int) == 47) = false := by simp; omega
        have hn2 : Gn.nsl s k ≤ 1 := by unfold Gn.nsl; split <;> decide
        have e2 : ((Gn.nsl s k : Nat) : Int) < 2 := by omega
        have e3 : ¬ ((Gn.nsl s k : Nat) : Int) = 2 := by omega
        have e3' : (((Gn.nsl s k : Nat) : Int) == 2) = false := by simp; omega
        clear h2 h1
        generalize Gn.nsl s k = q at *
        go_wp2
        first
          | exact ⟨⟨k + 1, h3, by rw [H2.out], by simp, hG⟩, by simp [intOf]; omega⟩
          | (go_roundw; (case rel => exact ⟨k + 1, h3, by rw [H2.out], by first | rfl | go_num | simp, by first | exact hG | exact gb_drew hG⟩); (case measure => (simp [intOf]; omega)))
      · rw [h2]
        have e1 : ((Sc.bt s k : Nat) : Int) = 47 := by omega
        have e1' : (((Sc.bt s k : Nat) : Int) == 47) = true := by simp; omega
        have H3 : Hid (Gn.nsl s (k + 1) = 1) := h3
        clear h1 h2 h3
        go_wp2
        first
          | exact ⟨⟨k + 1, h4, by rw [H3.out]; rfl, by simp, hG⟩, by simp [intOf]; omega⟩
          | (go_roundw; (case rel => exact ⟨k + 1, h4, by rw [H3.out]; rfl, by first | rfl | go_num | simp, by first | exact hG | exact gb_drew hG⟩); (case measure => (simp [intOf]; omega)))
      · rw [h2]
        have e1 : ((Sc.bt s k : Nat) : Int) = 47 := by omega
        have e1' : (((Sc.bt s k : Nat) : Int) == 47) = true := by simp; omega
        have H3 : Hid (Gn.ss s = k) := h3.symm
        clear h1 h2 h3
        go_wp2
        go_ret
        exact ⟨by rw [H3.out]; rfl, by first | exact hG | exact gb_drew hG⟩
    · obtain rfl : k = s.size := by omega
      have H3 : Hid (Gn.ss s = s.size) := by unfold Hid; omega
      clear hk
      go_wp2
      go_ret
      exact ⟨by rw [H3.out]; rfl, hG⟩
theorem digitD (c : Nat) (hc : c < 256) (w : World) : Calls Tryz.prog 41 #[.int .u8 c] w fun e w' => e = .returned (.bool (Lf.isD c)) ∧ w' = w := by
  by_cases h1 : 48 ≤ c
  · by_cases h2 : c ≤ 57
    · rw [show Lf.isD c = true by unfold Lf.isD; simp [h1, h2]]
      have h1' : (48 : Int) ≤ (c : Int) := by omega
      have h2' : (c : Int) ≤ 57 := by omega
      go_enter Tryz.func41, Tryz.ntmps41
      go_wp2
      go_ret
      exact ⟨rfl, rfl⟩
    · rw [show Lf.isD c = false by unfold Lf.isD; simp [h1, h2]]
      have h1' : (48 : Int) ≤ (c : Int) := by omega
      have h2' : ¬ (c : Int) ≤ 57 := by omega
      go_enter Tryz.func41, Tryz.ntmps41
      go_wp2
      go_ret
      exact ⟨rfl, rfl⟩
  · rw [show Lf.isD c = false by unfold Lf.isD; simp [h1]]
    have h1' : ¬ (48 : Int) ≤ (c : Int) := by omega
    go_enter Tryz.func41, Tryz.ntmps41
    go_wp2
    go_ret
    exact ⟨rfl, rfl⟩

namespace Gn
/-- Letters may stand ahead of the number. -/
def lt4 (c : Nat) : Prop := c = 67 ∨ c = 99 ∨ c = 71 ∨ c = 103
end Gn

set_option maxHeartbeats 4000000 in
theorem stD0 (s : ByteArray) (p : Nat) (hs : s.size ≤ 1048576) (hl : p < s.size) (w : World) (e : Sc.bt s p = 67) : Calls Tryz.prog 22 #[.string s, .int .i64 (p : Nat)] w fun e w' => e = .returned (.tuple #[.int .i64 (Gn.st1 s (p + 1)).n, .int .i64 (Gn.st1 s (p + 1)).a, .bool (decide ((Gn.st1 s (p + 1)).er = 0))]) ∧ w.grownBy w' none := by
  have hbp := Sc.bt_at hl
  have hl' : (p : Int) < (s.size : Int) := by omega
  have m0 : ((Sc.bt s p : Nat) : Int) = 67 := by omega
  have m0' : (((Sc.bt s p : Nat) : Int) == 67) = true := by simp; omega
  clear e
  have hO := Sc.ov_is Sc.digitB (s := s) (i := p + 1) (by omega)
  have ho1 : p + 1 ≤ Sc.ov Sc.digitB s (p + 1) := hO.ge
  have ho2 : Sc.ov Sc.digitB s (p + 1) ≤ s.size := hO.le
  go_enter Tryz.func22, Tryz.ntmps22
  go_wp2
  go_loopw [7, 8] (fun vn vi wr => ∃ k : Nat, p + 1 ≤ k ∧ k ≤ Sc.ov Sc.digitB s (p + 1) ∧ vn = .int .i64 ((min (Nu.nm s (p + 1) k) 1000 : Nat) : Int) ∧ vi = .int .i64 k ∧ w.grownBy wr none) (fun _ vi _ => s.size - (intOf vi).toNat)
  case atStart => exact ⟨p + 1, by omega, ho1, by rw [Nu.nm_self]; rfl, by first | rfl | simp, World.grownBy.refl _ _⟩
  case round =>
    obtain ⟨k, hk1, hk2, rfl, rfl, hG⟩ := hrel
    by_cases hlt : k < s.size
    · have hlt' : (k : Int) < (s.size : Int) := by omega
      have hbt := Sc.bt_at hlt
      have hb256 := Sc.bt_lt s k
      have hD := fun w => digitD (Sc.bt s k) hb256 w
      by_cases hd : k < Sc.ov Sc.digitB s (p + 1)
      · have hdb := hO.all k hk1 hd
        have h48 : 48 ≤ Sc.bt s k ∧ Sc.bt s k ≤ 57 := by unfold Sc.digitB at hdb; rw [Sc.wi_iff] at hdb; omega
        rw [show Lf.isD (Sc.bt s k) = true by unfold Lf.isD; simp [h48.1, h48.2]] at hD
        have hnm : Hid (min (Nu.nm s (p + 1) (k + 1)) 1000 = min (min (Nu.nm s (p + 1) k) 1000 * 10 + (Sc.bt s k - 48)) 1000) := by
          unfold Hid
          rw [Nu.nm_succ s hk1 hlt, Gn.min_step]
        have hm : min (Nu.nm s (p + 1) k) 1000 ≤ 1000 := by omega
        have hd1 : k + 1 ≤ Sc.ov Sc.digitB s (p + 1) := hd
        obtain ⟨y2, hY⟩ : ∃ y2, min (Nu.nm s (p + 1) (k + 1)) 1000 = y2 := ⟨_, rfl⟩
        have HY : Hid (min (Nu.nm s (p + 1) (k + 1)) 1000 = y2) := hY
        rw [hY] at hnm
        clear hd hdb hY
        generalize min (Nu.nm s (p + 1) k) 1000 = y at hnm hm ⊢
        obtain ⟨x, hx⟩ : ∃ x, Sc.bt s k = x + 48 := ⟨Sc.bt s k - 48, by omega⟩
        have hx9 : x ≤ 9 := by omega
        rw [hx] at hD hbt hnm
        have w1 : IntKind.u8.wrap (((x + 48 : Nat) : Int) - 48) = (x : Int) := by rw [IntKind.wrap_u8]; omega
        have w2 : IntKind.i64.wrap ((y : Int) * 10) = (y : Int) * 10 := by rw [IntKind.wrap_i64]; omega
        have w3 : IntKind.i64.wrap ((y : Int) * 10 + (x : Int)) = (y : Int) * 10 + (x : Int) := by rw [IntKind.wrap_i64]; omega
        have hmn : ∀ (ts : Array TypeId) (t' : TypeId) (w : World), (Builtin.min_ ts t' #[.int .i64 ((y : Int) * 10 + (x : Int)), .int .i64 1000]).run Tryz.prog w = .ok (.int .i64 (y2 : Nat)) w := fun ts t' w => by
          have h2 := hnm.out
          rw [run_min_int2]
          by_cases h3 : 1000 < (y : Int) * 10 + (x : Int)
          · rw [if_pos h3, show y2 = 1000 by omega]; rfl
          · rw [if_neg h3, show ((y2 : Nat) : Int) = (y : Int) * 10 + (x : Int) by omega]
        clear hnm hx h48
        go_wp2_with (first | (go_at_call 41; refine (hD _).mono ?_; rintro e w3 ⟨rfl, hw3⟩; subst w3))
        first
          | exact ⟨⟨k + 1, by omega, hd1, by rw [HY.out], by simp, hG⟩, by simp [intOf]; omega⟩
          | (go_roundw; (case rel => exact ⟨k + 1, by omega, hd1, by rw [HY.out], by first | rfl | go_num | simp, by first | exact hG | exact gb_drew hG⟩); (case measure => (simp [intOf]; omega)))
      · have hke : k = Sc.ov Sc.digitB s (p + 1) := by omega
        have hdb := hO.stop (by omega)
        rw [← hke] at hdb
        rw [show Lf.isD (Sc.bt s k) = false by rw [← hdb]; unfold Lf.isD Sc.digitB Sc.wi; congr 1 <;> (congr 1; apply propext; omega)] at hD
        have HT : Hid (Gn.st1 s (p + 1) = ⟨0, k, 90⟩) := by
          unfold Hid Gn.st1
          rw [← hke, if_pos hlt]
        clear hd hdb hke
        go_wp2_with (first | (go_at_call 41; refine (hD _).mono ?_; rintro e w3 ⟨rfl, hw3⟩; subst w3))
        go_ret3
        exact ⟨by rw [HT.out]; rfl, by first | exact hG | exact gb_drew hG⟩
    · obtain rfl : k = s.size := by omega
      have hoe : Sc.ov Sc.digitB s (p + 1) = s.size := by omega
      have HN : Hid (Nu.nm s (p + 1) s.size = Gn.num s (p + 1)) := by unfold Hid Gn.num Nu.nm; rw [hoe]
      by_cases hq : p + 1 < s.size
      · have hq' : ¬ (s.size : Int) ≤ ((p + 1 : Nat) : Int) := by omega
        have hq2 : ((p + 1 : Nat) : Int) < (s.size : Int) := by omega
        by_cases hn : 2 ≤ Gn.num s (p + 1) ∧ Gn.num s (p + 1) ≤ 256
        · have HT : Hid (Gn.st1 s (p + 1) = ⟨Gn.num s (p + 1), 0, 0⟩) := by
            unfold Hid Gn.st1
            rw [if_neg (by omega), if_pos hn]
          rw [show min (Nu.nm s (p + 1) s.size) 1000 = Gn.num s (p + 1) by have := HN.out; omega]
          clear HN hoe hlt
          generalize Gn.num s (p + 1) = z at HT hn ⊢
          have hz1 : ¬ (z : Int) < 2 := by omega
          have hz2 : ¬ (256 : Int) < (z : Int) := by omega
          go_wp2
          go_ret3
          exact ⟨by rw [HT.out]; rfl, hG⟩
        · have HT : Hid (Gn.st1 s (p + 1) = ⟨0, p + 1, 90⟩) := by
            unfold Hid Gn.st1
            rw [if_neg (by omega), if_neg hn]
          by_cases hz : (((min (Nu.nm s (p + 1) s.size) 1000 : Nat) : Int)) < 2
          · clear HN hoe hn hlt
            generalize min (Nu.nm s (p + 1) s.size) 1000 = z at hz ⊢
            go_wp2
            go_ret3
            exact ⟨by rw [HT.out]; first | rfl | simp, hG⟩
          · have hz2 : (256 : Int) < (((min (Nu.nm s (p + 1) s.size) 1000 : Nat) : Int)) := by have := HN.out; omega
            clear HN hoe hn hlt
            generalize min (Nu.nm s (p + 1) s.size) 1000 = z at hz hz2 ⊢
            go_wp2
            go_ret3
            exact ⟨by rw [HT.out]; first | rfl | simp, hG⟩
      · have hqe : p + 1 = s.size := by omega
        have HT : Hid (Gn.st1 s (p + 1) = ⟨0, s.size, 90⟩) := by
          have h0 := Gn.num_none (s := s) (i := p + 1) (by omega)
          unfold Hid Gn.st1
          rw [if_neg (by omega), h0, if_neg (by omega), hqe]
        have hq' : (s.size : Int) ≤ ((p + 1 : Nat) : Int) := by omega
        clear HN hoe
        generalize min (Nu.nm s (p + 1) s.size) 1000 = z
        go_wp2
        go_ret3
        exact ⟨by rw [HT.out]; rfl, hG⟩

set_option maxHeartbeats 4000000 in
theorem stD1 (s : ByteArray) (p : Nat) (hs : s.size ≤ 1048576) (hl : p < s.size) (w : World) (e : Sc.bt s p = 99) : Calls Tryz.prog 22 #[.string s, .int .i64 (p : Nat)] w fun e w' => e = .returned (.tuple #[.int .i64 (Gn.st1 s (p + 1)).n, .int .i64 (Gn.st1 s (p + 1)).a, .bool (decide ((Gn.st1 s (p + 1)).er = 0))]) ∧ w.grownBy w' none := by
  have hbp := Sc.bt_at hl
  have hl' : (p : Int) < (s.size : Int) := by omega
  have n0 : ¬ ((Sc.bt s p : Nat) : Int) = 67 := by omega
  have n0' : (((Sc.bt s p : Nat) : Int) == 67) = false := by simp; omega
  have m0 : ((Sc.bt s p : Nat) : Int) = 99 := by omega
  have m0' : (((Sc.bt s p : Nat) : Int) == 99) = true := by simp; omega
  clear e
  have hO := Sc.ov_is Sc.digitB (s := s) (i := p + 1) (by omega)
  have ho1 : p + 1 ≤ Sc.ov Sc.digitB s (p + 1) := hO.ge
  have ho2 : Sc.ov Sc.digitB s (p + 1) ≤ s.size := hO.le
  go_enter Tryz.func22, Tryz.ntmps22
  go_wp2
  go_loopw [7, 8] (fun vn vi wr => ∃ k : Nat, p + 1 ≤ k ∧ k ≤ Sc.ov Sc.digitB s (p + 1) ∧ vn = .int .i64 ((min (Nu.nm s (p + 1) k) 1000 : Nat) : Int) ∧ vi = .int .i64 k ∧ w.grownBy wr none) (fun _ vi _ => s.size - (intOf vi).toNat)
  case atStart => exact ⟨p + 1, by omega, ho1, by rw [Nu.nm_self]; rfl, by first | rfl | simp, World.grownBy.refl _ _⟩
  case round =>
    obtain ⟨k, hk1, hk2, rfl, rfl, hG⟩ := hrel
    by_cases hlt : k < s.size
    · have hlt' : (k : Int) < (s.size : Int) := by omega
      have hbt := Sc.bt_at hlt
      have hb256 := Sc.bt_lt s k
      have hD := fun w => digitD (Sc.bt s k) hb256 w
      by_cases hd : k < Sc.ov Sc.digitB s (p + 1)
      · have hdb := hO.all k hk1 hd
        have h48 : 48 ≤ Sc.bt s k ∧ Sc.bt s k ≤ 57 := by unfold Sc.digitB at hdb; rw [Sc.wi_iff] at hdb; omega
        rw [show Lf.isD (Sc.bt s k) = true by unfold Lf.isD; simp [h48.1, h48.2]] at hD
        have hnm : Hid (min (Nu.nm s (p + 1) (k + 1)) 1000 = min (min (Nu.nm s (p + 1) k) 1000 * 10 + (Sc.bt s k - 48)) 1000) := by
          unfold Hid
          rw [Nu.nm_succ s hk1 hlt, Gn.min_step]
        have hm : min (Nu.nm s (p + 1) k) 1000 ≤ 1000 := by omega
        have hd1 : k + 1 ≤ Sc.ov Sc.digitB s (p + 1) := hd
        obtain ⟨y2, hY⟩ : ∃ y2, min (Nu.nm s (p + 1) (k + 1)) 1000 = y2 := ⟨_, rfl⟩
        have HY : Hid (min (Nu.nm s (p + 1) (k + 1)) 1000 = y2) := hY
        rw [hY] at hnm
        clear hd hdb hY
        generalize min (Nu.nm s (p + 1) k) 1000 = y at hnm hm ⊢
        obtain ⟨x, hx⟩ : ∃ x, Sc.bt s k = x + 48 := ⟨Sc.bt s k - 48, by omega⟩
        have hx9 : x ≤ 9 := by omega
        rw [hx] at hD hbt hnm
        have w1 : IntKind.u8.wrap (((x + 48 : Nat) : Int) - 48) = (x : Int) := by rw [IntKind.wrap_u8]; omega
        have w2 : IntKind.i64.wrap ((y : Int) * 10) = (y : Int) * 10 := by rw [IntKind.wrap_i64]; omega
        have w3 : IntKind.i64.wrap ((y : Int) * 10 + (x : Int)) = (y : Int) * 10 + (x : Int) := by rw [IntKind.wrap_i64]; omega
        have hmn : ∀ (ts : Array TypeId) (t' : TypeId) (w : World), (Builtin.min_ ts t' #[.int .i64 ((y : Int) * 10 + (x : Int)), .int .i64 1000]).run Tryz.prog w = .ok (.int .i64 (y2 : Nat)) w := fun ts t' w => by
          have h2 := hnm.out
          rw [run_min_int2]
          by_cases h3 : 1000 < (y : Int) * 10 + (x : Int)
          · rw [if_pos h3, show y2 = 1000 by omega]; rfl
          · rw [if_neg h3, show ((y2 : Nat) : Int) = (y : Int) * 10 + (x : Int) by omega]
        clear hnm hx h48
        go_wp2_with (first | (go_at_call 41; refine (hD _).mono ?_; rintro e w3 ⟨rfl, hw3⟩; subst w3))
        first
          | exact ⟨⟨k + 1, by omega, hd1, by rw [HY.out], by simp, hG⟩, by simp [intOf]; omega⟩
          | (go_roundw; (case rel => exact ⟨k + 1, by omega, hd1, by rw [HY.out], by first | rfl | go_num | simp, by first | exact hG | exact gb_drew hG⟩); (case measure => (simp [intOf]; omega)))
      · have hke : k = Sc.ov Sc.digitB s (p + 1) := by omega
        have hdb := hO.stop (by omega)
        rw [← hke] at hdb
        rw [show Lf.isD (Sc.bt s k) = false by rw [← hdb]; unfold Lf.isD Sc.digitB Sc.wi; congr 1 <;> (congr 1; apply propext; omega)] at hD
        have HT : Hid (Gn.st1 s (p + 1) = ⟨0, k, 90⟩) := by
          unfold Hid Gn.st1
          rw [← hke, if_pos hlt]
        clear hd hdb hke
        go_wp2_with (first | (go_at_call 41; refine (hD _).mono ?_; rintro e w3 ⟨rfl, hw3⟩; subst w3))
        go_ret3
        exact ⟨by rw [HT.out]; rfl, by first | exact hG | exact gb_drew hG⟩
    · obtain rfl : k = s.size := by omega
      have hoe : Sc.ov Sc.digitB s (p + 1) = s.size := by omega
      have HN : Hid (Nu.nm s (p + 1) s.size = Gn.num s (p + 1)) := by unfold Hid Gn.num Nu.nm; rw [hoe]
      by_cases hq : p + 1 < s.size
      · have hq' : ¬ (s.size : Int) ≤ ((p + 1 : Nat) : Int) := by omega
        have hq2 : ((p + 1 : Nat) : Int) < (s.size : Int) := by omega
        by_cases hn : 2 ≤ Gn.num s (p + 1) ∧ Gn.num s (p + 1) ≤ 256
        · have HT : Hid (Gn.st1 s (p + 1) = ⟨Gn.num s (p + 1), 0, 0⟩) := by
            unfold Hid Gn.st1
            rw [if_neg (by omega), if_pos hn]
          rw [show min (Nu.nm s (p + 1) s.size) 1000 = Gn.num s (p + 1) by have := HN.out; omega]
          clear HN hoe hlt
          generalize Gn.num s (p + 1) = z at HT hn ⊢
          have hz1 : ¬ (z : Int) < 2 := by omega
          have hz2 : ¬ (256 : Int) < (z : Int) := by omega
          go_wp2
          go_ret3
          exact ⟨by rw [HT.out]; rfl, hG⟩
        · have HT : Hid (Gn.st1 s (p + 1) = ⟨0, p + 1, 90⟩) := by
            unfold Hid Gn.st1
            rw [if_neg (by omega), if_neg hn]
          by_cases hz : (((min (Nu.nm s (p + 1) s.size) 1000 : Nat) : Int)) < 2
          · clear HN hoe hn hlt
            generalize min (Nu.nm s (p + 1) s.size) 1000 = z at hz ⊢
            go_wp2
            go_ret3
            exact ⟨by rw [HT.out]; first | rfl | simp, hG⟩
          · have hz2 : (256 : Int) < (((min (Nu.nm s (p + 1) s.size) 1000 : Nat) : Int)) := by have := HN.out; omega
            clear HN hoe hn hlt
            generalize min (Nu.nm s (p + 1) s.size) 1000 = z at hz hz2 ⊢
            go_wp2
            go_ret3
            exact ⟨by rw [HT.out]; first | rfl | simp, hG⟩
      · have hqe : p + 1 = s.size := by omega
        have HT : Hid (Gn.st1 s (p + 1) = ⟨0, s.size, 90⟩) := by
          have h0 := Gn.num_none (s := s) (i := p + 1) (by omega)
          unfold Hid Gn.st1
          rw [if_neg (by omega), h0, if_neg (by omega), hqe]
        have hq' : (s.size : Int) ≤ ((p + 1 : Nat) : Int) := by omega
        clear HN hoe
        generalize min (Nu.nm s (p + 1) s.size) 1000 = z
        go_wp2
        go_ret3
        exact ⟨by rw [HT.out]; rfl, hG⟩

set_option maxHeartbeats 4000000 in
theorem stD2 (s : ByteArray) (p : Nat) (hs : s.size ≤ 1048576) (hl : p < s.size) (w : World) (e : Sc.bt s p = 71) : Calls Tryz.prog 22 #[.string s, .int .i64 (p : Nat)] w fun e w' => e = .returned (.tuple #[.int .i64 (Gn.st1 s (p + 1)).n, .int .i64 (Gn.st1 s (p + 1)).a, .bool (decide ((Gn.st1 s (p + 1)).er = 0))]) ∧ w.grownBy w' none := by
  have hbp := Sc.bt_at hl
  have hl' : (p : Int) < (s.size : Int) := by omega
  have n0 : ¬ ((Sc.bt s p : Nat) : Int) = 67 := by omega
  have n0' : (((Sc.bt s p : Nat) : Int) == 67) = false := by simp; omega
  have n1 : ¬ ((Sc.bt s p : Nat) : Int) = 99 := by omega
  have n1' : (((Sc.bt s p : Nat) : Int) == 99) = false := by simp; omega
  have m0 : ((Sc.bt s p : Nat) : Int) = 71 := by omega
  have m0' : (((Sc.bt s p : Nat) : Int) == 71) = true := by simp; omega
  clear e
  have hO := Sc.ov_is Sc.digitB (s := s) (i := p + 1) (by omega)
  have ho1 : p + 1 ≤ Sc.ov Sc.digitB s (p + 1) := hO.ge
  have ho2 : Sc.ov Sc.digitB s (p + 1) ≤ s.size := hO.le
  go_enter Tryz.func22, Tryz.ntmps22
  go_wp2
  go_loopw [7, 8] (fun vn vi wr => ∃ k : Nat, p + 1 ≤ k ∧ k ≤ Sc.ov Sc.digitB s (p + 1) ∧ vn = .int .i64 ((min (Nu.nm s (p + 1) k) 1000 : Nat) : Int) ∧ vi = .int .i64 k ∧ w.grownBy wr none) (fun _ vi _ => s.size - (intOf vi).toNat)
  case atStart => exact ⟨p + 1, by omega, ho1, by rw [Nu.nm_self]; rfl, by first | rfl | simp, World.grownBy.refl _ _⟩
  case round =>
    obtain ⟨k, hk1, hk2, rfl, rfl, hG⟩ := hrel
    by_cases hlt : k < s.size
    · have hlt' : (k : Int) < (s.size : Int) := by omega
      have hbt := Sc.bt_at hlt
      have hb256 := Sc.bt_lt s k
      have hD := fun w => digitD (Sc.bt s k) hb256 w
      by_cases hd : k < Sc.ov Sc.digitB s (p + 1)
      · have hdb := hO.all k hk1 hd
        have h48 : 48 ≤ Sc.bt s k ∧ Sc.bt s k ≤ 57 := by unfold Sc.digitB at hdb; rw [Sc.wi_iff] at hdb; omega
        rw [show Lf.isD (Sc.bt s k) = true by unfold Lf.isD; simp [h48.1, h48.2]] at hD
        have hnm : Hid (min (Nu.nm s (p + 1) (k + 1)) 1000 = min (min (Nu.nm s (p + 1) k) 1000 * 10 + (Sc.bt s k - 48)) 1000) := by
          unfold Hid
          rw [Nu.nm_succ s hk1 hlt, Gn.min_step]
        have hm : min (Nu.nm s (p + 1) k) 1000 ≤ 1000 := by omega
        have hd1 : k + 1 ≤ Sc.ov Sc.digitB s (p + 1) := hd
        obtain ⟨y2, hY⟩ : ∃ y2, min (Nu.nm s (p + 1) (k + 1)) 1000 = y2 := ⟨_, rfl⟩
        have HY : Hid (min (Nu.nm s (p + 1) (k + 1)) 1000 = y2) := hY
        rw [hY] at hnm
        clear hd hdb hY
        generalize min (Nu.nm s (p + 1) k) 1000 = y at hnm hm ⊢
        obtain ⟨x, hx⟩ : ∃ x, Sc.bt s k = x + 48 := ⟨Sc.bt s k - 48, by omega⟩
        have hx9 : x ≤ 9 := by omega
        rw [hx] at hD hbt hnm
        have w1 : IntKind.u8.wrap (((x + 48 : Nat) : Int) - 48) = (x : Int) := by rw [IntKind.wrap_u8]; omega
        have w2 : IntKind.i64.wrap ((y : Int) * 10) = (y : Int) * 10 := by rw [IntKind.wrap_i64]; omega
        have w3 : IntKind.i64.wrap ((y : Int) * 10 + (x : Int)) = (y : Int) * 10 + (x : Int) := by rw [IntKind.wrap_i64]; omega
        have hmn : ∀ (ts : Array TypeId) (t' : TypeId) (w : World), (Builtin.min_ ts t' #[.int .i64 ((y : Int) * 10 + (x : Int)), .int .i64 1000]).run Tryz.prog w = .ok (.int .i64 (y2 : Nat)) w := fun ts t' w => by
          have h2 := hnm.out
          rw [run_min_int2]
          by_cases h3 : 1000 < (y : Int) * 10 + (x : Int)
          · rw [if_pos h3, show y2 = 1000 by omega]; rfl
          · rw [if_neg h3, show ((y2 : Nat) : Int) = (y : Int) * 10 + (x : Int) by omega]
        clear hnm hx h48
        go_wp2_with (first | (go_at_call 41; refine (hD _).mono ?_; rintro e w3 ⟨rfl, hw3⟩; subst w3))
        first
          | exact ⟨⟨k + 1, by omega, hd1, by rw [HY.out], by simp, hG⟩, by simp [intOf]; omega⟩
          | (go_roundw; (case rel => exact ⟨k + 1, by omega, hd1, by rw [HY.out], by first | rfl | go_num | simp, by first | exact hG | exact gb_drew hG⟩); (case measure => (simp [intOf]; omega)))
      · have hke : k = Sc.ov Sc.digitB s (p + 1) := by omega
        have hdb := hO.stop (by omega)
        rw [← hke] at hdb
        rw [show Lf.isD (Sc.bt s k) = false by rw [← hdb]; unfold Lf.isD Sc.digitB Sc.wi; congr 1 <;> (congr 1; apply propext; omega)] at hD
        have HT : Hid (Gn.st1 s (p + 1) = ⟨0, k, 90⟩) := by
          unfold Hid Gn.st1
          rw [← hke, if_pos hlt]
        clear hd hdb hke
        go_wp2_with (first | (go_at_call 41; refine (hD _).mono ?_; rintro e w3 ⟨rfl, hw3⟩; subst w3))
        go_ret3
        exact ⟨by rw [HT.out]; rfl, by first | exact hG | exact gb_drew hG⟩
    · obtain rfl : k = s.size := by omega
      have hoe : Sc.ov Sc.digitB s (p + 1) = s.size := by omega
      have HN : Hid (Nu.nm s (p + 1) s.size = Gn.num s (p + 1)) := by unfold Hid Gn.num Nu.nm; rw [hoe]
      by_cases hq : p + 1 < s.size
      · have hq' : ¬ (s.size : Int) ≤ ((p + 1 : Nat) : Int) := by omega
        have hq2 : ((p + 1 : Nat) : Int) < (s.size : Int) := by omega
        by_cases hn : 2 ≤ Gn.num s (p + 1) ∧ Gn.num s (p + 1) ≤ 256
        · have HT : Hid (Gn.st1 s (p + 1) = ⟨Gn.num s (p + 1), 0, 0⟩) := by
            unfold Hid Gn.st1
            rw [if_neg (by omega), if_pos hn]
          rw [show min (Nu.nm s (p + 1) s.size) 1000 = Gn.num s (p + 1) by have := HN.out; omega]
          clear HN hoe hlt
          generalize Gn.num s (p + 1) = z at HT hn ⊢
          have hz1 : ¬ (z : Int) < 2 := by omega
          have hz2 : ¬ (256 : Int) < (z : Int) := by omega
          go_wp2
          go_ret3
          exact ⟨by rw [HT.out]; rfl, hG⟩
        · have HT : Hid (Gn.st1 s (p + 1) = ⟨0, p + 1, 90⟩) := by
            unfold Hid Gn.st1
            rw [if_neg (by omega), if_neg hn]
          by_cases hz : (((min (Nu.nm s (p + 1) s.size) 1000 : Nat) : Int)) < 2
          · clear HN hoe hn hlt
            generalize min (Nu.nm s (p + 1) s.size) 1000 = z at hz ⊢
            go_wp2
            go_ret3
            exact ⟨by rw [HT.out]; first | rfl | simp, hG⟩
          · have hz2 : (256 : Int) < (((min (Nu.nm s (p + 1) s.size) 1000 : Nat) : Int)) := by have := HN.out; omega
            clear HN hoe hn hlt
            generalize min (Nu.nm s (p + 1) s.size) 1000 = z at hz hz2 ⊢
            go_wp2
            go_ret3
            exact ⟨by rw [HT.out]; first | rfl | simp, hG⟩
      · have hqe : p + 1 = s.size := by omega
        have HT : Hid (Gn.st1 s (p + 1) = ⟨0, s.size, 90⟩) := by
          have h0 := Gn.num_none (s := s) (i := p + 1) (by omega)
          unfold Hid Gn.st1
          rw [if_neg (by omega), h0, if_neg (by omega), hqe]
        have hq' : (s.size : Int) ≤ ((p + 1 : Nat) : Int) := by omega
        clear HN hoe
        generalize min (Nu.nm s (p + 1) s.size) 1000 = z
        go_wp2
        go_ret3
        exact ⟨by rw [HT.out]; rfl, hG⟩

set_option maxHeartbeats 4000000 in
theorem stD3 (s : ByteArray) (p : Nat) (hs : s.size ≤ 1048576) (hl : p < s.size) (w : World) (e : Sc.bt s p = 103) : Calls Tryz.prog 22 #[.string s, .int .i64 (p : Nat)] w fun e w' => e = .returned (.tuple #[.int .i64 (Gn.st1 s (p + 1)).n, .int .i64 (Gn.st1 s (p + 1)).a, .bool (decide ((Gn.st1 s (p + 1)).er = 0))]) ∧ w.grownBy w' none := by
  have hbp := Sc.bt_at hl
  have hl' : (p : Int) < (s.size : Int) := by omega
  have n0 : ¬ ((Sc.bt s p : Nat) : Int) = 67 := by omega
  have n0' : (((Sc.bt s p : Nat) : Int) == 67) = false := by simp; omega
  have n1 : ¬ ((Sc.bt s p : Nat) : Int) = 99 := by omega
  have n1' : (((Sc.bt s p : Nat) : Int) == 99) = false := by simp; omega
  have n2 : ¬ ((Sc.bt s p : Nat) : Int) = 71 := by omega
  have n2' : (((Sc.bt s p : Nat) : Int) == 71) = false := by simp; omega
  have m0 : ((Sc.bt s p : Nat) : Int) = 103 := by omega
  have m0' : (((Sc.bt s p : Nat) : Int) == 103) = true := by simp; omega
  clear e
  have hO := Sc.ov_is Sc.digitB (s := s) (i := p + 1) (by omega)
  have ho1 : p + 1 ≤ Sc.ov Sc.digitB s (p + 1) := hO.ge
  have ho2 : Sc.ov Sc.digitB s (p + 1) ≤ s.size := hO.le
  go_enter Tryz.func22, Tryz.ntmps22
  go_wp2
  go_loopw [7, 8] (fun vn vi wr => ∃ k : Nat, p + 1 ≤ k ∧ k ≤ Sc.ov Sc.digitB s (p + 1) ∧ vn = .int .i64 ((min (Nu.nm s (p + 1) k) 1000 : Nat) : Int) ∧ vi = .int .i64 k ∧ w.grownBy wr none) (fun _ vi _ => s.size - (intOf vi).toNat)
  case atStart => exact ⟨p + 1, by omega, ho1, by rw [Nu.nm_self]; rfl, by first | rfl | simp, World.grownBy.refl _ _⟩
  case round =>
    obtain ⟨k, hk1, hk2, rfl, rfl, hG⟩ := hrel
    by_cases hlt : k < s.size
    · have hlt' : (k : Int) < (s.size : Int) := by omega
      have hbt := Sc.bt_at hlt
      have hb256 := Sc.bt_lt s k
      have hD := fun w => digitD (Sc.bt s k) hb256 w
      by_cases hd : k < Sc.ov Sc.digitB s (p + 1)
      · have hdb := hO.all k hk1 hd
        have h48 : 48 ≤ Sc.bt s k ∧ Sc.bt s k ≤ 57 := by unfold Sc.digitB at hdb; rw [Sc.wi_iff] at hdb; omega
        rw [show Lf.isD (Sc.bt s k) = true by unfold Lf.isD; simp [h48.1, h48.2]] at hD
        have hnm : Hid (min (Nu.nm s (p + 1) (k + 1)) 1000 = min (min (Nu.nm s (p + 1) k) 1000 * 10 + (Sc.bt s k - 48)) 1000) := by
          unfold Hid
          rw [Nu.nm_succ s hk1 hlt, Gn.min_step]
        have hm : min (Nu.nm s (p + 1) k) 1000 ≤ 1000 := by omega
        have hd1 : k + 1 ≤ Sc.ov Sc.digitB s (p + 1) := hd
        obtain ⟨y2, hY⟩ : ∃ y2, min (Nu.nm s (p + 1) (k + 1)) 1000 = y2 := ⟨_, rfl⟩
        have HY : Hid (min (Nu.nm s (p + 1) (k + 1)) 1000 = y2) := hY
        rw [hY] at hnm
        clear hd hdb hY
        generalize min (Nu.nm s (p + 1) k) 1000 = y at hnm hm ⊢
        obtain ⟨x, hx⟩ : ∃ x, Sc.bt s k = x + 48 := ⟨Sc.bt s k - 48, by omega⟩
        have hx9 : x ≤ 9 := by omega
        rw [hx] at hD hbt hnm
        have w1 : IntKind.u8.wrap (((x + 48 : Nat) : Int) - 48) = (x : Int) := by rw [IntKind.wrap_u8]; omega
        have w2 : IntKind.i64.wrap ((y : Int) * 10) = (y : Int) * 10 := by rw [IntKind.wrap_i64]; omega
        have w3 : IntKind.i64.wrap ((y : Int) * 10 + (x : Int)) = (y : Int) * 10 + (x : Int) := by rw [IntKind.wrap_i64]; omega
        have hmn : ∀ (ts : Array TypeId) (t' : TypeId) (w : World), (Builtin.min_ ts t' #[.int .i64 ((y : Int) * 10 + (x : Int)), .int .i64 1000]).run Tryz.prog w = .ok (.int .i64 (y2 : Nat)) w := fun ts t' w => by
          have h2 := hnm.out
          rw [run_min_int2]
          by_cases h3 : 1000 < (y : Int) * 10 + (x : Int)
          · rw [if_pos h3, show y2 = 1000 by omega]; rfl
          · rw [if_neg h3, show ((y2 : Nat) : Int) = (y : Int) * 10 + (x : Int) by omega]
        clear hnm hx h48
        go_wp2_with (first | (go_at_call 41; refine (hD _).mono ?_; rintro e w3 ⟨rfl, hw3⟩; subst w3))
        first
          | exact ⟨⟨k + 1, by omega, hd1, by rw [HY.out], by simp, hG⟩, by simp [intOf]; omega⟩
          | (go_roundw; (case rel => exact ⟨k + 1, by omega, hd1, by rw [HY.out], by first | rfl | go_num | simp, by first | exact hG | exact gb_drew hG⟩); (case measure => (simp [intOf]; omega)))
      · have hke : k = Sc.ov Sc.digitB s (p + 1) := by omega
        have hdb := hO.stop (by omega)
        rw [← hke] at hdb
        rw [show Lf.isD (Sc.bt s k) = false by rw [← hdb]; unfold Lf.isD Sc.digitB Sc.wi; congr 1 <;> (congr 1; apply propext; omega)] at hD
        have HT : Hid (Gn.st1 s (p + 1) = ⟨0, k, 90⟩) := by
          unfold Hid Gn.st1
          rw [← hke, if_pos hlt]
        clear hd hdb hke
        go_wp2_with (first | (go_at_call 41; refine (hD _).mono ?_; rintro e w3 ⟨rfl, hw3⟩; subst w3))
        go_ret3
        exact ⟨by rw [HT.out]; rfl, by first | exact hG | exact gb_drew hG⟩
    · obtain rfl : k = s.size := by omega
      have hoe : Sc.ov Sc.digitB s (p + 1) = s.size := by omega
      have HN : Hid (Nu.nm s (p + 1) s.size = Gn.num s (p + 1)) := by unfold Hid Gn.num Nu.nm; rw [hoe]
      by_cases hq : p + 1 < s.size
      · have hq' : ¬ (s.size : Int) ≤ ((p + 1 : Nat) : Int) := by omega
        have hq2 : ((p + 1 : Nat) : Int) < (s.size : Int) := by omega
        by_cases hn : 2 ≤ Gn.num s (p + 1) ∧ Gn.num s (p + 1) ≤ 256
        · have HT : Hid (Gn.st1 s (p + 1) = ⟨Gn.num s (p + 1), 0, 0⟩) := by
            unfold Hid Gn.st1
            rw [if_neg (by omega), if_pos hn]
          rw [show min (Nu.nm s (p + 1) s.size) 1000 = Gn.num s (p + 1) by have := HN.out; omega]
          clear HN hoe hlt
          generalize Gn.num s (p + 1) = z at HT hn ⊢
          have hz1 : ¬ (z : Int) < 2 := by omega
          have hz2 : ¬ (256 : Int) < (z : Int) := by omega
          go_wp2
          go_ret3
          exact ⟨by rw [HT.out]; rfl, hG⟩
        · have HT : Hid (Gn.st1 s (p + 1) = ⟨0, p + 1, 90⟩) := by
            unfold Hid Gn.st1
            rw [if_neg (by omega), if_neg hn]
          by_cases hz : (((min (Nu.nm s (p + 1) s.size) 1000 : Nat) : Int)) < 2
          · clear HN hoe hn hlt
            generalize min (Nu.nm s (p + 1) s.size) 1000 = z at hz ⊢
            go_wp2
            go_ret3
            exact ⟨by rw [HT.out]; first | rfl | simp, hG⟩
          · have hz2 : (256 : Int) < (((min (Nu.nm s (p + 1) s.size) 1000 : Nat) : Int)) := by have := HN.out; omega
            clear HN hoe hn hlt
            generalize min (Nu.nm s (p + 1) s.size) 1000 = z at hz hz2 ⊢
            go_wp2
            go_ret3
            exact ⟨by rw [HT.out]; first | rfl | simp, hG⟩
      · have hqe : p + 1 = s.size := by omega
        have HT : Hid (Gn.st1 s (p + 1) = ⟨0, s.size, 90⟩) := by
          have h0 := Gn.num_none (s := s) (i := p + 1) (by omega)
          unfold Hid Gn.st1
          rw [if_neg (by omega), h0, if_neg (by omega), hqe]
        have hq' : (s.size : Int) ≤ ((p + 1 : Nat) : Int) := by omega
        clear HN hoe
        generalize min (Nu.nm s (p + 1) s.size) 1000 = z
        go_wp2
        go_ret3
        exact ⟨by rw [HT.out]; rfl, hG⟩

set_option maxHeartbeats 4000000 in
theorem stD4 (s : ByteArray) (p : Nat) (hs : s.size ≤ 1048576) (hl : p < s.size) (w : World) (e0 : ¬ Sc.bt s p = 67) (e1 : ¬ Sc.bt s p = 99) (e2 : ¬ Sc.bt s p = 71) (e3 : ¬ Sc.bt s p = 103) : Calls Tryz.prog 22 #[.string s, .int .i64 (p : Nat)] w fun e w' => e = .returned (.tuple #[.int .i64 (Gn.st1 s (p)).n, .int .i64 (Gn.st1 s (p)).a, .bool (decide ((Gn.st1 s (p)).er = 0))]) ∧ w.grownBy w' none := by
  have hbp := Sc.bt_at hl
  have hl' : (p : Int) < (s.size : Int) := by omega
  have n0 : ¬ ((Sc.bt s p : Nat) : Int) = 67 := by omega
  have n0' : (((Sc.bt s p : Nat) : Int) == 67) = false := by simp; omega
  have n1 : ¬ ((Sc.bt s p : Nat) : Int) = 99 := by omega
  have n1' : (((Sc.bt s p : Nat) : Int) == 99) = false := by simp; omega
  have n2 : ¬ ((Sc.bt s p : Nat) : Int) = 71 := by omega
  have n2' : (((Sc.bt s p : Nat) : Int) == 71) = false := by simp; omega
  have n3 : ¬ ((Sc.bt s p : Nat) : Int) = 103 := by omega
  have n3' : (((Sc.bt s p : Nat) : Int) == 103) = false := by simp; omega
  clear e0 e1 e2 e3
  have hO := Sc.ov_is Sc.digitB (s := s) (i := p) (by omega)
  have ho1 : p ≤ Sc.ov Sc.digitB s (p) := hO.ge
  have ho2 : Sc.ov Sc.digitB s (p) ≤ s.size := hO.le
  go_enter Tryz.func22, Tryz.ntmps22
  go_wp2
  go_loopw [7, 8] (fun vn vi wr => ∃ k : Nat, p ≤ k ∧ k ≤ Sc.ov Sc.digitB s (p) ∧ vn = .int .i64 ((min (Nu.nm s (p) k) 1000 : Nat) : Int) ∧ vi = .int .i64 k ∧ w.grownBy wr none) (fun _ vi _ => s.size - (intOf vi).toNat)
  case atStart => exact ⟨p, by omega, ho1, by rw [Nu.nm_self]; rfl, by first | rfl | simp, World.grownBy.refl _ _⟩
  case round =>
    obtain ⟨k, hk1, hk2, rfl, rfl, hG⟩ := hrel
    by_cases hlt : k < s.size
    · have hlt' : (k : Int) < (s.size : Int) := by omega
      have hbt := Sc.bt_at hlt
      have hb256 := Sc.bt_lt s k
      have hD := fun w => digitD (Sc.bt s k) hb256 w
      by_cases hd : k < Sc.ov Sc.digitB s (p)
      · have hdb := hO.all k hk1 hd
        have h48 : 48 ≤ Sc.bt s k ∧ Sc.bt s k ≤ 57 := by unfold Sc.digitB at hdb; rw [Sc.wi_iff] at hdb; omega
        rw [show Lf.isD (Sc.bt s k) = true by unfold Lf.isD; simp [h48.1, h48.2]] at hD
        have hnm : Hid (min (Nu.nm s (p) (k + 1)) 1000 = min (min (Nu.nm s (p) k) 1000 * 10 + (Sc.bt s k - 48)) 1000) := by
          unfold Hid
          rw [Nu.nm_succ s hk1 hlt, Gn.min_step]
        have hm : min (Nu.nm s (p) k) 1000 ≤ 1000 := by omega
        have hd1 : k + 1 ≤ Sc.ov Sc.digitB s (p) := hd
        obtain ⟨y2, hY⟩ : ∃ y2, min (Nu.nm s (p) (k + 1)) 1000 = y2 := ⟨_, rfl⟩
        have HY : Hid (min (Nu.nm s (p) (k + 1)) 1000 = y2) := hY
        rw [hY] at hnm
        clear hd hdb hY
        generalize min (Nu.nm s (p) k) 1000 = y at hnm hm ⊢
        obtain ⟨x, hx⟩ : ∃ x, Sc.bt s k = x + 48 := ⟨Sc.bt s k - 48, by omega⟩
        have hx9 : x ≤ 9 := by omega
        rw [hx] at hD hbt hnm
        have w1 : IntKind.u8.wrap (((x + 48 : Nat) : Int) - 48) = (x : Int) := by rw [IntKind.wrap_u8]; omega
        have w2 : IntKind.i64.wrap ((y : Int) * 10) = (y : Int) * 10 := by rw [IntKind.wrap_i64]; omega
        have w3 : IntKind.i64.wrap ((y : Int) * 10 + (x : Int)) = (y : Int) * 10 + (x : Int) := by rw [IntKind.wrap_i64]; omega
        have hmn : ∀ (ts : Array TypeId) (t' : TypeId) (w : World), (Builtin.min_ ts t' #[.int .i64 ((y : Int) * 10 + (x : Int)), .int .i64 1000]).run Tryz.prog w = .ok (.int .i64 (y2 : Nat)) w := fun ts t' w => by
          have h2 := hnm.out
          rw [run_min_int2]
          by_cases h3 : 1000 < (y : Int) * 10 + (x : Int)
          · rw [if_pos h3, show y2 = 1000 by omega]; rfl
          · rw [if_neg h3, show ((y2 : Nat) : Int) = (y : Int) * 10 + (x : Int) by omega]
        clear hnm hx h48
        go_wp2_with (first | (go_at_call 41; refine (hD _).mono ?_; rintro e w3 ⟨rfl, hw3⟩; subst w3))
        first
          | exact ⟨⟨k + 1, by omega, hd1, by rw [HY.out], by simp, hG⟩, by simp [intOf]; omega⟩
          | (go_roundw; (case rel => exact ⟨k + 1, by omega, hd1, by rw [HY.out], by first | rfl | go_num | simp, by first | exact hG | exact gb_drew hG⟩); (case measure => (simp [intOf]; omega)))
      · have hke : k = Sc.ov Sc.digitB s (p) := by omega
        have hdb := hO.stop (by omega)
        rw [← hke] at hdb
        rw [show Lf.isD (Sc.bt s k) = false by rw [← hdb]; unfold Lf.isD Sc.digitB Sc.wi; congr 1 <;> (congr 1; apply propext; omega)] at hD
        have HT : Hid (Gn.st1 s (p) = ⟨0, k, 90⟩) := by
          unfold Hid Gn.st1
          rw [← hke, if_pos hlt]
        clear hd hdb hke
        go_wp2_with (first | (go_at_call 41; refine (hD _).mono ?_; rintro e w3 ⟨rfl, hw3⟩; subst w3))
        go_ret3
        exact ⟨by rw [HT.out]; rfl, by first | exact hG | exact gb_drew hG⟩
    · obtain rfl : k = s.size := by omega
      have hoe : Sc.ov Sc.digitB s (p) = s.size := by omega
      have HN : Hid (Nu.nm s (p) s.size = Gn.num s (p)) := by unfold Hid Gn.num Nu.nm; rw [hoe]
      by_cases hq : p < s.size
      · have hq' : ¬ (s.size : Int) ≤ ((p : Nat) : Int) := by omega
        have hq2 : ((p : Nat) : Int) < (s.size : Int) := by omega
        by_cases hn : 2 ≤ Gn.num s (p) ∧ Gn.num s (p) ≤ 256
        · have HT : Hid (Gn.st1 s (p) = ⟨Gn.num s (p), 0, 0⟩) := by
            unfold Hid Gn.st1
            rw [if_neg (by omega), if_pos hn]
          rw [show min (Nu.nm s (p) s.size) 1000 = Gn.num s (p) by have := HN.out; omega]
          clear HN hoe hlt
          generalize Gn.num s (p) = z at HT hn ⊢
          have hz1 : ¬ (z : Int) < 2 := by omega
          have hz2 : ¬ (256 : Int) < (z : Int) := by omega
          go_wp2
          go_ret3
          exact ⟨by rw [HT.out]; rfl, hG⟩
        · have HT : Hid (Gn.st1 s (p) = ⟨0, p, 90⟩) := by
            unfold Hid Gn.st1
            rw [if_neg (by omega), if_neg hn]
          by_cases hz : (((min (Nu.nm s (p) s.size) 1000 : Nat) : Int)) < 2
          · clear HN hoe hn hlt
            generalize min (Nu.nm s (p) s.size) 1000 = z at hz ⊢
            go_wp2
            go_ret3
            exact ⟨by rw [HT.out]; first | rfl | simp, hG⟩
          · have hz2 : (256 : Int) < (((min (Nu.nm s (p) s.size) 1000 : Nat) : Int)) := by have := HN.out; omega
            clear HN hoe hn hlt
            generalize min (Nu.nm s (p) s.size) 1000 = z at hz hz2 ⊢
            go_wp2
            go_ret3
            exact ⟨by rw [HT.out]; first | rfl | simp, hG⟩
      · have hqe : p = s.size := by omega
        have HT : Hid (Gn.st1 s (p) = ⟨0, s.size, 90⟩) := by
          have h0 := Gn.num_none (s := s) (i := p) (by omega)
          unfold Hid Gn.st1
          rw [if_neg (by omega), h0, if_neg (by omega), hqe]
        have hq' : (s.size : Int) ≤ ((p : Nat) : Int) := by omega
        clear HN hoe
        generalize min (Nu.nm s (p) s.size) 1000 = z
        go_wp2
        go_ret3
        exact ⟨by rw [HT.out]; rfl, hG⟩

set_option maxHeartbeats 4000000 in
theorem stD5 (s : ByteArray) (hs : s.size ≤ 1048576) (w : World)  : Calls Tryz.prog 22 #[.string s, .int .i64 (s.size : Nat)] w fun e w' => e = .returned (.tuple #[.int .i64 (Gn.st1 s (s.size)).n, .int .i64 (Gn.st1 s (s.size)).a, .bool (decide ((Gn.st1 s (s.size)).er = 0))]) ∧ w.grownBy w' none := by
  have hO := Sc.ov_is Sc.digitB (s := s) (i := s.size) (by omega)
  have ho1 : s.size ≤ Sc.ov Sc.digitB s (s.size) := hO.ge
  have ho2 : Sc.ov Sc.digitB s (s.size) ≤ s.size := hO.le
  go_enter Tryz.func22, Tryz.ntmps22
  go_wp2
  go_loopw [7, 8] (fun vn vi wr => ∃ k : Nat, s.size ≤ k ∧ k ≤ Sc.ov Sc.digitB s (s.size) ∧ vn = .int .i64 ((min (Nu.nm s (s.size) k) 1000 : Nat) : Int) ∧ vi = .int .i64 k ∧ w.grownBy wr none) (fun _ vi _ => s.size - (intOf vi).toNat)
  case atStart => exact ⟨s.size, by omega, ho1, by rw [Nu.nm_self]; rfl, by first | rfl | simp, World.grownBy.refl _ _⟩
  case round =>
    obtain ⟨k, hk1, hk2, rfl, rfl, hG⟩ := hrel
    by_cases hlt : k < s.size
    · exact absurd hlt (by omega)
    · obtain rfl : k = s.size := by omega
      have hoe : Sc.ov Sc.digitB s (s.size) = s.size := by omega
      have HN : Hid (Nu.nm s (s.size) s.size = Gn.num s (s.size)) := by unfold Hid Gn.num Nu.nm; rw [hoe]
      by_cases hq : s.size < s.size
      · exact absurd hq (Nat.lt_irrefl _)
      · have hqe : s.size = s.size := by omega
        have HT : Hid (Gn.st1 s (s.size) = ⟨0, s.size, 90⟩) := by
          have h0 := Gn.num_none (s := s) (i := s.size) (by omega)
          unfold Hid Gn.st1
          rw [if_neg (by omega), h0, if_neg (by omega), hqe]
        have hq' : (s.size : Int) ≤ ((s.size : Nat) : Int) := by omega
        clear HN hoe
        generalize min (Nu.nm s (s.size) s.size) 1000 = z
        go_wp2
        go_ret3
        exact ⟨by rw [HT.out]; rfl, hG⟩

theorem statesD (s : ByteArray) (p : Nat) (hs : s.size ≤ 1048576) (hp : p ≤ s.size) (w : World) : Calls Tryz.prog 22 #[.string s, .int .i64 p] w fun e w' => e = .returned (.tuple #[.int .i64 (Gn.st1 s (Gn.le1 s p)).n, .int .i64 (Gn.st1 s (Gn.le1 s p)).a, .bool (decide ((Gn.st1 s (Gn.le1 s p)).er = 0))]) ∧ w.grownBy w' none := by
  unfold Gn.le1
  by_cases hl : p < s.size
  · by_cases e0 : Sc.bt s p = 67
    · rw [if_pos (by rw [e0]; rfl)]; exact stD0 s p hs hl w e0
    by_cases e1 : Sc.bt s p = 99
    · rw [if_pos (by rw [e1]; rfl)]; exact stD1 s p hs hl w e1
    by_cases e2 : Sc.bt s p = 71
    · rw [if_pos (by rw [e2]; rfl)]; exact stD2 s p hs hl w e2
    by_cases e3 : Sc.bt s p = 103
    · rw [if_pos (by rw [e3]; rfl)]; exact stD3 s p hs hl w e3
    rw [if_neg (by unfold Gn.isG; simp [e0, e1, e2, e3])]
    exact stD4 s p hs hl w e0 e1 e2 e3
  · rw [if_neg (by rw [Sc.bt_off hl]; decide)]
    obtain rfl : p = s.size := by omega
    exact stD5 s hs w
end Go.Proofs.YtlkdenanbofliaaGreatDoor
