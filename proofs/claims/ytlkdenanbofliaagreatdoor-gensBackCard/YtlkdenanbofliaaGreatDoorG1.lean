/- What takeList of package gens answers. -/
import Derived.Test.YtlkdenanbofliaaGreatDoorL6
import Derived.Test.YtlkdenanbofliaaGreatDoorGn
namespace Go.Proofs.YtlkdenanbofliaaGreatDoor
open Go.RowKit
set_option linter.unusedVariables false
set_option linter.unusedSimpArgs false
set_option maxRecDepth 100000

theorem shl16 {n : Nat} (hn : n < 16) : IntKind.u16.wrap (2 ^ n) = ((2 ^ n : Nat) : Int) := by
  have h := Lf.p16 hn
  rw [IntKind.wrap_u16]
  have e : (2 : Int) ^ n = ((2 ^ n : Nat) : Int) := by simp
  rw [e]
  generalize 2 ^ n = q at h
  omega
set_option maxHeartbeats 4000000 in
theorem takeListC (b : Nat) (s : ByteArray) (i : Nat) (w : World) (h : Cu w b s i) (hi : i ≤ s.size) (hs : s.size ≤ 1048576) : Calls Tryz.prog 43 #[.pointer (some ⟨b, 0, none⟩)] w fun e w' => e = .returned (.tuple #[.int .u16 (Gn.tl s i).v, .int .i64 (Gn.tl s i).er]) ∧ Cu w' b s (Gn.tl s i).a ∧ w.grownBy w' (some b) := by
  have hs' : s.size ≤ maxLen := by unfold maxLen; omega
  go_enter Tryz.func43, Tryz.ntmps43
  go_wp2
  go_loopg [4] (s.size - i) (fun g vc wr => ∃ k u : Nat, k + g = s.size ∧ u < 1024 ∧ vc = .int .u16 u ∧ Cu wr b s k ∧ w.grownBy wr (some b) ∧ Hid (Lf.dg s k u = Lf.dg s i 0))
  case atStart => exact ⟨i, 0, by omega, by decide, rfl, h, World.grownBy.refl _ _, rfl⟩
  case round =>
    obtain ⟨k, u, hk, hu, rfl, hc, hG, hdg⟩ := hrel
    by_cases h47 : Sc.bt s k = 47
    · have E1 : Hid (Sc.bt s k = 47) := h47
      have hd : Lf.isD (Sc.bt s k) = false := by rw [h47]; rfl
      have HT : Hid (Gn.tl s i = ⟨u, k + 1, 0⟩) := by
        unfold Hid Gn.tl
        rw [← hdg.out, Lf.dg_no hd]
        unfold Gn.tl1
        simp [h47]
      clear hd h47
      go_wp2_with (first | (go_at_call 49; refine (takeIs b 47 s k _ hc (by omega) hs' (by omega) E1).mono ?_; rintro e w1 ⟨rfl, h1, g1⟩))
      go_ret2
      rw [HT.out]
      exact ⟨rfl, h1, gb_trans hG g1⟩
    · have E1 : Hid (¬ Sc.bt s k = 47) := h47
      have hp := fun w h => peekU b s k w h (by omega)
      have hx := fun w => indexByteD (Sc.bt s k) (Sc.bt_lt s k) w
      have AR := 0
      clear AR
      cases hd : Lf.isD (Sc.bt s k) with
      | false =>
        have HT : Hid (Gn.tl s i = ⟨0, k, 80⟩) := by
          unfold Hid Gn.tl
          rw [← hdg.out, Lf.dg_no hd]
          unfold Gn.tl1
          simp [h47]
        rw [Lf.dn_no hd] at hx
        clear hd h47
        generalize decide (k < s.size) = t at hp
        go_wp2_with (first | (go_at_call 49; refine (takeIsnt b 47 s k _ hc (by omega) hs' (by omega) E1).mono ?_; rintro e w1 ⟨rfl, h1, g1⟩) | (go_at_call 63; refine (hp _ h1).mono ?_; rintro e w2 ⟨rfl, k2, rfl⟩) | (go_at_call 45; refine (hx _).mono ?_; rintro e w3 ⟨rfl, hw3⟩; subst w3))
        go_ret2
        rw [HT.out]
        exact ⟨rfl, h1.drew, gb_drewN (gb_trans hG g1) _⟩
      | true =>
        have hl := Lf.isD_lt hd
        obtain ⟨x, hx10, hbx⟩ := d_ex hd
        have e48 : Sc.bt s k - 48 = x := by omega
        rw [Lf.dn_yes hd, e48] at hx
        have hp16 := shl16 (n := x) (by omega)
        have ha := and16 u (2 ^ x) (by omega) (Lf.p16 (by omega))
        have ho := or16 u (2 ^ x) (by omega) (Lf.p16 (by omega))
        have hn1 := @Lf.and_one u x
        have hlt := Lf.or_lt hu hx10
        have E3 : Hid (Sc.bt s k = Sc.bt s k) := rfl
        have hbp : 0 < Sc.bt s k := by omega
        cases ht : u.testBit x with
        | true =>
          have HT : Hid (Gn.tl s i = ⟨0, k, 81⟩) := by
            unfold Hid Gn.tl
            rw [← hdg.out, Lf.dg_tw hd (by rw [e48]; exact ht)]
            unfold Gn.tl1
            simp
          have hz : ¬ ((u &&& 2 ^ x : Nat) : Int) = 0 := fun e => by
            have h2 := hn1.1 (by omega)
            rw [ht] at h2; cases h2
          clear hd h47 ht hn1 hlt e48 hbx E3
          generalize decide (k < s.size) = t at hp
          generalize Sc.bt s k = c at hp hx
          generalize u &&& 2 ^ x = y at ha hz
          generalize u ||| 2 ^ x = z at ho
          generalize hq : 2 ^ x = q at hp16 ha ho
          go_wp2_with (first | (go_at_call 49; refine (takeIsnt b 47 s k _ hc (by omega) hs' (by omega) E1).mono ?_; rintro e w1 ⟨rfl, h1, g1⟩) | (go_at_call 63; refine (hp _ h1).mono ?_; rintro e w2 ⟨rfl, k2, rfl⟩) | (go_at_call 45; refine (hx _).mono ?_; rintro e w3 ⟨rfl, hw3⟩; subst w3))
          go_ret2
          rw [HT.out]
          exact ⟨rfl, h1.drew, gb_drewN (gb_trans hG g1) _⟩
        | false =>
          have HD : Hid (Lf.dg s (k + 1) (u ||| 2 ^ x) = Lf.dg s i 0) := by
            unfold Hid
            rw [← hdg.out, Lf.dg_go hd (by rw [e48]; exact ht), e48]
          have hz : ((u &&& 2 ^ x : Nat) : Int) = 0 := by rw [hn1.2 ht]; rfl
          have hT := fun w h => takeIs b (Sc.bt s k) s k w h (by omega) hs' hbp E3
          clear hd h47 ht hn1 e48 hbx E3
          generalize decide (k < s.size) = t at hp
          generalize Sc.bt s k = c at hp hx hT
          generalize u &&& 2 ^ x = y at ha hz
          generalize u ||| 2 ^ x = z at ho hlt HD
          generalize hq : 2 ^ x = q at hp16 ha ho
          go_wp2_with (first | (go_at_call 49; (fail_if_success (guard_hyp g1)); refine (takeIsnt b 47 s k _ hc (by omega) hs' (by omega) E1).mono ?_; rintro e w1 ⟨rfl, h1, g1⟩) | (go_at_call 63; refine (hp _ h1).mono ?_; rintro e w2 ⟨rfl, k2, rfl⟩) | (go_at_call 45; refine (hx _).mono ?_; rintro e w3 ⟨rfl, hw3⟩; subst w3) | (go_at_call 49; refine (hT _ h1.drew).mono ?_; rintro e w4 ⟨rfl, h4, g4⟩))
          go_roundg (gk - 1)
          case measure => omega
          case rel => exact ⟨k + 1, z, by omega, hlt, rfl, h4, gb_trans (gb_drewN (gb_trans hG g1) _) g4, HD⟩
end Go.Proofs.YtlkdenanbofliaaGreatDoor
