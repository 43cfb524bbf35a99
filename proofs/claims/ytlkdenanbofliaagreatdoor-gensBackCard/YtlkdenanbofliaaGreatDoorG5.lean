/- What readStates of package gens answers. -/
import Derived.Test.YtlkdenanbofliaaGreatDoorG4
namespace Go.Proofs.YtlkdenanbofliaaGreatDoor
open Go.RowKit
set_option linter.unusedVariables false
set_option linter.unusedSimpArgs false
set_option maxRecDepth 100000

theorem bt_all (s : ByteArray) (a j : Nat) : Sc.bt (s.extract a s.size) j = Sc.bt s (a + j) := by
  by_cases h : j < s.size - a
  · exact Sc.bt_ext s (Nat.le_refl _) h
  · rw [Sc.bt_off (by rw [Sc.size_ext s (Nat.le_refl _)]; omega), Sc.bt_off (by omega)]
/-- What the walk of readStates takes: the text from the slash on, where the digits begin in it. -/
structure SF (s : ByteArray) (p : Nat) (u : ByteArray) (k : Nat) : Prop where
  ue : s.extract p s.size = u
  take : ∀ b w, Cu w b u 0 → Calls Tryz.prog 49 #[.pointer (some ⟨b, 0, none⟩), .int .u8 47] w fun e w' => e = .returned (.bool (decide (Sc.bt u 0 = 47))) ∧ Cu w' b u (Gn.sl1 u 0) ∧ w.grownBy w' (some b)
  letter : ∀ b w, Cu w b u (Gn.sl1 u 0) → Calls Tryz.prog 50 #[.pointer (some ⟨b, 0, none⟩)] w fun e w' => e = .returned (.tuple #[]) ∧ Cu w' b u k ∧ w.grownBy w' (some b)
  trim : ∀ w, Calls Tryz.prog 51 #[.string (s.extract (Gn.fs s p) s.size), .string ⟨#[48, 49, 50, 51, 52, 53, 54, 55, 56, 57]⟩] w fun e w' => e = .returned (.string ⟨(Lib.trimLeftS (s.extract (Gn.fs s p) s.size).data.toList Gn.digs).toArray⟩) ∧ w.grownBy w' none
  first : p + k = Gn.fs s p
  le : Gn.fs s p ≤ s.size
  kl : k ≤ u.size
  ul : u.size = s.size - p
  ov : Sc.ov Sc.digitB u k + p = Sc.ov Sc.digitB s (Gn.fs s p)
  num : Gn.num u k = Gn.num s (Gn.fs s p)
  tz : (ByteArray.mk (Lib.trimLeftS (s.extract (Gn.fs s p) s.size).data.toList Gn.digs).toArray).size = s.size - Sc.ov Sc.digitB s (Gn.fs s p)
theorem digs_ascii : ∀ (j : Nat) b, (ByteArray.mk #[48, 49, 50, 51, 52, 53, 54, 55, 56, 57]).data.toList[j]? = some b → b.toNat < 128 := ascii_of_all (by decide)
theorem states_of (s : ByteArray) (p : Nat) (hs : s.size ≤ 1048576) (hp : p ≤ s.size) : ∃ u k, SF s p u k := by
  have hz : (s.extract p s.size).size = s.size - p := Sc.size_ext s (Nat.le_refl _)
  have e1 : Gn.sl1 (s.extract p s.size) 0 + p = Gn.sl1 s p := by
    unfold Gn.sl1
    rw [bt_all, Nat.add_zero]
    split <;> omega
  have l1 := Gn.sl1_le (s := s.extract p s.size) (p := 0) (Nat.zero_le _)
  have e2 : Gn.le1 (s.extract p s.size) (Gn.sl1 (s.extract p s.size) 0) + p = Gn.fs s p := by
    unfold Gn.fs
    rw [← e1]
    generalize Gn.sl1 (s.extract p s.size) 0 = q
    unfold Gn.le1
    rw [bt_all, Nat.add_comm p q]
    split <;> omega
  have l2 := Gn.le1_le l1.2
  have l3 := (Gn.fs_le hp).2
  have hm : (s.extract p s.size).size ≤ maxLen := by unfold maxLen; omega
  have eo := Gn.ov_ext Sc.digitB (s := s) (a := p) (i := Gn.le1 (s.extract p s.size) (Gn.sl1 (s.extract p s.size) 0)) (by omega)
  have en := Gn.num_ext (s := s) (a := p) (i := Gn.le1 (s.extract p s.size) (Gn.sl1 (s.extract p s.size) 0)) (by omega)
  rw [Nat.add_comm p, e2] at eo en
  refine ⟨s.extract p s.size, Gn.le1 (s.extract p s.size) (Gn.sl1 (s.extract p s.size) 0), rfl, fun b w h => ?_, fun b w h => takeLetterC b _ _ w h l1.2 hm, fun w => ?_, by omega, l3, l2.2, hz, eo, en, ?_⟩
  · have := takeU b 47 _ 0 w h (Nat.zero_le _) hm (by decide)
    unfold Gn.sl1
    exact this
  · exact (Any.strings_TrimLeft_laid Tryz.lays161 (by kernel_rfl) (s.extract (Gn.fs s p) s.size) ⟨#[48, 49, 50, 51, 52, 53, 54, 55, 56, 57]⟩ w (by decide) digs_ascii).mono fun e w' ⟨a, b⟩ => ⟨a, of_below b⟩
  · have hz2 : (s.extract (Gn.fs s p) s.size).size = s.size - Gn.fs s p := Sc.size_ext s (Nat.le_refl _)
    have eo2 := Gn.ov_ext Sc.digitB (s := s) (a := Gn.fs s p) (i := 0) (by omega)
    rw [Nat.add_zero] at eo2
    rw [Gn.trim_size, hz2]
    omega
set_option maxHeartbeats 1000000 in
theorem statesA (s : ByteArray) (p : Nat) (w : World) (en : Hid (En w)) (hs : s.size ≤ 1048576) (hp : p ≤ s.size) (h : Sc.ov Sc.digitB s (Gn.fs s p) < s.size) : Calls Tryz.prog 26 #[.string s, .int .i64 p] w fun e w' => e = .returned (.tuple #[.int .i64 0, .int .i64 (Sc.ov Sc.digitB s (Gn.fs s p) : Nat), .int .i64 90]) ∧ w.grownBy w' none := by
  obtain ⟨u, k, F⟩ := states_of s p hs hp
  have hu1 := F.ue
  have hT := F.take
  have hL := F.letter
  have hR := F.trim
  have hfe := F.first
  have hfl := F.le
  have hkl := F.kl
  have hul := F.ul
  have hus : u.size ≤ 1048576 := by omega
  have hp' : ((p : Nat) : Int) ≤ (s.size : Int) := by omega
  have hfw : IntKind.i64.wrap ((p : Int) + (k : Int)) = ((Gn.fs s p : Nat) : Int) := by rw [IntKind.wrap_i64]; omega
  have hfl' : ((Gn.fs s p : Nat) : Int) ≤ (s.size : Int) := by omega
  have htz := F.tz
  generalize ByteArray.mk (Lib.trimLeftS (s.extract (Gn.fs s p) s.size).data.toList Gn.digs).toArray = t at hR htz
  have hte : t.toList.isEmpty = false := Nu.empty_no (by omega)
  have hr : IntKind.i64.wrap ((s.size : Int) - (t.size : Int)) = ((Sc.ov Sc.digitB s (Gn.fs s p) : Nat) : Int) := by rw [IntKind.wrap_i64]; omega
  generalize Sc.ov Sc.digitB s (Gn.fs s p) = r at hr h ⊢
  generalize Gn.fs s p = q at hR hfe hfl hfw hfl'
  generalize Gn.sl1 u 0 = y at hT hL
  clear F htz hfe
  go_enter Tryz.func26, Tryz.ntmps26
  go_wp2_with (first | (go_at_call 42; refine (newC u _).mono ?_; rintro e w1 ⟨rfl, h1, g1⟩) | (go_at_call 49; refine (hT _ _ h1).mono ?_; rintro e w2 ⟨rfl, h2, g2⟩; have G2 := gb_own2 g1 (Nat.le_refl _) g2) | (go_at_call 50; refine (hL _ _ h2).mono ?_; rintro e w3 ⟨rfl, h3, g3⟩; have G3 := gb_own2 G2 (Nat.le_refl _) g3) | (go_at_call 44; refine (atC _ u k _ h3).mono ?_; rintro e w4 ⟨rfl, hw4⟩; subst w4) | (go_at_call 51; refine (hR _).mono ?_; rintro e w5 ⟨rfl, g5⟩; have G5 := gb_trans G3 g5; have h5 := h3.kept g5 (by simp); have en5 := enK en G5))
  go_ret3
  exact ⟨rfl, G5⟩
set_option maxHeartbeats 1000000 in
theorem statesB (s : ByteArray) (p : Nat) (w : World) (en : Hid (En w)) (hs : s.size ≤ 1048576) (hp : p ≤ s.size) (h : ¬ Sc.ov Sc.digitB s (Gn.fs s p) < s.size) (n : Nat) (hn : Hid (Gn.num s (Gn.fs s p) = n)) (hmay : Gn.may (n : Int) = true) : Calls Tryz.prog 26 #[.string s, .int .i64 p] w fun e w' => e = .returned (.tuple #[.int .i64 n, .int .i64 0, .int .i64 0]) ∧ w.grownBy w' none := by
  have hmb := fun w => mayBeC (n : Int) w
  rw [hmay] at hmb
  obtain ⟨u, k, F⟩ := states_of s p hs hp
  have hu1 := F.ue
  have hT := F.take
  have hL := F.letter
  have hR := F.trim
  have hfe := F.first
  have hfl := F.le
  have hkl := F.kl
  have hul := F.ul
  have hus : u.size ≤ 1048576 := by omega
  have hp' : ((p : Nat) : Int) ≤ (s.size : Int) := by omega
  have hfw : IntKind.i64.wrap ((p : Int) + (k : Int)) = ((Gn.fs s p : Nat) : Int) := by rw [IntKind.wrap_i64]; omega
  have hfl' : ((Gn.fs s p : Nat) : Int) ≤ (s.size : Int) := by omega
  have htz := F.tz
  have hnum : Gn.num u k = n := F.num.trans hn.out
  have hov := F.ov
  have hol := Sc.ov_le Sc.digitB hfl
  have hk : Hid (k < Nu.dg u k) := by
    unfold Hid Nu.dg
    by_cases hh : u.size ≤ k
    · rw [Gn.num_none hh] at hnum
      subst hnum
      unfold Gn.may at hmay
      simp at hmay
    · omega
  have hv : Hid (Nu.numV u k ≤ 9223372036854775807) := by
    unfold Hid
    rw [show Nu.numV u k = n from hnum]
    unfold Gn.may at hmay
    simp at hmay
    omega
  have hNu := fun b w h tp p hE hG => Nu.numberOk b u k w h (by unfold maxLen; omega) hkl hk hv tp p hE hG
  rw [show Nu.numV u k = n from hnum] at hNu
  have ht0 : (ByteArray.mk (Lib.trimLeftS (s.extract (Gn.fs s p) s.size).data.toList Gn.digs).toArray) = ⟨#[]⟩ := Sc.ext (by rw [htz]; show _ = 0; omega) fun i hi => by rw [htz] at hi; omega
  rw [ht0] at hR
  generalize Nu.dg u k = z at hNu
  generalize Gn.fs s p = q at hR hfe hfl hfw hfl'
  generalize Gn.sl1 u 0 = y at hT hL
  obtain ⟨tp, ep, hE0⟩ := en.out.er
  have hsz := en.out.size
  clear F htz hfe ht0 hnum hov hol hk hv h hn hmay
  go_enter Tryz.func26, Tryz.ntmps26
  go_wp2_with (first | (go_at_call 42; refine (newC u _).mono ?_; rintro e w1 ⟨rfl, h1, g1⟩) | (go_at_call 49; refine (hT _ _ h1).mono ?_; rintro e w2 ⟨rfl, h2, g2⟩; have G2 := gb_own2 g1 (Nat.le_refl _) g2) | (go_at_call 50; refine (hL _ _ h2).mono ?_; rintro e w3 ⟨rfl, h3, g3⟩; have G3 := gb_own2 G2 (Nat.le_refl _) g3) | (go_at_call 44; refine (atC _ u k _ h3).mono ?_; rintro e w4 ⟨rfl, hw4⟩; subst w4) | (go_at_call 51; refine (hR _).mono ?_; rintro e w5 ⟨rfl, g5⟩; have G5 := gb_trans G3 g5; have h5 := h3.kept g5 (by simp); have en5 := enK en G5) | (go_at_call 52; refine (hNu _ _ h5 tp ep (hE0.below (gb_below G5) (by omega)) (by have := G5.size; omega)).mono ?_; rintro e w6 ⟨rfl, h6, g6⟩; have G6 := gb_own2 G5 (Nat.le_refl _) g6) | (go_at_call 32; refine (hmb _).mono ?_; rintro e w7 ⟨rfl, hw7⟩; subst w7))
  go_ret3
  exact ⟨rfl, G6⟩
set_option maxHeartbeats 1000000 in
theorem statesC (s : ByteArray) (p : Nat) (w : World) (en : Hid (En w)) (hs : s.size ≤ 1048576) (hp : p ≤ s.size) (h : ¬ Sc.ov Sc.digitB s (Gn.fs s p) < s.size) (n : Nat) (hn : Hid (Gn.num s (Gn.fs s p) = n)) (hmay : Gn.may (n : Int) = false) : Calls Tryz.prog 26 #[.string s, .int .i64 p] w fun e w' => e = .returned (.tuple #[.int .i64 0, .int .i64 (Gn.fs s p : Nat), .int .i64 90]) ∧ w.grownBy w' none := by
  have hmb := fun w => mayBeC (n : Int) w
  rw [hmay] at hmb
  obtain ⟨u, k, F⟩ := states_of s p hs hp
  have hu1 := F.ue
  have hT := F.take
  have hL := F.letter
  have hR := F.trim
  have hfe := F.first
  have hfl := F.le
  have hkl := F.kl
  have hul := F.ul
  have hus : u.size ≤ 1048576 := by omega
  have hp' : ((p : Nat) : Int) ≤ (s.size : Int) := by omega
  have hfw : IntKind.i64.wrap ((p : Int) + (k : Int)) = ((Gn.fs s p : Nat) : Int) := by rw [IntKind.wrap_i64]; omega
  have hfl' : ((Gn.fs s p : Nat) : Int) ≤ (s.size : Int) := by omega
  have htz := F.tz
  have hnum : Gn.num u k = n := F.num.trans hn.out
  have hov := F.ov
  have hol := Sc.ov_le Sc.digitB hfl
  have ht0 : (ByteArray.mk (Lib.trimLeftS (s.extract (Gn.fs s p) s.size).data.toList Gn.digs).toArray) = ⟨#[]⟩ := Sc.ext (by rw [htz]; show _ = 0; omega) fun i hi => by rw [htz] at hi; omega
  rw [ht0] at hR
  obtain ⟨tp, ep, hE0⟩ := en.out.er
  have hsz := en.out.size
  by_cases hk0 : u.size ≤ k
  · have hk : Hid (Nu.dg u k = k) := by unfold Hid Nu.dg; omega
    have hNu := fun b w h => Nu.numberNo b u k w h (by unfold maxLen; omega) hkl hk
    generalize Gn.fs s p = q at hR hfe hfl hfw hfl' ⊢
    generalize Gn.sl1 u 0 = y at hT hL
    clear F htz hfe ht0 hnum hov hol hk h hn hmay
    go_enter Tryz.func26, Tryz.ntmps26
    go_wp2_with (first | (go_at_call 42; refine (newC u _).mono ?_; rintro e w1 ⟨rfl, h1, g1⟩) | (go_at_call 49; refine (hT _ _ h1).mono ?_; rintro e w2 ⟨rfl, h2, g2⟩; have G2 := gb_own2 g1 (Nat.le_refl _) g2) | (go_at_call 50; refine (hL _ _ h2).mono ?_; rintro e w3 ⟨rfl, h3, g3⟩; have G3 := gb_own2 G2 (Nat.le_refl _) g3) | (go_at_call 44; refine (atC _ u k _ h3).mono ?_; rintro e w4 ⟨rfl, hw4⟩; subst w4) | (go_at_call 51; refine (hR _).mono ?_; rintro e w5 ⟨rfl, g5⟩; have G5 := gb_trans G3 g5; have h5 := h3.kept g5 (by simp); have en5 := enK en G5) | (go_at_call 52; refine (hNu _ _ h5).mono ?_; rintro e w6 ⟨rfl, k6, rfl⟩))
    go_ret3
    exact ⟨rfl, gb_drewN G5 _⟩
  · have hk : Hid (k < Nu.dg u k) := by unfold Hid Nu.dg; omega
    by_cases hv0 : Nu.numV u k ≤ 9223372036854775807
    · have hNu := fun b w h tp p hE hG => Nu.numberOk b u k w h (by unfold maxLen; omega) hkl hk hv0 tp p hE hG
      rw [show Nu.numV u k = n from hnum] at hNu
      generalize Nu.dg u k = z at hNu
      generalize Gn.fs s p = q at hR hfe hfl hfw hfl' ⊢
      generalize Gn.sl1 u 0 = y at hT hL
      clear F htz hfe ht0 hnum hov hol hk h hn hmay hv0 hk0
      go_enter Tryz.func26, Tryz.ntmps26
      go_wp2_with (first | (go_at_call 42; refine (newC u _).mono ?_; rintro e w1 ⟨rfl, h1, g1⟩) | (go_at_call 49; refine (hT _ _ h1).mono ?_; rintro e w2 ⟨rfl, h2, g2⟩; have G2 := gb_own2 g1 (Nat.le_refl _) g2) | (go_at_call 50; refine (hL _ _ h2).mono ?_; rintro e w3 ⟨rfl, h3, g3⟩; have G3 := gb_own2 G2 (Nat.le_refl _) g3) | (go_at_call 44; refine (atC _ u k _ h3).mono ?_; rintro e w4 ⟨rfl, hw4⟩; subst w4) | (go_at_call 51; refine (hR _).mono ?_; rintro e w5 ⟨rfl, g5⟩; have G5 := gb_trans G3 g5; have h5 := h3.kept g5 (by simp); have en5 := enK en G5) | (go_at_call 52; refine (hNu _ _ h5 tp ep (hE0.below (gb_below G5) (by omega)) (by have := G5.size; omega)).mono ?_; rintro e w6 ⟨rfl, h6, g6⟩; have G6 := gb_own2 G5 (Nat.le_refl _) g6) | (go_at_call 32; refine (hmb _).mono ?_; rintro e w7 ⟨rfl, hw7⟩; subst w7))
      go_ret3
      exact ⟨rfl, G6⟩
    · have hNu := fun b w h tp p hE hG => Nu.numberFar b u k w h (by unfold maxLen; omega) hkl hk hv0 tp p hE hG
      generalize Gn.fs s p = q at hR hfe hfl hfw hfl' ⊢
      generalize Gn.sl1 u 0 = y at hT hL
      clear F htz hfe ht0 hnum hov hol hk h hn hmay hv0 hk0
      go_enter Tryz.func26, Tryz.ntmps26
      go_wp2_with (first | (go_at_call 42; refine (newC u _).mono ?_; rintro e w1 ⟨rfl, h1, g1⟩) | (go_at_call 49; refine (hT _ _ h1).mono ?_; rintro e w2 ⟨rfl, h2, g2⟩; have G2 := gb_own2 g1 (Nat.le_refl _) g2) | (go_at_call 50; refine (hL _ _ h2).mono ?_; rintro e w3 ⟨rfl, h3, g3⟩; have G3 := gb_own2 G2 (Nat.le_refl _) g3) | (go_at_call 44; refine (atC _ u k _ h3).mono ?_; rintro e w4 ⟨rfl, hw4⟩; subst w4) | (go_at_call 51; refine (hR _).mono ?_; rintro e w5 ⟨rfl, g5⟩; have G5 := gb_trans G3 g5; have h5 := h3.kept g5 (by simp); have en5 := enK en G5) | (go_at_call 52; refine (hNu _ _ h5 tp ep (hE0.below (gb_below G5) (by omega)) (by have := G5.size; omega)).mono ?_; rintro e w6 ⟨rfl, g6⟩; have G6 := gb_trans G5 g6))
      go_ret3
      exact ⟨rfl, G6⟩
/-- readStates from every place of a text. -/
theorem readStatesC (s : ByteArray) (p : Nat) (w : World) (en : Hid (En w)) (hs : s.size ≤ 1048576) (hp : p ≤ s.size) : Calls Tryz.prog 26 #[.string s, .int .i64 p] w fun e w' => e = .returned (.tuple #[.int .i64 (Gn.stR s p).n, .int .i64 (Gn.stR s p).a, .int .i64 (Gn.stR s p).er]) ∧ w.grownBy w' none := by
  unfold Gn.stR Gn.st1
  by_cases h : Sc.ov Sc.digitB s (Gn.fs s p) < s.size
  · rw [if_pos h]
    exact statesA s p w en hs hp h
  · rw [if_neg h]
    by_cases hn : 2 ≤ Gn.num s (Gn.fs s p) ∧ Gn.num s (Gn.fs s p) ≤ 256
    · rw [if_pos hn]
      exact statesB s p w en hs hp h _ rfl (by unfold Gn.may; simp; omega)
    · rw [if_neg hn]
      exact statesC s p w en hs hp h _ rfl (by unfold Gn.may; simp; omega)
end Go.Proofs.YtlkdenanbofliaaGreatDoor
