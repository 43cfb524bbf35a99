/- The walk of LifeTurns. -/
import Derived.Test.YtnedofaobhmloabDoorL18
import Derived.Handy
namespace Go.Proofs.YtnedofaobhmloabDoor
open Go.RowKit
set_option linter.unusedVariables false
set_option linter.unusedSimpArgs false
set_option maxRecDepth 100000

theorem mostC (h : Nat) (h1 : 1 ≤ h) (h3 : h ≤ 3) (w : World) : Calls Tryd.prog 10 #[.int .u8 h] w fun e w' => e = .returned (.int .i64 ((Lf.mo h : Nat) : Int)) ∧ w' = w := by
  match h, h1, h3 with
  | 1, _, _ => exact most1 w
  | 2, _, _ => exact most2 w
  | 3, _, _ => exact most3 w
/-- A word's bit, asked by a shift. -/
theorem sh1 (v k : Nat) (hk : k < 16) (hv : v < 65536) : bits .and .u16 ((v : Int) / 2 ^ k) 1 = ((if v.testBit k then 1 else 0 : Nat) : Int) := by
  have h1 : ((v : Int) / 2 ^ k) = ((v / 2 ^ k : Nat) : Int) := by simp
  have h2 : v / 2 ^ k < 65536 := Nat.lt_of_le_of_lt (Nat.div_le_self _ _) hv
  have h3 : bits .and .u16 ((v / 2 ^ k : Nat) : Int) 1 = ((v / 2 ^ k &&& 1 : Nat) : Int) := and16 (v / 2 ^ k) 1 h2 (by decide)
  rw [h1, h3, Nat.and_one_is_mod, Nat.testBit_eq_decide_div_mod_eq]
  by_cases h : v / 2 ^ k % 2 = 1
  · simp [h]
  · have : v / 2 ^ k % 2 = 0 := by omega
    simp [this]
set_option maxHeartbeats 4000000 in
theorem turns_nat (x b t : Nat) (hb : b < 65536) (ht : t < 65536) (w : World) (hv : Hid (Hv w)) : Calls Tryd.prog 4 #[.int .u8 x, .int .u16 b, .int .u16 t] w fun e w' => e = .returned (.bool true) ∧ w.grownBy w' none := by
  have hm := fun w => madeC x b t hb ht w
  have ck1 := Lf.md_ck x b t
  have i1 := Lf.mdB_lt16 x b
  have i2 := Lf.mdB_lt16 x t
  have m1 := Lf.mdH_in x
  clear hb ht
  generalize Lf.mdH x = H at *
  generalize Lf.mdB x b = B at *
  generalize Lf.mdB x t = T at *
  have ht := fun w hv => turnedC H B T (by omega) i1 i2 w hv
  have hin := Lf.ck_in ck1
  have mol := Lf.mo_le H
  have hmo := fun w => mostC H m1.1 m1.2 w
  have ck3 : Lf.ck H (Lf.ex T (Lf.mo H)) (Lf.ex B (Lf.mo H)) = 0 := Lf.ck_of hin.1 hin.2.1 (Lf.ex_up T mol) (Lf.ex_up B mol)
  have p1 := Lf.ex_lt T mol
  have p2 := Lf.ex_lt B mol
  have HP : Hid (∀ k, k ≤ Lf.mo H → (Lf.ex T (Lf.mo H)).testBit (Lf.mo H - k) = !T.testBit k) := fun k hk => by
    rw [Lf.ex_bit T mol, show Lf.mo H - (Lf.mo H - k) = k by omega]; simp
  have HQ : Hid (∀ k, k ≤ Lf.mo H → (Lf.ex B (Lf.mo H)).testBit (Lf.mo H - k) = !B.testBit k) := fun k hk => by
    rw [Lf.ex_bit B mol, show Lf.mo H - (Lf.mo H - k) = k by omega]; simp
  unfold Lf.tuH Lf.tuB Lf.tuS at ht
  rw [ck1] at ht
  simp only [if_true] at ht
  have N1 : Hid (∀ (t l : Nat) (w : World), t < 2 → l ≤ Lf.mo H → Hid (Hv w) → Calls Tryd.prog 11 #[.agg #[.int .u8 (H : Nat), .int .u16 (B : Nat), .int .u16 (T : Nat)], .int .u8 t, .int .i64 l] w fun e w' => e = .returned (.tuple #[.int .u8 ((if (if t = 1 then T else B).testBit l then 1 else 0 : Nat) : Int), .int .i64 0]) ∧ w.grownBy w' none) := fun t l w h2 hl hv => by
    have h := nextC H B T (by omega) i1 i2 t l w hv
    have e : Lf.nxE H B T t l = 0 := by unfold Lf.nxE; rw [if_neg (by omega), if_neg (by omega), if_neg (by omega)]
    unfold Lf.nxV at h
    rw [e, if_pos rfl, Int.toNat_natCast] at h
    exact h
  generalize Lf.ex T (Lf.mo H) = P at *
  generalize Lf.ex B (Lf.mo H) = Q at *
  have N2 : Hid (∀ (t l : Nat) (w : World), t < 2 → l ≤ Lf.mo H → Hid (Hv w) → Calls Tryd.prog 11 #[.agg #[.int .u8 (H : Nat), .int .u16 (P : Nat), .int .u16 (Q : Nat)], .int .u8 t, .int .i64 l] w fun e w' => e = .returned (.tuple #[.int .u8 ((if (if t = 1 then Q else P).testBit l then 1 else 0 : Nat) : Int), .int .i64 0]) ∧ w.grownBy w' none) := fun t l w h2 hl hv => by
    have h := nextC H P Q (by omega) p1 p2 t l w hv
    have e : Lf.nxE H P Q t l = 0 := by unfold Lf.nxE; rw [if_neg (by omega), if_neg (by omega), if_neg (by omega)]
    unfold Lf.nxV at h
    rw [e, if_pos rfl, Int.toNat_natCast] at h
    exact h
  generalize Lf.mo H = m at *
  clear ck1 ck3 hin m1 p1 p2
  go_enter Tryd.func4, Tryd.ntmps4
  go_wp2_with (first | (go_at_call 5; (fail_if_success (guard_hyp g1)); refine (aliveC _ hv).mono ?_; rintro e w1 ⟨rfl, g1⟩; have hv1 := hvK hv g1) | (go_at_call 6; (fail_if_success (guard_hyp g2)); refine (hm _).mono ?_; rintro e w2 ⟨rfl, g2⟩; have G2 := gb_trans g1 g2; have hv2 := hvK hv G2; obtain ⟨W3, hW3, sz3, g3, B3⟩ := boxn w2 #[.int .u8 (H : Nat), .int .u16 (B : Nat), .int .u16 (T : Nat)] 26; have G3 := gb_trans G2 g3; have hv3 := hvK hv G3; have b3_3_0 := B3.cell 0 (v := .int .u8 (H : Nat)) rfl; have b3_3_1 := B3.cell 1 (v := .int .u16 (B : Nat)) rfl; have b3_3_2 := B3.cell 2 (v := .int .u16 (T : Nat)) rfl) | (go_at_call 9; (fail_if_success (guard_hyp g4)); refine (ht _ hv3).mono ?_; rintro e w4 ⟨rfl, g4⟩; have G4 := gb_trans G3 g4; have hv4 := hvK hv G4; have B3x := B3.kept g4 (by simp); obtain ⟨W5, hW5, sz5, g5, B5⟩ := boxn w4 #[.int .u8 (H : Nat), .int .u16 (P : Nat), .int .u16 (Q : Nat)] 26; have G5 := gb_trans G4 g5; have hv5 := hvK hv G5; have B3xx := B3x.kept g5 (by simp); clear b3_3_0 b3_3_1 b3_3_2; have b3_5_0 := B3xx.cell 0 (v := .int .u8 (H : Nat)) rfl; have b3_5_1 := B3xx.cell 1 (v := .int .u16 (B : Nat)) rfl; have b3_5_2 := B3xx.cell 2 (v := .int .u16 (T : Nat)) rfl; have b5_5_0 := B5.cell 0 (v := .int .u8 (H : Nat)) rfl; have b5_5_1 := B5.cell 1 (v := .int .u16 (P : Nat)) rfl; have b5_5_2 := B5.cell 2 (v := .int .u16 (Q : Nat)) rfl) | (go_at_call 10; (fail_if_success (guard_hyp mk6)); refine (hmo _).mono ?_; rintro e w' ⟨rfl, hw'⟩; subst w'; have mk6 : True := trivial))
  go_loopw [12] (fun i wr => ∃ k : Nat, k ≤ m + 1 ∧ i = .int .i64 k ∧ Bo wr w2.heap.size 26 #[.int .u8 (H : Nat), .int .u16 (B : Nat), .int .u16 (T : Nat)] ∧ Bo wr w4.heap.size 26 #[.int .u8 (H : Nat), .int .u16 (P : Nat), .int .u16 (Q : Nat)] ∧ w.grownBy wr none) (fun i _ => m + 1 - (intOf i).toNat)
  case atStart => exact ⟨0, by omega, rfl, B3xx, B5, G5⟩
  case round =>
    obtain ⟨k, hk, rfl, PL, PT, hG⟩ := hrel
    by_cases hlt : k ≤ m
    · have hle : (k : Int) ≤ (m : Int) := by omega
      have hsw : IntKind.i64.wrap ((m : Int) - (k : Int)) = (m : Int) - (k : Int) := by rw [IntKind.wrap_i64]; omega
      have n1 := fun w hv => N1.out 0 k w (by decide) hlt hv
      have n2 := fun w hv => N1.out 1 k w (by decide) hlt hv
      have n3 : ∀ w, Hid (Hv w) → Calls Tryd.prog 11 #[.agg #[.int .u8 (H : Nat), .int .u16 (P : Nat), .int .u16 (Q : Nat)], .int .u8 0, .int .i64 ((m : Int) - (k : Int))] w fun e w' => e = .returned (.tuple #[.int .u8 ((if P.testBit (m - k) then 1 else 0 : Nat) : Int), .int .i64 0]) ∧ w.grownBy w' none := fun w hv => by
        have := N2.out 0 (m - k) w (by decide) (by omega) hv
        rw [show ((m - k : Nat) : Int) = (m : Int) - (k : Int) by omega] at this
        exact this
      have n4 : ∀ w, Hid (Hv w) → Calls Tryd.prog 11 #[.agg #[.int .u8 (H : Nat), .int .u16 (P : Nat), .int .u16 (Q : Nat)], .int .u8 1, .int .i64 ((m : Int) - (k : Int))] w fun e w' => e = .returned (.tuple #[.int .u8 ((if Q.testBit (m - k) then 1 else 0 : Nat) : Int), .int .i64 0]) ∧ w.grownBy w' none := fun w hv => by
        have := N2.out 1 (m - k) w (by decide) (by omega) hv
        rw [show ((m - k : Nat) : Int) = (m : Int) - (k : Int) by omega] at this
        exact this
      rw [HP.out k hlt] at n3
      rw [HQ.out k hlt] at n4
      simp only [if_true, show ¬ (0 : Nat) = 1 by decide, if_false] at n1 n2
      have hv0 := hvK hv hG
      have s1 := sh1 B k (by omega) i1
      have s2 := sh1 T k (by omega) i2
      have l0 := PL.cell 0 (v := .int .u8 (H : Nat)) rfl
      have l1 := PL.cell 1 (v := .int .u16 (B : Nat)) rfl
      have l2 := PL.cell 2 (v := .int .u16 (T : Nat)) rfl
      generalize hx : B.testBit k = X at n1 n4 s1
      generalize hy : T.testBit k = Y at n2 n3 s2
      clear hx hy N1 N2 HP HQ
      cases X <;> cases Y
      all_goals simp only [Bool.not_true, Bool.not_false, if_true, Bool.false_eq_true, if_false] at n1 n2 n3 n4 s1 s2
      all_goals go_wp2_with (first | (go_at_call 11; (fail_if_success (guard_hyp k1)); refine (n1 _ hv0).mono ?_; rintro e w11 ⟨rfl, k1⟩; have L1 := PL.kept k1 (by simp); have T1 := PT.kept k1 (by simp); have G11 := gb_trans hG k1; have hv11 := hvK hv G11; have l1_0 := L1.cell 0 (v := .int .u8 (H : Nat)) rfl; have l1_1 := L1.cell 1 (v := .int .u16 (B : Nat)) rfl; have l1_2 := L1.cell 2 (v := .int .u16 (T : Nat)) rfl; have t1_0 := T1.cell 0 (v := .int .u8 (H : Nat)) rfl; have t1_1 := T1.cell 1 (v := .int .u16 (P : Nat)) rfl; have t1_2 := T1.cell 2 (v := .int .u16 (Q : Nat)) rfl) | (go_at_call 11; (fail_if_success (guard_hyp k2)); refine (n2 _ hv11).mono ?_; rintro e w12 ⟨rfl, k2⟩; have L2 := L1.kept k2 (by simp); have T2 := T1.kept k2 (by simp); have G12 := gb_trans G11 k2; have hv12 := hvK hv G12; have l2_0 := L2.cell 0 (v := .int .u8 (H : Nat)) rfl; have l2_1 := L2.cell 1 (v := .int .u16 (B : Nat)) rfl; have l2_2 := L2.cell 2 (v := .int .u16 (T : Nat)) rfl; have t2_0 := T2.cell 0 (v := .int .u8 (H : Nat)) rfl; have t2_1 := T2.cell 1 (v := .int .u16 (P : Nat)) rfl; have t2_2 := T2.cell 2 (v := .int .u16 (Q : Nat)) rfl) | (go_at_call 11; (fail_if_success (guard_hyp k3)); refine (n3 _ hv12).mono ?_; rintro e w13 ⟨rfl, k3⟩; have L3 := L2.kept k3 (by simp); have T3 := T2.kept k3 (by simp); have G13 := gb_trans G12 k3; have hv13 := hvK hv G13; have l3_0 := L3.cell 0 (v := .int .u8 (H : Nat)) rfl; have l3_1 := L3.cell 1 (v := .int .u16 (B : Nat)) rfl; have l3_2 := L3.cell 2 (v := .int .u16 (T : Nat)) rfl; have t3_0 := T3.cell 0 (v := .int .u8 (H : Nat)) rfl; have t3_1 := T3.cell 1 (v := .int .u16 (P : Nat)) rfl; have t3_2 := T3.cell 2 (v := .int .u16 (Q : Nat)) rfl) | (go_at_call 11; (fail_if_success (guard_hyp k4)); refine (n4 _ hv13).mono ?_; rintro e w14 ⟨rfl, k4⟩; have L4 := L3.kept k4 (by simp); have T4 := T3.kept k4 (by simp); have G14 := gb_trans G13 k4; have hv14 := hvK hv G14; have l4_0 := L4.cell 0 (v := .int .u8 (H : Nat)) rfl; have l4_1 := L4.cell 1 (v := .int .u16 (B : Nat)) rfl; have l4_2 := L4.cell 2 (v := .int .u16 (T : Nat)) rfl; have t4_0 := T4.cell 0 (v := .int .u8 (H : Nat)) rfl; have t4_1 := T4.cell 1 (v := .int .u16 (P : Nat)) rfl; have t4_2 := T4.cell 2 (v := .int .u16 (Q : Nat)) rfl))
      all_goals exact ⟨⟨k + 1, by omega, by simp, L4, T4, G14⟩, by simp [intOf]; omega⟩
    · obtain rfl : k = m + 1 := by omega
      have hle : ¬ ((m : Int) + 1) ≤ (m : Int) := by omega
      go_wp2
      go_ret
      exact ⟨rfl, hG⟩
theorem turns_walk (x b t : Int) (w : World) (h1 : 0 ≤ x) (h1' : x ≤ 255) (h2 : 0 ≤ b) (h2' : b ≤ 65535) (h3 : 0 ≤ t) (h3' : t ≤ 65535) (hv : Hv w) : Calls Tryd.prog 4 #[.int .u8 x, .int .u16 b, .int .u16 t] w fun e w' => e = .returned (.bool true) ∧ Below w.heap.size w w' := by
  obtain ⟨x, rfl⟩ := Int.eq_ofNat_of_zero_le h1
  obtain ⟨b, rfl⟩ := Int.eq_ofNat_of_zero_le h2
  obtain ⟨t, rfl⟩ := Int.eq_ofNat_of_zero_le h3
  exact (turns_nat x b t (by omega) (by omega) w hv).mono fun e w' ⟨a, b⟩ => ⟨a, gb_below b⟩
end Go.Proofs.YtnedofaobhmloabDoor
