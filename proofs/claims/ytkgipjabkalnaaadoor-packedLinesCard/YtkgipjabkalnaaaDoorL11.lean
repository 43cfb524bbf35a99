/- What Greatest, Bit, Check and Next of the document answer. -/
import Derived.Test.YtkgipjabkalnaaaDoorL8
import Derived.Test.YtkgipjabkalnaaaDoorL9
namespace Go.Proofs.YtkgipjabkalnaaaDoor
open Go.RowKit
set_option linter.unusedVariables false
set_option linter.unusedSimpArgs false
set_option maxRecDepth 100000

theorem greatD1 (w : World) : Calls Tryd.prog 19 #[.int .u8 1] w fun e w' => e = .returned (.int .i64 8) ∧ w' = w := by
  go_enter Tryd.func19, Tryd.ntmps19
  go_wp2
  go_ret
  exact ⟨rfl, rfl⟩
theorem greatD2 (w : World) : Calls Tryd.prog 19 #[.int .u8 2] w fun e w' => e = .returned (.int .i64 4) ∧ w' = w := by
  go_enter Tryd.func19, Tryd.ntmps19
  go_wp2
  go_ret
  exact ⟨rfl, rfl⟩
theorem greatD3 (w : World) : Calls Tryd.prog 19 #[.int .u8 3] w fun e w' => e = .returned (.int .i64 6) ∧ w' = w := by
  go_enter Tryd.func19, Tryd.ntmps19
  go_wp2
  go_ret
  exact ⟨rfl, rfl⟩

theorem greatYes (h : Nat) (h1 : 1 ≤ h) (h3 : h ≤ 3) (w : World) : Calls Tryd.prog 19 #[.int .u8 h] w fun e w' => e = .returned (.int .i64 ((Lf.mo h : Nat) : Int)) ∧ w' = w := by
  match h, h1, h3 with
  | 1, _, _ => exact greatD1 w
  | 2, _, _ => exact greatD2 w
  | 3, _, _ => exact greatD3 w
theorem greatNo (h : Nat) (hn : ¬ (1 ≤ h ∧ h ≤ 3)) (w : World) : Calls Tryd.prog 19 #[.int .u8 h] w fun e w' => e = .returned (.int .i64 (-1)) ∧ w' = w := by
  have e1 : ((h : Int) == 1) = false := by simp; omega
  have e2 : ((h : Int) == 2) = false := by simp; omega
  have e3 : ((h : Int) == 3) = false := by simp; omega
  have f1 : ¬ (h : Int) = 1 := by omega
  have f2 : ¬ (h : Int) = 2 := by omega
  have f3 : ¬ (h : Int) = 3 := by omega
  clear hn
  go_enter Tryd.func19, Tryd.ntmps19
  go_wp2
  go_ret
  exact ⟨rfl, rfl⟩

theorem bit_no {v k j : Nat} (h : v < 2 ^ k) (hj : k ≤ j) : v.testBit j = false := Nat.testBit_lt_two_pow (Nat.lt_of_lt_of_le h (Nat.pow_le_pow_right (n := 2) (by decide) hj))
theorem no_bit {v k : Nat} (hv : v < 65536) (h : ∀ j, k ≤ j → j < 16 → v.testBit j = false) : v < 2 ^ k := by
  apply Nat.lt_pow_two_of_testBit
  intro j hj
  by_cases h2 : j < 16
  · exact h j hj h2
  · exact Lf.big hv (by omega)
theorem half_bit (v n : Nat) : ((v / 2 ^ n % 2 : Nat) == 1) = v.testBit n := by
  rw [Nat.testBit_eq_decide_div_mod_eq]
  by_cases h : v / 2 ^ n % 2 = 1 <;> simp [h]
theorem half_succ (v i : Nat) : v / 2 ^ i / 2 = v / 2 ^ (i + 1) := by rw [Nat.div_div_eq_div_mul, Nat.pow_succ]
set_option maxHeartbeats 1000000 in
theorem bitD (v n : Nat) (hv : v < 65536) (hn : n ≤ 16) (w : World) : Calls Tryd.prog 20 #[.int .u16 v, .int .i64 n] w fun e w' => e = .returned (.bool (v.testBit n)) ∧ w' = w := by
  go_enter Tryd.func20, Tryd.ntmps20
  go_wp2
  go_loopw [0, 5] (fun u i wr => ∃ k : Nat, k ≤ n ∧ i = .int .i64 k ∧ u = .int .u16 ((v / 2 ^ k : Nat) : Int) ∧ wr = w) (fun _ i _ => n - (intOf i).toNat)
  case atStart => exact ⟨0, by omega, rfl, by simp, rfl⟩
  case round =>
    obtain ⟨k, hk, rfl, rfl, rfl⟩ := hrel
    have hx : v / 2 ^ k < 65536 := Nat.lt_of_le_of_lt (Nat.div_le_self _ _) hv
    by_cases hlt : k < n
    · have hlt' : (k : Int) < (n : Int) := by omega
      have hS : Hid (v / 2 ^ (k + 1) = v / 2 ^ k / 2) := (half_succ v k).symm
      generalize v / 2 ^ k = x at hx hS ⊢
      have hq : IntKind.u16.wrap ((x : Int) / 2) = ((x / 2 : Nat) : Int) := by rw [IntKind.wrap_u16]; omega
      go_wp2
      exact ⟨⟨k + 1, by omega, by simp, by rw [hS.out]; simp, trivial⟩, by simp [intOf]; omega⟩
    · obtain rfl : k = n := by omega
      have hB : Hid (((v / 2 ^ k % 2 : Nat) == 1) = v.testBit k) := half_bit v k
      generalize v / 2 ^ k = x at hx hB ⊢
      go_wp2
      go_ret
      refine ⟨congrArg (fun x => Ending.returned (Value.bool x)) ?_, rfl⟩
      rw [← hB.out]
      by_cases h : x % 2 = 1
      · have h2 : (x : Int) % 2 = 1 := by omega
        rw [h, h2]; rfl
      · have e1 : ((x : Int) % 2 == 1) = false := by rw [beq_eq_false_iff_ne]; omega
        have e2 : (x % 2 == 1) = false := by rw [beq_eq_false_iff_ne]; exact h
        rw [e1, e2]

set_option maxHeartbeats 1000000 in
theorem checkDno (ho bo st : Nat) (hh : ho < 256) (hb : bo < 65536) (hs : st < 65536) (w : World) (hn : ¬ (1 ≤ ho ∧ ho ≤ 3)) : Calls Tryd.prog 9 #[.agg #[.int .u8 ho, .int .u16 bo, .int .u16 st]] w fun e w' => e = .returned (.int .i64 70) ∧ w.grownBy w' none := by
  have hg := fun w => greatNo ho hn w
  clear hn
  obtain ⟨W1, hW1, sz1, g1, B1⟩ := boxn w #[.int .u8 ho, .int .u16 bo, .int .u16 st] 24
  have c0 := B1.cell 0 (v := .int .u8 ho) rfl
  have c1 := B1.cell 1 (v := .int .u16 bo) rfl
  have c2 := B1.cell 2 (v := .int .u16 st) rfl
  go_enter Tryd.func9, Tryd.ntmps9
  go_wp2_with (first | (go_at_call 19; refine (hg _).mono ?_; rintro e w3 ⟨rfl, hw3⟩; subst w3))
  go_ret
  exact ⟨rfl, g1⟩
set_option maxHeartbeats 1000000 in
theorem checkDyes (ho bo st : Nat) (hh : ho < 256) (hb : bo < 65536) (hs : st < 65536) (w : World) (h1 : 1 ≤ ho) (h3 : ho ≤ 3) : Calls Tryd.prog 9 #[.agg #[.int .u8 ho, .int .u16 bo, .int .u16 st]] w fun e w' => e = .returned (.int .i64 ((Lf.ck ho bo st : Nat) : Int)) ∧ w.grownBy w' none := by
  have hg := fun w => greatYes ho h1 h3 w
  have hm := Lf.mo_le ho
  have HC : Hid (Lf.ck ho bo st = if bo < 2 ^ (Lf.mo ho + 1) ∧ st < 2 ^ (Lf.mo ho + 1) then 0 else 82) := by unfold Hid Lf.ck; rw [if_pos ⟨h1, h3⟩]
  generalize Lf.ck ho bo st = q at HC ⊢
  generalize Lf.mo ho = m at hg hm HC
  clear h1 h3
  obtain ⟨W1, hW1, sz1, g1, B1⟩ := boxn w #[.int .u8 ho, .int .u16 bo, .int .u16 st] 24
  have c0 := B1.cell 0 (v := .int .u8 ho) rfl
  have c1 := B1.cell 1 (v := .int .u16 bo) rfl
  have c2 := B1.cell 2 (v := .int .u16 st) rfl
  go_enter Tryd.func9, Tryd.ntmps9
  go_wp2_with (first | (go_at_call 19; refine (hg _).mono ?_; rintro e w3 ⟨rfl, hw3⟩; subst w3))
  go_loopw [4] (fun i wr => ∃ k : Nat, m + 1 ≤ k ∧ k ≤ 16 ∧ i = .int .i64 k ∧ wr = W1 ∧ Hid (∀ j, m + 1 ≤ j → j < k → bo.testBit j = false ∧ st.testBit j = false)) (fun i _ => 16 - (intOf i).toNat)
  case atStart => exact ⟨m + 1, by omega, by omega, by simp, rfl, fun j h1 h2 => by omega⟩
  case round =>
    obtain ⟨k, hk1, hk, rfl, rfl, hno⟩ := hrel
    by_cases hlt : k < 16
    · have hlt' : (k : Int) < 16 := by omega
      have hb1 := fun w => bitD bo k hb (by omega) w
      have hb2 := fun w => bitD st k hs (by omega) w
      cases e1 : bo.testBit k with
      | true =>
        rw [e1] at hb1
        have HQ : Hid (q = 82) := by
          unfold Hid
          rw [HC.out, if_neg (fun h => by rw [bit_no h.1 hk1] at e1; cases e1)]
        clear e1 hno
        go_wp2_with (first | (go_at_call 20; (fail_if_success (guard_hyp mk)); refine (hb1 _).mono ?_; rintro e w5 ⟨rfl, hw5⟩; subst w5; have mk : True := trivial))
        go_ret
        exact ⟨by rw [HQ.out]; rfl, g1⟩
      | false =>
        rw [e1] at hb1
        cases e2 : st.testBit k with
        | true =>
          rw [e2] at hb2
          have HQ : Hid (q = 82) := by
            unfold Hid
            rw [HC.out, if_neg (fun h => by rw [bit_no h.2 hk1] at e2; cases e2)]
          clear e1 e2 hno
          go_wp2_with (first | (go_at_call 20; (fail_if_success (guard_hyp mk)); refine (hb1 _).mono ?_; rintro e w5 ⟨rfl, hw5⟩; subst w5; have mk : True := trivial) | (go_at_call 20; refine (hb2 _).mono ?_; rintro e w6 ⟨rfl, hw6⟩; subst w6))
          go_ret
          exact ⟨by rw [HQ.out]; rfl, g1⟩
        | false =>
          rw [e2] at hb2
          have hno2 : Hid (∀ j, m + 1 ≤ j → j < k + 1 → bo.testBit j = false ∧ st.testBit j = false) := fun j h1 h2 => by
            by_cases e : j = k
            · rw [e]; exact ⟨e1, e2⟩
            · exact hno.out j h1 (by omega)
          clear e1 e2 hno
          go_wp2_with (first | (go_at_call 20; (fail_if_success (guard_hyp mk)); refine (hb1 _).mono ?_; rintro e w5 ⟨rfl, hw5⟩; subst w5; have mk : True := trivial) | (go_at_call 20; refine (hb2 _).mono ?_; rintro e w6 ⟨rfl, hw6⟩; subst w6))
          exact ⟨⟨k + 1, by omega, by omega, by simp, trivial, hno2⟩, by simp [intOf]; omega⟩
    · obtain rfl : k = 16 := by omega
      have HQ : Hid (q = 0) := by
        unfold Hid
        rw [HC.out, if_pos ⟨no_bit hb fun j h1 h2 => (hno.out j h1 h2).1, no_bit hs fun j h1 h2 => (hno.out j h1 h2).2⟩]
      go_wp2
      go_ret
      exact ⟨by rw [HQ.out]; rfl, g1⟩
theorem checkD (ho bo st : Nat) (hh : ho < 256) (hb : bo < 65536) (hs : st < 65536) (w : World) : Calls Tryd.prog 9 #[.agg #[.int .u8 ho, .int .u16 bo, .int .u16 st]] w fun e w' => e = .returned (.int .i64 ((Lf.ck ho bo st : Nat) : Int)) ∧ w.grownBy w' none := by
  by_cases h : 1 ≤ ho ∧ ho ≤ 3
  · exact checkDyes ho bo st hh hb hs w h.1 h.2
  · rw [Lf.ck_hood h]
    exact checkDno ho bo st hh hb hs w h

set_option maxHeartbeats 1000000 in
theorem nextD1 (ho bo st : Nat) (hh : ho < 256) (hb : bo < 65536) (hs : st < 65536) (t : Nat) (l : Int) (w : World) (hc : ¬ ((Lf.ck ho bo st : Nat) : Int) = 0) : Calls Tryd.prog 13 #[.agg #[.int .u8 ho, .int .u16 bo, .int .u16 st], .int .u8 t, .int .i64 l] w fun e w' => e = .returned (.tuple #[.int .u8 0, .int .i64 (Lf.ck ho bo st : Nat)]) ∧ w.grownBy w' none := by
  have hg := fun w => checkD ho bo st hh hb hs w
  generalize Lf.ck ho bo st = q at hg hc ⊢
  obtain ⟨W1, hW1, sz1, g1, B1⟩ := boxn w #[.int .u8 ho, .int .u16 bo, .int .u16 st] 24
  have c0 := B1.cell 0 (v := .int .u8 ho) rfl
  have c1 := B1.cell 1 (v := .int .u16 bo) rfl
  have c2 := B1.cell 2 (v := .int .u16 st) rfl
  go_enter Tryd.func13, Tryd.ntmps13
  go_wp2_with (first | (go_at_call 9; refine (hg _).mono ?_; rintro e w3 ⟨rfl, g3⟩; have B13 := B1.kept g3 (by simp); have k0 := B13.cell 0 (v := .int .u8 ho) rfl; have k1 := B13.cell 1 (v := .int .u16 bo) rfl; have k2 := B13.cell 2 (v := .int .u16 st) rfl; have G3 := gb_trans g1 g3))
  go_ret2
  exact ⟨rfl, G3⟩

set_option maxHeartbeats 1000000 in
theorem nextD2 (ho bo st : Nat) (hh : ho < 256) (hb : bo < 65536) (hs : st < 65536) (t : Nat) (l : Int) (w : World) (hc : Lf.ck ho bo st = 0) (ht : (1 : Int) < (t : Int)) : Calls Tryd.prog 13 #[.agg #[.int .u8 ho, .int .u16 bo, .int .u16 st], .int .u8 t, .int .i64 l] w fun e w' => e = .returned (.tuple #[.int .u8 0, .int .i64 7]) ∧ w.grownBy w' none := by
  have hg := fun w => checkD ho bo st hh hb hs w
  have hi := Lf.ck_in hc
  have hgr := fun w => greatYes ho hi.1 hi.2.1 w
  rw [hc] at hg
  clear hi
  generalize Lf.mo ho = g at *
  obtain ⟨W1, hW1, sz1, g1, B1⟩ := boxn w #[.int .u8 ho, .int .u16 bo, .int .u16 st] 24
  have c0 := B1.cell 0 (v := .int .u8 ho) rfl
  have c1 := B1.cell 1 (v := .int .u16 bo) rfl
  have c2 := B1.cell 2 (v := .int .u16 st) rfl
  go_enter Tryd.func13, Tryd.ntmps13
  go_wp2_with (first | (go_at_call 9; refine (hg _).mono ?_; rintro e w3 ⟨rfl, g3⟩; have B13 := B1.kept g3 (by simp); have k0 := B13.cell 0 (v := .int .u8 ho) rfl; have k1 := B13.cell 1 (v := .int .u16 bo) rfl; have k2 := B13.cell 2 (v := .int .u16 st) rfl; have G3 := gb_trans g1 g3) | (go_at_call 19; refine (hgr _).mono ?_; rintro e w4 ⟨rfl, hw4⟩; subst w4))
  go_ret2
  exact ⟨rfl, G3⟩

set_option maxHeartbeats 1000000 in
theorem nextD3 (ho bo st : Nat) (hh : ho < 256) (hb : bo < 65536) (hs : st < 65536) (t : Nat) (l : Int) (w : World) (hc : Lf.ck ho bo st = 0) (ht : ¬ (1 : Int) < (t : Int)) (hl : l < 0) : Calls Tryd.prog 13 #[.agg #[.int .u8 ho, .int .u16 bo, .int .u16 st], .int .u8 t, .int .i64 l] w fun e w' => e = .returned (.tuple #[.int .u8 0, .int .i64 2]) ∧ w.grownBy w' none := by
  have hg := fun w => checkD ho bo st hh hb hs w
  have hi := Lf.ck_in hc
  have hgr := fun w => greatYes ho hi.1 hi.2.1 w
  rw [hc] at hg
  clear hi
  generalize Lf.mo ho = g at *
  obtain ⟨W1, hW1, sz1, g1, B1⟩ := boxn w #[.int .u8 ho, .int .u16 bo, .int .u16 st] 24
  have c0 := B1.cell 0 (v := .int .u8 ho) rfl
  have c1 := B1.cell 1 (v := .int .u16 bo) rfl
  have c2 := B1.cell 2 (v := .int .u16 st) rfl
  go_enter Tryd.func13, Tryd.ntmps13
  go_wp2_with (first | (go_at_call 9; refine (hg _).mono ?_; rintro e w3 ⟨rfl, g3⟩; have B13 := B1.kept g3 (by simp); have k0 := B13.cell 0 (v := .int .u8 ho) rfl; have k1 := B13.cell 1 (v := .int .u16 bo) rfl; have k2 := B13.cell 2 (v := .int .u16 st) rfl; have G3 := gb_trans g1 g3) | (go_at_call 19; refine (hgr _).mono ?_; rintro e w4 ⟨rfl, hw4⟩; subst w4))
  go_ret2
  exact ⟨rfl, G3⟩

set_option maxHeartbeats 1000000 in
theorem nextD4 (ho bo st : Nat) (hh : ho < 256) (hb : bo < 65536) (hs : st < 65536) (t : Nat) (l : Int) (w : World) (hc : Lf.ck ho bo st = 0) (ht : ¬ (1 : Int) < (t : Int)) (hl : ¬ l < 0) (hm : ((Lf.mo ho : Nat) : Int) < l) : Calls Tryd.prog 13 #[.agg #[.int .u8 ho, .int .u16 bo, .int .u16 st], .int .u8 t, .int .i64 l] w fun e w' => e = .returned (.tuple #[.int .u8 0, .int .i64 2]) ∧ w.grownBy w' none := by
  have hg := fun w => checkD ho bo st hh hb hs w
  have hi := Lf.ck_in hc
  have hgr := fun w => greatYes ho hi.1 hi.2.1 w
  rw [hc] at hg
  clear hi
  generalize Lf.mo ho = g at *
  obtain ⟨W1, hW1, sz1, g1, B1⟩ := boxn w #[.int .u8 ho, .int .u16 bo, .int .u16 st] 24
  have c0 := B1.cell 0 (v := .int .u8 ho) rfl
  have c1 := B1.cell 1 (v := .int .u16 bo) rfl
  have c2 := B1.cell 2 (v := .int .u16 st) rfl
  go_enter Tryd.func13, Tryd.ntmps13
  go_wp2_with (first | (go_at_call 9; refine (hg _).mono ?_; rintro e w3 ⟨rfl, g3⟩; have B13 := B1.kept g3 (by simp); have k0 := B13.cell 0 (v := .int .u8 ho) rfl; have k1 := B13.cell 1 (v := .int .u16 bo) rfl; have k2 := B13.cell 2 (v := .int .u16 st) rfl; have G3 := gb_trans g1 g3) | (go_at_call 19; refine (hgr _).mono ?_; rintro e w4 ⟨rfl, hw4⟩; subst w4))
  go_ret2
  exact ⟨rfl, G3⟩

set_option maxHeartbeats 1000000 in
theorem nextD50 (ho bo st : Nat) (hh : ho < 256) (hb : bo < 65536) (hs : st < 65536) (l : Nat) (w : World) (hc : Lf.ck ho bo st = 0) (hm : ¬ ((Lf.mo ho : Nat) : Int) < (l : Int)) : Calls Tryd.prog 13 #[.agg #[.int .u8 ho, .int .u16 bo, .int .u16 st], .int .u8 0, .int .i64 l] w fun e w' => e = .returned (.tuple #[.int .u8 ((if bo.testBit l then 1 else 0 : Nat) : Int), .int .i64 0]) ∧ w.grownBy w' none := by
  have hH := fun w => bitD bo l hb (by have := Lf.mo_le ho; omega) w
  have hg := fun w => checkD ho bo st hh hb hs w
  have hi := Lf.ck_in hc
  have hgr := fun w => greatYes ho hi.1 hi.2.1 w
  rw [hc] at hg
  clear hi
  generalize Lf.mo ho = g at *
  cases hq : bo.testBit l with
  | true =>
    rw [hq] at hH
    clear hq
    simp only [if_true]
    obtain ⟨W1, hW1, sz1, g1, B1⟩ := boxn w #[.int .u8 ho, .int .u16 bo, .int .u16 st] 24
    have c0 := B1.cell 0 (v := .int .u8 ho) rfl
    have c1 := B1.cell 1 (v := .int .u16 bo) rfl
    have c2 := B1.cell 2 (v := .int .u16 st) rfl
    go_enter Tryd.func13, Tryd.ntmps13
    go_wp2_with (first | (go_at_call 9; refine (hg _).mono ?_; rintro e w3 ⟨rfl, g3⟩; have B13 := B1.kept g3 (by simp); have k0 := B13.cell 0 (v := .int .u8 ho) rfl; have k1 := B13.cell 1 (v := .int .u16 bo) rfl; have k2 := B13.cell 2 (v := .int .u16 st) rfl; have G3 := gb_trans g1 g3) | (go_at_call 19; refine (hgr _).mono ?_; rintro e w4 ⟨rfl, hw4⟩; subst w4) | (go_at_call 20; refine (hH _).mono ?_; rintro e w5 ⟨rfl, hw5⟩; subst w5))
    go_ret2
    exact ⟨rfl, G3⟩
  | false =>
    rw [hq] at hH
    clear hq
    simp only [Bool.false_eq_true, if_false]
    obtain ⟨W1, hW1, sz1, g1, B1⟩ := boxn w #[.int .u8 ho, .int .u16 bo, .int .u16 st] 24
    have c0 := B1.cell 0 (v := .int .u8 ho) rfl
    have c1 := B1.cell 1 (v := .int .u16 bo) rfl
    have c2 := B1.cell 2 (v := .int .u16 st) rfl
    go_enter Tryd.func13, Tryd.ntmps13
    go_wp2_with (first | (go_at_call 9; refine (hg _).mono ?_; rintro e w3 ⟨rfl, g3⟩; have B13 := B1.kept g3 (by simp); have k0 := B13.cell 0 (v := .int .u8 ho) rfl; have k1 := B13.cell 1 (v := .int .u16 bo) rfl; have k2 := B13.cell 2 (v := .int .u16 st) rfl; have G3 := gb_trans g1 g3) | (go_at_call 19; refine (hgr _).mono ?_; rintro e w4 ⟨rfl, hw4⟩; subst w4) | (go_at_call 20; refine (hH _).mono ?_; rintro e w5 ⟨rfl, hw5⟩; subst w5))
    go_ret2
    exact ⟨rfl, G3⟩

set_option maxHeartbeats 1000000 in
theorem nextD51 (ho bo st : Nat) (hh : ho < 256) (hb : bo < 65536) (hs : st < 65536) (l : Nat) (w : World) (hc : Lf.ck ho bo st = 0) (hm : ¬ ((Lf.mo ho : Nat) : Int) < (l : Int)) : Calls Tryd.prog 13 #[.agg #[.int .u8 ho, .int .u16 bo, .int .u16 st], .int .u8 1, .int .i64 l] w fun e w' => e = .returned (.tuple #[.int .u8 ((if st.testBit l then 1 else 0 : Nat) : Int), .int .i64 0]) ∧ w.grownBy w' none := by
  have hH := fun w => bitD st l hs (by have := Lf.mo_le ho; omega) w
  have hg := fun w => checkD ho bo st hh hb hs w
  have hi := Lf.ck_in hc
  have hgr := fun w => greatYes ho hi.1 hi.2.1 w
  rw [hc] at hg
  clear hi
  generalize Lf.mo ho = g at *
  cases hq : st.testBit l with
  | true =>
    rw [hq] at hH
    clear hq
    simp only [if_true]
    obtain ⟨W1, hW1, sz1, g1, B1⟩ := boxn w #[.int .u8 ho, .int .u16 bo, .int .u16 st] 24
    have c0 := B1.cell 0 (v := .int .u8 ho) rfl
    have c1 := B1.cell 1 (v := .int .u16 bo) rfl
    have c2 := B1.cell 2 (v := .int .u16 st) rfl
    go_enter Tryd.func13, Tryd.ntmps13
    go_wp2_with (first | (go_at_call 9; refine (hg _).mono ?_; rintro e w3 ⟨rfl, g3⟩; have B13 := B1.kept g3 (by simp); have k0 := B13.cell 0 (v := .int .u8 ho) rfl; have k1 := B13.cell 1 (v := .int .u16 bo) rfl; have k2 := B13.cell 2 (v := .int .u16 st) rfl; have G3 := gb_trans g1 g3) | (go_at_call 19; refine (hgr _).mono ?_; rintro e w4 ⟨rfl, hw4⟩; subst w4) | (go_at_call 20; refine (hH _).mono ?_; rintro e w5 ⟨rfl, hw5⟩; subst w5))
    go_ret2
    exact ⟨rfl, G3⟩
  | false =>
    rw [hq] at hH
    clear hq
    simp only [Bool.false_eq_true, if_false]
    obtain ⟨W1, hW1, sz1, g1, B1⟩ := boxn w #[.int .u8 ho, .int .u16 bo, .int .u16 st] 24
    have c0 := B1.cell 0 (v := .int .u8 ho) rfl
    have c1 := B1.cell 1 (v := .int .u16 bo) rfl
    have c2 := B1.cell 2 (v := .int .u16 st) rfl
    go_enter Tryd.func13, Tryd.ntmps13
    go_wp2_with (first | (go_at_call 9; refine (hg _).mono ?_; rintro e w3 ⟨rfl, g3⟩; have B13 := B1.kept g3 (by simp); have k0 := B13.cell 0 (v := .int .u8 ho) rfl; have k1 := B13.cell 1 (v := .int .u16 bo) rfl; have k2 := B13.cell 2 (v := .int .u16 st) rfl; have G3 := gb_trans g1 g3) | (go_at_call 19; refine (hgr _).mono ?_; rintro e w4 ⟨rfl, hw4⟩; subst w4) | (go_at_call 20; refine (hH _).mono ?_; rintro e w5 ⟨rfl, hw5⟩; subst w5))
    go_ret2
    exact ⟨rfl, G3⟩

theorem nextD (ho bo st : Nat) (hh : ho < 256) (hb : bo < 65536) (hs : st < 65536) (t : Nat) (l : Int) (w : World) : Calls Tryd.prog 13 #[.agg #[.int .u8 ho, .int .u16 bo, .int .u16 st], .int .u8 t, .int .i64 l] w fun e w' => e = .returned (.tuple #[.int .u8 ((Lf.nxV ho bo st t l : Nat) : Int), .int .i64 ((Lf.nxE ho bo st t l : Nat) : Int)]) ∧ w.grownBy w' none := by
  unfold Lf.nxV
  by_cases hc : Lf.ck ho bo st = 0
  · by_cases ht : 1 < t
    · have e : Lf.nxE ho bo st t l = 7 := by unfold Lf.nxE; rw [if_neg (by omega), if_pos ht]
      rw [e]
      exact nextD2 ho bo st hh hb hs t l w hc (by omega)
    · by_cases hl : l < 0
      · have e : Lf.nxE ho bo st t l = 2 := by unfold Lf.nxE; rw [if_neg (by omega), if_neg ht, if_pos (.inl hl)]
        rw [e]
        exact nextD3 ho bo st hh hb hs t l w hc (by omega) hl
      · by_cases hm : (Lf.mo ho : Int) < l
        · have e : Lf.nxE ho bo st t l = 2 := by unfold Lf.nxE; rw [if_neg (by omega), if_neg ht, if_pos (.inr hm)]
          rw [e]
          exact nextD4 ho bo st hh hb hs t l w hc (by omega) hl hm
        · have e : Lf.nxE ho bo st t l = 0 := by unfold Lf.nxE; rw [if_neg (by omega), if_neg ht, if_neg (by omega)]
          rw [e, if_pos rfl]
          obtain ⟨n, rfl⟩ := Int.eq_ofNat_of_zero_le (show 0 ≤ l by omega)
          obtain rfl | rfl : t = 0 ∨ t = 1 := by omega
          · exact nextD50 ho bo st hh hb hs n w hc hm
          · exact nextD51 ho bo st hh hb hs n w hc hm
  · have e : Lf.nxE ho bo st t l = Lf.ck ho bo st := by unfold Lf.nxE; rw [if_pos (by omega)]
    rw [e, if_neg hc]
    exact nextD1 ho bo st hh hb hs t l w (by omega)
end Go.Proofs.YtkgipjabkalnaaaDoor
