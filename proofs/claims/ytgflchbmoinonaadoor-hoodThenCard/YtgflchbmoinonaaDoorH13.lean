/- The walk of HoodThen where both parts keep the neighbourhood. -/
import Derived.Test.YtgflchbmoinonaaDoorH12
import Derived.Deep.RegionHeld2
namespace Go.Proofs.YtgflchbmoinonaaDoor
open Go.RowKit
open Fl
set_option linter.unusedVariables false
set_option linter.unusedSimpArgs false
set_option maxRecDepth 100000

theorem toA_val {h k n v m : Nat} (hv : v < 8) (hn : v < n) (hm : mp h k v = some m) : (toA h k n)[v]? = some (.int .i64 ((m : Nat) : Int)) := by
  rw [toA_at h k n v hv]
  unfold toV
  rw [if_pos hn, hm]
  rfl
theorem l_zero' (k : Nat) : lx k 0 0 = 0 ∧ ly k 0 0 = 0 := by
  unfold lx ly cj
  constructor <;> (cases fl4 k <;> simp)
def thP (h a b : Nat) : Bool := !(decide (1 ≤ h) && ksB h a && ksB h b) || (ksB h (both a b) && (List.range (sn h)).all fun v => match mp h a v with
  | some n => decide (n < sn h) && (mp h (both a b) v == mp h b n) && (mp h b n).isSome
  | none => false)
theorem th_isA : ((List.range 4).all fun h => (List.range 8).all fun a => (List.range 8).all fun b => thP h a b) = true := by decide +kernel
theorem th_is (h : Nat) (h4 : h < 4) (h1 : 1 ≤ h) (a : Nat) (ha : a < 8) (b : Nat) (hb : b < 8) (ka : ksB h a = true) (kb : ksB h b = true) : ksB h (both a b) = true ∧ ∀ v, v < sn h → ∃ n m, mp h a v = some n ∧ n < sn h ∧ mp h (both a b) v = some m ∧ mp h b n = some m := by
  have := List.all_eq_true.1 (List.all_eq_true.1 (List.all_eq_true.1 th_isA h (List.mem_range.2 h4)) a (List.mem_range.2 ha)) b (List.mem_range.2 hb)
  unfold thP at this
  rw [decide_eq_true h1, ka, kb] at this
  simp only [Bool.and_true, Bool.not_true, Bool.false_or, Bool.and_eq_true] at this
  refine ⟨this.1, fun v hv => ?_⟩
  have hq := List.all_eq_true.1 this.2 v (List.mem_range.2 hv)
  cases hm : mp h a v with
  | none => rw [hm] at hq; cases hq
  | some n =>
    rw [hm] at hq
    simp only [Bool.and_eq_true, decide_eq_true_eq, beq_iff_eq] at hq
    obtain ⟨m, hm2⟩ := Option.isSome_iff_exists.1 hq.2
    exact ⟨n, m, rfl, hq.1.1, hq.1.2.trans hm2, hm2⟩
set_option maxHeartbeats 4000000 in
theorem thenB (h : Nat) (h1 : 1 ≤ h) (h3 : h ≤ 3) (a b : Nat) (ha : a < 8) (hb : b < 8) (ka : ksB h a = true) (kb : ksB h b = true) (l : List Nat) (hl : Hid (pls h 8 = l)) (HT : Hid (tcn l a l.length = 1)) (w : World) (hv : Hid (Hv w)) :
    Calls Tryd.prog 7 #[.int .u8 h, .int .i64 a, .int .i64 b] w fun e w' => e = .returned (.bool true) ∧ w.grownBy w' none := by
  have hQ := partsYes h h1 h3
  have h8 := pls_le h 8
  have s8 := sn_le h h1 h3
  have HL : Hid (∀ j, j < (pls h 8).length → plP (pls h 8) j = true) := fun j hj => plq_is h h1 h3 j hj
  rw [hl.out] at hQ h8 HL
  have hp1 := permY h h1 h3 a ha (ks_yes ka)
  have hp2 := permY h h1 h3 b hb (ks_yes kb)
  obtain ⟨kc, HTV'⟩ := th_is h (by omega) h1 a ha b hb ka kb
  have HTV : Hid (∀ v, v < sn h → ∃ n m, mp h a v = some n ∧ n < sn h ∧ mp h (both a b) v = some m ∧ mp h b n = some m) := HTV'
  have hc8 := (both_tx a ha b hb).2.2.2
  have hp3 := permY h h1 h3 (both a b) hc8 (ks_yes kc)
  have hPa := partYes a ha
  have hPb := partYes b hb
  have ma := (part_may a ha).1
  have mb := (part_may b hb).1
  obtain ⟨fi, hfi'⟩ := underI
  have hfi : Hid (Tryd.prog.underlying 43 = some (.struct fi)) := hfi'
  clear hfi' HTV' ka kb kc
  obtain ⟨cc, hcc⟩ : ∃ cc, both a b = cc := ⟨_, rfl⟩
  rw [hcc] at hp3 HTV hc8
  have hTh := fun w => thenYes (pa a) (pb a) (fl4 a) 0 0 (pa b) (pb b) (fl4 b) 0 0 _ rfl cc hcc 0 0 (by rw [(l_zero' b).1]; rfl) (by rw [(l_zero' b).2]; rfl) ma mb rfl rfl w
  obtain ⟨f3, hf3⟩ : ∃ f3, (fl4 a != fl4 b) = f3 := ⟨_, rfl⟩
  rw [hf3] at hTh
  have HCC : Hid (both a b = cc) := hcc
  clear hcc hf3 ma mb
  go_enter Tryd.func7, Tryd.ntmps7
  go_wp2_with (first | (go_at_call 12; refine (aliveC _ hv).mono ?_; rintro e w1 ⟨rfl, g1⟩; have hv1 := hvK hv g1) | (go_at_call 10; (fail_if_success (guard_hyp g2)); refine (hp1 _ hv1).mono ?_; rintro e w2 ⟨b2, rfl, P2, l2, g2⟩; have hv2 := hvK hv1 g2; have G2 := gb_trans g1 g2) | (go_at_call 10; guard_hyp g2; (fail_if_success (guard_hyp g3)); refine (hp2 _ hv2).mono ?_; rintro e w3 ⟨b3, rfl, Q3, l3, g3⟩; have P3 := P2.kept g3 (by simp); have hv3 := hvK hv2 g3; have G3 := gb_trans G2 g3) | (go_at_call 11; refine (hQ _ hv3).mono ?_; rintro e w4 ⟨v4, rfl, o4, g4⟩; have P4 := P3.kept g4 (by simp); have Q4 := Q3.kept g4 (by simp); have hv4 := hvK hv3 g4; have G4 := gb_trans G3 g4; obtain ⟨s4, c4, rfl, R4⟩ := rd_own o4))
  go_loopw [16, 17] (fun vt v wr => ∃ j : Nat, j ≤ l.length ∧ v = .int .i64 j ∧ vt = .int .i64 (tcn l (a : Int) j : Nat) ∧ w4.grownBy wr none) (fun _ v _ => l.length - (intOf v).toNat)
  case atStart => exact ⟨0, Nat.zero_le _, rfl, rfl, World.grownBy.refl _ _⟩
  case round =>
    obtain ⟨j, hj, rfl, rfl, hg⟩ := hrel
    by_cases hlt : j < l.length
    · have hlt' : (j : Int) < (l.length : Int) := by omega
      have hq := HL.out j hlt
      unfold plP at hq
      have hT0 := tcn_le l a j
      obtain ⟨sa, rfl⟩ := R4.some (by omega)
      have v0 := hg.cell (R4.at hlt) (by simp)
      have HY : Hid (((l.getD j 0 : Nat) : Int) = a → tcn l (a : Int) (j + 1) = tcn l (a : Int) j + 1) := tcn_yes hlt
      have HN : Hid (¬ ((l.getD j 0 : Nat) : Int) = a → tcn l (a : Int) (j + 1) = tcn l (a : Int) j) := tcn_no hlt
      simp only [Bool.and_eq_true, Bool.or_eq_true, decide_eq_true_eq, beq_iff_eq] at hq
      obtain ⟨q1, q2⟩ := hq
      have q3 : Hid (j = 0 ∨ l.getD (j - 1) 0 < l.getD j 0) := q2
      clear q2
      generalize l.getD j 0 = x at *
      generalize tcn l (a : Int) j = T at *
      have x0 : decide (((x : Nat) : Int) < 0) = false := decide_eq_false (by omega)
      have x7 : decide ((7 : Int) < ((x : Nat) : Int)) = false := decide_eq_false (by omega)
      have wT : IntKind.i64.wrap ((T : Int) + 1) = (T : Int) + 1 := by rw [IntKind.wrap_i64]; omega
      cases ej : decide ((0 : Int) < (j : Int)) with
      | false =>
        have ejn : Hid (decide (0 < j) = false) := decide_eq_false (by have := of_decide_eq_false ej; omega)
        clear q3 ej
        cases ex : (((x : Nat) : Int) == a) with
        | true =>
          have HE := HY.out (by simpa using ex)
          have HE' : Hid (tcn l (a : Int) (j + 1) = T + 1) := HE
          clear HE HY HN
          go_wp2
          refine wp_region_quiet_lit (by kernel_rfl) (by kernel_rfl) (Wq.out ?_)
          iterate 16 (refine Wq.step (fun K hK => ?_); go_simp; refine hK _ ?_; clear hK K)
          rw [ejn.out]
          iterate 12 (refine Wq.step (fun K hK => ?_); go_simp; refine hK _ ?_; clear hK K)
          refine Wq.nil ?_
          intro _ hw'
          obtain ⟨nq, hw2⟩ := hw'
          subst hw2
          go_wp2
          go_roundw
          case rel => exact ⟨j + 1, by omega, by go_num, by first | (rw [HE'.out]; done) | (rw [HE'.out]; rfl) | (rw [HE'.out]; simp), gb_drewN hg _⟩
          case measure => simp [intOf]; omega
        | false =>
          have HE := HN.out (by simpa using ex)
          have HE' : Hid (tcn l (a : Int) (j + 1) = T) := HE
          clear HE HY HN
          go_wp2
          refine wp_region_quiet_lit (by kernel_rfl) (by kernel_rfl) (Wq.out ?_)
          iterate 16 (refine Wq.step (fun K hK => ?_); go_simp; refine hK _ ?_; clear hK K)
          rw [ejn.out]
          iterate 12 (refine Wq.step (fun K hK => ?_); go_simp; refine hK _ ?_; clear hK K)
          refine Wq.nil ?_
          intro _ hw'
          obtain ⟨nq, hw2⟩ := hw'
          subst hw2
          go_wp2
          go_roundw
          case rel => exact ⟨j + 1, by omega, by go_num, by first | (rw [HE'.out]; done) | (rw [HE'.out]; rfl) | (rw [HE'.out]; simp), gb_drewN hg _⟩
          case measure => simp [intOf]; omega
      | true =>
        have ej' : 0 < j := by have := of_decide_eq_true ej; omega
        obtain ⟨m, hm⟩ : ∃ m, j = m + 1 := ⟨j - 1, by omega⟩
        have q4 : l.getD m 0 < x := by rcases q3.out with q | q; omega; rw [hm] at q; exact q
        have v1 := hg.cell (R4.at (k := m) (by omega)) (by simp)
        generalize l.getD m 0 = y at *
        have xy : decide (((x : Nat) : Int) ≤ (y : Int)) = false := decide_eq_false (by omega)
        have wj : IntKind.i64.wrap ((j : Int) - 1) = (m : Int) := by rw [IntKind.wrap_i64]; omega
        have ml : (m : Int) < (l.length : Int) := by omega
        have HMj : Hid (j = m + 1) := hm
        clear q3 hm
        cases ex : (((x : Nat) : Int) == a) with
        | true =>
          have HE := HY.out (by simpa using ex)
          have HE' : Hid (tcn l (a : Int) (j + 1) = T + 1) := HE
          clear HE HY HN
          go_wp2
          go_quiet (fail)
          go_wp2
          go_roundw
          case rel => exact ⟨j + 1, by omega, by go_num, by first | (rw [HE'.out]; done) | (rw [HE'.out]; rfl) | (rw [HE'.out]; simp), gb_drewN hg _⟩
          case measure => simp [intOf]; omega
        | false =>
          have HE := HN.out (by simpa using ex)
          have HE' : Hid (tcn l (a : Int) (j + 1) = T) := HE
          clear HE HY HN
          go_wp2
          go_quiet (fail)
          go_wp2
          go_roundw
          case rel => exact ⟨j + 1, by omega, by go_num, by first | (rw [HE'.out]; done) | (rw [HE'.out]; rfl) | (rw [HE'.out]; simp), gb_drewN hg _⟩
          case measure => simp [intOf]; omega
    · have hlt' : ¬ (j : Int) < (l.length : Int) := by omega
      obtain rfl : j = l.length := by omega
      have hT1 := HT.out
      rw [hT1]
      clear HT HL hT1 hQ hp1 hp2
      have P5 := P4.kept hg (by simp)
      have Q5 := Q4.kept hg (by simp)
      have G5 := gb_trans G4 hg
      have hv5 := hvK hv G5
      go_wp2_with (first | (go_at_call 20; (fail_if_success (guard_hyp g6)); refine (hPa _).mono ?_; rintro e w6 ⟨rfl, g6⟩; have P6 := P5.kept g6 (by simp); have Q6 := Q5.kept g6 (by simp); have G6 := gb_trans G5 g6; obtain ⟨W7, hW7, sz7, g7, X7⟩ := boxn w6 #[.complex .f64 0 0, .bool false, .complex .f64 0 0] 43; have P7 := P6.kept g7 (by simp); have Q7 := Q6.kept g7 (by simp); have G7 := gb_trans G6 g7) | ((fail_if_success (guard_hyp X8)); refine wpList_st (op := ⟨_, .store 43 _ _, _, _, _, _⟩) rfl 43 _ _ rfl w6.heap.size (mv (pa a) (pb a) (fl4 a) 0 0) rfl rfl X7 infoI rfl (by simp [mv, Value.oneCell']) ?_; intro W8 hW8 X8; have P8 : Bo W8 b2 58 (toA h a (sn h)) := hW8 ▸ P7.row2 (Nat.ne_of_gt P6.lt); have Q8 : Bo W8 b3 58 (toA h b (sn h)) := hW8 ▸ Q7.row2 (Nat.ne_of_gt Q6.lt); have G8 : w.grownBy W8 none := hW8 ▸ gb_rowset G7 G6.size) | (go_at_call 20; guard_hyp X8; refine (hPb _).mono ?_; rintro e w9 ⟨rfl, g9⟩; have P9 := P8.kept g9 (by simp); have Q9 := Q8.kept g9 (by simp); have X9 := X8.kept g9 (by simp); have G9 := gb_trans G8 g9; obtain ⟨W10, hW10, sz10, g10, Y10⟩ := boxn w9 #[.complex .f64 0 0, .bool false, .complex .f64 0 0] 43; have P10 := P9.kept g10 (by simp); have Q10 := Q9.kept g10 (by simp); have X10 := X9.kept g10 (by simp); have G10 := gb_trans G9 g10) | ((fail_if_success (guard_hyp Y11)); refine wpList_st (op := ⟨_, .store 43 _ _, _, _, _, _⟩) rfl 43 _ _ rfl w9.heap.size (mv (pa b) (pb b) (fl4 b) 0 0) rfl rfl Y10 infoI rfl (by simp [mv, Value.oneCell']) ?_; intro W11 hW11 Y11; have P11 : Bo W11 b2 58 (toA h a (sn h)) := hW11 ▸ P10.row2 (Nat.ne_of_gt P9.lt); have Q11 : Bo W11 b3 58 (toA h b (sn h)) := hW11 ▸ Q10.row2 (Nat.ne_of_gt Q9.lt); have X11 : Bo W11 w6.heap.size 43 (mv (pa a) (pb a) (fl4 a) 0 0) := hW11 ▸ X10.row2 (Nat.ne_of_gt X9.lt); have G11 : w.grownBy W11 none := hW11 ▸ gb_rowset G10 G9.size) | (guard_hyp Y11; (fail_if_success (guard_hyp ldx)); refine wpList_ld (op := ⟨_, .load 43 _, _, _, _, _⟩) rfl 43 _ rfl w6.heap.size rfl (mv (pa a) (pb a) (fl4 a) 0 0) X11 hfi.out rfl infoI ?_; have ldx : True := trivial) | (guard_hyp ldx; (fail_if_success (guard_hyp ldy)); refine wpList_ld (op := ⟨_, .load 43 _, _, _, _, _⟩) rfl 43 _ rfl w9.heap.size rfl (mv (pa b) (pb b) (fl4 b) 0 0) Y11 hfi.out rfl infoI ?_; have ldy : True := trivial) | (go_at_call 23; refine (hTh _).mono ?_; rintro e w12 ⟨pz, qz, rz, sz, rfl, mz, clz, g12⟩; have P12 := P11.kept g12 (by simp); have Q12 := Q11.kept g12 (by simp); have G12 := gb_trans G11 g12; obtain ⟨W13, hW13, sz13, g13, Z13⟩ := boxn w12 #[.complex .f64 0 0, .bool false, .complex .f64 0 0] 43; have P13 := P12.kept g13 (by simp); have Q13 := Q12.kept g13 (by simp); have G13 := gb_trans G12 g13) | ((fail_if_success (guard_hyp Z14)); refine wpList_st (op := ⟨_, .store 43 _ _, _, _, _, _⟩) rfl 43 _ _ rfl w12.heap.size (mv pz qz f3 rz sz) rfl rfl Z13 infoI rfl (by simp [mv, Value.oneCell']) ?_; intro W14 hW14 Z14; have P14 : Bo W14 b2 58 (toA h a (sn h)) := hW14 ▸ P13.row2 (Nat.ne_of_gt P12.lt); have Q14 : Bo W14 b3 58 (toA h b (sn h)) := hW14 ▸ Q13.row2 (Nat.ne_of_gt Q12.lt); have G14 : w.grownBy W14 none := hW14 ▸ gb_rowset G13 G12.size) | (guard_hyp Z14; (fail_if_success (guard_hyp ldz)); refine wpList_ld (op := ⟨_, .load 43 _, _, _, _, _⟩) rfl 43 _ rfl w12.heap.size rfl (mv pz qz f3 rz sz) Z14 hfi.out rfl infoI ?_; have ldz : True := trivial) | (go_at_call 24; refine (whichYes _ _ _ _ _ mz _).mono ?_; rintro e w15 ⟨rfl, g15⟩; have P15 := P14.kept g15 (by simp); have Q15 := Q14.kept g15 (by simp); have G15 := gb_trans G14 g15; have hv15 := hvK hv G15) | (go_at_call 10; guard_hyp hv15; refine (hp3 _ hv15).mono ?_; rintro e w16 ⟨b16, rfl, R16, l16, g16⟩; have P16 := P15.kept g16 (by simp); have Q16 := Q15.kept g16 (by simp); have G16 := gb_trans G15 g16))
      clear hp3 hPa hPb hTh
      go_loopw [29] (fun vv wr2 => ∃ v : Nat, v ≤ sn h ∧ vv = .int .i64 v ∧ w16.grownBy wr2 none) (fun vv _ => sn h - (intOf vv).toNat)
      case atStart => exact ⟨0, Nat.zero_le _, rfl, World.grownBy.refl _ _⟩
      case round =>
        obtain ⟨v, hv', rfl, hg2⟩ := hrel
        by_cases hlv : v < sn h
        · have hlv' : (v : Int) < ((sn h : Nat) : Int) := by omega
          obtain ⟨n, m, e1, e2, e3, e4⟩ := HTV.out v hlv
          have n0 : decide (((n : Nat) : Int) < 0) = false := decide_eq_false (by omega)
          have n1 : decide (((sn h : Nat) : Int) ≤ ((n : Nat) : Int)) = false := decide_eq_false (by omega)
          have n1' : decide (sn h ≤ n) = false := decide_eq_false (by omega)
          have n2 : ((n : Nat) : Int) < ((sn h : Nat) : Int) := by omega
          have mm : (((m : Nat) : Int) != ((m : Nat) : Int)) = false := by simp
          have t0 := (P16.kept hg2 (by simp)).cell v (toA_val (by omega) hlv e1)
          have t1 := (Q16.kept hg2 (by simp)).cell n (toA_val (by omega) e2 e4)
          have t2 := (R16.kept hg2 (by simp)).cell v (toA_val (by omega) hlv e3)
          clear e1 e3 e4
          go_wp2
          go_quiet (fail)
          go_wp2
          go_roundw
          case rel => exact ⟨v + 1, by omega, by go_num, gb_drewN hg2 _⟩
          case measure => simp [intOf]; omega
        · have hlv' : ¬ (v : Int) < ((sn h : Nat) : Int) := by omega
          go_wp2
          go_ret
          exact ⟨rfl, gb_trans G16 hg2⟩
set_option maxHeartbeats 2000000 in
theorem thenN (h : Int) (h0 : 0 ≤ h) (h1 : h ≤ 255) (hn : h < 1 ∨ 3 < h) (a b : Int) (w : World) (hv : Hid (Hv w)) : Calls Tryd.prog 7 #[.int .u8 h, .int .i64 a, .int .i64 b] w fun e w' => e = .returned (.bool true) ∧ w.grownBy w' none := by
  have hp1 := permH h h0 h1 hn a
  have hp2 := permH h h0 h1 hn b
  have hQ := partsNo h h0 h1 hn
  clear hn
  go_enter Tryd.func7, Tryd.ntmps7
  go_wp2_with (first | (go_at_call 12; refine (aliveC _ hv).mono ?_; rintro e w1 ⟨rfl, g1⟩; have hv1 := hvK hv g1) | (go_at_call 10; (fail_if_success (guard_hyp g2)); refine (hp1 _).mono ?_; rintro e w2 ⟨rfl, g2⟩; have G2 := gb_trans g1 g2) | (go_at_call 10; guard_hyp g2; refine (hp2 _).mono ?_; rintro e w3 ⟨rfl, g3⟩; have G3 := gb_trans G2 g3) | (go_at_call 11; refine (hQ _).mono ?_; rintro e w4 ⟨rfl, g4⟩; have G4 := gb_trans G3 g4))
  go_ret
  exact ⟨rfl, G4⟩
def tkP (h k : Nat) : Bool := decide (tcn (pls h 8) (k : Int) (pls h 8).length = if ksB h k then 1 else 0)
theorem tk_isA : ((List.range 4).all fun h => (List.range 8).all fun k => tkP h k) = true := by decide +kernel
theorem tk_is (h : Nat) (h4 : h < 4) (k : Nat) (hk : k < 8) : tcn (pls h 8) (k : Int) (pls h 8).length = if ksB h k then 1 else 0 :=
  of_decide_eq_true (List.all_eq_true.1 (List.all_eq_true.1 tk_isA h (List.mem_range.2 h4)) k (List.mem_range.2 hk))
theorem tk_far (h : Nat) (a : Int) (ha : a < 0 ∨ 7 < a) : tcn (pls h 8) a (pls h 8).length = 0 := by
  unfold tcn
  rw [List.take_length, List.length_eq_zero_iff, List.filter_eq_nil_iff]
  intro x hx
  have hx' : x ∈ (List.range 8).filter (ksB h) := hx
  have := List.mem_range.1 (List.mem_filter.1 hx').1
  simp
  omega
theorem pl_of (h : Nat) (h1 : 1 ≤ h) (h3 : h ≤ 3) (a : Int) : ∃ one er, PL h a one er (fun _ _ _ => True) ∧ ((er = 0 → decide (tcn (pls h 8) a (pls h 8).length = 1) = one) ∧ (¬ er = 0 → tcn (pls h 8) a (pls h 8).length = 0)) ∧ (one = true → ∃ k : Nat, a = k ∧ k < 8 ∧ ksB h k = true) := by
  by_cases hk : a < 0 ∨ 7 < a
  · refine ⟨false, 71, fun w hv => (permP h h1 h3 a hk w hv).mono ?_, ⟨fun e => (by cases e), fun _ => tk_far h a hk⟩, fun e => (by cases e)⟩
    rintro e w' ⟨he, g⟩
    exact ⟨_, he, g, trivial⟩
  · obtain ⟨k, rfl⟩ : ∃ k : Nat, a = k := ⟨a.toNat, by omega⟩
    have hk8 : k < 8 := by omega
    have ht := tk_is h (by omega) k hk8
    cases hb : ksB h k with
    | true =>
      refine ⟨true, 0, fun w hv => (permY h h1 h3 k hk8 (ks_yes hb) w hv).mono ?_, ⟨fun _ => by rw [ht, hb]; rfl, fun e => absurd rfl e⟩, fun _ => ⟨k, rfl, hk8, hb⟩⟩
      rintro e w' ⟨g0, he, _, _, g⟩
      exact ⟨_, he, g, trivial⟩
    | false =>
      refine ⟨false, 0, fun w hv => (permN h h1 h3 k hk8 (ks_no hb) w hv).mono ?_, ⟨fun _ => by rw [ht, hb]; rfl, fun e => absurd rfl e⟩, fun e => (by cases e)⟩
      rintro e w' ⟨he, g⟩
      exact ⟨_, he, g, trivial⟩
theorem then_walk (h a b : Int) (w : World) (h0 : 0 ≤ h) (h1 : h ≤ 255) (ha0 : -9223372036854775808 ≤ a) (ha1 : a ≤ 9223372036854775807) (hb0 : -9223372036854775808 ≤ b) (hb1 : b ≤ 9223372036854775807) (hv : Hv w) : Calls Tryd.prog 7 #[.int .u8 h, .int .i64 a, .int .i64 b] w fun e w' => e = .returned (.bool true) ∧ Below w.heap.size w w' := by
  refine Calls.mono (R := fun e w' => e = .returned (.bool true) ∧ w.grownBy w' none) ?_ (fun e w' h => ⟨h.1, gb_below h.2⟩)
  by_cases hn : h < 1 ∨ 3 < h
  · exact thenN h h0 h1 hn a b w hv
  · obtain ⟨m, rfl⟩ : ∃ m : Nat, h = m := ⟨h.toNat, by omega⟩
    obtain ⟨o1, e1, p1, t1, k1⟩ := pl_of m (by omega) (by omega) a
    obtain ⟨o2, e2, p2, t2, k2⟩ := pl_of m (by omega) (by omega) b
    by_cases ho : o1 = false ∨ o2 = false
    · exact thenA m (by omega) (by omega) a b o1 o2 e1 e2 p1 p2 _ rfl t1 ho w hv
    · obtain ⟨ka, rfl, ha8, hka⟩ := k1 (by cases o1; exact absurd (.inl rfl) ho; rfl)
      obtain ⟨kb, rfl, hb8, hkb⟩ := k2 (by cases o2; exact absurd (.inr rfl) ho; rfl)
      exact thenB m (by omega) (by omega) ka kb ha8 hb8 hka hkb _ rfl (by unfold Hid; rw [tk_is m (by omega) ka ha8, hka]; rfl) w hv
end Go.Proofs.YtgflchbmoinonaaDoor
