/- The walk of HoodThen. -/
import Derived.Test.YtgflchbmoinonaaDoorH10
import Derived.Deep.RegionHeld2
namespace Go.Proofs.YtgflchbmoinonaaDoor
open Go.RowKit
open Fl
set_option linter.unusedVariables false
set_option linter.unusedSimpArgs false
set_option maxRecDepth 100000

/-- A quiet walk, shut: so that nothing looks ahead through operations that are passed over. -/
structure Wq (P : Program) (ops : Array Oper) (C : World → Prop) (Q : Act → Prop) (l : List Oper) (a : Act) : Prop where
  out : wpQuiet P ops C Q l a
theorem Wq.step {P : Program} {ops : Array Oper} {C : World → Prop} {Q : Act → Prop} {a : Act} {o : Oper} {rest : List Oper} (h : ∀ K : Act → Prop, (∀ a, Wq P ops C Q rest a → K a) → if Region.wanted o (yielded ops a.tmps) then o.quiet P a C K else K (a.put o.dst undef)) : Wq P ops C Q (o :: rest) a :=
  ⟨wpQuiet_step (fun K hK => h K (fun a ha => hK a ha.out))⟩
theorem Wq.nil {P : Program} {ops : Array Oper} {C : World → Prop} {Q : Act → Prop} {a : Act} (h : Q a) : Wq P ops C Q [] a := ⟨wpQuiet_nil h⟩
/-- What Perm answers, in one form. -/
def PL (h : Nat) (a : Int) (one : Bool) (er : Int) (K : Nat → World → Value → Prop) : Prop := ∀ w, Hid (Hv w) → Calls Tryd.prog 10 #[.int .u8 h, .int .i64 a] w fun e w' => ∃ v, e = .returned (.tuple #[v, .bool one, .int .i64 er]) ∧ w.grownBy w' none ∧ K w.heap.size w' v
def tcn (l : List Nat) (a : Int) (j : Nat) : Nat := ((l.take j).filter fun x : Nat => (x : Int) == a).length
theorem tcn_yes {l : List Nat} {a : Int} {j : Nat} (hj : j < l.length) (he : ((l.getD j 0 : Nat) : Int) = a) : tcn l a (j + 1) = tcn l a j + 1 := by
  unfold tcn
  rw [List.take_add_one, List.filter_append, List.length_append, List.getElem?_eq_getElem hj]
  have : ((l[j] : Nat) : Int) = a := by rw [← he]; simp [List.getD, List.getElem?_eq_getElem hj]
  simp [this]
theorem tcn_no {l : List Nat} {a : Int} {j : Nat} (hj : j < l.length) (he : ¬ ((l.getD j 0 : Nat) : Int) = a) : tcn l a (j + 1) = tcn l a j := by
  unfold tcn
  rw [List.take_add_one, List.filter_append, List.length_append, List.getElem?_eq_getElem hj]
  have : ¬ ((l[j] : Nat) : Int) = a := by intro e; apply he; rw [← e]; simp [List.getD, List.getElem?_eq_getElem hj]
  simp [this]
theorem tcn_le (l : List Nat) (a : Int) (j : Nat) : tcn l a j ≤ j := by
  unfold tcn
  have h1 := List.length_filter_le (fun x : Nat => (x : Int) == a) (l.take j)
  have h2 := List.length_take_le j l
  omega
def plP (l : List Nat) (j : Nat) : Bool := decide (l.getD j 0 ≤ 7) && (j == 0 || decide (l.getD (j - 1) 0 < l.getD j 0))
theorem plq_is (h : Nat) (h1 : 1 ≤ h) (h3 : h ≤ 3) (j : Nat) (hj : j < (pls h 8).length) : plP (pls h 8) j = true := by
  have hall : ∀ n, 1 ≤ n → n ≤ 3 → ((List.range (pls n 8).length).all fun j => plP (pls n 8) j) = true := by
    intro n a b
    match n, a, b with
    | 1, _, _ => decide +kernel
    | 2, _, _ => decide +kernel
    | 3, _, _ => decide +kernel
  exact List.all_eq_true.1 (hall h h1 h3) j (List.mem_range.2 hj)
set_option maxHeartbeats 1500000 in
theorem thenA (h : Nat) (h1 : 1 ≤ h) (h3 : h ≤ 3) (a b : Int) (one two : Bool) (er1 er2 : Int) (hp1 : PL h a one er1 fun _ _ _ => True) (hp2 : PL h b two er2 fun _ _ _ => True) (l : List Nat) (hl : Hid (pls h 8 = l)) (HT : Hid ((er1 = 0 → decide (tcn l a l.length = 1) = one) ∧ (¬ er1 = 0 → tcn l a l.length = 0))) (H12 : Hid (one = false ∨ two = false)) (w : World) (hv : Hid (Hv w)) :
    Calls Tryd.prog 7 #[.int .u8 h, .int .i64 a, .int .i64 b] w fun e w' => e = .returned (.bool true) ∧ w.grownBy w' none := by
  have hQ := partsYes h h1 h3
  have h8 := pls_le h 8
  have HL : Hid (∀ j, j < (pls h 8).length → plP (pls h 8) j = true) := fun j hj => plq_is h h1 h3 j hj
  rw [hl.out] at hQ h8 HL
  unfold PL at hp1 hp2
  go_enter Tryd.func7, Tryd.ntmps7
  go_wp2_with (first | (go_at_call 12; refine (aliveC _ hv).mono ?_; rintro e w1 ⟨rfl, g1⟩; have hv1 := hvK hv g1) | (go_at_call 10; (fail_if_success (guard_hyp g2)); refine (hp1 _ hv1).mono ?_; rintro e w2 ⟨v2, rfl, g2, P2⟩; have hv2 := hvK hv1 g2; have G2 := gb_trans g1 g2) | (go_at_call 10; guard_hyp g2; (fail_if_success (guard_hyp g3)); refine (hp2 _ hv2).mono ?_; rintro e w3 ⟨v3, rfl, g3, P3⟩; have hv3 := hvK hv2 g3; have G3 := gb_trans G2 g3) | (go_at_call 11; refine (hQ _ hv3).mono ?_; rintro e w4 ⟨v4, rfl, o4, g4⟩; have hv4 := hvK hv3 g4; have G4 := gb_trans G3 g4; obtain ⟨s4, c4, rfl, R4⟩ := rd_own o4))
  go_loopw [16, 17] (fun vt v wr => ∃ j : Nat, j ≤ l.length ∧ v = .int .i64 j ∧ vt = .int .i64 (tcn l a j : Nat) ∧ w4.grownBy wr none) (fun _ v _ => l.length - (intOf v).toNat)
  case atStart => exact ⟨0, Nat.zero_le _, rfl, rfl, World.grownBy.refl _ _⟩
  case round =>
    obtain ⟨j, hj, rfl, rfl, hg⟩ := hrel
    by_cases hlt : j < l.length
    · have hlt' : (j : Int) < (l.length : Int) := by omega
      have hq := HL.out j hlt
      unfold plP at hq
      have hT0 := tcn_le l a j
      obtain ⟨sa, rfl⟩ := R4.some (by omega)
      have v0 := hg.cell (R4.at hlt) (by simp)
      have HY : Hid (((l.getD j 0 : Nat) : Int) = a → tcn l a (j + 1) = tcn l a j + 1) := tcn_yes hlt
      have HN : Hid (¬ ((l.getD j 0 : Nat) : Int) = a → tcn l a (j + 1) = tcn l a j) := tcn_no hlt
      simp only [Bool.and_eq_true, Bool.or_eq_true, decide_eq_true_eq, beq_iff_eq] at hq
      obtain ⟨q1, q2⟩ := hq
      have q3 : Hid (j = 0 ∨ l.getD (j - 1) 0 < l.getD j 0) := q2
      clear q2
      generalize l.getD j 0 = x at *
      generalize tcn l a j = T at *
      have x0 : decide (((x : Nat) : Int) < 0) = false := decide_eq_false (by omega)
      have x7 : decide ((7 : Int) < ((x : Nat) : Int)) = false := decide_eq_false (by omega)
      have wT : IntKind.i64.wrap ((T : Int) + 1) = (T : Int) + 1 := by rw [IntKind.wrap_i64]; omega
      cases ej : decide ((0 : Int) < (j : Int)) with
      | false =>
        have ejn : Hid (decide (0 < j) = false) := decide_eq_false (by have := of_decide_eq_false ej; omega)
        clear q3 ej
        cases ex : (((x : Nat) : Int) == a) with
        | true =>
          have HE := HY.out (by simpa using ex)
          have HE' : Hid (tcn l a (j + 1) = T + 1) := HE
          clear HE HY HN
          go_wp2
          refine wp_region_quiet_lit (by kernel_rfl) (by kernel_rfl) (Wq.out ?_)
          iterate 16 (refine Wq.step (fun K hK => ?_); go_simp; refine hK _ ?_; clear hK K)
          rw [ejn.out]
          iterate 12 (refine Wq.step (fun K hK => ?_); go_simp; refine hK _ ?_; clear hK K)
          refine Wq.nil ?_
          intro _ hw'
          obtain ⟨nq, hw2⟩ := hw'
          subst hw2
          go_wp2
          go_roundw
          case rel => exact ⟨j + 1, by omega, by go_num, by first | (rw [HE'.out]; done) | (rw [HE'.out]; rfl) | (rw [HE'.out]; simp), gb_drewN hg _⟩
          case measure => simp [intOf]; omega
        | false =>
          have HE := HN.out (by simpa using ex)
          have HE' : Hid (tcn l a (j + 1) = T) := HE
          clear HE HY HN
          go_wp2
          refine wp_region_quiet_lit (by kernel_rfl) (by kernel_rfl) (Wq.out ?_)
          iterate 16 (refine Wq.step (fun K hK => ?_); go_simp; refine hK _ ?_; clear hK K)
          rw [ejn.out]
          iterate 12 (refine Wq.step (fun K hK => ?_); go_simp; refine hK _ ?_; clear hK K)
          refine Wq.nil ?_
          intro _ hw'
          obtain ⟨nq, hw2⟩ := hw'
          subst hw2
          go_wp2
          go_roundw
          case rel => exact ⟨j + 1, by omega, by go_num, by first | (rw [HE'.out]; done) | (rw [HE'.out]; rfl) | (rw [HE'.out]; simp), gb_drewN hg _⟩
          case measure => simp [intOf]; omega
      | true =>
        have ej' : 0 < j := by have := of_decide_eq_true ej; omega
        obtain ⟨m, hm⟩ : ∃ m, j = m + 1 := ⟨j - 1, by omega⟩
        have q4 : l.getD m 0 < x := by rcases q3.out with q | q; omega; rw [hm] at q; exact q
        have v1 := hg.cell (R4.at (k := m) (by omega)) (by simp)
        generalize l.getD m 0 = y at *
        have xy : decide (((x : Nat) : Int) ≤ (y : Int)) = false := decide_eq_false (by omega)
        have wj : IntKind.i64.wrap ((j : Int) - 1) = (m : Int) := by rw [IntKind.wrap_i64]; omega
        have ml : (m : Int) < (l.length : Int) := by omega
        have HMj : Hid (j = m + 1) := hm
        clear q3 hm
        cases ex : (((x : Nat) : Int) == a) with
        | true =>
          have HE := HY.out (by simpa using ex)
          have HE' : Hid (tcn l a (j + 1) = T + 1) := HE
          clear HE HY HN
          go_wp2
          go_quiet (fail)
          go_wp2
          go_roundw
          case rel => exact ⟨j + 1, by omega, by go_num, by first | (rw [HE'.out]; done) | (rw [HE'.out]; rfl) | (rw [HE'.out]; simp), gb_drewN hg _⟩
          case measure => simp [intOf]; omega
        | false =>
          have HE := HN.out (by simpa using ex)
          have HE' : Hid (tcn l a (j + 1) = T) := HE
          clear HE HY HN
          go_wp2
          go_quiet (fail)
          go_wp2
          go_roundw
          case rel => exact ⟨j + 1, by omega, by go_num, by first | (rw [HE'.out]; done) | (rw [HE'.out]; rfl) | (rw [HE'.out]; simp), gb_drewN hg _⟩
          case measure => simp [intOf]; omega
    · have hlt' : ¬ (j : Int) < (l.length : Int) := by omega
      obtain rfl : j = l.length := by omega
      obtain ⟨t1, t2⟩ := HT.out
      generalize tcn l a l.length = T at *
      clear HT HL
      by_cases he : er1 = 0
      · subst he
        have e1 : (((T : Nat) : Int) == 1) = one := by
          rw [← t1 rfl]
          by_cases hh : T = 1
          · rw [hh]; rfl
          · rw [decide_eq_false hh]; simp; omega
        clear t1 t2
        cases one with
        | false =>
          go_wp2
          go_ret
          exact ⟨rfl, gb_trans G4 hg⟩
        | true =>
          obtain rfl : two = false := by rcases H12.out with q | q; cases q; exact q
          go_wp2
          go_ret
          exact ⟨rfl, gb_trans G4 hg⟩
      · have e0 : (er1 == 0) = false := by simpa using he
        have e2 : (er1 != 0) = true := by simpa using he
        obtain rfl := t2 he
        clear t1 t2
        rcases H12.out with rfl | rfl
        · go_wp2
          go_ret
          exact ⟨rfl, gb_trans G4 hg⟩
        · cases one <;> go_wp2 <;> go_ret <;> exact ⟨rfl, gb_trans G4 hg⟩
end Go.Proofs.YtgflchbmoinonaaDoor
