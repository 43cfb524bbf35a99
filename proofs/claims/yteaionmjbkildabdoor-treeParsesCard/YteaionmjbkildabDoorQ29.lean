/- A node that may not stand where it stands. -/
import Derived.Test.YteaionmjbkildabDoorQ20
namespace Go.Proofs.YteaionmjbkildabDoor
open Go.RowKit
set_option linter.unusedVariables false
set_option linter.unusedSimpArgs false
set_option maxRecDepth 100000

theorem levelSt (st S kc : Nat) (kp sa : Option Addr) (kn na ca : Nat) (hkn : kn ≠ 0) (hst : st < 256) (h0 : st ≠ 0) (w : World) : Calls Tryd.prog 47 #[.agg #[.int .u8 (st : Nat), .slice kp kn kc], .int .i64 (S : Nat), .slice sa na ca] w fun e w' => e = .returned (.tuple #[.int .i64 0, .bool false]) ∧ w.grownBy w' none := by
  obtain ⟨W1, hW1, sz1, g1, B1⟩ := boxn w #[.int .u8 (st : Nat), .slice kp kn kc] 69
  have c0 := B1.cell 0 (v := .int .u8 (st : Nat)) rfl
  have c1 := B1.cell 1 (v := .slice kp kn kc) rfl
  have hl := isLeafA (st : Nat) kp kn kc W1
  rw [show decide (kn = 0) = false by simp [hkn]] at hl
  have y : ((st : Int) != 0) = true := by simp; omega
  go_enter Tryd.func47, Tryd.ntmps47
  go_wp2_with (first | (go_at_call 59; refine hl.mono ?_; rintro e w2 ⟨rfl, g2⟩; have G2 := gb_trans g1 g2; have B2 := B1.kept g2 (by simp); have d0 := B2.cell 0 (v := .int .u8 (st : Nat)) rfl; have d1 := B2.cell 1 (v := .slice kp kn kc) rfl))
  go_ret2
  exact ⟨rfl, G2⟩
theorem levelLen (S kc : Nat) (kp sa : Option Addr) (kn na ca : Nat) (hkn : kn ≠ 0) (h0 : kn ≠ S) (w : World) : Calls Tryd.prog 47 #[.agg #[.int .u8 0, .slice kp kn kc], .int .i64 (S : Nat), .slice sa na ca] w fun e w' => e = .returned (.tuple #[.int .i64 0, .bool false]) ∧ w.grownBy w' none := by
  obtain ⟨W1, hW1, sz1, g1, B1⟩ := boxn w #[.int .u8 0, .slice kp kn kc] 69
  have c0 := B1.cell 0 (v := .int .u8 0) rfl
  have c1 := B1.cell 1 (v := .slice kp kn kc) rfl
  have hl := isLeafA 0 kp kn kc W1
  rw [show decide (kn = 0) = false by simp [hkn]] at hl
  have y : ((kn : Int) != (S : Int)) = true := by simp; omega
  go_enter Tryd.func47, Tryd.ntmps47
  go_wp2_with (first | (go_at_call 59; refine hl.mono ?_; rintro e w2 ⟨rfl, g2⟩; have G2 := gb_trans g1 g2; have B2 := B1.kept g2 (by simp); have d0 := B2.cell 0 (v := .int .u8 0) rfl; have d1 := B2.cell 1 (v := .slice kp kn kc) rfl))
  go_ret2
  exact ⟨rfl, G2⟩

set_option maxHeartbeats 1000000 in
theorem levelNo (S kc : Nat) (kp sa : Option Addr) (na ca : Nat) (kf lv : Nat → Int) (hS : S ≤ 256) (hS1 : 1 ≤ S) (hna : na ≤ 65536) (hlv : ∀ j, 0 ≤ lv j ∧ lv j ≤ 100000) (hk : ¬ ∀ k, k < S → 0 ≤ kf k ∧ kf k < na ∧ lv (kf k).toNat = lv (kf 0).toNat) (w : World) (hK : In w kp S kf) (hA : In w sa na lv) :
    Calls Tryd.prog 47 #[.agg #[.int .u8 0, .slice kp S kc], .int .i64 (S : Nat), .slice sa na ca] w fun e w' => e = .returned (.tuple #[.int .i64 0, .bool false]) ∧ w.grownBy w' none := by
  obtain ⟨W1, hW1, sz1, g1, B1⟩ := boxn w #[.int .u8 0, .slice kp S kc] 69
  have c0 := B1.cell 0 (v := .int .u8 0) rfl
  have c1 := B1.cell 1 (v := .slice kp S kc) rfl
  have hl := isLeafA 0 kp S kc W1
  rw [show decide (S = 0) = false by simp; omega] at hl
  obtain ⟨a, rfl⟩ := hK.some (by omega)
  go_enter Tryd.func47, Tryd.ntmps47
  go_wp2_with (first | (go_at_call 59; refine hl.mono ?_; rintro e w2 ⟨rfl, g2⟩; have G2 := gb_trans g1 g2; have B2 := B1.kept g2 (by simp); have d0 := B2.cell 0 (v := .int .u8 0) rfl; have d1 := B2.cell 1 (v := .slice (some a) S kc) rfl))
  go_loopw [30] (fun i wr => ∃ j : Nat, j ≤ S ∧ i = .int .i64 j ∧ w.grownBy wr none ∧ Bo wr w.heap.size 69 #[.int .u8 0, .slice (some a) S kc] ∧ ∀ k, k < j → 0 ≤ kf k ∧ kf k < na ∧ lv (kf k).toNat = lv (kf 0).toNat) (fun i _ => S - (intOf i).toNat)
  case atStart => exact ⟨0, Nat.zero_le _, rfl, G2, B2, fun k hk => absurd hk (Nat.not_lt_zero _)⟩
  case round =>
    obtain ⟨j, hj, rfl, Gj, Bj, hgd⟩ := hrel
    have b1 := Bj.cell 1 (v := .slice (some a) S kc) rfl
    by_cases hlt : j < S
    · have hlt' : (j : Int) < (S : Int) := by omega
      have kj : wr.cell? (a.add j) = some (.int .i64 (kf j)) := (hK.kept Gj (by simp)).at hlt
      by_cases hgj : 0 ≤ kf j ∧ kf j < na ∧ lv (kf j).toNat = lv (kf 0).toNat
      · have hgd' : ∀ k, k < j + 1 → 0 ≤ kf k ∧ kf k < na ∧ lv (kf k).toNat = lv (kf 0).toNat := fun k hk => by
          by_cases e : k = j
          · subst e; exact hgj
          · exact hgd k (by omega)
        have HG : Hid (∀ k, k < j + 1 → 0 ≤ kf k ∧ kf k < na ∧ lv (kf k).toNat = lv (kf 0).toNat) := hgd'
        obtain ⟨h00, h01, _⟩ := hgd' 0 (by omega)
        obtain ⟨d, rfl⟩ := hA.some (by omega)
        obtain ⟨m, hm⟩ := Int.eq_ofNat_of_zero_le h00
        have hm2 : m < na := by omega
        have k0 : wr.cell? (a.add 0) = some (.int .i64 (kf 0)) := (hK.kept Gj (by simp)).at (by omega)
        have l0 : wr.cell? (d.add m) = some (.int .i64 (lv m)) := (hA.kept Gj (by simp)).at hm2
        rw [hm, Addr.add_zero'] at k0
        obtain ⟨hj0, hj1, hj2⟩ := hgj
        obtain ⟨q, hq⟩ := Int.eq_ofNat_of_zero_le hj0
        have hq2 : q < na := by omega
        have lj : wr.cell? (d.add q) = some (.int .i64 (lv q)) := (hA.kept Gj (by simp)).at hq2
        rw [hq] at kj hj2
        rw [hm] at hj2
        have e2 : lv q = lv m := hj2
        rw [e2] at lj
        clear hj2 e2 hq hj0 hj1 hgd hgd' hk
        have y1 : decide ((q : Int) < 0) = false := by simp
        have y2 : decide (na ≤ q) = false := by simp; omega
        have ya : (lv m != lv m) = false := by simp
        have y3 : (q : Int) < (na : Int) := by omega
        have y4 : (0 : Int) ≤ (q : Int) := by omega
        have y5 : (m : Int) < (na : Int) := by omega
        have y6 : (0 : Int) ≤ (m : Int) := by omega
        have y7 : (0 : Int) < (S : Int) := by omega
        have y8 : ((q : Int)).toNat = q := by omega
        have y9 : ((m : Int)).toNat = m := by omega
        go_wp2
        go_quiet (fail)
        go_wp2
        go_roundw
        case rel => exact ⟨j + 1, by omega, by go_num, gb_drewN Gj _, Bj.drew, HG.out⟩
        case measure => simp [intOf]; omega
      · clear hk
        obtain ⟨z, hz⟩ : ∃ z, kf j = z := ⟨_, rfl⟩
        rw [hz] at kj hgj
        by_cases hn : z < 0
        · clear hgd hgj hz
          have y1 : decide (z < 0) = true := by simp [hn]
          go_wp2
          go_quiet (fail)
          go_wp2
          go_ret2
          exact ⟨rfl, gb_drewN Gj _⟩
        · by_cases hr : z < na
          · by_cases hj0 : j = 0
            · subst hj0
              exact absurd ⟨by omega, hr, by rw [hz]⟩ hgj
            · obtain ⟨h00, h01, _⟩ := hgd 0 (by omega)
              obtain ⟨d, rfl⟩ := hA.some (by omega)
              obtain ⟨m, hm⟩ := Int.eq_ofNat_of_zero_le h00
              have hm2 : m < na := by omega
              have k0 : wr.cell? (a.add 0) = some (.int .i64 (kf 0)) := (hK.kept Gj (by simp)).at (by omega)
              have l0 : wr.cell? (d.add m) = some (.int .i64 (lv m)) := (hA.kept Gj (by simp)).at hm2
              rw [hm, Addr.add_zero'] at k0
              obtain ⟨q, hq⟩ := Int.eq_ofNat_of_zero_le (show 0 ≤ z by omega)
              have hq2 : q < na := by omega
              have lj : wr.cell? (d.add q) = some (.int .i64 (lv q)) := (hA.kept Gj (by simp)).at hq2
              rw [hq] at kj hgj
              rw [hm] at hgj
              have hne : lv q ≠ lv m := fun e => hgj ⟨by omega, by omega, e⟩
              obtain ⟨x, hx⟩ : ∃ x, lv q = x := ⟨_, rfl⟩
              obtain ⟨y, hy⟩ : ∃ y, lv m = y := ⟨_, rfl⟩
              rw [hx] at lj hne
              rw [hy] at l0 hne
              have y1 : decide ((q : Int) < 0) = false := by simp
              have y2 : decide (na ≤ q) = false := by simp; omega
              have ya : (x != y) = true := by simp [hne]
              have y3 : (q : Int) < (na : Int) := by omega
              have y4 : (0 : Int) ≤ (q : Int) := by omega
              have y5 : (m : Int) < (na : Int) := by omega
              have y6 : (0 : Int) ≤ (m : Int) := by omega
              have y7 : (0 : Int) < (S : Int) := by omega
              have y8 : ((q : Int)).toNat = q := by omega
              have y9 : ((m : Int)).toNat = m := by omega
              clear hgd hgj hz hq hm hx hy hn hr hne h00 h01
              go_wp2
              go_quiet (fail)
              go_wp2
              go_ret2
              exact ⟨rfl, gb_drewN Gj _⟩
          · obtain ⟨q, hq⟩ := Int.eq_ofNat_of_zero_le (show 0 ≤ z by omega)
            subst hq
            have y1 : decide ((q : Int) < 0) = false := by simp
            have y2 : decide (na ≤ q) = true := by simp; omega
            clear hgd hgj hz hn hr
            go_wp2
            go_quiet (fail)
            go_wp2
            go_ret2
            exact ⟨rfl, gb_drewN Gj _⟩
    · have hjn : j = S := by omega
      subst hjn
      exact absurd hgd hk

/-- A node may stand at number j, the levels ahead of it being lv. -/
def okN (S : Nat) (lv : Nat → Nat) (t : TN) (j : Nat) : Prop := (t.kn = 0 ∧ t.st < S) ∨ (t.kn ≠ 0 ∧ t.st = 0 ∧ t.kn = S ∧ ∀ k, k < S → 0 ≤ t.kf k ∧ t.kf k < (j : Int) ∧ lv (t.kf k).toNat = lv (t.kf 0).toNat)
theorem levelBad (S : Nat) (hS : S ≤ 256) (hS1 : 1 ≤ S) (lv : Nat → Nat) (hlv : ∀ j, lv j ≤ 100000) (t : TN) (ht : t.st < 256) (j : Nat) (hj : j ≤ 65536) (bad : ¬ okN S lv t j) (sa : Option Addr) (ca : Nat) (w : World) (hK : In w t.kp t.kn t.kf) (hA : In w sa j (fun i => (lv i : Int))) :
    Calls Tryd.prog 47 #[.agg #[.int .u8 (t.st : Nat), .slice t.kp t.kn t.kc], .int .i64 (S : Nat), .slice sa j ca] w fun e w' => e = .returned (.tuple #[.int .i64 0, .bool false]) ∧ w.grownBy w' none := by
  by_cases h0 : t.kn = 0
  · refine (h0 ▸ levelLeaf t.st S t.kc t.kp sa j ca ht hS w).mono ?_
    rintro e w' ⟨rfl, g⟩
    exact ⟨by rw [decide_eq_false (fun h => bad (.inl ⟨h0, h⟩))], g⟩
  · by_cases h1 : t.st = 0
    · by_cases h2 : t.kn = S
      · rw [h2] at hK ⊢
        rw [h1]
        exact levelNo S t.kc t.kp sa j ca t.kf (fun i => (lv i : Int)) hS hS1 hj (fun i => ⟨by omega, by have := hlv i; omega⟩) (fun h => bad (.inr ⟨h0, h1, h2, fun k hk => ⟨(h k hk).1, (h k hk).2.1, by have := (h k hk).2.2; omega⟩⟩)) w hK hA
      · rw [h1]
        exact levelLen S t.kc t.kp sa t.kn j ca h0 h2 w
    · exact levelSt t.st S t.kc t.kp sa t.kn j ca h0 ht h1 w
end Go.Proofs.YteaionmjbkildabDoor
