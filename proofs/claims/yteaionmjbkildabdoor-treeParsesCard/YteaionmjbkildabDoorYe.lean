/- The document's Check. -/
import Derived.Test.YteaionmjbkildabDoorQ30
import Derived.Test.YteaionmjbkildabDoorQ26
import Derived.Test.YteaionmjbkildabDoorYd
import Derived.Test.YteaionmjbkildabDoorYb
import Derived.Test.YteaionmjbkildabDoorQrh
import Derived.Test.YteaionmjbkildabDoorQ20
import Derived.Test.YteaionmjbkildabDoorChecked
import Derived.ChangeSlices
import Derived.Deep.SlicePairs
import Derived.OpenShut
import Derived.ProofKit
import Derived.SizedLaws
import Derived.Test.YteaionmjbkildabDoorCards
import Derived.Test.YteaionmjbkildabDoorTie
import Derived.LaidMore
import Derived.Lay
import Derived.ChangeOld
import Derived.Carry
import Derived.Stop.Joined
import Derived.Stop.LaidErr
import Derived.SevenTiedAt
import Derived.ShutString
import Derived.Lib.LaidTab
namespace Go.Proofs.YteaionmjbkildabDoor
open Go.RowKit
set_option linter.unusedVariables false
set_option linter.unusedSimpArgs false
set_option maxRecDepth 100000

theorem rcEarly (S I R : Int) (sp : Option Addr) (n c : Nat) (h : ¬ (maB S I = true ∧ n ≤ 65536 ∧ 0 ≤ R ∧ R < (n : Int))) (w : World) : Calls Tryd.prog 35 #[.agg #[.int .i64 S, .int .i64 I, .slice sp n c, .int .i64 R]] w fun e w' => e = .returned (.int .i64 110) ∧ w.grownBy w' none := by
  obtain ⟨W1, hW1, sz1, g1, B1⟩ := boxn w #[.int .i64 S, .int .i64 I, .slice sp n c, .int .i64 R] 24
  have t0 := B1.cell 0 (v := .int .i64 S) rfl
  have t1 := B1.cell 1 (v := .int .i64 I) rfl
  have t2 := B1.cell 2 (v := .slice sp n c) rfl
  have t3 := B1.cell 3 (v := .int .i64 R) rfl
  by_cases a0 : S < 1
  · go_enter Tryd.func35, Tryd.ntmps35
    go_wp2
    go_ret
    exact ⟨rfl, g1⟩
  by_cases a1 : 256 < S
  · go_enter Tryd.func35, Tryd.ntmps35
    go_wp2
    go_ret
    exact ⟨rfl, g1⟩
  by_cases a2 : I < 0
  · go_enter Tryd.func35, Tryd.ntmps35
    go_wp2
    go_ret
    exact ⟨rfl, g1⟩
  by_cases a3 : 16 < I
  · go_enter Tryd.func35, Tryd.ntmps35
    go_wp2
    go_ret
    exact ⟨rfl, g1⟩
  by_cases a4 : (n : Int) < 1
  · go_enter Tryd.func35, Tryd.ntmps35
    go_wp2
    go_ret
    exact ⟨rfl, g1⟩
  by_cases a5 : (65536 : Int) < (n : Int)
  · go_enter Tryd.func35, Tryd.ntmps35
    go_wp2
    go_ret
    exact ⟨rfl, g1⟩
  by_cases a6 : R < 0
  · go_enter Tryd.func35, Tryd.ntmps35
    go_wp2
    go_ret
    exact ⟨rfl, g1⟩
  by_cases a7 : (n : Int) ≤ R
  · go_enter Tryd.func35, Tryd.ntmps35
    go_wp2
    go_ret
    exact ⟨rfl, g1⟩
  exact absurd ⟨by unfold maB; simp; omega, by omega, by omega, by omega⟩ h

end Go.Proofs.YteaionmjbkildabDoor
namespace Go.Proofs.YteaionmjbkildabDoor
open Go.RowKit
set_option linter.unusedVariables false
set_option linter.unusedSimpArgs false
set_option maxRecDepth 100000

set_option maxHeartbeats 2000000 in
theorem rcL (S I R q o n c : Nat) (t : Nat → TN) (h1 : 1 ≤ S) (hS : S ≤ 256) (hI : I ≤ 16) (hn : n ≤ 65536) (hR : R < n) (hst : ∀ j, (t j).st < 256) (E : Int) (hE : ((∀ j, j < n → okN S (lw t) (t j) j) ∧ lw t R = I ∧ E = 0) ∨ (¬ ((∀ j, j < n → okN S (lw t) (t j) j) ∧ lw t R = I) ∧ E = 110)) (w : World) (hT : Tn w q o n t) :
    Calls Tryd.prog 35 #[.agg #[.int .i64 (S : Nat), .int .i64 (I : Nat), .slice (some ⟨q, o, none⟩) n c, .int .i64 (R : Nat)]] w fun e w' => e = .returned (.int .i64 E) ∧ w.grownBy w' none := by
  have hlv := lw_le t
  obtain ⟨W1, hW1, sz1, g1, B1⟩ := boxn w #[.int .i64 (S : Nat), .int .i64 (I : Nat), .slice (some ⟨q, o, none⟩) n c, .int .i64 (R : Nat)] 24
  have t0 := B1.cell 0 (v := .int .i64 (S : Nat)) rfl
  have t1 := B1.cell 1 (v := .int .i64 (I : Nat)) rfl
  have t2 := B1.cell 2 (v := .slice (some ⟨q, o, none⟩) n c) rfl
  have t3 := B1.cell 3 (v := .int .i64 (R : Nat)) rfl
  have HB : Hid (((∀ j, j < n → okN S (lw t) (t j) j) ∧ lw t R = I ∧ E = 0) ∨ (¬ ((∀ j, j < n → okN S (lw t) (t j) j) ∧ lw t R = I) ∧ E = 110)) := hE
  clear hE
  have z0 : decide ((S : Int) < 1) = false := by simp; omega
  have z1 : decide ((256 : Int) < (S : Int)) = false := by simp; omega
  have z2 : decide ((I : Int) < 0) = false := by simp
  have z3 : decide ((16 : Int) < (I : Int)) = false := by simp; omega
  have z4 : decide ((n : Int) < 1) = false := by simp; omega
  have z5 : decide ((65536 : Int) < (n : Int)) = false := by simp; omega
  have z6 : decide ((R : Int) < 0) = false := by simp
  have z7 : decide (n ≤ R) = false := by simp; omega
  have hmk := run_make_row' (P := Tryd.prog) 63 3 (.int .i64 0) 8 underIS infoI rfl .i64 .i64 n (by omega) (by omega)
  obtain ⟨W2, hW2⟩ : ∃ W2, W1.alloc (.cells (madeCells #[.int .i64 0] n) 3) = W2 := ⟨_, rfl⟩
  have g2 : W1.grownBy W2 none := (by rw [← hW2]; exact World.grownBy_alloc _ _ _)
  have R2 : W2.rowIs W1.heap.size 3 n (fun x => .int .i64 ((if x < 0 then lw t x else 0 : Nat))) := (by rw [← hW2]; exact World.rowIs_made W1 (.int .i64 0) n 3)
  have B2 := B1.kept g2 (by simp)
  go_enter Tryd.func35, Tryd.ntmps35
  go_wp2
  clear t0 t1 t2 t3 z0 z1 z2 z3 z4 z5 z6 z7 hmk
  go_loopw [4] (fun i wr => ∃ j : Nat, j ≤ n ∧ i = .int .i64 j ∧ wr.rowIs W1.heap.size 3 n (fun x => .int .i64 ((if x < j then lw t x else 0 : Nat))) ∧ w.grownBy wr none ∧ Bo wr w.heap.size 24 #[.int .i64 (S : Nat), .int .i64 (I : Nat), .slice (some ⟨q, o, none⟩) n c, .int .i64 (R : Nat)] ∧ ∀ k, k < j → okN S (lw t) (t k) k) (fun i _ => n - (intOf i).toNat)
  case atStart => exact ⟨0, Nat.zero_le _, rfl, R2, gb_trans g1 g2, B2, fun k hk => absurd hk (Nat.not_lt_zero _)⟩
  case round =>
    obtain ⟨j, hj, rfl, Rj, Gj, Bj, hok⟩ := hrel
    have b0 := Bj.cell 0 (v := .int .i64 (S : Nat)) rfl
    have b1 := Bj.cell 1 (v := .int .i64 (I : Nat)) rfl
    have b2 := Bj.cell 2 (v := .slice (some ⟨q, o, none⟩) n c) rfl
    have b3 := Bj.cell 3 (v := .int .i64 (R : Nat)) rfl
    by_cases hlt : j < n
    · have hlt' : (j : Int) < (n : Int) := by omega
      obtain ⟨x0, x1, x2⟩ := (hT.kept Gj) j hlt
      obtain ⟨W3, hW3, sz3, g3, B3⟩ := boxn wr #[.int .u8 ((t j).st : Nat), .slice (t j).kp (t j).kn (t j).kc] 69
      have y0 := B3.cell 0 (v := .int .u8 ((t j).st : Nat)) rfl
      have y1 := B3.cell 1 (v := .slice (t j).kp (t j).kn (t j).kc) rfl
      have Bj3 := Bj.kept g3 (by simp)
      have c0 := Bj3.cell 0 (v := .int .i64 (S : Nat)) rfl
      have Rj3 := rowIs_kept Rj g3 (by simp)
      have G3 := gb_trans Gj g3
      have HO : Hid (okN S (lw t) (t j) j → ∀ k, k < j + 1 → okN S (lw t) (t k) k) := fun hkj k hk => by
        by_cases e : k = j
        · subst e; exact hkj
        · exact hok k (by omega)
      have HE : Hid (¬ okN S (lw t) (t j) j → E = 110) := fun hkj => by
        rcases HB.out with ⟨h, _, _⟩ | ⟨_, h⟩
        · exact absurd (h j hlt) hkj
        · exact h
      have HL : Hid (lw t j = if (t j).kn = 0 then 0 else (lvl t j).getD ((t j).kf 0).toNat 0 + 1) := lw_rec t (by omega)
      have hstj := hst j
      clear hok
      by_cases hk0 : (t j).kn = 0
      · have HK0 : Hid ((t j).kn = 0) := hk0
        rw [hk0] at x1 y1 hW3
        have hs : ((t j).st : Int) < 256 := by omega
        by_cases hsS : (t j).st < S
        · have hsS' : ¬ ((S : Int) ≤ ((t j).st : Int)) := by omega
          have HN : Hid (okN S (lw t) (t j) j) := .inl ⟨hk0, hsS⟩
          clear hk0
          go_wp2
          go_roundw
          case rel => exact ⟨j + 1, hlt, by go_num, World.rowIs.congr Rj3 (fun i hi => by
            have h := HL.out
            rw [if_pos HK0.out] at h
            by_cases e : i = j
            · subst e; simp [h]
            · by_cases e2 : i < j
              · simp [e2, show i < j + 1 by omega]
              · simp [e2, show ¬ i < j + 1 by omega]), G3, Bj3, HO.out HN.out⟩
          case measure => simp [intOf]; omega
        · have hsS' : (S : Int) ≤ ((t j).st : Int) := by omega
          obtain rfl := HE.out (fun h => by rcases h with ⟨_, h⟩ | ⟨h, _⟩; exact hsS h; exact h hk0)
          clear hk0
          go_wp2
          go_ret
          exact ⟨rfl, G3⟩
      · have hk0' : (((t j).kn : Int) == 0) = false := by simp; omega
        by_cases hs0 : (t j).st = 0
        · rw [hs0, show ((0 : Nat) : Int) = 0 from rfl] at x0 y0 hW3
          by_cases hkS : (t j).kn = S
          · have HKS : Hid ((t j).kn = S) := hkS
            have HS0 : Hid ((t j).st = 0) := hs0
            have HK0 : Hid ((t j).kn ≠ 0) := hk0
            rw [hkS] at x1 y1 hW3 x2 hk0'
            obtain ⟨a, ha⟩ := x2.some (by omega)
            rw [ha] at x1 y1 hW3 x2
            rw [ha, hkS, hs0, show ((0 : Nat) : Int) = 0 from rfl] at B3
            clear hk0 hkS hs0
            go_wp2
            go_loopw [6] (fun i wq => ∃ k : Nat, k ≤ S ∧ i = .int .i64 k ∧ wq.rowIs W1.heap.size 3 n (fun x => .int .i64 ((if x < j then lw t x else 0 : Nat))) ∧ w.grownBy wq none ∧ Bo wq w.heap.size 24 #[.int .i64 (S : Nat), .int .i64 (I : Nat), .slice (some ⟨q, o, none⟩) n c, .int .i64 (R : Nat)] ∧ Bo wq wr.heap.size 69 #[.int .u8 0, .slice (some a) S (t j).kc] ∧ In wq (some a) S (t j).kf ∧ ∀ k', k' < k → 0 ≤ (t j).kf k' ∧ (t j).kf k' < (j : Int) ∧ lw t ((t j).kf k').toNat = lw t ((t j).kf 0).toNat) (fun i _ => S - (intOf i).toNat)
            case atStart => exact ⟨0, Nat.zero_le _, rfl, Rj3, G3, Bj3, B3, x2.kept g3 (by simp), fun k hk => absurd hk (Nat.not_lt_zero _)⟩
            case round =>
              obtain ⟨k, hk, rfl, Rq, Gq, Bq, Cq, hIn, hgd⟩ := hrel
              have d0 := Cq.cell 0 (v := .int .u8 0) rfl
              have d1 := Cq.cell 1 (v := .slice (some a) S (t j).kc) rfl
              by_cases hkl : k < S
              · have hkl' : (k : Int) < (S : Int) := by omega
                have kk := hIn.at hkl
                by_cases hgk : 0 ≤ (t j).kf k ∧ (t j).kf k < (j : Int) ∧ lw t ((t j).kf k).toNat = lw t ((t j).kf 0).toNat
                · have HG : Hid (∀ k', k' < k + 1 → 0 ≤ (t j).kf k' ∧ (t j).kf k' < (j : Int) ∧ lw t ((t j).kf k').toNat = lw t ((t j).kf 0).toNat) := fun k' hk' => by
                    by_cases e : k' = k
                    · subst e; exact hgk
                    · exact hgd k' (by omega)
                  obtain ⟨h00, h01, _⟩ := HG.out 0 (by omega)
                  obtain ⟨m, hm⟩ := Int.eq_ofNat_of_zero_le h00
                  have hm2 : m < j := by omega
                  have k0 := hIn.at (k := 0) (by omega)
                  have l0 := World.rowIs.cell Rq (i := m) (by omega)
                  rw [if_pos hm2] at l0
                  rw [hm, Addr.add_zero'] at k0
                  obtain ⟨hj0, hj1, hj2⟩ := hgk
                  obtain ⟨p, hp⟩ := Int.eq_ofNat_of_zero_le hj0
                  have hp2 : p < j := by omega
                  have lj := World.rowIs.cell Rq (i := p) (by omega)
                  rw [if_pos hp2] at lj
                  rw [hp] at kk hj2
                  rw [hm] at hj2
                  have e2 : lw t p = lw t m := hj2
                  rw [e2] at lj
                  clear hj2 e2 hp hj0 hj1 hgd
                  have y1 : decide ((p : Int) < 0) = false := by simp
                  have y2 : decide (j ≤ p) = false := by simp; omega
                  have ya : ((lw t m : Int) != (lw t m : Int)) = false := by simp
                  have y3 : (p : Int) < (n : Int) := by omega
                  have y4 : (0 : Int) ≤ (p : Int) := by omega
                  have y5 : (m : Int) < (n : Int) := by omega
                  have y6 : (0 : Int) ≤ (m : Int) := by omega
                  have y7 : (0 : Int) < (S : Int) := by omega
                  have y8 : ((p : Int)).toNat = p := by omega
                  have y9 : ((m : Int)).toNat = m := by omega
                  have ym : max (m : Int) 0 = (m : Int) := by omega
                  go_wp2
                  go_quiet (fail)
                  go_wp2
                  go_roundw
                  case rel => exact ⟨k + 1, by omega, by go_num, Rq.drew, gb_drewN Gq _, Bq.drew, Cq.drew, hIn, HG.out⟩
                  case measure => simp [intOf]; omega
                · obtain rfl := HE.out (fun h => by
                    rcases h with ⟨h, _⟩ | ⟨_, _, _, h⟩
                    · exact HK0.out h
                    · exact hgk (h k hkl))
                  obtain ⟨z, hz⟩ : ∃ z, (t j).kf k = z := ⟨_, rfl⟩
                  rw [hz] at kk hgk
                  have y7 : (0 : Int) < (S : Int) := by omega
                  by_cases hn0 : z < 0
                  · clear hgd hgk hz
                    have y1 : decide (z < 0) = true := by simp [hn0]
                    go_wp2
                    go_quiet (fail)
                    go_wp2
                    go_ret
                    exact ⟨rfl, gb_drewN Gq _⟩
                  · by_cases hr : z < (j : Int)
                    · by_cases hk00 : k = 0
                      · subst hk00
                        exact absurd ⟨by omega, hr, by rw [hz]⟩ hgk
                      · obtain ⟨h00, h01, _⟩ := hgd 0 (by omega)
                        obtain ⟨m, hm⟩ := Int.eq_ofNat_of_zero_le h00
                        have hm2 : m < j := by omega
                        have k0 := hIn.at (k := 0) (by omega)
                        have l0 := World.rowIs.cell Rq (i := m) (by omega)
                        rw [if_pos hm2] at l0
                        rw [hm, Addr.add_zero'] at k0
                        obtain ⟨p, hp⟩ := Int.eq_ofNat_of_zero_le (show 0 ≤ z by omega)
                        have hp2 : p < j := by omega
                        have lj := World.rowIs.cell Rq (i := p) (by omega)
                        rw [if_pos hp2] at lj
                        rw [hp] at kk hgk
                        rw [hm] at hgk
                        have hne : lw t p ≠ lw t m := fun e => hgk ⟨by omega, by omega, e⟩
                        obtain ⟨x, hx⟩ : ∃ x, lw t p = x := ⟨_, rfl⟩
                        obtain ⟨y, hy⟩ : ∃ y, lw t m = y := ⟨_, rfl⟩
                        rw [hx] at lj hne
                        rw [hy] at l0 hne
                        have y1 : decide ((p : Int) < 0) = false := by simp
                        have y2 : decide (j ≤ p) = false := by simp; omega
                        have ya : ((x : Int) != (y : Int)) = true := by simp; omega
                        have y3 : (p : Int) < (n : Int) := by omega
                        have y4 : (0 : Int) ≤ (p : Int) := by omega
                        have y5 : (m : Int) < (n : Int) := by omega
                        have y6 : (0 : Int) ≤ (m : Int) := by omega
                        have y7 : (0 : Int) < (S : Int) := by omega
                        have y8 : ((p : Int)).toNat = p := by omega
                        have y9 : ((m : Int)).toNat = m := by omega
                        have ym : max (m : Int) 0 = (m : Int) := by omega
                        clear hgd hgk hz hp hm hx hy hn0 hr hne h00 h01
                        go_wp2
                        go_quiet (fail)
                        go_wp2
                        go_ret
                        exact ⟨rfl, gb_drewN Gq _⟩
                    · obtain ⟨p, hp⟩ := Int.eq_ofNat_of_zero_le (show 0 ≤ z by omega)
                      subst hp
                      have y1 : decide ((p : Int) < 0) = false := by simp
                      have y2 : decide (j ≤ p) = true := by simp; omega
                      clear hgd hgk hz hn0 hr
                      go_wp2
                      go_quiet (fail)
                      go_wp2
                      go_ret
                      exact ⟨rfl, gb_drewN Gq _⟩
              · have hkn : k = S := by omega
                have HN : Hid (okN S (lw t) (t j) j) := .inr ⟨HK0.out, HS0.out, HKS.out, fun k' hk' => hgd k' (by omega)⟩
                obtain ⟨h00, h01, _⟩ := hgd 0 (by omega)
                obtain ⟨m, hm⟩ := Int.eq_ofNat_of_zero_le h00
                have hm2 : m < j := by omega
                have k0 := hIn.at (k := 0) (by omega)
                have l0 := World.rowIs.cell Rq (i := m) (by omega)
                rw [if_pos hm2] at l0
                rw [hm, Addr.add_zero'] at k0
                have HM : Hid (lw t j = lw t m + 1) := by
                  have h := HL.out
                  rw [if_neg HK0.out, hm, Int.toNat_natCast, lvl_get t hm2] at h
                  unfold Hid
                  rw [h, show lw t m = (lvl t (m + 1)).getD m 0 by rw [lw, if_pos (by omega)]]
                have hl9 := hlv m
                have lz := World.rowIs.cell Rq (i := j) hlt
                have lf := World.rowIs.frozen Rq j
                have y5 : (m : Int) < (n : Int) := by omega
                have y6 : (0 : Int) ≤ (m : Int) := by omega
                have y7 : (0 : Int) < (S : Int) := by omega
                have y9 : ((m : Int)).toNat = m := by omega
                have hn' : ¬ ((k : Int) < (S : Int)) := by omega
                clear hgd h00 h01 hm
                go_wp2
                go_roundw
                case rel => exact ⟨j + 1, hlt, by go_num, World.rowIs.congr (World.rowIs.set Rq j (.int .i64 ((lw t m : Int) + 1))) (fun i hi => by
                  have h := HM.out
                  by_cases e : i = j
                  · subst e; simp [h]
                  · by_cases e2 : i < j
                    · simp [e, e2, show i < j + 1 by omega]
                    · simp [e, e2, show ¬ i < j + 1 by omega]), gb_new Gq g1.size _, Bq.set2 (by have := B1.lt; omega), HO.out HN.out⟩
                case measure => simp [intOf]; omega
          · have hkS' : (((t j).kn : Int) != (S : Int)) = true := by simp; omega
            obtain rfl := HE.out (fun h => by rcases h with ⟨h, _⟩ | ⟨_, _, h, _⟩; exact hk0 h; exact hkS h)
            clear hk0 hs0
            go_wp2
            go_ret
            exact ⟨rfl, G3⟩
        · have hs0' : (((t j).st : Int) != 0) = true := by simp; omega
          obtain rfl := HE.out (fun h => by rcases h with ⟨h, _⟩ | ⟨_, h, _⟩; exact hk0 h; exact hs0 h)
          clear hk0
          go_wp2
          go_ret
          exact ⟨rfl, G3⟩
    · have hjn : j = n := by omega
      have hjn' : ¬ ((j : Int) < (n : Int)) := by omega
      have l0 := World.rowIs.cell Rj (i := R) hR
      rw [if_pos (show R < j by omega)] at l0
      have y5 : (R : Int) < (n : Int) := by omega
      have y6 : (0 : Int) ≤ (R : Int) := by omega
      have y9 : ((R : Int)).toNat = R := by omega
      have hok' : ∀ k, k < n → okN S (lw t) (t k) k := fun k hk => hok k (by omega)
      clear hok
      by_cases he : lw t R = I
      · have hE0 : E = 0 := by
          rcases HB.out with ⟨_, _, h⟩ | ⟨h, _⟩
          · exact h
          · exact absurd ⟨hok', he⟩ h
        subst hE0
        rw [he] at l0
        have ya : ((I : Int) != (I : Int)) = false := by simp
        clear hok' he hjn
        go_wp2
        go_quiet (fail)
        go_wp2
        go_ret
        exact ⟨rfl, gb_drewN Gj _⟩
      · have hE0 : E = 110 := by
          rcases HB.out with ⟨_, h, _⟩ | ⟨_, h⟩
          · exact absurd h he
          · exact h
        subst hE0
        obtain ⟨x, hx⟩ : ∃ x, lw t R = x := ⟨_, rfl⟩
        rw [hx] at l0 he
        have ya : ((x : Int) != (I : Int)) = true := by simp; omega
        clear hok' he hjn
        go_wp2
        go_quiet (fail)
        go_wp2
        go_ret
        exact ⟨rfl, gb_drewN Gj _⟩
end Go.Proofs.YteaionmjbkildabDoor
namespace Go.Proofs.YteaionmjbkildabDoor
open Go.RowKit
set_option linter.unusedVariables false
set_option linter.unusedSimpArgs false
set_option maxRecDepth 100000

open Classical in
theorem refCheckC (S I R : Int) (sp : Option Addr) (q o n c : Nat) (t : Nat → TN) (hsp : 0 < n → sp = some ⟨q, o, none⟩) (hst : ∀ j, (t j).st < 256) (w : World) (hT : Tn w q o n t) :
    Calls Tryd.prog 35 #[.agg #[.int .i64 S, .int .i64 I, .slice sp n c, .int .i64 R]] w fun e w' => e = .returned (.int .i64 (if CkOk S I n R t then 0 else 110)) ∧ w.grownBy w' none := by
  by_cases hr : maB S I = true ∧ n ≤ 65536 ∧ 0 ≤ R ∧ R < (n : Int)
  · obtain ⟨h1, h2, h3, h4⟩ := hr
    have hm := maB_is h1
    obtain rfl := hsp (by omega)
    obtain ⟨S', rfl⟩ := Int.eq_ofNat_of_zero_le (show 0 ≤ S by omega)
    obtain ⟨I', rfl⟩ := Int.eq_ofNat_of_zero_le (show 0 ≤ I by omega)
    obtain ⟨R', rfl⟩ := Int.eq_ofNat_of_zero_le h3
    refine rcL S' I' R' q o n c t (by omega) (by omega) (by omega) h2 (by omega) hst _ ?_ w hT
    by_cases hb : (∀ j, j < n → okN S' (lw t) (t j) j) ∧ lw t R' = I'
    · exact .inl ⟨hb.1, hb.2, by rw [if_pos ⟨h1, h2, h3, h4, hb.1, by rw [Int.toNat_natCast, hb.2]⟩]⟩
    · exact .inr ⟨hb, by rw [if_neg (fun h => hb ⟨h.2.2.2.2.1, by have := h.2.2.2.2.2; rw [Int.toNat_natCast] at this; omega⟩)]⟩
  · rw [if_neg (fun h => hr ⟨h.1, h.2.1, h.2.2.1, h.2.2.2.1⟩)]
    exact rcEarly S I R sp n c hr w

theorem refCheckK (S I R q o n c : Nat) (t : Nat → TN) (hck : CkOk S I n R t) (hst : ∀ j, (t j).st < 256) (w : World) (hT : Tn w q o n t) : Calls Tryd.prog 35 #[.agg #[.int .i64 (S : Nat), .int .i64 (I : Nat), .slice (some ⟨q, o, none⟩) n c, .int .i64 (R : Nat)]] w fun e w' => e = .returned (.int .i64 0) ∧ w.grownBy w' none := by
  have hc := refCheckC S I R (some ⟨q, o, none⟩) q o n c t (fun _ => rfl) hst w hT
  rw [if_pos hck] at hc
  exact hc
end Go.Proofs.YteaionmjbkildabDoor
namespace Go.Proofs.YteaionmjbkildabDoor
open Go.RowKit Go.Lib
set_option linter.unusedVariables false
set_option linter.unusedSimpArgs false
set_option maxRecDepth 100000

theorem atD (gN gi : Nat) (sp : Nat → Option Addr) (w : World) (hT : Tn w gN 0 5 (tnOf LD sp)) (c0 : w.cell? ⟨gi, 0, none⟩ = some (.int .u8 1)) (c1 : w.cell? ⟨gi, 1, none⟩ = some (.int .u8 0)) : Calls Tryd.prog 22 #[.agg #[.int .i64 2, .int .i64 2, .slice (some ⟨gN, 0, none⟩) 5 5, .int .i64 4], .slice (some ⟨gi, 0, none⟩) 2 2] w fun e w' => e = .returned (.tuple #[.int .u8 1, .int .i64 0]) ∧ w.grownBy w' none := by
  have h := atC 2 2 4 gN 0 5 5 (tnOf LD sp) lvD (tokD sp) (some ⟨gi, 0, none⟩) 2 (fun i => [1, 0].getD i 0) (fun i hi => match i, hi with | 0, _ => by decide | 1, _ => by decide) w hT (fun k hk => match k, hk with | 0, _ => ⟨_, rfl, c0⟩ | 1, _ => ⟨_, rfl, c1⟩)
  rw [goD] at h
  exact h
theorem keepsD (gN gi : Nat) (sp : Nat → Option Addr) (w : World) (hT : Tn w gN 0 5 (tnOf LD sp)) (c0 : w.cell? ⟨gi, 0, none⟩ = some (.int .i64 1)) (c1 : w.cell? ⟨gi, 1, none⟩ = some (.int .i64 0)) : Calls Tryd.prog 31 #[.agg #[.int .i64 2, .int .i64 2, .slice (some ⟨gN, 0, none⟩) 5 5, .int .i64 4], .slice (some ⟨gi, 0, none⟩) 2 2] w fun e w' => e = .returned (.tuple #[.bool true, .int .i64 0]) ∧ w.grownBy w' none := by
  have h := keepsC 2 2 4 gN 0 5 5 (tnOf LD sp) lvD (tokD sp) (by decide) (some ⟨gi, 0, none⟩) 2 (fun i => [1, 0].getD i 0) orD w hT (fun k hk => match k, hk with | 0, _ => ⟨_, rfl, c0⟩ | 1, _ => ⟨_, rfl, c1⟩)
  rw [keD] at h
  exact h
theorem printD (gN : Nat) (sp : Nat → Option Addr) (w : World) (hT : Tn w gN 0 5 (tnOf LD sp)) (htab : Tab w) : Calls Tryd.prog 11 #[.agg #[.int .i64 2, .int .i64 2, .slice (some ⟨gN, 0, none⟩) 5 5, .int .i64 4]] w fun e w' => e = .returned (.tuple #[.string ⟨txD.toArray⟩, .int .i64 0]) ∧ w.grownBy w' none := by
  have h := printC 2 2 4 gN 0 5 5 (tnOf LD sp) lvD (tokD sp) (by rw [txD_is]; decide) w hT htab
  rw [txD_is] at h
  exact h
theorem gPw : Tryd.prog.globalNamed "internal/strconv.uint64pow10" = some 0 := by kernel_rfl
theorem tab_kept {w w' : World} (h : Tab w) (g : w.grownBy w' none) : Tab w' := Joins.tab_stays gPw h (gb_below g) (Nat.le_refl _)

set_option maxHeartbeats 2000000 in
theorem aliveC (w : World) (htab : Tab w) : Calls Tryd.prog 9 #[] w fun e w' => e = .returned (.bool true) ∧ w.grownBy w' none := by
  have hd := differC w
  go_enter Tryd.func9, Tryd.ntmps9
  go_wp2_with (first | (go_at_call 32; refine hd.mono ?_; rintro e w1 ⟨gA, rfl, _, BA, g1⟩; refine Hid.out ?_))
  refine Lib.hid ?_
  have ho := ofD gA w1 BA
  go_wp2_with (first | (go_at_call 19; refine ho.mono ?_; rintro e w2 ⟨gN, sp, rfl, hT, g2⟩; refine Hid.out ?_))
  refine Lib.hid ?_
  clear hd ho
  obtain ⟨W3, hW3, sz3, g3, B3⟩ := boxn w2 #[.int .i64 2, .int .i64 2, .slice (some ⟨gN, 0, none⟩) 5 5, .int .i64 4] 24
  obtain ⟨W4, hW4, sz4, g4, B4⟩ := boxn W3 #[.int .u8 1, .int .u8 0] 5
  have hT4 := (hT.kept g3).kept g4
  have tb4 := tab_kept (tab_kept (tab_kept (tab_kept htab g1) g2) g3) g4
  have B34 := B3.kept g4 (by simp)
  have a0 := B3.cell 0 (v := .int .i64 2) rfl
  have a1 := B3.cell 1 (v := .int .i64 2) rfl
  have a2 := B3.cell 2 (v := .slice (some ⟨gN, 0, none⟩) 5 5) rfl
  have a3 := B3.cell 3 (v := .int .i64 4) rfl
  have hat := atD gN W3.heap.size sp W4 hT4 (B4.cell 0 rfl) (B4.cell 1 rfl)
  have c0 := B34.cell 0 (v := .int .i64 2) rfl
  have c1 := B34.cell 1 (v := .int .i64 2) rfl
  have c2 := B34.cell 2 (v := .slice (some ⟨gN, 0, none⟩) 5 5) rfl
  have c3 := B34.cell 3 (v := .int .i64 4) rfl
  go_wp2_with (first | (go_at_call 22; refine hat.mono ?_; rintro e w5 ⟨rfl, g5⟩; refine Hid.out ?_))
  refine Lib.hid ?_
  clear hat a0 a1 a2 a3 c0 c1 c2 c3
  have B35 := B34.kept g5 (by simp)
  have hpr := printD gN sp w5 (hT4.kept g5) (tab_kept tb4 g5)
  have c0 := B35.cell 0 (v := .int .i64 2) rfl
  have c1 := B35.cell 1 (v := .int .i64 2) rfl
  have c2 := B35.cell 2 (v := .slice (some ⟨gN, 0, none⟩) 5 5) rfl
  have c3 := B35.cell 3 (v := .int .i64 4) rfl
  go_wp2_with (first | (go_at_call 11; refine hpr.mono ?_; rintro e w6 ⟨rfl, g6⟩; refine Hid.out ?_))
  refine Lib.hid ?_
  clear hpr c0 c1 c2 c3
  obtain ⟨W7, hW7, sz7, g7, B7⟩ := boxn w6 #[.int .i64 1, .int .i64 0] 3
  have B36 := B35.kept g6 (by simp)
  have B37 := B36.kept g7 (by simp)
  have a0 := B36.cell 0 (v := .int .i64 2) rfl
  have a1 := B36.cell 1 (v := .int .i64 2) rfl
  have a2 := B36.cell 2 (v := .slice (some ⟨gN, 0, none⟩) 5 5) rfl
  have a3 := B36.cell 3 (v := .int .i64 4) rfl
  have hke := keepsD gN w6.heap.size sp W7 (((hT4.kept g5).kept g6).kept g7) (B7.cell 0 rfl) (B7.cell 1 rfl)
  have c0 := B37.cell 0 (v := .int .i64 2) rfl
  have c1 := B37.cell 1 (v := .int .i64 2) rfl
  have c2 := B37.cell 2 (v := .slice (some ⟨gN, 0, none⟩) 5 5) rfl
  have c3 := B37.cell 3 (v := .int .i64 4) rfl
  go_wp2_with (first | (go_at_call 31; refine hke.mono ?_; rintro e w8 ⟨rfl, g8⟩; refine Hid.out ?_))
  refine Lib.hid ?_
  clear hke c0 c1 c2 c3
  have G := gb_trans g1 (gb_trans g2 (gb_trans g3 (gb_trans g4 (gb_trans g5 (gb_trans g6 (gb_trans g7 g8))))))
  go_wp2
  go_ret
  exact ⟨rfl, G⟩
end Go.Proofs.YteaionmjbkildabDoor
namespace Go.Proofs.YteaionmjbkildabDoor
open Go.RowKit
set_option linter.unusedVariables false
set_option linter.unusedSimpArgs false
set_option maxRecDepth 100000
namespace Rr
theorem gbx {w w1 w2 : World} {g : Nat} (h : w.grownBy w1 none) (k : w1.grownBy w2 (some g)) (hg : w.heap.size ≤ g) : w.grownBy w2 none := h.andThen k (fun b hb => .inl (by cases hb; exact hg))
set_option maxHeartbeats 8000000 in
theorem dparseC (x : ByteArray) (w : World) : Calls Tryd.prog 14 #[.string x] w (PaPost w x) := by
  obtain ⟨fs, hfs⟩ := underTr
  have HF : Hid (Tryd.prog.underlying 24 = some (.struct fs)) := hfs
  clear hfs
  obtain ⟨W1, hW1, sz1, g1, B1⟩ := boxn w #[.int .i64 0, .int .i64 0, .slice none 0 0, .int .i64 0] 24
  have le : w.heap.size ≤ w.heap.size := Nat.le_refl _
  by_cases hz : 1048576 < x.size
  · have hz' : (1048576 : Int) < (x.size : Int) := by omega
    have e1 : Hid (paE x = 3) := if_pos hz
    have e2 : Hid (paP x = 0) := if_pos hz
    have b0 := B1.cell 0 (v := .int .i64 0) rfl
    have b1 := B1.cell 1 (v := .int .i64 0) rfl
    have b2 := B1.cell 2 (v := .slice none 0 0) rfl
    have b3 := B1.cell 3 (v := .int .i64 0) rfl
    have bf0 := B1.frozen 0
    have bf1 := B1.frozen 1
    have bf2 := B1.frozen 2
    have bf3 := B1.frozen 3
    clear hz
    go_enter Tryd.func14, Tryd.ntmps14
    go_wp2
    refine ret_c3 (g := w.heap.size) (t := 24) (cs := #[.int .i64 0, .int .i64 0, .slice none 0 0, .int .i64 0]) rfl HF.out infoTr rfl (by first | exact (((B1.set 0 _).set 1 _).set 2 _).set 3 _ | exact B1) rfl (PaPost.bad e1.out e2.out (by decide) (gb_new (gb_new (gb_new (gb_new g1 le _) le _) le _) le _))
  · have hz' : ¬ (1048576 : Int) < (x.size : Int) := by omega
    have hz2 : Hid (x.size ≤ 1048576) := by unfold Hid; omega
    obtain ⟨ib, HIB⟩ : ∃ i, Hid (Tryd.prog.info? 69 = some i ∧ i.zero = some (.agg #[.int .u8 0, .slice none 0 0]) ∧ i.size = 2 ∧ i.bytes = 32) := by
      obtain ⟨i, h1, h2, h3, h4⟩ := info_parts infoB
      exact ⟨i, h1, h2, h3, h4⟩
    obtain ⟨W2, hW2, sz2, g2, B2⟩ := boxn W1 #[.string x, .int .i64 0, .bool false] 77
    obtain ⟨W3, hW3, sz3, g3, B3⟩ := boxn W2 #[.int .i64 0, .int .i64 0, .int .i64 0, .int .i64 0] 70
    have G3 := gb_trans (gb_trans g1 g2) g3
    have HA : Hid (w.heap.size < W1.heap.size ∧ W1.heap.size < W2.heap.size ∧ W2.heap.size < W3.heap.size) := ⟨by have := sz1.out; omega, by have := sz2.out; omega, by have := sz3.out; omega⟩
    have R2 : Dd W2 W1.heap.size x x.data.toList false := by
      unfold Dd
      rw [Pa.po_all]
      exact B2
    have R3 := R2.kept g3 (by simp)
    have HX3 : Hid (Bo W3 w.heap.size 24 #[.int .i64 0, .int .i64 0, .slice none 0 0, .int .i64 0]) := (B1.kept g2 (by simp)).kept g3 (by simp)
    have HY3 : Hid (Bo W3 W2.heap.size 70 #[.int .i64 0, .int .i64 0, .int .i64 0, .int .i64 0]) := B3
    have HG3 : Hid (w.grownBy W3 none) := G3
    have HZ : Hid (¬ 1048576 < x.size) := hz
    obtain ⟨⟨b0, r0⟩, htk⟩ : ∃ Z, tkR false [116, 114, 101, 101] x.data.toList = Z := ⟨_, rfl⟩
    have k0 := dtakesX W1.heap.size x x.data.toList false ⟨#[116, 114, 101, 101]⟩ (by decide) b0 r0 htk (Pa.Suf.all x) hz2.out W3 R3
    have hs0 : Hid (Pa.Suf x r0) := by have := tkR_suf false [116, 114, 101, 101] x.data.toList; rw [htk] at this; exact (Pa.Suf.all x).of this
    obtain ⟨Z, hZ1, hZ2⟩ := HsD.start htk
    have HZ1 : Hid (HsD Z (!b0) [] r0) := hZ1
    have HHD : Hid (Pa.hdR x.data.toList = (if Z.2.1 then (Z.1, (Pa.skR 10 Z.2.2).1, (Pa.skR 10 Z.2.2).2) else Z)) := hZ2
    clear hz htk hZ1 hZ2 R2 R3 B1 B2 B3 g1 g2 g3 G3 sz1 sz2 sz3
    go_enter Tryd.func14, Tryd.ntmps14
    go_wp2_with (first | (go_at_call 38; refine k0.mono ?_; rintro e w4 ⟨rfl, hR4, hG4⟩; refine Hid.out ?_))
    refine Lib.hid ?_
    clear k0
    have HR4 : Hid (Dd w4 W1.heap.size x r0 (!b0)) := hR4
    have HX4 : Hid (Bo w4 w.heap.size 24 #[.int .i64 0, .int .i64 0, .slice none 0 0, .int .i64 0]) := HX3.out.kept hG4 (by have := HA.out; simp; omega)
    have HY4 : Hid (Bo w4 W2.heap.size 70 #[.int .i64 0, .int .i64 0, .int .i64 0, .int .i64 0]) := HY3.out.kept hG4 (by have := HA.out; simp; omega)
    have HG4 : Hid (w.grownBy w4 none) := gbx HG3.out hG4 (by have := HA.out; omega)
    clear hR4 hG4
    go_wp2
    go_loopw [7] (fun v wr => ∃ (bad : Bool) (acc : List Nat) (rr : List UInt8), v = .int .i64 (acc.length : Nat) ∧ Hid (HsD Z bad acc rr) ∧ Hid (Pa.Suf x rr) ∧ Hid (Dd wr W1.heap.size x rr bad) ∧ Hid (Bo wr w.heap.size 24 #[.int .i64 0, .int .i64 0, .slice none 0 0, .int .i64 0]) ∧ Hid (Bo wr W2.heap.size 70 (arr4 acc)) ∧ Hid (w.grownBy wr none)) (fun v _ => 4 - (intOf v).toNat)
    case atStart => exact ⟨!b0, [], r0, rfl, HZ1.out, hs0.out, HR4.out, HX4.out, HY4.out, HG4.out⟩
    case round =>
      obtain ⟨bad, acc, rr, rfl, hst, hsx, HR, HX, HY, HG⟩ := hrel
      clear HZ1 hs0 HR4 HX4 HY4 HG4 HX3 HY3 HG3
      by_cases hl4 : acc.length < 4
      · obtain ⟨⟨b1, r1⟩, h1⟩ : ∃ Z, tkR bad [32] rr = Z := ⟨_, rfl⟩
        obtain ⟨⟨n1, b2, r2⟩, h2⟩ : ∃ Z, nbR (!b1) r1 = Z := ⟨_, rfl⟩
        have hnx : Hid ((¬ (acc.length = 2 ∧ b2 = true ∧ 65536 < n1) → HsD Z (!b2) (acc ++ [n1]) r2) ∧ ((acc.length = 2 ∧ b2 = true ∧ 65536 < n1) → Z.2.1 = false ∧ Z.2.2 = r1)) := hst.out.step hl4 h1 h2
        have s1 : Pa.Suf x r1 := by have := tkR_suf bad [32] rr; rw [h1] at this; exact hsx.out.of this
        have hs2 : Hid (Pa.Suf x r2) := by have := nbR_suf (!b1) r1; rw [h2] at this; exact s1.of this
        have kt := fun w5 hR => dtakesX W1.heap.size x rr bad ⟨#[32]⟩ (by decide) b1 r1 h1 hsx.out hz2.out w5 hR
        have kn := fun w6 hR => dnumberX W1.heap.size x r1 (!b1) n1 b2 r2 h2 s1 hz2.out w6 hR
        have hk4 : acc.length = 0 ∨ acc.length = 1 ∨ acc.length = 2 ∨ acc.length = 3 := by omega
        clear h1 h2 s1 hst hl4
        rcases hk4 with hk | hk | hk | hk
        · have e0 : ((acc.length : Nat) : Int) = 0 := by omega
          rw [e0]
          have HE : Hid (acc.length = 0) := hk
          clear hk e0
          go_wp2_with (first | (go_at_call 38; refine (kt _ HR.out).mono ?_; rintro e w5 ⟨rfl, hR5, hG5⟩; have rc5 := hR5.c1) | (go_at_call 39; refine (kn _ hR5).mono ?_; rintro e w6 ⟨rfl, hR6, hG6⟩; refine Hid.out ?_))
          refine Lib.hid ?_
          clear kt kn rc5
          have G56 := gb_one hG5 hG6
          have CC := HY.out.kept G56 (by have := HA.out; simp; omega)
          have BB := HX.out.kept G56 (by have := HA.out; simp; omega)
          have cc0 := CC.cell 0 (v := .int .i64 (acc.getD 0 0 : Nat)) rfl
          have cf0 := CC.frozen 0
          have G6 := gbx HG.out G56 (by have := HA.out; omega)
          have ne1 : W2.heap.size ≠ W1.heap.size := by have := HA.out; omega
          have ne2 := ne1.symm
          have rc2 := hR6.c2
          have HC7 : Hid (Bo (w6.setCell ⟨W2.heap.size, 0, none⟩ (.int .i64 (n1 : Nat))) W2.heap.size 70 (arr4 (acc ++ [n1]))) := by
            have := CC.set 0 (.int .i64 (n1 : Nat))
            rw [arr4_set HE.out (by decide)] at this
            exact this
          have HB7 : Hid (Bo (w6.setCell ⟨W2.heap.size, 0, none⟩ (.int .i64 (n1 : Nat))) w.heap.size 24 #[.int .i64 0, .int .i64 0, .slice none 0 0, .int .i64 0]) := BB.set2 (by have := HA.out; omega)
          have HR7 : Hid (Dd (w6.setCell ⟨W2.heap.size, 0, none⟩ (.int .i64 (n1 : Nat))) W1.heap.size x r2 (!b2)) := hR6.set2 ne1
          have HG7 : Hid (w.grownBy (w6.setCell ⟨W2.heap.size, 0, none⟩ (.int .i64 (n1 : Nat))) none) := gb_new G6 (Nat.le_of_lt (Nat.lt_trans HA.out.1 HA.out.2.1)) _
          clear CC BB hR5 hR6 hG5 hG6 G56 G6
          go_wp2
          go_roundw
          case rel =>
            exact ⟨_, acc ++ [n1], r2, by rw [List.length_append, HE.out]; rfl, hnx.out.1 (fun q => by have := HE.out; omega), hs2.out, HR7.out, HB7.out, HC7.out, HG7.out⟩
          case measure => simp [intOf]
        · have e0 : ((acc.length : Nat) : Int) = 1 := by omega
          rw [e0]
          have HE : Hid (acc.length = 1) := hk
          clear hk e0
          go_wp2_with (first | (go_at_call 38; refine (kt _ HR.out).mono ?_; rintro e w5 ⟨rfl, hR5, hG5⟩; have rc5 := hR5.c1) | (go_at_call 39; refine (kn _ hR5).mono ?_; rintro e w6 ⟨rfl, hR6, hG6⟩; refine Hid.out ?_))
          refine Lib.hid ?_
          clear kt kn rc5
          have G56 := gb_one hG5 hG6
          have CC := HY.out.kept G56 (by have := HA.out; simp; omega)
          have BB := HX.out.kept G56 (by have := HA.out; simp; omega)
          have cc1 := CC.cell 1 (v := .int .i64 (acc.getD 1 0 : Nat)) rfl
          have cf1 := CC.frozen 1
          have G6 := gbx HG.out G56 (by have := HA.out; omega)
          have ne1 : W2.heap.size ≠ W1.heap.size := by have := HA.out; omega
          have ne2 := ne1.symm
          have rc2 := hR6.c2
          have HC7 : Hid (Bo (w6.setCell ⟨W2.heap.size, 1, none⟩ (.int .i64 (n1 : Nat))) W2.heap.size 70 (arr4 (acc ++ [n1]))) := by
            have := CC.set 1 (.int .i64 (n1 : Nat))
            rw [arr4_set HE.out (by decide)] at this
            exact this
          have HB7 : Hid (Bo (w6.setCell ⟨W2.heap.size, 1, none⟩ (.int .i64 (n1 : Nat))) w.heap.size 24 #[.int .i64 0, .int .i64 0, .slice none 0 0, .int .i64 0]) := BB.set2 (by have := HA.out; omega)
          have HR7 : Hid (Dd (w6.setCell ⟨W2.heap.size, 1, none⟩ (.int .i64 (n1 : Nat))) W1.heap.size x r2 (!b2)) := hR6.set2 ne1
          have HG7 : Hid (w.grownBy (w6.setCell ⟨W2.heap.size, 1, none⟩ (.int .i64 (n1 : Nat))) none) := gb_new G6 (Nat.le_of_lt (Nat.lt_trans HA.out.1 HA.out.2.1)) _
          clear CC BB hR5 hR6 hG5 hG6 G56 G6
          go_wp2
          go_roundw
          case rel =>
            exact ⟨_, acc ++ [n1], r2, by rw [List.length_append, HE.out]; rfl, hnx.out.1 (fun q => by have := HE.out; omega), hs2.out, HR7.out, HB7.out, HC7.out, HG7.out⟩
          case measure => simp [intOf]
        · have e0 : ((acc.length : Nat) : Int) = 2 := by omega
          rw [e0]
          have HE : Hid (acc.length = 2) := hk
          clear hk e0
          go_wp2_with (first | (go_at_call 38; refine (kt _ HR.out).mono ?_; rintro e w5 ⟨rfl, hR5, hG5⟩; have rc5 := hR5.c1) | (go_at_call 39; refine (kn _ hR5).mono ?_; rintro e w6 ⟨rfl, hR6, hG6⟩; refine Hid.out ?_))
          refine Lib.hid ?_
          clear kt kn rc5
          have G56 := gb_one hG5 hG6
          have CC := HY.out.kept G56 (by have := HA.out; simp; omega)
          have BB := HX.out.kept G56 (by have := HA.out; simp; omega)
          have cc2 := CC.cell 2 (v := .int .i64 (acc.getD 2 0 : Nat)) rfl
          have cf2 := CC.frozen 2
          have G6 := gbx HG.out G56 (by have := HA.out; omega)
          have ne1 : W2.heap.size ≠ W1.heap.size := by have := HA.out; omega
          have ne2 := ne1.symm
          have rc2 := hR6.c2
          have HC7 : Hid (Bo (w6.setCell ⟨W2.heap.size, 2, none⟩ (.int .i64 (n1 : Nat))) W2.heap.size 70 (arr4 (acc ++ [n1]))) := by
            have := CC.set 2 (.int .i64 (n1 : Nat))
            rw [arr4_set HE.out (by decide)] at this
            exact this
          have HB7 : Hid (Bo (w6.setCell ⟨W2.heap.size, 2, none⟩ (.int .i64 (n1 : Nat))) w.heap.size 24 #[.int .i64 0, .int .i64 0, .slice none 0 0, .int .i64 0]) := BB.set2 (by have := HA.out; omega)
          have HR7 : Hid (Dd (w6.setCell ⟨W2.heap.size, 2, none⟩ (.int .i64 (n1 : Nat))) W1.heap.size x r2 (!b2)) := hR6.set2 ne1
          have HG7 : Hid (w.grownBy (w6.setCell ⟨W2.heap.size, 2, none⟩ (.int .i64 (n1 : Nat))) none) := gb_new G6 (Nat.le_of_lt (Nat.lt_trans HA.out.1 HA.out.2.1)) _
          
          cases b2 with
          | false =>
            have HNO : Hid (¬ (acc.length = 2 ∧ false = true ∧ 65536 < n1)) := fun q => absurd q.2.1 (by decide)
            go_wp2
            go_roundw
            case rel =>
              exact ⟨_, acc ++ [n1], r2, by rw [List.length_append, HE.out]; rfl, hnx.out.1 HNO.out, hs2.out, HR7.out, HB7.out, HC7.out, HG7.out⟩
            case measure => simp [intOf]
          | true =>
            by_cases h6 : 65536 < n1
            · have h6' : (65536 : Int) < (n1 : Int) := by omega
              obtain ⟨z1, z2⟩ := hnx.out.2 ⟨HE.out, rfl, h6⟩
              have hh : (Pa.trR x.data.toList) = ([], [], false, false, r1) := by
                have e : Pa.hdR x.data.toList = Z := by rw [HHD.out, if_neg (by rw [z1]; simp)]
                unfold Pa.trR
                rw [e, if_neg (by rw [z1]; simp), z2]
              have e1 : Hid (paE x = 110) := by unfold Hid paE; rw [if_neg HZ.out, hh]; rfl
              have e2 : Hid (paP x = Pa.po x r1) := by unfold Hid paP; rw [if_neg HZ.out, hh]; rfl
              have BB7 := HB7.out
              have b70 := BB7.cell 0 (v := .int .i64 0) rfl
              have b71 := BB7.cell 1 (v := .int .i64 0) rfl
              have b72 := BB7.cell 2 (v := .slice none 0 0) rfl
              have b73 := BB7.cell 3 (v := .int .i64 0) rfl
              have b7f0 := BB7.frozen 0
              have b7f1 := BB7.frozen 1
              have b7f2 := BB7.frozen 2
              have b7f3 := BB7.frozen 3
              have b60 := BB.cell 0 (v := .int .i64 0) rfl
              have b61 := BB.cell 1 (v := .int .i64 0) rfl
              have b62 := BB.cell 2 (v := .slice none 0 0) rfl
              have b63 := BB.cell 3 (v := .int .i64 0) rfl
              have b6f0 := BB.frozen 0
              have b6f1 := BB.frozen 1
              have b6f2 := BB.frozen 2
              have b6f3 := BB.frozen 3
              have ne3 : W2.heap.size ≠ w.heap.size := by have := HA.out; omega
              have ne4 := ne3.symm
              clear hh h6
              go_wp2
              refine ret_c3 (g := w.heap.size) (t := 24) (cs := #[.int .i64 0, .int .i64 0, .slice none 0 0, .int .i64 0]) rfl HF.out infoTr rfl (by first | exact (((BB7.set 0 _).set 1 _).set 2 _).set 3 _ | exact BB7) rfl (PaPost.bad e1.out e2.out (by decide) (gb_new (gb_new (gb_new (gb_new HG7.out le _) le _) le _) le _))
            · have h6' : ¬ (65536 : Int) < (n1 : Int) := by omega
              have HNO : Hid (¬ (acc.length = 2 ∧ true = true ∧ 65536 < n1)) := fun q => h6 q.2.2
              go_wp2
              go_roundw
              case rel =>
                exact ⟨_, acc ++ [n1], r2, by rw [List.length_append, HE.out]; rfl, hnx.out.1 HNO.out, hs2.out, HR7.out, HB7.out, HC7.out, HG7.out⟩
              case measure => simp [intOf]
        · have e0 : ((acc.length : Nat) : Int) = 3 := by omega
          rw [e0]
          have HE : Hid (acc.length = 3) := hk
          clear hk e0
          go_wp2_with (first | (go_at_call 38; refine (kt _ HR.out).mono ?_; rintro e w5 ⟨rfl, hR5, hG5⟩; have rc5 := hR5.c1) | (go_at_call 39; refine (kn _ hR5).mono ?_; rintro e w6 ⟨rfl, hR6, hG6⟩; refine Hid.out ?_))
          refine Lib.hid ?_
          clear kt kn rc5
          have G56 := gb_one hG5 hG6
          have CC := HY.out.kept G56 (by have := HA.out; simp; omega)
          have BB := HX.out.kept G56 (by have := HA.out; simp; omega)
          have cc3 := CC.cell 3 (v := .int .i64 (acc.getD 3 0 : Nat)) rfl
          have cf3 := CC.frozen 3
          have G6 := gbx HG.out G56 (by have := HA.out; omega)
          have ne1 : W2.heap.size ≠ W1.heap.size := by have := HA.out; omega
          have ne2 := ne1.symm
          have rc2 := hR6.c2
          have HC7 : Hid (Bo (w6.setCell ⟨W2.heap.size, 3, none⟩ (.int .i64 (n1 : Nat))) W2.heap.size 70 (arr4 (acc ++ [n1]))) := by
            have := CC.set 3 (.int .i64 (n1 : Nat))
            rw [arr4_set HE.out (by decide)] at this
            exact this
          have HB7 : Hid (Bo (w6.setCell ⟨W2.heap.size, 3, none⟩ (.int .i64 (n1 : Nat))) w.heap.size 24 #[.int .i64 0, .int .i64 0, .slice none 0 0, .int .i64 0]) := BB.set2 (by have := HA.out; omega)
          have HR7 : Hid (Dd (w6.setCell ⟨W2.heap.size, 3, none⟩ (.int .i64 (n1 : Nat))) W1.heap.size x r2 (!b2)) := hR6.set2 ne1
          have HG7 : Hid (w.grownBy (w6.setCell ⟨W2.heap.size, 3, none⟩ (.int .i64 (n1 : Nat))) none) := gb_new G6 (Nat.le_of_lt (Nat.lt_trans HA.out.1 HA.out.2.1)) _
          clear CC BB hR5 hR6 hG5 hG6 G56 G6
          go_wp2
          go_roundw
          case rel =>
            exact ⟨_, acc ++ [n1], r2, by rw [List.length_append, HE.out]; rfl, hnx.out.1 (fun q => by have := HE.out; omega), hs2.out, HR7.out, HB7.out, HC7.out, HG7.out⟩
          case measure => simp [intOf]
      · have hl : acc.length = 4 := by have := hst.out.1; omega
        obtain ⟨⟨b, r3⟩, h3⟩ : ∃ Z, tkR bad [10] rr = Z := ⟨_, rfl⟩
        obtain ⟨f1, f2, f3⟩ := hst.out.end hl HHD.out h3
        have hs3 : Hid (Pa.Suf x r3) := by have := tkR_suf bad [10] rr; rw [h3] at this; exact hsx.out.of this
        have kt := dtakesX W1.heap.size x rr bad ⟨#[10]⟩ (by decide) b r3 h3 hsx.out hz2.out wr HR.out
        have hlt' : ¬ ((acc.length : Nat) : Int) < 4 := by omega
        obtain ⟨a0, a1, a2, a3, hacc⟩ : ∃ a b c d, acc = [a, b, c, d] := by
          match acc, hl with
          | [a, b, c, d], _ => exact ⟨a, b, c, d, rfl⟩
        have HF1 : Hid ((Pa.hdR x.data.toList).2.1 = b ∧ (Pa.hdR x.data.toList).2.2 = r3 ∧ (b = true → (Pa.hdR x.data.toList).1 = [a0, a1, a2, a3])) := ⟨f1, f2, by rw [← hacc]; exact f3⟩
        clear h3 hst hl f1 f2 f3 hl4
        go_wp2_with (first | (go_at_call 38; refine kt.mono ?_; rintro e w6 ⟨rfl, hR6, hG6⟩; refine Hid.out ?_))
        refine Lib.hid ?_
        clear kt hlt'
        have CC := HY.out.kept hG6 (by have := HA.out; simp; omega)
        have CC : Bo w6 W2.heap.size 70 #[.int .i64 (a0 : Nat), .int .i64 (a1 : Nat), .int .i64 (a2 : Nat), .int .i64 (a3 : Nat)] := by rw [hacc] at CC; exact CC
        have BB := HX.out.kept hG6 (by have := HA.out; simp; omega)
        have G6 := gbx HG.out hG6 (by have := HA.out; omega)
        have cc0 := CC.cell 0 (v := .int .i64 (a0 : Nat)) rfl
        have cc1 := CC.cell 1 (v := .int .i64 (a1 : Nat)) rfl
        have cc2 := CC.cell 2 (v := .int .i64 (a2 : Nat)) rfl
        have cc3 := CC.cell 3 (v := .int .i64 (a3 : Nat)) rfl
        obtain ⟨W7, hW7, sz7, g7, B7⟩ := boxn w6 #[.int .i64 (a0 : Nat), .int .i64 (a1 : Nat), .slice none 0 0, .int .i64 (a3 : Nat)] 24
        have G7 : Hid (w.grownBy W7 none) := gb_trans G6 g7
        have HC7 : Hid (Bo W7 W2.heap.size 70 #[.int .i64 (a0 : Nat), .int .i64 (a1 : Nat), .int .i64 (a2 : Nat), .int .i64 (a3 : Nat)]) := CC.kept g7 (by simp)
        have HB7 : Hid (Bo W7 w.heap.size 24 #[.int .i64 0, .int .i64 0, .slice none 0 0, .int .i64 0]) := BB.kept g7 (by simp)
        have HR7 : Hid (Dd W7 W1.heap.size x r3 (!b)) := hR6.kept g7 (by simp)
        have HT7 : Hid (Bo W7 w6.heap.size 24 #[.int .i64 (a0 : Nat), .int .i64 (a1 : Nat), .slice none 0 0, .int .i64 (a3 : Nat)]) := B7
        have HA7 : Hid (w.heap.size < W1.heap.size ∧ W1.heap.size < W2.heap.size ∧ W2.heap.size < w6.heap.size ∧ w6.heap.size < W7.heap.size) := by
          have h1 := HA.out
          have h2 := cell_lt cc0
          have h3 := sz7.out
          exact ⟨h1.1, h1.2.1, h2, by omega⟩
        clear HR hsx HX HY HG hacc CC BB G6 hR6 hG6 g7 B7 sz7
        go_wp2
        clear cc0 cc1 cc2 cc3
        cases b with
        | false =>
          have hh : (Pa.trR x.data.toList) = ([], [], false, false, r3) := by
            unfold Pa.trR
            rw [if_neg (by rw [HF1.out.1]; simp), HF1.out.2.1]
          have e1 : Hid (paE x = 110) := by unfold Hid paE; rw [if_neg HZ.out, hh]; rfl
          have e2 : Hid (paP x = Pa.po x r3) := by unfold Hid paP; rw [if_neg HZ.out, hh]; rfl
          clear hh
          go_loopw [10, 11] (fun v u wr => v = .bool true ∧ u = .int .i64 0 ∧ wr = W7) (fun _ _ _ => 0)
          case atStart => exact ⟨rfl, rfl, rfl⟩
          case round =>
            obtain ⟨rfl, rfl, hwr⟩ := hrel
            subst hwr
            have BBw := HB7.out
            have CCw := HC7.out
            have cc2 := CCw.cell 2 (v := .int .i64 (a2 : Nat)) rfl
            have x1 := HR7.out.c1
            have x2 := HR7.out.c2
            have bb0 := BBw.cell 0 (v := .int .i64 0) rfl
            have bb1 := BBw.cell 1 (v := .int .i64 0) rfl
            have bb2 := BBw.cell 2 (v := .slice none 0 0) rfl
            have bb3 := BBw.cell 3 (v := .int .i64 0) rfl
            have bbf0 := BBw.frozen 0
            have bbf1 := BBw.frozen 1
            have bbf2 := BBw.frozen 2
            have bbf3 := BBw.frozen 3
            have ne1 : w.heap.size ≠ W1.heap.size := by have := HA7.out; omega
            have ne2 := ne1.symm
            by_cases hc : 0 < a2
            · have hc' : (0 : Int) < (a2 : Int) := by omega
              clear hc
              go_wp2
              go_region
              all_goals
                go_wp2
                refine ret_c3 (g := w.heap.size) (t := 24) (cs := #[.int .i64 0, .int .i64 0, .slice none 0 0, .int .i64 0]) rfl HF.out infoTr rfl (by first | exact (((BBw.set 0 _).set 1 _).set 2 _).set 3 _ | exact BBw) rfl (PaPost.bad e1.out e2.out (by decide) (gb_drew (gb_new (gb_new (gb_new (gb_new G7.out le _) le _) le _) le _)))
            · have hc' : ¬ (0 : Int) < (a2 : Int) := by omega
              clear hc
              go_wp2
              go_region
              all_goals
                go_wp2
                refine ret_c3 (g := w.heap.size) (t := 24) (cs := #[.int .i64 0, .int .i64 0, .slice none 0 0, .int .i64 0]) rfl HF.out infoTr rfl (by first | exact (((BBw.set 0 _).set 1 _).set 2 _).set 3 _ | exact BBw) rfl (PaPost.bad e1.out e2.out (by decide) (gb_drew (gb_new (gb_new (gb_new (gb_new G7.out le _) le _) le _) le _)))
        | true =>
          obtain ⟨hn65, hX⟩ : a2 ≤ 65536 ∧ Pa.trR x.data.toList = ([a0, a1, a2, a3], (Pa.nsR a2 [] false r3).1, (Pa.nsR a2 [] false r3).2.1, (Pa.nsR a2 [] false r3).2.2.1 && (Pa.nsR a2 [] false r3).2.2.2.isEmpty, (Pa.nsR a2 [] false r3).2.2.2) := by
            obtain ⟨S, I, n, R, _, _, hn, _, hh, _⟩ := Pa.hdR_was HF1.out.1
            have h4 := HF1.out.2.2 rfl
            rw [h4] at hh
            simp only [List.cons.injEq, and_true] at hh
            obtain ⟨rfl, rfl, rfl, rfl⟩ := hh
            refine ⟨hn, ?_⟩
            unfold Pa.trR
            rw [if_pos HF1.out.1, h4, HF1.out.2.1]
            rfl
          obtain ⟨⟨xz, bz, Bz, rz⟩, hzz⟩ : ∃ Z, Pa.nsR a2 [] false r3 = Z := ⟨_, rfl⟩
          rw [hzz] at hX
          have HXX : Hid (Pa.trR x.data.toList = ([a0, a1, a2, a3], xz, bz, Bz && rz.isEmpty, rz)) := hX
          have HN65 : Hid (a2 ≤ 65536) := hn65
          have HN0 : Hid (NsD (xz, bz, Bz, rz) a2 false [] false r3) := ⟨fun _ => ⟨Nat.zero_le _, hzz⟩, fun q => absurd q (by decide)⟩
          clear hX hn65 hzz
          go_loopw [10, 11] (fun v10 v11 wr => ∃ (bad : Bool) (i : Nat) (xs : List (Nat × List Nat)) (ns : Bool) (rr : List UInt8) (fits : Bool) (np : Option Addr) (nc mm : Nat) (t : Nat → TN), v10 = .bool fits ∧ v11 = .int .i64 (i : Nat) ∧ Hid (i ≤ a2) ∧ Hid (NsD (xz, bz, Bz, rz) a2 bad xs ns rr) ∧ Hid (bad = false → i = xs.length ∧ fits = !ns) ∧ Hid (Pa.Suf x rr) ∧ Hid (Dd wr W1.heap.size x rr bad) ∧ Hid (Bo wr w.heap.size 24 #[.int .i64 0, .int .i64 0, .slice none 0 0, .int .i64 0]) ∧ Hid (Bo wr W2.heap.size 70 #[.int .i64 (a0 : Nat), .int .i64 (a1 : Nat), .int .i64 (a2 : Nat), .int .i64 (a3 : Nat)]) ∧ Hid (Bo wr w6.heap.size 24 #[.int .i64 (a0 : Nat), .int .i64 (a1 : Nat), .slice np mm nc, .int .i64 (a3 : Nat)]) ∧ Hid (bad = false → mm = xs.length ∧ As t xs ∧ wr.ownsRow W7.heap.size 69 2 (.slice np mm nc) mm (ndW t mm) ∧ Ks wr W7.heap.size t mm ∧ Inc t mm) ∧ Hid (w.grownBy wr none) ∧ Hid (W7.heap.size ≤ wr.heap.size)) (fun _ v11 _ => a2 - (intOf v11).toNat)
          case atStart => exact ⟨false, 0, [], false, r3, true, none, 0, 0, fun _ => ⟨0, none, 0, 0, fun _ => 0⟩, rfl, rfl, Nat.zero_le _, HN0.out, fun _ => ⟨rfl, rfl⟩, hs3.out, HR7.out, HB7.out, HC7.out, HT7.out, fun _ => ⟨rfl, fun i hi => absurd hi (Nat.not_lt_zero _), World.ownsRow_nil _ _ _ _, fun i hi => absurd hi (Nat.not_lt_zero _), fun i k _ hk => absurd hk (Nat.not_lt_zero _)⟩, G7.out, Nat.le_refl _⟩
          case round =>
            obtain ⟨bad, i, xs, ns, rr, fits, np, nc, mm, t, rfl, rfl, hia, hst, hif, hsx, HR, HX, HY, HTB, hown, HG, hsz⟩ := hrel
            clear HN0 hs3 HR7 HB7 HC7 HT7 G7
            have cc2 := HY.out.cell 2 (v := .int .i64 (a2 : Nat)) rfl
            have x1 := HR.out.c1
            have x2 := HR.out.c2
            by_cases hc : i < a2 ∧ bad = false
            · obtain ⟨hlt, rfl⟩ := hc
              obtain ⟨rfl, rfl⟩ := hif.out rfl
              obtain ⟨rfl, hAs0, own0, hKs0, hInc0⟩ := hown.out rfl
              have hInc : Hid (Inc t xs.length) := hInc0
              have hAs : Hid (As t xs) := hAs0
              have own : Hid (wr.ownsRow W7.heap.size 69 2 (.slice np xs.length nc) xs.length (ndW t xs.length)) := own0
              have hKs : Hid (Ks wr W7.heap.size t xs.length) := hKs0
              have hlt' : ((xs.length : Nat) : Int) < (a2 : Int) := by omega
              obtain ⟨⟨⟨st, ks⟩, bg, B, r1⟩, hnd⟩ : ∃ Z, Pa.ndR rr = Z := ⟨_, rfl⟩
              have HNX : Hid (NsD (xz, bz, Bz, rz) a2 (!B) (xs ++ [(st, ks)]) (ns || bg) r1) := hst.out.step hlt hnd
              have kb := dbranchC W1.heap.size x rr st ks bg B r1 hnd hsx.out hz2.out wr HR.out
              have hs1 : Hid (Pa.Suf x r1) := by have := Pa.ndR_suf rr; rw [hnd] at this; exact hsx.out.of this
              clear hnd hst hAs0 own0 hKs0 hInc0 hown hif
              go_wp2_with (first | (go_at_call 40; refine kb.mono ?_; rintro e w8 ⟨nn, kp, kn, kc, rfl, hR8, hG8, hq⟩; refine Hid.out ?_))
              refine Lib.hid ?_
              clear kb
              have m1 : IntKind.u8.wrap (nn : Int) = ((nn % 256 : Nat) : Int) := by rw [IntKind.wrap_u8]; omega
              obtain ⟨nm, hnm⟩ : ∃ nm, nn % 256 = nm := ⟨_, rfl⟩
              have HNM : Hid (nn % 256 = nm) := hnm
              rw [hnm] at m1
              clear hnm
              obtain ⟨W9, hW9, sz9, g9, B9⟩ := boxn w8 #[.int .u8 (nm : Nat), .slice kp kn kc] 69
              by_cases h255 : 255 < nn
              · have h255' : (255 : Int) < (nn : Int) := by omega
                have HPL : Hid (∀ i, i < xs.length → ∀ p, (Value.slice (t i).kp (t i).kn (t i).kc).ownBlock = some p → p < wr.heap.size) := fun i hi p hp => ((hKs.out i hi).lt p hp).2
                have HQL : Hid (B = true → ∀ q, (Value.slice kp kn kc).ownBlock = some q → wr.heap.size ≤ q) := fun hb q hqq => ((hq hb).2.2.2.lt q hqq).1
                have own9 := (own_g own.out hG8 (by have := HA7.out; omega)).kept g9 (Classical.em _)
                have K9 := (hKs.out.kept hG8 (by intro b hb; cases hb; have := HA7.out; omega)).kept g9 (by simp)
                have nw : ∀ l u, [Value.int .u8 (nm : Nat), .slice kp kn kc][l]? = some u → W9.cell? ((⟨w8.heap.size, 0, none⟩ : Addr).add l) = some u := World.news_of_block (cs := #[.int .u8 (nm : Nat), .slice kp kn kc]) B9
                have sz79 : W7.heap.size ≤ W9.heap.size := Nat.le_trans hsz.out (Nat.le_trans hG8.size g9.size)
                have TT8 := HTB.out.kept hG8 (by have := HA7.out; simp; omega)
                have tt2 := TT8.cell 2 (v := .slice np xs.length nc) rfl
                have hxl : xs.length < 65536 := by have := HN65.out; omega
                go_wp2_with (first | (at_builtin; refine wpList_append_lies _ rfl _ _ 22 rfl W7.heap.size 69 ib (.agg #[.int .u8 0, .slice none 0 0]) 2 32 underBS HIB.out.1 HIB.out.2.1 HIB.out.2.2.1 HIB.out.2.2.2 rfl (by decide) _ xs.length _ rfl own9 ⟨w8.heap.size, 0, none⟩ 1 1 [.int .u8 (nm : Nat), .slice kp kn kc] rfl rfl nw (by intro u hu; simp at hu; rcases hu with rfl | rfl <;> rfl) (by decide) (by unfold maxLen; omega) (by omega) sz79 _ rfl ?_; intro ga qa wa owna gka ata lta; refine Hid.out ?_))
                refine Lib.hid ?_
                clear hxl tt2
                have hob : ∀ b, (Value.slice np xs.length nc).ownBlock = some b → W7.heap.size ≤ b := fun b hb => (own9.lt b hb).1
                have Xa := ((HX.out.kept hG8 (by have := HA7.out; simp; omega)).kept g9 (by simp)).kept gka (fun e => by have := hob _ e.symm; have := HA7.out; omega)
                have Ya := ((HY.out.kept hG8 (by have := HA7.out; simp; omega)).kept g9 (by simp)).kept gka (fun e => by have := hob _ e.symm; have := HA7.out; omega)
                have Ta := (TT8.kept g9 (by simp)).kept gka (fun e => by have := hob _ e.symm; have := HA7.out; omega)
                have Ra := (hR8.kept g9 (by simp)).kept gka (fun e => by have := hob _ e.symm; have := HA7.out; omega)
                have Ka := K9.push own9 gka
                have Ga : w.grownBy wa none := (gb_trans (gbx HG.out hG8 (by have := HA7.out; omega)) g9).andThen gka (fun b hb => .inl (by have := hob b hb; have := HA7.out; omega))
                have hqa : B = true → wa.ownsRow W7.heap.size 3 1 (.slice kp kn kc) kn (kidsV (lf ks) kn) := fun hb => by
                  have o1 := Joins.ownsRow_le ((hq hb).2.2.2.kept g9 (Classical.em _)) hsz.out
                  exact o1.kept gka (own_two (n := 0) own9 o1)
                have ta2 := Ta.cell 2 (v := .slice np xs.length nc) rfl
                have tf2 := Ta.frozen 2
                obtain ⟨WB, hWB⟩ : ∃ WB, wa.setCell ⟨w6.heap.size, 2, none⟩ (.slice (some ⟨ga, 0, none⟩) (xs.length + 1) qa) = WB := ⟨_, rfl⟩
                have gaB : wa.grownBy WB (some w6.heap.size) := hWB ▸ gb_set (World.grownBy.refl wa _) _ _
                have HEL : Hid ((xs ++ [(st, ks)]).length = xs.length + 1) := by unfold Hid; simp
                have HRB : Hid (Dd WB W1.heap.size x r1 (!B)) := hWB ▸ Ra.set2 (by have := HA7.out; omega)
                have HXB : Hid (Bo WB w.heap.size 24 #[.int .i64 0, .int .i64 0, .slice none 0 0, .int .i64 0]) := hWB ▸ Xa.set2 (by have := HA7.out; omega)
                have HYB : Hid (Bo WB W2.heap.size 70 #[.int .i64 (a0 : Nat), .int .i64 (a1 : Nat), .int .i64 (a2 : Nat), .int .i64 (a3 : Nat)]) := hWB ▸ Ya.set2 (by have := HA7.out; omega)
                have HTB2 : Hid (Bo WB w6.heap.size 24 #[.int .i64 (a0 : Nat), .int .i64 (a1 : Nat), .slice (some ⟨ga, 0, none⟩) (xs.length + 1) qa, .int .i64 (a3 : Nat)]) := hWB ▸ Ta.set 2 _
                have HOB : Hid (WB.ownsRow W7.heap.size 69 2 (.slice (some ⟨ga, 0, none⟩) (xs.length + 1) qa) (xs.length + 1) (ndW t xs.length ++ [.int .u8 (nm : Nat), .slice kp kn kc])) := owna.kept gaB (.inr fun e => by have := (owna.lt _ e).1; have := HA7.out; omega)
                have HKB : Hid (Ks WB W7.heap.size t xs.length) := Ka.kept gaB (by intro b hb; cases hb; have := HA7.out; omega)
                have HQB : Hid (B = true → nm = st ∧ kn = ks.length ∧ WB.ownsRow W7.heap.size 3 1 (.slice kp kn kc) kn (kidsV (lf ks) kn)) := fun hb => ⟨by rw [← HNM.out]; exact (hq hb).1, (hq hb).2.2.1, (hqa hb).kept gaB (by
                  by_cases e : (Value.slice kp kn kc).ownBlock = some w6.heap.size
                  · have := ((hqa hb).lt _ e).1; have := HA7.out; omega
                  · exact .inr e)⟩
                have HGB : Hid (w.grownBy WB none) := hWB ▸ gb_new Ga (by have := HA7.out; omega : w.heap.size ≤ w6.heap.size) _
                have HZB : Hid (W7.heap.size ≤ WB.heap.size) := Nat.le_trans sz79 (Nat.le_trans gka.size gaB.size)
                have HFT : Hid (B = true → false = (!(ns || bg))) := fun hb => by
                  have h9 := (hq hb).2.1
                  rw [← h9, decide_eq_true (show 256 ≤ nn by have := h255; omega), Bool.or_true]; rfl
                clear own9 K9 nw TT8 Xa Ya Ta Ra Ka Ga hqa gaB owna gka hob ata lta hq hG8 hR8 g9 B9 h255
                have m5 : IntKind.i64.wrap (((xs.length : Nat) : Int) + 1) = ((xs.length + 1 : Nat) : Int) := by rw [IntKind.wrap_i64]; have := HN65.out; omega
                go_wp2
                go_roundw
                case rel =>
                  let t' : Nat → TN := fun k => if k = xs.length then ⟨st, kp, ks.length, kc, lf ks⟩ else t k
                  have ht : ∀ k, k < xs.length → t k = t' k := fun k hk => by simp [t', show k ≠ xs.length by omega]
                  have ht2 : t' xs.length = ⟨st, kp, ks.length, kc, lf ks⟩ := by simp [t']
                  refine ⟨!B, xs.length + 1, xs ++ [(st, ks)], ns || bg, r1, false, some ⟨ga, 0, none⟩, qa, xs.length + 1, t', rfl, (by first | rfl | (have h65 := HN65.out; go_num)), hlt, HNX.out, ?_, hs1.out, HRB.out, HXB.out, HYB.out, HTB2.out, ?_, HGB.out, HZB.out⟩
                  · intro hb
                    have hb : B = true := by simpa using hb
                    exact ⟨HEL.out.symm, HFT.out hb⟩
                  · intro hb
                    have hb : B = true := by simpa using hb
                    obtain ⟨f1, f2, f3⟩ := HQB.out hb
                    have f4 := HQL.out hb
                    subst f1 f2
                    refine ⟨HEL.out.symm, ?_, ?_, ?_, hInc.out.step ht HPL.out (by rw [ht2]; exact f4)⟩
                    · intro j hj
                      rw [HEL.out] at hj
                      by_cases e : j = xs.length
                      · subst e
                        rw [ht2]
                        have : (xs ++ [(nm, ks)]).getD xs.length (0, []) = (nm, ks) := by simp
                        rw [this]
                        exact ⟨rfl, rfl, rfl⟩
                      · have hj' : j < xs.length := by omega
                        rw [← ht j hj']
                        have : (xs ++ [(nm, ks)]).getD j (0, []) = xs.getD j (0, []) := by rw [List.getD_eq_getElem?_getD, List.getElem?_append_left hj', ← List.getD_eq_getElem?_getD]
                        rw [this]
                        exact hAs.out j hj'
                    · rw [ndW, ← ndW_congr ht, ht2]
                      exact HOB.out
                    · intro j hj
                      by_cases e : j = xs.length
                      · subst e
                        rw [ht2]
                        exact f3
                      · rw [← ht j (by omega)]
                        exact HKB.out j (by omega)
                case measure => have h65 := HN65.out; simp [intOf]; omega
              · have h255' : ¬ (255 : Int) < (nn : Int) := by omega
                have HPL : Hid (∀ i, i < xs.length → ∀ p, (Value.slice (t i).kp (t i).kn (t i).kc).ownBlock = some p → p < wr.heap.size) := fun i hi p hp => ((hKs.out i hi).lt p hp).2
                have HQL : Hid (B = true → ∀ q, (Value.slice kp kn kc).ownBlock = some q → wr.heap.size ≤ q) := fun hb q hqq => ((hq hb).2.2.2.lt q hqq).1
                have own9 := (own_g own.out hG8 (by have := HA7.out; omega)).kept g9 (Classical.em _)
                have K9 := (hKs.out.kept hG8 (by intro b hb; cases hb; have := HA7.out; omega)).kept g9 (by simp)
                have nw : ∀ l u, [Value.int .u8 (nm : Nat), .slice kp kn kc][l]? = some u → W9.cell? ((⟨w8.heap.size, 0, none⟩ : Addr).add l) = some u := World.news_of_block (cs := #[.int .u8 (nm : Nat), .slice kp kn kc]) B9
                have sz79 : W7.heap.size ≤ W9.heap.size := Nat.le_trans hsz.out (Nat.le_trans hG8.size g9.size)
                have TT8 := HTB.out.kept hG8 (by have := HA7.out; simp; omega)
                have tt2 := TT8.cell 2 (v := .slice np xs.length nc) rfl
                have hxl : xs.length < 65536 := by have := HN65.out; omega
                go_wp2_with (first | (at_builtin; refine wpList_append_lies _ rfl _ _ 22 rfl W7.heap.size 69 ib (.agg #[.int .u8 0, .slice none 0 0]) 2 32 underBS HIB.out.1 HIB.out.2.1 HIB.out.2.2.1 HIB.out.2.2.2 rfl (by decide) _ xs.length _ rfl own9 ⟨w8.heap.size, 0, none⟩ 1 1 [.int .u8 (nm : Nat), .slice kp kn kc] rfl rfl nw (by intro u hu; simp at hu; rcases hu with rfl | rfl <;> rfl) (by decide) (by unfold maxLen; omega) (by omega) sz79 _ rfl ?_; intro ga qa wa owna gka ata lta; refine Hid.out ?_))
                refine Lib.hid ?_
                clear hxl tt2
                have hob : ∀ b, (Value.slice np xs.length nc).ownBlock = some b → W7.heap.size ≤ b := fun b hb => (own9.lt b hb).1
                have Xa := ((HX.out.kept hG8 (by have := HA7.out; simp; omega)).kept g9 (by simp)).kept gka (fun e => by have := hob _ e.symm; have := HA7.out; omega)
                have Ya := ((HY.out.kept hG8 (by have := HA7.out; simp; omega)).kept g9 (by simp)).kept gka (fun e => by have := hob _ e.symm; have := HA7.out; omega)
                have Ta := (TT8.kept g9 (by simp)).kept gka (fun e => by have := hob _ e.symm; have := HA7.out; omega)
                have Ra := (hR8.kept g9 (by simp)).kept gka (fun e => by have := hob _ e.symm; have := HA7.out; omega)
                have Ka := K9.push own9 gka
                have Ga : w.grownBy wa none := (gb_trans (gbx HG.out hG8 (by have := HA7.out; omega)) g9).andThen gka (fun b hb => .inl (by have := hob b hb; have := HA7.out; omega))
                have hqa : B = true → wa.ownsRow W7.heap.size 3 1 (.slice kp kn kc) kn (kidsV (lf ks) kn) := fun hb => by
                  have o1 := Joins.ownsRow_le ((hq hb).2.2.2.kept g9 (Classical.em _)) hsz.out
                  exact o1.kept gka (own_two (n := 0) own9 o1)
                have ta2 := Ta.cell 2 (v := .slice np xs.length nc) rfl
                have tf2 := Ta.frozen 2
                obtain ⟨WB, hWB⟩ : ∃ WB, wa.setCell ⟨w6.heap.size, 2, none⟩ (.slice (some ⟨ga, 0, none⟩) (xs.length + 1) qa) = WB := ⟨_, rfl⟩
                have gaB : wa.grownBy WB (some w6.heap.size) := hWB ▸ gb_set (World.grownBy.refl wa _) _ _
                have HEL : Hid ((xs ++ [(st, ks)]).length = xs.length + 1) := by unfold Hid; simp
                have HRB : Hid (Dd WB W1.heap.size x r1 (!B)) := hWB ▸ Ra.set2 (by have := HA7.out; omega)
                have HXB : Hid (Bo WB w.heap.size 24 #[.int .i64 0, .int .i64 0, .slice none 0 0, .int .i64 0]) := hWB ▸ Xa.set2 (by have := HA7.out; omega)
                have HYB : Hid (Bo WB W2.heap.size 70 #[.int .i64 (a0 : Nat), .int .i64 (a1 : Nat), .int .i64 (a2 : Nat), .int .i64 (a3 : Nat)]) := hWB ▸ Ya.set2 (by have := HA7.out; omega)
                have HTB2 : Hid (Bo WB w6.heap.size 24 #[.int .i64 (a0 : Nat), .int .i64 (a1 : Nat), .slice (some ⟨ga, 0, none⟩) (xs.length + 1) qa, .int .i64 (a3 : Nat)]) := hWB ▸ Ta.set 2 _
                have HOB : Hid (WB.ownsRow W7.heap.size 69 2 (.slice (some ⟨ga, 0, none⟩) (xs.length + 1) qa) (xs.length + 1) (ndW t xs.length ++ [.int .u8 (nm : Nat), .slice kp kn kc])) := owna.kept gaB (.inr fun e => by have := (owna.lt _ e).1; have := HA7.out; omega)
                have HKB : Hid (Ks WB W7.heap.size t xs.length) := Ka.kept gaB (by intro b hb; cases hb; have := HA7.out; omega)
                have HQB : Hid (B = true → nm = st ∧ kn = ks.length ∧ WB.ownsRow W7.heap.size 3 1 (.slice kp kn kc) kn (kidsV (lf ks) kn)) := fun hb => ⟨by rw [← HNM.out]; exact (hq hb).1, (hq hb).2.2.1, (hqa hb).kept gaB (by
                  by_cases e : (Value.slice kp kn kc).ownBlock = some w6.heap.size
                  · have := ((hqa hb).lt _ e).1; have := HA7.out; omega
                  · exact .inr e)⟩
                have HGB : Hid (w.grownBy WB none) := hWB ▸ gb_new Ga (by have := HA7.out; omega : w.heap.size ≤ w6.heap.size) _
                have HZB : Hid (W7.heap.size ≤ WB.heap.size) := Nat.le_trans sz79 (Nat.le_trans gka.size gaB.size)
                have HFT : Hid (B = true → (!ns) = (!(ns || bg))) := fun hb => by
                  have h9 := (hq hb).2.1
                  rw [← h9, decide_eq_false (show ¬ 256 ≤ nn by have := h255; omega), Bool.or_false]
                clear own9 K9 nw TT8 Xa Ya Ta Ra Ka Ga hqa gaB owna gka hob ata lta hq hG8 hR8 g9 B9 h255
                have m5 : IntKind.i64.wrap (((xs.length : Nat) : Int) + 1) = ((xs.length + 1 : Nat) : Int) := by rw [IntKind.wrap_i64]; have := HN65.out; omega
                go_wp2
                go_roundw
                case rel =>
                  let t' : Nat → TN := fun k => if k = xs.length then ⟨st, kp, ks.length, kc, lf ks⟩ else t k
                  have ht : ∀ k, k < xs.length → t k = t' k := fun k hk => by simp [t', show k ≠ xs.length by omega]
                  have ht2 : t' xs.length = ⟨st, kp, ks.length, kc, lf ks⟩ := by simp [t']
                  refine ⟨!B, xs.length + 1, xs ++ [(st, ks)], ns || bg, r1, (!ns), some ⟨ga, 0, none⟩, qa, xs.length + 1, t', rfl, (by first | rfl | (have h65 := HN65.out; go_num)), hlt, HNX.out, ?_, hs1.out, HRB.out, HXB.out, HYB.out, HTB2.out, ?_, HGB.out, HZB.out⟩
                  · intro hb
                    have hb : B = true := by simpa using hb
                    exact ⟨HEL.out.symm, HFT.out hb⟩
                  · intro hb
                    have hb : B = true := by simpa using hb
                    obtain ⟨f1, f2, f3⟩ := HQB.out hb
                    have f4 := HQL.out hb
                    subst f1 f2
                    refine ⟨HEL.out.symm, ?_, ?_, ?_, hInc.out.step ht HPL.out (by rw [ht2]; exact f4)⟩
                    · intro j hj
                      rw [HEL.out] at hj
                      by_cases e : j = xs.length
                      · subst e
                        rw [ht2]
                        have : (xs ++ [(nm, ks)]).getD xs.length (0, []) = (nm, ks) := by simp
                        rw [this]
                        exact ⟨rfl, rfl, rfl⟩
                      · have hj' : j < xs.length := by omega
                        rw [← ht j hj']
                        have : (xs ++ [(nm, ks)]).getD j (0, []) = xs.getD j (0, []) := by rw [List.getD_eq_getElem?_getD, List.getElem?_append_left hj', ← List.getD_eq_getElem?_getD]
                        rw [this]
                        exact hAs.out j hj'
                    · rw [ndW, ← ndW_congr ht, ht2]
                      exact HOB.out
                    · intro j hj
                      by_cases e : j = xs.length
                      · subst e
                        rw [ht2]
                        exact f3
                      · rw [← ht j (by omega)]
                        exact HKB.out j (by omega)
                case measure => have h65 := HN65.out; simp [intOf]; omega
            · have BBw := HX.out
              have bb0 := BBw.cell 0 (v := .int .i64 0) rfl
              have bb1 := BBw.cell 1 (v := .int .i64 0) rfl
              have bb2 := BBw.cell 2 (v := .slice none 0 0) rfl
              have bb3 := BBw.cell 3 (v := .int .i64 0) rfl
              have bbf0 := BBw.frozen 0
              have bbf1 := BBw.frozen 1
              have bbf2 := BBw.frozen 2
              have bbf3 := BBw.frozen 3
              have ne1 : w.heap.size ≠ W1.heap.size := by have := HA7.out; omega
              have ne2 := ne1.symm
              cases bad with
              | true =>
                obtain ⟨z1, z2⟩ := hst.out.2 rfl
                have z1 : Bz = false := z1
                have z2 : rz = rr := z2
                have e1 : Hid (paE x = 110) := by unfold Hid paE; rw [if_neg HZ.out, HXX.out, if_pos (by rw [z1]; rfl)]
                have e2 : Hid (paP x = Pa.po x rr) := by unfold Hid paP; rw [if_neg HZ.out, HXX.out, if_pos (by rw [z1]; rfl), z2]
                clear z1 z2 hst hif hown
                by_cases hci : i < a2
                · have hc' : ((i : Nat) : Int) < (a2 : Int) := by omega
                  clear hc hci
                  go_wp2
                  go_region
                  all_goals
                    go_wp2
                    refine ret_c3 (g := w.heap.size) (t := 24) (cs := #[.int .i64 0, .int .i64 0, .slice none 0 0, .int .i64 0]) rfl HF.out infoTr rfl (by first | exact (((BBw.set 0 _).set 1 _).set 2 _).set 3 _ | exact BBw) rfl (PaPost.bad e1.out e2.out (by decide) (gb_drew (gb_new (gb_new (gb_new (gb_new HG.out le _) le _) le _) le _)))
                · have hc' : ¬ ((i : Nat) : Int) < (a2 : Int) := by omega
                  clear hc hci
                  go_wp2
                  go_region
                  all_goals
                    go_wp2
                    refine ret_c3 (g := w.heap.size) (t := 24) (cs := #[.int .i64 0, .int .i64 0, .slice none 0 0, .int .i64 0]) rfl HF.out infoTr rfl (by first | exact (((BBw.set 0 _).set 1 _).set 2 _).set 3 _ | exact BBw) rfl (PaPost.bad e1.out e2.out (by decide) (gb_drew (gb_new (gb_new (gb_new (gb_new HG.out le _) le _) le _) le _)))
              | false =>
                have hge : i = a2 := by
                  have h1 := hia.out
                  rcases Nat.lt_or_ge i a2 with q | q
                  · exact absurd ⟨q, rfl⟩ hc
                  · omega
                obtain ⟨hi, rfl⟩ := hif.out rfl
                obtain ⟨rfl, hAs, own, hKs, hInc⟩ := hown.out rfl
                have hzz := hst.out.done (by rw [← hi, hge])
                simp only [Prod.mk.injEq] at hzz
                obtain ⟨rfl, rfl, rfl, rfl⟩ := hzz
                have hc' : ¬ ((i : Nat) : Int) < (a2 : Int) := by omega
                have hlen : a2 = xz.length := by rw [← hge, hi]
                clear hst hif hown hc
                cases rz with
                | cons c q =>
                  have e1 : Hid (paE x = 110) := by unfold Hid paE; rw [if_neg HZ.out, HXX.out, if_pos (by rfl)]
                  have e2 : Hid (paP x = Pa.po x (c :: q)) := by unfold Hid paP; rw [if_neg HZ.out, HXX.out, if_pos (by rfl)]
                  have hp : ((Pa.po x (c :: q) : Nat) : Int) < (x.size : Int) := by have := (Pa.po_cons hsx.out).1; omega
                  clear hge hi hlen hAs own hKs
                  go_wp2
                  go_region
                  all_goals
                    go_wp2
                    refine ret_c3 (g := w.heap.size) (t := 24) (cs := #[.int .i64 0, .int .i64 0, .slice none 0 0, .int .i64 0]) rfl HF.out infoTr rfl (by first | exact (((BBw.set 0 _).set 1 _).set 2 _).set 3 _ | exact BBw) rfl (PaPost.bad e1.out e2.out (by decide) (gb_drew (gb_new (gb_new (gb_new (gb_new HG.out le _) le _) le _) le _)))
                | nil =>
                  rw [Pa.po_nil] at x1
                  have e2 : Hid (paP x = 0) := by unfold Hid paP; rw [if_neg HZ.out, HXX.out]; rfl
                  cases bz with
                  | true =>
                    have e1 : Hid (paE x = 110) := by unfold Hid paE; rw [if_neg HZ.out, HXX.out]; rfl
                    clear hge hi hlen hAs own hKs
                    go_wp2
                    refine ret_c3 (g := w.heap.size) (t := 24) (cs := #[.int .i64 0, .int .i64 0, .slice none 0 0, .int .i64 0]) rfl HF.out infoTr rfl (by first | exact (((BBw.set 0 _).set 1 _).set 2 _).set 3 _ | exact BBw) rfl (PaPost.bad e1.out e2.out (by decide) (gb_new (gb_new (gb_new (gb_new HG.out le _) le _) le _) le _))
                  | false =>
                    have hw := Pa.trR_was (r := x.data.toList) (by rw [HXX.out]; rfl) (by rw [HXX.out])
                    rw [HXX.out] at hw
                    have hok : ∀ y ∈ xz, Pa.NdOk y := by
                      obtain ⟨_, _, _, _, _, _, _, _, _, _, h, _⟩ := hw
                      exact h
                    have hAA : AsA (cutT t xz.length) xz := As.all hAs
                    have own4 : wr.ownsRow W7.heap.size 69 2 (.slice np xz.length nc) xz.length (ndW (cutT t xz.length) xz.length) := by rw [ndW_cut]; exact own
                    have K4 : Ks wr W7.heap.size (cutT t xz.length) xz.length := hKs.cut
                    obtain ⟨gN, hsp, hTn⟩ := own_tn own4 K4
                    obtain ⟨u, hu⟩ : ∃ u, cutT t xz.length = u := ⟨_, rfl⟩
                    have HIN : Hid (Inc u xz.length) := by rw [← hu]; exact hInc.cut
                    rw [hu] at hAA own4 K4 hTn
                    have hck := refCheckC (a0 : Nat) (a1 : Nat) (a3 : Nat) np gN 0 xz.length nc u hsp (hAA.lt hok) wr hTn
                    have HCI : CkO [a0, a1, a2, a3] xz ↔ CkOk (a0 : Nat) (a1 : Nat) xz.length (a3 : Nat) u := by
                      rw [hlen]
                      exact ⟨fun h => ck_congr (fun j _ => (tnX_as xz).tne hAA j) h, fun h => ck_congr (fun j _ => hAA.tne (tnX_as xz) j) h⟩
                    have HO : Hid (wr.ownsRow W7.heap.size 69 2 (.slice np xz.length nc) xz.length (ndW u xz.length)) := own4
                    have HKK : Hid (Ks wr W7.heap.size u xz.length) := K4
                    have HAAH : Hid (AsA u xz ∧ a2 = xz.length) := ⟨hAA, hlen⟩
                    have HSP : Hid (0 < xz.length → np = some ⟨gN, 0, none⟩) := hsp
                    have TTw := HTB.out
                    have tt0 := TTw.cell 0 (v := .int .i64 (a0 : Nat)) rfl
                    have tt1 := TTw.cell 1 (v := .int .i64 (a1 : Nat)) rfl
                    have tt2 := TTw.cell 2 (v := .slice np xz.length nc) rfl
                    have tt3 := TTw.cell 3 (v := .int .i64 (a3 : Nat)) rfl
                    clear hw hok hAs own hKs hAA own4 K4 hTn hu hsp hge hi hlen
                    by_cases hcc : CkOk (a0 : Nat) (a1 : Nat) xz.length (a3 : Nat) u
                    · have e1 : Hid (paE x = 0) := by unfold Hid paE; rw [if_neg HZ.out, HXX.out, if_neg (by simp)]; exact if_pos ⟨rfl, HCI.2 hcc⟩
                      rw [if_pos hcc] at hck
                      have HCC : Hid (CkOk (a0 : Nat) (a1 : Nat) xz.length (a3 : Nat) u) := hcc
                      clear HCI hcc
                      go_wp2_with (first | (go_at_call 35; refine hck.mono ?_; rintro e w9 ⟨rfl, hG9⟩; have B9 := HX.out.kept hG9 (by simp); have T9 := HTB.out.kept hG9 (by simp); have p0 := B9.cell 0 (v := .int .i64 0) rfl; have p1 := B9.cell 1 (v := .int .i64 0) rfl; have p2 := B9.cell 2 (v := .slice none 0 0) rfl; have p3 := B9.cell 3 (v := .int .i64 0) rfl; have pf0 := B9.frozen 0; have pf1 := B9.frozen 1; have pf2 := B9.frozen 2; have pf3 := B9.frozen 3; have q0 := T9.cell 0 (v := .int .i64 (a0 : Nat)) rfl; have q1 := T9.cell 1 (v := .int .i64 (a1 : Nat)) rfl; have q2 := T9.cell 2 (v := .slice np xz.length nc) rfl; have q3 := T9.cell 3 (v := .int .i64 (a3 : Nat)) rfl))
                      have le2 : w.heap.size ≤ W7.heap.size := by have := HA7.out; omega
                      refine ret_c3 (g := w.heap.size) (t := 24) (cs := #[.int .i64 (a0 : Nat), .int .i64 (a1 : Nat), .slice np xz.length nc, .int .i64 (a3 : Nat)]) rfl HF.out infoTr rfl ((((B9.set 0 _).set 1 _).set 2 _).set 3 _) rfl (PaPost.good e1.out e2.out ?_ ?_)
                      · exact gb_new (gb_new (gb_new (gb_new (gb_trans HG.out hG9) le _) le _) le _) le _
                      · have hn0 : 0 < xz.length := by have h1 := HCC.out.2.2.1; have h2 := HCC.out.2.2.2.1; omega
                        obtain rfl := HSP.out hn0
                        have gs : ∀ X, w9.grownBy X (some w.heap.size) → X.ownsRow w.heap.size 69 2 (.slice (some ⟨gN, 0, none⟩) xz.length nc) xz.length (ndW u xz.length) ∧ Ks X w.heap.size u xz.length := fun X hX => by
                          have o5 := (HO.out.kept hG9 (Classical.em _))
                          have k5 := HKK.out.kept hG9 (by simp)
                          refine ⟨Joins.ownsRow_le (o5.kept hX (.inr fun e => by have := (o5.lt _ e).1; have := HA7.out; omega)) le2, fun i hi => Joins.ownsRow_le ((k5.kept hX (by intro b hb; cases hb; have := HA7.out; omega)) i hi) le2⟩
                        obtain ⟨o6, k6⟩ := gs _ (gb_set (gb_set (gb_set (gb_set (World.grownBy.refl w9 _) _ _) _ _) _ _) _ _)
                        unfold PaT
                        rw [HXX.out]
                        exact ⟨a0, a1, a3, xz.length, nc, gN, u, rfl, by rw [HAAH.out.2], rfl, HAAH.out.1, HCC.out, o6, k6, HIN.out⟩
                    · have e1 : Hid (paE x = 110) := by unfold Hid paE; rw [if_neg HZ.out, HXX.out, if_neg (by simp)]; exact if_neg fun q => hcc (HCI.1 q.2)
                      rw [if_neg hcc] at hck
                      clear HCI hcc
                      go_wp2_with (first | (go_at_call 35; refine hck.mono ?_; rintro e w9 ⟨rfl, hG9⟩; have B9 := HX.out.kept hG9 (by simp); have p0 := B9.cell 0 (v := .int .i64 0) rfl; have p1 := B9.cell 1 (v := .int .i64 0) rfl; have p2 := B9.cell 2 (v := .slice none 0 0) rfl; have p3 := B9.cell 3 (v := .int .i64 0) rfl; have pf0 := B9.frozen 0; have pf1 := B9.frozen 1; have pf2 := B9.frozen 2; have pf3 := B9.frozen 3))
                      refine ret_c3 (g := w.heap.size) (t := 24) (cs := #[.int .i64 0, .int .i64 0, .slice none 0 0, .int .i64 0]) rfl HF.out infoTr rfl (by first | exact (((B9.set 0 _).set 1 _).set 2 _).set 3 _ | exact B9) rfl (PaPost.bad e1.out e2.out (by decide) (gb_new (gb_new (gb_new (gb_new (gb_trans HG.out hG9) le _) le _) le _) le _))
end Rr
end Go.Proofs.YteaionmjbkildabDoor
namespace Go.Proofs.YteaionmjbkildabDoor
open Go.RowKit
set_option linter.unusedVariables false
set_option linter.unusedSimpArgs false
set_option maxRecDepth 100000
namespace Rr
theorem pa_ok {x : ByteArray} (h : paE x = 0) : x.size ≤ 1048576 ∧ (Pa.trR x.data.toList).2.2.2.1 = true ∧ (Pa.trR x.data.toList).2.2.1 = false := by
  unfold paE at h
  by_cases h1 : 1048576 < x.size
  · rw [if_pos h1] at h; exact absurd h (by decide)
  · rw [if_neg h1] at h
    by_cases h2 : (Pa.trR x.data.toList).2.2.2.1 = false
    · rw [if_pos h2] at h; exact absurd h (by decide)
    · rw [if_neg h2] at h
      refine ⟨by omega, by simpa using h2, ?_⟩
      by_cases h3 : (Pa.trR x.data.toList).2.2.1 = false
      · exact h3
      · rw [if_neg (fun q => h3 q.1)] at h; exact absurd h (by decide)
/-- A tree's rows. -/
def Tq (w : World) (B n : Nat) (sp : Option Addr) (c : Nat) (t : Nat → TN) : Prop := w.ownsRow B 69 2 (.slice sp n c) n (ndW t n) ∧ Ks w B t n
theorem Tq.kept {w w' : World} {B n c : Nat} {sp : Option Addr} {t : Nat → TN} (h : Tq w B n sp c t) (g : w.grownBy w' none) : Tq w' B n sp c t := ⟨h.1.kept g (Classical.em _), h.2.kept g (by simp)⟩
theorem Tq.le {w : World} {B B' n c : Nat} {sp : Option Addr} {t : Nat → TN} (h : Tq w B n sp c t) (g : B' ≤ B) : Tq w B' n sp c t := ⟨Joins.ownsRow_le h.1 g, fun i hi => Joins.ownsRow_le (h.2 i hi) g⟩
theorem Gq.row {B b : Nat} {w w1 : World} (h : Gq B b w w1) {cs : Array Value} (hbx : Bo w b 39 cs) {B' e' s n : Nat} {v : Value} {xs : List Value} (ho : w.ownsRow B' e' s v n xs) (h1 : e' ≠ 24) (h2 : e' ≠ 39) : w1.ownsRow B' e' s v n xs := by
  refine ⟨ho.1, ?_⟩
  rcases ho.2 with q | ⟨g, cap, cur, q1, q2, q3, q4⟩
  · exact .inl q
  · refine .inr ⟨g, cap, cur, q1, q2, h.kept g _ q3 (fun e => ?_) (.inr fun c fz q => by injection q with _ q5; exact h1 q5), q4⟩
    subst e
    have e1 := q3.symm.trans hbx
    have e2 := Option.some.inj e1
    injection e2 with _ e3
    exact h2 e3
theorem Tq.gq {B b : Nat} {w w1 : World} {B' n c : Nat} {sp : Option Addr} {t : Nat → TN} (h : Tq w B' n sp c t) (k : Gq B b w w1) {cs : Array Value} (hbx : Bo w b 39 cs) : Tq w1 B' n sp c t := ⟨k.row hbx h.1 (by decide) (by decide), fun i hi => k.row hbx (h.2 i hi) (by decide) (by decide)⟩
theorem Bk.kept0 {w w' : World} {B b j : Nat} {gp wp : Option Addr} {gc wc : Nat} {GS WS : List Value} (h : Bk w B b j gp wp gc wc GS WS) (g : w.grownBy w' none) : Bk w' B b j gp wp gc wc GS WS := ⟨h.lt, h.box.kept g (by simp), h.got.kept g (Classical.em _), h.want.kept g (Classical.em _), h.ap⟩
theorem tq_alike {S I R : Int} {n ca cb Ba Bb : Nat} {sa sb : Option Addr} {ta tb : Nat → TN} {V : World} (ha : Tq V Ba n sa ca ta) (hb : Tq V Bb n sb cb tb) (hn : n ≤ 65536) (hkn : ∀ j, j < n → (ta j).kn ≤ 1048576) (heq : ∀ j, j < n → TnE (ta j) (tb j)) :
    Calls Tryd.prog 37 #[.agg #[.int .i64 S, .int .i64 I, .slice sa n ca, .int .i64 R], .agg #[.int .i64 S, .int .i64 I, .slice sb n cb, .int .i64 R]] V fun e w' => e = .returned (.bool true) ∧ V.grownBy w' none := by
  obtain ⟨qa, ha1, hTa⟩ := own_tn ha.1 ha.2
  obtain ⟨qb, hb1, hTb⟩ := own_tn hb.1 hb.2
  exact alikeY S I R n ca cb qa 0 qb 0 sa sb ha1 hb1 ta tb (by omega) (fun j hj => by have := hkn j hj; omega) heq V hTa hTb
theorem ks_u2 {w : World} {B n : Nat} {t0 t1 : Nat → TN} (h0 : Ks w B t0 n) (h1 : Ks w B t1 n) : Ks w B (u2 t0 t1 n) (n + n) := fun i hi => by
  unfold u2
  by_cases e : i < n
  · rw [if_pos e]; exact h0 i e
  · rw [if_neg e]; exact h1 (i - n) (by omega)
theorem inc_u2 {n z : Nat} {t0 t1 : Nat → TN} (h0 : Inc t0 n) (h1 : Inc t1 n) (a : ∀ i, i < n → ∀ p, (Value.slice (t0 i).kp (t0 i).kn (t0 i).kc).ownBlock = some p → p < z) (b : ∀ i, i < n → ∀ q, (Value.slice (t1 i).kp (t1 i).kn (t1 i).kc).ownBlock = some q → z ≤ q) : Inc (u2 t0 t1 n) (n + n) := fun i k hik hk p q hp hq => by
  unfold u2 at hp hq
  by_cases e1 : k < n
  · rw [if_pos (show i < n by omega)] at hp
    rw [if_pos e1] at hq
    exact h0 i k hik e1 p q hp hq
  · rw [if_neg e1] at hq
    by_cases e2 : i < n
    · rw [if_pos e2] at hp
      have := a i e2 p hp
      have := b (k - n) (by omega) q hq
      omega
    · rw [if_neg e2] at hp
      exact h1 (i - n) (k - n) (by omega) (by omega) p q hp hq
/-- What both Parses answer of a text. -/
theorem pa_shape (x : ByteArray) : ∃ (S I R n : Nat) (xs : List (Nat × List Nat)), n ≤ 65536 ∧ ∀ p E, paP x = p → paE x = E → ∀ V e w', PaPost V x e w' → V.grownBy w' none ∧ ∃ sp c t, e = .returned (.tuple #[.agg #[.int .i64 (S : Nat), .int .i64 (I : Nat), .slice sp n c, .int .i64 (R : Nat)], .int .i64 (p : Nat), .int .i64 E]) ∧ Tq w' V.heap.size n sp c t ∧ Inc t n ∧ AsA t xs ∧ (∀ j, j < n → (t j).kn ≤ 1048576) := by
  by_cases h : paE x = 0
  · obtain ⟨h1, h2, h3⟩ := pa_ok h
    obtain ⟨S, I, n, R, _, _, hn, _, hd, _, _, _⟩ := Pa.trR_was h2 h3
    refine ⟨S, I, R, n, (Pa.trR x.data.toList).2.1, hn, ?_⟩
    rintro p E hp hE V e w' ⟨g, U, rfl, _, hk⟩
    obtain ⟨S', I', R', n', c, gN, t, rfl, a1, a2, a3, a4, a5, a6, a7⟩ := hk h
    rw [hd] at a1
    simp only [List.cons.injEq, and_true] at a1
    obtain ⟨rfl, rfl, rfl, rfl⟩ := a1
    refine ⟨g, _, c, t, by rw [hp, hE], ⟨a5, a6⟩, a7, a3, fun j hj => ?_⟩
    have hm := maB_is a4.1
    rcases a4.2.2.2.2.1 j hj with ⟨a, _⟩ | ⟨_, _, a, _⟩
    · omega
    · rw [Int.toNat_natCast] at a; omega
  · refine ⟨0, 0, 0, 0, [], by omega, ?_⟩
    rintro p E hp hE V e w' ⟨g, U, rfl, hk, _⟩
    obtain rfl := hk h
    refine ⟨g, none, 0, fun _ => ⟨0, none, 0, 0, lf []⟩, by rw [hp, hE]; rfl, ⟨World.ownsRow_nil _ _ _ _, fun i hi => absurd hi (Nat.not_lt_zero _)⟩, fun i k _ hk => absurd hk (Nat.not_lt_zero _), fun i => ?_, fun j hj => absurd hj (Nat.not_lt_zero _)⟩
    simp
set_option maxHeartbeats 8000000 in
theorem parses_top (x : ByteArray) (w : World) (htab : Tab w) (hx : x.size ≤ maxLen) :
    Calls Tryd.prog 4 #[.string x] w fun e w' => e = .returned (.bool true) ∧ w.grownBy w' none := by
  obtain ⟨S, I, R, n, xs, hn, hsh⟩ := pa_shape x
  obtain ⟨p, hp⟩ : ∃ p, paP x = p := ⟨_, rfl⟩
  obtain ⟨E, hE⟩ : ∃ E, paE x = E := ⟨_, rfl⟩
  have KD : Hid (∀ V, Calls Tryd.prog 14 #[.string x] V fun e w' => V.grownBy w' none ∧ ∃ sp c t, e = .returned (.tuple #[.agg #[.int .i64 (S : Nat), .int .i64 (I : Nat), .slice sp n c, .int .i64 (R : Nat)], .int .i64 (p : Nat), .int .i64 E]) ∧ Tq w' V.heap.size n sp c t ∧ Inc t n ∧ AsA t xs ∧ (∀ j, j < n → (t j).kn ≤ 1048576)) := fun V => (dparseC x V).mono fun e w' h => hsh p E hp hE V e w' h
  have KP : Hid (∀ V, Calls Tryd.prog 15 #[.string x] V fun e w' => V.grownBy w' none ∧ ∃ sp c t, e = .returned (.tuple #[.agg #[.int .i64 (S : Nat), .int .i64 (I : Nat), .slice sp n c, .int .i64 (R : Nat)], .int .i64 (p : Nat), .int .i64 E]) ∧ Tq w' V.heap.size n sp c t ∧ Inc t n ∧ AsA t xs ∧ (∀ j, j < n → (t j).kn ≤ 1048576)) := fun V => (parseC x V).mono fun e w' h => hsh p E hp hE V e w' h
  have HN : Hid (n ≤ 65536) := hn
  have kav := aliveC w htab
  have hpp : ((p : Int) == (p : Int)) = true := by simp
  clear hsh hp hE hn hx htab
  go_enter Tryd.func4, Tryd.ntmps4
  go_wp2_with (first | (go_at_call 9; refine kav.mono ?_; rintro e V1 ⟨rfl, g1⟩; refine Hid.out ?_))
  refine Lib.hid ?_
  clear kav
  have kd := KD.out V1
  go_wp2_with (first | (go_at_call 14; refine kd.mono ?_; rintro e V2 ⟨g2, spw, cw, tw, rfl, hqw, hiw, haw, hkw⟩; refine Hid.out ?_))
  refine Lib.hid ?_
  clear kd
  obtain ⟨W3, hW3, sz3, g3, B3⟩ := boxn V2 #[.int .i64 (S : Nat), .int .i64 (I : Nat), .slice spw n cw, .int .i64 (R : Nat)] 24
  obtain ⟨W4, hW4, sz4, g4, B4⟩ := boxn W3 #[.slice none 0 0, .slice none 0 0, .bool false] 39
  have HSZ : Hid (V2.heap.size < W3.heap.size ∧ W3.heap.size < W4.heap.size ∧ w.heap.size ≤ V2.heap.size) := ⟨by have := sz3.out; omega, by have := sz4.out; omega, Nat.le_trans g1.size g2.size⟩
  have HG4 : Hid (w.grownBy W4 none) := gb_trans (gb_trans g1 g2) (gb_trans g3 g4)
  have HQW : Hid (Tq W4 V1.heap.size n spw cw tw) := hqw.kept (gb_trans g3 g4)
  have HAW : Hid (AsA tw xs) := haw
  have HBW : Hid (Bo W4 V2.heap.size 24 #[.int .i64 (S : Nat), .int .i64 (I : Nat), .slice spw n cw, .int .i64 (R : Nat)]) := B3.kept g4 (by simp)
  have HBX : Hid (Bo W4 W3.heap.size 39 #[.slice none 0 0, .slice none 0 0, .bool false]) := B4
  have kp := KP.out W4
  clear g1 g2 g3 g4 B3 B4 sz3 sz4 hqw hiw haw hkw KD
  go_wp2_with (first | (go_at_call 15; refine kp.mono ?_; rintro e V5 ⟨g5, sp0, c0, t0, rfl, hq0, hi0, ha0, hk0⟩; refine Hid.out ?_))
  refine Lib.hid ?_
  clear kp
  obtain ⟨W6, hW6, sz6, g6, B6⟩ := boxn V5 #[.int .i64 (S : Nat), .int .i64 (I : Nat), .slice sp0 n c0, .int .i64 (R : Nat)] 24
  have G6 := gb_trans g5 g6
  have HQ0 : Hid (Tq W6 W4.heap.size n sp0 c0 t0) := hq0.kept g6
  have HI0 : Hid (Inc t0 n) := hi0
  have HA0 : Hid (AsA t0 xs) := ha0
  have HK0 : Hid (∀ j, j < n → (t0 j).kn ≤ 1048576) := hk0
  have HQW6 : Hid (Tq W6 V1.heap.size n spw cw tw) := HQW.out.kept G6
  have HBX6 : Hid (Bo W6 W3.heap.size 39 #[.slice none 0 0, .slice none 0 0, .bool false]) := HBX.out.kept G6 (by simp)
  have P6 := HBW.out.kept G6 (by simp)
  have HP6 : Hid (Bo W6 V2.heap.size 24 #[.int .i64 (S : Nat), .int .i64 (I : Nat), .slice spw n cw, .int .i64 (R : Nat)]) := P6
  have HS6 : Hid (W4.heap.size ≤ W6.heap.size) := G6.size
  have ka := addsC W4.heap.size W3.heap.size 0 (by omega) none none 0 0 [] [] E S I R n c0 cw sp0 spw W6 G6.size ⟨HSZ.out.2.1, HBX6.out, World.ownsRow_nil _ _ _ _, World.ownsRow_nil _ _ _ _, .inl rfl⟩ (fun V hV => tq_alike (HQ0.out.kept hV) (HQW6.out.kept hV) HN.out HK0.out fun j _ => HA0.out.tne HAW.out j)
  have a0 := B6.cell 0 (v := .int .i64 (S : Nat)) rfl
  have a1 := B6.cell 1 (v := .int .i64 (I : Nat)) rfl
  have a2 := B6.cell 2 (v := .slice sp0 n c0) rfl
  have a3 := B6.cell 3 (v := .int .i64 (R : Nat)) rfl
  have d0 := P6.cell 0 (v := .int .i64 (S : Nat)) rfl
  have d1 := P6.cell 1 (v := .int .i64 (I : Nat)) rfl
  have d2 := P6.cell 2 (v := .slice spw n cw) rfl
  have d3 := P6.cell 3 (v := .int .i64 (R : Nat)) rfl
  have HG6 : Hid (w.grownBy W6 none) := gb_trans HG4.out G6
  clear hq0 hi0 ha0 hk0 g5 g6 G6 B6 P6 sz6 HQW HBW HBX HG4
  go_wp2_with (first | (go_at_call 16; refine ka.mono ?_; rintro e V7 ⟨gp1, gc1, wp1, wc1, rfl, hb7, hq7⟩; refine Hid.out ?_))
  refine Lib.hid ?_
  clear ka
  have HB7 : Hid (Bk V7 W4.heap.size W3.heap.size 1 gp1 wp1 gc1 wc1 ([] ++ [.int .i64 (S : Nat), .int .i64 (I : Nat), .slice sp0 n c0, .int .i64 (R : Nat)]) ([] ++ [.int .i64 (S : Nat), .int .i64 (I : Nat), .slice spw n cw, .int .i64 (R : Nat)])) := hb7
  have HQ7 : Hid (Gq W4.heap.size W3.heap.size W6 V7) := hq7
  clear hb7 hq7 a0 a1 a2 a3 d0 d1 d2 d3
  have kp := KP.out V7
  go_wp2_with (first | (go_at_call 15; refine kp.mono ?_; rintro e V8 ⟨g8, sp1, c1, t1, rfl, hq1, hi1, ha1, hk1⟩; refine Hid.out ?_))
  refine Lib.hid ?_
  clear kp
  obtain ⟨W9, hW9, sz9, g9, B9⟩ := boxn V8 #[.int .i64 (S : Nat), .int .i64 (I : Nat), .slice sp1 n c1, .int .i64 (R : Nat)] 24
  have G9 := gb_trans g8 g9
  have Q07 := HQ0.out.gq HQ7.out HBX6.out
  have HZ0 : Hid (∀ i, i < n → ∀ p, (Value.slice (t0 i).kp (t0 i).kn (t0 i).kc).ownBlock = some p → p < V7.heap.size) := fun i hi p hp => ((Q07.2 i hi).lt p hp).2
  have HZ0r : Hid (∀ p, (Value.slice sp0 n c0).ownBlock = some p → p < V7.heap.size) := fun p hp => (Q07.1.lt p hp).2
  have HZ1 : Hid (∀ i, i < n → ∀ p, (Value.slice (t1 i).kp (t1 i).kn (t1 i).kc).ownBlock = some p → V7.heap.size ≤ p) := fun i hi p hp => ((hq1.2 i hi).lt p hp).1
  have HZ1r : Hid (∀ p, (Value.slice sp1 n c1).ownBlock = some p → V7.heap.size ≤ p) := fun p hp => (hq1.1.lt p hp).1
  have hs7 : W4.heap.size ≤ V7.heap.size := Nat.le_trans HS6.out HQ7.out.size
  have HQ09 : Hid (Tq W9 W4.heap.size n sp0 c0 t0) := Q07.kept G9
  have HQ19 : Hid (Tq W9 W4.heap.size n sp1 c1 t1) := (hq1.kept g9).le hs7
  have HQW9 : Hid (Tq W9 V1.heap.size n spw cw tw) := (HQW6.out.gq HQ7.out HBX6.out).kept G9
  have HI1 : Hid (Inc t1 n) := hi1
  have HA1 : Hid (AsA t1 xs) := ha1
  have HK1 : Hid (∀ j, j < n → (t1 j).kn ≤ 1048576) := hk1
  have P9 : Bo W9 V2.heap.size 24 #[.int .i64 (S : Nat), .int .i64 (I : Nat), .slice spw n cw, .int .i64 (R : Nat)] := Bo.kept (HQ7.out.kept _ _ HP6.out (by have := HSZ.out; omega) (.inl (by have := HSZ.out; omega))) G9 (by simp)
  have HB9 : Hid (Bk W9 W4.heap.size W3.heap.size 1 gp1 wp1 gc1 wc1 ([] ++ [.int .i64 (S : Nat), .int .i64 (I : Nat), .slice sp0 n c0, .int .i64 (R : Nat)]) ([] ++ [.int .i64 (S : Nat), .int .i64 (I : Nat), .slice spw n cw, .int .i64 (R : Nat)])) := HB7.out.kept0 G9
  have ka := addsC W4.heap.size W3.heap.size 1 (by omega) gp1 wp1 gc1 wc1 _ _ E S I R n c1 cw sp1 spw W9 (Nat.le_trans hs7 G9.size) HB9.out (fun V hV => tq_alike (HQ19.out.kept hV) (HQW9.out.kept hV) HN.out HK1.out fun j _ => HA1.out.tne HAW.out j)
  have a0 := B9.cell 0 (v := .int .i64 (S : Nat)) rfl
  have a1 := B9.cell 1 (v := .int .i64 (I : Nat)) rfl
  have a2 := B9.cell 2 (v := .slice sp1 n c1) rfl
  have a3 := B9.cell 3 (v := .int .i64 (R : Nat)) rfl
  have d0 := P9.cell 0 (v := .int .i64 (S : Nat)) rfl
  have d1 := P9.cell 1 (v := .int .i64 (I : Nat)) rfl
  have d2 := P9.cell 2 (v := .slice spw n cw) rfl
  have d3 := P9.cell 3 (v := .int .i64 (R : Nat)) rfl
  have HS9 : Hid (W4.heap.size ≤ W9.heap.size) := Nat.le_trans hs7 G9.size
  have HQ79 : Hid (Gq W4.heap.size W3.heap.size W6 W9) := HQ7.out.trans (Gq.nil0 G9)
  clear hq1 hi1 ha1 hk1 g8 g9 G9 B9 P9 sz9 Q07 hs7 HQ0 HQW6 HB7 HQ7
  go_wp2_with (first | (go_at_call 16; refine ka.mono ?_; rintro e V10 ⟨gp2, gc2, wp2, wc2, rfl, hb10, hq10⟩; refine Hid.out ?_))
  refine Lib.hid ?_
  clear ka
  obtain ⟨gg, gc, hgg⟩ : ∃ g c, Value.slice gp2 (1 + 1) gc2 = .slice (some ⟨g, 0, none⟩) (1 + 1) c := Joins.ownsRow_form hb10.got (by omega)
  obtain ⟨gw, wc, hgw⟩ : ∃ g c, Value.slice wp2 (1 + 1) wc2 = .slice (some ⟨g, 0, none⟩) (1 + 1) c := Joins.ownsRow_form hb10.want (by omega)
  cases hgg
  cases hgw
  have Q0 := HQ09.out.gq hq10 HB9.out.box
  have Q1 := HQ19.out.gq hq10 HB9.out.box
  have QW := HQW9.out.gq hq10 HB9.out.box
  have ks := standsC W4.heap.size W4.heap.size W3.heap.size n HN.out S I R sp0 sp1 spw c0 c1 cw gg gw gc2 wc2 t0 t1 (fun i hi => ⟨HK0.out i hi, HK1.out i hi⟩) V10 (Nat.le_trans HS9.out hq10.size) hb10 Q0.1 Q1.1 (ks_u2 Q0.2 Q1.2) (inc_u2 HI0.out HI1.out HZ0.out HZ1.out) (by
      cases e : (Value.slice sp1 n c1).ownBlock with
      | none => exact .inl rfl
      | some q => exact .inr fun e2 => by have h1 := HZ1r.out q e; have h2 := HZ0r.out q e2.symm; omega)
    (fun V hV => tq_alike (Q0.kept hV) (QW.kept hV) HN.out HK0.out fun j _ => HA0.out.tne HAW.out j)
    (fun V hV => tq_alike (Q1.kept hV) (QW.kept hV) HN.out HK1.out fun j _ => HA1.out.tne HAW.out j)
  have HQ10 : Hid (Gq W4.heap.size W3.heap.size W6 V10) := HQ79.out.trans hq10
  have HS10 : Hid (W4.heap.size ≤ V10.heap.size) := Nat.le_trans HS9.out hq10.size
  clear hb10 hq10 a0 a1 a2 a3 d0 d1 d2 d3 Q0 Q1 QW
  go_wp2_with (first | (go_at_call 17; refine ks.mono ?_; rintro e V11 ⟨rfl, hbl⟩; refine Hid.out ?_))
  refine Lib.hid ?_
  clear ks
  have hfin : w.grownBy V11 none := by
    have a := HG6.out
    have b := HQ10.out
    refine ⟨hbl.os.trans (b.os.trans a.os), hbl.tape.trans (b.tape.trans a.tape), hbl.output.trans (b.output.trans a.output), Nat.le_trans a.size (Nat.le_trans b.size hbl.size), fun k hk hr => ?_⟩
    have hz := HSZ.out
    have h1 := a.block k hk hr
    obtain ⟨o, ho⟩ : ∃ o, w.heap[k]? = some o := ⟨_, Array.getElem?_eq_getElem hk⟩
    rw [ho] at h1
    have h2 := b.kept k o h1 (by omega) (.inl (by omega))
    rw [hbl.block k (by omega), h2, ho]
  have HFI : Hid (w.grownBy V11 none) := hfin
  clear hfin hbl
  go_wp2
  go_ret
  exact ⟨rfl, HFI.out⟩
end Rr
end Go.Proofs.YteaionmjbkildabDoor
namespace Go.Proofs.YteaionmjbkildabDoor
open Go.ChangeShapes Go.WideShapes Go.RowKit Go.ChangeAt Go.Deep
set_option linter.unusedVariables false
set_option linter.unusedSimpArgs false

theorem tCells : Tryd.prog.cellsOf 24 = 4 := by kernel_rfl
theorem bCells : Tryd.prog.cellsOf 69 = 2 := by kernel_rfl
theorem iCells : Tryd.prog.cellsOf 3 = 1 := by kernel_rfl
theorem isCells : Tryd.prog.cellsOf 63 = 1 := by kernel_rfl
theorem u8Cells : Tryd.prog.cellsOf 5 = 1 := by kernel_rfl
theorem bBytes : Tryd.prog.bytesOf 69 = 32 := by kernel_rfl
theorem iBytes : Tryd.prog.bytesOf 3 = 8 := by kernel_rfl
theorem u8Bytes : Tryd.prog.bytesOf 5 = 1 := by kernel_rfl
theorem uIS : Tryd.prog.underlying 63 = some (.slice 3) := by kernel_rfl
theorem uBS : Tryd.prog.underlying 22 = some (.slice 69) := by kernel_rfl
theorem u8S : Tryd.prog.underlying 44 = some (.slice 5) := by kernel_rfl
theorem uI : Tryd.prog.underlying 3 = some (.int .i64) := by kernel_rfl
theorem uU : Tryd.prog.underlying 5 = some (.int .u8) := by kernel_rfl
theorem array4 {α : Type} {cs : Array α} (h : cs.size = 4) : ∃ c0 c1 c2 c3, cs = #[c0, c1, c2, c3] := by
  obtain ⟨l⟩ := cs
  match l, h with
  | [c0, c1, c2, c3], _ => exact ⟨c0, c1, c2, c3, rfl⟩
theorem rField {H : Type} {enc : TypeId × Value → H} {P : Program} {W : World} {base n i : Nat} {spare : Nat → Bool} {held : Bool} {f : Field} {cs : List Value} {y : Option (DataW H × List MemPlace)} {k : IntKind} {c : Value}
    (ht : P.underlying f.type = some (.int k)) (ho : f.offset = i ∧ P.cellsOf f.type = 1) (hc : cs[i]? = some c) (hy : y.isSome = true)
    (h : DataW.trod enc P W base spare held n f.type ((cs.drop f.offset).take (P.cellsOf f.type)) = y) : ∃ x, c = .int k x ∧ (Lit.int k x).wf = true := by
  obtain ⟨y', rfl⟩ := Option.isSome_iff_exists.1 hy
  obtain ⟨x, h1, _, h3⟩ := DataW.trod_int ht h
  rw [ho.1, ho.2] at h1
  obtain ⟨hi, he⟩ := List.getElem?_eq_some_iff.1 hc
  have : (cs.drop i).take 1 = [cs[i]] := by rw [List.drop_eq_getElem_cons hi]; rfl
  rw [this] at h1
  refine ⟨x, ?_, h3⟩
  rw [← he]
  simpa using h1
theorem bdu {x : Int} (h : (Lit.int .u8 x).wf = true) : 0 ≤ x ∧ x < 256 := by
  simp [Lit.wf, IntKind.min, IntKind.max, IntKind.signed, IntKind.bits] at h
  omega
theorem reach_is : reachBytes = 140737488351232 := by decide
theorem weightsAll_mem {H : Type} {P : Program} {e : TypeId} {x : Nat} {d : DataW H} : ∀ {l : List (DataW H)}, d ∈ l → x ∈ d.weights P e → x ∈ DataW.weightsAll P e l
  | [], h, _ => by cases h
  | a :: l, h, hx => by
    rw [DataW.weightsAll, List.mem_append]
    rcases List.mem_cons.1 h with rfl | h
    · exact .inl hx
    · exact .inr (weightsAll_mem h hx)
theorem spot_no {w : World} {a : Addr} {v : Value} (h : w.cell? a = some v) : a = ⟨a.block, a.off, none⟩ := by
  obtain ⟨b, o, sp⟩ := a
  cases sp with
  | none => rfl
  | some x =>
    unfold World.cell? at h
    split at h
    · simp at h
    · cases h
set_option maxRecDepth 100000 in
set_option maxHeartbeats 2000000 in
theorem openKids {H : Type} {enc : TypeId × Value → H} {W : World} {fuel : Nat} {V : Value} {x : DataW H × List MemPlace} (h : DataW.trod enc Tryd.prog W 0 (fun _ => true) true fuel 63 [V] = some x) (hw : ∀ y ∈ x.1.weights Tryd.prog 63, y ≤ reachBytes) :
    ∃ kp kn kc kf, V = .slice kp kn kc ∧ (kp = none → kn = 0 ∧ kc = 0) ∧ In W kp kn kf ∧ kn ≤ 17592186043904 := by
  rcases open_ints uIS uI iCells h with ⟨hcs, _⟩ | ⟨a, len, cap, zs, hcs, _, hl, hm, hz, hxe, hcell, hwf⟩
  · obtain rfl : V = .slice none 0 0 := by simpa using hcs
    exact ⟨none, 0, 0, fun _ => 0, rfl, fun _ => ⟨rfl, rfl⟩, fun k hk => absurd hk (Nat.not_lt_zero _), by decide⟩
  · obtain rfl : V = .slice (some a) len cap := by simpa using hcs
    simp only [if_true] at hz
    refine ⟨some a, len, cap, fun k => zs.getD k 0, rfl, (fun h => by cases h), fun k hk => ⟨a, rfl, hcell k (by omega)⟩, ?_⟩
    subst hxe
    have h8 := hw (((lits IntKind.i64 (zs.take len) : List (DataW H)).length + (lits IntKind.i64 (zs.drop len) : List (DataW H)).length) * Tryd.prog.bytesOf 3) (by simp [DataW.weights, uIS])
    rw [iBytes, reach_is] at h8
    simp [lits] at h8
    omega
set_option maxRecDepth 100000 in
set_option maxHeartbeats 2000000 in
theorem openBy {H : Type} {enc : TypeId × Value → H} {W : World} {fuel : Nat} {V : Value} {x : DataW H × List MemPlace} (h : DataW.trod enc Tryd.prog W 0 (fun _ => true) true fuel 44 [V] = some x) (hw : ∀ y ∈ x.1.weights Tryd.prog 44, y ≤ reachBytes) :
    ∃ sa m ca f, V = .slice sa m ca ∧ (sa = none → m = 0 ∧ ca = 0) ∧ By W sa m f ∧ (∀ i, f i < 256) ∧ m ≤ 140737488351232 := by
  rcases open_ints u8S uU u8Cells h with ⟨hcs, _⟩ | ⟨a, len, cap, zs, hcs, _, hl, hm, hz, hxe, hcell, hwf⟩
  · obtain rfl : V = .slice none 0 0 := by simpa using hcs
    exact ⟨none, 0, 0, fun _ => 0, rfl, fun _ => ⟨rfl, rfl⟩, fun k hk => absurd hk (Nat.not_lt_zero _), fun _ => by show 0 < 256; decide, by decide⟩
  · obtain rfl : V = .slice (some a) len cap := by simpa using hcs
    simp only [if_true] at hz
    have hb : ∀ k, 0 ≤ zs.getD k 0 ∧ zs.getD k 0 < 256 := fun k => by
      by_cases hk : k < zs.length
      · have e : zs.getD k 0 = zs[k] := by simp [hk]
        rw [e]
        exact bdu (hwf _ (List.getElem_mem hk))
      · have e : zs.getD k 0 = 0 := by simp [hk]
        rw [e]; decide
    refine ⟨some a, len, cap, fun k => (zs.getD k 0).toNat, rfl, (fun h => by cases h), fun k hk => ⟨a, rfl, ?_⟩, fun k => ?_, ?_⟩
    · rw [hcell k (by omega), Int.toNat_of_nonneg (hb k).1]
    · have := hb k; show (zs.getD k 0).toNat < 256; omega
    · subst hxe
      have h8 := hw (((lits IntKind.u8 (zs.take len) : List (DataW H)).length + (lits IntKind.u8 (zs.drop len) : List (DataW H)).length) * Tryd.prog.bytesOf 5) (by simp [DataW.weights, u8S])
      rw [u8Bytes, reach_is] at h8
      simp [lits] at h8
      omega
set_option maxRecDepth 100000 in
set_option maxHeartbeats 2000000 in
theorem openNodes {H : Type} {enc : TypeId × Value → H} {W : World} {fuel : Nat} {V : Value} {x : DataW H × List MemPlace} (h : DataW.trod enc Tryd.prog W 0 (fun _ => true) true fuel 22 [V] = some x) (hw : ∀ y ∈ x.1.weights Tryd.prog 22, y ≤ reachBytes) :
    ∃ sp q o n c, ∃ t : Nat → TN, V = .slice sp n c ∧ (0 < n → sp = some ⟨q, o, none⟩) ∧ n ≤ 4398046510976 ∧ (∀ j, (t j).st < 256) ∧ (∀ j, j < n → (t j).kn ≤ 17592186043904) ∧ (∀ j, j < n → (t j).kp = none → (t j).kn = 0 ∧ (t j).kc = 0) ∧ Tn W q o n t := by
  rcases open_slice_pairs uBS Tryd.underlying69 bCells rfl rfl u8Cells isCells h with ⟨hcs, _⟩ | ⟨a, len, cap, m, k, V0, V1, D0, D1, P0, P1, hcs, _, hl, hm, hmm, rfl, hx⟩
  · obtain rfl : V = .slice none 0 0 := by simpa using hcs
    exact ⟨none, 0, 0, 0, 0, fun _ => ⟨0, none, 0, 0, fun _ => 0⟩, rfl, fun h => absurd h (Nat.lt_irrefl _), by decide, fun _ => by show 0 < 256; decide, fun j hj => absurd hj (Nat.not_lt_zero _), fun j hj => absurd hj (Nat.not_lt_zero _), fun j hj => absurd hj (Nat.not_lt_zero _)⟩
  · obtain rfl : V = .slice (some a) len cap := by simpa using hcs
    simp only [if_true] at hmm
    subst hmm
    have hlen : len ≤ 4398046510976 := by
      have h8 := hw ((((List.range len).map fun i => (DataW.agg [D0 i, D1 i] : DataW H)).length + ((List.range (m - len)).map fun j => (DataW.agg [D0 (len + j), D1 (len + j)] : DataW H)).length) * Tryd.prog.bytesOf 69) (by simp [DataW.weights, uBS])
      rw [bBytes, reach_is] at h8
      simp at h8
      omega
    have key : ∀ i, ∃ T : TN, T.st < 256 ∧ (i < len → T.kn ≤ 17592186043904 ∧ (T.kp = none → T.kn = 0 ∧ T.kc = 0) ∧ W.cell? (a.add (i * 2)) = some (.int .u8 (T.st : Nat)) ∧ W.cell? (a.add (i * 2 + 1)) = some (.slice T.kp T.kn T.kc) ∧ In W T.kp T.kn T.kf) := fun i => by
      by_cases hi : i < len
      · obtain ⟨h0, h1, h2, h3⟩ := hx i (by omega)
        obtain ⟨z, e0, _, hwf⟩ := DataW.trod_int uU h2
        have e0' : V0 i = .int .u8 z := by simpa using e0
        have hz := bdu hwf
        obtain ⟨kp, kn, kc, kf, e1, hn, hin, hk⟩ := openKids h3 (fun y hy => hw y (by
          simp only [DataW.weights, uBS]
          refine List.mem_cons_of_mem _ (List.mem_append.2 (.inl (weightsAll_mem (d := .agg [D0 i, D1 i]) (List.mem_map.2 ⟨i, List.mem_range.2 hi, rfl⟩) ?_)))
          simp only [DataW.weights, Tryd.underlying69]
          exact DataW.weights_mem_each (j := 1) (t := 63) (d := D1 i) rfl rfl y hy))
        refine ⟨⟨z.toNat, kp, kn, kc, kf⟩, by show z.toNat < 256; omega, fun _ => ⟨hk, hn, ?_, ?_, hin⟩⟩
        · rw [h0, e0']
          show some (Value.int .u8 z) = some (.int .u8 (z.toNat : Int))
          rw [Int.toNat_of_nonneg hz.1]
        · rw [h1, e1]
      · exact ⟨⟨0, none, 0, 0, fun _ => 0⟩, by show 0 < 256; decide, fun h => absurd h hi⟩
    obtain ⟨t, ht⟩ := Classical.axiomOfChoice key
    refine ⟨some a, a.block, a.off, len, _, t, rfl, fun h0 => ?_, hlen, fun j => (ht j).1, fun j hj => ((ht j).2 hj).1, fun j hj => ((ht j).2 hj).2.1, fun j hj => ?_⟩
    · have hc := ((ht 0).2 h0).2.2.1
      rw [Nat.zero_mul, Addr.add_zero'] at hc
      rw [← spot_no hc]
    · have hc := ((ht 0).2 (by omega)).2.2.1
      rw [Nat.zero_mul, Addr.add_zero'] at hc
      have ha := spot_no hc
      obtain ⟨_, _, h1, h2, h3⟩ := (ht j).2 hj
      rw [ha, Addr.add_lit] at h1 h2
      exact ⟨h1, by rw [Nat.add_assoc]; exact h2, h3⟩
set_option maxRecDepth 100000 in
set_option maxHeartbeats 2000000 in
theorem openTree {H : Type} {enc : TypeId × Value → H} {W : World} {r : Reach} {b0 : Nat} {v : Value} {d : DataW H} {p : List MemPlace}
    (hv : Value.okWide Tryd.prog W r b0 24 v) (h : DataW.Trod enc Tryd.prog W 0 (fun _ => true) true 24 v d p) (hw : ∀ y ∈ d.weights Tryd.prog 24, y ≤ reachBytes) :
    ∃ (S I R : Int) (sp : Option Addr) (q o n c : Nat) (t : Nat → TN), v = .agg #[.int .i64 S, .int .i64 I, .slice sp n c, .int .i64 R] ∧ (0 < n → sp = some ⟨q, o, none⟩) ∧ n ≤ 4398046510976 ∧ (∀ j, (t j).st < 256) ∧ (∀ j, j < n → (t j).kn ≤ 17592186043904) ∧ (∀ j, j < n → (t j).kp = none → (t j).kn = 0 ∧ (t j).kc = 0) ∧ Tn W q o n t := by
  obtain ⟨cs, rfl, hsz⟩ := okWide_struct Tryd.underlying24 hv
  obtain ⟨c0, c1, c2, c3, rfl⟩ := array4 (hsz.trans tCells)
  obtain ⟨fuel, hf⟩ := h
  obtain ⟨xs, n, _, hx, _, hlen, hfs⟩ := DataW.trod_struct Tryd.underlying24 hf
  have hl4 : xs.length = 4 := hlen
  obtain ⟨x0, x1, x2, x3, rfl⟩ : ∃ x0 x1 x2 x3, xs = [x0, x1, x2, x3] := by
    match xs, hl4 with
    | [x0, x1, x2, x3], _ => exact ⟨x0, x1, x2, x3, rfl⟩
  have g0 := hfs 0 _ rfl
  have g1 := hfs 1 _ rfl
  have g3 := hfs 3 _ rfl
  obtain ⟨S, rfl, q0⟩ := rField uI (i := 0) (c := c0) ⟨rfl, by kernel_rfl⟩ rfl rfl g0
  obtain ⟨I, rfl, q1⟩ := rField uI (i := 1) (c := c1) ⟨rfl, by kernel_rfl⟩ rfl rfl g1
  obtain ⟨R, rfl, q3⟩ := rField uI (i := 3) (c := c3) ⟨rfl, by kernel_rfl⟩ rfl rfl g3
  have g2 := hfs 2 _ rfl
  have g2' : DataW.trod enc Tryd.prog W 0 (fun _ => true) true n 22 [c2] = some x2 := g2
  have hd := congrArg Prod.fst hx
  obtain ⟨sp, q, o, m, c, t, rfl, h1, h2, h3, h4, h5, h6⟩ := openNodes g2' (fun y hy => hw y (by
    rw [show d = .agg [x0.1, x1.1, x2.1, x3.1] from hd]
    simp only [DataW.weights, Tryd.underlying24]
    exact DataW.weights_mem_each (j := 2) (t := 22) (d := x2.1) rfl rfl y hy))
  exact ⟨S, I, R, sp, q, o, m, c, t, rfl, h1, h2, h3, h4, h5, h6⟩
end Go.Proofs.YteaionmjbkildabDoor
namespace Go.Proofs.YteaionmjbkildabDoor.treeParses
open Go.ChangeShapes Go.WideShapes Go.ChangeAt Go.RowKit
open Go.ChangeMaps (open_string shut_string)
set_option linter.unusedVariables false

theorem bdu8 {x : Int} (h : (Lit.int .u8 x).wf = true) : 0 ≤ x ∧ x ≤ 255 := by simpa [Lit.wf, IntKind.min, IntKind.max, IntKind.signed, IntKind.bits] using h
theorem bd64 {x : Int} (h : (Lit.int .i64 x).wf = true) : -9223372036854775808 ≤ x ∧ x ≤ 9223372036854775807 := by simpa [Lit.wf, IntKind.min, IntKind.max, IntKind.signed, IntKind.bits] using h
theorem bdu64 {x : Int} (h : (Lit.int .u64 x).wf = true) : 0 ≤ x ∧ x ≤ 18446744073709551615 := by simpa [Lit.wf, IntKind.min, IntKind.max, IntKind.signed, IntKind.bits] using h
theorem own : ownKnob Tryd.prog.godebug = none := by kernel_rfl
theorem laidOut : laidOutB Tryd.prog = true := by kernel_rfl
theorem gPow : Tryd.prog.globalNamed "internal/strconv.uint64pow10" = some 0 := by kernel_rfl
theorem gPowType : (Tryd.prog.globals[0]?).map (·.type) = some 134 := by kernel_rfl
theorem cellsE : Tryd.prog.cellsOf 121 = 1 := by kernel_rfl
theorem cellsT : Tryd.prog.cellsOf 134 = 20 := by kernel_rfl
/-- .. and the table of tens. -/
theorem tab_laid {W : World} (h : laidMetH Tryd.prog Rows.treeParsesRow.laid W) : Tab W := by
  rw [MakeChecks.laidMetH_plain _ _ _ (by kernel_rfl)] at h
  have h1 : laidMet Tryd.prog (("math/bits.deBruijn32tab", Rows.laid_math_bits_deBruijn32tab) :: ("math/bits.deBruijn64tab", Rows.laid_math_bits_deBruijn64tab) :: [("internal/strconv.uint64pow10", Lib.tabData .u64 Lib.pow10Tab)]) W := h
  exact Lib.tabIs_of_head gPow gPowType Tryd.underlying134 Tryd.underlying121 cellsE cellsT h1.tail.tail

set_option maxRecDepth 100000 in
set_option maxHeartbeats 1000000 in
theorem lifted (os : Os) (started : os.Started) (H : Type) (enc : TypeId × Value → H) :
    ReturnsInHanded {} Tryd.checked os 4 .any (fun w args => (Rows.treeParsesSpec.pre enc Tryd.prog Tryd.f4 [] false w args ∧ laidMetH Tryd.prog Rows.treeParsesRow.laid w) ∧ sizedMet enc Tryd.prog Tryd.f4 (OpenSpec.ofChange Rows.treeParsesSpec) false w args)
      (Rows.treeParsesSpec.post enc Tryd.prog Tryd.f4 false true false false) := by
  refine returnsInHanded_of_change_and (C := Tryd.checked) (X := fun w _ => laidMetH Tryd.prog Rows.treeParsesRow.laid w) (fun _ _ _ hh h => h.of_heap hh) own started (by kernel_rfl) Tryd.func4
    (ChangeSpec.witness_shaped (enc := enc) (C := Tryd.checked) (os := os) (X := fun w _ => laidMetH Tryd.prog Rows.treeParsesRow.laid w) false (World.laidAll Tryd.prog os Rows.treeParsesRow.laid) #[.string ⟨#[]⟩] 8 (World.laidAll_os _ _ _) (World.shaped_of_ZipB (by kernel_rfl) (by kernel_rfl)) (by kernel_rfl) (by kernel_rfl) (by kernel_rfl)
      (by rw [MakeChecks.laidMetH_plain _ _ _ (by kernel_rfl)]; exact laidMet_laidAll _ (by kernel_rfl) (by kernel_rfl))) ?_
  intro W base args ds gs before hval0 hW _ hsz0 hL _
  have hval : ∀ (j : Nat) t v, Tryd.f4.params[j]? = some t → args[j]? = some v → Value.okWide Tryd.prog W .any base t v := hval0
  have hW' := hW
  obtain ⟨p, q, hA0, hV, rfl, hfz, hnd⟩ := hW
  have hA : DataW.TrodAll enc Tryd.prog W 0 (fun _ => true) true Tryd.f4.params.toList args.toList ds p := hA0
  rw [Tryd.params4] at hA hval
  obtain ⟨v0, vs0, d0, ds0, p0, q0, hargs, rfl, rfl, h0, r0⟩ := trodAll_cons hA
  obtain ⟨rfl, rfl, rfl⟩ := trodAll_nil r0
  obtain rfl : args = #[v0] := by cases args; simp_all
  obtain ⟨rfl, rfl⟩ := trodVars_none hV
  have k0 := h0
  have lt0 : ∀ x ∈ p0, x.block < W.heap.size := by obtain ⟨m, hm⟩ := k0; exact DataW.trod_lt m _ _ _ hm
  obtain ⟨a0, rfl, rfl, rfl, w0⟩ := open_string Tryd.underlying9 (hval 0 9 v0 rfl rfl) h0
  clear hA0 hval0
  refine (Rr.parses_top a0 W (tab_laid hL) w0).mono fun e W' ⟨he, gb⟩ => ?_
  have bel := gb_below gb
  subst he
  exact ⟨_, rfl, _, _, _, [], _, [], hW', trodAll_mk1 (shut_bool Tryd.underlying4 _), (trodAll_cons_mk (Below.trod laidOut (by kernel_rfl) (of_decide_eq_true (by kernel_rfl)) k0 bel lt0) trodAll_mk0), rfl, bel.frame _, fun h => by cases h⟩

theorem said : Rows.TreeParsesSaid :=
  OpenClaim.holds_of_wide 4 Tryd.f4 rfl rfl rfl rfl rfl rfl rfl ⟨rfl, rfl, rfl, rfl, rfl⟩ rfl rfl rfl rfl rfl (by kernel_rfl) Tryd.func4 (by kernel_rfl)
    (of_decide_eq_true (by kernel_rfl)) (by unfold Func.isWrapper; first | (rw [if_pos (by decide +kernel)]; kernel_rfl) | (rw [if_neg (by decide +kernel)]; exact ⟨rfl, rfl⟩))
    (fun os started H enc _ => lifted os started H enc)

theorem plain (f : FuncId) (fn : Func) (hf : Tryd.pinned.checked.prog.funcNamed "vivarium/vivariumlaw11.TreeParses" = some f) (hfn : Tryd.pinned.checked.prog.funcs[f]? = some fn) :
    false = Tryd.pinned.checked.prog.looks [] ∧ ∀ (j : Nat) t, fn.params[j]? = some t → Tryd.pinned.checked.prog.wantsStandIn t = false := by
  obtain rfl : f = 4 := Option.some.inj ((show Tryd.prog.funcNamed "vivarium/vivariumlaw11.TreeParses" = some 4 by kernel_rfl).symm.trans hf) |>.symm
  obtain rfl : fn = Tryd.f4 := (Option.some.inj (Tryd.func4.symm.trans hfn)).symm
  refine ⟨by kernel_rfl, fun j t ht => ?_⟩
  rw [Tryd.params4] at ht
  have hm : t ∈ [9] := by simpa using Array.mem_of_getElem? ht
  have hall : ([9].all fun u => !Tryd.prog.wantsStandIn u) = true := by kernel_rfl
  exact (show Tryd.prog.wantsStandIn t = false by simpa using List.all_eq_true.1 hall t hm)

theorem card : Rows.TreeParsesCardSaid :=
  Claim7.holds_tied_plain_at .later [] _ _ _ _ said (fun _ h => by cases h) (by kernel_rfl) (fun _ h => by cases h) treeParses_row_tie rfl ⟨rfl, rfl⟩ (by kernel_rfl) rfl plain (by kernel_rfl)
end Go.Proofs.YteaionmjbkildabDoor.treeParses
namespace Go.Proofs.YteaionmjbkildabDoor
theorem treeParses_holds : Rows.TreeParsesCardSaid := treeParses.card
#print axioms treeParses_holds
end Go.Proofs.YteaionmjbkildabDoor
