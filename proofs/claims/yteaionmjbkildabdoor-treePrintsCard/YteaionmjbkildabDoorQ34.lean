/- The document's Check: the nodes. -/
import Derived.Test.YteaionmjbkildabDoorQ33
namespace Go.Proofs.YteaionmjbkildabDoor
open Go.RowKit
set_option linter.unusedVariables false
set_option linter.unusedSimpArgs false
set_option maxRecDepth 100000

set_option maxHeartbeats 2000000 in
theorem rcL (S I R q o n c : Nat) (t : Nat → TN) (h1 : 1 ≤ S) (hS : S ≤ 256) (hI : I ≤ 16) (hn : n ≤ 65536) (hR : R < n) (hst : ∀ j, (t j).st < 256) (E : Int) (hE : ((∀ j, j < n → okN S (lw t) (t j) j) ∧ lw t R = I ∧ E = 0) ∨ (¬ ((∀ j, j < n → okN S (lw t) (t j) j) ∧ lw t R = I) ∧ E = 110)) (w : World) (hT : Tn w q o n t) :
    Calls Tryd.prog 35 #[.agg #[.int .i64 (S : Nat), .int .i64 (I : Nat), .slice (some ⟨q, o, none⟩) n c, .int .i64 (R : Nat)]] w fun e w' => e = .returned (.int .i64 E) ∧ w.grownBy w' none := by
  have hlv := lw_le t
  obtain ⟨W1, hW1, sz1, g1, B1⟩ := boxn w #[.int .i64 (S : Nat), .int .i64 (I : Nat), .slice (some ⟨q, o, none⟩) n c, .int .i64 (R : Nat)] 24
  have t0 := B1.cell 0 (v := .int .i64 (S : Nat)) rfl
  have t1 := B1.cell 1 (v := .int .i64 (I : Nat)) rfl
  have t2 := B1.cell 2 (v := .slice (some ⟨q, o, none⟩) n c) rfl
  have t3 := B1.cell 3 (v := .int .i64 (R : Nat)) rfl
  have HB : Hid (((∀ j, j < n → okN S (lw t) (t j) j) ∧ lw t R = I ∧ E = 0) ∨ (¬ ((∀ j, j < n → okN S (lw t) (t j) j) ∧ lw t R = I) ∧ E = 110)) := hE
  clear hE
  have z0 : decide ((S : Int) < 1) = false := by simp; omega
  have z1 : decide ((256 : Int) < (S : Int)) = false := by simp; omega
  have z2 : decide ((I : Int) < 0) = false := by simp
  have z3 : decide ((16 : Int) < (I : Int)) = false := by simp; omega
  have z4 : decide ((n : Int) < 1) = false := by simp; omega
  have z5 : decide ((65536 : Int) < (n : Int)) = false := by simp; omega
  have z6 : decide ((R : Int) < 0) = false := by simp
  have z7 : decide (n ≤ R) = false := by simp; omega
  have hmk := run_make_row' (P := Tryd.prog) 63 3 (.int .i64 0) 8 underIS infoI rfl .i64 .i64 n (by omega) (by omega)
  obtain ⟨W2, hW2⟩ : ∃ W2, W1.alloc (.cells (madeCells #[.int .i64 0] n) 3) = W2 := ⟨_, rfl⟩
  have g2 : W1.grownBy W2 none := (by rw [← hW2]; exact World.grownBy_alloc _ _ _)
  have R2 : W2.rowIs W1.heap.size 3 n (fun x => .int .i64 ((if x < 0 then lw t x else 0 : Nat))) := (by rw [← hW2]; exact World.rowIs_made W1 (.int .i64 0) n 3)
  have B2 := B1.kept g2 (by simp)
  go_enter Tryd.func35, Tryd.ntmps35
  go_wp2
  clear t0 t1 t2 t3 z0 z1 z2 z3 z4 z5 z6 z7 hmk
  go_loopw [4] (fun i wr => ∃ j : Nat, j ≤ n ∧ i = .int .i64 j ∧ wr.rowIs W1.heap.size 3 n (fun x => .int .i64 ((if x < j then lw t x else 0 : Nat))) ∧ w.grownBy wr none ∧ Bo wr w.heap.size 24 #[.int .i64 (S : Nat), .int .i64 (I : Nat), .slice (some ⟨q, o, none⟩) n c, .int .i64 (R : Nat)] ∧ ∀ k, k < j → okN S (lw t) (t k) k) (fun i _ => n - (intOf i).toNat)
  case atStart => exact ⟨0, Nat.zero_le _, rfl, R2, gb_trans g1 g2, B2, fun k hk => absurd hk (Nat.not_lt_zero _)⟩
  case round =>
    obtain ⟨j, hj, rfl, Rj, Gj, Bj, hok⟩ := hrel
    have b0 := Bj.cell 0 (v := .int .i64 (S : Nat)) rfl
    have b1 := Bj.cell 1 (v := .int .i64 (I : Nat)) rfl
    have b2 := Bj.cell 2 (v := .slice (some ⟨q, o, none⟩) n c) rfl
    have b3 := Bj.cell 3 (v := .int .i64 (R : Nat)) rfl
    by_cases hlt : j < n
    · have hlt' : (j : Int) < (n : Int) := by omega
      obtain ⟨x0, x1, x2⟩ := (hT.kept Gj) j hlt
      obtain ⟨W3, hW3, sz3, g3, B3⟩ := boxn wr #[.int .u8 ((t j).st : Nat), .slice (t j).kp (t j).kn (t j).kc] 69
      have y0 := B3.cell 0 (v := .int .u8 ((t j).st : Nat)) rfl
      have y1 := B3.cell 1 (v := .slice (t j).kp (t j).kn (t j).kc) rfl
      have Bj3 := Bj.kept g3 (by simp)
      have c0 := Bj3.cell 0 (v := .int .i64 (S : Nat)) rfl
      have Rj3 := rowIs_kept Rj g3 (by simp)
      have G3 := gb_trans Gj g3
      have HO : Hid (okN S (lw t) (t j) j → ∀ k, k < j + 1 → okN S (lw t) (t k) k) := fun hkj k hk => by
        by_cases e : k = j
        · subst e; exact hkj
        · exact hok k (by omega)
      have HE : Hid (¬ okN S (lw t) (t j) j → E = 110) := fun hkj => by
        rcases HB.out with ⟨h, _, _⟩ | ⟨_, h⟩
        · exact absurd (h j hlt) hkj
        · exact h
      have HL : Hid (lw t j = if (t j).kn = 0 then 0 else (lvl t j).getD ((t j).kf 0).toNat 0 + 1) := lw_rec t (by omega)
      have hstj := hst j
      clear hok
      by_cases hk0 : (t j).kn = 0
      · have HK0 : Hid ((t j).kn = 0) := hk0
        rw [hk0] at x1 y1 hW3
        have hs : ((t j).st : Int) < 256 := by omega
        by_cases hsS : (t j).st < S
        · have hsS' : ¬ ((S : Int) ≤ ((t j).st : Int)) := by omega
          have HN : Hid (okN S (lw t) (t j) j) := .inl ⟨hk0, hsS⟩
          clear hk0
          go_wp2
          go_roundw
          case rel => exact ⟨j + 1, hlt, by go_num, World.rowIs.congr Rj3 (fun i hi => by
            have h := HL.out
            rw [if_pos HK0.out] at h
            by_cases e : i = j
            · subst e; simp [h]
            · by_cases e2 : i < j
              · simp [e2, show i < j + 1 by omega]
              · simp [e2, show ¬ i < j + 1 by omega]), G3, Bj3, HO.out HN.out⟩
          case measure => simp [intOf]; omega
        · have hsS' : (S : Int) ≤ ((t j).st : Int) := by omega
          obtain rfl := HE.out (fun h => by rcases h with ⟨_, h⟩ | ⟨h, _⟩; exact hsS h; exact h hk0)
          clear hk0
          go_wp2
          go_ret
          exact ⟨rfl, G3⟩
      · have hk0' : (((t j).kn : Int) == 0) = false := by simp; omega
        by_cases hs0 : (t j).st = 0
        · rw [hs0, show ((0 : Nat) : Int) = 0 from rfl] at x0 y0 hW3
          by_cases hkS : (t j).kn = S
          · have HKS : Hid ((t j).kn = S) := hkS
            have HS0 : Hid ((t j).st = 0) := hs0
            have HK0 : Hid ((t j).kn ≠ 0) := hk0
            rw [hkS] at x1 y1 hW3 x2 hk0'
            obtain ⟨a, ha⟩ := x2.some (by omega)
            rw [ha] at x1 y1 hW3 x2
            rw [ha, hkS, hs0, show ((0 : Nat) : Int) = 0 from rfl] at B3
            clear hk0 hkS hs0
            go_wp2
            go_loopw [6] (fun i wq => ∃ k : Nat, k ≤ S ∧ i = .int .i64 k ∧ wq.rowIs W1.heap.size 3 n (fun x => .int .i64 ((if x < j then lw t x else 0 : Nat))) ∧ w.grownBy wq none ∧ Bo wq w.heap.size 24 #[.int .i64 (S : Nat), .int .i64 (I : Nat), .slice (some ⟨q, o, none⟩) n c, .int .i64 (R : Nat)] ∧ Bo wq wr.heap.size 69 #[.int .u8 0, .slice (some a) S (t j).kc] ∧ In wq (some a) S (t j).kf ∧ ∀ k', k' < k → 0 ≤ (t j).kf k' ∧ (t j).kf k' < (j : Int) ∧ lw t ((t j).kf k').toNat = lw t ((t j).kf 0).toNat) (fun i _ => S - (intOf i).toNat)
            case atStart => exact ⟨0, Nat.zero_le _, rfl, Rj3, G3, Bj3, B3, x2.kept g3 (by simp), fun k hk => absurd hk (Nat.not_lt_zero _)⟩
            case round =>
              obtain ⟨k, hk, rfl, Rq, Gq, Bq, Cq, hIn, hgd⟩ := hrel
              have d0 := Cq.cell 0 (v := .int .u8 0) rfl
              have d1 := Cq.cell 1 (v := .slice (some a) S (t j).kc) rfl
              by_cases hkl : k < S
              · have hkl' : (k : Int) < (S : Int) := by omega
                have kk := hIn.at hkl
                by_cases hgk : 0 ≤ (t j).kf k ∧ (t j).kf k < (j : Int) ∧ lw t ((t j).kf k).toNat = lw t ((t j).kf 0).toNat
                · have HG : Hid (∀ k', k' < k + 1 → 0 ≤ (t j).kf k' ∧ (t j).kf k' < (j : Int) ∧ lw t ((t j).kf k').toNat = lw t ((t j).kf 0).toNat) := fun k' hk' => by
                    by_cases e : k' = k
                    · subst e; exact hgk
                    · exact hgd k' (by omega)
                  obtain ⟨h00, h01, _⟩ := HG.out 0 (by omega)
                  obtain ⟨m, hm⟩ := Int.eq_ofNat_of_zero_le h00
                  have hm2 : m < j := by omega
                  have k0 := hIn.at (k := 0) (by omega)
                  have l0 := World.rowIs.cell Rq (i := m) (by omega)
                  rw [if_pos hm2] at l0
                  rw [hm, Addr.add_zero'] at k0
                  obtain ⟨hj0, hj1, hj2⟩ := hgk
                  obtain ⟨p, hp⟩ := Int.eq_ofNat_of_zero_le hj0
                  have hp2 : p < j := by omega
                  have lj := World.rowIs.cell Rq (i := p) (by omega)
                  rw [if_pos hp2] at lj
                  rw [hp] at kk hj2
                  rw [hm] at hj2
                  have e2 : lw t p = lw t m := hj2
                  rw [e2] at lj
                  clear hj2 e2 hp hj0 hj1 hgd
                  have y1 : decide ((p : Int) < 0) = false := by simp
                  have y2 : decide (j ≤ p) = false := by simp; omega
                  have ya : ((lw t m : Int) != (lw t m : Int)) = false := by simp
                  have y3 : (p : Int) < (n : Int) := by omega
                  have y4 : (0 : Int) ≤ (p : Int) := by omega
                  have y5 : (m : Int) < (n : Int) := by omega
                  have y6 : (0 : Int) ≤ (m : Int) := by omega
                  have y7 : (0 : Int) < (S : Int) := by omega
                  have y8 : ((p : Int)).toNat = p := by omega
                  have y9 : ((m : Int)).toNat = m := by omega
                  have ym : max (m : Int) 0 = (m : Int) := by omega
                  go_wp2
                  go_quiet (fail)
                  go_wp2
                  go_roundw
                  case rel => exact ⟨k + 1, by omega, by go_num, Rq.drew, gb_drewN Gq _, Bq.drew, Cq.drew, hIn, HG.out⟩
                  case measure => simp [intOf]; omega
                · obtain rfl := HE.out (fun h => by
                    rcases h with ⟨h, _⟩ | ⟨_, _, _, h⟩
                    · exact HK0.out h
                    · exact hgk (h k hkl))
                  obtain ⟨z, hz⟩ : ∃ z, (t j).kf k = z := ⟨_, rfl⟩
                  rw [hz] at kk hgk
                  have y7 : (0 : Int) < (S : Int) := by omega
                  by_cases hn0 : z < 0
                  · clear hgd hgk hz
                    have y1 : decide (z < 0) = true := by simp [hn0]
                    go_wp2
                    go_quiet (fail)
                    go_wp2
                    go_ret
                    exact ⟨rfl, gb_drewN Gq _⟩
                  · by_cases hr : z < (j : Int)
                    · by_cases hk00 : k = 0
                      · subst hk00
                        exact absurd ⟨by omega, hr, by rw [hz]⟩ hgk
                      · obtain ⟨h00, h01, _⟩ := hgd 0 (by omega)
                        obtain ⟨m, hm⟩ := Int.eq_ofNat_of_zero_le h00
                        have hm2 : m < j := by omega
                        have k0 := hIn.at (k := 0) (by omega)
                        have l0 := World.rowIs.cell Rq (i := m) (by omega)
                        rw [if_pos hm2] at l0
                        rw [hm, Addr.add_zero'] at k0
                        obtain ⟨p, hp⟩ := Int.eq_ofNat_of_zero_le (show 0 ≤ z by omega)
                        have hp2 : p < j := by omega
                        have lj := World.rowIs.cell Rq (i := p) (by omega)
                        rw [if_pos hp2] at lj
                        rw [hp] at kk hgk
                        rw [hm] at hgk
                        have hne : lw t p ≠ lw t m := fun e => hgk ⟨by omega, by omega, e⟩
                        obtain ⟨x, hx⟩ : ∃ x, lw t p = x := ⟨_, rfl⟩
                        obtain ⟨y, hy⟩ : ∃ y, lw t m = y := ⟨_, rfl⟩
                        rw [hx] at lj hne
                        rw [hy] at l0 hne
                        have y1 : decide ((p : Int) < 0) = false := by simp
                        have y2 : decide (j ≤ p) = false := by simp; omega
                        have ya : ((x : Int) != (y : Int)) = true := by simp; omega
                        have y3 : (p : Int) < (n : Int) := by omega
                        have y4 : (0 : Int) ≤ (p : Int) := by omega
                        have y5 : (m : Int) < (n : Int) := by omega
                        have y6 : (0 : Int) ≤ (m : Int) := by omega
                        have y7 : (0 : Int) < (S : Int) := by omega
                        have y8 : ((p : Int)).toNat = p := by omega
                        have y9 : ((m : Int)).toNat = m := by omega
                        have ym : max (m : Int) 0 = (m : Int) := by omega
                        clear hgd hgk hz hp hm hx hy hn0 hr hne h00 h01
                        go_wp2
                        go_quiet (fail)
                        go_wp2
                        go_ret
                        exact ⟨rfl, gb_drewN Gq _⟩
                    · obtain ⟨p, hp⟩ := Int.eq_ofNat_of_zero_le (show 0 ≤ z by omega)
                      subst hp
                      have y1 : decide ((p : Int) < 0) = false := by simp
                      have y2 : decide (j ≤ p) = true := by simp; omega
                      clear hgd hgk hz hn0 hr
                      go_wp2
                      go_quiet (fail)
                      go_wp2
                      go_ret
                      exact ⟨rfl, gb_drewN Gq _⟩
              · have hkn : k = S := by omega
                have HN : Hid (okN S (lw t) (t j) j) := .inr ⟨HK0.out, HS0.out, HKS.out, fun k' hk' => hgd k' (by omega)⟩
                obtain ⟨h00, h01, _⟩ := hgd 0 (by omega)
                obtain ⟨m, hm⟩ := Int.eq_ofNat_of_zero_le h00
                have hm2 : m < j := by omega
                have k0 := hIn.at (k := 0) (by omega)
                have l0 := World.rowIs.cell Rq (i := m) (by omega)
                rw [if_pos hm2] at l0
                rw [hm, Addr.add_zero'] at k0
                have HM : Hid (lw t j = lw t m + 1) := by
                  have h := HL.out
                  rw [if_neg HK0.out, hm, Int.toNat_natCast, lvl_get t hm2] at h
                  unfold Hid
                  rw [h, show lw t m = (lvl t (m + 1)).getD m 0 by rw [lw, if_pos (by omega)]]
                have hl9 := hlv m
                have lz := World.rowIs.cell Rq (i := j) hlt
                have lf := World.rowIs.frozen Rq j
                have y5 : (m : Int) < (n : Int) := by omega
                have y6 : (0 : Int) ≤ (m : Int) := by omega
                have y7 : (0 : Int) < (S : Int) := by omega
                have y9 : ((m : Int)).toNat = m := by omega
                have hn' : ¬ ((k : Int) < (S : Int)) := by omega
                clear hgd h00 h01 hm
                go_wp2
                go_roundw
                case rel => exact ⟨j + 1, hlt, by go_num, World.rowIs.congr (World.rowIs.set Rq j (.int .i64 ((lw t m : Int) + 1))) (fun i hi => by
                  have h := HM.out
                  by_cases e : i = j
                  · subst e; simp [h]
                  · by_cases e2 : i < j
                    · simp [e, e2, show i < j + 1 by omega]
                    · simp [e, e2, show ¬ i < j + 1 by omega]), gb_new Gq g1.size _, Bq.set2 (by have := B1.lt; omega), HO.out HN.out⟩
                case measure => simp [intOf]; omega
          · have hkS' : (((t j).kn : Int) != (S : Int)) = true := by simp; omega
            obtain rfl := HE.out (fun h => by rcases h with ⟨h, _⟩ | ⟨_, _, h, _⟩; exact hk0 h; exact hkS h)
            clear hk0 hs0
            go_wp2
            go_ret
            exact ⟨rfl, G3⟩
        · have hs0' : (((t j).st : Int) != 0) = true := by simp; omega
          obtain rfl := HE.out (fun h => by rcases h with ⟨h, _⟩ | ⟨_, h, _⟩; exact hk0 h; exact hs0 h)
          clear hk0
          go_wp2
          go_ret
          exact ⟨rfl, G3⟩
    · have hjn : j = n := by omega
      have hjn' : ¬ ((j : Int) < (n : Int)) := by omega
      have l0 := World.rowIs.cell Rj (i := R) hR
      rw [if_pos (show R < j by omega)] at l0
      have y5 : (R : Int) < (n : Int) := by omega
      have y6 : (0 : Int) ≤ (R : Int) := by omega
      have y9 : ((R : Int)).toNat = R := by omega
      have hok' : ∀ k, k < n → okN S (lw t) (t k) k := fun k hk => hok k (by omega)
      clear hok
      by_cases he : lw t R = I
      · have hE0 : E = 0 := by
          rcases HB.out with ⟨_, _, h⟩ | ⟨h, _⟩
          · exact h
          · exact absurd ⟨hok', he⟩ h
        subst hE0
        rw [he] at l0
        have ya : ((I : Int) != (I : Int)) = false := by simp
        clear hok' he hjn
        go_wp2
        go_quiet (fail)
        go_wp2
        go_ret
        exact ⟨rfl, gb_drewN Gj _⟩
      · have hE0 : E = 110 := by
          rcases HB.out with ⟨_, h, _⟩ | ⟨_, h⟩
          · exact absurd h he
          · exact h
        subst hE0
        obtain ⟨x, hx⟩ : ∃ x, lw t R = x := ⟨_, rfl⟩
        rw [hx] at l0 he
        have ya : ((x : Int) != (I : Int)) = true := by simp; omega
        clear hok' he hjn
        go_wp2
        go_quiet (fail)
        go_wp2
        go_ret
        exact ⟨rfl, gb_drewN Gj _⟩
end Go.Proofs.YteaionmjbkildabDoor
