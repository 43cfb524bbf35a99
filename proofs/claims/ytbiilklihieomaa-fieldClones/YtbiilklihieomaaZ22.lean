/- FieldLines. -/
import Derived.Test.YtbiilklihieomaaZ21
namespace Go.Proofs.Ytbiilklihieomaa
open Go.RowKit
set_option linter.unusedVariables false
set_option linter.unusedSimpArgs false
set_option maxRecDepth 100000

theorem lines_no (W0 : Int) (q o n c : Nat) (sp : Option Addr) (t : Nat → LN) (hsp : 0 < n → sp = some ⟨q, o, none⟩) (hk : ∀ j, j < n → (t j).kn ≤ 140737488351232) (hnil : ∀ j, j < n → (t j).kp = none → (t j).kn = 0 ∧ (t j).kc = 0) (h256 : ∀ j i, (t j).kf i < 256) (E : Int) (he : ckE W0 n 256 false = E) (hE : E ≠ 0) (w : World) : Calls Try.prog 7 #[.int .i64 W0, .slice sp n c] w fun e w' => e = .returned (.bool true) ∧ w.grownBy w' none := by
  have hnw := fun w => newN W0 n 256 E false he hE w
  have hE' : (E != 0) = true := by simp [hE]
  clear he hsp hk hnil h256
  go_enter Try.func7, Try.ntmps7
  go_wp2_with (first | (go_at_call 10; refine (aliveC w).mono ?_; rintro e V1 ⟨rfl, g1⟩) | (go_at_call 9; refine (hnw V1).mono ?_; rintro e V2 ⟨rfl, g2⟩))
  go_ret
  exact ⟨rfl, gb_trans g1 g2⟩

/-- Are the first k lines of that length? -/
def allB (t : Nat → LN) (C : Nat) : Nat → Bool
  | 0 => true
  | k + 1 => allB t C k && decide ((t k).kn = C)
theorem allB_is {t : Nat → LN} {C : Nat} : ∀ {k : Nat}, allB t C k = true → ∀ j, j < k → (t j).kn = C
  | 0, _, j, hj => absurd hj (Nat.not_lt_zero _)
  | k + 1, h, j, hj => by
    rw [allB, Bool.and_eq_true] at h
    by_cases e : j = k
    · rw [e]; exact of_decide_eq_true h.2
    · exact allB_is h.1 j (by omega)

set_option maxHeartbeats 4000000 in
theorem lines_yes (C n : Nat) (hz : Sz C n 256) (q o c : Nat) (t : Nat → LN) (hk : ∀ j, j < n → (t j).kn ≤ 140737488351232) (hnil : ∀ j, j < n → (t j).kp = none → (t j).kn = 0 ∧ (t j).kc = 0) (h256 : ∀ j i, (t j).kf i < 256)
    (hbd : ∀ (b s q : Nat) (g : Nat → Nat) (w : World), Fb w b s q C n 256 g → Calls Try.prog 32 #[.pointer (some ⟨b, 0, none⟩)] w fun e w' => e = .returned (.bool true) ∧ w.grownBy w' none) (w : World) (hL : Ln w q o n t) :
    Calls Try.prog 7 #[.int .i64 (C : Nat), .slice (some ⟨q, o, none⟩) n c] w fun e w' => e = .returned (.bool true) ∧ w.grownBy w' none := by
  have hnw := fun w => newY C n 256 hz w
  have hr1 := hz.r1
  have hc1 := hz.c1
  go_enter Try.func7, Try.ntmps7
  go_wp2_with (first | (go_at_call 10; refine (aliveC w).mono ?_; rintro e V1 ⟨rfl, g1⟩) | (go_at_call 9; refine (hnw V1).mono ?_; rintro e V2 ⟨b, s, qf, rfl, hF, lb, ls, lq, g2⟩))
  go_loopw [8, 9] (fun va vy wr => ∃ k : Nat, k ≤ n ∧ vy = .int .i64 k ∧ va = .bool (allB t C k) ∧ Fb wr b s qf C n 256 (gL t C k) ∧ w.grownBy wr none) (fun _ vy _ => n - (intOf vy).toNat)
  case atStart => exact ⟨0, Nat.zero_le _, rfl, rfl, hF.congr (fun i _ => by unfold gL; rw [if_neg (fun h => Nat.not_lt_zero _ h.1)]), gb_trans g1 g2⟩
  case round =>
    obtain ⟨k, hkn', rfl, rfl, hFk, Gk⟩ := hrel
    by_cases hlt : k < n
    · have hlt' : (k : Int) < (n : Int) := by omega
      obtain ⟨hc1k, hby⟩ := (hL.kept Gk) k hlt
      have hkk := hk k hlt
      have hnk := hnil k hlt
      have h2k := h256 k
      have hlay : (t k).kn = C → ∀ i, (if k * C ≤ i ∧ i < k * C + C then (t k).kf (i - k * C) else gL t C k i) = gL t C (k + 1) i := fun e i => gL_lay t hz.c0 e i
      have hnol : (t k).kn ≠ C → ∀ i, gL t C k i = gL t C (k + 1) i := fun e i => gL_no t e i
      have hall : allB t C (k + 1) = (allB t C k && decide ((t k).kn = C)) := rfl
      obtain ⟨kn, hkn⟩ : ∃ kn, (t k).kn = kn := ⟨_, rfl⟩
      obtain ⟨kp, hkp⟩ : ∃ kp, (t k).kp = kp := ⟨_, rfl⟩
      obtain ⟨kc, hkc⟩ : ∃ kc, (t k).kc = kc := ⟨_, rfl⟩
      obtain ⟨kf, hkf⟩ : ∃ kf, (t k).kf = kf := ⟨_, rfl⟩
      rw [hkn, hkp, hkc] at hc1k
      rw [hkn, hkp, hkf] at hby
      rw [hkn] at hkk hall hlay hnol
      rw [hkp, hkn, hkc] at hnk
      rw [hkf] at h2k hlay
      clear hkn hkp hkc hkf
      obtain ⟨av, hav⟩ : ∃ av, allB t C k = av := ⟨_, rfl⟩
      rw [hav] at hall ⊢
      clear hav
      have HA : Hid (allB t C (k + 1) = (av && decide (kn = C))) := hall
      have HY : Hid (kn = C → ∀ i, (if k * C ≤ i ∧ i < k * C + C then kf (i - k * C) else gL t C k i) = gL t C (k + 1) i) := hlay
      have HO : Hid (kn ≠ C → ∀ i, gL t C k i = gL t C (k + 1) i) := hnol
      clear hall hlay hnol
      by_cases hc : kn = C
      · obtain rfl : C = kn := hc.symm
        have q1 : ((C : Int) == (C : Int)) = true := by simp
        go_wp2_with (first | (at_builtin; refine app_by wr rfl _ _ rfl rfl kp C kc kf rfl hby hnk hkk ?_; intro v1 w5 own5 gk5; obtain ⟨sq, cq, hv1⟩ := own_sl own5; subst hv1; have by5 : By w5 sq C kf := ow_by0 own5; have hF5 := hFk.kept gk5) | (go_at_call 20; refine (fLayY b s qf C n 256 _ hz k hlt sq cq kf h2k (fun i _ => h2k i) w5 hF5 by5).mono ?_; rintro e V6 ⟨rfl, hF6, g6⟩))
        all_goals have hav : Hid (allB t C (k + 1) = av) := by unfold Hid; rw [HA.out]; simp
        all_goals refine ⟨⟨k + 1, hlt, by go_num, ?_, hF6.congr (fun i _ => HY.out (by first | trivial | rfl) i), gb_past (gb_trans Gk gk5) g6 (Nat.le_trans g1.size lq)⟩, by simp [intOf]; omega⟩
        all_goals first | (rw [hav.out, show av = true from by assumption]) | (rw [hav.out, show av = false from by simpa using (show ¬ av = true from by assumption)])
      · have q1 : ((kn : Int) == (C : Int)) = false := by simp; omega
        go_wp2_with (first | (at_builtin; refine app_by wr rfl _ _ rfl rfl kp kn kc kf rfl hby hnk hkk ?_; intro v1 w5 own5 gk5; obtain ⟨sq, cq, hv1⟩ := own_sl own5; subst hv1; have by5 : By w5 sq kn kf := ow_by0 own5; have hF5 := hFk.kept gk5) | (go_at_call 20; refine (fLayL b s qf C n 256 _ hz k hlt sq kn cq hc w5 hF5).mono ?_; rintro e V6 ⟨rfl, g6⟩))
        all_goals have hav : Hid (allB t C (k + 1) = false) := by unfold Hid; rw [HA.out, decide_eq_false hc, Bool.and_false]
        all_goals exact ⟨⟨k + 1, hlt, by go_num, by rw [hav.out], (hF5.kept g6).congr (fun i _ => HO.out hc i), gb_trans (gb_trans Gk gk5) g6⟩, by simp [intOf]; omega⟩
    · have hkn2 : ¬ ((k : Int) < (n : Int)) := by omega
      obtain rfl : n = k := by omega
      cases hal : allB t C n with
      | false =>
        have hbx := hbd b s qf (gL t C n)
        go_wp2
        refine wp_loop_rounds 1 ?_
        rw [rounds_succ]
        go_wp2_with (first | (go_at_call 32; refine (hbx wr hFk).mono ?_; rintro e V7 ⟨rfl, g7⟩))
        all_goals go_ret
        all_goals exact ⟨rfl, gb_trans Gk g7⟩
      | true =>
        have hbx := hbd b s qf (gL t C n)
        have hall := allB_is hal
        clear hal
        go_wp2
        go_loopw [12, 13] (fun vc vy w2 => ∃ j : Nat, j ≤ n ∧ vy = .int .i64 j ∧ vc = .int .i64 (popN (gL t C n) C j : Nat) ∧ w.grownBy w2 none ∧ Fb w2 b s qf C n 256 (gL t C n)) (fun _ vy _ => n - (intOf vy).toNat)
        case atStart => exact ⟨0, Nat.zero_le _, rfl, rfl, Gk, hFk⟩
        case round =>
          obtain ⟨j, hj, rfl, rfl, Gj, hFj⟩ := hrel
          obtain ⟨w2, hw2⟩ : ∃ w2, w2 = wr := ⟨_, rfl⟩
          subst hw2
          by_cases hjlt : j < n
          · have hjlt' : (j : Int) < (n : Int) := by omega
            obtain ⟨hc1j, hby⟩ := (hL.kept Gj) j hjlt
            have hnj := hall j hjlt
            have hGj : ∀ x, x < C → gL t C n (j * C + x) = (t j).kf x := fun x hx => gL_at t hx hjlt hnj
            have hG2 : ∀ x, (fun x => gL t C n (j * C + x)) x < 256 := fun x => gL_lt h256 C n (j * C + x)
            have hpn : Hid (popN (gL t C n) C (j + 1) = popN (gL t C n) C j + cnt (fun x => gL t C n (j * C + x)) C) := rfl
            have hpl := popN_le (gL t C n) C j
            have hrl := row_le (C := C) hjlt
            have hzall := hz.all
            rw [hnj] at hc1j hby
            obtain ⟨a, ha⟩ := hby.some hz.c0
            rw [ha] at hc1j hby
            have hby2 : By w2 (some a) C (fun x => gL t C n (j * C + x)) := hby.congr (fun x hx => (hGj x hx).symm)
            obtain ⟨kc, hkc⟩ : ∃ kc, (t j).kc = kc := ⟨_, rfl⟩
            rw [hkc] at hc1j
            clear hby ha hkc hnj hGj
            have hli := fLineY b s qf C n 256 (gL t C n) hz j hjlt w2 hFj
            obtain ⟨G, hG⟩ : ∃ G, gL t C n = G := ⟨_, rfl⟩
            rw [hG] at hFj hG2 hpl hby2 hli ⊢
            have HPN : Hid (popN G C (j + 1) = popN G C j + cnt (fun x => G (j * C + x)) C) := rfl
            have hget := fun (x : Nat) (hx : x < C) (w : World) (h : Fb w b s qf C n 256 G) => fGetY b s qf C n 256 G hz x j hx hjlt w h
            obtain ⟨P0, hP0⟩ : ∃ P0, popN G C j = P0 := ⟨_, rfl⟩
            rw [hP0] at hpl HPN ⊢
            clear hpn hP0
            go_wp2_with (first | (go_at_call 17; refine hli.mono ?_; rintro e w3 ⟨d, rfl, r3, ld, g3⟩; have hb3 := hby2.kept g3 (by simp); have hF3 := hFj.kept g3; have hd3 := by_row r3; have hc3 : w3.cell? ⟨q, o + j, none⟩ = some (.slice (some a) C kc) := (by have hl := cell_lt hc1j; rw [World.cell?, g3.block _ hl (by simp)]; exact hc1j)) | (go_at_call 23; refine (sameY (some ⟨d, 0, none⟩) (some a) C C kc (fun x => G (j * C + x)) hG2 w3 hd3 hb3).mono ?_; rintro e V8 ⟨rfl, hV8⟩; subst V8))
            go_loopw [12, 16] (fun vc vx w4 => ∃ i : Nat, i ≤ C ∧ vx = .int .i64 i ∧ vc = .int .i64 ((P0 + cnt (fun x => G (j * C + x)) i : Nat) : Int) ∧ w3.grownBy w4 none) (fun _ vx _ => C - (intOf vx).toNat)
            case atStart => exact ⟨0, Nat.zero_le _, rfl, rfl, World.grownBy.refl _ _⟩
            case round =>
              obtain ⟨i, hi, rfl, rfl, Gi⟩ := hrel
              obtain ⟨w4, hw4⟩ : ∃ w4, w4 = wr := ⟨_, rfl⟩
              subst hw4
              by_cases hil : i < C
              · have hil' : (i : Int) < (C : Int) := by omega
                have hgi := hget i hil w4 (hF3.kept Gi)
                have hci := (hb3.kept Gi (by simp)).at hil
                have hcj : w4.cell? ⟨q, o + j, none⟩ = some (.slice (some a) C kc) := by
                  have hl := cell_lt hc3
                  rw [World.cell?, Gi.block _ hl (by simp)]
                  exact hc3
                obtain ⟨u, hu⟩ : ∃ u, (fun x => G (j * C + x)) i = u := ⟨_, rfl⟩
                have hcs : Hid (cnt (fun x => G (j * C + x)) (i + 1) = cnt (fun x => G (j * C + x)) i + if u = 0 then 0 else 1) := by unfold Hid; rw [cnt]; show _ + (if (fun x => G (j * C + x)) i = 0 then 0 else 1) = _; rw [hu]
                have hcb := cnt_le (fun x => G (j * C + x)) i
                have hu' : G (j * C + i) = u := hu
                rw [hu'] at hgi
                have q0 : ((u : Int) != (u : Int)) = false := by simp
                obtain ⟨cc, hcc⟩ : ∃ cc, cnt (fun x => G (j * C + x)) i = cc := ⟨_, rfl⟩
                rw [hcc] at hcs hcb ⊢
                by_cases hu0 : u = 0
                · have q1 : ((u : Int) != 0) = false := by simp [hu0]
                  go_wp2_with (first | (go_at_call 16; refine hgi.mono ?_; rintro e w5 ⟨rfl, g5⟩; have hci5 := (hb3.kept (gb_trans Gi g5) (by simp)).at hil; rw [hu] at hci5; have hcj5 : w5.cell? ⟨q, o + j, none⟩ = some (.slice (some a) C kc) := (by have hl := cell_lt hcj; rw [World.cell?, g5.block _ hl (by simp)]; exact hcj); clear hci hcj))
                  all_goals exact ⟨⟨i + 1, hil, by go_num, by rw [hcs.out, if_pos hu0]; go_num, gb_trans Gi g5⟩, by simp [intOf]; omega⟩
                · have q1 : ((u : Int) != 0) = true := by simp [hu0]
                  go_wp2_with (first | (go_at_call 16; refine hgi.mono ?_; rintro e w5 ⟨rfl, g5⟩; have hci5 := (hb3.kept (gb_trans Gi g5) (by simp)).at hil; rw [hu] at hci5; have hcj5 : w5.cell? ⟨q, o + j, none⟩ = some (.slice (some a) C kc) := (by have hl := cell_lt hcj; rw [World.cell?, g5.block _ hl (by simp)]; exact hcj); clear hci hcj))
                  all_goals exact ⟨⟨i + 1, hil, by go_num, by rw [hcs.out, if_neg hu0]; go_num, gb_trans Gi g5⟩, by simp [intOf]; omega⟩
              · have hin : ¬ ((i : Int) < (C : Int)) := by omega
                obtain rfl : C = i := by omega
                go_wp2
                all_goals exact ⟨⟨j + 1, hjlt, by go_num, by rw [HPN.out], gb_trans Gj (gb_trans g3 Gi), hG ▸ (hF3.kept Gi)⟩, by simp [intOf]; omega⟩
          · have hjn : ¬ ((j : Int) < (n : Int)) := by omega
            obtain rfl : n = j := by omega
            have hpp := fPop b s qf C n 256 (gL t C n) hz w2 hFj
            have q0 : ((popN (gL t C n) C n : Int) == (popN (gL t C n) C n : Int)) = true := by simp
            generalize popN (gL t C n) C n = pp at hpp q0
            go_wp2_with (first | (go_at_call 28; refine hpp.mono ?_; rintro e w3 ⟨rfl, g3⟩; have hF3 := hFj.kept g3) | (go_at_call 32; refine (hbx w3 hF3).mono ?_; rintro e w4 ⟨rfl, g4⟩))
            all_goals go_ret
            all_goals exact ⟨rfl, gb_trans Gj (gb_trans g3 g4)⟩
end Go.Proofs.Ytbiilklihieomaa
