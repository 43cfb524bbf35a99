/- The document's Line. -/
import Derived.Test.YtijjbejilpglnaaGreatN39
namespace Go.Proofs.YtijjbejilpglnaaGreat
open Go.RowKit
set_option linter.unusedVariables false
set_option linter.unusedSimpArgs false
set_option maxRecDepth 100000

namespace Ln
theorem numberC (n : Int) (w : World) : Calls Tryz.prog 39 #[.int .i64 n] w fun e w' => e = .returned (.int .i64 (ckG n)) ∧ w' = w := by
  unfold ckG
  by_cases h1 : n < 0
  · rw [if_pos h1]
    go_enter Tryz.func39, Tryz.ntmps39
    go_wp2
    go_ret
    exact ⟨rfl, rfl⟩
  · rw [if_neg h1]
    by_cases h2 : 1125899906842624 < n
    · rw [if_pos h2]
      go_enter Tryz.func39, Tryz.ntmps39
      go_wp2
      go_ret
      exact ⟨rfl, rfl⟩
    · rw [if_neg h2]
      go_enter Tryz.func39, Tryz.ntmps39
      go_wp2
      go_ret
      exact ⟨rfl, rfl⟩
/-- What Line answers, where it is not refused. -/
def lnB (h : Nat → Int) (m : Nat) (n p : Int) : Bool := if lnE h m n = 0 then gen h m n.toNat oneA p else false
theorem lnE_ck {h : Nat → Int} {m : Nat} {n r : Int} (e : ckO (onL h) m 64 = r) (hr : r ≠ 0) : lnE h m n = r := by
  unfold lnE
  show (if ckO (onL h) m 64 = 0 then _ else ckO (onL h) m 64) = r
  rw [e, if_neg hr]
theorem lnE_g {h : Nat → Int} {m : Nat} {n : Int} (e : ckO (onL h) m 64 = 0) : lnE h m n = ckG n := by
  unfold lnE
  show (if ckO (onL h) m 64 = 0 then (if ckG n = 0 then 0 else ckG n) else _) = _
  rw [if_pos e]
  split
  · rename_i h; exact h.symm
  · rfl
theorem lnB_no {h : Nat → Int} {m : Nat} {n p : Int} (e : lnE h m n ≠ 0) : lnB h m n p = false := if_neg e
theorem take_getD (C : List Pt) (i : Nat) (h : i < C.length) : C.take (i + 1) = C.take i ++ [C.getD i (0, 0)] := by
  rw [List.take_add_one, List.getElem?_eq_getElem h, List.getD_eq_getElem?_getD, List.getElem?_eq_getElem h]
  rfl
theorem tmod_even {x : Int} (h : x % 2 = 0) : Int.tmod x 2 = 0 := Int.tmod_eq_zero_of_dvd (Int.dvd_of_emod_eq_zero h)
theorem tdiv_even {x : Int} (h : x % 2 = 0) : Int.tdiv x 2 = x / 2 := Int.tdiv_eq_ediv_of_dvd (Int.dvd_of_emod_eq_zero h)
theorem tmod_odd {x : Int} (h : ¬ x % 2 = 0) : ¬ Int.tmod x 2 = 0 := fun e => h (Int.emod_eq_zero_of_dvd (Int.dvd_of_tmod_eq_zero e))
theorem wi_one (p : Int) : Wi [(p, 0)] p (p + 128) := ⟨List.pairwise_singleton _ _, fun q hq => by
  have : q = (p, 0) := by simpa using hq
  subst this
  exact ⟨rfl, by simp only; omega, by simp only; omega⟩⟩
theorem wi_nil (lo hi : Int) : Wi [] lo hi := ⟨List.Pairwise.nil, fun q hq => by cases hq⟩
set_option maxHeartbeats 8000000 in
theorem refLineC (sp : Option Addr) (m c : Nat) (h : Nat → Int) (hh : ∀ k, k < m → -9223372036854775808 ≤ h k ∧ h k ≤ 9223372036854775807) (hm : m < 1000000000) (n p : Int) (hp : -9223372036854775808 ≤ p ∧ p ≤ 9223372036854775807) (w : World) (H : In w sp m h) :
    Calls Tryz.prog 26 #[.slice sp m c, .int .i64 n, .int .i64 p] w fun e w' => e = .returned (.tuple #[.bool (lnB h m n p), .int .i64 (lnE h m n)]) ∧ w.grownBy w' none := by
  obtain ⟨i0, HI⟩ : ∃ i, Hid (Tryz.prog.info? 25 = some i ∧ i.zero = some (.agg #[.int .i64 0, .int .i64 0]) ∧ i.size = 2 ∧ i.bytes = 16) := by
    obtain ⟨i, h1, h2, h3, h4⟩ := info_parts infoK
    exact ⟨i, h1, h2, h3, h4⟩
  by_cases h64 : 64 < m
  · have h64' : (64 : Int) < (m : Int) := by omega
    have e1 : lnE h m n = 6 := lnE_ck (by unfold ckO; rw [if_pos h64]) (by omega)
    rw [lnB_no (by rw [e1]; omega), e1]
    go_enter Tryz.func26, Tryz.ntmps26
    go_wp2
    go_ret2
    exact ⟨rfl, World.grownBy.refl _ _⟩
  have h64' : ¬ (64 : Int) < (m : Int) := by omega
  obtain ⟨rB, hrB⟩ : ∃ r, lnB h m n p = r := ⟨_, rfl⟩
  obtain ⟨rE, hrE⟩ : ∃ r, lnE h m n = r := ⟨_, rfl⟩
  have HRB : Hid (lnB h m n p = rB) := hrB
  have HRE : Hid (lnE h m n = rE) := hrE
  rw [hrB, hrE]
  clear hrB hrE hh
  have HM : Hid (¬ 64 < m) := h64
  go_enter Tryz.func26, Tryz.ntmps26
  go_wp2
  go_loopw [8] (fun v wr => ∃ i : Nat, i ≤ m ∧ v = .int .i64 i ∧ w.grownBy wr none ∧ Hid (∀ k, k < i → -64 ≤ h k ∧ h k ≤ 64)) (fun v _ => m - (intOf v).toNat)
  case atStart => exact ⟨0, Nat.zero_le _, rfl, World.grownBy.refl _ _, fun a ha => by omega⟩
  case round =>
    obtain ⟨i, hi, rfl, gi, HS⟩ := hrel
    by_cases hlt : i < m
    · have hlt' : (i : Int) < (m : Int) := by omega
      obtain ⟨q, o, rfl, c0⟩ := (H.kept gi (by simp)) i hlt
      have HB : Hid (¬ (-64 ≤ h i ∧ h i ≤ 64) → rB = false ∧ rE = 5) := fun hb => by
        have e : lnE h m n = 5 := lnE_ck (by unfold ckO; rw [if_neg HM.out, if_pos (alW_bad hlt (by rw [inW_is, inW_is]; unfold onL; simp only; omega))]) (by omega)
        exact ⟨by rw [← HRB.out]; exact lnB_no (by rw [e]; omega), by rw [← HRE.out, e]⟩
      have HG : Hid (-64 ≤ h i ∧ h i ≤ 64 → ∀ k, k < i + 1 → -64 ≤ h k ∧ h k ≤ 64) := fun hg k hk => by
        by_cases e : k = i
        · subst e; exact hg
        · exact HS.out k (by omega)
      obtain ⟨x, hx⟩ : ∃ x, h i = x := ⟨_, rfl⟩
      rw [hx] at c0 HB HG
      clear hx HS
      by_cases h1 : x < -64
      · obtain ⟨e1, e2⟩ := HB.out (by omega)
        subst e1
        subst e2
        go_wp2
        go_ret2
        exact ⟨rfl, by first | exact gi | exact gb_drew gi | exact gb_drewN gi _⟩
      · by_cases h2 : 64 < x
        · obtain ⟨e1, e2⟩ := HB.out (by omega)
          subst e1
          subst e2
          go_wp2
          go_ret2
          exact ⟨rfl, by first | exact gi | exact gb_drew gi | exact gb_drewN gi _⟩
        · have HS1 : Hid (∀ k, k < i + 1 → -64 ≤ h k ∧ h k ≤ 64) := HG.out (by omega)
          clear HB HG
          go_wp2
          go_roundw
          case rel => exact ⟨i + 1, by omega, by go_num, by first | exact gi | exact gb_drew gi | exact gb_drewN gi _, HS1.out⟩
          case measure => simp [intOf]; omega
    · have hin : i = m := by omega
      subst hin
      have hlt' : ¬ (i : Int) < (i : Int) := by omega
      have HAL : Hid (∀ k, k < i → -64 ≤ h k ∧ h k ≤ 64) := HS.out
      clear HS
      go_wp2
      go_loopw [9] (fun v wr => ∃ a : Nat, a ≤ i ∧ v = .int .i64 a ∧ w.grownBy wr none ∧ Hid (∀ x y, x < y → y < a → h x ≠ h y)) (fun v _ => i - (intOf v).toNat)
      case atStart => exact ⟨0, Nat.zero_le _, rfl, gi, fun x y _ hb => by omega⟩
      case round =>
        obtain ⟨a, ha, rfl, ga, HD⟩ := hrel
        by_cases hla : a < i
        · have hla' : (a : Int) < (i : Int) := by omega
          go_wp2
          go_loopw [10] (fun v wr => ∃ k : Nat, k ≤ a ∧ v = .int .i64 k ∧ w.grownBy wr none ∧ Hid (∀ x, x < k → h x ≠ h a)) (fun v _ => a - (intOf v).toNat)
          case atStart => exact ⟨0, Nat.zero_le _, rfl, ga, fun x hx => by omega⟩
          case round =>
            obtain ⟨k, hk, rfl, gk, HK⟩ := hrel
            by_cases hkt : k < a
            · have hkt' : (k : Int) < (a : Int) := by omega
              obtain ⟨q, o, rfl, c0⟩ := (H.kept gk (by simp)) a hla
              obtain ⟨q2, o2, hq, d0⟩ := (H.kept gk (by simp)) k (by omega)
              obtain ⟨rfl, rfl⟩ : q = q2 ∧ o = o2 := by simpa using hq
              by_cases he : h k = h a
              · have e : lnE h i n = 170 := lnE_ck (by
                  unfold ckO
                  rw [if_neg HM.out, if_neg (by rw [(alW_is 64 (onL h) i).2 (fun k hk => by rw [inW_is, inW_is]; have := HAL.out k hk; unfold onL; simp only; omega)]; simp), tw_yes (f := onL h) hkt hla (by unfold onL; rw [he])]
                  rfl) (by omega)
                have e1 : rB = false := by rw [← HRB.out]; exact lnB_no (by rw [e]; omega)
                have e2 : rE = 170 := by rw [← HRE.out, e]
                subst e1
                subst e2
                rw [he] at d0
                have hb : (h a == h a) = true := by simp
                generalize h a = x at c0 d0 hb
                clear HD HK hq e
                go_wp2
                first | go_ret2 | (go_quiet (fail); go_wp2; go_ret2)
                exact ⟨rfl, by first | exact gk | exact gb_drew gk | exact gb_drewN gk _⟩
              · have HK1 : Hid (∀ x, x < k + 1 → h x ≠ h a) := fun x hx => by
                  by_cases e : x = k
                  · subst e; exact he
                  · exact HK.out x (by omega)
                have hb : (h a == h k) = false := by simp; exact fun e => he e.symm
                generalize h a = x at c0 hb HK1
                generalize h k = y at d0 hb
                clear HD HK hq he
                go_wp2
                first | go_roundw | (go_quiet (fail); go_wp2; go_roundw)
                case rel => exact ⟨k + 1, by omega, by go_num, by first | exact gk | exact gb_drew gk | exact gb_drewN gk _, HK1.out⟩
                case measure => simp [intOf]; omega
            · have hin : k = a := by omega
              subst hin
              have hkt' : ¬ (k : Int) < (k : Int) := by omega
              have HD1 : Hid (∀ x y, x < y → y < k + 1 → h x ≠ h y) := fun x y hxy hy => by
                by_cases e : y = k
                · subst e; exact HK.out x hxy
                · exact HD.out x y hxy (by omega)
              go_wp2
              go_roundw
              case rel => exact ⟨k + 1, by omega, by go_num, gk, HD1.out⟩
              case measure => simp [intOf]; omega
        · have hin : a = i := by omega
          subst hin
          have hla' : ¬ (a : Int) < (a : Int) := by omega
          have hck : ckO (onL h) a 64 = 0 := by
            unfold ckO
            rw [if_neg HM.out, if_neg (by rw [(alW_is 64 (onL h) a).2 (fun k hk => by rw [inW_is, inW_is]; have := HAL.out k hk; unfold onL; simp only; omega)]; simp), tw_no (fun x y hxy hy e => HD.out x y hxy hy (by unfold onL at e; simp at e; exact e))]
            rfl
          have hEG : rE = ckG n := by rw [← HRE.out]; exact lnE_g hck
          have kN := fun w1 => numberC n w1
          rw [← hEG] at kN
          by_cases hE0 : rE = 0
          · have hgn : 0 ≤ n ∧ n ≤ 1125899906842624 := by
              have : ckG n = 0 := by rw [← hEG]; exact hE0
              unfold ckG at this
              split at this
              · omega
              · split at this <;> omega
            have hBn : rB = gen h a n.toNat oneA p := by rw [← HRB.out]; unfold lnB; rw [HRE.out, if_pos hE0]
            subst hE0
            obtain ⟨M, hM⟩ : ∃ M : Nat, n = (M : Int) := ⟨n.toNat, by omega⟩
            subst hM
            rw [Int.toNat_natCast] at hBn
            have HBn : Hid (gen h a M oneA p = rB) := hBn.symm
            have w64 : IntKind.i64.wrap (64 * (M : Int)) = 64 * (M : Int) := by rw [IntKind.wrap_i64]; omega
            have w64' : IntKind.i64.wrap (-64 * (M : Int)) = -64 * (M : Int) := by rw [IntKind.wrap_i64]; omega
            clear hck hEG HD HRB HRE hBn
            by_cases hf1 : 64 * (M : Int) < p
            · have e1 : rB = false := by rw [← HBn.out]; exact gen_far h a HAL.out M p (by omega)
              subst e1
              go_wp2_with (first | (go_at_call 39; refine (kN _).mono ?_; rintro e w' ⟨rfl, hw'⟩; subst w') | go_in)
              go_ret2
              exact ⟨rfl, ga⟩
            · by_cases hf2 : p < -64 * (M : Int)
              · have e1 : rB = false := by rw [← HBn.out]; exact gen_far h a HAL.out M p (by omega)
                subst e1
                go_wp2_with (first | (go_at_call 39; refine (kN _).mono ?_; rintro e w' ⟨rfl, hw'⟩; subst w') | go_in)
                go_ret2
                exact ⟨rfl, ga⟩
              · have hM50 : M ≤ 1125899906842624 := by omega
                have hpb : -72057594037927936 ≤ p ∧ p ≤ 72057594037927936 := by omega
                obtain ⟨W2, hW2, sz2, g2, B2⟩ := boxn wr #[.int .i64 p, .int .i64 0] 25
                have P2 : Pl W2 (some ⟨wr.heap.size, 0, none⟩) 1 (fun k => ([(p, 0)] : List Pt).getD k (0, 0)) := pl_lit (ps := [(p, 0)]) B2 rfl
                have HG2 : Hid (w.grownBy W2 none) := gb_trans ga g2
                have HP2 : Hid (parC (gen h a M oneA) [(p, 0)] = rB) := by unfold Hid; rw [parC_cons, parC_nil, HBn.out]; cases rB <;> rfl
                obtain ⟨m, hma⟩ : ∃ m, m = a := ⟨_, rfl⟩
                subst hma
                go_wp2_with (first | (go_at_call 39; refine (kN _).mono ?_; rintro e w' ⟨rfl, hw'⟩; subst w') | go_in)
                clear kN HBn w64 w64' hf1 hf2 B2 hW2 sz2 g2 ga
                go_loopw [1, 12] (fun a b wr => ∃ (N nC : Nat) (C : List Pt) (sp2 : Option Addr) (cap2 : Nat) (lo : Int), a = .int .i64 N ∧ b = .slice sp2 nC cap2 ∧ Hid (C.length = nC) ∧ Pl wr sp2 nC (fun k => C.getD k (0, 0)) ∧ Hid (Wi C lo (lo + 128)) ∧ (-144115188075855872 ≤ lo ∧ lo ≤ 144115188075855872) ∧ Hid (parC (gen h m N oneA) C = rB) ∧ w.grownBy wr none ∧ N ≤ 1125899906842624 ∧ nC ≤ 129) (fun a _ _ => (intOf a).toNat)
                case atStart => exact ⟨M, 1, [(p, 0)], _, _, p, rfl, rfl, rfl, P2, wi_one p, by omega, HP2.out, HG2.out, by omega, by omega⟩
                case round =>
                  obtain ⟨N, nC, C, sp2, cap2, lo, rfl, rfl, HL, PC, HW, hlo, HPAR, gN, hN50, hnC⟩ := hrel
                  by_cases hN0 : N = 0
                  · subst hN0
                    have HP0 : Hid (parC oneA C = rB) := HPAR.out
                    clear HPAR
                    go_wp2
                    go_loopw [18] (fun v wr => ∃ i : Nat, i ≤ nC ∧ v = .int .i64 i ∧ w.grownBy wr none ∧ Pl wr sp2 nC (fun k => C.getD k (0, 0)) ∧ Hid (∀ k, k < i → (C.getD k (0, 0)).1 ≠ 0)) (fun v _ => nC - (intOf v).toNat)
                    case atStart => exact ⟨0, Nat.zero_le _, rfl, gN, PC, fun x hx => by omega⟩
                    case round =>
                      obtain ⟨i, hi, rfl, gi, Pi, HS⟩ := hrel
                      by_cases hlt : i < nC
                      · have hlt' : (i : Int) < (nC : Int) := by omega
                        obtain ⟨q, o, rfl, c0, c1⟩ := Pi i hlt
                        have hmem := getD_mem C i (by rw [HL.out]; exact hlt)
                        have hon := HW.out.on _ hmem
                        by_cases he : (C.getD i (0, 0)).1 = 0
                        · have e1 : rB = true := by
                            rw [← HP0.out]
                            refine parC_yes HW.out.sd.nodup (fun q hq => (HW.out.on q hq).1) ?_
                            have : C.getD i (0, 0) = (0, 0) := Prod.ext he hon.1
                            rw [← this]
                            exact hmem
                          subst e1
                          rw [he] at c0
                          clear HS hmem hon he HP0
                          go_wp2
                          first | go_ret2 | (go_quiet (fail); go_wp2; go_ret2)
                          exact ⟨rfl, by first | exact gi | exact gb_drew gi | exact gb_drewN gi _⟩
                        · have HS1 : Hid (∀ k, k < i + 1 → (C.getD k (0, 0)).1 ≠ 0) := fun k hk => by
                            by_cases e : k = i
                            · subst e; exact he
                            · exact HS.out k (by omega)
                          obtain ⟨x, hx⟩ : ∃ x, (C.getD i (0, 0)).1 = x := ⟨_, rfl⟩
                          rw [hx] at c0 he
                          have hb : (x == 0) = false := by simp [he]
                          clear HS hmem hon hx c1
                          go_wp2
                          first | go_roundw | (go_quiet (fail); go_wp2; go_roundw)
                          case rel => exact ⟨i + 1, by omega, by go_num, by first | exact gi | exact gb_drew gi | exact gb_drewN gi _, by first | exact Pi | exact Pi.kept (gb_drewN (World.grownBy.refl _ none) _) (by simp), HS1.out⟩
                          case measure => simp [intOf]; omega
                      · have hin : i = nC := by omega
                        subst hin
                        have hlt' : ¬ (i : Int) < (i : Int) := by omega
                        have e1 : rB = false := by
                          rw [← HP0.out]
                          refine parC_no (fun q hq => ?_)
                          obtain ⟨k, hk, e⟩ := List.getElem_of_mem hq
                          have := HS.out k (by rw [← HL.out]; exact hk)
                          rw [List.getD_eq_getElem?_getD, List.getElem?_eq_getElem hk] at this
                          rw [← e]
                          exact this
                        subst e1
                        go_wp2
                        go_ret2
                        exact ⟨rfl, gi⟩
                  · have hNp : (0 : Int) < (N : Int) := by omega
                    obtain ⟨K, hK⟩ : ∃ K, N / 2 = K := ⟨_, rfl⟩
                    have hdvN : Int.tdiv (N : Int) 2 = (K : Int) := by rw [Int.tdiv_eq_ediv_of_nonneg (by omega)]; omega
                    have hwK : IntKind.i64.wrap (K : Int) = (K : Int) := by rw [IntKind.wrap_i64]; omega
                    have hKN : K < N := by omega
                    by_cases hodd : N % 2 = 1
                    · have hrm : Int.tmod (N : Int) 2 = 1 := by rw [Int.tmod_eq_emod_of_nonneg (by omega)]; omega
                      have HPG : Hid (parC (parA h m (gen h m (2 * K) oneA)) C = rB) := by
                        have := HPAR.out
                        rw [show N = 2 * K + 1 by omega, gen_out] at this
                        exact this
                      clear HPAR hodd hK
                      obtain ⟨wN, hwN⟩ : ∃ W, W = wr := ⟨_, rfl⟩
                      subst hwN
                      go_wp2
                      go_loopw [14, 13] (fun a b wr => ∃ (i nM : Nat) (M : List Pt) (ov : Value), i ≤ nC ∧ a = .int .i64 i ∧ b = ov ∧ Hid (M.length = nM) ∧ nM ≤ 257 ∧ wr.ownsRow wN.heap.size 25 2 ov nM (fl M) ∧ Hid (Wi M (lo - 64) (lo + 192)) ∧ Hid (∀ G, parC G M = parC (parA h m G) (C.take i)) ∧ wN.grownBy wr none) (fun a _ _ => nC - (intOf a).toNat)
                      case atStart => exact ⟨0, 0, [], _, Nat.zero_le _, rfl, rfl, rfl, by omega, World.ownsRow_nil _ _ _ _, wi_nil _ _, fun G => rfl, World.grownBy.refl _ _⟩
                      case round =>
                        obtain ⟨i, nM, M, ov, hi, rfl, hov, HML, hnM, own, HMW, HMP, gi⟩ := hrel
                        subst hov
                        by_cases hlt : i < nC
                        · have hlt' : (i : Int) < (nC : Int) := by omega
                          have hon := HW.out.on (C.getD i (0, 0)) (getD_mem C i (by rw [HL.out]; exact hlt))
                          have htk : C.take (i + 1) = C.take i ++ [C.getD i (0, 0)] := take_getD C i (by rw [HL.out]; exact hlt)
                          obtain ⟨x, hx⟩ : ∃ x, (C.getD i (0, 0)).1 = x := ⟨_, rfl⟩
                          have HTK : Hid (∀ F, parC F (C.take (i + 1)) = Bool.xor (parC F (C.take i)) (F x)) := fun F => by rw [htk, parC_app, parC_cons, parC_nil, hx]; cases F x <;> rfl
                          have HX : Hid ((C.getD i (0, 0)).1 = x) := hx
                          rw [hx] at hon
                          have hxb := hon.2
                          clear htk hx hon
                          go_wp2
                          go_loopw [15, 13] (fun a b wr => ∃ (k nM : Nat) (M : List Pt) (ov : Value), k ≤ m ∧ a = .int .i64 k ∧ b = ov ∧ Hid (M.length = nM) ∧ nM ≤ 257 ∧ wr.ownsRow wN.heap.size 25 2 ov nM (fl M) ∧ Hid (Wi M (lo - 64) (lo + 192)) ∧ Hid (∀ G, parC G M = Bool.xor (parC (parA h m G) (C.take i)) (parA h k G x)) ∧ wN.grownBy wr none) (fun a _ _ => m - (intOf a).toNat)
                          case atStart => exact ⟨0, nM, M, _, Nat.zero_le _, rfl, rfl, HML.out, hnM, own, HMW.out, fun G => by rw [HMP.out G]; show _ = Bool.xor _ false; rw [Bool.xor_false], gi⟩
                          case round =>
                            obtain ⟨k, nM, M, ov, hk, rfl, hov, HML, hnM, own, HMW, HMP, gk⟩ := hrel
                            subst hov
                            obtain ⟨sM, cM, rfl, PM, _⟩ := own_shape0 own HML.out
                            by_cases hkt : k < m
                            · have hkt' : (k : Int) < (m : Int) := by omega
                              obtain ⟨q, o, rfl, c0, c1⟩ := (PC.kept gk (by simp)) i hlt
                              rw [HX.out] at c0
                              obtain ⟨q2, o2, rfl, d0⟩ := (H.kept (gb_trans gN gk) (by simp)) k hkt
                              have hhk := HAL.out k hkt
                              have HY : Hid (∀ G, parA h (k + 1) G x = Bool.xor (parA h k G x) (G (x + h k))) := fun G => rfl
                              obtain ⟨y, hy⟩ : ∃ y, h k = y := ⟨_, rfl⟩
                              rw [hy] at d0 hhk HY
                              have hwy : IntKind.i64.wrap (x + y) = x + y := by rw [IntKind.wrap_i64]; omega
                              have kT := fun w1 (g1 : wr.grownBy w1 none) => turnedC sM nM cM (fun k => M.getD k (0, 0)) (by omega) (x + y) 0 w1 (PM.kept g1 (by simp))
                              have hps : psL (fun k => M.getD k (0, 0)) nM = M := by rw [← HML.out]; exact psL_self M
                              rw [hps] at kT
                              have HWT : Hid (Wi (tnL M (x + y, 0)) (lo - 64) (lo + 192)) := HMW.out.turned (by omega)
                              have hTl : (tnL M (x + y, 0)).length ≤ 257 := by have := HWT.out.len; omega
                              have HTP : Hid (∀ G, parC G (tnL M (x + y, 0)) = Bool.xor (parC (parA h m G) (C.take i)) (parA h (k + 1) G x)) := fun G => by
                                rw [parC_tnL, HMP.out G, HY.out G]
                                cases parC (parA h m G) (C.take i) <;> cases parA h k G x <;> cases G (x + y) <;> rfl
                              obtain ⟨T, hT⟩ : ∃ T, tnL M (x + y, 0) = T := ⟨_, rfl⟩
                              rw [hT] at kT HWT hTl HTP
                              have gdr : wr.grownBy wr.drew none := gb_drew (World.grownBy.refl wr none)
                              have e0 := gdr.cell c0 (by simp)
                              have e1 := gdr.cell d0 (by simp)
                              have kT0 := kT wr.drew gdr
                              clear hT hps hy HMP HMW own PM HY c1 kT
                              go_wp2
                              go_region_held2 (fun w' => w'.cell? ⟨q, o + i * 2, none⟩ = some (.int .i64 x) ∧ w'.cell? ⟨q2, o2 + k, none⟩ = some (.int .i64 y)) (go_keep) (first | (go_at_call 32; refine kT0.mono ?_; rintro e w2 ⟨v2, rfl, own2, g2⟩; clear kT0; have f0 := g2.cell e0 (by simp); have f1 := g2.cell e1 (by simp)))
                              go_wp2
                              go_roundw
                              case rel => first | exact ⟨k + 1, T.length, T, v2, by omega, by go_num, rfl, rfl, hTl, own_less own2 (gb_trans gk gdr).size, HWT.out, HTP.out, gb_trans gk (gb_trans gdr g2)⟩ | exact ⟨v2, .int .i64 ((k : Int) + 1), .int .i64 (k : Int), .slice (some ⟨q2, o2, none⟩) m c, .int .i64 (m : Int), .bool true, .int .i64 (k : Int), .int .i64 ((k : Int) + 1), .slice sM nM cM, .slice (some ⟨q, o, none⟩) nC cap2, .int .i64 (i : Int), .pointer (some ⟨q, o + i * 2, none⟩), .pointer (some ⟨q, o + i * 2, none⟩), .int .i64 x, .slice (some ⟨q2, o2, none⟩) m c, .int .i64 (k : Int), .pointer (some ⟨q2, o2 + k, none⟩), .int .i64 y, .int .i64 (x + y), .agg #[.int .i64 (x + y), .int .i64 0], v2, ⟨k + 1, T.length, T, v2, by omega, by go_num, rfl, rfl, hTl, own_less own2 (gb_trans gk gdr).size, HWT.out, HTP.out, gb_trans gk (gb_trans gdr g2)⟩, by rw [show decide (0 < N) = true from decide_eq_true (by omega)]⟩
                              case measure => simp [intOf]; omega
                            · have hin : k = m := by omega
                              subst hin
                              have hkt' : ¬ (k : Int) < (k : Int) := by omega
                              go_wp2
                              go_roundw
                              case rel => exact ⟨i + 1, nM, M, _, by omega, by go_num, rfl, HML.out, hnM, own, HMW.out, fun G => by rw [HMP.out G, HTK.out], gk⟩
                              case measure => simp [intOf]; omega
                        · have hin : i = nC := by omega
                          subst hin
                          have hlt' : ¬ (i : Int) < (i : Int) := by omega
                          have htk : C.take i = C := List.take_of_length_le (by rw [HL.out]; exact Nat.le_refl _)
                          obtain ⟨sM, cM, rfl, PM, _⟩ := own_shape0 own HML.out
                          have HPM : Hid (parC (gen h m (2 * K) oneA) M = rB) := by unfold Hid; rw [HMP.out, htk]; exact HPG.out
                          have HWM : Hid (Wi M (lo - 64) (lo - 64 + 256)) := by have := HMW.out; rw [show lo + 192 = lo - 64 + 256 by omega] at this; exact this
                          have gws := gb_trans gN gi
                          obtain ⟨ws, hws⟩ : ∃ W, W = wr := ⟨_, rfl⟩
                          subst hws
                          clear own htk HMP HPG HMW PC
                          go_wp2
                          go_loopw [17, 16] (fun a b wr => ∃ (i nH : Nat) (ov : Value), i ≤ nM ∧ a = .int .i64 i ∧ b = ov ∧ Hid ((hfL (M.take i)).length = nH) ∧ nH ≤ i ∧ wr.ownsRow ws.heap.size 25 2 ov nH (fl (hfL (M.take i))) ∧ ws.grownBy wr none) (fun a _ _ => nM - (intOf a).toNat)
                          case atStart => exact ⟨0, 0, _, Nat.zero_le _, rfl, rfl, rfl, Nat.le_refl _, World.ownsRow_nil _ _ _ _, World.grownBy.refl _ _⟩
                          case round =>
                            obtain ⟨i, nH, ov, hi, rfl, hov, HH, hnH, own, gi⟩ := hrel
                            subst hov
                            by_cases hlt : i < nM
                            · have hlt' : (i : Int) < (nM : Int) := by omega
                              obtain ⟨q, o, rfl, c0, c1⟩ := (PM.kept gi (by simp)) i hlt
                              have hon := HWM.out.on (M.getD i (0, 0)) (getD_mem M i (by rw [HML.out]; exact hlt))
                              have htk : M.take (i + 1) = M.take i ++ [M.getD i (0, 0)] := take_getD M i (by rw [HML.out]; exact hlt)
                              obtain ⟨x, hx⟩ : ∃ x, (M.getD i (0, 0)).1 = x := ⟨_, rfl⟩
                              have HT : Hid (hfL (M.take (i + 1)) = hfL (M.take i) ++ (if x % 2 = 0 then [(x / 2, 0)] else [])) := by unfold Hid; rw [htk, hfL_snoc, hx]
                              rw [hx] at c0 hon
                              have hxb := hon.2
                              clear htk hx hon
                              by_cases he : x % 2 = 0
                              · have htm : Int.tmod x 2 = 0 := tmod_even he
                                have hdv : Int.tdiv x 2 = x / 2 := tdiv_even he
                                have hwd : IntKind.i64.wrap (x / 2) = x / 2 := by rw [IntKind.wrap_i64]; omega
                                obtain ⟨W3, hW3⟩ : ∃ W3, wr.alloc (.cells #[.int .i64 (x / 2), .int .i64 0] 25) = W3 := ⟨_, rfl⟩
                                have g3 : wr.grownBy W3 none := (by rw [← hW3]; exact World.grownBy_alloc _ _ _)
                                have nX : ∀ l u, [Value.int .i64 (x / 2), .int .i64 0][l]? = some u → W3.cell? ((⟨wr.heap.size, 0, none⟩ : Addr).add l) = some u := by rw [← hW3]; exact World.news_of_block (heap_alloc_new _ _)
                                have own3 := own.kept g3 (Classical.em _)
                                have hb3 : ws.heap.size ≤ W3.heap.size := (gb_trans gi g3).size
                                have how := fun gg e => own3.lt gg e
                                have HX : Hid (fl (hfL (M.take i)) ++ [.int .i64 (x / 2), .int .i64 0] = fl (hfL (M.take (i + 1)))) := by unfold Hid; rw [HT.out, if_pos he, fl_app]; rfl
                                have HL1 : Hid ((hfL (M.take (i + 1))).length = nH + 1) := by unfold Hid; rw [HT.out, if_pos he, List.length_append, HH.out]; rfl
                                clear own he
                                go_wp2_with (first | (at_builtin; refine wpList_append_lies _ rfl _ _ 23 rfl ws.heap.size 25 i0 (.agg #[.int .i64 0, .int .i64 0]) 2 16 underPS HI.out.1 HI.out.2.1 HI.out.2.2.1 HI.out.2.2.2 rfl (by decide) _ nH _ rfl own3 ⟨wr.heap.size, 0, none⟩ 1 1 [.int .i64 (x / 2), .int .i64 0] rfl rfl nX (by intro u hu; simp at hu; rcases hu with rfl | rfl <;> rfl) (by decide) (by unfold maxLen; omega) (by omega) hb3 _ rfl ?_; intro g6 c6 w6 own6 gg6 at6 lt6) | go_in)
                                go_roundw
                                case rel => first | exact ⟨i + 1, nH + 1, _, by omega, by go_num, rfl, HL1.out, by omega, by rw [← HX.out]; exact own6, (gb_trans gi g3).andThen gg6 (fun j hj => .inl (how j hj).1)⟩ | exact ⟨i + 1, by omega, by omega, nH + 1, HL1.out, by omega, by rw [← HX.out]; exact own6, (gb_trans gi g3).andThen gg6 (fun j hj => .inl (how j hj).1)⟩
                                case measure => simp [intOf]; omega
                              · obtain ⟨tm, htm⟩ : ∃ t, Int.tmod x 2 = t := ⟨_, rfl⟩
                                have htb : (tm == 0) = false := by simp; rw [← htm]; exact tmod_odd he
                                have HL1 : Hid ((hfL (M.take (i + 1))).length = nH) := by unfold Hid; rw [HT.out, if_neg he, List.append_nil, HH.out]
                                have HX : Hid (fl (hfL (M.take i)) = fl (hfL (M.take (i + 1)))) := by unfold Hid; rw [HT.out, if_neg he, List.append_nil]
                                clear he
                                go_wp2
                                go_roundw
                                case rel => exact ⟨i + 1, nH, _, by omega, by go_num, rfl, HL1.out, by omega, by rw [← HX.out]; exact own, gi⟩
                                case measure => simp [intOf]; omega
                            · have hin : i = nM := by omega
                              subst hin
                              have hlt' : ¬ (i : Int) < (i : Int) := by omega
                              have htk : M.take i = M := List.take_of_length_le (by rw [HML.out]; exact Nat.le_refl _)
                              rw [htk] at own HH
                              obtain ⟨sH, cH, rfl, PH, _⟩ := own_shape0 own HH.out
                              have HWH : Hid (Wi (hfL M) ((lo - 64) / 2) ((lo - 64) / 2 + 128)) := HWM.out.half rfl (by omega)
                              have hnl := HWH.out.len
                              have hnl2 : nH ≤ 129 := by have := HH.out; omega
                              have HPH : Hid (parC (gen h m K oneA) (hfL M) = rB) := by unfold Hid; rw [parC_half, ← parC_congr (gen_even h m K), HPM.out]
                              clear own hnl htk
                              go_wp2
                              go_roundw
                              case rel => exact ⟨K, nH, hfL M, sH, cH, (lo - 64) / 2, by go_num, rfl, HH.out, PH, HWH.out, by omega, HPH.out, gb_trans gws gi, by omega, by omega⟩
                              case measure => simp [intOf]; omega
                    · have hrm : Int.tmod (N : Int) 2 = 0 := by rw [Int.tmod_eq_emod_of_nonneg (by omega)]; omega
                      have HPM : Hid (parC (gen h m (2 * K) oneA) C = rB) := by
                        have := HPAR.out
                        rw [show N = 2 * K by omega] at this
                        exact this
                      clear HPAR hodd hK
                      obtain ⟨ws, hws⟩ : ∃ W, W = wr := ⟨_, rfl⟩
                      subst hws
                      go_wp2
                      go_loopw [17, 16] (fun a b wr => ∃ (i nH : Nat) (ov : Value), i ≤ nC ∧ a = .int .i64 i ∧ b = ov ∧ Hid ((hfL (C.take i)).length = nH) ∧ nH ≤ i ∧ wr.ownsRow ws.heap.size 25 2 ov nH (fl (hfL (C.take i))) ∧ ws.grownBy wr none) (fun a _ _ => nC - (intOf a).toNat)
                      case atStart => exact ⟨0, 0, _, Nat.zero_le _, rfl, rfl, rfl, Nat.le_refl _, World.ownsRow_nil _ _ _ _, World.grownBy.refl _ _⟩
                      case round =>
                        obtain ⟨i, nH, ov, hi, rfl, hov, HH, hnH, own, gi⟩ := hrel
                        subst hov
                        by_cases hlt : i < nC
                        · have hlt' : (i : Int) < (nC : Int) := by omega
                          obtain ⟨q, o, rfl, c0, c1⟩ := (PC.kept gi (by simp)) i hlt
                          have hon := HW.out.on (C.getD i (0, 0)) (getD_mem C i (by rw [HL.out]; exact hlt))
                          have htk : C.take (i + 1) = C.take i ++ [C.getD i (0, 0)] := take_getD C i (by rw [HL.out]; exact hlt)
                          obtain ⟨x, hx⟩ : ∃ x, (C.getD i (0, 0)).1 = x := ⟨_, rfl⟩
                          have HT : Hid (hfL (C.take (i + 1)) = hfL (C.take i) ++ (if x % 2 = 0 then [(x / 2, 0)] else [])) := by unfold Hid; rw [htk, hfL_snoc, hx]
                          rw [hx] at c0 hon
                          have hxb := hon.2
                          clear htk hx hon
                          by_cases he : x % 2 = 0
                          · have htm : Int.tmod x 2 = 0 := tmod_even he
                            have hdv : Int.tdiv x 2 = x / 2 := tdiv_even he
                            have hwd : IntKind.i64.wrap (x / 2) = x / 2 := by rw [IntKind.wrap_i64]; omega
                            obtain ⟨W3, hW3⟩ : ∃ W3, wr.alloc (.cells #[.int .i64 (x / 2), .int .i64 0] 25) = W3 := ⟨_, rfl⟩
                            have g3 : wr.grownBy W3 none := (by rw [← hW3]; exact World.grownBy_alloc _ _ _)
                            have nX : ∀ l u, [Value.int .i64 (x / 2), .int .i64 0][l]? = some u → W3.cell? ((⟨wr.heap.size, 0, none⟩ : Addr).add l) = some u := by rw [← hW3]; exact World.news_of_block (heap_alloc_new _ _)
                            have own3 := own.kept g3 (Classical.em _)
                            have hb3 : ws.heap.size ≤ W3.heap.size := (gb_trans gi g3).size
                            have how := fun gg e => own3.lt gg e
                            have HX : Hid (fl (hfL (C.take i)) ++ [.int .i64 (x / 2), .int .i64 0] = fl (hfL (C.take (i + 1)))) := by unfold Hid; rw [HT.out, if_pos he, fl_app]; rfl
                            have HL1 : Hid ((hfL (C.take (i + 1))).length = nH + 1) := by unfold Hid; rw [HT.out, if_pos he, List.length_append, HH.out]; rfl
                            clear own he
                            go_wp2_with (first | (at_builtin; refine wpList_append_lies _ rfl _ _ 23 rfl ws.heap.size 25 i0 (.agg #[.int .i64 0, .int .i64 0]) 2 16 underPS HI.out.1 HI.out.2.1 HI.out.2.2.1 HI.out.2.2.2 rfl (by decide) _ nH _ rfl own3 ⟨wr.heap.size, 0, none⟩ 1 1 [.int .i64 (x / 2), .int .i64 0] rfl rfl nX (by intro u hu; simp at hu; rcases hu with rfl | rfl <;> rfl) (by decide) (by unfold maxLen; omega) (by omega) hb3 _ rfl ?_; intro g6 c6 w6 own6 gg6 at6 lt6) | go_in)
                            go_roundw
                            case rel => first | exact ⟨i + 1, nH + 1, _, by omega, by go_num, rfl, HL1.out, by omega, by rw [← HX.out]; exact own6, (gb_trans gi g3).andThen gg6 (fun j hj => .inl (how j hj).1)⟩ | exact ⟨i + 1, by omega, by omega, nH + 1, HL1.out, by omega, by rw [← HX.out]; exact own6, (gb_trans gi g3).andThen gg6 (fun j hj => .inl (how j hj).1)⟩
                            case measure => simp [intOf]; omega
                          · obtain ⟨tm, htm⟩ : ∃ t, Int.tmod x 2 = t := ⟨_, rfl⟩
                            have htb : (tm == 0) = false := by simp; rw [← htm]; exact tmod_odd he
                            have HL1 : Hid ((hfL (C.take (i + 1))).length = nH) := by unfold Hid; rw [HT.out, if_neg he, List.append_nil, HH.out]
                            have HX : Hid (fl (hfL (C.take i)) = fl (hfL (C.take (i + 1)))) := by unfold Hid; rw [HT.out, if_neg he, List.append_nil]
                            clear he
                            go_wp2
                            go_roundw
                            case rel => exact ⟨i + 1, nH, _, by omega, by go_num, rfl, HL1.out, by omega, by rw [← HX.out]; exact own, gi⟩
                            case measure => simp [intOf]; omega
                        · have hin : i = nC := by omega
                          subst hin
                          have hlt' : ¬ (i : Int) < (i : Int) := by omega
                          have htk : C.take i = C := List.take_of_length_le (by rw [HL.out]; exact Nat.le_refl _)
                          rw [htk] at own HH
                          obtain ⟨sH, cH, rfl, PH, _⟩ := own_shape0 own HH.out
                          have HWH : Hid (Wi (hfL C) ((lo) / 2) ((lo) / 2 + 128)) := HW.out.half rfl (by omega)
                          have hnl := HWH.out.len
                          have hnl2 : nH ≤ 129 := by have := HH.out; omega
                          have HPH : Hid (parC (gen h m K oneA) (hfL C) = rB) := by unfold Hid; rw [parC_half, ← parC_congr (gen_even h m K), HPM.out]
                          clear own hnl htk
                          go_wp2
                          go_roundw
                          case rel => exact ⟨K, nH, hfL C, sH, cH, (lo) / 2, by go_num, rfl, HH.out, PH, HWH.out, by omega, HPH.out, gb_trans gN gi, by omega, by omega⟩
                          case measure => simp [intOf]; omega
          · have e1 : rB = false := by rw [← HRB.out]; exact lnB_no (by rw [HRE.out]; exact hE0)
            subst e1
            have hb : (rE != 0) = true := by simp [hE0]
            clear hEG hck HD HRB HRE
            go_wp2_with (first | (go_at_call 39; refine (kN _).mono ?_; rintro e w' ⟨rfl, hw'⟩; subst w') | go_in)
            go_ret2
            exact ⟨rfl, ga⟩
end Ln
end Go.Proofs.YtijjbejilpglnaaGreat
