/- The document's Check. -/
import Derived.Test.YtijjbejilpglnaaGreatNc
import Derived.Test.YtijjbejilpglnaaGreatN31
namespace Go.Proofs.YtijjbejilpglnaaGreat
open Go.RowKit
set_option linter.unusedVariables false
set_option linter.unusedSimpArgs false
set_option maxRecDepth 100000

namespace Ln
theorem tw_yes {f : Nat → Pt} {n i j : Nat} (hij : i < j) (hj : j < n) (h : f i = f j) : tw f n = true := by
  unfold tw
  have h1 := adL_len f n
  have h2 : (adL f n).length ≠ n := fun e => (adL_full f n).1 e i j hij hj h
  exact decide_eq_true (by omega)
theorem tw_no {f : Nat → Pt} {n : Nat} (h : ∀ i j, i < j → j < n → f i ≠ f j) : tw f n = false := by
  unfold tw
  have h2 := (adL_full f n).2 h
  exact decide_eq_false (by omega)
set_option maxHeartbeats 400000 in
theorem refNearC (a : Int) (w : World) : Calls Tryz.prog 30 #[.int .i64 a] w fun e w' => e = .returned (.bool (inW 1099511627776 a)) ∧ w' = w := by
  unfold inW
  by_cases h1 : -1099511627776 ≤ a
  · go_enter Tryz.func30, Tryz.ntmps30
    go_wp2
    go_ret
    exact ⟨by simp [h1], rfl⟩
  · go_enter Tryz.func30, Tryz.ntmps30
    go_wp2
    go_ret
    exact ⟨by simp; omega, rfl⟩
set_option maxHeartbeats 2000000 in
theorem refTwiceC (sp : Option Addr) (n cap : Nat) (f : Nat → Pt) (hn : n < 1000000000) (w : World) (H : Pl w sp n f) :
    Calls Tryz.prog 31 #[.slice sp n cap] w fun e w' => e = .returned (.bool (tw f n)) ∧ w.grownBy w' none := by
  obtain ⟨r, hr⟩ : ∃ r, tw f n = r := ⟨_, rfl⟩
  have HR : Hid (tw f n = r) := hr
  rw [hr]
  clear hr
  go_enter Tryz.func31, Tryz.ntmps31
  go_wp2
  go_loopw [3] (fun v wr => ∃ i : Nat, i ≤ n ∧ v = .int .i64 i ∧ w.grownBy wr none ∧ Hid (∀ a b, a < b → b < i → f a ≠ f b)) (fun v _ => n - (intOf v).toNat)
  case atStart => exact ⟨0, Nat.zero_le _, rfl, World.grownBy.refl _ _, fun a b _ hb => by omega⟩
  case round =>
    obtain ⟨i, hi, rfl, gi, HS⟩ := hrel
    by_cases hlt : i < n
    · have hlt' : (i : Int) < (n : Int) := by omega
      go_wp2
      go_loopw [4] (fun v wr => ∃ k : Nat, k ≤ i ∧ v = .int .i64 k ∧ w.grownBy wr none ∧ Hid (∀ a, a < k → f a ≠ f i)) (fun v _ => i - (intOf v).toNat)
      case atStart => exact ⟨0, Nat.zero_le _, rfl, gi, fun a ha => by omega⟩
      case round =>
        obtain ⟨k, hk, rfl, gk, HK⟩ := hrel
        by_cases hkt : k < i
        · have hkt' : (k : Int) < (i : Int) := by omega
          obtain ⟨q, o, rfl, c0, c1⟩ := (H.kept gk (by simp)) i hlt
          obtain ⟨q2, o2, hq, d0, d1⟩ := (H.kept gk (by simp)) k (by omega)
          obtain ⟨rfl, rfl⟩ : q = q2 ∧ o = o2 := by simpa using hq
          by_cases he : f k = f i
          · have HV : r = true := HR.out.symm.trans (tw_yes hkt hlt he)
            subst HV
            rw [he] at d0 d1
            clear HS HK HR he hq
            obtain ⟨p, hp⟩ : ∃ p, f i = p := ⟨_, rfl⟩
            rw [hp] at c0 c1 d0 d1
            clear hp
            obtain ⟨a, b⟩ := p
            go_wp2
            go_quiet (fail)
            go_wp2
            go_ret
            exact ⟨rfl, by first | exact gk | exact gb_drew gk | exact gb_drewN gk _⟩
          · have HK1 : Hid (∀ a, a < k + 1 → f a ≠ f i) := fun a ha => by
              by_cases e : a = k
              · subst e; exact he
              · exact HK.out a (by omega)
            clear HK HR hq
            obtain ⟨p, hp⟩ : ∃ p, f i = p := ⟨_, rfl⟩
            obtain ⟨p2, hp2⟩ : ∃ p, f k = p := ⟨_, rfl⟩
            rw [hp] at c0 c1 he
            rw [hp2] at d0 d1 he
            clear hp hp2
            obtain ⟨a, b⟩ := p
            obtain ⟨c, d⟩ := p2
            have he' : ¬ (a = c ∧ b = d) := fun e => he (by rw [e.1, e.2])
            by_cases hac : a = c
            · subst hac
              have hbd : (b == d) = false := by simp; exact fun e => he' ⟨rfl, e⟩
              go_wp2
              go_quiet (fail)
              go_wp2
              go_roundw
              case rel => exact ⟨k + 1, by omega, by go_num, by first | exact gk | exact gb_drew gk | exact gb_drewN gk _, HK1.out⟩
              case measure => simp [intOf]; omega
            · have hbd : (a == c) = false := by simp; exact hac
              go_wp2
              go_quiet (fail)
              go_wp2
              go_roundw
              case rel => exact ⟨k + 1, by omega, by go_num, by first | exact gk | exact gb_drew gk | exact gb_drewN gk _, HK1.out⟩
              case measure => simp [intOf]; omega
        · have hin : k = i := by omega
          subst hin
          have hkt' : ¬ (k : Int) < (k : Int) := by omega
          have HS1 : Hid (∀ a b, a < b → b < k + 1 → f a ≠ f b) := fun a b hab hb => by
            by_cases e : b = k
            · subst e; exact HK.out a hab
            · exact HS.out a b hab (by omega)
          go_wp2
          go_roundw
          case rel => exact ⟨k + 1, by omega, by go_num, gk, HS1.out⟩
          case measure => simp [intOf]; omega
    · have hin : i = n := by omega
      subst hin
      have hlt' : ¬ (i : Int) < (i : Int) := by omega
      have HV : r = false := HR.out.symm.trans (tw_no HS.out)
      subst HV
      go_wp2
      go_ret
      exact ⟨rfl, gi⟩
theorem alW_bad {m : Int} {f : Nat → Pt} {n i : Nat} (hi : i < n) (h : ¬ (inW m (f i).1 = true ∧ inW m (f i).2 = true)) : alW m f n = false := by
  cases e : alW m f n with
  | false => rfl
  | true => exact absurd ((alW_is m f n).1 e i hi) h
set_option maxHeartbeats 2000000 in
theorem refCheckC (sp : Option Addr) (n cap : Nat) (f : Nat → Pt) (hn : n < 1000000000) (w : World) (H : Pl w sp n f) :
    Calls Tryz.prog 13 #[.slice sp n cap] w fun e w' => e = .returned (.int .i64 (ckO f n 1099511627776)) ∧ w.grownBy w' none := by
  have kT := fun w1 (g1 : w.grownBy w1 none) => refTwiceC sp n cap f hn w1 (H.kept g1 (by simp))
  by_cases h64 : 64 < n
  · have h64' : (64 : Int) < (n : Int) := by omega
    have e : ckO f n 1099511627776 = 6 := by unfold ckO; rw [if_pos h64]
    rw [e]
    clear kT
    go_enter Tryz.func13, Tryz.ntmps13
    go_wp2
    go_ret
    exact ⟨rfl, World.grownBy.refl _ _⟩
  · have h64' : ¬ (64 : Int) < (n : Int) := by omega
    obtain ⟨r, hr⟩ : ∃ r, ckO f n 1099511627776 = r := ⟨_, rfl⟩
    have HR : Hid (ckO f n 1099511627776 = r) := hr
    rw [hr]
    clear hr
    go_enter Tryz.func13, Tryz.ntmps13
    go_wp2
    go_loopw [3] (fun v wr => ∃ i : Nat, i ≤ n ∧ v = .int .i64 i ∧ w.grownBy wr none ∧ Hid (∀ k, k < i → inW 1099511627776 (f k).1 = true ∧ inW 1099511627776 (f k).2 = true)) (fun v _ => n - (intOf v).toNat)
    case atStart => exact ⟨0, Nat.zero_le _, rfl, World.grownBy.refl _ _, fun a ha => by omega⟩
    case round =>
      obtain ⟨i, hi, rfl, gi, HS⟩ := hrel
      by_cases hlt : i < n
      · have hlt' : (i : Int) < (n : Int) := by omega
        obtain ⟨q, o, rfl, c0, c1⟩ := (H.kept gi (by simp)) i hlt
        have kx := fun w1 => refNearC (f i).1 w1
        have ky := fun w1 => refNearC (f i).2 w1
        have HB : Hid (¬ (inW 1099511627776 (f i).1 = true ∧ inW 1099511627776 (f i).2 = true) → r = 5) := fun hb => by
          rw [← HR.out]
          unfold ckO
          rw [if_neg h64, if_pos (alW_bad hlt hb)]
        have HG : Hid (inW 1099511627776 (f i).1 = true ∧ inW 1099511627776 (f i).2 = true → ∀ k, k < i + 1 → inW 1099511627776 (f k).1 = true ∧ inW 1099511627776 (f k).2 = true) := fun hg k hk => by
          by_cases e : k = i
          · subst e; exact hg
          · exact HS.out k (by omega)
        obtain ⟨bx, hbx⟩ : ∃ b, inW 1099511627776 (f i).1 = b := ⟨_, rfl⟩
        obtain ⟨by_, hby⟩ : ∃ b, inW 1099511627776 (f i).2 = b := ⟨_, rfl⟩
        rw [hbx] at kx
        rw [hby] at ky
        have HBX : Hid (inW 1099511627776 (f i).1 = bx) := hbx
        have HBY : Hid (inW 1099511627776 (f i).2 = by_) := hby
        clear hbx hby HS
        obtain ⟨px, hpx⟩ : ∃ b, (f i).1 = b := ⟨_, rfl⟩
        obtain ⟨py, hpy⟩ : ∃ b, (f i).2 = b := ⟨_, rfl⟩
        rw [hpx] at c0 kx
        rw [hpy] at c1 ky
        clear hpx hpy
        cases bx with
        | false =>
          have hr5 : r = 5 := HB.out (fun hh => by rw [HBX.out] at hh; cases hh.1)
          subst hr5
          go_wp2_with (first | (go_at_call 30; refine (kx _).mono ?_; rintro e w' ⟨rfl, hw'⟩; subst w') | go_in)
          go_ret
          exact ⟨rfl, by first | exact gi | exact gb_drew gi | exact gb_drewN gi _⟩
        | true =>
          cases by_ with
          | false =>
            have hr5 : r = 5 := HB.out (fun hh => by rw [HBY.out] at hh; cases hh.2)
            subst hr5
            go_wp2_with (first | (go_at_call 30; refine (kx _).mono ?_; rintro e w' ⟨rfl, hw'⟩; subst w') | (go_at_call 30; refine (ky _).mono ?_; rintro e w' ⟨rfl, hw'⟩; subst w') | go_in)
            go_ret
            exact ⟨rfl, by first | exact gi | exact gb_drew gi | exact gb_drewN gi _⟩
          | true =>
            have HS1 : Hid (∀ k, k < i + 1 → inW 1099511627776 (f k).1 = true ∧ inW 1099511627776 (f k).2 = true) := HG.out ⟨HBX.out, HBY.out⟩
            clear HG HB
            go_wp2_with (first | (go_at_call 30; refine (kx _).mono ?_; rintro e w' ⟨rfl, hw'⟩; subst w') | (go_at_call 30; refine (ky _).mono ?_; rintro e w' ⟨rfl, hw'⟩; subst w') | go_in)
            go_roundw
            case rel => exact ⟨i + 1, by omega, by go_num, by first | exact gi | exact gb_drew gi | exact gb_drewN gi _, HS1.out⟩
            case measure => simp [intOf]; omega
      · have hin : i = n := by omega
        have hlt' : ¬ (i : Int) < (n : Int) := by omega
        have haw : alW 1099511627776 f n = true := (alW_is _ f n).2 (fun k hk => HS.out k (by omega))
        have kT1 := kT wr gi
        obtain ⟨b, hb⟩ : ∃ b, tw f n = b := ⟨_, rfl⟩
        rw [hb] at kT1
        have hr2 : r = if b = true then 170 else 0 := by
          rw [← HR.out]
          unfold ckO
          rw [if_neg h64, if_neg (by rw [haw]; simp), hb]
        clear HR HS hb haw kT
        cases b with
        | true =>
          rw [if_pos rfl] at hr2
          subst hr2
          go_wp2_with (first | (go_at_call 31; refine kT1.mono ?_; rintro e w2 ⟨rfl, g2⟩) | go_in)
          go_ret
          exact ⟨rfl, gb_trans gi g2⟩
        | false =>
          rw [if_neg (by simp)] at hr2
          subst hr2
          go_wp2_with (first | (go_at_call 31; refine kT1.mono ?_; rintro e w2 ⟨rfl, g2⟩) | go_in)
          go_ret
          exact ⟨rfl, gb_trans gi g2⟩
end Ln
end Go.Proofs.YtijjbejilpglnaaGreat
