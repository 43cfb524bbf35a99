/- The document's torus. -/
import Derived.Test.YtbmpiddjakdebaaGreatN60a
import Derived.Test.YtbmpiddjakdebaaGreatN60b
import Derived.Test.YtbmpiddjakdebaaGreatN60c
import Derived.Test.YtbmpiddjakdebaaGreatN60d
import Derived.Test.YtbmpiddjakdebaaGreatN60e
import Derived.Test.YtbmpiddjakdebaaGreatNc
import Derived.Test.YtbmpiddjakdebaaGreatNt
namespace Go.Proofs.YtbmpiddjakdebaaGreat
open Go.RowKit
set_option linter.unusedVariables false
set_option linter.unusedSimpArgs false

namespace Ln
/-- The document's torus answers as checkTorus does. -/
theorem torusG (k x y t z : Int) (ht : 0 ≤ t) (w : World) : Calls Tryz.prog 43 #[.agg #[.int .u8 k, .int .i64 x, .int .i64 y, .int .u8 t, .int .i64 z]] w fun e w' => e = .returned (.int .i64 (toE k x y t z)) ∧ w.grownBy w' none := by
  by_cases h : k < 1 ∨ 5 < k ∨ x < 0 ∨ 65536 < x ∨ y < 0 ∨ 65536 < y ∨ 2 < t
  · have hc : Tp.chk k x y t z ≠ 0 := by unfold Tp.chk; (repeat' split) <;> omega
    rw [toE9 hc]
    exact torusX k x y t z ht h w
  · have hx : 0 ≤ x ∧ x ≤ 65536 := by omega
    have hy : 0 ≤ y ∧ y ≤ 65536 := by omega
    rcases (show k = 1 ∨ k = 2 ∨ k = 3 ∨ k = 4 ∨ k = 5 by omega) with rfl | rfl | rfl | rfl | rfl
    · rcases (show t = 0 ∨ t = 1 ∨ t = 2 by omega) with rfl | rfl | rfl
      · exact torusK10 x y z hx hy w
      · exact torusK11 x y z hx hy w
      · exact torusK12 x y z hx hy w
    · rcases (show t = 0 ∨ t = 1 ∨ t = 2 by omega) with rfl | rfl | rfl
      · exact torusK20 x y z hx hy w
      · exact torusK21 x y z hx hy w
      · exact torusK22 x y z hx hy w
    · rcases (show t = 0 ∨ t = 1 ∨ t = 2 by omega) with rfl | rfl | rfl
      · exact torusK30 x y z hx hy w
      · exact torusK31 x y z hx hy w
      · exact torusK32 x y z hx hy w
    · rcases (show t = 0 ∨ t = 1 ∨ t = 2 by omega) with rfl | rfl | rfl
      · exact torusK40 x y z hx hy w
      · exact torusK41 x y z hx hy w
      · exact torusK42 x y z hx hy w
    · rcases (show t = 0 ∨ t = 1 ∨ t = 2 by omega) with rfl | rfl | rfl
      · exact torusK50 x y z hx hy w
      · exact torusK51 x y z hx hy w
      · exact torusK52 x y z hx hy w
end Ln
end Go.Proofs.YtbmpiddjakdebaaGreat
namespace Go.Proofs.YtbmpiddjakdebaaGreat
open Go.RowKit
set_option linter.unusedVariables false
set_option linter.unusedSimpArgs false
set_option maxRecDepth 100000

namespace Ln
theorem tw_yes {f : Nat → Pt} {n i j : Nat} (hij : i < j) (hj : j < n) (h : f i = f j) : tw f n = true := by
  unfold tw
  have h1 := adL_len f n
  have h2 : (adL f n).length ≠ n := fun e => (adL_full f n).1 e i j hij hj h
  exact decide_eq_true (by omega)
theorem tw_no {f : Nat → Pt} {n : Nat} (h : ∀ i j, i < j → j < n → f i ≠ f j) : tw f n = false := by
  unfold tw
  have h2 := (adL_full f n).2 h
  exact decide_eq_false (by omega)
set_option maxHeartbeats 400000 in
theorem refNearC (a : Int) (w : World) : Calls Tryz.prog 69 #[.int .i64 a] w fun e w' => e = .returned (.bool (inW 1099511627776 a)) ∧ w' = w := by
  unfold inW
  by_cases h1 : -1099511627776 ≤ a
  · go_enter Tryz.func69, Tryz.ntmps69
    go_wp2
    go_ret
    exact ⟨by simp [h1], rfl⟩
  · go_enter Tryz.func69, Tryz.ntmps69
    go_wp2
    go_ret
    exact ⟨by simp; omega, rfl⟩
set_option maxHeartbeats 2000000 in
theorem refTwiceC (sp : Option Addr) (n cap : Nat) (f : Nat → Pt) (hn : n < 1000000000) (w : World) (H : Pl w sp n f) :
    Calls Tryz.prog 45 #[.slice sp n cap] w fun e w' => e = .returned (.bool (tw f n)) ∧ w.grownBy w' none := by
  obtain ⟨r, hr⟩ : ∃ r, tw f n = r := ⟨_, rfl⟩
  have HR : Hid (tw f n = r) := hr
  rw [hr]
  clear hr
  go_enter Tryz.func45, Tryz.ntmps45
  go_wp2
  go_loopw [3] (fun v wr => ∃ i : Nat, i ≤ n ∧ v = .int .i64 i ∧ w.grownBy wr none ∧ Hid (∀ a b, a < b → b < i → f a ≠ f b)) (fun v _ => n - (intOf v).toNat)
  case atStart => exact ⟨0, Nat.zero_le _, rfl, World.grownBy.refl _ _, fun a b _ hb => by omega⟩
  case round =>
    obtain ⟨i, hi, rfl, gi, HS⟩ := hrel
    by_cases hlt : i < n
    · have hlt' : (i : Int) < (n : Int) := by omega
      go_wp2
      go_loopw [4] (fun v wr => ∃ k : Nat, k ≤ i ∧ v = .int .i64 k ∧ w.grownBy wr none ∧ Hid (∀ a, a < k → f a ≠ f i)) (fun v _ => i - (intOf v).toNat)
      case atStart => exact ⟨0, Nat.zero_le _, rfl, gi, fun a ha => by omega⟩
      case round =>
        obtain ⟨k, hk, rfl, gk, HK⟩ := hrel
        by_cases hkt : k < i
        · have hkt' : (k : Int) < (i : Int) := by omega
          obtain ⟨q, o, rfl, c0, c1⟩ := (H.kept gk (by simp)) i hlt
          obtain ⟨q2, o2, hq, d0, d1⟩ := (H.kept gk (by simp)) k (by omega)
          obtain ⟨rfl, rfl⟩ : q = q2 ∧ o = o2 := by simpa using hq
          by_cases he : f k = f i
          · have HV : r = true := HR.out.symm.trans (tw_yes hkt hlt he)
            subst HV
            rw [he] at d0 d1
            clear HS HK HR he hq
            obtain ⟨p, hp⟩ : ∃ p, f i = p := ⟨_, rfl⟩
            rw [hp] at c0 c1 d0 d1
            clear hp
            obtain ⟨a, b⟩ := p
            go_wp2
            go_quiet (fail)
            go_wp2
            go_ret
            exact ⟨rfl, by first | exact gk | exact gb_drew gk | exact gb_drewN gk _⟩
          · have HK1 : Hid (∀ a, a < k + 1 → f a ≠ f i) := fun a ha => by
              by_cases e : a = k
              · subst e; exact he
              · exact HK.out a (by omega)
            clear HK HR hq
            obtain ⟨p, hp⟩ : ∃ p, f i = p := ⟨_, rfl⟩
            obtain ⟨p2, hp2⟩ : ∃ p, f k = p := ⟨_, rfl⟩
            rw [hp] at c0 c1 he
            rw [hp2] at d0 d1 he
            clear hp hp2
            obtain ⟨a, b⟩ := p
            obtain ⟨c, d⟩ := p2
            have he' : ¬ (a = c ∧ b = d) := fun e => he (by rw [e.1, e.2])
            by_cases hac : a = c
            · subst hac
              have hbd : (b == d) = false := by simp; exact fun e => he' ⟨rfl, e⟩
              go_wp2
              go_quiet (fail)
              go_wp2
              go_roundw
              case rel => exact ⟨k + 1, by omega, by go_num, by first | exact gk | exact gb_drew gk | exact gb_drewN gk _, HK1.out⟩
              case measure => simp [intOf]; omega
            · have hbd : (a == c) = false := by simp; exact hac
              go_wp2
              go_quiet (fail)
              go_wp2
              go_roundw
              case rel => exact ⟨k + 1, by omega, by go_num, by first | exact gk | exact gb_drew gk | exact gb_drewN gk _, HK1.out⟩
              case measure => simp [intOf]; omega
        · have hin : k = i := by omega
          subst hin
          have hkt' : ¬ (k : Int) < (k : Int) := by omega
          have HS1 : Hid (∀ a b, a < b → b < k + 1 → f a ≠ f b) := fun a b hab hb => by
            by_cases e : b = k
            · subst e; exact HK.out a hab
            · exact HS.out a b hab (by omega)
          go_wp2
          go_roundw
          case rel => exact ⟨k + 1, by omega, by go_num, gk, HS1.out⟩
          case measure => simp [intOf]; omega
    · have hin : i = n := by omega
      subst hin
      have hlt' : ¬ (i : Int) < (i : Int) := by omega
      have HV : r = false := HR.out.symm.trans (tw_no HS.out)
      subst HV
      go_wp2
      go_ret
      exact ⟨rfl, gi⟩
theorem alW_bad {m : Int} {f : Nat → Pt} {n i : Nat} (hi : i < n) (h : ¬ (inW m (f i).1 = true ∧ inW m (f i).2 = true)) : alW m f n = false := by
  cases e : alW m f n with
  | false => rfl
  | true => exact absurd ((alW_is m f n).1 e i hi) h
set_option maxHeartbeats 2000000 in
theorem refCheckC (sp : Option Addr) (n cap : Nat) (f : Nat → Pt) (hn : n < 1000000000) (w : World) (H : Pl w sp n f) :
    Calls Tryz.prog 44 #[.slice sp n cap] w fun e w' => e = .returned (.int .i64 (ckO f n 1099511627776)) ∧ w.grownBy w' none := by
  have kT := fun w1 (g1 : w.grownBy w1 none) => refTwiceC sp n cap f hn w1 (H.kept g1 (by simp))
  by_cases h64 : 64 < n
  · have h64' : (64 : Int) < (n : Int) := by omega
    have e : ckO f n 1099511627776 = 6 := by unfold ckO; rw [if_pos h64]
    rw [e]
    clear kT
    go_enter Tryz.func44, Tryz.ntmps44
    go_wp2
    go_ret
    exact ⟨rfl, World.grownBy.refl _ _⟩
  · have h64' : ¬ (64 : Int) < (n : Int) := by omega
    obtain ⟨r, hr⟩ : ∃ r, ckO f n 1099511627776 = r := ⟨_, rfl⟩
    have HR : Hid (ckO f n 1099511627776 = r) := hr
    rw [hr]
    clear hr
    go_enter Tryz.func44, Tryz.ntmps44
    go_wp2
    go_loopw [3] (fun v wr => ∃ i : Nat, i ≤ n ∧ v = .int .i64 i ∧ w.grownBy wr none ∧ Hid (∀ k, k < i → inW 1099511627776 (f k).1 = true ∧ inW 1099511627776 (f k).2 = true)) (fun v _ => n - (intOf v).toNat)
    case atStart => exact ⟨0, Nat.zero_le _, rfl, World.grownBy.refl _ _, fun a ha => by omega⟩
    case round =>
      obtain ⟨i, hi, rfl, gi, HS⟩ := hrel
      by_cases hlt : i < n
      · have hlt' : (i : Int) < (n : Int) := by omega
        obtain ⟨q, o, rfl, c0, c1⟩ := (H.kept gi (by simp)) i hlt
        have kx := fun w1 => refNearC (f i).1 w1
        have ky := fun w1 => refNearC (f i).2 w1
        have HB : Hid (¬ (inW 1099511627776 (f i).1 = true ∧ inW 1099511627776 (f i).2 = true) → r = 5) := fun hb => by
          rw [← HR.out]
          unfold ckO
          rw [if_neg h64, if_pos (alW_bad hlt hb)]
        have HG : Hid (inW 1099511627776 (f i).1 = true ∧ inW 1099511627776 (f i).2 = true → ∀ k, k < i + 1 → inW 1099511627776 (f k).1 = true ∧ inW 1099511627776 (f k).2 = true) := fun hg k hk => by
          by_cases e : k = i
          · subst e; exact hg
          · exact HS.out k (by omega)
        obtain ⟨bx, hbx⟩ : ∃ b, inW 1099511627776 (f i).1 = b := ⟨_, rfl⟩
        obtain ⟨by_, hby⟩ : ∃ b, inW 1099511627776 (f i).2 = b := ⟨_, rfl⟩
        rw [hbx] at kx
        rw [hby] at ky
        have HBX : Hid (inW 1099511627776 (f i).1 = bx) := hbx
        have HBY : Hid (inW 1099511627776 (f i).2 = by_) := hby
        clear hbx hby HS
        obtain ⟨px, hpx⟩ : ∃ b, (f i).1 = b := ⟨_, rfl⟩
        obtain ⟨py, hpy⟩ : ∃ b, (f i).2 = b := ⟨_, rfl⟩
        rw [hpx] at c0 kx
        rw [hpy] at c1 ky
        clear hpx hpy
        cases bx with
        | false =>
          have hr5 : r = 5 := HB.out (fun hh => by rw [HBX.out] at hh; cases hh.1)
          subst hr5
          go_wp2_with (first | (go_at_call 69; refine (kx _).mono ?_; rintro e w' ⟨rfl, hw'⟩; subst w') | go_in)
          go_ret
          exact ⟨rfl, by first | exact gi | exact gb_drew gi | exact gb_drewN gi _⟩
        | true =>
          cases by_ with
          | false =>
            have hr5 : r = 5 := HB.out (fun hh => by rw [HBY.out] at hh; cases hh.2)
            subst hr5
            go_wp2_with (first | (go_at_call 69; refine (kx _).mono ?_; rintro e w' ⟨rfl, hw'⟩; subst w') | (go_at_call 69; refine (ky _).mono ?_; rintro e w' ⟨rfl, hw'⟩; subst w') | go_in)
            go_ret
            exact ⟨rfl, by first | exact gi | exact gb_drew gi | exact gb_drewN gi _⟩
          | true =>
            have HS1 : Hid (∀ k, k < i + 1 → inW 1099511627776 (f k).1 = true ∧ inW 1099511627776 (f k).2 = true) := HG.out ⟨HBX.out, HBY.out⟩
            clear HG HB
            go_wp2_with (first | (go_at_call 69; refine (kx _).mono ?_; rintro e w' ⟨rfl, hw'⟩; subst w') | (go_at_call 69; refine (ky _).mono ?_; rintro e w' ⟨rfl, hw'⟩; subst w') | go_in)
            go_roundw
            case rel => exact ⟨i + 1, by omega, by go_num, by first | exact gi | exact gb_drew gi | exact gb_drewN gi _, HS1.out⟩
            case measure => simp [intOf]; omega
      · have hin : i = n := by omega
        have hlt' : ¬ (i : Int) < (n : Int) := by omega
        have haw : alW 1099511627776 f n = true := (alW_is _ f n).2 (fun k hk => HS.out k (by omega))
        have kT1 := kT wr gi
        obtain ⟨b, hb⟩ : ∃ b, tw f n = b := ⟨_, rfl⟩
        rw [hb] at kT1
        have hr2 : r = if b = true then 170 else 0 := by
          rw [← HR.out]
          unfold ckO
          rw [if_neg h64, if_neg (by rw [haw]; simp), hb]
        clear HR HS hb haw kT
        cases b with
        | true =>
          rw [if_pos rfl] at hr2
          subst hr2
          go_wp2_with (first | (go_at_call 45; refine kT1.mono ?_; rintro e w2 ⟨rfl, g2⟩) | go_in)
          go_ret
          exact ⟨rfl, gb_trans gi g2⟩
        | false =>
          rw [if_neg (by simp)] at hr2
          subst hr2
          go_wp2_with (first | (go_at_call 45; refine kT1.mono ?_; rintro e w2 ⟨rfl, g2⟩) | go_in)
          go_ret
          exact ⟨rfl, gb_trans gi g2⟩
end Ln
end Go.Proofs.YtbmpiddjakdebaaGreat
namespace Go.Proofs.YtbmpiddjakdebaaGreat
open Go.RowKit
set_option linter.unusedVariables false
set_option linter.unusedSimpArgs false
set_option maxRecDepth 100000

namespace Ln
/-- What is wrong with a torus, offsets, cells. -/
def asE (k x y t z : Int) (f : Nat → Pt) (n : Nat) (h : Nat → Pt) (m : Nat) : Int := if toE k x y t z ≠ 0 then toE k x y t z else if ckO f n 1099511627776 ≠ 0 then ckO f n 1099511627776 else ceL k x y t z h m
theorem has_in {k x y t z : Int} (hE : toE k x y t z = 0) (p : Pt) : To.hasV k x y t z p.1 p.2 = decide ((-(x / 2) ≤ p.1 ∧ p.1 < x - x / 2) ∧ (-(y / 2) ≤ p.2 ∧ p.2 < y - y / 2)) := by
  obtain ⟨hc, hk⟩ := toE_zero hE
  have ok := Tp.ok_of hc
  have hx := ok.wide
  have hy := ok.high
  have hen : x ≠ 0 ∧ y ≠ 0 := by
    unfold toE at hE
    rw [if_neg (by rw [hc]; simp), if_neg (by simp [hk])] at hE
    unfold To.enB at hE
    rw [hc] at hE
    simp at hE
    exact hE
  have ex : To.fi x = -(x / 2) := rfl
  have ey : To.fi y = -(y / 2) := rfl
  by_cases hin : (-(x / 2) ≤ p.1 ∧ p.1 < x - x / 2) ∧ (-(y / 2) ≤ p.2 ∧ p.2 < y - y / 2)
  · rw [decide_eq_true hin]
    have f1 : To.frB p.1 = false := by unfold To.frB; simp; omega
    have f2 : To.frB p.2 = false := by unfold To.frB; simp; omega
    unfold To.hasV To.liB To.hasE
    simp [hc, f1, f2]
    omega
  · rw [decide_eq_false hin]
    unfold To.hasV To.liB
    rw [Bool.eq_false_iff]
    intro hh
    simp [hen.1, hen.2] at hh
    exact hin ⟨⟨by omega, by omega⟩, ⟨by omega, by omega⟩⟩
set_option maxHeartbeats 1000000 in
theorem askedD (k x y t z : Int) (ht : 0 ≤ t) (s1 : Option Addr) (n c1 : Nat) (f : Nat → Pt) (hn : n < 1000000000) (s2 : Option Addr) (m c2 : Nat) (h : Nat → Pt) (hm : m < 1000000000) (w : World) (H1 : Pl w s1 n f) (H2 : Pl w s2 m h) :
    Calls Tryz.prog 21 #[.agg #[.int .u8 k, .int .i64 x, .int .i64 y, .int .u8 t, .int .i64 z], .slice s1 n c1, .slice s2 m c2] w fun e w' => e = .returned (.int .i64 (asE k x y t z f n h m)) ∧ w.grownBy w' none := by
  obtain ⟨W1, hW1, sz1, g1, B1⟩ := boxn w #[.int .u8 k, .int .i64 x, .int .i64 y, .int .u8 t, .int .i64 z] 23
  have ca0 := B1.cell 0 (v := .int .u8 k) rfl; have ca1 := B1.cell 1 (v := .int .i64 x) rfl; have ca2 := B1.cell 2 (v := .int .i64 y) rfl; have ca3 := B1.cell 3 (v := .int .u8 t) rfl; have ca4 := B1.cell 4 (v := .int .i64 z) rfl
  have kT := torusG k x y t z ht W1
  unfold asE
  by_cases hE : toE k x y t z = 0
  · rw [if_neg (by simp [hE])]
    rw [hE] at kT
    have kC := fun w1 (g1 : w.grownBy w1 none) => refCheckC s1 n c1 f hn w1 (H1.kept g1 (by simp))
    by_cases hO : ckO f n 1099511627776 = 0
    · rw [if_neg (by simp [hO])]
      rw [hO] at kC
      obtain ⟨hc, hk⟩ := toE_zero hE
      have ok := Tp.ok_of hc
      have hx := ok.wide
      have hy := ok.high
      have HIN : Hid (∀ p : Pt, To.hasV k x y t z p.1 p.2 = decide ((-(x / 2) ≤ p.1 ∧ p.1 < x - x / 2) ∧ (-(y / 2) ≤ p.2 ∧ p.2 < y - y / 2))) := has_in hE
      have kW := fun w1 (g1 : w.grownBy w1 none) => refTwiceC s2 m c2 h hm w1 (H2.kept g1 (by simp))
      have q1 : Int.tdiv x 2 = x / 2 := Int.tdiv_eq_ediv_of_nonneg (by omega)
      have q2 : Int.tdiv y 2 = y / 2 := Int.tdiv_eq_ediv_of_nonneg (by omega)
      obtain ⟨X, hX⟩ : ∃ X, x / 2 = X := ⟨_, rfl⟩
      obtain ⟨Y, hY⟩ : ∃ Y, y / 2 = Y := ⟨_, rfl⟩
      rw [hX] at q1
      rw [hY] at q2
      rw [hX, hY] at HIN
      have hXb : 0 ≤ X ∧ X ≤ 32768 := by omega
      have hYb : 0 ≤ Y ∧ Y ≤ 32768 := by omega
      clear hX hY
      have w1 : IntKind.i64.wrap X = X := by rw [IntKind.wrap_i64]; omega
      have w2 : IntKind.i64.wrap Y = Y := by rw [IntKind.wrap_i64]; omega
      have w3 : IntKind.i64.wrap (-X) = -X := by rw [IntKind.wrap_i64]; omega
      have w4 : IntKind.i64.wrap (-Y) = -Y := by rw [IntKind.wrap_i64]; omega
      have w5 : IntKind.i64.wrap (x - X) = x - X := by rw [IntKind.wrap_i64]; omega
      have w6 : IntKind.i64.wrap (y - Y) = y - Y := by rw [IntKind.wrap_i64]; omega
      obtain ⟨rE, hrE⟩ : ∃ r, ceL k x y t z h m = r := ⟨_, rfl⟩
      have HRE : Hid (ceL k x y t z h m = rE) := hrE
      rw [hrE]
      clear hrE hc hk ok hE hO
      go_enter Tryz.func21, Tryz.ntmps21
      go_wp2_with (first | (go_at_call 43; refine kT.mono ?_; rintro e w3 ⟨rfl, g3⟩; clear kT; have kC3 := kC w3 (gb_trans g1 g3); clear kC) | (go_at_call 44; refine kC3.mono ?_; rintro e w4 ⟨rfl, g4⟩; clear kC3) | go_in)
      have B4 := (B1.kept g3 (by simp)).kept g4 (by simp)
      have G4 := gb_trans g1 (gb_trans g3 g4)
      go_loopw [9] (fun v wr => ∃ j : Nat, j ≤ m ∧ v = .int .i64 j ∧ Hid (alH k x y t z h j = true) ∧ w4.grownBy wr none) (fun v _ => m - (intOf v).toNat)
      case atStart => exact ⟨0, Nat.zero_le _, rfl, rfl, World.grownBy.refl _ _⟩
      case round =>
        obtain ⟨j, hj, rfl, HK, gj⟩ := hrel
        have Gj := gb_trans G4 gj
        have Bj := B4.kept gj (by simp)
        have b0 := Bj.cell 0 (v := .int .u8 k) rfl; have b1 := Bj.cell 1 (v := .int .i64 x) rfl; have b2 := Bj.cell 2 (v := .int .i64 y) rfl; have b3 := Bj.cell 3 (v := .int .u8 t) rfl; have b4 := Bj.cell 4 (v := .int .i64 z) rfl
        by_cases hlt : j < m
        · have hlt' : (j : Int) < (m : Int) := by omega
          obtain ⟨q, o, rfl, d0, d1⟩ := (H2.kept Gj (by simp)) j hlt
          have HS : Hid (alH k x y t z h (j + 1) = (alH k x y t z h j && To.hasV k x y t z (h j).1 (h j).2)) := rfl
          have HNO : Hid (To.hasV k x y t z (h j).1 (h j).2 = false → alH k x y t z h m = false) := fun hh => alH_no hh m hlt
          have HV := HIN.out (h j)
          obtain ⟨p, hp⟩ : ∃ p, h j = p := ⟨_, rfl⟩
          rw [hp] at d0 d1 HS HNO HV
          clear hp
          obtain ⟨a, b⟩ := p
          simp only at d0 d1 HV HS HNO
          have HVh : Hid (To.hasV k x y t z a b = decide ((-X ≤ a ∧ a < x - X) ∧ (-Y ≤ b ∧ b < y - Y))) := HV
          clear HV
          have hin : ((-X ≤ a ∧ a < x - X) ∧ (-Y ≤ b ∧ b < y - Y)) ∨ ¬ ((-X ≤ a ∧ a < x - X) ∧ (-Y ≤ b ∧ b < y - Y)) := Classical.em _
          rcases hin with hin | hin
          · have hv : To.hasV k x y t z a b = true := by rw [HVh.out]; exact decide_eq_true hin
            have HK1 : Hid (alH k x y t z h (j + 1) = true) := by unfold Hid; rw [HS.out, HK.out, hv]; rfl
            have e1 : ¬ a < -X := by omega
            have e2 : ¬ x - X ≤ a := by omega
            have e3 : ¬ b < -Y := by omega
            have e4 : ¬ y - Y ≤ b := by omega
            clear hin hv HS HNO HVh
            go_wp2
            go_quiet (fail)
            go_wp2
            first | go_roundw | (go_quiet (fail); go_wp2; go_roundw)
            case rel => exact ⟨j + 1, by omega, by go_num, HK1.out, by first | exact gj | exact gb_drew gj | exact gb_drewN gj _ | exact gb_drewN (gb_drewN gj _) _ | exact gb_drew (gb_drewN gj _) | exact gb_drewN (gb_drew gj) _ | exact gb_drew (gb_drew gj)⟩
            case measure => simp [intOf]; omega
          · have hv : To.hasV k x y t z a b = false := by rw [HVh.out]; exact decide_eq_false hin
            have h0 : rE = 130 := by
              rw [← HRE.out]
              unfold ceL
              rw [HNO.out hv, if_neg (by simp)]
            subst h0
            clear hv HS HNO HVh HK
            have hcs : a < -X ∨ (¬ a < -X ∧ x - X ≤ a) ∨ (¬ a < -X ∧ ¬ x - X ≤ a ∧ b < -Y) ∨ (¬ a < -X ∧ ¬ x - X ≤ a ∧ ¬ b < -Y ∧ y - Y ≤ b) := by omega
            clear hin
            rcases hcs with e1 | ⟨e1, e2⟩ | ⟨e1, e2, e3⟩ | ⟨e1, e2, e3, e4⟩
            all_goals
              go_wp2
              go_quiet (fail)
              go_wp2
              first | go_ret | (go_quiet (fail); go_wp2; go_ret)
              exact ⟨rfl, by first | exact Gj | exact gb_drew Gj | exact gb_drewN Gj _ | exact gb_drewN (gb_drewN Gj _) _ | exact gb_drew (gb_drewN Gj _) | exact gb_drewN (gb_drew Gj) _ | exact gb_drew (gb_drew Gj)⟩
        · have hjm : j = m := by omega
          have hlt' : ¬ (j : Int) < (m : Int) := by omega
          have hrv : rE = if tw h m = true then 6 else 0 := by
            rw [← HRE.out]
            unfold ceL
            rw [← hjm, HK.out, if_pos rfl]
          have kWj := kW wr Gj
          clear hjm kW
          cases htw : tw h m with
          | true =>
            rw [htw] at kWj hrv
            simp only [if_true] at hrv
            subst hrv
            go_wp2_with (first | (go_at_call 45; refine kWj.mono ?_; rintro e w7 ⟨rfl, g7⟩; clear kWj) | go_in)
            go_ret
            exact ⟨rfl, gb_trans Gj g7⟩
          | false =>
            rw [htw] at kWj hrv
            simp only [Bool.false_eq_true, if_false] at hrv
            subst hrv
            go_wp2_with (first | (go_at_call 45; refine kWj.mono ?_; rintro e w7 ⟨rfl, g7⟩; clear kWj) | go_in)
            go_ret
            exact ⟨rfl, gb_trans Gj g7⟩
    · rw [if_pos hO]
      obtain ⟨eO, heO⟩ : ∃ e, ckO f n 1099511627776 = e := ⟨_, rfl⟩
      rw [heO] at kC hO ⊢
      have hb : (eO != 0) = true := by simp [hO]
      clear heO
      go_enter Tryz.func21, Tryz.ntmps21
      go_wp2_with (first | (go_at_call 43; refine kT.mono ?_; rintro e w3 ⟨rfl, g3⟩; clear kT; have kC3 := kC w3 (gb_trans g1 g3); clear kC) | (go_at_call 44; refine kC3.mono ?_; rintro e w4 ⟨rfl, g4⟩; clear kC3) | go_in)
      go_ret
      exact ⟨rfl, gb_trans g1 (gb_trans g3 g4)⟩
  · rw [if_pos hE]
    obtain ⟨eT, heT⟩ : ∃ e, toE k x y t z = e := ⟨_, rfl⟩
    rw [heT] at kT hE ⊢
    have hb : (eT != 0) = true := by simp [hE]
    clear heT
    go_enter Tryz.func21, Tryz.ntmps21
    go_wp2_with (first | (go_at_call 43; refine kT.mono ?_; rintro e w3 ⟨rfl, g3⟩; clear kT) | go_in)
    go_ret
    exact ⟨rfl, gb_trans g1 g3⟩
end Ln
end Go.Proofs.YtbmpiddjakdebaaGreat
