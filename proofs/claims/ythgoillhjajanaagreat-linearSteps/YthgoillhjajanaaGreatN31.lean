/- same. -/
import Derived.Test.YthgoillhjajanaaGreatNa
import Derived.Test.YthgoillhjajanaaGreatT7
import Derived.Deep.QuietTactic
namespace Go.Proofs.YthgoillhjajanaaGreat
open Go.RowKit
set_option linter.unusedVariables false
set_option linter.unusedSimpArgs false
set_option maxRecDepth 100000

namespace Ln
/-- The first so many places of two lists are the same. -/
def smL (f h : Nat → Pt) : Nat → Bool
  | 0 => true
  | k + 1 => smL f h k && decide (f k = h k)
theorem smL_no (f h : Nat → Pt) (k : Nat) (hk : f k ≠ h k) : ∀ n, k < n → smL f h n = false
  | 0, hn => by omega
  | n + 1, hn => by
    show (smL f h n && decide (f n = h n)) = false
    by_cases e : k = n
    · subst e; simp [hk]
    · rw [smL_no f h k hk n (by omega)]; rfl
theorem smL_yes (f h : Nat → Pt) : ∀ n, (∀ k, k < n → f k = h k) → smL f h n = true
  | 0, _ => rfl
  | n + 1, hn => by
    show (smL f h n && decide (f n = h n)) = true
    rw [smL_yes f h n (fun k hk => hn k (by omega)), decide_eq_true (hn n (by omega))]; rfl
set_option maxHeartbeats 1000000 in
theorem sameC (s1 : Option Addr) (n c1 : Nat) (f : Nat → Pt) (hf : ∀ k, k < n → PtOk (f k)) (hn : n < 1000000000) (s2 : Option Addr) (m c2 : Nat) (h : Nat → Pt) (hh : ∀ k, k < m → PtOk (h k)) (hm : m < 1000000000) (w : World) (H1 : Pl w s1 n f) (H2 : Pl w s2 m h) :
    Calls Tryz.prog 14 #[.slice s1 n c1, .slice s2 m c2] w fun e w' => e = .returned (.bool (decide (n = m) && smL f h n)) ∧ w.grownBy w' none := by
  by_cases hnm : n = m
  · subst hnm
    rw [decide_eq_true rfl, Bool.true_and]
    obtain ⟨r, hr⟩ : ∃ r, smL f h n = r := ⟨_, rfl⟩
    have HR : Hid (smL f h n = r) := hr
    rw [hr]
    clear hr
    go_enter Tryz.func14, Tryz.ntmps14
    go_wp2
    go_loopw [5] (fun v wr => ∃ i : Nat, i ≤ n ∧ v = .int .i64 i ∧ w.grownBy wr none ∧ Hid (∀ k, k < i → f k = h k)) (fun v _ => n - (intOf v).toNat)
    case atStart => exact ⟨0, Nat.zero_le _, rfl, World.grownBy.refl _ _, fun k hk => by omega⟩
    case round =>
      obtain ⟨i, hi, rfl, gi, HS⟩ := hrel
      by_cases hlt : i < n
      · have hlt' : (i : Int) < (n : Int) := by omega
        obtain ⟨q, o, rfl, c0, c1⟩ := (H1.kept gi (by simp)) i hlt
        obtain ⟨q2, o2, rfl, d0, d1⟩ := (H2.kept gi (by simp)) i hlt
        have hfi := hf i hlt
        have hhi := hh i hlt
        by_cases he : f i = h i
        · have HS1 : Hid (∀ k, k < i + 1 → f k = h k) := fun k hk => by
            by_cases e : k = i
            · subst e; exact he
            · exact HS.out k (by omega)
          rw [← he] at d0 d1
          clear he HS
          obtain ⟨p, hp⟩ : ∃ p, f i = p := ⟨_, rfl⟩
          rw [hp] at c0 c1 d0 d1
          clear hp
          obtain ⟨a, b⟩ := p
          go_wp2
          go_quiet (fail)
          go_wp2
          go_roundw
          case rel => exact ⟨i + 1, by omega, by go_num, by first | exact gi | exact gb_drew gi | exact gb_drewN gi _, HS1.out⟩
          case measure => simp [intOf]; omega
        · have HV : r = false := HR.out.symm.trans (smL_no f h i he n hlt)
          subst HV
          clear HS HR
          obtain ⟨p, hp⟩ : ∃ p, f i = p := ⟨_, rfl⟩
          obtain ⟨p2, hp2⟩ : ∃ p, h i = p := ⟨_, rfl⟩
          rw [hp] at c0 c1 he
          rw [hp2] at d0 d1 he
          clear hp hp2
          obtain ⟨a, b⟩ := p
          obtain ⟨c, d⟩ := p2
          have he' : ¬ (a = c ∧ b = d) := fun e => he (by rw [e.1, e.2])
          by_cases hac : a = c
          · subst hac
            have hbd : (b == d) = false := by simp; exact fun e => he' ⟨rfl, e⟩
            go_wp2
            go_quiet (fail)
            go_wp2
            go_ret
            exact ⟨rfl, by first | exact gi | exact gb_drew gi | exact gb_drewN gi _⟩
          · have hbd : (a == c) = false := by simp; exact hac
            go_wp2
            go_quiet (fail)
            go_wp2
            go_ret
            exact ⟨rfl, by first | exact gi | exact gb_drew gi | exact gb_drewN gi _⟩
      · have hin : i = n := by omega
        subst hin
        have hlt' : ¬ (i : Int) < (i : Int) := by omega
        have HV : r = true := HR.out.symm.trans (smL_yes f h i HS.out)
        subst HV
        go_wp2
        go_ret
        exact ⟨rfl, gi⟩
  · have hb : ((n : Int) != (m : Int)) = true := by simp; omega
    rw [decide_eq_false hnm, Bool.false_and]
    go_enter Tryz.func14, Tryz.ntmps14
    go_wp2
    go_ret
    exact ⟨rfl, World.grownBy.refl _ _⟩
end Ln
end Go.Proofs.YthgoillhjajanaaGreat
