/- same, of the statements: what it answers. -/
import Derived.Test.YtjacoifhjfipaaaCl
import Derived.Deep.QuietTactic
import Derived.BigQuiet
import Derived.LoopN
namespace Go.Proofs.Ytjacoifhjfipaaa
open Go.RowKit
set_option linter.unusedVariables false
set_option linter.unusedSimpArgs false
set_option maxRecDepth 100000

theorem sameC (sa sb : Option Addr) (ca cb : Nat) (la lb : List Cx) (h1 : la.length < 4611686018427387904) (h2 : lb.length < 4611686018427387904) (w : World) (ha : Ce w sa la) (hb : Ce w sb lb) : Calls Try.prog 18 #[.slice sa la.length ca, .slice sb lb.length cb] w fun e w' => e = .returned (.bool (decide (la = lb))) ∧ w.grownBy w' none := by
  by_cases hl : la.length = lb.length
  · have HA : Hid (Ce w sa la) := ha
    have HB : Hid (Ce w sb lb) := hb
    have HL : Hid (la.length = lb.length) := hl
    obtain ⟨n, hn⟩ : ∃ n, la.length = n := ⟨_, rfl⟩
    rw [← hl, hn]
    have HN : Hid (la.length = n) := hn
    rw [hn] at h1
    clear ha hb hl h2 hn
    go_enter Try.func18, Try.ntmps18
    go_wp2
    go_loopw [5] (fun v wr => ∃ k : Nat, k ≤ n ∧ v = .int .i64 k ∧ w.grownBy wr none ∧ Hid (la.take k = lb.take k)) (fun v _ => n - (intOf v).toNat)
    case atStart => exact ⟨0, Nat.zero_le _, rfl, World.grownBy.refl _ _, rfl⟩
    case round =>
      obtain ⟨k, hk, rfl, hg, HT⟩ := hrel
      by_cases hlt : k < n
      · have hla : k < la.length := by have := HN.out; omega
        have hlb : k < lb.length := by have := HN.out; have := HL.out; omega
        obtain ⟨q1, o1, rfl, x0, x1, x2⟩ := (HA.out.kept hg (by simp)) k hla
        obtain ⟨q2, o2, rfl, y0, y1, y2⟩ := (HB.out.kept hg (by simp)) k hlb
        have hlt' : (k : Int) < (n : Int) := by omega
        have hw1 : IntKind.i64.wrap ((k : Int) + 1) = (k : Int) + 1 := by rw [IntKind.wrap_i64]; omega
        obtain ⟨c, hc⟩ : ∃ c, la[k] = c := ⟨_, rfl⟩
        obtain ⟨d, hd⟩ : ∃ d, lb[k] = d := ⟨_, rfl⟩
        rw [hc] at x0 x1 x2
        rw [hd] at y0 y1 y2
        have HC : Hid (la[k] = c ∧ lb[k] = d) := ⟨hc, hd⟩
        have HS : Hid (c = d → la.take (k + 1) = lb.take (k + 1)) := fun e => by
          rw [List.take_add_one, List.take_add_one, HT.out, List.getElem?_eq_getElem hla, List.getElem?_eq_getElem hlb, hc, hd, e]
        have HD : Hid (¬ c = d → decide (la = lb) = false) := fun e => by
          rw [decide_eq_false_iff_not]; intro h; subst h; exact e (by rw [← hc, ← hd])
        clear hc hd HT
        obtain ⟨xa, ya, za⟩ := c
        obtain ⟨xb, yb, zb⟩ := d
        by_cases e1 : xa = xb
        · subst e1
          by_cases e2 : ya = yb
          · subst e2
            by_cases e3 : za = zb
            · subst e3
              have HS' : Hid (la.take (k + 1) = lb.take (k + 1)) := HS.out rfl
              clear HS HD
              go_wp2
              go_quiet (fail)
              go_wp2
              go_roundw
              case rel => exact ⟨k + 1, hlt, by go_num, by first | exact hg | exact gb_drew hg | exact gb_drewN hg _, HS'⟩
              case measure => simp [intOf]; omega
            · have HF : Hid (decide (la = lb) = false) := HD.out (fun e => e3 (congrArg (fun c : Cx => c.2.2) e))
              have n3 : ((za : Int) == (zb : Int)) = false := by simp; omega
              clear HS HD
              go_wp2
              go_quiet (fail)
              go_wp2
              go_ret
              rw [HF.out]
              exact ⟨rfl, by first | exact hg | exact gb_drew hg | exact gb_drewN hg _⟩
          · have HF : Hid (decide (la = lb) = false) := HD.out (fun e => e2 (congrArg (fun c : Cx => c.2.1) e))
            have n2 : (ya == yb) = false := by simp; exact e2
            clear HS HD
            go_wp2
            go_quiet (fail)
            go_wp2
            go_ret
            rw [HF.out]
            exact ⟨rfl, by first | exact hg | exact gb_drew hg | exact gb_drewN hg _⟩
        · have HF : Hid (decide (la = lb) = false) := HD.out (fun e => e1 (congrArg (fun c : Cx => c.1) e))
          have n1 : (xa == xb) = false := by simp; exact e1
          clear HS HD
          go_wp2
          go_quiet (fail)
          go_wp2
          go_ret
          rw [HF.out]
          exact ⟨rfl, by first | exact hg | exact gb_drew hg | exact gb_drewN hg _⟩
      · obtain rfl : k = n := by omega
        have hlt' : ¬ (k : Int) < (k : Int) := by omega
        have he : Hid (decide (la = lb) = true) := by
          unfold Hid
          rw [decide_eq_true_iff]
          have := HT.out
          rw [List.take_of_length_le (by have := HN.out; omega), List.take_of_length_le (by have := HN.out; have := HL.out; omega)] at this
          exact this
        go_wp2
        go_ret
        rw [he.out]
        exact ⟨rfl, hg⟩
  · have e : decide (la = lb) = false := by rw [decide_eq_false_iff_not]; intro h; exact hl (by rw [h])
    have hne : (((la.length : Nat) : Int) != ((lb.length : Nat) : Int)) = true := by simp; omega
    rw [e]
    clear e ha hb hl
    go_enter Try.func18, Try.ntmps18
    go_wp2
    go_ret
    exact ⟨rfl, World.grownBy.refl _ _⟩
end Go.Proofs.Ytjacoifhjfipaaa
