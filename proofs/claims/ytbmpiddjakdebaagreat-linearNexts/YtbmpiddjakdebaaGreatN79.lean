/- symMerge, of more. -/
import Derived.Test.YtbmpiddjakdebaaGreatNf
namespace Go.Proofs.YtbmpiddjakdebaaGreat
open Go.RowKit
set_option linter.unusedVariables false
set_option linter.unusedSimpArgs false
set_option maxRecDepth 100000

namespace Ln
set_option maxHeartbeats 2000000 in
theorem symR (base g cap N : Nat) (hN : N < 1099511627776) (n : Nat) (ih : ∀ (a m b : Nat), b - a < n → a < m → m < b → b ≤ N → ∀ (L : List Ml) (w : World), w.ownsRow base 24 1 (.slice (some ⟨g, 0, none⟩) N cap) N (L.map encM) → Calls Tryz.prog 90 #[.slice (some ⟨g, 0, none⟩) N cap, .int .i64 a, .int .i64 m, .int .i64 b, .func (.func 58) #[] #[]] w fun e w' => e = .returned (.tuple #[]) ∧ ∃ L', Pm base g cap N L w w' L') (a m b : Nat) (hn : b - a ≤ n) (ha : a + 1 < m) (hm : m + 1 < b) (hb : b ≤ N) (L : List Ml) (w : World) (own : w.ownsRow base 24 1 (.slice (some ⟨g, 0, none⟩) N cap) N (L.map encM)) :
    Calls Tryz.prog 90 #[.slice (some ⟨g, 0, none⟩) N cap, .int .i64 a, .int .i64 m, .int .i64 b, .func (.func 58) #[] #[]] w fun e w' => e = .returned (.tuple #[]) ∧ ∃ L', Pm base g cap N L w w' L' := by
  have P0 : Hid (Pm base g cap N L w w L) := Pm.refl own
  have kR := fun (s e : Nat) (h1 : s < m) (h2 : m < e) (h3 : e ≤ N) (L1 : List Ml) (w1 : World) (own1 : w1.ownsRow base 24 1 (.slice (some ⟨g, 0, none⟩) N cap) N (L1.map encM)) => rotateC base g cap N hN s m e h1 h2 h3 L1 w1 own1
  obtain ⟨q, hq⟩ : ∃ q : Int, (m : Int) - (a : Int) = q := ⟨_, rfl⟩
  have w1 : IntKind.i64.wrap ((m : Int) - (a : Int)) = q := by rw [IntKind.wrap_i64]; omega
  have w2 : (q == 1) = false := by simp; omega
  obtain ⟨q2, hq2⟩ : ∃ q : Int, (b : Int) - (m : Int) = q := ⟨_, rfl⟩
  have w3 : IntKind.i64.wrap ((b : Int) - (m : Int)) = q2 := by rw [IntKind.wrap_i64]; omega
  have w4 : (q2 == 1) = false := by simp; omega
  have w5 : IntKind.i64.wrap ((a : Int) + (b : Int)) = (a : Int) + (b : Int) := by rw [IntKind.wrap_i64]; omega
  obtain ⟨mid, hmid⟩ : ∃ h : Nat, h = (a + b) / 2 := ⟨_, rfl⟩
  have hmi : ((a : Int) + (b : Int)) / 2 = (mid : Int) := by omega
  have w6 : IntKind.i64.wrap ((mid : Int) + (m : Int)) = (mid : Int) + (m : Int) := by rw [IntKind.wrap_i64]; omega
  have w7 : IntKind.i64.wrap ((mid : Int) + (m : Int) - 1) = (mid : Int) + (m : Int) - 1 := by rw [IntKind.wrap_i64]; omega
  have HM : Hid (a < mid ∧ mid < b ∧ 2 * mid ≤ a + b ∧ a + b ≤ 2 * mid + 1) := ⟨by omega, by omega, by omega, by omega⟩
  clear own hq hq2 hmid
  have IH : Hid (∀ (a m b : Nat), b - a < n → a < m → m < b → b ≤ N → ∀ (L : List Ml) (w : World), w.ownsRow base 24 1 (.slice (some ⟨g, 0, none⟩) N cap) N (L.map encM) → Calls Tryz.prog 90 #[.slice (some ⟨g, 0, none⟩) N cap, .int .i64 a, .int .i64 m, .int .i64 b, .func (.func 58) #[] #[]] w fun e w' => e = .returned (.tuple #[]) ∧ ∃ L', Pm base g cap N L w w' L') := ih
  have KR : Hid (∀ (s e : Nat) (h1 : s < m) (h2 : m < e) (h3 : e ≤ N) (L1 : List Ml) (w1 : World) (own1 : w1.ownsRow base 24 1 (.slice (some ⟨g, 0, none⟩) N cap) N (L1.map encM)), Calls Tryz.prog 104 #[.slice (some ⟨g, 0, none⟩) N cap, .int .i64 s, .int .i64 m, .int .i64 e, .func (.func 58) #[] #[]] w1 fun e w' => e = .returned (.tuple #[]) ∧ ∃ L', Pm base g cap N L1 w1 w' L') := kR
  clear ih kR
  by_cases hmm : mid < m
  · have hmm' : (mid : Int) < (m : Int) := by omega
    obtain ⟨lo, hlo⟩ : ∃ lo : Nat, lo = mid + m - b := ⟨_, rfl⟩
    have w8 : IntKind.i64.wrap ((mid : Int) + (m : Int) - (b : Int)) = (lo : Int) := by have := HM.out; rw [IntKind.wrap_i64]; omega
    have hB : lo ≤ mid ∧ a ≤ lo ∧ lo ≤ m := by have := HM.out; omega
    have HL : Hid (lo = mid + m - b ∧ mid + m - b ≥ a) := ⟨hlo, by have := HM.out; omega⟩
    clear hlo
    go_enter Tryz.func90, Tryz.ntmps90
    go_wp2
    go_loopw [20, 21] (fun u v wr => ∃ (i j : Nat), lo ≤ i ∧ i ≤ j ∧ j ≤ mid ∧ u = .int .i64 i ∧ v = .int .i64 j ∧ Hid (Pm base g cap N L w wr L)) (fun u v _ => (intOf v).toNat - (intOf u).toNat)
    case atStart => exact ⟨lo, mid, by omega, by omega, by omega, rfl, rfl, P0.out⟩
    case round =>
      obtain ⟨i, j, h1, h2, h3, rfl, rfl, HP⟩ := hrel
      by_cases hlt : i < j
      · have hlt' : (i : Int) < (j : Int) := by omega
        obtain ⟨h, hh⟩ : ∃ h : Nat, h = (i + j) / 2 := ⟨_, rfl⟩
        have wh : IntKind.i64.wrap ((i : Int) + (j : Int)) = (i : Int) + (j : Int) := by rw [IntKind.wrap_i64]; omega
        have hhi : ((i : Int) + (j : Int)) / 2 = (h : Int) := by omega
        have hb3 : i ≤ h ∧ h < j := by omega
        obtain ⟨pc, hpc⟩ : ∃ pc : Nat, pc = mid + m - 1 - h := ⟨_, rfl⟩
        have hpN : pc < N := by have := HM.out; have := HL.out; omega
        have wp : IntKind.i64.wrap ((mid : Int) + (m : Int) - 1 - (h : Int)) = (pc : Int) := by have := HM.out; have := HL.out; rw [IntKind.wrap_i64]; omega
        have hhN : h < N := by have := HM.out; omega
        obtain ⟨x, hx, cx⟩ := HP.out.at pc hpN
        obtain ⟨y, hy, cy⟩ := HP.out.at h hhN
        have lh : (h : Int) < (N : Int) := by omega
        have la : (pc : Int) < (N : Int) := by omega
        have kc := fun w => closM x y w
        generalize cmpM x y = r at kc
        have wh1 : IntKind.i64.wrap ((h : Int) + 1) = (h : Int) + 1 := by rw [IntKind.wrap_i64]; omega
        clear hx hy hh hpc
        go_wp2
        by_cases hr : r < 0
        · go_quiet (first | (go_at_call 58; refine Calls.quiet_of_same (kc _)))
          go_wp2
          go_roundw
          case rel => exact ⟨i, h, by omega, by omega, by omega, rfl, rfl, by first | exact HP.out | exact HP.out.dr | exact HP.out.drew _⟩
          case measure => simp [intOf]; omega
        · have hr' : decide (r < 0) = false := decide_eq_false hr
          go_quiet (first | (go_at_call 58; refine Calls.quiet_of_same (kc _)))
          go_wp2
          go_roundw
          case rel => exact ⟨h + 1, j, by omega, by omega, by omega, by go_num, rfl, by first | exact HP.out | exact HP.out.dr | exact HP.out.drew _⟩
          case measure => simp [intOf]; omega
      · obtain rfl : i = j := by omega
        have hlt' : ¬ (i : Int) < (i : Int) := by omega
        obtain ⟨en, hen⟩ : ∃ en : Nat, en = mid + m - i := ⟨_, rfl⟩
        have we : IntKind.i64.wrap ((mid : Int) + (m : Int) - (i : Int)) = (en : Int) := by have := HM.out; have := HL.out; rw [IntKind.wrap_i64]; omega
        have HE : Hid (en ≤ b ∧ mid ≤ en ∧ i ≤ m ∧ i ≤ mid) := ⟨by have := HM.out; have := HL.out; omega, by omega, by omega, by omega⟩
        have k1 : i < m → m < en → Calls Tryz.prog 104 #[.slice (some ⟨g, 0, none⟩) N cap, .int .i64 i, .int .i64 m, .int .i64 en, .func (.func 58) #[] #[]] wr fun e w' => e = .returned (.tuple #[]) ∧ ∃ L', Pm base g cap N L wr w' L' := fun h1 h2 => KR.out i en h1 h2 (by have := HE.out; omega) L wr HP.out.own
        have k2 := fun (w1 : World) (L1 : List Ml) (h1 : a < i) (h2 : i < mid) (own1 : w1.ownsRow base 24 1 (.slice (some ⟨g, 0, none⟩) N cap) N (L1.map encM)) => IH.out a i mid (by have := HM.out; omega) h1 h2 (by have := HM.out; omega) L1 w1 own1
        have k3 := fun (w1 : World) (L1 : List Ml) (h1 : mid < en) (h2 : en < b) (own1 : w1.ownsRow base 24 1 (.slice (some ⟨g, 0, none⟩) N cap) N (L1.map encM)) => IH.out mid en b (by have := HM.out; omega) h1 h2 hb L1 w1 own1
        have c1 : (i < m ∧ m < en) ∨ (¬ i < m) ∨ (i < m ∧ ¬ m < en) := by omega
        have c2 : (a < i ∧ i < mid) ∨ (¬ a < i) ∨ (a < i ∧ ¬ i < mid) := by omega
        have c3 : (mid < en ∧ en < b) ∨ (¬ mid < en) ∨ (mid < en ∧ ¬ en < b) := by omega
        clear hen KR IH
        have key : ∀ (w1 : World) (L1 : List Ml), Hid (Pm base g cap N L w w1 L1) → Hid (w1.ownsRow base 24 1 (.slice (some ⟨g, 0, none⟩) N cap) N (L1.map encM)) := fun w1 L1 h => h.out.own
        rcases c1 with c1 | c1 | c1
        · rcases c2 with c2 | c2 | c2
          · rcases c3 with c3 | c3 | c3
            · have d1 : (i : Int) < (m : Int) := by omega
              have d2 : (m : Int) < (en : Int) := by omega
              have e1 : (a : Int) < (i : Int) := by omega
              have e2 : (i : Int) < (mid : Int) := by omega
              have f1 : (mid : Int) < (en : Int) := by omega
              have f2 : (en : Int) < (b : Int) := by omega
              have kk1 := k1 (by omega) (by omega)
              clear k1 key
              go_wp2_with (first | (go_at_call 104; refine kk1.mono ?_; rintro e w3 ⟨rfl, L3, P3⟩; have HP3 : Hid (Pm base g cap N L w w3 L3) := HP.out.trans P3; have kk2 := k2 w3 L3 (by omega) (by omega) P3.own; clear P3 kk1) | (go_at_call 90; refine kk2.mono ?_; rintro e w4 ⟨rfl, L4, P4⟩; have HP4 : Hid (Pm base g cap N L w w4 L4) := (HP3.out).trans P4; have kk3 := k3 w4 L4 (by omega) (by omega) P4.own; clear P4 kk2) | (go_at_call 90; refine kk3.mono ?_; rintro e w5 ⟨rfl, L5, P5⟩; have HP5 : Hid (Pm base g cap N L w w5 L5) := (HP4.out).trans P5; clear P5 kk3) | go_in)
              all_goals (go_end0; exact ⟨rfl, L5, HP5.out⟩)
            · have d1 : (i : Int) < (m : Int) := by omega
              have d2 : (m : Int) < (en : Int) := by omega
              have e1 : (a : Int) < (i : Int) := by omega
              have e2 : (i : Int) < (mid : Int) := by omega
              have f1 : ¬ (mid : Int) < (en : Int) := by omega
              have kk1 := k1 (by omega) (by omega)
              clear k1 key
              go_wp2_with (first | (go_at_call 104; refine kk1.mono ?_; rintro e w3 ⟨rfl, L3, P3⟩; have HP3 : Hid (Pm base g cap N L w w3 L3) := HP.out.trans P3; have kk2 := k2 w3 L3 (by omega) (by omega) P3.own; clear P3 kk1) | (go_at_call 90; refine kk2.mono ?_; rintro e w4 ⟨rfl, L4, P4⟩; have HP4 : Hid (Pm base g cap N L w w4 L4) := (HP3.out).trans P4; clear P4 kk2) | go_in)
              all_goals (go_end0; exact ⟨rfl, L4, HP4.out⟩)
            · have d1 : (i : Int) < (m : Int) := by omega
              have d2 : (m : Int) < (en : Int) := by omega
              have e1 : (a : Int) < (i : Int) := by omega
              have e2 : (i : Int) < (mid : Int) := by omega
              have f1 : (mid : Int) < (en : Int) := by omega
              have f2 : ¬ (en : Int) < (b : Int) := by omega
              have kk1 := k1 (by omega) (by omega)
              clear k1 key
              go_wp2_with (first | (go_at_call 104; refine kk1.mono ?_; rintro e w3 ⟨rfl, L3, P3⟩; have HP3 : Hid (Pm base g cap N L w w3 L3) := HP.out.trans P3; have kk2 := k2 w3 L3 (by omega) (by omega) P3.own; clear P3 kk1) | (go_at_call 90; refine kk2.mono ?_; rintro e w4 ⟨rfl, L4, P4⟩; have HP4 : Hid (Pm base g cap N L w w4 L4) := (HP3.out).trans P4; clear P4 kk2) | go_in)
              all_goals (go_end0; exact ⟨rfl, L4, HP4.out⟩)
          · rcases c3 with c3 | c3 | c3
            · have d1 : (i : Int) < (m : Int) := by omega
              have d2 : (m : Int) < (en : Int) := by omega
              have e1 : ¬ (a : Int) < (i : Int) := by omega
              have f1 : (mid : Int) < (en : Int) := by omega
              have f2 : (en : Int) < (b : Int) := by omega
              have kk1 := k1 (by omega) (by omega)
              clear k1 key
              go_wp2_with (first | (go_at_call 104; refine kk1.mono ?_; rintro e w3 ⟨rfl, L3, P3⟩; have HP3 : Hid (Pm base g cap N L w w3 L3) := HP.out.trans P3; have kk3 := k3 w3 L3 (by omega) (by omega) P3.own; clear P3 kk1) | (go_at_call 90; refine kk3.mono ?_; rintro e w5 ⟨rfl, L5, P5⟩; have HP5 : Hid (Pm base g cap N L w w5 L5) := (HP3.out).trans P5; clear P5 kk3) | go_in)
              all_goals (go_end0; exact ⟨rfl, L5, HP5.out⟩)
            · have d1 : (i : Int) < (m : Int) := by omega
              have d2 : (m : Int) < (en : Int) := by omega
              have e1 : ¬ (a : Int) < (i : Int) := by omega
              have f1 : ¬ (mid : Int) < (en : Int) := by omega
              have kk1 := k1 (by omega) (by omega)
              clear k1 key
              go_wp2_with (first | (go_at_call 104; refine kk1.mono ?_; rintro e w3 ⟨rfl, L3, P3⟩; have HP3 : Hid (Pm base g cap N L w w3 L3) := HP.out.trans P3; clear P3 kk1) | go_in)
              all_goals (go_end0; exact ⟨rfl, L3, HP3.out⟩)
            · have d1 : (i : Int) < (m : Int) := by omega
              have d2 : (m : Int) < (en : Int) := by omega
              have e1 : ¬ (a : Int) < (i : Int) := by omega
              have f1 : (mid : Int) < (en : Int) := by omega
              have f2 : ¬ (en : Int) < (b : Int) := by omega
              have kk1 := k1 (by omega) (by omega)
              clear k1 key
              go_wp2_with (first | (go_at_call 104; refine kk1.mono ?_; rintro e w3 ⟨rfl, L3, P3⟩; have HP3 : Hid (Pm base g cap N L w w3 L3) := HP.out.trans P3; clear P3 kk1) | go_in)
              all_goals (go_end0; exact ⟨rfl, L3, HP3.out⟩)
          · rcases c3 with c3 | c3 | c3
            · have d1 : (i : Int) < (m : Int) := by omega
              have d2 : (m : Int) < (en : Int) := by omega
              have e1 : (a : Int) < (i : Int) := by omega
              have e2 : ¬ (i : Int) < (mid : Int) := by omega
              have f1 : (mid : Int) < (en : Int) := by omega
              have f2 : (en : Int) < (b : Int) := by omega
              have kk1 := k1 (by omega) (by omega)
              clear k1 key
              go_wp2_with (first | (go_at_call 104; refine kk1.mono ?_; rintro e w3 ⟨rfl, L3, P3⟩; have HP3 : Hid (Pm base g cap N L w w3 L3) := HP.out.trans P3; have kk3 := k3 w3 L3 (by omega) (by omega) P3.own; clear P3 kk1) | (go_at_call 90; refine kk3.mono ?_; rintro e w5 ⟨rfl, L5, P5⟩; have HP5 : Hid (Pm base g cap N L w w5 L5) := (HP3.out).trans P5; clear P5 kk3) | go_in)
              all_goals (go_end0; exact ⟨rfl, L5, HP5.out⟩)
            · have d1 : (i : Int) < (m : Int) := by omega
              have d2 : (m : Int) < (en : Int) := by omega
              have e1 : (a : Int) < (i : Int) := by omega
              have e2 : ¬ (i : Int) < (mid : Int) := by omega
              have f1 : ¬ (mid : Int) < (en : Int) := by omega
              have kk1 := k1 (by omega) (by omega)
              clear k1 key
              go_wp2_with (first | (go_at_call 104; refine kk1.mono ?_; rintro e w3 ⟨rfl, L3, P3⟩; have HP3 : Hid (Pm base g cap N L w w3 L3) := HP.out.trans P3; clear P3 kk1) | go_in)
              all_goals (go_end0; exact ⟨rfl, L3, HP3.out⟩)
            · have d1 : (i : Int) < (m : Int) := by omega
              have d2 : (m : Int) < (en : Int) := by omega
              have e1 : (a : Int) < (i : Int) := by omega
              have e2 : ¬ (i : Int) < (mid : Int) := by omega
              have f1 : (mid : Int) < (en : Int) := by omega
              have f2 : ¬ (en : Int) < (b : Int) := by omega
              have kk1 := k1 (by omega) (by omega)
              clear k1 key
              go_wp2_with (first | (go_at_call 104; refine kk1.mono ?_; rintro e w3 ⟨rfl, L3, P3⟩; have HP3 : Hid (Pm base g cap N L w w3 L3) := HP.out.trans P3; clear P3 kk1) | go_in)
              all_goals (go_end0; exact ⟨rfl, L3, HP3.out⟩)
        · rcases c2 with c2 | c2 | c2
          · rcases c3 with c3 | c3 | c3
            · have d1 : decide ((i : Int) < (m : Int)) = false := decide_eq_false (by omega)
              have d1' : ¬ (i : Int) < (m : Int) := by omega
              have e1 : (a : Int) < (i : Int) := by omega
              have e2 : (i : Int) < (mid : Int) := by omega
              have f1 : (mid : Int) < (en : Int) := by omega
              have f2 : (en : Int) < (b : Int) := by omega
              have kk2 := k2 wr L (by omega) (by omega) HP.out.own
              clear k1 key
              go_wp2_with (first | (go_at_call 90; refine kk2.mono ?_; rintro e w4 ⟨rfl, L4, P4⟩; have HP4 : Hid (Pm base g cap N L w w4 L4) := (HP.out).trans P4; have kk3 := k3 w4 L4 (by omega) (by omega) P4.own; clear P4 kk2) | (go_at_call 90; refine kk3.mono ?_; rintro e w5 ⟨rfl, L5, P5⟩; have HP5 : Hid (Pm base g cap N L w w5 L5) := (HP4.out).trans P5; clear P5 kk3) | go_in)
              all_goals (go_end0; exact ⟨rfl, L5, HP5.out⟩)
            · have d1 : decide ((i : Int) < (m : Int)) = false := decide_eq_false (by omega)
              have d1' : ¬ (i : Int) < (m : Int) := by omega
              have e1 : (a : Int) < (i : Int) := by omega
              have e2 : (i : Int) < (mid : Int) := by omega
              have f1 : ¬ (mid : Int) < (en : Int) := by omega
              have kk2 := k2 wr L (by omega) (by omega) HP.out.own
              clear k1 key
              go_wp2_with (first | (go_at_call 90; refine kk2.mono ?_; rintro e w4 ⟨rfl, L4, P4⟩; have HP4 : Hid (Pm base g cap N L w w4 L4) := (HP.out).trans P4; clear P4 kk2) | go_in)
              all_goals (go_end0; exact ⟨rfl, L4, HP4.out⟩)
            · have d1 : decide ((i : Int) < (m : Int)) = false := decide_eq_false (by omega)
              have d1' : ¬ (i : Int) < (m : Int) := by omega
              have e1 : (a : Int) < (i : Int) := by omega
              have e2 : (i : Int) < (mid : Int) := by omega
              have f1 : (mid : Int) < (en : Int) := by omega
              have f2 : ¬ (en : Int) < (b : Int) := by omega
              have kk2 := k2 wr L (by omega) (by omega) HP.out.own
              clear k1 key
              go_wp2_with (first | (go_at_call 90; refine kk2.mono ?_; rintro e w4 ⟨rfl, L4, P4⟩; have HP4 : Hid (Pm base g cap N L w w4 L4) := (HP.out).trans P4; clear P4 kk2) | go_in)
              all_goals (go_end0; exact ⟨rfl, L4, HP4.out⟩)
          · rcases c3 with c3 | c3 | c3
            · have d1 : decide ((i : Int) < (m : Int)) = false := decide_eq_false (by omega)
              have d1' : ¬ (i : Int) < (m : Int) := by omega
              have e1 : ¬ (a : Int) < (i : Int) := by omega
              have f1 : (mid : Int) < (en : Int) := by omega
              have f2 : (en : Int) < (b : Int) := by omega
              have kk3 := k3 wr L (by omega) (by omega) HP.out.own
              clear k1 key
              go_wp2_with (first | (go_at_call 90; refine kk3.mono ?_; rintro e w5 ⟨rfl, L5, P5⟩; have HP5 : Hid (Pm base g cap N L w w5 L5) := (HP.out).trans P5; clear P5 kk3) | go_in)
              all_goals (go_end0; exact ⟨rfl, L5, HP5.out⟩)
            · have d1 : decide ((i : Int) < (m : Int)) = false := decide_eq_false (by omega)
              have d1' : ¬ (i : Int) < (m : Int) := by omega
              have e1 : ¬ (a : Int) < (i : Int) := by omega
              have f1 : ¬ (mid : Int) < (en : Int) := by omega
              clear k1 key
              go_wp2
              all_goals (go_end0; exact ⟨rfl, L, HP.out⟩)
            · have d1 : decide ((i : Int) < (m : Int)) = false := decide_eq_false (by omega)
              have d1' : ¬ (i : Int) < (m : Int) := by omega
              have e1 : ¬ (a : Int) < (i : Int) := by omega
              have f1 : (mid : Int) < (en : Int) := by omega
              have f2 : ¬ (en : Int) < (b : Int) := by omega
              clear k1 key
              go_wp2
              all_goals (go_end0; exact ⟨rfl, L, HP.out⟩)
          · rcases c3 with c3 | c3 | c3
            · have d1 : decide ((i : Int) < (m : Int)) = false := decide_eq_false (by omega)
              have d1' : ¬ (i : Int) < (m : Int) := by omega
              have e1 : (a : Int) < (i : Int) := by omega
              have e2 : ¬ (i : Int) < (mid : Int) := by omega
              have f1 : (mid : Int) < (en : Int) := by omega
              have f2 : (en : Int) < (b : Int) := by omega
              have kk3 := k3 wr L (by omega) (by omega) HP.out.own
              clear k1 key
              go_wp2_with (first | (go_at_call 90; refine kk3.mono ?_; rintro e w5 ⟨rfl, L5, P5⟩; have HP5 : Hid (Pm base g cap N L w w5 L5) := (HP.out).trans P5; clear P5 kk3) | go_in)
              all_goals (go_end0; exact ⟨rfl, L5, HP5.out⟩)
            · have d1 : decide ((i : Int) < (m : Int)) = false := decide_eq_false (by omega)
              have d1' : ¬ (i : Int) < (m : Int) := by omega
              have e1 : (a : Int) < (i : Int) := by omega
              have e2 : ¬ (i : Int) < (mid : Int) := by omega
              have f1 : ¬ (mid : Int) < (en : Int) := by omega
              clear k1 key
              go_wp2
              all_goals (go_end0; exact ⟨rfl, L, HP.out⟩)
            · have d1 : decide ((i : Int) < (m : Int)) = false := decide_eq_false (by omega)
              have d1' : ¬ (i : Int) < (m : Int) := by omega
              have e1 : (a : Int) < (i : Int) := by omega
              have e2 : ¬ (i : Int) < (mid : Int) := by omega
              have f1 : (mid : Int) < (en : Int) := by omega
              have f2 : ¬ (en : Int) < (b : Int) := by omega
              clear k1 key
              go_wp2
              all_goals (go_end0; exact ⟨rfl, L, HP.out⟩)
        · rcases c2 with c2 | c2 | c2
          · rcases c3 with c3 | c3 | c3
            · have d1 : (i : Int) < (m : Int) := by omega
              have d2 : ¬ (m : Int) < (en : Int) := by omega
              have e1 : (a : Int) < (i : Int) := by omega
              have e2 : (i : Int) < (mid : Int) := by omega
              have f1 : (mid : Int) < (en : Int) := by omega
              have f2 : (en : Int) < (b : Int) := by omega
              have kk2 := k2 wr L (by omega) (by omega) HP.out.own
              clear k1 key
              go_wp2_with (first | (go_at_call 90; refine kk2.mono ?_; rintro e w4 ⟨rfl, L4, P4⟩; have HP4 : Hid (Pm base g cap N L w w4 L4) := (HP.out).trans P4; have kk3 := k3 w4 L4 (by omega) (by omega) P4.own; clear P4 kk2) | (go_at_call 90; refine kk3.mono ?_; rintro e w5 ⟨rfl, L5, P5⟩; have HP5 : Hid (Pm base g cap N L w w5 L5) := (HP4.out).trans P5; clear P5 kk3) | go_in)
              all_goals (go_end0; exact ⟨rfl, L5, HP5.out⟩)
            · have d1 : (i : Int) < (m : Int) := by omega
              have d2 : ¬ (m : Int) < (en : Int) := by omega
              have e1 : (a : Int) < (i : Int) := by omega
              have e2 : (i : Int) < (mid : Int) := by omega
              have f1 : ¬ (mid : Int) < (en : Int) := by omega
              have kk2 := k2 wr L (by omega) (by omega) HP.out.own
              clear k1 key
              go_wp2_with (first | (go_at_call 90; refine kk2.mono ?_; rintro e w4 ⟨rfl, L4, P4⟩; have HP4 : Hid (Pm base g cap N L w w4 L4) := (HP.out).trans P4; clear P4 kk2) | go_in)
              all_goals (go_end0; exact ⟨rfl, L4, HP4.out⟩)
            · have d1 : (i : Int) < (m : Int) := by omega
              have d2 : ¬ (m : Int) < (en : Int) := by omega
              have e1 : (a : Int) < (i : Int) := by omega
              have e2 : (i : Int) < (mid : Int) := by omega
              have f1 : (mid : Int) < (en : Int) := by omega
              have f2 : ¬ (en : Int) < (b : Int) := by omega
              have kk2 := k2 wr L (by omega) (by omega) HP.out.own
              clear k1 key
              go_wp2_with (first | (go_at_call 90; refine kk2.mono ?_; rintro e w4 ⟨rfl, L4, P4⟩; have HP4 : Hid (Pm base g cap N L w w4 L4) := (HP.out).trans P4; clear P4 kk2) | go_in)
              all_goals (go_end0; exact ⟨rfl, L4, HP4.out⟩)
          · rcases c3 with c3 | c3 | c3
            · have d1 : (i : Int) < (m : Int) := by omega
              have d2 : ¬ (m : Int) < (en : Int) := by omega
              have e1 : ¬ (a : Int) < (i : Int) := by omega
              have f1 : (mid : Int) < (en : Int) := by omega
              have f2 : (en : Int) < (b : Int) := by omega
              have kk3 := k3 wr L (by omega) (by omega) HP.out.own
              clear k1 key
              go_wp2_with (first | (go_at_call 90; refine kk3.mono ?_; rintro e w5 ⟨rfl, L5, P5⟩; have HP5 : Hid (Pm base g cap N L w w5 L5) := (HP.out).trans P5; clear P5 kk3) | go_in)
              all_goals (go_end0; exact ⟨rfl, L5, HP5.out⟩)
            · have d1 : (i : Int) < (m : Int) := by omega
              have d2 : ¬ (m : Int) < (en : Int) := by omega
              have e1 : ¬ (a : Int) < (i : Int) := by omega
              have f1 : ¬ (mid : Int) < (en : Int) := by omega
              clear k1 key
              go_wp2
              all_goals (go_end0; exact ⟨rfl, L, HP.out⟩)
            · have d1 : (i : Int) < (m : Int) := by omega
              have d2 : ¬ (m : Int) < (en : Int) := by omega
              have e1 : ¬ (a : Int) < (i : Int) := by omega
              have f1 : (mid : Int) < (en : Int) := by omega
              have f2 : ¬ (en : Int) < (b : Int) := by omega
              clear k1 key
              go_wp2
              all_goals (go_end0; exact ⟨rfl, L, HP.out⟩)
          · rcases c3 with c3 | c3 | c3
            · have d1 : (i : Int) < (m : Int) := by omega
              have d2 : ¬ (m : Int) < (en : Int) := by omega
              have e1 : (a : Int) < (i : Int) := by omega
              have e2 : ¬ (i : Int) < (mid : Int) := by omega
              have f1 : (mid : Int) < (en : Int) := by omega
              have f2 : (en : Int) < (b : Int) := by omega
              have kk3 := k3 wr L (by omega) (by omega) HP.out.own
              clear k1 key
              go_wp2_with (first | (go_at_call 90; refine kk3.mono ?_; rintro e w5 ⟨rfl, L5, P5⟩; have HP5 : Hid (Pm base g cap N L w w5 L5) := (HP.out).trans P5; clear P5 kk3) | go_in)
              all_goals (go_end0; exact ⟨rfl, L5, HP5.out⟩)
            · have d1 : (i : Int) < (m : Int) := by omega
              have d2 : ¬ (m : Int) < (en : Int) := by omega
              have e1 : (a : Int) < (i : Int) := by omega
              have e2 : ¬ (i : Int) < (mid : Int) := by omega
              have f1 : ¬ (mid : Int) < (en : Int) := by omega
              clear k1 key
              go_wp2
              all_goals (go_end0; exact ⟨rfl, L, HP.out⟩)
            · have d1 : (i : Int) < (m : Int) := by omega
              have d2 : ¬ (m : Int) < (en : Int) := by omega
              have e1 : (a : Int) < (i : Int) := by omega
              have e2 : ¬ (i : Int) < (mid : Int) := by omega
              have f1 : (mid : Int) < (en : Int) := by omega
              have f2 : ¬ (en : Int) < (b : Int) := by omega
              clear k1 key
              go_wp2
              all_goals (go_end0; exact ⟨rfl, L, HP.out⟩)
  · have hmm' : ¬ (mid : Int) < (m : Int) := by omega
    go_enter Tryz.func90, Tryz.ntmps90
    go_wp2
    go_loopw [20, 21] (fun u v wr => ∃ (i j : Nat), a ≤ i ∧ i ≤ j ∧ j ≤ m ∧ u = .int .i64 i ∧ v = .int .i64 j ∧ Hid (Pm base g cap N L w wr L)) (fun u v _ => (intOf v).toNat - (intOf u).toNat)
    case atStart => exact ⟨a, m, by omega, by omega, by omega, rfl, rfl, P0.out⟩
    case round =>
      obtain ⟨i, j, h1, h2, h3, rfl, rfl, HP⟩ := hrel
      by_cases hlt : i < j
      · have hlt' : (i : Int) < (j : Int) := by omega
        obtain ⟨h, hh⟩ : ∃ h : Nat, h = (i + j) / 2 := ⟨_, rfl⟩
        have wh : IntKind.i64.wrap ((i : Int) + (j : Int)) = (i : Int) + (j : Int) := by rw [IntKind.wrap_i64]; omega
        have hhi : ((i : Int) + (j : Int)) / 2 = (h : Int) := by omega
        have hb3 : i ≤ h ∧ h < j := by omega
        obtain ⟨pc, hpc⟩ : ∃ pc : Nat, pc = mid + m - 1 - h := ⟨_, rfl⟩
        have hpN : pc < N := by have := HM.out; omega
        have wp : IntKind.i64.wrap ((mid : Int) + (m : Int) - 1 - (h : Int)) = (pc : Int) := by have := HM.out; rw [IntKind.wrap_i64]; omega
        have hhN : h < N := by have := HM.out; omega
        obtain ⟨x, hx, cx⟩ := HP.out.at pc hpN
        obtain ⟨y, hy, cy⟩ := HP.out.at h hhN
        have lh : (h : Int) < (N : Int) := by omega
        have la : (pc : Int) < (N : Int) := by omega
        have kc := fun w => closM x y w
        generalize cmpM x y = r at kc
        have wh1 : IntKind.i64.wrap ((h : Int) + 1) = (h : Int) + 1 := by rw [IntKind.wrap_i64]; omega
        clear hx hy hh hpc
        go_wp2
        by_cases hr : r < 0
        · go_quiet (first | (go_at_call 58; refine Calls.quiet_of_same (kc _)))
          go_wp2
          go_roundw
          case rel => exact ⟨i, h, by omega, by omega, by omega, rfl, rfl, by first | exact HP.out | exact HP.out.dr | exact HP.out.drew _⟩
          case measure => simp [intOf]; omega
        · have hr' : decide (r < 0) = false := decide_eq_false hr
          go_quiet (first | (go_at_call 58; refine Calls.quiet_of_same (kc _)))
          go_wp2
          go_roundw
          case rel => exact ⟨h + 1, j, by omega, by omega, by omega, by go_num, rfl, by first | exact HP.out | exact HP.out.dr | exact HP.out.drew _⟩
          case measure => simp [intOf]; omega
      · obtain rfl : i = j := by omega
        have hlt' : ¬ (i : Int) < (i : Int) := by omega
        obtain ⟨en, hen⟩ : ∃ en : Nat, en = mid + m - i := ⟨_, rfl⟩
        have we : IntKind.i64.wrap ((mid : Int) + (m : Int) - (i : Int)) = (en : Int) := by have := HM.out; rw [IntKind.wrap_i64]; omega
        have HE : Hid (en ≤ b ∧ mid ≤ en ∧ i ≤ m ∧ i ≤ mid) := ⟨by have := HM.out; omega, by omega, by omega, by omega⟩
        have k1 : i < m → m < en → Calls Tryz.prog 104 #[.slice (some ⟨g, 0, none⟩) N cap, .int .i64 i, .int .i64 m, .int .i64 en, .func (.func 58) #[] #[]] wr fun e w' => e = .returned (.tuple #[]) ∧ ∃ L', Pm base g cap N L wr w' L' := fun h1 h2 => KR.out i en h1 h2 (by have := HE.out; omega) L wr HP.out.own
        have k2 := fun (w1 : World) (L1 : List Ml) (h1 : a < i) (h2 : i < mid) (own1 : w1.ownsRow base 24 1 (.slice (some ⟨g, 0, none⟩) N cap) N (L1.map encM)) => IH.out a i mid (by have := HM.out; omega) h1 h2 (by have := HM.out; omega) L1 w1 own1
        have k3 := fun (w1 : World) (L1 : List Ml) (h1 : mid < en) (h2 : en < b) (own1 : w1.ownsRow base 24 1 (.slice (some ⟨g, 0, none⟩) N cap) N (L1.map encM)) => IH.out mid en b (by have := HM.out; omega) h1 h2 hb L1 w1 own1
        have c1 : (i < m ∧ m < en) ∨ (¬ i < m) ∨ (i < m ∧ ¬ m < en) := by omega
        have c2 : (a < i ∧ i < mid) ∨ (¬ a < i) ∨ (a < i ∧ ¬ i < mid) := by omega
        have c3 : (mid < en ∧ en < b) ∨ (¬ mid < en) ∨ (mid < en ∧ ¬ en < b) := by omega
        clear hen KR IH
        have key : ∀ (w1 : World) (L1 : List Ml), Hid (Pm base g cap N L w w1 L1) → Hid (w1.ownsRow base 24 1 (.slice (some ⟨g, 0, none⟩) N cap) N (L1.map encM)) := fun w1 L1 h => h.out.own
        rcases c1 with c1 | c1 | c1
        · rcases c2 with c2 | c2 | c2
          · rcases c3 with c3 | c3 | c3
            · have d1 : (i : Int) < (m : Int) := by omega
              have d2 : (m : Int) < (en : Int) := by omega
              have e1 : (a : Int) < (i : Int) := by omega
              have e2 : (i : Int) < (mid : Int) := by omega
              have f1 : (mid : Int) < (en : Int) := by omega
              have f2 : (en : Int) < (b : Int) := by omega
              have kk1 := k1 (by omega) (by omega)
              clear k1 key
              go_wp2_with (first | (go_at_call 104; refine kk1.mono ?_; rintro e w3 ⟨rfl, L3, P3⟩; have HP3 : Hid (Pm base g cap N L w w3 L3) := HP.out.trans P3; have kk2 := k2 w3 L3 (by omega) (by omega) P3.own; clear P3 kk1) | (go_at_call 90; refine kk2.mono ?_; rintro e w4 ⟨rfl, L4, P4⟩; have HP4 : Hid (Pm base g cap N L w w4 L4) := (HP3.out).trans P4; have kk3 := k3 w4 L4 (by omega) (by omega) P4.own; clear P4 kk2) | (go_at_call 90; refine kk3.mono ?_; rintro e w5 ⟨rfl, L5, P5⟩; have HP5 : Hid (Pm base g cap N L w w5 L5) := (HP4.out).trans P5; clear P5 kk3) | go_in)
              all_goals (go_end0; exact ⟨rfl, L5, HP5.out⟩)
            · have d1 : (i : Int) < (m : Int) := by omega
              have d2 : (m : Int) < (en : Int) := by omega
              have e1 : (a : Int) < (i : Int) := by omega
              have e2 : (i : Int) < (mid : Int) := by omega
              have f1 : ¬ (mid : Int) < (en : Int) := by omega
              have kk1 := k1 (by omega) (by omega)
              clear k1 key
              go_wp2_with (first | (go_at_call 104; refine kk1.mono ?_; rintro e w3 ⟨rfl, L3, P3⟩; have HP3 : Hid (Pm base g cap N L w w3 L3) := HP.out.trans P3; have kk2 := k2 w3 L3 (by omega) (by omega) P3.own; clear P3 kk1) | (go_at_call 90; refine kk2.mono ?_; rintro e w4 ⟨rfl, L4, P4⟩; have HP4 : Hid (Pm base g cap N L w w4 L4) := (HP3.out).trans P4; clear P4 kk2) | go_in)
              all_goals (go_end0; exact ⟨rfl, L4, HP4.out⟩)
            · have d1 : (i : Int) < (m : Int) := by omega
              have d2 : (m : Int) < (en : Int) := by omega
              have e1 : (a : Int) < (i : Int) := by omega
              have e2 : (i : Int) < (mid : Int) := by omega
              have f1 : (mid : Int) < (en : Int) := by omega
              have f2 : ¬ (en : Int) < (b : Int) := by omega
              have kk1 := k1 (by omega) (by omega)
              clear k1 key
              go_wp2_with (first | (go_at_call 104; refine kk1.mono ?_; rintro e w3 ⟨rfl, L3, P3⟩; have HP3 : Hid (Pm base g cap N L w w3 L3) := HP.out.trans P3; have kk2 := k2 w3 L3 (by omega) (by omega) P3.own; clear P3 kk1) | (go_at_call 90; refine kk2.mono ?_; rintro e w4 ⟨rfl, L4, P4⟩; have HP4 : Hid (Pm base g cap N L w w4 L4) := (HP3.out).trans P4; clear P4 kk2) | go_in)
              all_goals (go_end0; exact ⟨rfl, L4, HP4.out⟩)
          · rcases c3 with c3 | c3 | c3
            · have d1 : (i : Int) < (m : Int) := by omega
              have d2 : (m : Int) < (en : Int) := by omega
              have e1 : ¬ (a : Int) < (i : Int) := by omega
              have f1 : (mid : Int) < (en : Int) := by omega
              have f2 : (en : Int) < (b : Int) := by omega
              have kk1 := k1 (by omega) (by omega)
              clear k1 key
              go_wp2_with (first | (go_at_call 104; refine kk1.mono ?_; rintro e w3 ⟨rfl, L3, P3⟩; have HP3 : Hid (Pm base g cap N L w w3 L3) := HP.out.trans P3; have kk3 := k3 w3 L3 (by omega) (by omega) P3.own; clear P3 kk1) | (go_at_call 90; refine kk3.mono ?_; rintro e w5 ⟨rfl, L5, P5⟩; have HP5 : Hid (Pm base g cap N L w w5 L5) := (HP3.out).trans P5; clear P5 kk3) | go_in)
              all_goals (go_end0; exact ⟨rfl, L5, HP5.out⟩)
            · have d1 : (i : Int) < (m : Int) := by omega
              have d2 : (m : Int) < (en : Int) := by omega
              have e1 : ¬ (a : Int) < (i : Int) := by omega
              have f1 : ¬ (mid : Int) < (en : Int) := by omega
              have kk1 := k1 (by omega) (by omega)
              clear k1 key
              go_wp2_with (first | (go_at_call 104; refine kk1.mono ?_; rintro e w3 ⟨rfl, L3, P3⟩; have HP3 : Hid (Pm base g cap N L w w3 L3) := HP.out.trans P3; clear P3 kk1) | go_in)
              all_goals (go_end0; exact ⟨rfl, L3, HP3.out⟩)
            · have d1 : (i : Int) < (m : Int) := by omega
              have d2 : (m : Int) < (en : Int) := by omega
              have e1 : ¬ (a : Int) < (i : Int) := by omega
              have f1 : (mid : Int) < (en : Int) := by omega
              have f2 : ¬ (en : Int) < (b : Int) := by omega
              have kk1 := k1 (by omega) (by omega)
              clear k1 key
              go_wp2_with (first | (go_at_call 104; refine kk1.mono ?_; rintro e w3 ⟨rfl, L3, P3⟩; have HP3 : Hid (Pm base g cap N L w w3 L3) := HP.out.trans P3; clear P3 kk1) | go_in)
              all_goals (go_end0; exact ⟨rfl, L3, HP3.out⟩)
          · rcases c3 with c3 | c3 | c3
            · have d1 : (i : Int) < (m : Int) := by omega
              have d2 : (m : Int) < (en : Int) := by omega
              have e1 : (a : Int) < (i : Int) := by omega
              have e2 : ¬ (i : Int) < (mid : Int) := by omega
              have f1 : (mid : Int) < (en : Int) := by omega
              have f2 : (en : Int) < (b : Int) := by omega
              have kk1 := k1 (by omega) (by omega)
              clear k1 key
              go_wp2_with (first | (go_at_call 104; refine kk1.mono ?_; rintro e w3 ⟨rfl, L3, P3⟩; have HP3 : Hid (Pm base g cap N L w w3 L3) := HP.out.trans P3; have kk3 := k3 w3 L3 (by omega) (by omega) P3.own; clear P3 kk1) | (go_at_call 90; refine kk3.mono ?_; rintro e w5 ⟨rfl, L5, P5⟩; have HP5 : Hid (Pm base g cap N L w w5 L5) := (HP3.out).trans P5; clear P5 kk3) | go_in)
              all_goals (go_end0; exact ⟨rfl, L5, HP5.out⟩)
            · have d1 : (i : Int) < (m : Int) := by omega
              have d2 : (m : Int) < (en : Int) := by omega
              have e1 : (a : Int) < (i : Int) := by omega
              have e2 : ¬ (i : Int) < (mid : Int) := by omega
              have f1 : ¬ (mid : Int) < (en : Int) := by omega
              have kk1 := k1 (by omega) (by omega)
              clear k1 key
              go_wp2_with (first | (go_at_call 104; refine kk1.mono ?_; rintro e w3 ⟨rfl, L3, P3⟩; have HP3 : Hid (Pm base g cap N L w w3 L3) := HP.out.trans P3; clear P3 kk1) | go_in)
              all_goals (go_end0; exact ⟨rfl, L3, HP3.out⟩)
            · have d1 : (i : Int) < (m : Int) := by omega
              have d2 : (m : Int) < (en : Int) := by omega
              have e1 : (a : Int) < (i : Int) := by omega
              have e2 : ¬ (i : Int) < (mid : Int) := by omega
              have f1 : (mid : Int) < (en : Int) := by omega
              have f2 : ¬ (en : Int) < (b : Int) := by omega
              have kk1 := k1 (by omega) (by omega)
              clear k1 key
              go_wp2_with (first | (go_at_call 104; refine kk1.mono ?_; rintro e w3 ⟨rfl, L3, P3⟩; have HP3 : Hid (Pm base g cap N L w w3 L3) := HP.out.trans P3; clear P3 kk1) | go_in)
              all_goals (go_end0; exact ⟨rfl, L3, HP3.out⟩)
        · rcases c2 with c2 | c2 | c2
          · rcases c3 with c3 | c3 | c3
            · have d1 : decide ((i : Int) < (m : Int)) = false := decide_eq_false (by omega)
              have d1' : ¬ (i : Int) < (m : Int) := by omega
              have e1 : (a : Int) < (i : Int) := by omega
              have e2 : (i : Int) < (mid : Int) := by omega
              have f1 : (mid : Int) < (en : Int) := by omega
              have f2 : (en : Int) < (b : Int) := by omega
              have kk2 := k2 wr L (by omega) (by omega) HP.out.own
              clear k1 key
              go_wp2_with (first | (go_at_call 90; refine kk2.mono ?_; rintro e w4 ⟨rfl, L4, P4⟩; have HP4 : Hid (Pm base g cap N L w w4 L4) := (HP.out).trans P4; have kk3 := k3 w4 L4 (by omega) (by omega) P4.own; clear P4 kk2) | (go_at_call 90; refine kk3.mono ?_; rintro e w5 ⟨rfl, L5, P5⟩; have HP5 : Hid (Pm base g cap N L w w5 L5) := (HP4.out).trans P5; clear P5 kk3) | go_in)
              all_goals (go_end0; exact ⟨rfl, L5, HP5.out⟩)
            · have d1 : decide ((i : Int) < (m : Int)) = false := decide_eq_false (by omega)
              have d1' : ¬ (i : Int) < (m : Int) := by omega
              have e1 : (a : Int) < (i : Int) := by omega
              have e2 : (i : Int) < (mid : Int) := by omega
              have f1 : ¬ (mid : Int) < (en : Int) := by omega
              have kk2 := k2 wr L (by omega) (by omega) HP.out.own
              clear k1 key
              go_wp2_with (first | (go_at_call 90; refine kk2.mono ?_; rintro e w4 ⟨rfl, L4, P4⟩; have HP4 : Hid (Pm base g cap N L w w4 L4) := (HP.out).trans P4; clear P4 kk2) | go_in)
              all_goals (go_end0; exact ⟨rfl, L4, HP4.out⟩)
            · have d1 : decide ((i : Int) < (m : Int)) = false := decide_eq_false (by omega)
              have d1' : ¬ (i : Int) < (m : Int) := by omega
              have e1 : (a : Int) < (i : Int) := by omega
              have e2 : (i : Int) < (mid : Int) := by omega
              have f1 : (mid : Int) < (en : Int) := by omega
              have f2 : ¬ (en : Int) < (b : Int) := by omega
              have kk2 := k2 wr L (by omega) (by omega) HP.out.own
              clear k1 key
              go_wp2_with (first | (go_at_call 90; refine kk2.mono ?_; rintro e w4 ⟨rfl, L4, P4⟩; have HP4 : Hid (Pm base g cap N L w w4 L4) := (HP.out).trans P4; clear P4 kk2) | go_in)
              all_goals (go_end0; exact ⟨rfl, L4, HP4.out⟩)
          · rcases c3 with c3 | c3 | c3
            · have d1 : decide ((i : Int) < (m : Int)) = false := decide_eq_false (by omega)
              have d1' : ¬ (i : Int) < (m : Int) := by omega
              have e1 : ¬ (a : Int) < (i : Int) := by omega
              have f1 : (mid : Int) < (en : Int) := by omega
              have f2 : (en : Int) < (b : Int) := by omega
              have kk3 := k3 wr L (by omega) (by omega) HP.out.own
              clear k1 key
              go_wp2_with (first | (go_at_call 90; refine kk3.mono ?_; rintro e w5 ⟨rfl, L5, P5⟩; have HP5 : Hid (Pm base g cap N L w w5 L5) := (HP.out).trans P5; clear P5 kk3) | go_in)
              all_goals (go_end0; exact ⟨rfl, L5, HP5.out⟩)
            · have d1 : decide ((i : Int) < (m : Int)) = false := decide_eq_false (by omega)
              have d1' : ¬ (i : Int) < (m : Int) := by omega
              have e1 : ¬ (a : Int) < (i : Int) := by omega
              have f1 : ¬ (mid : Int) < (en : Int) := by omega
              clear k1 key
              go_wp2
              all_goals (go_end0; exact ⟨rfl, L, HP.out⟩)
            · have d1 : decide ((i : Int) < (m : Int)) = false := decide_eq_false (by omega)
              have d1' : ¬ (i : Int) < (m : Int) := by omega
              have e1 : ¬ (a : Int) < (i : Int) := by omega
              have f1 : (mid : Int) < (en : Int) := by omega
              have f2 : ¬ (en : Int) < (b : Int) := by omega
              clear k1 key
              go_wp2
              all_goals (go_end0; exact ⟨rfl, L, HP.out⟩)
          · rcases c3 with c3 | c3 | c3
            · have d1 : decide ((i : Int) < (m : Int)) = false := decide_eq_false (by omega)
              have d1' : ¬ (i : Int) < (m : Int) := by omega
              have e1 : (a : Int) < (i : Int) := by omega
              have e2 : ¬ (i : Int) < (mid : Int) := by omega
              have f1 : (mid : Int) < (en : Int) := by omega
              have f2 : (en : Int) < (b : Int) := by omega
              have kk3 := k3 wr L (by omega) (by omega) HP.out.own
              clear k1 key
              go_wp2_with (first | (go_at_call 90; refine kk3.mono ?_; rintro e w5 ⟨rfl, L5, P5⟩; have HP5 : Hid (Pm base g cap N L w w5 L5) := (HP.out).trans P5; clear P5 kk3) | go_in)
              all_goals (go_end0; exact ⟨rfl, L5, HP5.out⟩)
            · have d1 : decide ((i : Int) < (m : Int)) = false := decide_eq_false (by omega)
              have d1' : ¬ (i : Int) < (m : Int) := by omega
              have e1 : (a : Int) < (i : Int) := by omega
              have e2 : ¬ (i : Int) < (mid : Int) := by omega
              have f1 : ¬ (mid : Int) < (en : Int) := by omega
              clear k1 key
              go_wp2
              all_goals (go_end0; exact ⟨rfl, L, HP.out⟩)
            · have d1 : decide ((i : Int) < (m : Int)) = false := decide_eq_false (by omega)
              have d1' : ¬ (i : Int) < (m : Int) := by omega
              have e1 : (a : Int) < (i : Int) := by omega
              have e2 : ¬ (i : Int) < (mid : Int) := by omega
              have f1 : (mid : Int) < (en : Int) := by omega
              have f2 : ¬ (en : Int) < (b : Int) := by omega
              clear k1 key
              go_wp2
              all_goals (go_end0; exact ⟨rfl, L, HP.out⟩)
        · rcases c2 with c2 | c2 | c2
          · rcases c3 with c3 | c3 | c3
            · have d1 : (i : Int) < (m : Int) := by omega
              have d2 : ¬ (m : Int) < (en : Int) := by omega
              have e1 : (a : Int) < (i : Int) := by omega
              have e2 : (i : Int) < (mid : Int) := by omega
              have f1 : (mid : Int) < (en : Int) := by omega
              have f2 : (en : Int) < (b : Int) := by omega
              have kk2 := k2 wr L (by omega) (by omega) HP.out.own
              clear k1 key
              go_wp2_with (first | (go_at_call 90; refine kk2.mono ?_; rintro e w4 ⟨rfl, L4, P4⟩; have HP4 : Hid (Pm base g cap N L w w4 L4) := (HP.out).trans P4; have kk3 := k3 w4 L4 (by omega) (by omega) P4.own; clear P4 kk2) | (go_at_call 90; refine kk3.mono ?_; rintro e w5 ⟨rfl, L5, P5⟩; have HP5 : Hid (Pm base g cap N L w w5 L5) := (HP4.out).trans P5; clear P5 kk3) | go_in)
              all_goals (go_end0; exact ⟨rfl, L5, HP5.out⟩)
            · have d1 : (i : Int) < (m : Int) := by omega
              have d2 : ¬ (m : Int) < (en : Int) := by omega
              have e1 : (a : Int) < (i : Int) := by omega
              have e2 : (i : Int) < (mid : Int) := by omega
              have f1 : ¬ (mid : Int) < (en : Int) := by omega
              have kk2 := k2 wr L (by omega) (by omega) HP.out.own
              clear k1 key
              go_wp2_with (first | (go_at_call 90; refine kk2.mono ?_; rintro e w4 ⟨rfl, L4, P4⟩; have HP4 : Hid (Pm base g cap N L w w4 L4) := (HP.out).trans P4; clear P4 kk2) | go_in)
              all_goals (go_end0; exact ⟨rfl, L4, HP4.out⟩)
            · have d1 : (i : Int) < (m : Int) := by omega
              have d2 : ¬ (m : Int) < (en : Int) := by omega
              have e1 : (a : Int) < (i : Int) := by omega
              have e2 : (i : Int) < (mid : Int) := by omega
              have f1 : (mid : Int) < (en : Int) := by omega
              have f2 : ¬ (en : Int) < (b : Int) := by omega
              have kk2 := k2 wr L (by omega) (by omega) HP.out.own
              clear k1 key
              go_wp2_with (first | (go_at_call 90; refine kk2.mono ?_; rintro e w4 ⟨rfl, L4, P4⟩; have HP4 : Hid (Pm base g cap N L w w4 L4) := (HP.out).trans P4; clear P4 kk2) | go_in)
              all_goals (go_end0; exact ⟨rfl, L4, HP4.out⟩)
          · rcases c3 with c3 | c3 | c3
            · have d1 : (i : Int) < (m : Int) := by omega
              have d2 : ¬ (m : Int) < (en : Int) := by omega
              have e1 : ¬ (a : Int) < (i : Int) := by omega
              have f1 : (mid : Int) < (en : Int) := by omega
              have f2 : (en : Int) < (b : Int) := by omega
              have kk3 := k3 wr L (by omega) (by omega) HP.out.own
              clear k1 key
              go_wp2_with (first | (go_at_call 90; refine kk3.mono ?_; rintro e w5 ⟨rfl, L5, P5⟩; have HP5 : Hid (Pm base g cap N L w w5 L5) := (HP.out).trans P5; clear P5 kk3) | go_in)
              all_goals (go_end0; exact ⟨rfl, L5, HP5.out⟩)
            · have d1 : (i : Int) < (m : Int) := by omega
              have d2 : ¬ (m : Int) < (en : Int) := by omega
              have e1 : ¬ (a : Int) < (i : Int) := by omega
              have f1 : ¬ (mid : Int) < (en : Int) := by omega
              clear k1 key
              go_wp2
              all_goals (go_end0; exact ⟨rfl, L, HP.out⟩)
            · have d1 : (i : Int) < (m : Int) := by omega
              have d2 : ¬ (m : Int) < (en : Int) := by omega
              have e1 : ¬ (a : Int) < (i : Int) := by omega
              have f1 : (mid : Int) < (en : Int) := by omega
              have f2 : ¬ (en : Int) < (b : Int) := by omega
              clear k1 key
              go_wp2
              all_goals (go_end0; exact ⟨rfl, L, HP.out⟩)
          · rcases c3 with c3 | c3 | c3
            · have d1 : (i : Int) < (m : Int) := by omega
              have d2 : ¬ (m : Int) < (en : Int) := by omega
              have e1 : (a : Int) < (i : Int) := by omega
              have e2 : ¬ (i : Int) < (mid : Int) := by omega
              have f1 : (mid : Int) < (en : Int) := by omega
              have f2 : (en : Int) < (b : Int) := by omega
              have kk3 := k3 wr L (by omega) (by omega) HP.out.own
              clear k1 key
              go_wp2_with (first | (go_at_call 90; refine kk3.mono ?_; rintro e w5 ⟨rfl, L5, P5⟩; have HP5 : Hid (Pm base g cap N L w w5 L5) := (HP.out).trans P5; clear P5 kk3) | go_in)
              all_goals (go_end0; exact ⟨rfl, L5, HP5.out⟩)
            · have d1 : (i : Int) < (m : Int) := by omega
              have d2 : ¬ (m : Int) < (en : Int) := by omega
              have e1 : (a : Int) < (i : Int) := by omega
              have e2 : ¬ (i : Int) < (mid : Int) := by omega
              have f1 : ¬ (mid : Int) < (en : Int) := by omega
              clear k1 key
              go_wp2
              all_goals (go_end0; exact ⟨rfl, L, HP.out⟩)
            · have d1 : (i : Int) < (m : Int) := by omega
              have d2 : ¬ (m : Int) < (en : Int) := by omega
              have e1 : (a : Int) < (i : Int) := by omega
              have e2 : ¬ (i : Int) < (mid : Int) := by omega
              have f1 : (mid : Int) < (en : Int) := by omega
              have f2 : ¬ (en : Int) < (b : Int) := by omega
              clear k1 key
              go_wp2
              all_goals (go_end0; exact ⟨rfl, L, HP.out⟩)
theorem symC (base g cap N : Nat) (hN : N < 1099511627776) : ∀ (n a m b : Nat), b - a ≤ n → a < m → m < b → b ≤ N → ∀ (L : List Ml) (w : World), w.ownsRow base 24 1 (.slice (some ⟨g, 0, none⟩) N cap) N (L.map encM) → Calls Tryz.prog 90 #[.slice (some ⟨g, 0, none⟩) N cap, .int .i64 a, .int .i64 m, .int .i64 b, .func (.func 58) #[] #[]] w fun e w' => e = .returned (.tuple #[]) ∧ ∃ L', Pm base g cap N L w w' L' := by
  intro n
  induction n with
  | zero => intro a m b h1 h2 h3; omega
  | succ n ih =>
    intro a m b h1 h2 h3 h4 L w own
    by_cases e1 : m = a + 1
    · exact symA base g cap N hN a m b e1 h3 h4 L w own
    · by_cases e2 : b = m + 1
      · exact symB base g cap N hN a m b (by omega) e2 h4 L w own
      · exact symR base g cap N hN (n + 1) (fun a m b h5 => ih a m b (by omega)) a m b h1 (by omega) (by omega) h4 L w own
end Ln
end Go.Proofs.YtbmpiddjakdebaaGreat
