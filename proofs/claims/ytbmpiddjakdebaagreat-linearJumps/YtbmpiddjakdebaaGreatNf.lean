/- Lists exchanged: whole runs of them. -/
import Derived.Test.YtbmpiddjakdebaaGreatN18
import Derived.Laws.OwnMore
namespace Go.Proofs.YtbmpiddjakdebaaGreat
open Go.RowKit
set_option linter.unusedVariables false
set_option linter.unusedSimpArgs false
set_option maxRecDepth 100000

namespace Ln
/-- The same lists in another order. -/
structure Pm (base g cap N : Nat) (L : List Ml) (w w' : World) (L' : List Ml) : Prop where
  pm : L'.Perm L
  own : w'.ownsRow base 24 1 (.slice (some ⟨g, 0, none⟩) N cap) N (L'.map encM)
  gr : w.grownBy w' (some g)
theorem swap_perm (L : List Ml) (i j : Nat) (hi : i < L.length) (hj : j < L.length) : ((L.set i L[j]).set j L[i]).Perm L := by
  have h := Array.swap_perm (xs := L.toArray) (i := i) (j := j) (by simpa using hi) (by simpa using hj)
  have h2 := h.toList
  simpa using h2
theorem Pm.refl {base g cap N : Nat} {L : List Ml} {w : World} (h : w.ownsRow base 24 1 (.slice (some ⟨g, 0, none⟩) N cap) N (L.map encM)) : Pm base g cap N L w w L := ⟨List.Perm.refl _, h, World.grownBy.refl _ _⟩
theorem gb_same {w1 w2 w3 : World} {g : Nat} (h1 : w1.grownBy w2 (some g)) (h2 : w2.grownBy w3 (some g)) : w1.grownBy w3 (some g) := h1.andThen h2 (fun j hj => .inr hj)
theorem Pm.trans {base g cap N : Nat} {L L1 L2 : List Ml} {w1 w2 w3 : World} (h1 : Pm base g cap N L w1 w2 L1) (h2 : Pm base g cap N L1 w2 w3 L2) : Pm base g cap N L w1 w3 L2 := ⟨h2.pm.trans h1.pm, h2.own, gb_same h1.gr h2.gr⟩
theorem Pm.len {base g cap N : Nat} {L L' : List Ml} {w w' : World} (h : Pm base g cap N L w w' L') : L'.length = N := by
  have := h.own.1
  simpa using this
theorem Pm.drew {base g cap N : Nat} {L L' : List Ml} {w w' : World} (h : Pm base g cap N L w w' L') (k : Nat) : Pm base g cap N L w (w'.drewN k) L' := ⟨h.pm, h.own, gb_drewN h.gr k⟩
theorem Pm.dr {base g cap N : Nat} {L L' : List Ml} {w w' : World} (h : Pm base g cap N L w w' L') : Pm base g cap N L w w'.drew L' := ⟨h.pm, h.own, gb_drew h.gr⟩
theorem Pm.at {base g cap N : Nat} {L L' : List Ml} {w w' : World} (h : Pm base g cap N L w w' L') (i : Nat) (hi : i < N) : ∃ l, L'[i]? = some l ∧ w'.cell? ⟨g, i, none⟩ = some (encM l) := by
  have hl : i < L'.length := by rw [h.len]; exact hi
  refine ⟨L'[i], List.getElem?_eq_getElem hl, ?_⟩
  rw [h.own.cellAt i (by omega), List.getElem?_map, List.getElem?_eq_getElem hl]
  rfl
theorem Pm.swap {base g cap N : Nat} {L L' : List Ml} {w w' : World} (h : Pm base g cap N L w w' L') (i j : Nat) (hi : i < N) (hj : j < N) {x y : Ml} (hx : L'[i]? = some x) (hy : L'[j]? = some y) : Pm base g cap N L w ((w'.setCell ⟨g, i, none⟩ (encM y)).setCell ⟨g, j, none⟩ (encM x)) ((L'.set i y).set j x) := by
  have hl := h.len
  have h1 := h.own.stored i (encM y)
  have h2 := h1.1.stored j (encM x)
  refine ⟨?_, ?_, gb_same (gb_same h.gr h1.2) h2.2⟩
  · have e := swap_perm L' i j (by omega) (by omega)
    rw [List.getElem?_eq_getElem (by omega)] at hx hy
    rw [Option.some.inj hx, Option.some.inj hy] at e
    exact e.trans h.pm
  · have := h2.1
    rw [← List.map_set, ← List.map_set] at this
    exact this
set_option maxHeartbeats 1000000 in
theorem swapRangeC (base g cap N : Nat) (hN : N < 1099511627776) (a b n : Nat) (hab : a < b) (ha : a + n ≤ N) (hb : b + n ≤ N) (L : List Ml) (w : World) (own : w.ownsRow base 24 1 (.slice (some ⟨g, 0, none⟩) N cap) N (L.map encM)) :
    Calls Tryz.prog 115 #[.slice (some ⟨g, 0, none⟩) N cap, .int .i64 a, .int .i64 b, .int .i64 n, .func (.func 58) #[] #[]] w fun e w' => e = .returned (.tuple #[]) ∧ ∃ L', Pm base g cap N L w w' L' := by
  have P0 : Pm base g cap N L w w L := Pm.refl own
  go_enter Tryz.func115, Tryz.ntmps115
  go_wp2
  go_loopw [10] (fun u wr => ∃ (i : Nat) (L' : List Ml), i ≤ n ∧ u = .int .i64 i ∧ Hid (Pm base g cap N L w wr L')) (fun u _ => n - (intOf u).toNat)
  case atStart => exact ⟨0, L, Nat.zero_le _, rfl, P0⟩
  case round =>
    obtain ⟨i, L', hi, rfl, HP⟩ := hrel
    by_cases hlt : i < n
    · have hlt' : (i : Int) < (n : Int) := by omega
      obtain ⟨x, hx, cx⟩ := HP.out.at (a + i) (by omega)
      obtain ⟨y, hy, cy⟩ := HP.out.at (b + i) (by omega)
      have fx := HP.out.own.frozenAt (a + i)
      have fy := HP.out.own.frozenAt (b + i)
      have HS : Hid (Pm base g cap N L w ((wr.setCell ⟨g, a + i, none⟩ (encM y)).setCell ⟨g, b + i, none⟩ (encM x)) ((L'.set (a + i) y).set (b + i) x)) := HP.out.swap _ _ (by omega) (by omega) hx hy
      have wa : IntKind.i64.wrap ((a : Int) + (i : Int)) = (a : Int) + (i : Int) := by rw [IntKind.wrap_i64]; omega
      have wb : IntKind.i64.wrap ((b : Int) + (i : Int)) = (b : Int) + (i : Int) := by rw [IntKind.wrap_i64]; omega
      have ta : ((a : Int) + (i : Int)).toNat = a + i := by omega
      have tb : ((b : Int) + (i : Int)).toNat = b + i := by omega
      have pa : (0 : Int) ≤ (a : Int) + (i : Int) := by omega
      have pb : (0 : Int) ≤ (b : Int) + (i : Int) := by omega
      have la : (a : Int) + (i : Int) < (N : Int) := by omega
      have lb : (b : Int) + (i : Int) < (N : Int) := by omega
      obtain ⟨xg, xc, xp⟩ := x
      obtain ⟨yg, yc, yp⟩ := y
      simp only [encM] at cx cy HS
      generalize xp.length = xn at cx HS
      generalize yp.length = yn at cy HS
      have n1 : ¬ a + i = b + i := by omega
      have n2 : ¬ b + i = a + i := by omega
      clear hx hy HP
      go_wp2
      go_region
      generalize ((wr.setCell ⟨g, a + i, none⟩ (.slice (some ⟨yg, 0, none⟩) yn yc)).setCell ⟨g, b + i, none⟩ (.slice (some ⟨xg, 0, none⟩) xn xc)) = W5 at HS ⊢
      go_wp2
      go_roundw
      case rel => exact ⟨i + 1, _, by omega, by go_num, HS.out.dr⟩
      case measure => simp [intOf]; omega
    · have hlt' : ¬ (i : Int) < (n : Int) := by omega
      go_wp2
      go_end0
      exact ⟨rfl, L', HP.out⟩
set_option maxHeartbeats 1000000 in
theorem rotateC (base g cap N : Nat) (hN : N < 1099511627776) (a m b : Nat) (ha : a < m) (hm : m < b) (hb : b ≤ N) (L : List Ml) (w : World) (own : w.ownsRow base 24 1 (.slice (some ⟨g, 0, none⟩) N cap) N (L.map encM)) :
    Calls Tryz.prog 104 #[.slice (some ⟨g, 0, none⟩) N cap, .int .i64 a, .int .i64 m, .int .i64 b, .func (.func 58) #[] #[]] w fun e w' => e = .returned (.tuple #[]) ∧ ∃ L', Pm base g cap N L w w' L' := by
  have P0 : Pm base g cap N L w w L := Pm.refl own
  have kS := fun (x y n : Nat) (hx : x < y) (h1 : x + n ≤ N) (h2 : y + n ≤ N) (L1 : List Ml) (w1 : World) (own1 : w1.ownsRow base 24 1 (.slice (some ⟨g, 0, none⟩) N cap) N (L1.map encM)) => swapRangeC base g cap N hN x y n hx h1 h2 L1 w1 own1
  have w1 : IntKind.i64.wrap ((m : Int) - (a : Int)) = ((m - a : Nat) : Int) := by rw [IntKind.wrap_i64]; omega
  have w2 : IntKind.i64.wrap ((b : Int) - (m : Int)) = ((b - m : Nat) : Int) := by rw [IntKind.wrap_i64]; omega
  clear own
  go_enter Tryz.func104, Tryz.ntmps104
  go_wp2
  go_loopw [10, 11] (fun u v wr => ∃ (i j : Nat) (L' : List Ml), 1 ≤ i ∧ 1 ≤ j ∧ i ≤ m - a ∧ j ≤ b - m ∧ u = .int .i64 i ∧ v = .int .i64 j ∧ Hid (Pm base g cap N L w wr L')) (fun u v _ => (intOf u).toNat + (intOf v).toNat)
  case atStart => exact ⟨m - a, b - m, L, by omega, by omega, by omega, by omega, rfl, rfl, P0⟩
  case round =>
    obtain ⟨i, j, L', hi1, hj1, hi, hj, rfl, rfl, HP⟩ := hrel
    have v1 : IntKind.i64.wrap ((m : Int) - (i : Int)) = ((m - i : Nat) : Int) := by rw [IntKind.wrap_i64]; omega
    by_cases hij : i = j
    · subst hij
      have k1 := kS (m - i) m i (by omega) (by omega) (by omega) L' wr HP.out.own
      have hb1 : ((i : Int) != (i : Int)) = false := by simp
      clear kS
      go_wp2_with (first | (go_at_call 115; refine k1.mono ?_; rintro e w3 ⟨rfl, L2, P2⟩) | go_in)
      go_end0
      exact ⟨rfl, L2, HP.out.trans P2⟩
    · have hb1 : ((i : Int) != (j : Int)) = true := by simp; omega
      by_cases hgt : j < i
      · have hgt' : (j : Int) < (i : Int) := by omega
        have k1 := kS (m - i) m j (by omega) (by omega) (by omega) L' wr HP.out.own
        have v2 : IntKind.i64.wrap ((i : Int) - (j : Int)) = ((i - j : Nat) : Int) := by rw [IntKind.wrap_i64]; omega
        clear kS
        go_wp2_with (first | (go_at_call 115; refine k1.mono ?_; rintro e w3 ⟨rfl, L2, P2⟩; have HP2 : Hid (Pm base g cap N L w w3 L2) := HP.out.trans P2; clear P2 k1) | go_in)
        go_roundw
        case rel => exact ⟨i - j, j, L2, by omega, by omega, by omega, by omega, rfl, rfl, HP2.out⟩
        case measure => simp [intOf]; omega
      · have hgt' : ¬ (j : Int) < (i : Int) := by omega
        obtain ⟨q, hq⟩ : ∃ q : Nat, q = m + j - i := ⟨_, rfl⟩
        have k1 := kS (m - i) q i (by omega) (by omega) (by omega) L' wr HP.out.own
        have v2 : IntKind.i64.wrap ((m : Int) + (j : Int)) = (m : Int) + (j : Int) := by rw [IntKind.wrap_i64]; omega
        have v3 : IntKind.i64.wrap ((m : Int) + (j : Int) - (i : Int)) = (q : Int) := by rw [IntKind.wrap_i64]; omega
        clear hq
        have v4 : IntKind.i64.wrap ((j : Int) - (i : Int)) = ((j - i : Nat) : Int) := by rw [IntKind.wrap_i64]; omega
        clear kS
        go_wp2_with (first | (go_at_call 115; refine k1.mono ?_; rintro e w3 ⟨rfl, L2, P2⟩; have HP2 : Hid (Pm base g cap N L w w3 L2) := HP.out.trans P2; clear P2 k1) | go_in)
        go_roundw
        case rel => exact ⟨i, j - i, L2, by omega, by omega, by omega, by omega, rfl, rfl, HP2.out⟩
        case measure => simp [intOf]; omega
end Ln
end Go.Proofs.YtbmpiddjakdebaaGreat
namespace Go.Proofs.YtbmpiddjakdebaaGreat
open Go.RowKit
set_option linter.unusedVariables false
set_option linter.unusedSimpArgs false
set_option maxRecDepth 100000

namespace Ln
set_option maxHeartbeats 1000000 in
/-- One list ahead of the others: it is brought to its place. -/
theorem symA (base g cap N : Nat) (hN : N < 1099511627776) (a m b : Nat) (ha : m = a + 1) (hm : m < b) (hb : b ≤ N) (L : List Ml) (w : World) (own : w.ownsRow base 24 1 (.slice (some ⟨g, 0, none⟩) N cap) N (L.map encM)) :
    Calls Tryz.prog 90 #[.slice (some ⟨g, 0, none⟩) N cap, .int .i64 a, .int .i64 m, .int .i64 b, .func (.func 58) #[] #[]] w fun e w' => e = .returned (.tuple #[]) ∧ ∃ L', Pm base g cap N L w w' L' := by
  have P0 : Hid (Pm base g cap N L w w L) := Pm.refl own
  have w1 : IntKind.i64.wrap ((m : Int) - (a : Int)) = 1 := by rw [IntKind.wrap_i64]; omega
  clear own
  have HA : Hid (m = a + 1) := ha
  have haN : a < N := by omega
  have ham : a < m := by omega
  clear ha
  go_enter Tryz.func90, Tryz.ntmps90
  go_wp2
  go_loopw [10, 11] (fun u v wr => ∃ (i j : Nat), m ≤ i ∧ i ≤ j ∧ j ≤ b ∧ u = .int .i64 i ∧ v = .int .i64 j ∧ Hid (Pm base g cap N L w wr L)) (fun u v _ => (intOf v).toNat - (intOf u).toNat)
  case atStart => exact ⟨m, b, by omega, by omega, by omega, rfl, rfl, P0.out⟩
  case round =>
    obtain ⟨i, j, h1, h2, h3, rfl, rfl, HP⟩ := hrel
    by_cases hlt : i < j
    · have hlt' : (i : Int) < (j : Int) := by omega
      obtain ⟨h, hh⟩ : ∃ h : Nat, h = (i + j) / 2 := ⟨_, rfl⟩
      have wh : IntKind.i64.wrap ((i : Int) + (j : Int)) = (i : Int) + (j : Int) := by rw [IntKind.wrap_i64]; omega
      have hhi : ((i : Int) + (j : Int)) / 2 = (h : Int) := by omega
      obtain ⟨x, hx, cx⟩ := HP.out.at h (by omega)
      obtain ⟨y, hy, cy⟩ := HP.out.at a (by omega)
      have lh : (h : Int) < (N : Int) := by omega
      have la : (a : Int) < (N : Int) := by omega
      have kc := fun w => closM x y w
      generalize cmpM x y = r at kc
      have hb3 : i ≤ h ∧ h < j := by omega
      have wh1 : IntKind.i64.wrap ((h : Int) + 1) = (h : Int) + 1 := by rw [IntKind.wrap_i64]; omega
      clear hx hy hh
      go_wp2
      by_cases hr : r < 0
      · go_quiet (first | (go_at_call 58; refine Calls.quiet_of_same (kc _)))
        go_wp2
        go_roundw
        case rel => exact ⟨h + 1, j, by omega, by omega, by omega, by go_num, rfl, by first | exact HP.out | exact HP.out.dr | exact HP.out.drew _⟩
        case measure => simp [intOf]; omega
      · have hr' : decide (r < 0) = false := decide_eq_false hr
        go_quiet (first | (go_at_call 58; refine Calls.quiet_of_same (kc _)))
        go_wp2
        go_roundw
        case rel => exact ⟨i, h, by omega, by omega, by omega, rfl, rfl, by first | exact HP.out | exact HP.out.dr | exact HP.out.drew _⟩
        case measure => simp [intOf]; omega
    · have hij : i = j := by omega
      have hlt' : ¬ (i : Int) < (j : Int) := by omega
      have wi : IntKind.i64.wrap ((i : Int) - 1) = (i : Int) - 1 := by rw [IntKind.wrap_i64]; omega
      go_wp2
      go_loopw [13] (fun u wr => ∃ (k : Nat) (L' : List Ml), a ≤ k ∧ k + 1 ≤ i ∧ u = .int .i64 k ∧ Hid (Pm base g cap N L w wr L')) (fun u _ => i - (intOf u).toNat)
      case atStart => exact ⟨a, L, by omega, by have := HA.out; omega, rfl, HP.out⟩
      case round =>
        obtain ⟨k, L', k1, k2, rfl, HQ⟩ := hrel
        by_cases hk : k + 1 < i
        · have hk' : (k : Int) < (i : Int) - 1 := by omega
          obtain ⟨x, hx, cx⟩ := HQ.out.at k (by omega)
          obtain ⟨y, hy, cy⟩ := HQ.out.at (k + 1) (by omega)
          have fx := HQ.out.own.frozenAt k
          have fy := HQ.out.own.frozenAt (k + 1)
          have HS : Hid (Pm base g cap N L w ((wr.setCell ⟨g, k, none⟩ (encM y)).setCell ⟨g, k + 1, none⟩ (encM x)) ((L'.set k y).set (k + 1) x)) := HQ.out.swap _ _ (by omega) (by omega) hx hy
          have wa : IntKind.i64.wrap ((k : Int) + 1) = (k : Int) + 1 := by rw [IntKind.wrap_i64]; omega
          have ta : ((k : Int) + 1).toNat = k + 1 := by omega
          have pa : (0 : Int) ≤ (k : Int) + 1 := by omega
          have la : (k : Int) + 1 < (N : Int) := by omega
          have lb : (k : Int) < (N : Int) := by omega
          obtain ⟨xg, xc, xp⟩ := x
          obtain ⟨yg, yc, yp⟩ := y
          simp only [encM] at cx cy HS
          generalize xp.length = xn at cx HS
          generalize yp.length = yn at cy HS
          have n1 : ¬ k = k + 1 := by omega
          have n2 : ¬ k + 1 = k := by omega
          clear hx hy HQ
          go_wp2
          go_region
          generalize ((wr.setCell ⟨g, k, none⟩ (.slice (some ⟨yg, 0, none⟩) yn yc)).setCell ⟨g, k + 1, none⟩ (.slice (some ⟨xg, 0, none⟩) xn xc)) = W5 at HS ⊢
          go_wp2
          go_roundw
          case rel => exact ⟨k + 1, _, by omega, by omega, by go_num, HS.out.dr⟩
          case measure => simp [intOf]; omega
        · have hk' : ¬ (k : Int) < (i : Int) - 1 := by omega
          go_wp2
          (try simp only [Exit.inBlock, Exit.then])
          refine bodyPost_ret (results_none rfl _ _ _) rfl ?_
          exact ⟨rfl, L', HQ.out⟩
set_option maxHeartbeats 1000000 in
/-- One list behind the others: it is brought to its place. -/
theorem symB (base g cap N : Nat) (hN : N < 1099511627776) (a m b : Nat) (ha : a + 1 < m) (hm : b = m + 1) (hb : b ≤ N) (L : List Ml) (w : World) (own : w.ownsRow base 24 1 (.slice (some ⟨g, 0, none⟩) N cap) N (L.map encM)) :
    Calls Tryz.prog 90 #[.slice (some ⟨g, 0, none⟩) N cap, .int .i64 a, .int .i64 m, .int .i64 b, .func (.func 58) #[] #[]] w fun e w' => e = .returned (.tuple #[]) ∧ ∃ L', Pm base g cap N L w w' L' := by
  have P0 : Hid (Pm base g cap N L w w L) := Pm.refl own
  obtain ⟨q, hq⟩ : ∃ q : Int, (m : Int) - (a : Int) = q := ⟨_, rfl⟩
  have w1 : IntKind.i64.wrap ((m : Int) - (a : Int)) = q := by rw [IntKind.wrap_i64]; omega
  have w2 : (q == 1) = false := by simp; omega
  have w3 : IntKind.i64.wrap ((b : Int) - (m : Int)) = 1 := by rw [IntKind.wrap_i64]; omega
  clear hq
  clear own
  have HA : Hid (b = m + 1) := hm
  have haN : m < N := by omega
  have ham : a < m := by omega
  clear ha hm
  go_enter Tryz.func90, Tryz.ntmps90
  go_wp2
  go_loopw [14, 15] (fun u v wr => ∃ (i j : Nat), a ≤ i ∧ i ≤ j ∧ j ≤ m ∧ u = .int .i64 i ∧ v = .int .i64 j ∧ Hid (Pm base g cap N L w wr L)) (fun u v _ => (intOf v).toNat - (intOf u).toNat)
  case atStart => exact ⟨a, m, by omega, by omega, by omega, rfl, rfl, P0.out⟩
  case round =>
    obtain ⟨i, j, h1, h2, h3, rfl, rfl, HP⟩ := hrel
    by_cases hlt : i < j
    · have hlt' : (i : Int) < (j : Int) := by omega
      obtain ⟨h, hh⟩ : ∃ h : Nat, h = (i + j) / 2 := ⟨_, rfl⟩
      have wh : IntKind.i64.wrap ((i : Int) + (j : Int)) = (i : Int) + (j : Int) := by rw [IntKind.wrap_i64]; omega
      have hhi : ((i : Int) + (j : Int)) / 2 = (h : Int) := by omega
      obtain ⟨x, hx, cx⟩ := HP.out.at h (by omega)
      obtain ⟨y, hy, cy⟩ := HP.out.at m (by omega)
      have lh : (h : Int) < (N : Int) := by omega
      have la : (m : Int) < (N : Int) := by omega
      have kc := fun w => closM y x w
      generalize cmpM y x = r at kc
      have hb3 : i ≤ h ∧ h < j := by omega
      have wh1 : IntKind.i64.wrap ((h : Int) + 1) = (h : Int) + 1 := by rw [IntKind.wrap_i64]; omega
      clear hx hy hh
      go_wp2
      by_cases hr : ¬ r < 0
      · have hr' : decide (r < 0) = false := decide_eq_false hr
        go_quiet (first | (go_at_call 58; refine Calls.quiet_of_same (kc _)))
        go_wp2
        go_roundw
        case rel => exact ⟨h + 1, j, by omega, by omega, by omega, by go_num, rfl, by first | exact HP.out | exact HP.out.dr | exact HP.out.drew _⟩
        case measure => simp [intOf]; omega
      · have hr' : r < 0 := Classical.not_not.1 hr
        go_quiet (first | (go_at_call 58; refine Calls.quiet_of_same (kc _)))
        go_wp2
        go_roundw
        case rel => exact ⟨i, h, by omega, by omega, by omega, rfl, rfl, by first | exact HP.out | exact HP.out.dr | exact HP.out.drew _⟩
        case measure => simp [intOf]; omega
    · have hij : i = j := by omega
      have hlt' : ¬ (i : Int) < (j : Int) := by omega
      go_wp2
      go_loopw [17] (fun u wr => ∃ (k : Nat) (L' : List Ml), i ≤ k ∧ k ≤ m ∧ u = .int .i64 k ∧ Hid (Pm base g cap N L w wr L')) (fun u _ => (intOf u).toNat)
      case atStart => exact ⟨m, L, by omega, by omega, rfl, HP.out⟩
      case round =>
        obtain ⟨k, L', k1, k2, rfl, HQ⟩ := hrel
        by_cases hk : i < k
        · have hk' : (i : Int) < (k : Int) := by omega
          obtain ⟨kp, hkp⟩ : ∃ q, q + 1 = k := ⟨k - 1, by omega⟩
          subst hkp
          obtain ⟨x, hx, cx⟩ := HQ.out.at (kp + 1) (by omega)
          obtain ⟨y, hy, cy⟩ := HQ.out.at kp (by omega)
          have fx := HQ.out.own.frozenAt (kp + 1)
          have fy := HQ.out.own.frozenAt kp
          have HS : Hid (Pm base g cap N L w ((wr.setCell ⟨g, kp + 1, none⟩ (encM y)).setCell ⟨g, kp, none⟩ (encM x)) ((L'.set (kp + 1) y).set kp x)) := HQ.out.swap _ _ (by omega) (by omega) hx hy
          have wa : IntKind.i64.wrap (((kp : Int) + 1) - 1) = (kp : Int) := by rw [IntKind.wrap_i64]; omega
          have ta : ((kp : Int) + 1).toNat = kp + 1 := by omega
          have pa : (0 : Int) ≤ (kp : Int) + 1 := by omega
          have la : (kp : Int) + 1 < (N : Int) := by omega
          have lb : (kp : Int) < (N : Int) := by omega
          obtain ⟨xg, xc, xp⟩ := x
          obtain ⟨yg, yc, yp⟩ := y
          simp only [encM] at cx cy HS
          generalize xp.length = xn at cx HS
          generalize yp.length = yn at cy HS
          have n1 : ¬ kp = kp + 1 := by omega
          have n2 : ¬ kp + 1 = kp := by omega
          clear hx hy HQ
          go_wp2
          go_region
          generalize ((wr.setCell ⟨g, kp + 1, none⟩ (.slice (some ⟨yg, 0, none⟩) yn yc)).setCell ⟨g, kp, none⟩ (.slice (some ⟨xg, 0, none⟩) xn xc)) = W5 at HS ⊢
          go_wp2
          go_roundw
          case rel => exact ⟨kp, _, by omega, by omega, by go_num, HS.out.dr⟩
          case measure => first | (simp [intOf]; done) | (simp [intOf]; omega)
        · have hk' : ¬ (i : Int) < (k : Int) := by omega
          go_wp2
          (try simp only [Exit.inBlock, Exit.then])
          refine bodyPost_ret (results_none rfl _ _ _) rfl ?_
          exact ⟨rfl, L', HQ.out⟩
end Ln
end Go.Proofs.YtbmpiddjakdebaaGreat
