/- WordsEach, where there are at most fifteen rows: at each place just one of sixteen numbers is told, and it is how many rows have a 1 there. -/
import Derived.Test.YtcdefpfnjjahgacW19
namespace Go.Proofs.Ytcdefpfnjjahgac
open Go.RowKit
set_option linter.unusedVariables false

set_option maxRecDepth 100000 in
set_option maxHeartbeats 8000000 in
theorem walkEachA (K cap : Nat) (sp : Option Addr) (AA : Nat → Option Addr) (L C : Nat → Nat) (BB : Nat → Nat → Bool) (hK : K ≤ cap ∧ cap ≤ 9223372036854775807) (w : World) (gd : Gd w sp K AA L C BB) (hKK : 0 < K ∧ K ≤ 15) :
    Calls Try.prog 3 #[.slice sp K cap] w fun e w' => e = .returned (.bool true) ∧ Below w.heap.size w w' := by
  obtain ⟨a, rfl⟩ : ∃ a, sp = some a := by obtain ⟨a, h, _⟩ := gd 0 (by omega); exact ⟨a, h⟩
  obtain ⟨kk, hkk⟩ : ∃ kk, Hid (kk = K) := ⟨K, by unfold Hid; rfl⟩
  have k1 : kk ≤ K := by have := hkk.out; omega
  have k2 : kk ≤ 15 := by have := hkk.out; omega
  have k3 : 0 < kk := by have := hkk.out; omega
  obtain ⟨m, hm⟩ : ∃ m, Hid (m = mn L kk) := ⟨_, rfl⟩
  have ml : m ≤ 65538 := by rw [hm.out]; exact mn_le L kk
  have mr : Hid (∀ t, t < kk → m ≤ L t) := fun t ht => by rw [hm.out]; exact mn_row L kk t ht
  obtain ⟨c, hc⟩ : ∃ c, Hid (c = (m + 63) / 64) := ⟨_, rfl⟩
  have cl : c ≤ 1025 := by have := hc.out; omega
  obtain ⟨P, hP⟩ : ∃ P : Nat → Nat → Bool, Hid (∀ j, P j = fun t => (decide (t < m) && BB j t)) := ⟨fun j t => decide (t < m) && BB j t, fun _ => rfl⟩
  have MP : Hid (∀ j, MayBe m c (P j)) := fun j => ⟨ml, hc.out, fun i hi => by rw [hP.out]; show (decide (i < m) && BB j i) = false; rw [decide_eq_false (by omega)]; rfl⟩
  obtain ⟨i0, hi, hz0, hz1, hz2⟩ := info_parts infoR3
  have HI : Hid (Try.prog.info? 28 = some i0 ∧ i0.zero = some (.agg #[.int .i64 0, .slice none 0 0]) ∧ i0.size = 2 ∧ i0.bytes = 32) := ⟨hi, hz0, hz1, hz2⟩
  clear hi hz0 hz1 hz2
  go_enter Try.func3, Try.ntmps3
  go_wp2_with (first | (go_at_call 5; refine (aliveC w).mono ?_; rintro e w1 ⟨rfl, g1⟩; have gd1 := gd.kept g1))
  go_loop [4, 5] (fun x y => ∃ j : Nat, j ≤ kk ∧ y = .int .i64 j ∧ x = .int .i64 (mn L j)) (fun _ y => kk - (intOf y).toNat)
  case atStart => exact ⟨0, Nat.zero_le _, rfl, rfl⟩
  case round =>
    obtain ⟨j, hj, rfl, rfl⟩ := hrel
    by_cases hlt : j < kk
    · have j1 : (j : Int) < (K : Int) := by omega
      have j2 : (j : Int) < 15 := by omega
      obtain ⟨a', ha', x1, x2, x3, _⟩ := gd1 j (by omega)
      cases ha'
      have hmn := mn_if L j
      go_wp2
      go_round
      case rel => exact ⟨j + 1, by omega, by go_num, rfl⟩
      case measure => simp [intOf]; omega
    · have hjk : Hid (j = kk) := by unfold Hid; omega
      have hmj : (mn L j : Int) = (m : Int) := by rw [hm.out, hjk.out]
      have hKz : ((K : Int) == 0) = false := by simp; omega
      have j1 : ¬ (j : Int) < (K : Int) := by have := hkk.out; omega
      go_wp2
      go_loopw [6, 7] (fun v x wr => ∃ l : Nat, l ≤ kk ∧ x = .int .i64 l ∧ (∃ xs, wr.ownsRow w1.heap.size 28 2 v l xs ∧ RowsIn wr w1.heap.size m c P xs l) ∧ w1.grownBy wr none) (fun _ x _ => kk - (intOf x).toNat)
      case atStart => exact ⟨0, Nat.zero_le _, rfl, ⟨[], World.ownsRow_nil _ _ _ _, fun t ht => absurd ht (Nat.not_lt_zero _)⟩, World.grownBy.refl _ _⟩
      case round =>
        obtain ⟨l, hl, rfl, ⟨xs, hown, hrows⟩, hgl⟩ := hrel
        by_cases hll : l < kk
        · have l1 : (l : Int) < (K : Int) := by omega
          have l2 : (l : Int) < 15 := by omega
          obtain ⟨a', ha', x1, x2, x3, x4⟩ := (gd1.kept hgl) l (by omega)
          cases ha'
          have hmL := mr.out l hll
          have hmC : m ≤ C l := by omega
          have hbd : Bd wr (AA l) m (BB l) := fun k hk => x4 k (by omega)
          have hof := ofC m (C l) (AA l) (BB l) ml wr hbd
          rw [← hc.out, ← hP.out l] at hof
          clear x4 hbd
          have hb1 := hgl.size
          go_wp2_with (first | (go_at_call 6; refine hof.mono ?_; rintro e w2 ⟨b, rfl, hr2, g2, lb⟩; obtain ⟨W3, hW3, y0, y1, sz3, g3, hB3⟩ := box2 w2 (.int .i64 m) (.slice (some ⟨b, 0, none⟩) c c) 28; have g23 := gb_trans g2 g3; have hown3 := hown.kept g23 (Classical.em _); have hb3 := g23.size) | (at_builtin; refine wpList_append_own _ rfl _ _ 25 rfl w1.heap.size 28 i0 (.agg #[.int .i64 0, .slice none 0 0]) 2 32 underRS HI.out.1 HI.out.2.1 HI.out.2.2.1 HI.out.2.2.2 rfl (by decide) _ _ _ rfl (hown3.alloc _) ⟨W3.heap.size, 0, none⟩ 1 1 [.int .i64 m, .slice (some ⟨b, 0, none⟩) c c] rfl rfl (new2 _ _ _ _) ?_ ?_ ?_ ?_ ?_; rotate_right; intro v' w4 hown4 hgrow4 hnil4; obtain ⟨gg, cap4, rfl⟩ := ownsRow_succ hown4))
          · have HA := hown3.alloc (.cells #[.int .i64 m, .slice (some ⟨b, 0, none⟩) c c] 28)
            have ga := World.grownBy_alloc W3 (.cells #[.int .i64 m, .slice (some ⟨b, 0, none⟩) c c] 28) none
            have hRn := (hr2.kept g3 (by simp)).kept ga (by simp)
            have hl2 := hown.1
            go_wp2
            go_roundw
            case rel => exact ⟨l + 1, by omega, by go_num, ⟨_, hown4, ((((hrows.keptN g23).keptN ga).kept HA hgrow4).more hl2 (hRn.kept hgrow4 (own_ne HA hRn)) (by omega))⟩, gb_own (gb_trans hgl (gb_trans g23 ga)) hgrow4 (fun i e => (HA.lt i e).1)⟩
            case measure => simp [intOf]; omega
          · intro u hu
            simp at hu
            rcases hu with rfl | rfl <;> rfl
          · unfold maxLen; omega
          · omega
          · simp; omega
        · obtain rfl : l = kk := by omega
          rcases hown.2 with ⟨_, h0⟩ | ⟨gg, capv, cur, rfl, hgb, hgh, hg1, hg2, _⟩
          · omega
          obtain ⟨bs, hrws⟩ := hrows.rws hown cl
          have hcn := countC P gg l capv c m (some ⟨gg, 0, none⟩) (fun _ => c) (fun j => some ⟨bs j, 0, none⟩) (fun _ => rfl) k2 ml hc.out (by omega) (fun j _ => MP.out j) wr hrws
          have j1 : ¬ (l : Int) < (K : Int) := by have := hkk.out; omega
          have hmk := run_make_row' (P := Try.prog) 35 3 (.int .i64 0) 8 underIS infoI rfl .i64 .i64 m (by omega) (by omega)
          go_wp2_with (first | (go_at_call 7; refine hcn.mono ?_; rintro e w2 ⟨b0, b1, b2, b3, rfl, r0, r1, r2, r3, g2, _, _, _, _⟩; obtain ⟨W3, hW3, hC3, sz3, g3⟩ := box8 w2 32 (.int .i64 m) (.slice (some ⟨b0, 0, none⟩) c c) (.int .i64 m) (.slice (some ⟨b1, 0, none⟩) c c) (.int .i64 m) (.slice (some ⟨b2, 0, none⟩) c c) (.int .i64 m) (.slice (some ⟨b3, 0, none⟩) c c); obtain ⟨W4, hW4⟩ : ∃ W4, W3.alloc (.cells (madeCells #[.int .i64 0] m) 3) = W4 := ⟨_, rfl⟩; have g4 : W3.grownBy W4 none := (by rw [← hW4]; exact World.grownBy_alloc _ _ _); have hT4 : W4.rowIs W3.heap.size 3 m (fun _ => .int .i64 0) := (by rw [← hW4]; exact World.rowIs_made _ _ _ _)))
          have G4 : w1.grownBy W4 none := gb_trans hgl (gb_trans g2 (gb_trans g3 g4))
          have C4 := hC3.kept g4
          have R0 := (r0.kept g3 (by simp)).kept g4 (by simp)
          have R1 := (r1.kept g3 (by simp)).kept g4 (by simp)
          have R2 := (r2.kept g3 (by simp)).kept g4 (by simp)
          have R3 := (r3.kept g3 (by simp)).kept g4 (by simp)
          have s3 : w2.heap.size < W3.heap.size := by have := sz3.out; omega
          have s4 := g4.size
          have t1 : w1.heap.size ≤ W3.heap.size := (gb_trans hgl (gb_trans g2 g3)).size
          have lb0 := World.rowIs.lt r0
          have lb1 := World.rowIs.lt r1
          have lb2 := World.rowIs.lt r2
          have lb3 := World.rowIs.lt r3
          have cnl : ∀ t, cn P l t ≤ 15 := fun t => Nat.le_trans (cn_le P l t) k2
          have CNL : Hid (∀ t, cn P l t ≤ 15) := cnl
          clear cnl r0 r1 r2 r3
          go_loopw [13] (fun x wr' => ∃ v : Nat, v ≤ 16 ∧ x = .int .i64 v ∧ wr'.rowIs W3.heap.size 3 m (fun t => .int .i64 (tv (cn P l t) v)) ∧ W4.grownBy wr' (some W3.heap.size)) (fun x _ => 16 - (intOf x).toNat)
          case atStart => exact ⟨0, by omega, rfl, hT4.congr fun t ht => rfl, World.grownBy.refl _ _⟩
          case round =>
            obtain ⟨v, hv, rfl, hrv, hgv⟩ := hrel
            by_cases hvl : v < 16
            · have v1 : (v : Int) < 16 := by omega
              have v2 : v ≤ 15 := by omega
              have C5 : B8 wr w2.heap.size 32 (.int .i64 m) (.slice (some ⟨b0, 0, none⟩) c c) (.int .i64 m) (.slice (some ⟨b1, 0, none⟩) c c) (.int .i64 m) (.slice (some ⟨b2, 0, none⟩) c c) (.int .i64 m) (.slice (some ⟨b3, 0, none⟩) c c) := (hgv.block _ (by omega) (by simp; omega)).trans C4
              have c0 := C5.c0
              have c1 := C5.c1
              have c2 := C5.c2
              have c3 := C5.c3
              have c4 := C5.c4
              have c5 := C5.c5
              have c6 := C5.c6
              have c7 := C5.c7
              have S0 := R0.kept hgv (by simp; omega)
              have S1 := R1.kept hgv (by simp; omega)
              have S2 := R2.kept hgv (by simp; omega)
              have S3 := R3.kept hgv (by simp; omega)
              have his := isC m c v (fun _ => c) (fun d => match d with | 0 => some ⟨b0, 0, none⟩ | 1 => some ⟨b1, 0, none⟩ | 2 => some ⟨b2, 0, none⟩ | _ => some ⟨b3, 0, none⟩) (dgF P l) (fun d _ => tOfF P l m c ml hc.out MP.out d) v2 wr (fun d hd => by
                rcases (show d = 0 ∨ d = 1 ∨ d = 2 ∨ d = 3 by omega) with rfl | rfl | rfl | rfl
                · exact S0.wd
                · exact S1.wd
                · exact S2.wd
                · exact S3.wd)
              have MI : MayBe m c (fun t => isN (dgF P l) v 4 t && decide (t < m)) := ⟨ml, hc.out, fun i hi => by rw [decide_eq_false (by omega), Bool.and_false]⟩
              clear S0 S1 S2 S3
              go_wp2_with (first | (go_at_call 8; refine his.mono ?_; rintro e w5 ⟨bI, rfl, rI, g5, lI⟩; obtain ⟨W6, hW6, y0, y1, sz6, g6, hI6⟩ := box2 w5 (.int .i64 m) (.slice (some ⟨bI, 0, none⟩) c c) 28; have rI6 := Row.kept rI g6 (by simp)) | (go_at_call 9; refine (validP m c c (some ⟨bI, 0, none⟩) _ MI W6 rI6.wd).mono ?_; rintro e w7 ⟨rfl, g7⟩; have hI7 := hI6.kept g7 (by simp); have rI7 := rI6.kept g7 (by simp); have g57 := gb_trans g5 (gb_trans g6 g7); have hr7 := rowIs_kept hrv g57 (by simp)))
              have zz := hrv.lt
              have z1 := g5.size
              have z2 : w5.heap.size < W6.heap.size := by have := sz6.out; omega
              have lbI := World.rowIs.lt rI
              have PI : Hid (∀ t, t < m → (isN (dgF P l) v 4 t && decide (t < m)) = decide (cn P l t = v)) := fun t ht => by rw [isN_cn P l v t k2 v2, decide_eq_true ht, Bool.and_true]
              go_loopw [16] (fun x wr'' => ∃ i : Nat, i ≤ m ∧ x = .int .i64 i ∧ wr''.rowIs W3.heap.size 3 m (fun t => .int .i64 (if t < i then tv (cn P l t) (v + 1) else tv (cn P l t) v : Nat)) ∧ w7.grownBy wr'' (some W3.heap.size)) (fun x _ => m - (intOf x).toNat)
              case atStart => exact ⟨0, Nat.zero_le _, rfl, hr7.congr fun t ht => by rw [if_neg (by omega)], World.grownBy.refl _ _⟩
              case round =>
                obtain ⟨i, hi, rfl, hri, hgi⟩ := hrel
                by_cases hil : i < m
                · have i1 : (i : Int) < (m : Int) := by omega
                  have hIi := hI7.kept hgi (by simp; omega)
                  have d0 := hIi.cell0
                  have d1 := hIi.cell1
                  have rIi := rI7.kept hgi (by simp; omega)
                  have hge := getC m c c (some ⟨bI, 0, none⟩) _ MI i wr rIi.wd
                  have hgb : getB m (fun t => isN (dgF P l) v 4 t && decide (t < m)) i = decide (cn P l i = v) := by
                    unfold getB
                    rw [decide_eq_true (show (0 : Int) ≤ (i : Int) by omega), decide_eq_true i1, Int.toNat_natCast]
                    exact PI.out i hil
                  rw [hgb] at hge
                  clear hgb
                  have ci := hri.cell hil
                  have cf := hri.frozen i
                  rw [if_neg (show ¬ i < i by omega)] at ci
                  have tl := tv_le (cn P l i) v (CNL.out i)
                  by_cases hh : cn P l i = v
                  · rw [decide_eq_true hh] at hge
                    have HH : Hid (cn P l i = v) := hh
                    clear hh
                    go_wp2_with (first | (go_at_call 10; refine hge.mono ?_; rintro e w8 ⟨rfl, g8⟩; have hr8 := rowIs_kept hri g8 (by simp); have e0 := g8.cell ci (by simp); have e1 := hr8.frozen i))
                    go_roundw
                    case rel => exact ⟨i + 1, by omega, by go_num, (hr8.set i _).congr (fun t ht => by
                      by_cases et : t = i
                      · subst et
                        rw [if_pos rfl, if_pos (by omega), HH.out, ← tv_hit v]
                        congr 1
                      · rw [if_neg et]
                        by_cases e2 : t < i
                        · rw [if_pos e2, if_pos (by omega)]
                        · rw [if_neg e2, if_neg (by omega)]), gb_set (gb_none hgi g8) _ _⟩
                    case measure => simp [intOf]; omega
                  · rw [decide_eq_false hh] at hge
                    go_wp2_with (first | (go_at_call 10; refine hge.mono ?_; rintro e w8 ⟨rfl, g8⟩; have hr8 := rowIs_kept hri g8 (by simp)))
                    go_roundw
                    case rel => exact ⟨i + 1, by omega, by go_num, hr8.congr (fun t ht => by
                      by_cases et : t = i
                      · subst et
                        rw [if_neg (by omega), if_pos (by omega), tv_same hh]
                      · by_cases e2 : t < i
                        · rw [if_pos e2, if_pos (by omega)]
                        · rw [if_neg e2, if_neg (by omega)]), gb_none hgi g8⟩
                    case measure => simp [intOf]; omega
                · have i1 : ¬ (i : Int) < (m : Int) := by omega
                  go_wp2
                  go_roundw
                  case rel => exact ⟨v + 1, by omega, by go_num, hri.congr (fun t ht => by rw [if_pos (by omega)]), gb_trans (gb_none hgv g57) hgi⟩
                  case measure => simp [intOf]; omega
            · have v1 : ¬ (v : Int) < 16 := by omega
              obtain rfl : v = 16 := by omega
              have GW : w1.grownBy wr none := gb_past G4 hgv t1
              have gdw := gd1.kept GW
              have TVL : Hid (∀ t, tv (cn P l t) 16 = 1 + 100 * cn P l t) := fun t => by unfold tv; rw [if_pos (by have := CNL.out t; omega)]
              go_wp2
              go_loop [17] (fun x => ∃ i : Nat, i ≤ m ∧ x = .int .i64 i) (fun x => m - (intOf x).toNat)
              case atStart => exact ⟨0, Nat.zero_le _, rfl⟩
              case round =>
                obtain ⟨i, hi, rfl⟩ := hrel
                by_cases hil : i < m
                · have i1 : (i : Int) < (m : Int) := by omega
                  have ci := hrv.cell hil
                  have c15 := CNL.out i
                  go_wp2
                  go_loop [18, 19] (fun x y => ∃ z : Nat, z ≤ l ∧ y = .int .i64 z ∧ x = .int .i64 (cn P z i)) (fun _ y => l - (intOf y).toNat)
                  case atStart => exact ⟨0, Nat.zero_le _, rfl, rfl⟩
                  case round =>
                    obtain ⟨z, hz, rfl, rfl⟩ := hrel
                    have cz := cn_le P z i
                    by_cases hzl : z < l
                    · have z1 : (z : Int) < (l : Int) := by omega
                      have z2 : (z : Int) < (K : Int) := by omega
                      obtain ⟨a', ha', x1, x2, x3, x4⟩ := gdw z (by omega)
                      cases ha'
                      have hmL := mr.out z hzl
                      have z3 : (i : Int) < (L z : Int) := by omega
                      obtain ⟨a2, ha2⟩ := x4.some (by omega)
                      have x5 := x4
                      rw [ha2] at x1 x5
                      have x6 := x5.at (show i < L z by omega)
                      have hPz : Hid (P z i = BB z i) := by unfold Hid; rw [hP.out]; show (decide (i < m) && BB z i) = BB z i; rw [decide_eq_true hil, Bool.true_and]
                      clear x4 x5 ha2
                      cases hbz : BB z i with
                      | true =>
                        rw [hbz] at x6
                        go_wp2
                        go_round
                        case rel => exact ⟨z + 1, by omega, by go_num, by
                          have e : cn P (z + 1) i = cn P z i + 1 := by rw [cn, hPz.out, hbz]; rfl
                          rw [e]
                          go_num⟩
                        case measure => simp [intOf]; omega
                      | false =>
                        rw [hbz] at x6
                        go_wp2
                        go_round
                        case rel => exact ⟨z + 1, by omega, by go_num, by
                          have e : cn P (z + 1) i = cn P z i := by rw [cn, hPz.out, hbz]; rfl
                          rw [e]⟩
                        case measure => simp [intOf]; omega
                    · have z1 : ¬ (z : Int) < (l : Int) := by omega
                      have hzz : Hid (z = l) := by unfold Hid; omega
                      have hne : ((tv (cn P l i) 16 : Int) != 1 + 100 * (cn P z i : Int)) = false := by
                        have := TVL.out i
                        rw [hzz.out]
                        simp; omega
                      go_wp2
                      go_round
                      case rel => exact ⟨i + 1, by omega, by go_num⟩
                      case measure => simp [intOf]; omega
                · have i1 : ¬ (i : Int) < (m : Int) := by omega
                  go_wp2
                  go_ret
                  exact ⟨rfl, gb_below (gb_trans g1 GW)⟩

end Go.Proofs.Ytcdefpfnjjahgac
