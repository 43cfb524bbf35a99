/- The document's answer: rows made of bits, and whether two rows are the same. -/
import Derived.Test.YtcdefpfnjjahgabW2
namespace Go.Proofs.Ytcdefpfnjjahgab
open Go.RowKit
set_option linter.unusedVariables false

theorem packN_more (p : Nat → Bool) (j : Nat) (hp : p j = false) : ∀ m, Pk.packN (fun i => p i || i == j) m = Pk.packN p m + (if j < m then 2 ^ j else 0)
  | 0 => rfl
  | m + 1 => by
    rw [Pk.packN, Pk.packN, packN_more p j hp m]
    by_cases e : m = j
    · subst e
      have h1 : ¬ m < m := by omega
      have h2 : m < m + 1 := by omega
      simp [hp]
    · have e1 : (m == j) = false := by simp [e]
      have e2 : (j < m) = (j < m + 1) := by simp; omega
      simp only [e1, Bool.or_false, e2]
      omega
theorem pack_more (p : Nat → Bool) (i : Nat) (hp : p i = false) : Pk.pack p (i / 64) + Pk.one i = Pk.pack (fun j => p j || j == i) (i / 64) := by
  unfold Pk.pack Pk.one
  have h := packN_more (fun j => p (64 * (i / 64) + j)) (i % 64) (by show p (64 * (i / 64) + i % 64) = false; rw [show 64 * (i / 64) + i % 64 = i by omega]; exact hp) 64
  rw [if_pos (by omega)] at h
  rw [← h]
  congr 1
  funext j
  have : (j == i % 64) = (64 * (i / 64) + j == i) := by
    rw [Bool.eq_iff_iff]
    simp
    omega
  rw [this]

theorem refRowC (n cap : Nat) (sp : Option Addr) (g : Nat → Bool) (h1 : n ≤ 65538) (w : World) (hb : Bd w sp n g) :
    Calls Try.prog 33 #[.slice sp n cap] w fun e w' => ∃ b, e = .returned (.agg #[.int .i64 n, .slice (some ⟨b, 0, none⟩) ((n + 63) / 64) ((n + 63) / 64)]) ∧ Row w' 22 b ((n + 63) / 64) (fun i => decide (i < n) && g i) ∧ w.grownBy w' none ∧ w.heap.size ≤ b := by
  obtain ⟨c, hcc⟩ : ∃ c : Nat, Hid (c = (n + 63) / 64) := ⟨(n + 63) / 64, by unfold Hid; rfl⟩
  rw [← hcc.out]
  have hc1 : n ≤ 64 * c := by have := hcc.out; omega
  have hc2 : c ≤ 1025 := by have := hcc.out; omega
  have hq : ((n : Int) + 63) / 64 = (c : Int) := by have := hcc.out; omega
  have hq2 : ((n : Int) + 63).tdiv 64 = (c : Int) := by rw [Int.tdiv_eq_ediv_of_nonneg (by omega)]; exact hq
  have hmk := run_make_row' (P := Try.prog) 29 22 (.int .u64 0) 8 underS infoW rfl .i64 .i64 c (by omega) (by omega)
  obtain ⟨W1, hW, c0, c1, sz, hg, hB⟩ := box2 w (.int .i64 0) (.slice none 0 0) 31
  obtain ⟨W2, hW2⟩ : ∃ W2, W1.alloc (.cells (madeCells #[.int .u64 0] c) 22) = W2 := ⟨_, rfl⟩
  have g2 : W1.grownBy W2 none := by rw [← hW2]; exact World.grownBy_alloc _ _ _
  have hr2 : Row W2 22 W1.heap.size c (fun _ => false) := by
    rw [← hW2]
    exact World.rowIs.congr (World.rowIs_made W1 (.int .u64 0) c 22) fun i hi => by rw [Pk.pack_zero]; rfl
  have lt2 := World.rowIs.lt hr2
  obtain ⟨W3, hW3, x0, x1, sz3, g3, hB3⟩ := box2 W2 (.int .i64 n) (.slice (some ⟨W1.heap.size, 0, none⟩) c c) 31
  have hr3 := hr2.kept g3 (by simp)
  have g23 := gb_trans g2 g3
  have hB13 := hB.kept g23 (by simp)
  have hb3 := (hb.kept hg (by simp)).kept g23 (by simp)
  have hs : w.heap.size < W1.heap.size := by have := sz.out; omega
  go_enter Try.func33, Try.ntmps33
  go_wp2
  go_loopw [4] (fun i wr => ∃ k : Nat, k ≤ n ∧ i = .int .i64 k ∧ Row wr 22 W1.heap.size c (fun j => decide (j < k) && g j) ∧ W3.grownBy wr (some W1.heap.size)) (fun i _ => n - (intOf i).toNat)
  case atStart => exact ⟨0, Nat.zero_le _, rfl, hr3.congr fun i hi => by simp, World.grownBy.refl _ _⟩
  case round =>
    obtain ⟨k, hk, rfl, hrk, hgk⟩ := hrel
    have hBk := hB3.kept hgk (by simp; omega)
    have y0 := hBk.cell0
    have y1 := hBk.cell1
    by_cases hlt : k < n
    · obtain ⟨a, rfl⟩ := hb.some (by omega)
      have hlt' : (k : Int) < (n : Int) := by omega
      have hca := hgk.cell (hb3.at hlt) (by
        have := cell_lt (hb.at hlt)
        simp; omega)
      cases hgv : g k with
      | true =>
        rw [hgv] at hca
        have hkc := World.rowIs.cell hrk (i := k / 64) (by omega)
        have hkf := World.rowIs.frozen hrk (k / 64)
        have hbi : (k : Int) / 64 < c := by omega
        have hi0 : (0 : Int) ≤ (k : Int) / 64 := by omega
        have ht : ((k : Int) / 64).toNat = k / 64 := by omega
        have hd : IntKind.i64.wrap ((k : Int) / 64) = ((k / 64 : Nat) : Int) := by rw [IntKind.wrap_i64]; omega
        have hmin : min (k % 64) 64 = k % 64 := by omega
        have hone : IntKind.u64.wrap (2 ^ (k % 64)) = (Pk.one k : Int) := by
          have h := Pk.one_lt k
          rw [IntKind.wrap_u64]
          have e : (2 : Int) ^ (k % 64) = (Pk.one k : Int) := by unfold Pk.one; simp
          rw [e]
          omega
        have hsum := pack_more (fun j => decide (j < k) && g j) k (by simp)
        have hpl := Pk.pack_lt (fun j => (decide (j < k) && g j) || j == k) (k / 64)
        have hadd : IntKind.u64.wrap ((Pk.pack (fun j => decide (j < k) && g j) (k / 64) : Int) + (Pk.one k : Int)) = (Pk.pack (fun j => (decide (j < k) && g j) || j == k) (k / 64) : Int) := by
          rw [IntKind.wrap_u64]; omega
        have R : Row (wr.setCell ⟨W1.heap.size, k / 64, none⟩ (.int .u64 (Pk.pack (fun j => (decide (j < k) && g j) || j == k) (k / 64)))) 22 W1.heap.size c (fun j => decide (j < k + 1) && g j) := by
          refine Row.congr (p := fun j => (decide (j < k) && g j) || j == k) (hrk.set rfl fun j _ hj => ?_) fun j hj => ?_
          · have : j ≠ k := fun e => hj (by rw [e])
            have e1 : (j == k) = false := by simp [this]
            simp only [e1, Bool.or_false]
          · by_cases e : j = k
            · subst e; simp [hgv]
            · have e1 : (j == k) = false := by simp [e]
              have e2 : decide (j < k) = decide (j < k + 1) := by simp; omega
              simp only [e1, Bool.or_false, e2]
        clear hsum hpl
        go_wp2
        refine region_tail 15 mixed (by kernel_rfl) ?_
        simp only [List.take_succ_cons, List.take_zero, List.drop_succ_cons, List.drop_zero]
        repeat still_step
        refine wpStill_nil ?_
        go_wp2
        go_roundw
        case rel => exact ⟨k + 1, by omega, by go_num, R, gb_drew (gb_set hgk _ _)⟩
        case measure => simp [intOf]; omega
      | false =>
        rw [hgv] at hca
        go_wp2
        go_roundw
        case rel => exact ⟨k + 1, by omega, by go_num, hrk.congr fun i hi => by
          by_cases hik : i = k
          · subst hik; simp [hgv]
          · have e2 : decide (i < k) = decide (i < k + 1) := by simp; omega
            simp only [e2], hgk⟩
        case measure => simp [intOf]; omega
    · have hkn : k = n := by omega
      have hB1k := hB13.kept hgk (by simp; omega)
      have z0 := hB1k.cell0
      have z1 := hB1k.cell1
      have z2 := hB1k.free0
      have z3 := hB1k.free1
      have hlt' : ¬ (k : Int) < (n : Int) := by omega
      have HK : Hid (k = n) := hkn
      clear hkn
      go_wp2
      obtain ⟨fs, hfs⟩ := underR
      refine ret_box1 (g := w.heap.size) (t := 31) rfl hfs infoR rfl (hB1k.set _ _) rfl ?_
      have G : w.grownBy wr none := gb_past (gb_trans hg g23) hgk (by omega)
      have hne : W1.heap.size ≠ w.heap.size := by omega
      refine ⟨W1.heap.size, rfl, ?_, gb_new (gb_new G (Nat.le_refl _) _) (Nat.le_refl _) _, by omega⟩
      have R := (World.rowIs.setOther (World.rowIs.setOther hrk (a := ⟨w.heap.size, 0, none⟩) hne (.int .i64 n)) (a := ⟨w.heap.size, 1, none⟩) hne (.slice (some ⟨W1.heap.size, 0, none⟩) c c))
      rw [HK.out] at R
      exact R

theorem sameYes (N : Int) (n ca cb : Nat) (sa sb : Option Addr) (f : Nat → Nat) (hn : n ≤ 9223372036854775807) (w : World) (ha : Wd w sa n f) (hb : Wd w sb n f) :
    Calls Try.prog 38 #[.agg #[.int .i64 N, .slice sa n ca], .agg #[.int .i64 N, .slice sb n cb]] w fun e w' => e = .returned (.bool true) ∧ w.grownBy w' none := by
  obtain ⟨W1, hW, c0, c1, sz, hg1, hA⟩ := box2 w (.int .i64 N) (.slice sa n ca) 31
  obtain ⟨W2, hW2, d0, d1, sz2, hg2, hB⟩ := box2 W1 (.int .i64 N) (.slice sb n cb) 31
  have g2 := gb_trans hg1 hg2
  have hA2 := hA.kept hg2 (by simp)
  have a0 := hA2.cell0
  have a1 := hA2.cell1
  have ha2 := ha.kept g2 (by simp)
  have hb2 := hb.kept g2 (by simp)
  go_enter Try.func38, Try.ntmps38
  go_wp2
  go_loopw [5] (fun i wr => ∃ k : Nat, k ≤ n ∧ i = .int .i64 k ∧ W2.grownBy wr none) (fun i _ => n - (intOf i).toNat)
  case atStart => exact ⟨0, Nat.zero_le _, rfl, World.grownBy.refl _ _⟩
  case round =>
    obtain ⟨k, hk, rfl, hgk⟩ := hrel
    have hAk := hA2.kept hgk (by simp)
    have hBk := hB.kept hgk (by simp)
    have u0 := hAk.cell0
    have u1 := hAk.cell1
    have u2 := hBk.cell0
    have u3 := hBk.cell1
    by_cases hlt : k < n
    · obtain ⟨aa, rfl⟩ := ha.some (by omega)
      obtain ⟨ab, rfl⟩ := hb.some (by omega)
      have v0 := hgk.cell (ha2.at hlt) (by simp)
      have v1 := hgk.cell (hb2.at hlt) (by simp)
      have hlt' : (k : Int) < (n : Int) := by omega
      have hnn : ((f k : Int) != (f k : Int)) = false := by simp
      go_wp2
      go_quiet (fail)
      go_wp2
      go_roundw
      case rel => exact ⟨k + 1, by omega, by go_num, gb_drewN hgk _⟩
      case measure => simp [intOf]; omega
    · have hlt' : ¬ (k : Int) < (n : Int) := by omega
      go_wp2
      go_ret
      exact ⟨rfl, gb_trans g2 hgk⟩

end Go.Proofs.Ytcdefpfnjjahgab
