/- What Not, And, Or and Xor of package words answer, of rows that may be. -/
import Derived.Test.YtcdefpfnjjahgaaW12
import Derived.Test.YtcdefpfnjjahgaaW6
namespace Go.Proofs.Ytcdefpfnjjahgaa
open Go.RowKit
set_option linter.unusedVariables false

theorem box4 (w : World) (x0 x1 x2 x3 : Value) (t : TypeId) : ∃ W1, w.alloc (.cells #[x0, x1, x2, x3] t) = W1 ∧ W1.cell? ⟨w.heap.size, 0, none⟩ = some x0 ∧ W1.cell? ⟨w.heap.size, 1, none⟩ = some x1 ∧ W1.cell? ⟨w.heap.size, 2, none⟩ = some x2 ∧ W1.cell? ⟨w.heap.size, 3, none⟩ = some x3 ∧ w.grownBy W1 none :=
  ⟨_, rfl, by simp [World.cell?_alloc_at], by simp [World.cell?_alloc_at], by simp [World.cell?_alloc_at], by simp [World.cell?_alloc_at], World.grownBy_alloc _ _ _⟩


def notQ (m : Nat) (p : Nat → Bool) (j : Nat) : Bool := decide (j < m) && !p j
theorem notC (m n cap : Nat) (sp : Option Addr) (p : Nat → Bool) (M : MayBe m n p) (w : World) (hc : Wd w sp n (Pk.pack p)) :
    Calls Try.prog 25 #[.agg #[.int .i64 m, .slice sp n cap]] w fun e w' => ∃ b, e = .returned (.tuple #[.agg #[.int .i64 m, .slice (some ⟨b, 0, none⟩) n n], .int .i64 0]) ∧ Row w' 55 b n (notQ m p) ∧ w.grownBy w' none ∧ w.heap.size ≤ b := by
  obtain ⟨W1, hW, c0, c1, sz, hg1, hB⟩ := box2 w (.int .i64 m) (.slice sp n cap) 25
  obtain ⟨W2, hW2, d0, d1, sz2, hg2, hD⟩ := box2 W1 (.int .i64 0) (.slice none 0 0) 25
  have hc2 := (hc.kept hg1 (by simp)).kept hg2 (by simp)
  have hB2 := hB.kept hg2 (by simp)
  have e0 := hB2.cell0
  have e1 := hB2.cell1
  have hnl := M.len
  have ml := M.le
  have mw : Hid (n = (m + 63) / 64) := M.words
  go_enter Try.func25, Try.ntmps25
  go_wp2_with (first | (go_at_call 13; refine (validP m n cap sp p M W2 hc2).mono ?_; rintro e w3 ⟨rfl, g3⟩; have hB3 := hB2.kept g3 (by simp); have x0 := hB3.cell0; have x1 := hB3.cell1; have hc3 := hc2.kept g3 (by simp)) | (go_at_call 39; refine (copiedC m n cap sp p ml mw.out w3 hc3).mono ?_; rintro e w4 ⟨b, rfl, hr, g4, hlt, hlt2⟩; obtain ⟨W5, hW5, y0, y1, sz5, g5, hU⟩ := box2 w4 (.int .i64 m) (.slice (some ⟨b, 0, none⟩) n n) 25; have g45 := gb_trans g4 g5))
  have hr5 := hr.kept g5 (by simp)
  have hD5 := (hD.kept g3 (by simp)).kept g45 (by simp)
  have q1 : w.heap.size < W1.heap.size := by have := sz.out; omega
  have q2 : W1.heap.size < W2.heap.size := by have := sz2.out; omega
  have q3 := g3.size
  have q4 := hlt2.out
  have q5 := g4.size
  go_loopw [15] (fun i wr => ∃ k : Nat, k ≤ n ∧ i = .int .i64 k ∧ Row wr 55 b n (fun j => if j < 64 * k then !p j else p j) ∧ W5.grownBy wr (some b)) (fun i _ => n - (intOf i).toNat)
  case atStart => exact ⟨0, Nat.zero_le _, rfl, hr5.congr fun j hj => by simp, World.grownBy.refl _ _⟩
  case round =>
    obtain ⟨k, hk, rfl, hrk, hgk⟩ := hrel
    have hUk := hU.kept hgk (by simp; omega)
    have u0 := hUk.cell0
    have u1 := hUk.cell1
    by_cases hlt' : k < n
    · have hek : Pk.pack (fun j => if j < 64 * k then !p j else p j) k = Pk.pack p k := Pk.pack_congr fun j hj => by rw [if_neg (by omega)]
      have hkc := World.rowIs.cell hrk hlt'
      have hkf := World.rowIs.frozen hrk k
      simp only [hek] at hkc
      have hkl : (k : Int) < (n : Int) := by omega
      have hx : bits .xor .u64 (Pk.pack p k : Int) 18446744073709551615 = ((Pk.pack p k ^^^ 18446744073709551615 : Nat) : Int) := bits_xor_u64_nat (Pk.pack p k) 18446744073709551615 (Pk.pack_lt _ _) (by decide)
      rw [Pk.pack_not] at hx
      go_wp2
      go_roundw
      case rel => exact ⟨k + 1, by omega, by go_num, hrk.set (Pk.pack_congr fun j hj => by rw [if_pos (by omega)]) (fun i hi hne => by
        by_cases h : i < 64 * k
        · rw [if_pos h, if_pos (by omega)]
        · rw [if_neg h, if_neg (by omega)]), gb_set hgk _ _⟩
      case measure => simp [intOf]; omega
    · have hkn : k = n := by omega
      have hlt'' : ¬ (k : Int) < (n : Int) := by omega
      have hrn : Row wr 55 b n (fun j => !p j) := hrk.congr fun j hj => by rw [if_pos (by omega)]
      have hcr := cutC m b n n (fun j => !p j) ml mw.out wr hrn
      have hDr := hD5.kept hgk (by simp; omega)
      clear hkn
      go_wp2_with (first | (go_at_call 45; refine hcr.mono ?_; rintro e w6 ⟨rfl, hr6, g6⟩; have hU6 := hUk.kept g6 (by simp; omega); have s0 := hU6.cell0; have s1 := hU6.cell1; have hD6 := hDr.kept g6 (by simp; omega); have r2 := hD6.cell0; have r3 := hD6.cell1; have r4 := hD6.free0; have r5 := hD6.free1))
      obtain ⟨fs, hfs⟩ := underR
      refine ret_box2 (g := W1.heap.size) (t := 25) rfl hfs infoR rfl (hD6.set _ _) rfl ?_
      have hwb : w.heap.size ≤ b := by omega
      have hG5 : w.grownBy W5 none := gb_trans hg1 (gb_trans hg2 (gb_trans g3 g45))
      have hG6 : w.grownBy w6 none := gb_past (gb_past hG5 hgk hwb) g6 hwb
      have hbD : b ≠ W1.heap.size := by omega
      exact ⟨b, rfl, Row.congr (World.rowIs.setOther (World.rowIs.setOther hr6 hbD _) hbD _) (fun j hj => by unfold notQ; rw [Bool.and_comm]), gb_new (gb_new hG6 (Nat.le_of_lt q1) _) (Nat.le_of_lt q1) _, hwb⟩


theorem andC (m n ca cb : Nat) (sa sb : Option Addr) (p q : Nat → Bool) (MA : MayBe m n p) (MB : MayBe m n q) (w : World) (ha : Wd w sa n (Pk.pack p)) (hb : Wd w sb n (Pk.pack q)) :
    Calls Try.prog 42 #[.agg #[.int .i64 m, .slice sa n ca], .agg #[.int .i64 m, .slice sb n cb]] w fun e w' => ∃ b, e = .returned (.tuple #[.agg #[.int .i64 m, .slice (some ⟨b, 0, none⟩) n n], .int .i64 0]) ∧ Row w' 55 b n (fun i => (p i && q i)) ∧ w.grownBy w' none ∧ w.heap.size ≤ b := by
  obtain ⟨W1, hW, c0, c1, sz, hg1, hA⟩ := box2 w (.int .i64 m) (.slice sa n ca) 25
  obtain ⟨W2, hW2, d0, d1, sz2, hg2, hB⟩ := box2 W1 (.int .i64 m) (.slice sb n cb) 25
  obtain ⟨W3, hW3, e0, e1, sz3, hg3, hD⟩ := box2 W2 (.int .i64 0) (.slice none 0 0) 25
  obtain ⟨W4, hW4, f0, f1, f2, f3, hg4⟩ := box4 W3 (.int .i64 m) (.slice sa n ca) (.int .i64 m) (.slice sb n cb) 25
  have g3 := gb_trans hg1 (gb_trans hg2 hg3)
  have g14 := gb_trans hg2 (gb_trans hg3 hg4)
  have ha4 := (ha.kept g3 (by simp)).kept hg4 (by simp)
  have hb4 := (hb.kept g3 (by simp)).kept hg4 (by simp)
  have hA3 := hA.kept (gb_trans hg2 hg3) (by simp)
  have hB3 := hB.kept hg3 (by simp)
  have a0 := hA3.cell0
  have a1 := hA3.cell1
  have b0 := hB3.cell0
  have b1 := hB3.cell1
  have hnl := MA.len
  have ml := MA.le
  have mw : Hid (n = (m + 63) / 64) := MA.words
  have hR : Rws W4 W3.heap.size 2 (fun j => if j = 0 then ⟨m, sa, n, ca, Pk.pack p⟩ else ⟨m, sb, n, cb, Pk.pack q⟩) := by
    intro j hj
    rcases (show j = 0 ∨ j = 1 by omega) with rfl | rfl
    · exact ⟨f0, f1, ha4, fun k _ => Pk.pack_lt _ _, by show n ≤ _; omega⟩
    · exact ⟨f2, f3, hb4, fun k _ => Pk.pack_lt _ _, by show n ≤ _; omega⟩
  have hz : alikeZ (fun j => if j = 0 then (⟨m, sa, n, ca, Pk.pack p⟩ : RD) else ⟨m, sb, n, cb, Pk.pack q⟩) 2 = 0 := by
    unfold alikeZ
    rw [allV_yes (fun j hj => by
      rcases (show j = 0 ∨ j = 1 by omega) with rfl | rfl
      · exact validB_may MA
      · exact validB_may MB), allN_yes (fun j hj => by
      rcases (show j = 0 ∨ j = 1 by omega) with rfl | rfl
      · rfl
      · rfl)]
    rfl
  have hak := alikeC W3.heap.size 2 2 _ (some ⟨W3.heap.size, 0, none⟩) (fun _ => rfl) (by omega) W4 hR
  rw [hz] at hak
  clear hz hR
  go_enter Try.func42, Try.ntmps42
  go_wp2_with (first | (go_at_call 47; refine hak.mono ?_; rintro e w5 ⟨rfl, g5⟩; have G5 := gb_trans g14 g5; have hA5 := hA.kept G5 (by simp); have i0 := hA5.cell0; have i1 := hA5.cell1; have ha5 := ha4.kept g5 (by simp)) | (go_at_call 39; refine (copiedC m n ca sa p ml mw.out w5 ha5).mono ?_; rintro e w6 ⟨b, rfl, hr, g6, hlt, hlt2⟩; obtain ⟨W7, hW7, y0, y1, sz7, g7, hU⟩ := box2 w6 (.int .i64 m) (.slice (some ⟨b, 0, none⟩) n n) 25; have g67 := gb_trans g6 g7; have hB7 := hB.kept (gb_trans (gb_trans hg3 hg4) (gb_trans g5 g67)) (by simp); have z0 := hB7.cell0; have z1 := hB7.cell1))
  have hr7 := hr.kept g7 (by simp)
  have hb7 := (hb4.kept g5 (by simp)).kept g67 (by simp)
  have hD7 := hD.kept (gb_trans hg4 (gb_trans g5 g67)) (by simp)
  have q1 : w.heap.size < W1.heap.size := by have := sz.out; omega
  have q2 : W1.heap.size < W2.heap.size := by have := sz2.out; omega
  have q3 : W2.heap.size < W3.heap.size := by have := sz3.out; omega
  have q4 := hg4.size
  have q5 := g5.size
  have q6 := hlt2.out
  have q7 := g6.size
  have hwb : w.heap.size ≤ b := by omega
  go_loopw [23] (fun i wr => ∃ k : Nat, k ≤ n ∧ i = .int .i64 k ∧ Row wr 55 b n (fun j => if j < 64 * k then (p j && q j) else p j) ∧ W7.grownBy wr (some b)) (fun i _ => n - (intOf i).toNat)
  case atStart => exact ⟨0, Nat.zero_le _, rfl, hr7.congr fun j hj => by simp, World.grownBy.refl _ _⟩
  case round =>
    obtain ⟨k, hk, rfl, hrk, hgk⟩ := hrel
    have hUk := hU.kept hgk (by simp; omega)
    have u0 := hUk.cell0
    have u1 := hUk.cell1
    by_cases hlt' : k < n
    · obtain ⟨a, rfl⟩ := hb.some (by omega)
      have hca := hgk.cell (hb7.at hlt') (by
        have := cell_lt (hb.at hlt')
        simp; omega)
      have hek : Pk.pack (fun j => if j < 64 * k then (p j && q j) else p j) k = Pk.pack p k := Pk.pack_congr fun j hj => by rw [if_neg (by omega)]
      have hkc := World.rowIs.cell hrk hlt'
      have hkf := World.rowIs.frozen hrk k
      simp only [hek] at hkc
      have hkl : (k : Int) < (n : Int) := by omega
      have hx := bits_and_u64_nat (Pk.pack p k) (Pk.pack q k) (Pk.pack_lt _ _) (Pk.pack_lt _ _)
      rw [Pk.pack_and] at hx
      go_wp2
      go_roundw
      case rel => exact ⟨k + 1, by omega, by go_num, hrk.set (Pk.pack_congr fun j hj => by rw [if_pos (by omega)]) (fun i hi hne => by
        by_cases h : i < 64 * k
        · rw [if_pos h, if_pos (by omega)]
        · rw [if_neg h, if_neg (by omega)]), gb_set hgk _ _⟩
      case measure => simp [intOf]; omega
    · have hkn : k = n := by omega
      have hlt'' : ¬ (k : Int) < (n : Int) := by omega
      have hrn : Row wr 55 b n (fun i => (p i && q i)) := hrk.congr fun j hj => by rw [if_pos (by omega)]
      have hDr := hD7.kept hgk (by simp; omega)
      have r2 := hDr.cell0
      have r3 := hDr.cell1
      have r4 := hDr.free0
      have r5 := hDr.free1
      clear hkn
      go_wp2
      obtain ⟨fs, hfs⟩ := underR
      refine ret_box2 (g := W2.heap.size) (t := 25) rfl hfs infoR rfl (hDr.set _ _) rfl ?_
      have hG7 : w.grownBy W7 none := gb_trans g3 (gb_trans hg4 (gb_trans g5 g67))
      have hGr : w.grownBy wr none := gb_past hG7 hgk hwb
      have hbD : b ≠ W2.heap.size := by omega
      have q8 : w.heap.size ≤ W2.heap.size := by omega
      exact ⟨b, rfl, World.rowIs.setOther (World.rowIs.setOther hrn hbD _) hbD _, gb_new (gb_new hGr q8 _) q8 _, hwb⟩


theorem orC (m n ca cb : Nat) (sa sb : Option Addr) (p q : Nat → Bool) (MA : MayBe m n p) (MB : MayBe m n q) (w : World) (ha : Wd w sa n (Pk.pack p)) (hb : Wd w sb n (Pk.pack q)) :
    Calls Try.prog 43 #[.agg #[.int .i64 m, .slice sa n ca], .agg #[.int .i64 m, .slice sb n cb]] w fun e w' => ∃ b, e = .returned (.tuple #[.agg #[.int .i64 m, .slice (some ⟨b, 0, none⟩) n n], .int .i64 0]) ∧ Row w' 55 b n (fun i => (p i || q i)) ∧ w.grownBy w' none ∧ w.heap.size ≤ b := by
  obtain ⟨W1, hW, c0, c1, sz, hg1, hA⟩ := box2 w (.int .i64 m) (.slice sa n ca) 25
  obtain ⟨W2, hW2, d0, d1, sz2, hg2, hB⟩ := box2 W1 (.int .i64 m) (.slice sb n cb) 25
  obtain ⟨W3, hW3, e0, e1, sz3, hg3, hD⟩ := box2 W2 (.int .i64 0) (.slice none 0 0) 25
  obtain ⟨W4, hW4, f0, f1, f2, f3, hg4⟩ := box4 W3 (.int .i64 m) (.slice sa n ca) (.int .i64 m) (.slice sb n cb) 25
  have g3 := gb_trans hg1 (gb_trans hg2 hg3)
  have g14 := gb_trans hg2 (gb_trans hg3 hg4)
  have ha4 := (ha.kept g3 (by simp)).kept hg4 (by simp)
  have hb4 := (hb.kept g3 (by simp)).kept hg4 (by simp)
  have hA3 := hA.kept (gb_trans hg2 hg3) (by simp)
  have hB3 := hB.kept hg3 (by simp)
  have a0 := hA3.cell0
  have a1 := hA3.cell1
  have b0 := hB3.cell0
  have b1 := hB3.cell1
  have hnl := MA.len
  have ml := MA.le
  have mw : Hid (n = (m + 63) / 64) := MA.words
  have hR : Rws W4 W3.heap.size 2 (fun j => if j = 0 then ⟨m, sa, n, ca, Pk.pack p⟩ else ⟨m, sb, n, cb, Pk.pack q⟩) := by
    intro j hj
    rcases (show j = 0 ∨ j = 1 by omega) with rfl | rfl
    · exact ⟨f0, f1, ha4, fun k _ => Pk.pack_lt _ _, by show n ≤ _; omega⟩
    · exact ⟨f2, f3, hb4, fun k _ => Pk.pack_lt _ _, by show n ≤ _; omega⟩
  have hz : alikeZ (fun j => if j = 0 then (⟨m, sa, n, ca, Pk.pack p⟩ : RD) else ⟨m, sb, n, cb, Pk.pack q⟩) 2 = 0 := by
    unfold alikeZ
    rw [allV_yes (fun j hj => by
      rcases (show j = 0 ∨ j = 1 by omega) with rfl | rfl
      · exact validB_may MA
      · exact validB_may MB), allN_yes (fun j hj => by
      rcases (show j = 0 ∨ j = 1 by omega) with rfl | rfl
      · rfl
      · rfl)]
    rfl
  have hak := alikeC W3.heap.size 2 2 _ (some ⟨W3.heap.size, 0, none⟩) (fun _ => rfl) (by omega) W4 hR
  rw [hz] at hak
  clear hz hR
  go_enter Try.func43, Try.ntmps43
  go_wp2_with (first | (go_at_call 47; refine hak.mono ?_; rintro e w5 ⟨rfl, g5⟩; have G5 := gb_trans g14 g5; have hA5 := hA.kept G5 (by simp); have i0 := hA5.cell0; have i1 := hA5.cell1; have ha5 := ha4.kept g5 (by simp)) | (go_at_call 39; refine (copiedC m n ca sa p ml mw.out w5 ha5).mono ?_; rintro e w6 ⟨b, rfl, hr, g6, hlt, hlt2⟩; obtain ⟨W7, hW7, y0, y1, sz7, g7, hU⟩ := box2 w6 (.int .i64 m) (.slice (some ⟨b, 0, none⟩) n n) 25; have g67 := gb_trans g6 g7; have hB7 := hB.kept (gb_trans (gb_trans hg3 hg4) (gb_trans g5 g67)) (by simp); have z0 := hB7.cell0; have z1 := hB7.cell1))
  have hr7 := hr.kept g7 (by simp)
  have hb7 := (hb4.kept g5 (by simp)).kept g67 (by simp)
  have hD7 := hD.kept (gb_trans hg4 (gb_trans g5 g67)) (by simp)
  have q1 : w.heap.size < W1.heap.size := by have := sz.out; omega
  have q2 : W1.heap.size < W2.heap.size := by have := sz2.out; omega
  have q3 : W2.heap.size < W3.heap.size := by have := sz3.out; omega
  have q4 := hg4.size
  have q5 := g5.size
  have q6 := hlt2.out
  have q7 := g6.size
  have hwb : w.heap.size ≤ b := by omega
  go_loopw [23] (fun i wr => ∃ k : Nat, k ≤ n ∧ i = .int .i64 k ∧ Row wr 55 b n (fun j => if j < 64 * k then (p j || q j) else p j) ∧ W7.grownBy wr (some b)) (fun i _ => n - (intOf i).toNat)
  case atStart => exact ⟨0, Nat.zero_le _, rfl, hr7.congr fun j hj => by simp, World.grownBy.refl _ _⟩
  case round =>
    obtain ⟨k, hk, rfl, hrk, hgk⟩ := hrel
    have hUk := hU.kept hgk (by simp; omega)
    have u0 := hUk.cell0
    have u1 := hUk.cell1
    by_cases hlt' : k < n
    · obtain ⟨a, rfl⟩ := hb.some (by omega)
      have hca := hgk.cell (hb7.at hlt') (by
        have := cell_lt (hb.at hlt')
        simp; omega)
      have hek : Pk.pack (fun j => if j < 64 * k then (p j || q j) else p j) k = Pk.pack p k := Pk.pack_congr fun j hj => by rw [if_neg (by omega)]
      have hkc := World.rowIs.cell hrk hlt'
      have hkf := World.rowIs.frozen hrk k
      simp only [hek] at hkc
      have hkl : (k : Int) < (n : Int) := by omega
      have hx := bits_or_u64_nat (Pk.pack p k) (Pk.pack q k) (Pk.pack_lt _ _) (Pk.pack_lt _ _)
      rw [Pk.pack_or] at hx
      go_wp2
      go_roundw
      case rel => exact ⟨k + 1, by omega, by go_num, hrk.set (Pk.pack_congr fun j hj => by rw [if_pos (by omega)]) (fun i hi hne => by
        by_cases h : i < 64 * k
        · rw [if_pos h, if_pos (by omega)]
        · rw [if_neg h, if_neg (by omega)]), gb_set hgk _ _⟩
      case measure => simp [intOf]; omega
    · have hkn : k = n := by omega
      have hlt'' : ¬ (k : Int) < (n : Int) := by omega
      have hrn : Row wr 55 b n (fun i => (p i || q i)) := hrk.congr fun j hj => by rw [if_pos (by omega)]
      have hDr := hD7.kept hgk (by simp; omega)
      have r2 := hDr.cell0
      have r3 := hDr.cell1
      have r4 := hDr.free0
      have r5 := hDr.free1
      clear hkn
      go_wp2
      obtain ⟨fs, hfs⟩ := underR
      refine ret_box2 (g := W2.heap.size) (t := 25) rfl hfs infoR rfl (hDr.set _ _) rfl ?_
      have hG7 : w.grownBy W7 none := gb_trans g3 (gb_trans hg4 (gb_trans g5 g67))
      have hGr : w.grownBy wr none := gb_past hG7 hgk hwb
      have hbD : b ≠ W2.heap.size := by omega
      have q8 : w.heap.size ≤ W2.heap.size := by omega
      exact ⟨b, rfl, World.rowIs.setOther (World.rowIs.setOther hrn hbD _) hbD _, gb_new (gb_new hGr q8 _) q8 _, hwb⟩


theorem xorC (m n ca cb : Nat) (sa sb : Option Addr) (p q : Nat → Bool) (MA : MayBe m n p) (MB : MayBe m n q) (w : World) (ha : Wd w sa n (Pk.pack p)) (hb : Wd w sb n (Pk.pack q)) :
    Calls Try.prog 44 #[.agg #[.int .i64 m, .slice sa n ca], .agg #[.int .i64 m, .slice sb n cb]] w fun e w' => ∃ b, e = .returned (.tuple #[.agg #[.int .i64 m, .slice (some ⟨b, 0, none⟩) n n], .int .i64 0]) ∧ Row w' 55 b n (fun i => Bool.xor (p i) (q i)) ∧ w.grownBy w' none ∧ w.heap.size ≤ b := by
  obtain ⟨W1, hW, c0, c1, sz, hg1, hA⟩ := box2 w (.int .i64 m) (.slice sa n ca) 25
  obtain ⟨W2, hW2, d0, d1, sz2, hg2, hB⟩ := box2 W1 (.int .i64 m) (.slice sb n cb) 25
  obtain ⟨W3, hW3, e0, e1, sz3, hg3, hD⟩ := box2 W2 (.int .i64 0) (.slice none 0 0) 25
  obtain ⟨W4, hW4, f0, f1, f2, f3, hg4⟩ := box4 W3 (.int .i64 m) (.slice sa n ca) (.int .i64 m) (.slice sb n cb) 25
  have g3 := gb_trans hg1 (gb_trans hg2 hg3)
  have g14 := gb_trans hg2 (gb_trans hg3 hg4)
  have ha4 := (ha.kept g3 (by simp)).kept hg4 (by simp)
  have hb4 := (hb.kept g3 (by simp)).kept hg4 (by simp)
  have hA3 := hA.kept (gb_trans hg2 hg3) (by simp)
  have hB3 := hB.kept hg3 (by simp)
  have a0 := hA3.cell0
  have a1 := hA3.cell1
  have b0 := hB3.cell0
  have b1 := hB3.cell1
  have hnl := MA.len
  have ml := MA.le
  have mw : Hid (n = (m + 63) / 64) := MA.words
  have hR : Rws W4 W3.heap.size 2 (fun j => if j = 0 then ⟨m, sa, n, ca, Pk.pack p⟩ else ⟨m, sb, n, cb, Pk.pack q⟩) := by
    intro j hj
    rcases (show j = 0 ∨ j = 1 by omega) with rfl | rfl
    · exact ⟨f0, f1, ha4, fun k _ => Pk.pack_lt _ _, by show n ≤ _; omega⟩
    · exact ⟨f2, f3, hb4, fun k _ => Pk.pack_lt _ _, by show n ≤ _; omega⟩
  have hz : alikeZ (fun j => if j = 0 then (⟨m, sa, n, ca, Pk.pack p⟩ : RD) else ⟨m, sb, n, cb, Pk.pack q⟩) 2 = 0 := by
    unfold alikeZ
    rw [allV_yes (fun j hj => by
      rcases (show j = 0 ∨ j = 1 by omega) with rfl | rfl
      · exact validB_may MA
      · exact validB_may MB), allN_yes (fun j hj => by
      rcases (show j = 0 ∨ j = 1 by omega) with rfl | rfl
      · rfl
      · rfl)]
    rfl
  have hak := alikeC W3.heap.size 2 2 _ (some ⟨W3.heap.size, 0, none⟩) (fun _ => rfl) (by omega) W4 hR
  rw [hz] at hak
  clear hz hR
  go_enter Try.func44, Try.ntmps44
  go_wp2_with (first | (go_at_call 47; refine hak.mono ?_; rintro e w5 ⟨rfl, g5⟩; have G5 := gb_trans g14 g5; have hA5 := hA.kept G5 (by simp); have i0 := hA5.cell0; have i1 := hA5.cell1; have ha5 := ha4.kept g5 (by simp)) | (go_at_call 39; refine (copiedC m n ca sa p ml mw.out w5 ha5).mono ?_; rintro e w6 ⟨b, rfl, hr, g6, hlt, hlt2⟩; obtain ⟨W7, hW7, y0, y1, sz7, g7, hU⟩ := box2 w6 (.int .i64 m) (.slice (some ⟨b, 0, none⟩) n n) 25; have g67 := gb_trans g6 g7; have hB7 := hB.kept (gb_trans (gb_trans hg3 hg4) (gb_trans g5 g67)) (by simp); have z0 := hB7.cell0; have z1 := hB7.cell1))
  have hr7 := hr.kept g7 (by simp)
  have hb7 := (hb4.kept g5 (by simp)).kept g67 (by simp)
  have hD7 := hD.kept (gb_trans hg4 (gb_trans g5 g67)) (by simp)
  have q1 : w.heap.size < W1.heap.size := by have := sz.out; omega
  have q2 : W1.heap.size < W2.heap.size := by have := sz2.out; omega
  have q3 : W2.heap.size < W3.heap.size := by have := sz3.out; omega
  have q4 := hg4.size
  have q5 := g5.size
  have q6 := hlt2.out
  have q7 := g6.size
  have hwb : w.heap.size ≤ b := by omega
  go_loopw [23] (fun i wr => ∃ k : Nat, k ≤ n ∧ i = .int .i64 k ∧ Row wr 55 b n (fun j => if j < 64 * k then Bool.xor (p j) (q j) else p j) ∧ W7.grownBy wr (some b)) (fun i _ => n - (intOf i).toNat)
  case atStart => exact ⟨0, Nat.zero_le _, rfl, hr7.congr fun j hj => by simp, World.grownBy.refl _ _⟩
  case round =>
    obtain ⟨k, hk, rfl, hrk, hgk⟩ := hrel
    have hUk := hU.kept hgk (by simp; omega)
    have u0 := hUk.cell0
    have u1 := hUk.cell1
    by_cases hlt' : k < n
    · obtain ⟨a, rfl⟩ := hb.some (by omega)
      have hca := hgk.cell (hb7.at hlt') (by
        have := cell_lt (hb.at hlt')
        simp; omega)
      have hek : Pk.pack (fun j => if j < 64 * k then Bool.xor (p j) (q j) else p j) k = Pk.pack p k := Pk.pack_congr fun j hj => by rw [if_neg (by omega)]
      have hkc := World.rowIs.cell hrk hlt'
      have hkf := World.rowIs.frozen hrk k
      simp only [hek] at hkc
      have hkl : (k : Int) < (n : Int) := by omega
      have hx := bits_xor_u64_nat (Pk.pack p k) (Pk.pack q k) (Pk.pack_lt _ _) (Pk.pack_lt _ _)
      rw [Pk.pack_xor] at hx
      go_wp2
      go_roundw
      case rel => exact ⟨k + 1, by omega, by go_num, hrk.set (Pk.pack_congr fun j hj => by rw [if_pos (by omega)]) (fun i hi hne => by
        by_cases h : i < 64 * k
        · rw [if_pos h, if_pos (by omega)]
        · rw [if_neg h, if_neg (by omega)]), gb_set hgk _ _⟩
      case measure => simp [intOf]; omega
    · have hkn : k = n := by omega
      have hlt'' : ¬ (k : Int) < (n : Int) := by omega
      have hrn : Row wr 55 b n (fun i => Bool.xor (p i) (q i)) := hrk.congr fun j hj => by rw [if_pos (by omega)]
      have hDr := hD7.kept hgk (by simp; omega)
      have r2 := hDr.cell0
      have r3 := hDr.cell1
      have r4 := hDr.free0
      have r5 := hDr.free1
      clear hkn
      go_wp2
      obtain ⟨fs, hfs⟩ := underR
      refine ret_box2 (g := W2.heap.size) (t := 25) rfl hfs infoR rfl (hDr.set _ _) rfl ?_
      have hG7 : w.grownBy W7 none := gb_trans g3 (gb_trans hg4 (gb_trans g5 g67))
      have hGr : w.grownBy wr none := gb_past hG7 hgk hwb
      have hbD : b ≠ W2.heap.size := by omega
      have q8 : w.heap.size ≤ W2.heap.size := by omega
      exact ⟨b, rfl, World.rowIs.setOther (World.rowIs.setOther hrn hbD _) hbD _, gb_new (gb_new hGr q8 _) q8 _, hwb⟩

end Go.Proofs.Ytcdefpfnjjahgaa
