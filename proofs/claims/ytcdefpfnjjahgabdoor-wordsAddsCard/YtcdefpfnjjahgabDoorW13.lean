/- What Not, And, Or and Xor of package words answer, of rows that may be. -/
import Derived.Test.YtcdefpfnjjahgabDoorW12
import Derived.Test.YtcdefpfnjjahgabDoorW6
namespace Go.Proofs.YtcdefpfnjjahgabDoor
open Go.RowKit
set_option linter.unusedVariables false

theorem box4 (w : World) (x0 x1 x2 x3 : Value) (t : TypeId) : ∃ W1, w.alloc (.cells #[x0, x1, x2, x3] t) = W1 ∧ W1.cell? ⟨w.heap.size, 0, none⟩ = some x0 ∧ W1.cell? ⟨w.heap.size, 1, none⟩ = some x1 ∧ W1.cell? ⟨w.heap.size, 2, none⟩ = some x2 ∧ W1.cell? ⟨w.heap.size, 3, none⟩ = some x3 ∧ w.grownBy W1 none :=
  ⟨_, rfl, by simp [World.cell?_alloc_at], by simp [World.cell?_alloc_at], by simp [World.cell?_alloc_at], by simp [World.cell?_alloc_at], World.grownBy_alloc _ _ _⟩


theorem andC (m n ca cb : Nat) (sa sb : Option Addr) (p q : Nat → Bool) (MA : MayBe m n p) (MB : MayBe m n q) (w : World) (ha : Wd w sa n (Pk.pack p)) (hb : Wd w sb n (Pk.pack q)) :
    Calls Tryd.prog 11 #[.agg #[.int .i64 m, .slice sa n ca], .agg #[.int .i64 m, .slice sb n cb]] w fun e w' => ∃ b, e = .returned (.tuple #[.agg #[.int .i64 m, .slice (some ⟨b, 0, none⟩) n n], .int .i64 0]) ∧ Row w' 45 b n (fun i => (p i && q i)) ∧ w.grownBy w' none ∧ w.heap.size ≤ b := by
  obtain ⟨W1, hW, c0, c1, sz, hg1, hA⟩ := box2 w (.int .i64 m) (.slice sa n ca) 26
  obtain ⟨W2, hW2, d0, d1, sz2, hg2, hB⟩ := box2 W1 (.int .i64 m) (.slice sb n cb) 26
  obtain ⟨W3, hW3, e0, e1, sz3, hg3, hD⟩ := box2 W2 (.int .i64 0) (.slice none 0 0) 26
  obtain ⟨W4, hW4, f0, f1, f2, f3, hg4⟩ := box4 W3 (.int .i64 m) (.slice sa n ca) (.int .i64 m) (.slice sb n cb) 26
  have g3 := gb_trans hg1 (gb_trans hg2 hg3)
  have g14 := gb_trans hg2 (gb_trans hg3 hg4)
  have ha4 := (ha.kept g3 (by simp)).kept hg4 (by simp)
  have hb4 := (hb.kept g3 (by simp)).kept hg4 (by simp)
  have hA3 := hA.kept (gb_trans hg2 hg3) (by simp)
  have hB3 := hB.kept hg3 (by simp)
  have a0 := hA3.cell0
  have a1 := hA3.cell1
  have b0 := hB3.cell0
  have b1 := hB3.cell1
  have hnl := MA.len
  have ml := MA.le
  have mw : Hid (n = (m + 63) / 64) := MA.words
  have hR : Rws W4 W3.heap.size 2 (fun j => if j = 0 then ⟨m, sa, n, ca, Pk.pack p⟩ else ⟨m, sb, n, cb, Pk.pack q⟩) := by
    intro j hj
    rcases (show j = 0 ∨ j = 1 by omega) with rfl | rfl
    · exact ⟨f0, f1, ha4, fun k _ => Pk.pack_lt _ _, by show n ≤ _; omega⟩
    · exact ⟨f2, f3, hb4, fun k _ => Pk.pack_lt _ _, by show n ≤ _; omega⟩
  have hz : alikeZ (fun j => if j = 0 then (⟨m, sa, n, ca, Pk.pack p⟩ : RD) else ⟨m, sb, n, cb, Pk.pack q⟩) 2 = 0 := by
    unfold alikeZ
    rw [allV_yes (fun j hj => by
      rcases (show j = 0 ∨ j = 1 by omega) with rfl | rfl
      · exact validB_may MA
      · exact validB_may MB), allN_yes (fun j hj => by
      rcases (show j = 0 ∨ j = 1 by omega) with rfl | rfl
      · rfl
      · rfl)]
    rfl
  have hak := alikeC W3.heap.size 2 2 _ (some ⟨W3.heap.size, 0, none⟩) (fun _ => rfl) (by omega) W4 hR
  rw [hz] at hak
  clear hz hR
  go_enter Tryd.func11, Tryd.ntmps11
  go_wp2_with (first | (go_at_call 25; refine hak.mono ?_; rintro e w5 ⟨rfl, g5⟩; have G5 := gb_trans g14 g5; have hA5 := hA.kept G5 (by simp); have i0 := hA5.cell0; have i1 := hA5.cell1; have ha5 := ha4.kept g5 (by simp)) | (go_at_call 19; refine (copiedC m n ca sa p ml mw.out w5 ha5).mono ?_; rintro e w6 ⟨b, rfl, hr, g6, hlt, hlt2⟩; obtain ⟨W7, hW7, y0, y1, sz7, g7, hU⟩ := box2 w6 (.int .i64 m) (.slice (some ⟨b, 0, none⟩) n n) 26; have g67 := gb_trans g6 g7; have hB7 := hB.kept (gb_trans (gb_trans hg3 hg4) (gb_trans g5 g67)) (by simp); have z0 := hB7.cell0; have z1 := hB7.cell1))
  have hr7 := hr.kept g7 (by simp)
  have hb7 := (hb4.kept g5 (by simp)).kept g67 (by simp)
  have hD7 := hD.kept (gb_trans hg4 (gb_trans g5 g67)) (by simp)
  have q1 : w.heap.size < W1.heap.size := by have := sz.out; omega
  have q2 : W1.heap.size < W2.heap.size := by have := sz2.out; omega
  have q3 : W2.heap.size < W3.heap.size := by have := sz3.out; omega
  have q4 := hg4.size
  have q5 := g5.size
  have q6 := hlt2.out
  have q7 := g6.size
  have hwb : w.heap.size ≤ b := by omega
  go_loopw [23] (fun i wr => ∃ k : Nat, k ≤ n ∧ i = .int .i64 k ∧ Row wr 45 b n (fun j => if j < 64 * k then (p j && q j) else p j) ∧ W7.grownBy wr (some b)) (fun i _ => n - (intOf i).toNat)
  case atStart => exact ⟨0, Nat.zero_le _, rfl, hr7.congr fun j hj => by simp, World.grownBy.refl _ _⟩
  case round =>
    obtain ⟨k, hk, rfl, hrk, hgk⟩ := hrel
    have hUk := hU.kept hgk (by simp; omega)
    have u0 := hUk.cell0
    have u1 := hUk.cell1
    by_cases hlt' : k < n
    · obtain ⟨a, rfl⟩ := hb.some (by omega)
      have hca := hgk.cell (hb7.at hlt') (by
        have := cell_lt (hb.at hlt')
        simp; omega)
      have hek : Pk.pack (fun j => if j < 64 * k then (p j && q j) else p j) k = Pk.pack p k := Pk.pack_congr fun j hj => by rw [if_neg (by omega)]
      have hkc := World.rowIs.cell hrk hlt'
      have hkf := World.rowIs.frozen hrk k
      simp only [hek] at hkc
      have hkl : (k : Int) < (n : Int) := by omega
      have hx := bits_and_u64_nat (Pk.pack p k) (Pk.pack q k) (Pk.pack_lt _ _) (Pk.pack_lt _ _)
      rw [Pk.pack_and] at hx
      go_wp2
      go_roundw
      case rel => exact ⟨k + 1, by omega, by go_num, hrk.set (Pk.pack_congr fun j hj => by rw [if_pos (by omega)]) (fun i hi hne => by
        by_cases h : i < 64 * k
        · rw [if_pos h, if_pos (by omega)]
        · rw [if_neg h, if_neg (by omega)]), gb_set hgk _ _⟩
      case measure => simp [intOf]; omega
    · have hkn : k = n := by omega
      have hlt'' : ¬ (k : Int) < (n : Int) := by omega
      have hrn : Row wr 45 b n (fun i => (p i && q i)) := hrk.congr fun j hj => by rw [if_pos (by omega)]
      have hDr := hD7.kept hgk (by simp; omega)
      have r2 := hDr.cell0
      have r3 := hDr.cell1
      have r4 := hDr.free0
      have r5 := hDr.free1
      clear hkn
      go_wp2
      obtain ⟨fs, hfs⟩ := underR
      refine ret_box2 (g := W2.heap.size) (t := 26) rfl hfs infoR rfl (hDr.set _ _) rfl ?_
      have hG7 : w.grownBy W7 none := gb_trans g3 (gb_trans hg4 (gb_trans g5 g67))
      have hGr : w.grownBy wr none := gb_past hG7 hgk hwb
      have hbD : b ≠ W2.heap.size := by omega
      have q8 : w.heap.size ≤ W2.heap.size := by omega
      exact ⟨b, rfl, World.rowIs.setOther (World.rowIs.setOther hrn hbD _) hbD _, gb_new (gb_new hGr q8 _) q8 _, hwb⟩


theorem xorC (m n ca cb : Nat) (sa sb : Option Addr) (p q : Nat → Bool) (MA : MayBe m n p) (MB : MayBe m n q) (w : World) (ha : Wd w sa n (Pk.pack p)) (hb : Wd w sb n (Pk.pack q)) :
    Calls Tryd.prog 12 #[.agg #[.int .i64 m, .slice sa n ca], .agg #[.int .i64 m, .slice sb n cb]] w fun e w' => ∃ b, e = .returned (.tuple #[.agg #[.int .i64 m, .slice (some ⟨b, 0, none⟩) n n], .int .i64 0]) ∧ Row w' 45 b n (fun i => Bool.xor (p i) (q i)) ∧ w.grownBy w' none ∧ w.heap.size ≤ b := by
  obtain ⟨W1, hW, c0, c1, sz, hg1, hA⟩ := box2 w (.int .i64 m) (.slice sa n ca) 26
  obtain ⟨W2, hW2, d0, d1, sz2, hg2, hB⟩ := box2 W1 (.int .i64 m) (.slice sb n cb) 26
  obtain ⟨W3, hW3, e0, e1, sz3, hg3, hD⟩ := box2 W2 (.int .i64 0) (.slice none 0 0) 26
  obtain ⟨W4, hW4, f0, f1, f2, f3, hg4⟩ := box4 W3 (.int .i64 m) (.slice sa n ca) (.int .i64 m) (.slice sb n cb) 26
  have g3 := gb_trans hg1 (gb_trans hg2 hg3)
  have g14 := gb_trans hg2 (gb_trans hg3 hg4)
  have ha4 := (ha.kept g3 (by simp)).kept hg4 (by simp)
  have hb4 := (hb.kept g3 (by simp)).kept hg4 (by simp)
  have hA3 := hA.kept (gb_trans hg2 hg3) (by simp)
  have hB3 := hB.kept hg3 (by simp)
  have a0 := hA3.cell0
  have a1 := hA3.cell1
  have b0 := hB3.cell0
  have b1 := hB3.cell1
  have hnl := MA.len
  have ml := MA.le
  have mw : Hid (n = (m + 63) / 64) := MA.words
  have hR : Rws W4 W3.heap.size 2 (fun j => if j = 0 then ⟨m, sa, n, ca, Pk.pack p⟩ else ⟨m, sb, n, cb, Pk.pack q⟩) := by
    intro j hj
    rcases (show j = 0 ∨ j = 1 by omega) with rfl | rfl
    · exact ⟨f0, f1, ha4, fun k _ => Pk.pack_lt _ _, by show n ≤ _; omega⟩
    · exact ⟨f2, f3, hb4, fun k _ => Pk.pack_lt _ _, by show n ≤ _; omega⟩
  have hz : alikeZ (fun j => if j = 0 then (⟨m, sa, n, ca, Pk.pack p⟩ : RD) else ⟨m, sb, n, cb, Pk.pack q⟩) 2 = 0 := by
    unfold alikeZ
    rw [allV_yes (fun j hj => by
      rcases (show j = 0 ∨ j = 1 by omega) with rfl | rfl
      · exact validB_may MA
      · exact validB_may MB), allN_yes (fun j hj => by
      rcases (show j = 0 ∨ j = 1 by omega) with rfl | rfl
      · rfl
      · rfl)]
    rfl
  have hak := alikeC W3.heap.size 2 2 _ (some ⟨W3.heap.size, 0, none⟩) (fun _ => rfl) (by omega) W4 hR
  rw [hz] at hak
  clear hz hR
  go_enter Tryd.func12, Tryd.ntmps12
  go_wp2_with (first | (go_at_call 25; refine hak.mono ?_; rintro e w5 ⟨rfl, g5⟩; have G5 := gb_trans g14 g5; have hA5 := hA.kept G5 (by simp); have i0 := hA5.cell0; have i1 := hA5.cell1; have ha5 := ha4.kept g5 (by simp)) | (go_at_call 19; refine (copiedC m n ca sa p ml mw.out w5 ha5).mono ?_; rintro e w6 ⟨b, rfl, hr, g6, hlt, hlt2⟩; obtain ⟨W7, hW7, y0, y1, sz7, g7, hU⟩ := box2 w6 (.int .i64 m) (.slice (some ⟨b, 0, none⟩) n n) 26; have g67 := gb_trans g6 g7; have hB7 := hB.kept (gb_trans (gb_trans hg3 hg4) (gb_trans g5 g67)) (by simp); have z0 := hB7.cell0; have z1 := hB7.cell1))
  have hr7 := hr.kept g7 (by simp)
  have hb7 := (hb4.kept g5 (by simp)).kept g67 (by simp)
  have hD7 := hD.kept (gb_trans hg4 (gb_trans g5 g67)) (by simp)
  have q1 : w.heap.size < W1.heap.size := by have := sz.out; omega
  have q2 : W1.heap.size < W2.heap.size := by have := sz2.out; omega
  have q3 : W2.heap.size < W3.heap.size := by have := sz3.out; omega
  have q4 := hg4.size
  have q5 := g5.size
  have q6 := hlt2.out
  have q7 := g6.size
  have hwb : w.heap.size ≤ b := by omega
  go_loopw [23] (fun i wr => ∃ k : Nat, k ≤ n ∧ i = .int .i64 k ∧ Row wr 45 b n (fun j => if j < 64 * k then Bool.xor (p j) (q j) else p j) ∧ W7.grownBy wr (some b)) (fun i _ => n - (intOf i).toNat)
  case atStart => exact ⟨0, Nat.zero_le _, rfl, hr7.congr fun j hj => by simp, World.grownBy.refl _ _⟩
  case round =>
    obtain ⟨k, hk, rfl, hrk, hgk⟩ := hrel
    have hUk := hU.kept hgk (by simp; omega)
    have u0 := hUk.cell0
    have u1 := hUk.cell1
    by_cases hlt' : k < n
    · obtain ⟨a, rfl⟩ := hb.some (by omega)
      have hca := hgk.cell (hb7.at hlt') (by
        have := cell_lt (hb.at hlt')
        simp; omega)
      have hek : Pk.pack (fun j => if j < 64 * k then Bool.xor (p j) (q j) else p j) k = Pk.pack p k := Pk.pack_congr fun j hj => by rw [if_neg (by omega)]
      have hkc := World.rowIs.cell hrk hlt'
      have hkf := World.rowIs.frozen hrk k
      simp only [hek] at hkc
      have hkl : (k : Int) < (n : Int) := by omega
      have hx := bits_xor_u64_nat (Pk.pack p k) (Pk.pack q k) (Pk.pack_lt _ _) (Pk.pack_lt _ _)
      rw [Pk.pack_xor] at hx
      go_wp2
      go_roundw
      case rel => exact ⟨k + 1, by omega, by go_num, hrk.set (Pk.pack_congr fun j hj => by rw [if_pos (by omega)]) (fun i hi hne => by
        by_cases h : i < 64 * k
        · rw [if_pos h, if_pos (by omega)]
        · rw [if_neg h, if_neg (by omega)]), gb_set hgk _ _⟩
      case measure => simp [intOf]; omega
    · have hkn : k = n := by omega
      have hlt'' : ¬ (k : Int) < (n : Int) := by omega
      have hrn : Row wr 45 b n (fun i => Bool.xor (p i) (q i)) := hrk.congr fun j hj => by rw [if_pos (by omega)]
      have hDr := hD7.kept hgk (by simp; omega)
      have r2 := hDr.cell0
      have r3 := hDr.cell1
      have r4 := hDr.free0
      have r5 := hDr.free1
      clear hkn
      go_wp2
      obtain ⟨fs, hfs⟩ := underR
      refine ret_box2 (g := W2.heap.size) (t := 26) rfl hfs infoR rfl (hDr.set _ _) rfl ?_
      have hG7 : w.grownBy W7 none := gb_trans g3 (gb_trans hg4 (gb_trans g5 g67))
      have hGr : w.grownBy wr none := gb_past hG7 hgk hwb
      have hbD : b ≠ W2.heap.size := by omega
      have q8 : w.heap.size ≤ W2.heap.size := by omega
      exact ⟨b, rfl, World.rowIs.setOther (World.rowIs.setOther hrn hbD _) hbD _, gb_new (gb_new hGr q8 _) q8 _, hwb⟩

end Go.Proofs.YtcdefpfnjjahgabDoor
