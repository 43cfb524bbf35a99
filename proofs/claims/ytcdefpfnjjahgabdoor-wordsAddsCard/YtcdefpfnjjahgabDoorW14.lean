/- The statements' own calls pair and equal. -/
import Derived.Test.YtcdefpfnjjahgabDoorW6
import Derived.Deep.RegionHeld2
namespace Go.Proofs.YtcdefpfnjjahgabDoor
open Go.RowKit
set_option linter.unusedVariables false

theorem equalYes (m n ca cb : Nat) (sa sb : Option Addr) (p q : Nat → Bool) (MA : MayBe m n p) (MB : MayBe m n q) (he : ∀ i, i < 64 * n → p i = q i) (w : World) (ha : Wd w sa n (Pk.pack p)) (hb : Wd w sb n (Pk.pack q)) :
    Calls Tryd.prog 10 #[.agg #[.int .i64 m, .slice sa n ca], .agg #[.int .i64 m, .slice sb n cb]] w fun e w' => e = .returned (.bool true) ∧ w.grownBy w' none := by
  have hb : Wd w sb n (Pk.pack p) := hb.congr fun k hk => Pk.pack_congr fun j hj => (he _ (by omega)).symm
  have MB : MayBe m n p := MA
  clear he
  obtain ⟨W1, hW, c0, c1, sz, hg1, hA⟩ := box2 w (.int .i64 m) (.slice sa n ca) 26
  obtain ⟨W2, hW2, d0, d1, sz2, hg2, hB⟩ := box2 W1 (.int .i64 m) (.slice sb n cb) 26
  have g2 := gb_trans hg1 hg2
  have hA2 := hA.kept hg2 (by simp)
  have a0 := hA2.cell0
  have a1 := hA2.cell1
  have ha2 := ha.kept g2 (by simp)
  have hb2 := hb.kept g2 (by simp)
  have hnl := MA.len
  go_enter Tryd.func10, Tryd.ntmps10
  go_wp2_with (first | (go_at_call_of 18 (Value.agg #[Value.int IntKind.i64 (m : Int), Value.slice sa n ca]); refine (validP m n ca sa p MA W2 ha2).mono ?_; rintro e w3 ⟨rfl, g3⟩; have hA3 := hA2.kept g3 (by simp); have x0 := hA3.cell0; have x1 := hA3.cell1; have hB3 := hB.kept g3 (by simp); have x2 := hB3.cell0; have x3 := hB3.cell1; have hb3 := hb2.kept g3 (by simp)) | (go_at_call 18; refine (validP m n cb sb p MB w3 hb3).mono ?_; rintro e w4 ⟨rfl, g4⟩; have hA4 := hA3.kept g4 (by simp); have y0 := hA4.cell0; have y1 := hA4.cell1; have hB4 := hB3.kept g4 (by simp); have y2 := hB4.cell0; have y3 := hB4.cell1))
  have ha4 := (ha2.kept g3 (by simp)).kept g4 (by simp)
  have hb4 := hb3.kept g4 (by simp)
  have G4 := gb_trans g2 (gb_trans g3 g4)
  go_loopw [5] (fun i wr => ∃ k : Nat, k ≤ n ∧ i = .int .i64 k ∧ w4.grownBy wr none) (fun i _ => n - (intOf i).toNat)
  case atStart => exact ⟨0, Nat.zero_le _, rfl, World.grownBy.refl _ _⟩
  case round =>
    obtain ⟨k, hk, rfl, hgk⟩ := hrel
    have hAk := hA4.kept hgk (by simp)
    have hBk := hB4.kept hgk (by simp)
    have u0 := hAk.cell0
    have u1 := hAk.cell1
    have u2 := hBk.cell0
    have u3 := hBk.cell1
    by_cases hlt : k < n
    · obtain ⟨aa, rfl⟩ := ha.some (by omega)
      obtain ⟨ab, rfl⟩ := hb.some (by omega)
      have v0 := hgk.cell (ha4.at hlt) (by simp)
      have v1 := hgk.cell (hb4.at hlt) (by simp)
      have hlt' : (k : Int) < (n : Int) := by omega
      have hnn : ((Pk.pack p k : Int) != (Pk.pack p k : Int)) = false := by simp
      go_wp2
      go_quiet (fail)
      go_wp2
      go_roundw
      case rel => exact ⟨k + 1, by omega, by go_num, gb_drewN hgk _⟩
      case measure => simp [intOf]; omega
    · have hlt' : ¬ (k : Int) < (n : Int) := by omega
      go_wp2
      go_ret
      exact ⟨rfl, gb_trans G4 hgk⟩

theorem ret_box22 {P : Program} {fn : Func} {R : Ending → World → Prop} {a : Act} {w : World} {p p' u : Tmp} {ty : TypeId} (h : fn.results = #[.cell p ty, .cell p' ty, .tmp u]) {g g' : Nat} {t t' : TypeId} {x y x' y' : Value} {fs : Array Field}
    (hu : P.underlying ty = some (.struct fs)) (hi : (P.info? ty).map (·.size) = some 2) (hp : a.tmps.getD p undef = .pointer (some ⟨g, 0, none⟩)) (hp' : a.tmps.getD p' undef = .pointer (some ⟨g', 0, none⟩)) (hg : Bx w g t x y) (hg' : Bx w g' t' x' y') (hdf : a.defers = []) (hR : R (.returned (.tuple #[.agg #[x, y], .agg #[x', y'], a.tmps.getD u undef])) w) :
    bodyPost P fn R .ret a w := by
  refine bodyPost_ret ?_ hdf hR
  have hp1 : a.tmps[p]?.getD undef = .pointer (some ⟨g, 0, none⟩) := by simpa using hp
  have hp2 : a.tmps[p']?.getD undef = .pointer (some ⟨g', 0, none⟩) := by simpa using hp'
  simp [results, h, hp1, hp2, asAddr, run_loadVar_row w g t ty #[x, y] (0, 0) (.struct fs) hg hu rfl hi, run_loadVar_row w g' t' ty #[x', y'] (0, 0) (.struct fs) hg' hu rfl hi]

theorem pairC (la lb ca cb m : Nat) (sa sb : Option Addr) (fa fb : Nat → Bool) (hm : m = min la (min lb 65538)) (hla : la ≤ 9223372036854775807) (hlb : lb ≤ 9223372036854775807) (hca : la ≤ ca) (hcb : lb ≤ cb) (w : World) (ha : Bd w sa la fa) (hb : Bd w sb lb fb) :
    Calls Tryd.prog 6 #[.slice sa la ca, .slice sb lb cb] w fun e w' => ∃ b b', e = .returned (.tuple #[.agg #[.int .i64 m, .slice (some ⟨b, 0, none⟩) ((m + 63) / 64) ((m + 63) / 64)], .agg #[.int .i64 m, .slice (some ⟨b', 0, none⟩) ((m + 63) / 64) ((m + 63) / 64)], .bool true]) ∧
      Row w' 45 b ((m + 63) / 64) (fun i => decide (i < m) && fa i) ∧ Row w' 45 b' ((m + 63) / 64) (fun i => decide (i < m) && fb i) ∧ w.grownBy w' none ∧ w.heap.size ≤ b ∧ w.heap.size ≤ b' := by
  have m1 : m ≤ la := by omega
  have m2 : m ≤ lb := by omega
  have m3 : m ≤ 65538 := by omega
  obtain ⟨mA, hmA⟩ : ∃ mA : Nat, (if lb < la then (lb : Int) else (la : Int)) = (mA : Int) := by
    by_cases h : lb < la
    · exact ⟨lb, by rw [if_pos h]⟩
    · exact ⟨la, by rw [if_neg h]⟩
  have hmB : (if (65538 : Int) < (mA : Int) then (65538 : Int) else (mA : Int)) = (m : Int) := by
    have h1 : mA = min la lb := by
      by_cases h : lb < la
      · rw [if_pos h] at hmA; omega
      · rw [if_neg h] at hmA; omega
    by_cases h : (65538 : Int) < (mA : Int)
    · rw [if_pos h]; omega
    · rw [if_neg h]; omega
  obtain ⟨W1, hW, c0, c1, sz, hg1, hA⟩ := box2 w (.int .i64 0) (.slice none 0 0) 26
  obtain ⟨W2, hW2, d0, d1, sz2, hg2, hB⟩ := box2 W1 (.int .i64 0) (.slice none 0 0) 26
  have hA2 := hA.kept hg2 (by simp)
  have g2 := gb_trans hg1 hg2
  have ha2 : Bd W2 sa m fa := fun k hk => (ha.kept g2 (by simp)) k (by omega)
  have hb2 : Bd W2 sb m fb := fun k hk => (hb.kept g2 (by simp)) k (by omega)
  have O1 := ofC m ca sa fa m3 W2 ha2
  have O2 := fun W h => ofC m cb sb fb m3 W h
  generalize (m + 63) / 64 = c at O1 O2 ⊢
  clear hm
  go_enter Tryd.func6, Tryd.ntmps6
  go_wp2_with (first | (go_at_call_of 16 (Value.slice sa m ca); refine O1.mono ?_; rintro e w3 ⟨b3, rfl, hr3, g3, l3⟩; obtain ⟨W4, hW4, x0, x1, sz4, g4, hC⟩ := box2 w3 (.int .i64 m) (.slice (some ⟨b3, 0, none⟩) c c) 26; have g34 := gb_trans g3 g4; have hb4 := hb2.kept g34 (by simp)) | (go_at_call_of 16 (Value.slice sb m cb); refine (O2 W4 hb4).mono ?_; rintro e w5 ⟨b5, rfl, hr5, g5, l5⟩; obtain ⟨W6, hW6, y0, y1, sz6, g6, hE⟩ := box2 w5 (.int .i64 m) (.slice (some ⟨b5, 0, none⟩) c c) 26))
  have g56 := gb_trans g5 g6
  have hC6 := hC.kept g56 (by simp)
  have z0 := hC6.cell0
  have z1 := hC6.cell1
  have g36 := gb_trans g34 g56
  have hA6 := hA2.kept g36 (by simp)
  have hB6 := hB.kept g36 (by simp)
  have s0 := hA6.cell0
  have s1 := hA6.cell1
  have s2 := hA6.free0
  have s3 := hA6.free1
  have t0 := hB6.cell0
  have t1 := hB6.cell1
  have t2 := hB6.free0
  have t3 := hB6.free1
  have q1 : w.heap.size < W1.heap.size := by have := sz.out; omega
  have q2 : W1.heap.size < W2.heap.size := by have := sz2.out; omega
  have n1 : W1.heap.size ≠ w.heap.size := by omega
  have hmm : ((m : Int) == (m : Int)) = true := by simp
  have l4 : W2.heap.size ≤ w3.heap.size := g3.size
  have l6 : w3.heap.size < W4.heap.size := by have := sz4.out; omega
  have l7 : W4.heap.size ≤ w5.heap.size := g5.size
  have n2 : w3.heap.size ≠ w.heap.size := by omega
  have n3 : w5.heap.size ≠ w.heap.size := by omega
  have n4 : w3.heap.size ≠ W1.heap.size := by omega
  have n5 : w5.heap.size ≠ W1.heap.size := by omega
  obtain ⟨Y1, hY1⟩ : ∃ Y1, (W6.setCell ⟨w.heap.size, 0, none⟩ (.int .i64 m)).setCell ⟨w.heap.size, 1, none⟩ (.slice (some ⟨b3, 0, none⟩) c c) = Y1 := ⟨_, rfl⟩
  have i0 : Y1.cell? ⟨w3.heap.size, 0, none⟩ = some (.int .i64 m) := by rw [← hY1]; exact far2 z0 n2
  have i1 : Y1.cell? ⟨w3.heap.size, 1, none⟩ = some (.slice (some ⟨b3, 0, none⟩) c c) := by rw [← hY1]; exact far2 z1 n2
  have i2 : Y1.cell? ⟨w5.heap.size, 0, none⟩ = some (.int .i64 m) := by rw [← hY1]; exact far2 y0 n3
  have i3 : Y1.cell? ⟨w5.heap.size, 1, none⟩ = some (.slice (some ⟨b5, 0, none⟩) c c) := by rw [← hY1]; exact far2 y1 n3
  have hAY : Bx Y1 w.heap.size 26 (.int .i64 m) (.slice (some ⟨b3, 0, none⟩) c c) := by rw [← hY1]; exact hA6.set _ _
  have hBY : Bx Y1 W1.heap.size 26 (.int .i64 0) (.slice none 0 0) := by rw [← hY1]; exact ((Below.heap_setCell _ _ _ _ n1).trans (Below.heap_setCell _ _ _ _ n1)).trans hB6
  have gY : w.grownBy Y1 none := by rw [← hY1]; exact gb_new (gb_new (gb_trans g2 g36) (Nat.le_refl _) _) (Nat.le_refl _) _
  have j0 := hBY.cell0
  have j1 := hBY.cell1
  have j2 := hBY.free0
  have j3 := hBY.free1
  obtain ⟨Y2, hY2⟩ : ∃ Y2, (Y1.setCell ⟨W1.heap.size, 0, none⟩ (.int .i64 m)).setCell ⟨W1.heap.size, 1, none⟩ (.slice (some ⟨b5, 0, none⟩) c c) = Y2 := ⟨_, rfl⟩
  have k0 : Y2.cell? ⟨w3.heap.size, 0, none⟩ = some (.int .i64 m) := by rw [← hY2]; exact far2 i0 n4
  have k1 : Y2.cell? ⟨w3.heap.size, 1, none⟩ = some (.slice (some ⟨b3, 0, none⟩) c c) := by rw [← hY2]; exact far2 i1 n4
  have k2 : Y2.cell? ⟨w5.heap.size, 0, none⟩ = some (.int .i64 m) := by rw [← hY2]; exact far2 i2 n5
  have k3 : Y2.cell? ⟨w5.heap.size, 1, none⟩ = some (.slice (some ⟨b5, 0, none⟩) c c) := by rw [← hY2]; exact far2 i3 n5
  have n6 : w.heap.size ≠ W1.heap.size := Ne.symm n1
  have hAZ : Bx Y2 w.heap.size 26 (.int .i64 m) (.slice (some ⟨b3, 0, none⟩) c c) := by rw [← hY2]; exact ((Below.heap_setCell _ _ _ _ n6).trans (Below.heap_setCell _ _ _ _ n6)).trans hAY
  have hBZ : Bx Y2 W1.heap.size 26 (.int .i64 m) (.slice (some ⟨b5, 0, none⟩) c c) := by rw [← hY2]; exact hBY.set _ _
  have gZ : w.grownBy Y2 none := by rw [← hY2]; exact gb_new (gb_new gY (Nat.le_of_lt q1) _) (Nat.le_of_lt q1) _
  have b1 : w.heap.size ≤ b3 := by omega
  have b2 : w.heap.size ≤ b5 := by have := gb_trans g2 g34; have := this.size; omega
  have u1 : b3 ≠ w.heap.size := by omega
  have u2 : b3 ≠ W1.heap.size := by omega
  have u3 : b5 ≠ w.heap.size := by omega
  have u4 : b5 ≠ W1.heap.size := by omega
  have R3 : Row Y2 45 b3 c (fun i => decide (i < m) && fa i) := by
    rw [← hY2, ← hY1]
    exact World.rowIs.setOther (World.rowIs.setOther (World.rowIs.setOther (World.rowIs.setOther ((Row.kept hr3 g4 (by simp)).kept g56 (by simp)) u1 _) u1 _) u2 _) u2 _
  have R5 : Row Y2 45 b5 c (fun i => decide (i < m) && fb i) := by
    rw [← hY2, ← hY1]
    exact World.rowIs.setOther (World.rowIs.setOther (World.rowIs.setOther (World.rowIs.setOther (Row.kept hr5 g6 (by simp)) u3 _) u3 _) u4 _) u4 _
  go_region_held2 (fun w' => w'.cell? ⟨w3.heap.size, 0, none⟩ = some (.int .i64 m) ∧ w'.cell? ⟨w3.heap.size, 1, none⟩ = some (.slice (some ⟨b3, 0, none⟩) c c) ∧ w'.cell? ⟨w5.heap.size, 0, none⟩ = some (.int .i64 m) ∧ w'.cell? ⟨w5.heap.size, 1, none⟩ = some (.slice (some ⟨b5, 0, none⟩) c c)) (first | go_keep | exact ⟨far2 (by assumption) (by assumption), far2 (by assumption) (by assumption), far2 (by assumption) (by assumption), far2 (by assumption) (by assumption)⟩) (fail)
  go_wp2
  obtain ⟨fs, hfs⟩ := underR
  refine ret_box22 (g := w.heap.size) (g' := W1.heap.size) (t := 26) (t' := 26) rfl hfs infoR rfl rfl hAZ hBZ rfl ?_
  exact ⟨b3, b5, rfl, R3, R5, gb_drew gZ, b1, b2⟩

end Go.Proofs.YtcdefpfnjjahgabDoor
