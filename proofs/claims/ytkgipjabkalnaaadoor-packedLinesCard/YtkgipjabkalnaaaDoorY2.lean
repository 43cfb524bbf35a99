/- A row's bits from a place on. -/
import Derived.Test.YtkgipjabkalnaaaDoorY1
import Derived.Test.YtkgipjabkalnaaaDoorW10
import Derived.StillTailTactics
import Derived.Deep.RegionHeld2
namespace Go.Proofs.YtkgipjabkalnaaaDoor.Pd
open Go.RowKit
set_option linter.unusedVariables false
set_option linter.unusedSimpArgs false
set_option maxRecDepth 100000

theorem nx_same (p : Nat → Bool) (k c : Nat) : Pk.pack (fun j => p (j + c)) k = Pk.pack (fun t => if t < 64 * (k + 1) then p (t + c) else false) k := Pk.pack_congr fun j hj => by rw [if_pos (by omega)]
theorem nx_other (p : Nat → Bool) (k c : Nat) {j : Nat} (h : j ≠ k) : Pk.pack (fun t => if t < 64 * k then p (t + c) else false) j = Pk.pack (fun t => if t < 64 * (k + 1) then p (t + c) else false) j := Pk.pack_congr fun i hi => by
  by_cases h1 : 64 * j + i < 64 * k
  · rw [if_pos h1, if_pos (by omega)]
  · rw [if_neg h1, if_neg (by omega)]
theorem wrap_sl (x e : Nat) : IntKind.u64.wrap ((x : Int) * 2 ^ e) = ((x * 2 ^ e % 18446744073709551616 : Nat) : Int) := by
  rw [IntKind.wrap_u64]
  have e1 : (x : Int) * 2 ^ e = ((x * 2 ^ e : Nat) : Int) := by simp
  rw [e1]; omega
theorem bx_far {w : World} {g b : Nat} {t : TypeId} {x y : Value} (h : Bx w g t x y) (hne : g ≠ b) (j : Nat) (v : Value) : Bx (w.setCell ⟨b, j, none⟩ v) g t x y := (Below.heap_setCell _ _ _ _ hne).trans h
set_option maxHeartbeats 1000000 in
theorem fromC (m n c cap : Nat) (sp : Option Addr) (p : Nat → Bool) (M : MayBe m n p) (h3 : 3 ≤ m) (hc : c ≤ 2) (w : World) (h : Wd w sp n (Pk.pack p)) :
    Calls Tryd.prog 27 #[.agg #[.int .i64 (m : Nat), .slice sp n cap], .int .i64 (c : Nat)] w fun e w' => ∃ b, e = .returned (.agg #[.int .i64 ((m - 2 : Nat) : Int), .slice (some ⟨b, 0, none⟩) ((m - 2 + 63) / 64) ((m - 2 + 63) / 64)]) ∧ Row w' 33 b ((m - 2 + 63) / 64) (fr p (m - 2) c) ∧ w.grownBy w' none ∧ w.heap.size ≤ b := by
  obtain ⟨W0, hW0, c0, c1, sz0, g0, B0⟩ := box2 w (.int .i64 (m : Nat)) (.slice sp n cap) 27
  obtain ⟨W1, hW1, d0, d1, sz1, g1, B1⟩ := box2 W0 (.int .i64 0) (.slice none 0 0) 27
  have B01 := B0.kept g1 (by simp)
  have x0 := B01.cell0
  have x1 := B01.cell1
  have G1 := gb_trans g0 g1
  have hml := M.le
  have HN : Hid (n = (m + 63) / 64) := M.words
  obtain ⟨m2, hm2⟩ : ∃ m2, m - 2 = m2 := ⟨_, rfl⟩
  have HM : Hid (m = m2 + 2) := by unfold Hid; omega
  obtain ⟨k2, hk2⟩ : ∃ k2, (m2 + 63) / 64 = k2 := ⟨_, rfl⟩
  have HK : Hid ((m2 + 63) / 64 = k2) := hk2
  have ew : IntKind.i64.wrap ((m : Int) - 2) = ((m2 : Nat) : Int) := by rw [IntKind.wrap_i64]; omega
  have hnw := Wo.newC m2 (by omega)
  rw [hk2] at hnw
  rw [hm2, hk2]
  clear hm2 hk2
  go_enter Tryd.func27, Tryd.ntmps27
  go_wp2_with (go_at_call 30; refine (hnw W1).mono ?_; rintro e V ⟨b, rfl, hR, gV, lV⟩; obtain ⟨W2, hW2, e0, e1, sz2, g2, B2⟩ := box2 V (.int .i64 (m2 : Nat)) (.slice (some ⟨b, 0, none⟩) k2 k2) 27)
  have b1 := lV
  have q1 : W0.heap.size < W1.heap.size := by have := sz1.out; omega
  have q0 : w.heap.size < W0.heap.size := by have := sz0.out; omega
  have gsV := gV.size
  have hR2 := hR.kept g2 (by simp)
  have B02 := (B01.kept gV (by simp)).kept g2 (by simp)
  have B12 := (B1.kept gV (by simp)).kept g2 (by simp)
  have hw2 := (h.kept G1 (by simp)).kept (gb_trans gV g2) (by simp)
  have G2 : w.grownBy W2 none := gb_trans G1 (gb_trans gV g2)
  have lb2 : b < V.heap.size := hR.lt
  go_loopw [19] (fun x wr => ∃ k : Nat, k ≤ k2 ∧ x = .int .i64 (k : Nat) ∧ Row wr 33 b k2 (fun t => if t < 64 * k then p (t + c) else false) ∧ W2.grownBy wr (some b)) (fun x _ => k2 - (intOf x).toNat)
  case atStart => exact ⟨0, Nat.zero_le _, rfl, hR2.congr (fun t _ => by simp), World.grownBy.refl _ _⟩
  case round =>
    obtain ⟨k, hk, rfl, hrow, gk⟩ := hrel
    have B0k := B02.kept gk (by simp; omega)
    have B2k := B2.kept gk (by simp; omega)
    have u0 := B0k.cell0
    have u1 := B0k.cell1
    have v0 := B2k.cell0
    have v1 := B2k.cell1
    by_cases hlt : k < k2
    · clear B12
      have hlt' : (k : Int) < (k2 : Int) := by omega
      have hkn : k < n := by have := HK.out; have := HN.out; have := HM.out; omega
      obtain ⟨a, rfl⟩ := h.some (show 0 < n by omega)
      have ab : ∀ j, (a.add j).block = a.block := fun j => by unfold Addr.add; split <;> simp_all
      have hal : a.block < w.heap.size := by have := cell_lt (h.at hkn); rwa [ab] at this
      have hab : ∀ j, some (a.add j).block ≠ some b := fun j => by rw [ab]; simp; omega
      have wk := gk.cell (hw2.at hkn) (hab k)
      have y0 := World.rowIs.cell hrow hlt
      have y1 := World.rowIs.frozen hrow k
      have hkn' : (k : Int) < (n : Int) := by omega
      have hsm : k2 ≤ 1025 := by have := HK.out; have := HM.out; omega
      by_cases hl2 : k + 1 < n
      · have hl2' : (k : Int) + 1 < (n : Int) := by omega
        have wk2 := gk.cell (hw2.at hl2) (hab (k + 1))
        have hpf := pack_from p k c (by omega)
        have hor := bits_or_u64_nat (Pk.pack p k / 2 ^ c) ((Pk.pack p (k + 1) * 2 ^ (64 - c)) % 18446744073709551616) (Nat.lt_of_le_of_lt (Nat.div_le_self _ _) (Pk.pack_lt _ _)) (Nat.mod_lt _ (by decide))
        rw [hpf] at hor
        have HOR : Hid _ := hor
        have HAB : Hid _ := hab
        clear hpf hor hab ab hal
        go_wp2
        refine region_tail 9 Wo.mixed (by kernel_rfl) ?_
        simp only [List.take_succ_cons, List.take_zero, List.drop_succ_cons, List.drop_zero]
        repeat still_step
        refine wpStill_nil ?_
        go_wp2
        have htn : ((64 : Int) - (c : Int)).toNat = 64 - c := by omega
        have hmn : min (64 - c) 64 = 64 - c := by omega
        have hl4 : (0 : Int) ≤ (k : Int) + 1 := by omega
        have hl5 : ((k : Int) + 1).toNat = k + 1 := by omega
        have hk9 : IntKind.i64.wrap ((k : Int) + 1) = (k : Int) + 1 := by rw [IntKind.wrap_i64]; omega
        have hc9 : IntKind.i64.wrap ((64 : Int) - (c : Int)) = (64 : Int) - (c : Int) := by rw [IntKind.wrap_i64]; omega
        have hc0 : (0 : Int) ≤ (64 : Int) - (c : Int) := by omega
        obtain ⟨X, hX⟩ : ∃ X, ((wr.setCell ⟨b, k, none⟩ (.int .u64 (Pk.pack p k : Nat))).setCell ⟨b, k, none⟩ (.int .u64 ((Pk.pack p k : Nat) / 2 ^ c : Int))).drew = X := ⟨_, rfl⟩
        have gX : W2.grownBy X (some b) := hX ▸ gb_drew (gb_set (gb_set gk _ _) _ _)
        obtain ⟨F, r2, hF, hF2⟩ : ∃ F, ((wr.setCell ⟨b, k, none⟩ (.int .u64 (Pk.pack p k : Nat))).setCell ⟨b, k, none⟩ (.int .u64 ((Pk.pack p k : Nat) / 2 ^ c : Int))).rowIs b 33 k2 F ∧ F k = .int .u64 ((Pk.pack p k / 2 ^ c : Nat) : Int) ∧ Hid (∀ j, j ≠ k → F j = .int .u64 (Pk.pack (fun t => if t < 64 * k then p (t + c) else false) j : Nat)) :=
          ⟨_, World.rowIs.set (World.rowIs.set hrow k (.int .u64 (Pk.pack p k : Nat))) k (.int .u64 ((Pk.pack p k : Nat) / 2 ^ c : Int)), by rw [if_pos rfl]; simp, fun j hj => by rw [if_neg hj, if_neg hj]⟩
        have rX : X.rowIs b 33 k2 F := by rw [← hX]; exact r2
        clear r2
        have B0X := B02.kept gX (by simp; omega)
        have B2X := B2.kept gX (by simp; omega)
        have u0x := B0X.cell0
        have u1x := B0X.cell1
        have v0x := B2X.cell0
        have v1x := B2X.cell1
        have wkx := gX.cell (hw2.at hl2) (HAB.out (k + 1))
        have wky := wkx
        simp [Addr.add] at wky
        have yx := rX.cell hlt
        rw [hF] at yx
        have y1x := rX.frozen k
        have RX : Hid (X.rowIs b 33 k2 F) := rX
        rw [hX]
        clear hX rX hF u0 u1 v0 v1 wk wk2 y0 y1
        refine region_tail 16 Wo.mixed (by kernel_rfl) ?_
        simp only [List.take_succ_cons, List.take_zero, List.drop_succ_cons, List.drop_zero]
        repeat still_step
        refine wpStill_nil ?_
        go_wp2
        refine ⟨⟨k + 1, hlt, by go_num, ?_, gb_drew (gb_set gX _ _)⟩, by simp [intOf]; omega⟩
        rw [show ((Pk.pack p k : Nat) : Int) / 2 ^ c = ((Pk.pack p k / 2 ^ c : Nat) : Int) by simp, wrap_sl, HOR.out]
        refine (World.rowIs.set RX.out k (.int .u64 (Pk.pack (fun j => p (j + c)) k : Nat))).congr (fun j _ => ?_)
        by_cases hj : j = k
        · subst hj; rw [if_pos rfl, nx_same]
        · rw [if_neg hj, hF2.out j hj, nx_other p k c hj]
      · have hl2' : ¬ (k : Int) + 1 < (n : Int) := by omega
        have hpl := pack_from_last p k c (by omega) (fun j hj => M.tail j (by have := HN.out; omega))
        have hdv : ((Pk.pack p k : Nat) : Int) / 2 ^ c = ((Pk.pack p k / 2 ^ c : Nat) : Int) := by simp
        rw [hpl] at hdv
        have HDV : Hid _ := hdv
        clear hpl hdv hab ab hal
        go_wp2
        refine region_tail 9 Wo.mixed (by kernel_rfl) ?_
        simp only [List.take_succ_cons, List.take_zero, List.drop_succ_cons, List.drop_zero]
        repeat still_step
        refine wpStill_nil ?_
        go_wp2
        refine ⟨⟨k + 1, hlt, by go_num, ?_, gb_drew (gb_set (gb_set gk _ _) _ _)⟩, by simp [intOf]; omega⟩
        rw [HDV.out]
        refine (World.rowIs.set (World.rowIs.set hrow k (.int .u64 (Pk.pack p k : Nat))) k (.int .u64 (Pk.pack (fun j => p (j + c)) k : Nat))).congr (fun j _ => ?_)
        by_cases hj : j = k
        · subst hj; rw [if_pos rfl, nx_same]
        · rw [if_neg hj, if_neg hj, nx_other p k c hj]
    · have hkn : ¬ (k : Int) < (k2 : Int) := by omega
      obtain rfl : k = k2 := by omega
      have hm1 : m2 ≤ 64 * k := by have := HK.out; omega
      have hm0 : 64 * k < m2 + 64 := by have := HK.out; omega
      have hm9 : m2 ≤ 65538 := by have := HM.out; omega
      obtain ⟨d, hd⟩ : ∃ d, 64 * k - m2 = d := ⟨_, rfl⟩
      have hd64 : d < 64 := by omega
      have hdi : (k : Int) * 64 - (m2 : Int) = (d : Int) := by omega
      have k1 : 0 < k := by have := HM.out; omega
      have hla : Hid ((18446744073709551615 : Int) / 2 ^ d = ((Pk.low (64 - d) : Nat) : Int)) := by
        unfold Hid
        have := all_down d (by omega)
        rw [← this]; simp
      have hk1 : IntKind.i64.wrap ((k : Int) - 1) = ((k - 1 : Nat) : Int) := by rw [IntKind.wrap_i64]; omega
      have hro := hrow.congr (q := fun t => decide (t < 64 * k) && p (t + c)) (fun t _ => by by_cases ht : t < 64 * k <;> simp [ht])
      clear hrow
      obtain ⟨q, hq⟩ : ∃ q : Nat → Bool, (fun t => decide (t < 64 * k) && p (t + c)) = q := ⟨_, rfl⟩
      have HQ : Hid ((fun t => decide (t < 64 * k) && p (t + c)) = q) := hq
      rw [hq] at hro
      clear hq
      have y0 := World.rowIs.cell hro (i := k - 1) (by omega)
      have y1 := World.rowIs.frozen hro (k - 1)
      have hand := bits_and_u64_nat (Pk.pack q (k - 1)) (Pk.low (64 - d)) (Pk.pack_lt _ _) (Pk.low_lt (by omega))
      rw [Pk.pack_low] at hand
      have HAN : Hid _ := hand
      clear hand
      have B1k := B12.kept gk (by simp; omega)
      have z0 := B1k.cell0
      have z1 := B1k.cell1
      have zf0 := B1k.free0
      have zf1 := B1k.free1
      have n1 : b ≠ W0.heap.size := by omega
      have n2 : b ≠ V.heap.size := by omega
      go_wp2
      rw [hla.out, HAN.out]
      have rY := hro.set (k := k - 1) (q := fr p m2 c) (x := Pk.pack (fun i => q i && decide (i < 64 * (k - 1) + (64 - d))) (k - 1)) (Pk.pack_congr fun j hj => by
        rw [← HQ.out]
        unfold fr
        dsimp only
        have e1 : 64 * (k - 1) + (64 - d) = m2 := by omega
        rw [e1]
        by_cases h9 : 64 * (k - 1) + j < m2
        · simp [h9]; omega
        · simp [h9]) (fun i hi hne => by
        rw [← HQ.out]
        unfold fr
        have h8 : i < m2 := by omega
        simp [h8, hi])
      obtain ⟨fs, hfs⟩ := Wo.underR
      have BY := bx_far B1k n1.symm (k - 1) (.int .u64 (Pk.pack (fun i => q i && decide (i < 64 * (k - 1) + (64 - d))) (k - 1) : Nat))
      refine ret_box1 (g := W0.heap.size) (t := 27) rfl hfs Wo.infoR rfl (BY.set _ _) rfl ?_
      exact ⟨b, rfl, World.rowIs.setOther (World.rowIs.setOther rY n1 _) n1 _, gb_new (gb_new (gb_past G2 (gb_set gk _ _) (by omega)) (Nat.le_of_lt q0) _) (Nat.le_of_lt q0) _, by omega⟩
end Go.Proofs.YtkgipjabkalnaaaDoor.Pd
