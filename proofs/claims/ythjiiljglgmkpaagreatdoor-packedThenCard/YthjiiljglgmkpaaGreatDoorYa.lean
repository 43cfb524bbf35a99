/- A row's bits from a place on. -/
import Derived.Test.YthjiiljglgmkpaaGreatDoorWd
import Derived.Test.YthjiiljglgmkpaaGreatDoorWa
import Derived.StillTailTactics
import Derived.Deep.RegionHeld2
import Derived.Test.YthjiiljglgmkpaaGreatDoorBo
namespace Go.Proofs.YthjiiljglgmkpaaGreatDoor.Pd
open Go.RowKit
set_option linter.unusedVariables false
set_option linter.unusedSimpArgs false
set_option maxRecDepth 100000

theorem nx_same (p : Nat → Bool) (k c : Nat) : Pk.pack (fun j => p (j + c)) k = Pk.pack (fun t => if t < 64 * (k + 1) then p (t + c) else false) k := Pk.pack_congr fun j hj => by rw [if_pos (by omega)]
theorem nx_other (p : Nat → Bool) (k c : Nat) {j : Nat} (h : j ≠ k) : Pk.pack (fun t => if t < 64 * k then p (t + c) else false) j = Pk.pack (fun t => if t < 64 * (k + 1) then p (t + c) else false) j := Pk.pack_congr fun i hi => by
  by_cases h1 : 64 * j + i < 64 * k
  · rw [if_pos h1, if_pos (by omega)]
  · rw [if_neg h1, if_neg (by omega)]
theorem wrap_sl (x e : Nat) : IntKind.u64.wrap ((x : Int) * 2 ^ e) = ((x * 2 ^ e % 18446744073709551616 : Nat) : Int) := by
  rw [IntKind.wrap_u64]
  have e1 : (x : Int) * 2 ^ e = ((x * 2 ^ e : Nat) : Int) := by simp
  rw [e1]; omega
theorem bx_far {w : World} {g b : Nat} {t : TypeId} {x y : Value} (h : Bx w g t x y) (hne : g ≠ b) (j : Nat) (v : Value) : Bx (w.setCell ⟨b, j, none⟩ v) g t x y := (Below.heap_setCell _ _ _ _ hne).trans h
set_option maxHeartbeats 1000000 in
theorem fromC (m n c cap : Nat) (sp : Option Addr) (p : Nat → Bool) (M : MayBe m n p) (h3 : 3 ≤ m) (hc : c ≤ 2) (w : World) (h : Wd w sp n (Pk.pack p)) :
    Calls Tryz.prog 65 #[.agg #[.int .i64 (m : Nat), .slice sp n cap], .int .i64 (c : Nat)] w fun e w' => ∃ b, e = .returned (.agg #[.int .i64 ((m - 2 : Nat) : Int), .slice (some ⟨b, 0, none⟩) ((m - 2 + 63) / 64) ((m - 2 + 63) / 64)]) ∧ Row w' 37 b ((m - 2 + 63) / 64) (fr p (m - 2) c) ∧ w.grownBy w' none ∧ w.heap.size ≤ b := by
  obtain ⟨W0, hW0, c0, c1, sz0, g0, B0⟩ := box2 w (.int .i64 (m : Nat)) (.slice sp n cap) 33
  obtain ⟨W1, hW1, d0, d1, sz1, g1, B1⟩ := box2 W0 (.int .i64 0) (.slice none 0 0) 33
  have B01 := B0.kept g1 (by simp)
  have x0 := B01.cell0
  have x1 := B01.cell1
  have G1 := gb_trans g0 g1
  have hml := M.le
  have HN : Hid (n = (m + 63) / 64) := M.words
  obtain ⟨m2, hm2⟩ : ∃ m2, m - 2 = m2 := ⟨_, rfl⟩
  have HM : Hid (m = m2 + 2) := by unfold Hid; omega
  obtain ⟨k2, hk2⟩ : ∃ k2, (m2 + 63) / 64 = k2 := ⟨_, rfl⟩
  have HK : Hid ((m2 + 63) / 64 = k2) := hk2
  have ew : IntKind.i64.wrap ((m : Int) - 2) = ((m2 : Nat) : Int) := by rw [IntKind.wrap_i64]; omega
  have hnw := Wo.newC m2 (by omega)
  rw [hk2] at hnw
  rw [hm2, hk2]
  clear hm2 hk2
  go_enter Tryz.func65, Tryz.ntmps65
  go_wp2_with (go_at_call 90; refine (hnw W1).mono ?_; rintro e V ⟨b, rfl, hR, gV, lV⟩; obtain ⟨W2, hW2, e0, e1, sz2, g2, B2⟩ := box2 V (.int .i64 (m2 : Nat)) (.slice (some ⟨b, 0, none⟩) k2 k2) 33)
  have b1 := lV
  have q1 : W0.heap.size < W1.heap.size := by have := sz1.out; omega
  have q0 : w.heap.size < W0.heap.size := by have := sz0.out; omega
  have gsV := gV.size
  have hR2 := hR.kept g2 (by simp)
  have B02 := (B01.kept gV (by simp)).kept g2 (by simp)
  have B12 := (B1.kept gV (by simp)).kept g2 (by simp)
  have hw2 := (h.kept G1 (by simp)).kept (gb_trans gV g2) (by simp)
  have G2 : w.grownBy W2 none := gb_trans G1 (gb_trans gV g2)
  have lb2 : b < V.heap.size := hR.lt
  go_loopw [19] (fun x wr => ∃ k : Nat, k ≤ k2 ∧ x = .int .i64 (k : Nat) ∧ Row wr 37 b k2 (fun t => if t < 64 * k then p (t + c) else false) ∧ W2.grownBy wr (some b)) (fun x _ => k2 - (intOf x).toNat)
  case atStart => exact ⟨0, Nat.zero_le _, rfl, hR2.congr (fun t _ => by simp), World.grownBy.refl _ _⟩
  case round =>
    obtain ⟨k, hk, rfl, hrow, gk⟩ := hrel
    have B0k := B02.kept gk (by simp; omega)
    have B2k := B2.kept gk (by simp; omega)
    have u0 := B0k.cell0
    have u1 := B0k.cell1
    have v0 := B2k.cell0
    have v1 := B2k.cell1
    by_cases hlt : k < k2
    · clear B12
      have hlt' : (k : Int) < (k2 : Int) := by omega
      have hkn : k < n := by have := HK.out; have := HN.out; have := HM.out; omega
      obtain ⟨a, rfl⟩ := h.some (show 0 < n by omega)
      have ab : ∀ j, (a.add j).block = a.block := fun j => by unfold Addr.add; split <;> simp_all
      have hal : a.block < w.heap.size := by have := cell_lt (h.at hkn); rwa [ab] at this
      have hab : ∀ j, some (a.add j).block ≠ some b := fun j => by rw [ab]; simp; omega
      have wk := gk.cell (hw2.at hkn) (hab k)
      have y0 := World.rowIs.cell hrow hlt
      have y1 := World.rowIs.frozen hrow k
      have hkn' : (k : Int) < (n : Int) := by omega
      have hsm : k2 ≤ 1025 := by have := HK.out; have := HM.out; omega
      by_cases hl2 : k + 1 < n
      · have hl2' : (k : Int) + 1 < (n : Int) := by omega
        have wk2 := gk.cell (hw2.at hl2) (hab (k + 1))
        have hpf := pack_from p k c (by omega)
        have hor := bits_or_u64_nat (Pk.pack p k / 2 ^ c) ((Pk.pack p (k + 1) * 2 ^ (64 - c)) % 18446744073709551616) (Nat.lt_of_le_of_lt (Nat.div_le_self _ _) (Pk.pack_lt _ _)) (Nat.mod_lt _ (by decide))
        rw [hpf] at hor
        have HOR : Hid _ := hor
        have HAB : Hid _ := hab
        clear hpf hor hab ab hal
        go_wp2
        refine region_tail 9 Wo.mixed (by kernel_rfl) ?_
        simp only [List.take_succ_cons, List.take_zero, List.drop_succ_cons, List.drop_zero]
        repeat still_step
        refine wpStill_nil ?_
        go_wp2
        have htn : ((64 : Int) - (c : Int)).toNat = 64 - c := by omega
        have hmn : min (64 - c) 64 = 64 - c := by omega
        have hl4 : (0 : Int) ≤ (k : Int) + 1 := by omega
        have hl5 : ((k : Int) + 1).toNat = k + 1 := by omega
        have hk9 : IntKind.i64.wrap ((k : Int) + 1) = (k : Int) + 1 := by rw [IntKind.wrap_i64]; omega
        have hc9 : IntKind.i64.wrap ((64 : Int) - (c : Int)) = (64 : Int) - (c : Int) := by rw [IntKind.wrap_i64]; omega
        have hc0 : (0 : Int) ≤ (64 : Int) - (c : Int) := by omega
        obtain ⟨X, hX⟩ : ∃ X, ((wr.setCell ⟨b, k, none⟩ (.int .u64 (Pk.pack p k : Nat))).setCell ⟨b, k, none⟩ (.int .u64 ((Pk.pack p k : Nat) / 2 ^ c : Int))).drew = X := ⟨_, rfl⟩
        have gX : W2.grownBy X (some b) := hX ▸ gb_drew (gb_set (gb_set gk _ _) _ _)
        obtain ⟨F, r2, hF, hF2⟩ : ∃ F, ((wr.setCell ⟨b, k, none⟩ (.int .u64 (Pk.pack p k : Nat))).setCell ⟨b, k, none⟩ (.int .u64 ((Pk.pack p k : Nat) / 2 ^ c : Int))).rowIs b 37 k2 F ∧ F k = .int .u64 ((Pk.pack p k / 2 ^ c : Nat) : Int) ∧ Hid (∀ j, j ≠ k → F j = .int .u64 (Pk.pack (fun t => if t < 64 * k then p (t + c) else false) j : Nat)) :=
          ⟨_, World.rowIs.set (World.rowIs.set hrow k (.int .u64 (Pk.pack p k : Nat))) k (.int .u64 ((Pk.pack p k : Nat) / 2 ^ c : Int)), by rw [if_pos rfl]; simp, fun j hj => by rw [if_neg hj, if_neg hj]⟩
        have rX : X.rowIs b 37 k2 F := by rw [← hX]; exact r2
        clear r2
        have B0X := B02.kept gX (by simp; omega)
        have B2X := B2.kept gX (by simp; omega)
        have u0x := B0X.cell0
        have u1x := B0X.cell1
        have v0x := B2X.cell0
        have v1x := B2X.cell1
        have wkx := gX.cell (hw2.at hl2) (HAB.out (k + 1))
        have wky := wkx
        simp [Addr.add] at wky
        have yx := rX.cell hlt
        rw [hF] at yx
        have y1x := rX.frozen k
        have RX : Hid (X.rowIs b 37 k2 F) := rX
        rw [hX]
        clear hX rX hF u0 u1 v0 v1 wk wk2 y0 y1
        refine region_tail 16 Wo.mixed (by kernel_rfl) ?_
        simp only [List.take_succ_cons, List.take_zero, List.drop_succ_cons, List.drop_zero]
        repeat still_step
        refine wpStill_nil ?_
        go_wp2
        refine ⟨⟨k + 1, hlt, by go_num, ?_, gb_drew (gb_set gX _ _)⟩, by simp [intOf]; omega⟩
        rw [show ((Pk.pack p k : Nat) : Int) / 2 ^ c = ((Pk.pack p k / 2 ^ c : Nat) : Int) by simp, wrap_sl, HOR.out]
        refine (World.rowIs.set RX.out k (.int .u64 (Pk.pack (fun j => p (j + c)) k : Nat))).congr (fun j _ => ?_)
        by_cases hj : j = k
        · subst hj; rw [if_pos rfl, nx_same]
        · rw [if_neg hj, hF2.out j hj, nx_other p k c hj]
      · have hl2' : ¬ (k : Int) + 1 < (n : Int) := by omega
        have hpl := pack_from_last p k c (by omega) (fun j hj => M.tail j (by have := HN.out; omega))
        have hdv : ((Pk.pack p k : Nat) : Int) / 2 ^ c = ((Pk.pack p k / 2 ^ c : Nat) : Int) := by simp
        rw [hpl] at hdv
        have HDV : Hid _ := hdv
        clear hpl hdv hab ab hal
        go_wp2
        refine region_tail 9 Wo.mixed (by kernel_rfl) ?_
        simp only [List.take_succ_cons, List.take_zero, List.drop_succ_cons, List.drop_zero]
        repeat still_step
        refine wpStill_nil ?_
        go_wp2
        refine ⟨⟨k + 1, hlt, by go_num, ?_, gb_drew (gb_set (gb_set gk _ _) _ _)⟩, by simp [intOf]; omega⟩
        rw [HDV.out]
        refine (World.rowIs.set (World.rowIs.set hrow k (.int .u64 (Pk.pack p k : Nat))) k (.int .u64 (Pk.pack (fun j => p (j + c)) k : Nat))).congr (fun j _ => ?_)
        by_cases hj : j = k
        · subst hj; rw [if_pos rfl, nx_same]
        · rw [if_neg hj, if_neg hj, nx_other p k c hj]
    · have hkn : ¬ (k : Int) < (k2 : Int) := by omega
      obtain rfl : k = k2 := by omega
      have hm1 : m2 ≤ 64 * k := by have := HK.out; omega
      have hm0 : 64 * k < m2 + 64 := by have := HK.out; omega
      have hm9 : m2 ≤ 65538 := by have := HM.out; omega
      obtain ⟨d, hd⟩ : ∃ d, 64 * k - m2 = d := ⟨_, rfl⟩
      have hd64 : d < 64 := by omega
      have hdi : (k : Int) * 64 - (m2 : Int) = (d : Int) := by omega
      have k1 : 0 < k := by have := HM.out; omega
      have hla : Hid ((18446744073709551615 : Int) / 2 ^ d = ((Pk.low (64 - d) : Nat) : Int)) := by
        unfold Hid
        have := all_down d (by omega)
        rw [← this]; simp
      have hk1 : IntKind.i64.wrap ((k : Int) - 1) = ((k - 1 : Nat) : Int) := by rw [IntKind.wrap_i64]; omega
      have hro := hrow.congr (q := fun t => decide (t < 64 * k) && p (t + c)) (fun t _ => by by_cases ht : t < 64 * k <;> simp [ht])
      clear hrow
      obtain ⟨q, hq⟩ : ∃ q : Nat → Bool, (fun t => decide (t < 64 * k) && p (t + c)) = q := ⟨_, rfl⟩
      have HQ : Hid ((fun t => decide (t < 64 * k) && p (t + c)) = q) := hq
      rw [hq] at hro
      clear hq
      have y0 := World.rowIs.cell hro (i := k - 1) (by omega)
      have y1 := World.rowIs.frozen hro (k - 1)
      have hand := bits_and_u64_nat (Pk.pack q (k - 1)) (Pk.low (64 - d)) (Pk.pack_lt _ _) (Pk.low_lt (by omega))
      rw [Pk.pack_low] at hand
      have HAN : Hid _ := hand
      clear hand
      have B1k := B12.kept gk (by simp; omega)
      have z0 := B1k.cell0
      have z1 := B1k.cell1
      have zf0 := B1k.free0
      have zf1 := B1k.free1
      have n1 : b ≠ W0.heap.size := by omega
      have n2 : b ≠ V.heap.size := by omega
      go_wp2
      rw [hla.out, HAN.out]
      have rY := hro.set (k := k - 1) (q := fr p m2 c) (x := Pk.pack (fun i => q i && decide (i < 64 * (k - 1) + (64 - d))) (k - 1)) (Pk.pack_congr fun j hj => by
        rw [← HQ.out]
        unfold fr
        dsimp only
        have e1 : 64 * (k - 1) + (64 - d) = m2 := by omega
        rw [e1]
        by_cases h9 : 64 * (k - 1) + j < m2
        · simp [h9]; omega
        · simp [h9]) (fun i hi hne => by
        rw [← HQ.out]
        unfold fr
        have h8 : i < m2 := by omega
        simp [h8, hi])
      obtain ⟨fs, hfs⟩ := Wo.underR
      have BY := bx_far B1k n1.symm (k - 1) (.int .u64 (Pk.pack (fun i => q i && decide (i < 64 * (k - 1) + (64 - d))) (k - 1) : Nat))
      refine ret_box1 (g := W0.heap.size) (t := 33) rfl hfs Wo.infoR rfl (BY.set _ _) rfl ?_
      exact ⟨b, rfl, World.rowIs.setOther (World.rowIs.setOther rY n1 _) n1 _, gb_new (gb_new (gb_past G2 (gb_set gk _ _) (by omega)) (Nat.le_of_lt q0) _) (Nat.le_of_lt q0) _, by omega⟩
end Go.Proofs.YthjiiljglgmkpaaGreatDoor.Pd
namespace Go.Proofs.YthjiiljglgmkpaaGreatDoor.Pd
open Go.RowKit
set_option linter.unusedVariables false
set_option linter.unusedSimpArgs false
set_option maxRecDepth 100000

theorem hasP (c n : Nat) (hc : c < 65536) (hn : n < 16) (w : World) : Calls Tryz.prog 91 #[.int .u16 (c : Nat), .int .i64 (n : Nat)] w fun e w' => e = .returned (.bool (c.testBit n)) ∧ w' = w := by
  have hb := Pk.bit_div c n
  have hm := bits_mask .u16 16 (by decide) (fun n h0 h1 => by rw [IntKind.wrap_u16]; omega) 1 (by decide) ((c / 2 ^ n : Nat) : Int) (Int.natCast_nonneg _) (by have := Nat.div_le_self c (2 ^ n); generalize c / 2 ^ n = x at *; omega)
  have e1 : ((2 : Int) ^ 1 - 1) = 1 := by decide
  have e2 : ((2 : Int) ^ 1) = 2 := by decide
  rw [e1, e2] at hm
  have hm2 : bits .and .u16 ((c : Int) / 2 ^ n) 1 = (((if c.testBit n then 1 else 0) : Nat) : Int) := by
    have e3 : (c : Int) / 2 ^ n = ((c / 2 ^ n : Nat) : Int) := by simp
    rw [e3, hm, ← hb]; simp
  clear hm hb e1 e2
  cases hv : c.testBit n with
  | true =>
    rw [hv] at hm2
    have hm3 : bits .and .u16 ((c : Int) / 2 ^ n) 1 = 1 := hm2
    clear hm2 hv
    go_enter Tryz.func91, Tryz.ntmps91
    go_wp2
    go_ret
    exact ⟨rfl, rfl⟩
  | false =>
    rw [hv] at hm2
    have hm3 : bits .and .u16 ((c : Int) / 2 ^ n) 1 = 0 := hm2
    clear hm2 hv
    go_enter Tryz.func91, Tryz.ntmps91
    go_wp2
    go_ret
    exact ⟨rfl, rfl⟩

theorem gb_then {a b c : World} {r : Option Nat} (h : a.grownBy b none) (k : b.grownBy c r) : a.grownBy c r := ⟨k.os.trans h.os, k.tape.trans h.tape, k.output.trans h.output, Nat.le_trans h.size k.size, fun i hi hn => (k.block i (Nat.lt_of_lt_of_le hi h.size) hn).trans (h.block i hi (by simp))⟩
theorem gatherC (m n b ci cm : Nat) (p q : Nat → Bool) (sp : Option Addr) (M2 : Int) (hn : n ≤ 1025) (w : World) (hr : Row w 37 b n p) (hm : Wd w sp n (Pk.pack q)) (hne : ∀ a, sp = some a → a.block ≠ b) :
    Calls Tryz.prog 93 #[.agg #[.int .i64 (m : Nat), .slice (some ⟨b, 0, none⟩) n ci], .agg #[.int .i64 M2, .slice sp n cm]] w fun e w' => e = .returned (.tuple #[]) ∧ Row w' 37 b n (fun t => p t || q t) ∧ w.grownBy w' (some b) := by
  obtain ⟨W0, hW0, c0, c1, sz0, g0, B0⟩ := box2 w (.int .i64 (m : Nat)) (.slice (some ⟨b, 0, none⟩) n ci) 33
  obtain ⟨W1, hW1, d0, d1, sz1, g1, B1⟩ := box2 W0 (.int .i64 M2) (.slice sp n cm) 33
  have lb := World.rowIs.lt hr
  have B01 := B0.kept g1 (by simp)
  have x0 := B01.cell0
  have x1 := B01.cell1
  have G1 := gb_trans g0 g1
  have hr1 := hr.kept G1 (by simp)
  have hm1 := hm.kept G1 (by simp)
  have z0 := sz0.out
  have s0 : w.heap.size < W0.heap.size := by omega
  clear z0
  go_enter Tryz.func93, Tryz.ntmps93
  go_wp2
  go_loopw [9] (fun x wr => ∃ k : Nat, k ≤ n ∧ x = .int .i64 (k : Nat) ∧ Row wr 37 b n (fun t => p t || (decide (t < 64 * k) && q t)) ∧ W1.grownBy wr (some b)) (fun x _ => n - (intOf x).toNat)
  case atStart => exact ⟨0, Nat.zero_le _, rfl, hr1.congr (fun t _ => by simp), World.grownBy.refl _ _⟩
  case round =>
    obtain ⟨k, hk, rfl, hrow, gk⟩ := hrel
    by_cases hlt : k < n
    · have hlt' : (k : Int) < (n : Int) := by omega
      obtain ⟨a, rfl⟩ := hm.some (show 0 < n by omega)
      have ab : (a.add k).block = a.block := by unfold Addr.add; split <;> simp_all
      have wk := gk.cell (hm1.at hlt) (by rw [ab]; simpa using hne a rfl)
      have B0k := B01.kept gk (by simp; omega)
      have u0 := B0k.cell0
      have u1 := B0k.cell1
      have y0 := World.rowIs.cell hrow hlt
      have y1 := World.rowIs.frozen hrow k
      have hor := bits_or_u64_nat (Pk.pack (fun t => p t || (decide (t < 64 * k) && q t)) k) (Pk.pack q k) (Pk.pack_lt _ _) (Pk.pack_lt _ _)
      rw [Pk.pack_or] at hor
      have HOR : Hid _ := hor
      clear hor ab
      generalize hP : (fun t => p t || (decide (t < 64 * k) && q t)) = P at *
      have HPP : Hid ((fun t => p t || (decide (t < 64 * k) && q t)) = P) := hP
      clear hP
      go_wp2
      refine ⟨⟨k + 1, hlt, by go_num, ?_, gb_set gk _ _⟩, by simp [intOf]; omega⟩
      rw [HOR.out]
      refine Row.set (q := fun t => p t || (decide (t < 64 * (k + 1)) && q t)) hrow (Pk.pack_congr fun j hj => ?_) (fun i hi hne => ?_)
      · have : 64 * k + j < 64 * (k + 1) := by omega
        by_cases h1 : 64 * k + j < 64 * k
        · omega
        · simp [h1, this]
      · try rw [← HPP.out]
        by_cases h1 : i < 64 * k
        · have : i < 64 * (k + 1) := by omega
          simp [h1, this]
        · have : ¬ i < 64 * (k + 1) := by omega
          simp [h1, this]
    · have hkn : ¬ (k : Int) < (n : Int) := by omega
      obtain rfl : k = n := by omega
      go_wp2
      go_end0
      exact ⟨rfl, hrow.congr (fun t ht => by simp [ht]), gb_then G1 gk⟩

theorem underSI : Tryz.prog.underlying 77 = some (.array 3 33) := by kernel_rfl
theorem ret_a1 {P : Program} {fn : Func} {R : Ending → World → Prop} {a : Act} {w : World} {p : Tmp} {ty : TypeId} (h : fn.results = #[.cell p ty]) {g : Nat} {t : TypeId} {cs : Array Value} {el : TypeId} {n : Nat}
    (hu : P.underlying ty = some (.array n el)) (hi : (P.info? ty).map (·.size) = some cs.size) (hp : a.tmps.getD p undef = .pointer (some ⟨g, 0, none⟩)) (hg : Bo w g t cs) (hdf : a.defers = []) (hR : R (.returned (.agg cs)) w) :
    bodyPost P fn R .ret a w :=
  bodyPost_ret (results_cell_row h a.tmps w g t cs (0, 0) (.array n el) hp hg hu rfl hi) hdf hR
theorem bo6 {w : World} {g : Nat} {t : TypeId} {x0 x1 x2 x3 x4 x5 : Value} (h : Bo w g t #[x0, x1, x2, x3, x4, x5]) (y0 y1 y2 y3 y4 y5 : Value) : Bo ((((((w.setCell ⟨g, 0, none⟩ y0).setCell ⟨g, 1, none⟩ y1).setCell ⟨g, 2, none⟩ y2).setCell ⟨g, 3, none⟩ y3).setCell ⟨g, 4, none⟩ y4).setCell ⟨g, 5, none⟩ y5) g t #[y0, y1, y2, y3, y4, y5] := (((((h.set 0 y0).set 1 y1).set 2 y2).set 3 y3).set 4 y4).set 5 y5
theorem far6 {w : World} {t : TypeId} {b n g : Nat} {p : Nat → Bool} (h : Row w t b n p) (hq : b ≠ g) (y0 y1 y2 y3 y4 y5 : Value) : Row ((((((w.setCell ⟨g, 0, none⟩ y0).setCell ⟨g, 1, none⟩ y1).setCell ⟨g, 2, none⟩ y2).setCell ⟨g, 3, none⟩ y3).setCell ⟨g, 4, none⟩ y4).setCell ⟨g, 5, none⟩ y5) t b n p := (World.rowIs.setOther (World.rowIs.setOther (World.rowIs.setOther (World.rowIs.setOther (World.rowIs.setOther (World.rowIs.setOther h hq _) hq _) hq _) hq _) hq _) hq _)
set_option maxHeartbeats 1000000 in
theorem lookAtC (m n cap : Nat) (sp : Option Addr) (p : Nat → Bool) (M : MayBe m n p) (h3 : 3 ≤ m) (w : World) (h : Wd w sp n (Pk.pack p)) :
    Calls Tryz.prog 32 #[.agg #[.int .i64 (m : Nat), .slice sp n cap]] w fun e w' => ∃ b0 b1 b2, e = .returned (.agg #[.int .i64 ((m - 2 : Nat) : Int), .slice (some ⟨b0, 0, none⟩) ((m - 2 + 63) / 64) ((m - 2 + 63) / 64), .int .i64 ((m - 2 : Nat) : Int), .slice (some ⟨b1, 0, none⟩) ((m - 2 + 63) / 64) ((m - 2 + 63) / 64), .int .i64 ((m - 2 : Nat) : Int), .slice (some ⟨b2, 0, none⟩) ((m - 2 + 63) / 64) ((m - 2 + 63) / 64)]) ∧ Row w' 37 b0 ((m - 2 + 63) / 64) (fr p (m - 2) 0) ∧ Row w' 37 b1 ((m - 2 + 63) / 64) (fr p (m - 2) 1) ∧ Row w' 37 b2 ((m - 2 + 63) / 64) (fr p (m - 2) 2) ∧ w.grownBy w' none ∧ w.heap.size ≤ b0 ∧ w.heap.size ≤ b1 ∧ w.heap.size ≤ b2 := by
  obtain ⟨W0, hW0, c0, c1, sz0, g0, B0⟩ := box2 w (.int .i64 (m : Nat)) (.slice sp n cap) 33
  obtain ⟨W1, hW1, sz1, g1, B1⟩ := boxn W0 #[.int .i64 0, .slice none 0 0, .int .i64 0, .slice none 0 0, .int .i64 0, .slice none 0 0] 77
  have B01 := B0.kept g1 (by simp)
  have x0 := B01.cell0
  have x1 := B01.cell1
  have h1 := h.kept (gb_trans g0 g1) (by simp)
  have hd : Wd W1.drew sp n (Pk.pack p) := h1
  have z9 := sz0.out
  have n9 : W0.heap.size ≠ w.heap.size := by omega
  have n8 : w.heap.size ≠ W0.heap.size := by omega
  clear z9
  have Bd0 : Bx W1.drew w.heap.size 33 (.int .i64 (m : Nat)) (.slice sp n cap) := B01
  have Bd1 : Bo W1.drew W0.heap.size 77 #[.int .i64 0, .slice none 0 0, .int .i64 0, .slice none 0 0, .int .i64 0, .slice none 0 0] := B1
  have G1 : w.grownBy W1.drew none := gb_drew (gb_trans g0 g1)
  have f0 := fun w h => fromC m n 0 cap sp p M h3 (by decide) w h
  have f1 := fun w h => fromC m n 1 cap sp p M h3 (by decide) w h
  have f2 := fun w h => fromC m n 2 cap sp p M h3 (by decide) w h
  clear h h1 M h3
  generalize (m - 2 + 63) / 64 = k2 at *
  generalize m - 2 = m2 at *
  go_enter Tryz.func32, Tryz.ntmps32
  go_wp2
  go_region_held2 (fun w' => w'.cell? ⟨w.heap.size, 0, none⟩ = some (.int .i64 (m : Nat)) ∧ w'.cell? ⟨w.heap.size, 1, none⟩ = some (.slice sp n cap)) (go_keep) (first | (go_at_call 65; (fail_if_success (guard_hyp g2)); refine (f0 W1.drew hd).mono ?_; rintro e V2 ⟨b0, rfl, r0, g2, l0⟩; have Bk := Bd0.kept g2 (by simp); have t0 := Bk.cell0; have t1 := Bk.cell1; have h2 := hd.kept g2 (by simp)) | (go_at_call 65; (fail_if_success (guard_hyp g3)); guard_hyp g2; refine (f1 V2 h2).mono ?_; rintro e V3 ⟨b1, rfl, r1, g3, l1⟩; have Bl := Bk.kept g3 (by simp); have s0 := Bl.cell0; have s1 := Bl.cell1; have h3 := h2.kept g3 (by simp)) | (go_at_call 65; guard_hyp g3; refine (f2 V3 h3).mono ?_; rintro e V4 ⟨b2, rfl, r2, g4, l2⟩; have Bm := Bl.kept g4 (by simp); have o0 := Bm.cell0; have o1 := Bm.cell1; have BR := Bd1.kept (gb_trans g2 (gb_trans g3 g4)) (by simp); have q0 := BR.cell 0 (v := .int .i64 0) rfl; have q1 := BR.cell 1 (v := .slice none 0 0) rfl; have q2 := BR.cell 2 (v := .int .i64 0) rfl; have q3 := BR.cell 3 (v := .slice none 0 0) rfl; have q4 := BR.cell 4 (v := .int .i64 0) rfl; have q5 := BR.cell 5 (v := .slice none 0 0) rfl; have p0 := BR.frozen 0; have p1 := BR.frozen 1; have p2 := BR.frozen 2; have p3 := BR.frozen 3; have p4 := BR.frozen 4; have p5 := BR.frozen 5))
  all_goals go_wp2
  all_goals have r04 := (r0.kept g3 (by simp)).kept g4 (by simp)
  all_goals have r14 := r1.kept g4 (by simp)
  all_goals have g9 : w.grownBy V4 none := gb_trans G1 (gb_trans g2 (gb_trans g3 g4))
  all_goals have q9 : w.heap.size < W0.heap.size := by have := sz0.out; omega
  all_goals have q8 : W0.heap.size < W1.drew.heap.size := B1.lt
  all_goals have z2 := g2.size
  all_goals have z3 := g3.size
  all_goals refine ret_a1 (g := W0.heap.size) (t := 77) rfl underSI (by kernel_rfl) rfl (bo6 BR _ _ _ _ _ _) rfl ?_
  all_goals exact ⟨b0, b1, b2, rfl, far6 r04 (by omega) _ _ _ _ _ _, far6 r14 (by omega) _ _ _ _ _ _, far6 r2 (by omega) _ _ _ _ _ _, (gb_new (gb_new (gb_new (gb_new (gb_new (gb_new g9 (Nat.le_of_lt q9) _) (Nat.le_of_lt q9) _) (Nat.le_of_lt q9) _) (Nat.le_of_lt q9) _) (Nat.le_of_lt q9) _) (Nat.le_of_lt q9) _), by omega, by omega, by omega⟩
end Go.Proofs.YthjiiljglgmkpaaGreatDoor.Pd
