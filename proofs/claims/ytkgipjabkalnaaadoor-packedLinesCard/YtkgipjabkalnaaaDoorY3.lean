/- What cells see in a row; a number of a list; bits gathered. -/
import Derived.Test.YtkgipjabkalnaaaDoorY2
import Derived.Test.YtkgipjabkalnaaaDoorBo
namespace Go.Proofs.YtkgipjabkalnaaaDoor.Pd
open Go.RowKit
set_option linter.unusedVariables false
set_option linter.unusedSimpArgs false
set_option maxRecDepth 100000

theorem hasP (c n : Nat) (hc : c < 65536) (hn : n < 16) (w : World) : Calls Tryd.prog 31 #[.int .u16 (c : Nat), .int .i64 (n : Nat)] w fun e w' => e = .returned (.bool (c.testBit n)) ∧ w' = w := by
  have hb := Pk.bit_div c n
  have hm := bits_mask .u16 16 (by decide) (fun n h0 h1 => by rw [IntKind.wrap_u16]; omega) 1 (by decide) ((c / 2 ^ n : Nat) : Int) (Int.natCast_nonneg _) (by have := Nat.div_le_self c (2 ^ n); generalize c / 2 ^ n = x at *; omega)
  have e1 : ((2 : Int) ^ 1 - 1) = 1 := by decide
  have e2 : ((2 : Int) ^ 1) = 2 := by decide
  rw [e1, e2] at hm
  have hm2 : bits .and .u16 ((c : Int) / 2 ^ n) 1 = (((if c.testBit n then 1 else 0) : Nat) : Int) := by
    have e3 : (c : Int) / 2 ^ n = ((c / 2 ^ n : Nat) : Int) := by simp
    rw [e3, hm, ← hb]; simp
  clear hm hb e1 e2
  cases hv : c.testBit n with
  | true =>
    rw [hv] at hm2
    have hm3 : bits .and .u16 ((c : Int) / 2 ^ n) 1 = 1 := hm2
    clear hm2 hv
    go_enter Tryd.func31, Tryd.ntmps31
    go_wp2
    go_ret
    exact ⟨rfl, rfl⟩
  | false =>
    rw [hv] at hm2
    have hm3 : bits .and .u16 ((c : Int) / 2 ^ n) 1 = 0 := hm2
    clear hm2 hv
    go_enter Tryd.func31, Tryd.ntmps31
    go_wp2
    go_ret
    exact ⟨rfl, rfl⟩

theorem gb_then {a b c : World} {r : Option Nat} (h : a.grownBy b none) (k : b.grownBy c r) : a.grownBy c r := ⟨k.os.trans h.os, k.tape.trans h.tape, k.output.trans h.output, Nat.le_trans h.size k.size, fun i hi hn => (k.block i (Nat.lt_of_lt_of_le hi h.size) hn).trans (h.block i hi (by simp))⟩
theorem gatherC (m n b ci cm : Nat) (p q : Nat → Bool) (sp : Option Addr) (M2 : Int) (hn : n ≤ 1025) (w : World) (hr : Row w 33 b n p) (hm : Wd w sp n (Pk.pack q)) (hne : ∀ a, sp = some a → a.block ≠ b) :
    Calls Tryd.prog 33 #[.agg #[.int .i64 (m : Nat), .slice (some ⟨b, 0, none⟩) n ci], .agg #[.int .i64 M2, .slice sp n cm]] w fun e w' => e = .returned (.tuple #[]) ∧ Row w' 33 b n (fun t => p t || q t) ∧ w.grownBy w' (some b) := by
  obtain ⟨W0, hW0, c0, c1, sz0, g0, B0⟩ := box2 w (.int .i64 (m : Nat)) (.slice (some ⟨b, 0, none⟩) n ci) 27
  obtain ⟨W1, hW1, d0, d1, sz1, g1, B1⟩ := box2 W0 (.int .i64 M2) (.slice sp n cm) 27
  have lb := World.rowIs.lt hr
  have B01 := B0.kept g1 (by simp)
  have x0 := B01.cell0
  have x1 := B01.cell1
  have G1 := gb_trans g0 g1
  have hr1 := hr.kept G1 (by simp)
  have hm1 := hm.kept G1 (by simp)
  have z0 := sz0.out
  have s0 : w.heap.size < W0.heap.size := by omega
  clear z0
  go_enter Tryd.func33, Tryd.ntmps33
  go_wp2
  go_loopw [9] (fun x wr => ∃ k : Nat, k ≤ n ∧ x = .int .i64 (k : Nat) ∧ Row wr 33 b n (fun t => p t || (decide (t < 64 * k) && q t)) ∧ W1.grownBy wr (some b)) (fun x _ => n - (intOf x).toNat)
  case atStart => exact ⟨0, Nat.zero_le _, rfl, hr1.congr (fun t _ => by simp), World.grownBy.refl _ _⟩
  case round =>
    obtain ⟨k, hk, rfl, hrow, gk⟩ := hrel
    by_cases hlt : k < n
    · have hlt' : (k : Int) < (n : Int) := by omega
      obtain ⟨a, rfl⟩ := hm.some (show 0 < n by omega)
      have ab : (a.add k).block = a.block := by unfold Addr.add; split <;> simp_all
      have wk := gk.cell (hm1.at hlt) (by rw [ab]; simpa using hne a rfl)
      have B0k := B01.kept gk (by simp; omega)
      have u0 := B0k.cell0
      have u1 := B0k.cell1
      have y0 := World.rowIs.cell hrow hlt
      have y1 := World.rowIs.frozen hrow k
      have hor := bits_or_u64_nat (Pk.pack (fun t => p t || (decide (t < 64 * k) && q t)) k) (Pk.pack q k) (Pk.pack_lt _ _) (Pk.pack_lt _ _)
      rw [Pk.pack_or] at hor
      have HOR : Hid _ := hor
      clear hor ab
      generalize hP : (fun t => p t || (decide (t < 64 * k) && q t)) = P at *
      have HPP : Hid ((fun t => p t || (decide (t < 64 * k) && q t)) = P) := hP
      clear hP
      go_wp2
      refine ⟨⟨k + 1, hlt, by go_num, ?_, gb_set gk _ _⟩, by simp [intOf]; omega⟩
      rw [HOR.out]
      refine Row.set (q := fun t => p t || (decide (t < 64 * (k + 1)) && q t)) hrow (Pk.pack_congr fun j hj => ?_) (fun i hi hne => ?_)
      · have : 64 * k + j < 64 * (k + 1) := by omega
        by_cases h1 : 64 * k + j < 64 * k
        · omega
        · simp [h1, this]
      · try rw [← HPP.out]
        by_cases h1 : i < 64 * k
        · have : i < 64 * (k + 1) := by omega
          simp [h1, this]
        · have : ¬ i < 64 * (k + 1) := by omega
          simp [h1, this]
    · have hkn : ¬ (k : Int) < (n : Int) := by omega
      obtain rfl : k = n := by omega
      go_wp2
      go_end0
      exact ⟨rfl, hrow.congr (fun t ht => by simp [ht]), gb_then G1 gk⟩

theorem underSI : Tryd.prog.underlying 51 = some (.array 3 27) := by kernel_rfl
theorem ret_a1 {P : Program} {fn : Func} {R : Ending → World → Prop} {a : Act} {w : World} {p : Tmp} {ty : TypeId} (h : fn.results = #[.cell p ty]) {g : Nat} {t : TypeId} {cs : Array Value} {el : TypeId} {n : Nat}
    (hu : P.underlying ty = some (.array n el)) (hi : (P.info? ty).map (·.size) = some cs.size) (hp : a.tmps.getD p undef = .pointer (some ⟨g, 0, none⟩)) (hg : Bo w g t cs) (hdf : a.defers = []) (hR : R (.returned (.agg cs)) w) :
    bodyPost P fn R .ret a w :=
  bodyPost_ret (results_cell_row h a.tmps w g t cs (0, 0) (.array n el) hp hg hu rfl hi) hdf hR
theorem bo6 {w : World} {g : Nat} {t : TypeId} {x0 x1 x2 x3 x4 x5 : Value} (h : Bo w g t #[x0, x1, x2, x3, x4, x5]) (y0 y1 y2 y3 y4 y5 : Value) : Bo ((((((w.setCell ⟨g, 0, none⟩ y0).setCell ⟨g, 1, none⟩ y1).setCell ⟨g, 2, none⟩ y2).setCell ⟨g, 3, none⟩ y3).setCell ⟨g, 4, none⟩ y4).setCell ⟨g, 5, none⟩ y5) g t #[y0, y1, y2, y3, y4, y5] := (((((h.set 0 y0).set 1 y1).set 2 y2).set 3 y3).set 4 y4).set 5 y5
theorem far6 {w : World} {t : TypeId} {b n g : Nat} {p : Nat → Bool} (h : Row w t b n p) (hq : b ≠ g) (y0 y1 y2 y3 y4 y5 : Value) : Row ((((((w.setCell ⟨g, 0, none⟩ y0).setCell ⟨g, 1, none⟩ y1).setCell ⟨g, 2, none⟩ y2).setCell ⟨g, 3, none⟩ y3).setCell ⟨g, 4, none⟩ y4).setCell ⟨g, 5, none⟩ y5) t b n p := (World.rowIs.setOther (World.rowIs.setOther (World.rowIs.setOther (World.rowIs.setOther (World.rowIs.setOther (World.rowIs.setOther h hq _) hq _) hq _) hq _) hq _) hq _)
set_option maxHeartbeats 1000000 in
theorem lookAtC (m n cap : Nat) (sp : Option Addr) (p : Nat → Bool) (M : MayBe m n p) (h3 : 3 ≤ m) (w : World) (h : Wd w sp n (Pk.pack p)) :
    Calls Tryd.prog 18 #[.agg #[.int .i64 (m : Nat), .slice sp n cap]] w fun e w' => ∃ b0 b1 b2, e = .returned (.agg #[.int .i64 ((m - 2 : Nat) : Int), .slice (some ⟨b0, 0, none⟩) ((m - 2 + 63) / 64) ((m - 2 + 63) / 64), .int .i64 ((m - 2 : Nat) : Int), .slice (some ⟨b1, 0, none⟩) ((m - 2 + 63) / 64) ((m - 2 + 63) / 64), .int .i64 ((m - 2 : Nat) : Int), .slice (some ⟨b2, 0, none⟩) ((m - 2 + 63) / 64) ((m - 2 + 63) / 64)]) ∧ Row w' 33 b0 ((m - 2 + 63) / 64) (fr p (m - 2) 0) ∧ Row w' 33 b1 ((m - 2 + 63) / 64) (fr p (m - 2) 1) ∧ Row w' 33 b2 ((m - 2 + 63) / 64) (fr p (m - 2) 2) ∧ w.grownBy w' none ∧ w.heap.size ≤ b0 ∧ w.heap.size ≤ b1 ∧ w.heap.size ≤ b2 := by
  obtain ⟨W0, hW0, c0, c1, sz0, g0, B0⟩ := box2 w (.int .i64 (m : Nat)) (.slice sp n cap) 27
  obtain ⟨W1, hW1, sz1, g1, B1⟩ := boxn W0 #[.int .i64 0, .slice none 0 0, .int .i64 0, .slice none 0 0, .int .i64 0, .slice none 0 0] 51
  have B01 := B0.kept g1 (by simp)
  have x0 := B01.cell0
  have x1 := B01.cell1
  have h1 := h.kept (gb_trans g0 g1) (by simp)
  have hd : Wd W1.drew sp n (Pk.pack p) := h1
  have z9 := sz0.out
  have n9 : W0.heap.size ≠ w.heap.size := by omega
  have n8 : w.heap.size ≠ W0.heap.size := by omega
  clear z9
  have Bd0 : Bx W1.drew w.heap.size 27 (.int .i64 (m : Nat)) (.slice sp n cap) := B01
  have Bd1 : Bo W1.drew W0.heap.size 51 #[.int .i64 0, .slice none 0 0, .int .i64 0, .slice none 0 0, .int .i64 0, .slice none 0 0] := B1
  have G1 : w.grownBy W1.drew none := gb_drew (gb_trans g0 g1)
  have f0 := fun w h => fromC m n 0 cap sp p M h3 (by decide) w h
  have f1 := fun w h => fromC m n 1 cap sp p M h3 (by decide) w h
  have f2 := fun w h => fromC m n 2 cap sp p M h3 (by decide) w h
  clear h h1 M h3
  generalize (m - 2 + 63) / 64 = k2 at *
  generalize m - 2 = m2 at *
  go_enter Tryd.func18, Tryd.ntmps18
  go_wp2
  go_region_held2 (fun w' => w'.cell? ⟨w.heap.size, 0, none⟩ = some (.int .i64 (m : Nat)) ∧ w'.cell? ⟨w.heap.size, 1, none⟩ = some (.slice sp n cap)) (go_keep) (first | (go_at_call 27; (fail_if_success (guard_hyp g2)); refine (f0 W1.drew hd).mono ?_; rintro e V2 ⟨b0, rfl, r0, g2, l0⟩; have Bk := Bd0.kept g2 (by simp); have t0 := Bk.cell0; have t1 := Bk.cell1; have h2 := hd.kept g2 (by simp)) | (go_at_call 27; (fail_if_success (guard_hyp g3)); guard_hyp g2; refine (f1 V2 h2).mono ?_; rintro e V3 ⟨b1, rfl, r1, g3, l1⟩; have Bl := Bk.kept g3 (by simp); have s0 := Bl.cell0; have s1 := Bl.cell1; have h3 := h2.kept g3 (by simp)) | (go_at_call 27; guard_hyp g3; refine (f2 V3 h3).mono ?_; rintro e V4 ⟨b2, rfl, r2, g4, l2⟩; have Bm := Bl.kept g4 (by simp); have o0 := Bm.cell0; have o1 := Bm.cell1; have BR := Bd1.kept (gb_trans g2 (gb_trans g3 g4)) (by simp); have q0 := BR.cell 0 (v := .int .i64 0) rfl; have q1 := BR.cell 1 (v := .slice none 0 0) rfl; have q2 := BR.cell 2 (v := .int .i64 0) rfl; have q3 := BR.cell 3 (v := .slice none 0 0) rfl; have q4 := BR.cell 4 (v := .int .i64 0) rfl; have q5 := BR.cell 5 (v := .slice none 0 0) rfl; have p0 := BR.frozen 0; have p1 := BR.frozen 1; have p2 := BR.frozen 2; have p3 := BR.frozen 3; have p4 := BR.frozen 4; have p5 := BR.frozen 5))
  all_goals go_wp2
  all_goals have r04 := (r0.kept g3 (by simp)).kept g4 (by simp)
  all_goals have r14 := r1.kept g4 (by simp)
  all_goals have g9 : w.grownBy V4 none := gb_trans G1 (gb_trans g2 (gb_trans g3 g4))
  all_goals have q9 : w.heap.size < W0.heap.size := by have := sz0.out; omega
  all_goals have q8 : W0.heap.size < W1.drew.heap.size := B1.lt
  all_goals have z2 := g2.size
  all_goals have z3 := g3.size
  all_goals refine ret_a1 (g := W0.heap.size) (t := 51) rfl underSI (by kernel_rfl) rfl (bo6 BR _ _ _ _ _ _) rfl ?_
  all_goals exact ⟨b0, b1, b2, rfl, far6 r04 (by omega) _ _ _ _ _ _, far6 r14 (by omega) _ _ _ _ _ _, far6 r2 (by omega) _ _ _ _ _ _, (gb_new (gb_new (gb_new (gb_new (gb_new (gb_new g9 (Nat.le_of_lt q9) _) (Nat.le_of_lt q9) _) (Nat.le_of_lt q9) _) (Nat.le_of_lt q9) _) (Nat.le_of_lt q9) _) (Nat.le_of_lt q9) _), by omega, by omega, by omega⟩
end Go.Proofs.YtkgipjabkalnaaaDoor.Pd
