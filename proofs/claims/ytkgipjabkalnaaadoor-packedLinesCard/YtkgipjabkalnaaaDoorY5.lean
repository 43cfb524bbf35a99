/- The cells that live next. -/
import Derived.Test.YtkgipjabkalnaaaDoorY4
namespace Go.Proofs.YtkgipjabkalnaaaDoor.Pd
open Go.RowKit
set_option linter.unusedVariables false
set_option linter.unusedSimpArgs false
set_option maxRecDepth 100000

theorem or16 (a b : Nat) (ha : a < 65536) (hb : b < 65536) : bits .or .u16 (a : Int) (b : Int) = ((a ||| b : Nat) : Int) := (bits_nat .u16 16 (by decide) (fun n h0 h1 => by rw [IntKind.wrap_u16]; omega) a b ha hb).2
theorem or16_lt {a b : Nat} (ha : a < 65536) (hb : b < 65536) : a ||| b < 65536 := Nat.or_lt_two_pow (n := 16) ha hb
/-- Which blocks are written. -/
def S2 (x y : Nat) (i : Nat) : Prop := i = x ∨ i = y
theorem gs_l {x y : Nat} {a b c : World} (h : Wo.Gs (S2 x y) a b) (k : b.grownBy c (some x)) : Wo.Gs (S2 x y) a c :=
  ⟨k.os.trans h.os, k.tape.trans h.tape, k.output.trans h.output, Nat.le_trans h.size k.size, fun i hi hn => (k.block i (Nat.lt_of_lt_of_le hi h.size) (fun e => hn (.inl (by simpa using e)))).trans (h.block i hi hn)⟩
theorem gs_r {x y : Nat} {a b c : World} (h : Wo.Gs (S2 x y) a b) (k : b.grownBy c (some y)) : Wo.Gs (S2 x y) a c :=
  ⟨k.os.trans h.os, k.tape.trans h.tape, k.output.trans h.output, Nat.le_trans h.size k.size, fun i hi hn => (k.block i (Nat.lt_of_lt_of_le hi h.size) (fun e => hn (.inr (by simpa using e)))).trans (h.block i hi hn)⟩
theorem bo_gs {S : Nat → Prop} {a b : World} {g : Nat} {t : TypeId} {cs : Array Value} (h : Bo a g t cs) (k : Wo.Gs S a b) (hn : ¬ S g) : Bo b g t cs := (k.block g h.lt hn).trans h
theorem bx_gs {S : Nat → Prop} {a b : World} {g : Nat} {t : TypeId} {x y : Value} (h : Bx a g t x y) (k : Wo.Gs S a b) (hn : ¬ S g) : Bx b g t x y := (k.block g h.lt hn).trans h
theorem ga_yes {c : Nat} {pp : Nat → Nat → Bool} {m v : Nat} (h : c.testBit v = true) (t : Nat) : (ga c pp m v t || (Wo.isN pp v 4 t && decide (t < m))) = ga c pp m (v + 1) t := by rw [ga, h, Bool.true_and]
theorem ga_no {c : Nat} {pp : Nat → Nat → Bool} {m v : Nat} (h : c.testBit v = false) (t : Nat) : ga c pp m v t = ga c pp m (v + 1) t := by rw [ga, h, Bool.false_and, Bool.or_false]
set_option maxHeartbeats 2000000 in
theorem toldC (ho bo st m k : Nat) (hb : bo < 65536) (hs : st < 65536) (hm : m ≤ 65538) (hk : k = (m + 63) / 64) (ph : Nat → Bool) (pp : Nat → Nat → Bool) (b c0 c1 c2 c3 : Nat) (w : World) (hr : Row w 33 b k ph) (Mh : MayBe m k ph) (M : ∀ d, d < 4 → MayBe m k (pp d)) (r0 : Row w 33 c0 k (pp 0)) (r1 : Row w 33 c1 k (pp 1)) (r2 : Row w 33 c2 k (pp 2)) (r3 : Row w 33 c3 k (pp 3)) :
    Calls Tryd.prog 25 #[.agg #[.int .u8 (ho : Nat), .int .u16 (bo : Nat), .int .u16 (st : Nat)], .agg #[.int .i64 (m : Nat), .slice (some ⟨b, 0, none⟩) k k], .agg #[.int .i64 (m : Nat), .slice (some ⟨c0, 0, none⟩) k k, .int .i64 (m : Nat), .slice (some ⟨c1, 0, none⟩) k k, .int .i64 (m : Nat), .slice (some ⟨c2, 0, none⟩) k k, .int .i64 (m : Nat), .slice (some ⟨c3, 0, none⟩) k k]] w fun e w' => ∃ z, e = .returned (.agg #[.int .i64 (m : Nat), .slice (some ⟨z, 0, none⟩) k k]) ∧ Row w' 33 z k (tl bo st ph pp m) ∧ w.grownBy w' none ∧ w.heap.size ≤ z := by
  have hnw := Wo.newC m hm
  rw [← hk] at hnw
  have HK : Hid (k = (m + 63) / 64) := hk
  clear hk
  obtain ⟨W1, hW1, sz1, g1, B1⟩ := boxn w #[.int .u8 (ho : Nat), .int .u16 (bo : Nat), .int .u16 (st : Nat)] 24
  obtain ⟨W2, hW2, d0, d1, sz2, g2, B2⟩ := box2 W1 (.int .i64 (m : Nat)) (.slice (some ⟨b, 0, none⟩) k k) 27
  obtain ⟨W3, hW3, sz3, g3, B3⟩ := boxn W2 #[.int .i64 (m : Nat), .slice (some ⟨c0, 0, none⟩) k k, .int .i64 (m : Nat), .slice (some ⟨c1, 0, none⟩) k k, .int .i64 (m : Nat), .slice (some ⟨c2, 0, none⟩) k k, .int .i64 (m : Nat), .slice (some ⟨c3, 0, none⟩) k k] 61
  obtain ⟨W4, hW4, e0, e1, sz4, g4, B4⟩ := box2 W3 (.int .i64 0) (.slice none 0 0) 27
  have G4 : w.grownBy W4 none := gb_trans g1 (gb_trans g2 (gb_trans g3 g4))
  have B24 := B2.kept (gb_trans g3 g4) (by simp)
  have x0 := B24.cell0
  have x1 := B24.cell1
  go_enter Tryd.func25, Tryd.ntmps25
  go_wp2_with (first | (go_at_call 30; (fail_if_success (guard_hyp gV)); refine (hnw W4).mono ?_; rintro e V ⟨b1, rfl, rb, gV, l1⟩; obtain ⟨W5, hW5, f0, f1, sz5, g5, B5⟩ := box2 V (.int .i64 (m : Nat)) (.slice (some ⟨b1, 0, none⟩) k k) 27; have B25 := B24.kept (gb_trans gV g5) (by simp); have y0 := B25.cell0; have y1 := B25.cell1) | (go_at_call 30; guard_hyp gV; refine (hnw W5).mono ?_; rintro e V2 ⟨b2, rfl, rs, gV2, l2⟩; obtain ⟨W6, hW6, h0, h1, sz6, g6, B6⟩ := box2 V2 (.int .i64 (m : Nat)) (.slice (some ⟨b2, 0, none⟩) k k) 27))
  have z1 := sz1.out
  have z2 := sz2.out
  have z3 := sz3.out
  have z4 := sz4.out
  have z5 := sz5.out
  have z6 := sz6.out
  have y5 := gV.size
  have y6 := gV2.size
  have rb6 := (rb.kept g5 (by simp)).kept (gb_trans gV2 g6) (by simp)
  have rs6 := rs.kept g6 (by simp)
  have lb1 : b1 < V.heap.size := World.rowIs.lt rb
  have lb2 : b2 < V2.heap.size := World.rowIs.lt rs
  have G6 : w.grownBy W6 none := gb_trans G4 (gb_trans (gb_trans gV g5) (gb_trans gV2 g6))
  have P1 := B1.kept (gb_trans g2 (gb_trans g3 (gb_trans g4 (gb_trans (gb_trans gV g5) (gb_trans gV2 g6))))) (by simp)
  have P2 := B24.kept (gb_trans (gb_trans gV g5) (gb_trans gV2 g6)) (by simp)
  have P3 := B3.kept (gb_trans g4 (gb_trans (gb_trans gV g5) (gb_trans gV2 g6))) (by simp)
  have P4 := B4.kept (gb_trans (gb_trans gV g5) (gb_trans gV2 g6)) (by simp)
  have P5 := B5.kept (gb_trans gV2 g6) (by simp)
  have nl : ¬ S2 b1 b2 w.heap.size := by unfold S2; omega
  have nh : ¬ S2 b1 b2 W1.heap.size := by unfold S2; omega
  have nc : ¬ S2 b1 b2 W2.heap.size := by unfold S2; omega
  have nr : ¬ S2 b1 b2 W3.heap.size := by unfold S2; omega
  have nb5 : ¬ S2 b1 b2 V.heap.size := by unfold S2; omega
  have ns : ¬ S2 b1 b2 V2.heap.size := by unfold S2; omega
  have hk1 : k ≤ 1025 := by have := HK.out; omega
  have nbs : b1 ≠ b2 := by omega
  have q1 : w.heap.size ≤ b1 := by omega
  have q2 : w.heap.size ≤ b2 := by omega
  have q3 : ∀ i, S2 b1 b2 i → w.heap.size ≤ i := fun i hi => by unfold S2 at hi; omega
  have L1 : b1 < W6.heap.size := by omega
  have L3 : w.heap.size ≤ W3.heap.size := by omega
  have L2 : b2 < W6.heap.size := by omega
  clear z1 z2 z3 z4 z5 z6 y5 y6 B1 B2 B3 B4 B5 B24 B25 x0 x1 y0 y1 d0 d1 e0 e1 f0 f1 h0 h1 rb rs lb1 lb2 G4 l1 l2 hW1 hW2 hW3 hW4 hW5 hW6 g1 g2 g3 g4 g5 g6 gV gV2 hnw sz1 sz2 sz3 sz4 sz5 sz6
  have hor := or16 bo st hb hs
  have hol := or16_lt hb hs
  have hIs : ∀ (v : Nat) (hv : v ≤ 15) (wr : World), w.grownBy wr none → Calls Tryd.prog 32 #[.agg #[.int .i64 (m : Nat), .slice (some ⟨c0, 0, none⟩) k k, .int .i64 (m : Nat), .slice (some ⟨c1, 0, none⟩) k k, .int .i64 (m : Nat), .slice (some ⟨c2, 0, none⟩) k k, .int .i64 (m : Nat), .slice (some ⟨c3, 0, none⟩) k k], .int .i64 (v : Nat)] wr fun e w' => ∃ t0, e = .returned (.tuple #[.agg #[.int .i64 (m : Nat), .slice (some ⟨t0, 0, none⟩) k k], .int .i64 0]) ∧ Row w' 33 t0 k (fun t => Wo.isN pp v 4 t && decide (t < m)) ∧ wr.grownBy w' none ∧ wr.heap.size ≤ t0 := fun v hv wr hg =>
    Wo.isC m k v (fun _ => k) (fun | 0 => some ⟨c0, 0, none⟩ | 1 => some ⟨c1, 0, none⟩ | 2 => some ⟨c2, 0, none⟩ | _ => some ⟨c3, 0, none⟩) pp M hv wr (fun d hd => by
      rcases (show d = 0 ∨ d = 1 ∨ d = 2 ∨ d = 3 by omega) with rfl | rfl | rfl | rfl
      · exact (r0.kept hg (by simp)).wd
      · exact (r1.kept hg (by simp)).wd
      · exact (r2.kept hg (by simp)).wd
      · exact (r3.kept hg (by simp)).wd)
  clear r0 r1 r2 r3 M
  go_loopw [28] (fun x wr => ∃ v : Nat, v ≤ 9 ∧ x = .int .i64 (v : Nat) ∧ Row wr 33 b1 k (ga bo pp m v) ∧ Row wr 33 b2 k (ga st pp m v) ∧ Wo.Gs (S2 b1 b2) W6 wr) (fun x _ => 9 - (intOf x).toNat)
  case atStart => exact ⟨0, by omega, rfl, rb6, rs6, Wo.Gs.refl _ _⟩
  case round =>
    obtain ⟨v, hv, rfl, rbk, rsk, gk⟩ := hrel
    have Gk : w.grownBy wr none := Wo.Gs.past G6 gk q3
    have BlR := bo_gs P1 gk nl
    have lr1 := BlR.cell 1 (v := .int .u16 (bo : Nat)) rfl
    have lr2 := BlR.cell 2 (v := .int .u16 (st : Nat)) rfl
    by_cases hlt : v < 9
    · have hlt' : (v : Int) < 9 := by omega
      have hh := fun w => hasP (bo ||| st) v hol (by omega) w
      have hhb := fun w => hasP bo v hb (by omega) w
      have hhs := fun w => hasP st v hs (by omega) w
      rw [Nat.testBit_or] at hh
      have BcR := bo_gs P3 gk nc
      have cr0 := BcR.cell 0 (v := .int .i64 (m : Nat)) rfl
      have cr1 := BcR.cell 1 (v := .slice (some ⟨c0, 0, none⟩) k k) rfl
      have cr2 := BcR.cell 2 (v := .int .i64 (m : Nat)) rfl
      have cr3 := BcR.cell 3 (v := .slice (some ⟨c1, 0, none⟩) k k) rfl
      have cr4 := BcR.cell 4 (v := .int .i64 (m : Nat)) rfl
      have cr5 := BcR.cell 5 (v := .slice (some ⟨c2, 0, none⟩) k k) rfl
      have cr6 := BcR.cell 6 (v := .int .i64 (m : Nat)) rfl
      have cr7 := BcR.cell 7 (v := .slice (some ⟨c3, 0, none⟩) k k) rfl
      have hi := hIs v (by omega) wr Gk
      have hwl := gk.size
      cases hbv : bo.testBit v with
      | false =>
        cases hsv : st.testBit v with
        | false =>
          rw [hbv, hsv] at hh
          have hh2 : ∀ w, Calls Tryd.prog 31 #[.int .u16 ((bo ||| st : Nat) : Int), .int .i64 (v : Nat)] w fun e w' => e = .returned (.bool false) ∧ w' = w := hh
          clear hh hi
          go_wp2_with (go_at_call 31; refine (hh2 wr).mono ?_; rintro e X ⟨rfl, hX⟩; subst X)
          refine ⟨⟨v + 1, by omega, by go_num, rbk.congr (fun t _ => ga_no hbv t), rsk.congr (fun t _ => ga_no hsv t), gk⟩, by simp [intOf]; omega⟩
        | true =>
          rw [hbv, hsv] at hh
          rw [hbv] at hhb
          rw [hsv] at hhs
          have hh2 : ∀ w, Calls Tryd.prog 31 #[.int .u16 ((bo ||| st : Nat) : Int), .int .i64 (v : Nat)] w fun e w' => e = .returned (.bool true) ∧ w' = w := hh
          have hhb2 := hhb
          have hhs2 := hhs
          have HBV : Hid _ := hbv
          have HSV : Hid _ := hsv
          clear hh hhb hhs hbv hsv
          go_wp2_with (first | (go_at_call 31; (fail_if_success (guard_hyp mk1)); refine (hh2 wr).mono ?_; rintro e X ⟨rfl, hX⟩; subst X; have mk1 : True := trivial) | (go_at_call 32; refine hi.mono ?_; rintro e Y1 ⟨t0, rfl, rt, gY1, lt0⟩; obtain ⟨Y2, hY2, w0, w1, szY, gY2, YT⟩ := box2 Y1 (.int .i64 (m : Nat)) (.slice (some ⟨t0, 0, none⟩) k k) 27; have gYs := gb_trans gY1 gY2; have BlY := BlR.kept gYs (by simp); have ly1 := BlY.cell 1 (v := .int .u16 (bo : Nat)) rfl; have ly2 := BlY.cell 2 (v := .int .u16 (st : Nat)) rfl; have BbY := (bx_gs P5 gk nb5).kept gYs (by simp); have by0 := BbY.cell0; have by1 := BbY.cell1; have BsY := (bx_gs B6 gk ns).kept gYs (by simp); have sy0 := BsY.cell0; have sy1 := BsY.cell1; have rtY := rt.kept gY2 (by simp); have rbY := rbk.kept gYs (by simp); have rsY := rsk.kept gYs (by simp); have gyz := gY1.size; have gKY := gk.gb gYs) | (go_at_call 31; guard_hyp mk1; (fail_if_success (guard_hyp mk2)); refine (hhb2 Y2).mono ?_; rintro e X ⟨rfl, hX⟩; subst X; have mk2 : True := trivial) | (go_at_call 31; guard_hyp mk2; refine (hhs2 Y2).mono ?_; rintro e X ⟨rfl, hX⟩; subst X) | (go_at_call 33; refine (gatherC m k b2 k k (ga st pp m v) (fun t => Wo.isN pp v 4 t && decide (t < m)) (some ⟨t0, 0, none⟩) (m : Int) hk1 Y2 rsY rtY.wd (fun a e => by cases e; show t0 ≠ b2; omega)).mono ?_; rintro e X2 ⟨rfl, rZ, gZ⟩))
          have hbv := HBV.out
          have hsv := HSV.out
          exact ⟨⟨v + 1, by omega, by go_num, (rbY.kept gZ (by simp; omega)).congr (fun t _ => ga_no hbv t), rZ.congr (fun t _ => ga_yes hsv t), gs_r gKY gZ⟩, by simp [intOf]; omega⟩
      | true =>
        cases hsv : st.testBit v with
        | false =>
          rw [hbv, hsv] at hh
          rw [hbv] at hhb
          rw [hsv] at hhs
          have hh2 : ∀ w, Calls Tryd.prog 31 #[.int .u16 ((bo ||| st : Nat) : Int), .int .i64 (v : Nat)] w fun e w' => e = .returned (.bool true) ∧ w' = w := hh
          have hhb2 := hhb
          have hhs2 := hhs
          have HBV : Hid _ := hbv
          have HSV : Hid _ := hsv
          clear hh hhb hhs hbv hsv
          go_wp2_with (first | (go_at_call 31; (fail_if_success (guard_hyp mk1)); refine (hh2 wr).mono ?_; rintro e X ⟨rfl, hX⟩; subst X; have mk1 : True := trivial) | (go_at_call 32; refine hi.mono ?_; rintro e Y1 ⟨t0, rfl, rt, gY1, lt0⟩; obtain ⟨Y2, hY2, w0, w1, szY, gY2, YT⟩ := box2 Y1 (.int .i64 (m : Nat)) (.slice (some ⟨t0, 0, none⟩) k k) 27; have gYs := gb_trans gY1 gY2; have BlY := BlR.kept gYs (by simp); have ly1 := BlY.cell 1 (v := .int .u16 (bo : Nat)) rfl; have ly2 := BlY.cell 2 (v := .int .u16 (st : Nat)) rfl; have BbY := (bx_gs P5 gk nb5).kept gYs (by simp); have by0 := BbY.cell0; have by1 := BbY.cell1; have BsY := (bx_gs B6 gk ns).kept gYs (by simp); have sy0 := BsY.cell0; have sy1 := BsY.cell1; have rtY := rt.kept gY2 (by simp); have rbY := rbk.kept gYs (by simp); have rsY := rsk.kept gYs (by simp); have gyz := gY1.size; have gKY := gk.gb gYs) | (go_at_call 31; guard_hyp mk1; (fail_if_success (guard_hyp mk2)); refine (hhb2 Y2).mono ?_; rintro e X ⟨rfl, hX⟩; subst X; have mk2 : True := trivial) | (go_at_call 33; (fail_if_success (guard_hyp gX)); refine (gatherC m k b1 k k (ga bo pp m v) (fun t => Wo.isN pp v 4 t && decide (t < m)) (some ⟨t0, 0, none⟩) (m : Int) hk1 Y2 rbY rtY.wd (fun a e => by cases e; show t0 ≠ b1; omega)).mono ?_; rintro e X1 ⟨rfl, rX, gX⟩; have BlX := BlY.kept gX (by simp; exact fun e => nl (.inl e)); have lx1 := BlX.cell 1 (v := .int .u16 (bo : Nat)) rfl; have lx2 := BlX.cell 2 (v := .int .u16 (st : Nat)) rfl; have TX := YT.kept gX (by simp; omega); have tx0 := TX.cell0; have tx1 := TX.cell1; have BsX := BsY.kept gX (by simp; exact fun e => ns (.inl e)); have sx0 := BsX.cell0; have sx1 := BsX.cell1; have rtX := rtY.kept gX (by simp; omega); have rsX := rsY.kept gX (by simp; omega); have gKX := gs_l gKY gX) | (go_at_call 31; guard_hyp mk2; refine (hhs2 X1).mono ?_; rintro e X ⟨rfl, hX⟩; subst X))
          have hbv := HBV.out
          have hsv := HSV.out
          exact ⟨⟨v + 1, by omega, by go_num, rX.congr (fun t _ => ga_yes hbv t), rsX.congr (fun t _ => ga_no hsv t), gKX⟩, by simp [intOf]; omega⟩
        | true =>
          rw [hbv, hsv] at hh
          rw [hbv] at hhb
          rw [hsv] at hhs
          have hh2 : ∀ w, Calls Tryd.prog 31 #[.int .u16 ((bo ||| st : Nat) : Int), .int .i64 (v : Nat)] w fun e w' => e = .returned (.bool true) ∧ w' = w := hh
          have hhb2 := hhb
          have hhs2 := hhs
          have HBV : Hid _ := hbv
          have HSV : Hid _ := hsv
          clear hh hhb hhs hbv hsv
          go_wp2_with (first | (go_at_call 31; (fail_if_success (guard_hyp mk1)); refine (hh2 wr).mono ?_; rintro e X ⟨rfl, hX⟩; subst X; have mk1 : True := trivial) | (go_at_call 32; refine hi.mono ?_; rintro e Y1 ⟨t0, rfl, rt, gY1, lt0⟩; obtain ⟨Y2, hY2, w0, w1, szY, gY2, YT⟩ := box2 Y1 (.int .i64 (m : Nat)) (.slice (some ⟨t0, 0, none⟩) k k) 27; have gYs := gb_trans gY1 gY2; have BlY := BlR.kept gYs (by simp); have ly1 := BlY.cell 1 (v := .int .u16 (bo : Nat)) rfl; have ly2 := BlY.cell 2 (v := .int .u16 (st : Nat)) rfl; have BbY := (bx_gs P5 gk nb5).kept gYs (by simp); have by0 := BbY.cell0; have by1 := BbY.cell1; have BsY := (bx_gs B6 gk ns).kept gYs (by simp); have sy0 := BsY.cell0; have sy1 := BsY.cell1; have rtY := rt.kept gY2 (by simp); have rbY := rbk.kept gYs (by simp); have rsY := rsk.kept gYs (by simp); have gyz := gY1.size; have gKY := gk.gb gYs) | (go_at_call 31; guard_hyp mk1; (fail_if_success (guard_hyp mk2)); refine (hhb2 Y2).mono ?_; rintro e X ⟨rfl, hX⟩; subst X; have mk2 : True := trivial) | (go_at_call 33; (fail_if_success (guard_hyp gX)); refine (gatherC m k b1 k k (ga bo pp m v) (fun t => Wo.isN pp v 4 t && decide (t < m)) (some ⟨t0, 0, none⟩) (m : Int) hk1 Y2 rbY rtY.wd (fun a e => by cases e; show t0 ≠ b1; omega)).mono ?_; rintro e X1 ⟨rfl, rX, gX⟩; have BlX := BlY.kept gX (by simp; exact fun e => nl (.inl e)); have lx1 := BlX.cell 1 (v := .int .u16 (bo : Nat)) rfl; have lx2 := BlX.cell 2 (v := .int .u16 (st : Nat)) rfl; have TX := YT.kept gX (by simp; omega); have tx0 := TX.cell0; have tx1 := TX.cell1; have BsX := BsY.kept gX (by simp; exact fun e => ns (.inl e)); have sx0 := BsX.cell0; have sx1 := BsX.cell1; have rtX := rtY.kept gX (by simp; omega); have rsX := rsY.kept gX (by simp; omega); have gKX := gs_l gKY gX) | (go_at_call 31; guard_hyp mk2; refine (hhs2 X1).mono ?_; rintro e X ⟨rfl, hX⟩; subst X) | (go_at_call 33; guard_hyp gX; refine (gatherC m k b2 k k (ga st pp m v) (fun t => Wo.isN pp v 4 t && decide (t < m)) (some ⟨t0, 0, none⟩) (m : Int) hk1 X1 rsX rtX.wd (fun a e => by cases e; show t0 ≠ b2; omega)).mono ?_; rintro e X2 ⟨rfl, rZ, gZ⟩))
          have hbv := HBV.out
          have hsv := HSV.out
          exact ⟨⟨v + 1, by omega, by go_num, (rX.kept gZ (by simp; omega)).congr (fun t _ => ga_yes hbv t), rZ.congr (fun t _ => ga_yes hsv t), gs_r gKX gZ⟩, by simp [intOf]; omega⟩
    · obtain rfl : v = 9 := by omega
      clear hIs lr1 lr2
      have BhR := bx_gs P2 gk nh
      have hr0 := BhR.cell0
      have hr1 := BhR.cell1
      have hwk := (hr.kept Gk (by simp)).wd
      have bne : b ≠ b1 := by have := World.rowIs.lt hr; omega
      have bne2 : b ≠ b2 := by have := World.rowIs.lt hr; omega
      generalize hGB : ga bo pp m 9 = gB at *
      generalize hGS : ga st pp m 9 = gS at *
      have HGB : Hid (ga bo pp m 9 = gB) := hGB
      have HGS : Hid (ga st pp m 9 = gS) := hGS
      clear hGB hGS
      rename World => WK
      go_wp2
      go_loopw [63] (fun x wq => ∃ i : Nat, i ≤ k ∧ x = .int .i64 (i : Nat) ∧ Row wq 33 b1 k (fun t => if t < 64 * i then (gB t && !ph t) else gB t) ∧ Row wq 33 b2 k (fun t => if t < 64 * i then (gS t && ph t) else gS t) ∧ Wo.Gs (S2 b1 b2) WK wq) (fun x _ => k - (intOf x).toNat)
      case atStart => exact ⟨0, Nat.zero_le _, rfl, rbk.congr (fun t _ => by simp), rsk.congr (fun t _ => by simp), Wo.Gs.refl _ _⟩
      case round =>
        obtain ⟨i, hi, rfl, rbi, rsi, gi⟩ := hrel
        have gi6 : Wo.Gs (S2 b1 b2) W6 wr := ⟨gi.os.trans gk.os, gi.tape.trans gk.tape, gi.output.trans gk.output, Nat.le_trans gk.size gi.size, fun j hj hn => (gi.block j (Nat.lt_of_lt_of_le hj gk.size) hn).trans (gk.block j hj hn)⟩
        have Gi : w.grownBy wr none := Wo.Gs.past G6 gi6 q3
        have BbI := bx_gs P5 gi6 nb5
        have bi0 := BbI.cell0
        have bi1 := BbI.cell1
        have BsI := bx_gs B6 gi6 ns
        have si0 := BsI.cell0
        have si1 := BsI.cell1
        by_cases hlt : i < k
        · have hlt' : (i : Int) < (k : Int) := by omega
          have wi := (hr.kept Gi (by simp)).wd.at hlt
          rw [add_mid, Nat.zero_add] at wi
          have y0 := World.rowIs.cell rbi hlt
          have y1 := World.rowIs.frozen rbi i
          have u0 := World.rowIs.cell rsi hlt
          have u1 := World.rowIs.frozen rsi i
          have n12 : b2 ≠ b1 := by omega
          have nsv : V2.heap.size ≠ b1 := fun e => ns (.inl e)
          have nsw : b1 ≠ V2.heap.size := fun e => ns (.inl e.symm)
          have eB : Hid (Pk.pack (fun t => if t < 64 * i then (gB t && !ph t) else gB t) i = Pk.pack gB i) := Pk.pack_congr fun t ht => by rw [if_neg (by omega)]
          have eS : Hid (Pk.pack (fun t => if t < 64 * i then (gS t && ph t) else gS t) i = Pk.pack gS i) := Pk.pack_congr fun t ht => by rw [if_neg (by omega)]
          rw [eB.out] at y0
          rw [eS.out] at u0
          have hA1 := Wo.andNotW (Pk.pack gB i) (Pk.pack ph i) (Pk.pack_lt _ _) (Pk.pack_lt _ _)
          have hA2 := bits_and_u64_nat (Pk.pack gS i) (Pk.pack ph i) (Pk.pack_lt _ _) (Pk.pack_lt _ _)
          rw [Wo.pack_andNot] at hA1
          rw [Pk.pack_and] at hA2
          have HA1 : Hid _ := hA1
          have HA2 : Hid _ := hA2
          clear hA1 hA2
          go_wp2
          rw [HA1.out, HA2.out]
          refine ⟨⟨i + 1, hlt, by go_num, ?_, ?_, (gi.set ⟨b1, i, none⟩ (.inl rfl) _).set ⟨b2, i, none⟩ (.inr rfl) _⟩, by simp [intOf]; omega⟩
          · refine World.rowIs.setOther (Row.set (q := fun t => if t < 64 * (i + 1) then (gB t && !ph t) else gB t) rbi (Pk.pack_congr fun t ht => by rw [if_pos (by omega)]) (fun t ht hne => ?_)) n12.symm _
            by_cases h1 : t < 64 * i
            · rw [if_pos h1, if_pos (by omega)]
            · rw [if_neg h1, if_neg (by omega)]
          · refine Row.set (q := fun t => if t < 64 * (i + 1) then (gS t && ph t) else gS t) (World.rowIs.setOther rsi n12 _) (Pk.pack_congr fun t ht => by rw [if_pos (by omega)]) (fun t ht hne => ?_)
            by_cases h1 : t < 64 * i
            · rw [if_pos h1, if_pos (by omega)]
            · rw [if_neg h1, if_neg (by omega)]
        · obtain rfl : i = k := by omega
          have hkn : ¬ (i : Int) < (i : Int) := by omega
          have rB := rbi.congr (q := fun t => gB t && !ph t) (fun t ht => by rw [if_pos ht])
          have rS := rsi.congr (q := fun t => gS t && ph t) (fun t ht => by rw [if_pos ht])
          clear rbi rsi
          have Br := bx_gs P4 gi6 nr
          go_wp2_with (go_at_call 33; refine (gatherC m i b1 i i (fun t => gB t && !ph t) (fun t => gS t && ph t) (some ⟨b2, 0, none⟩) (m : Int) hk1 wr rB rS.wd (fun a e => by cases e; show b2 ≠ b1; omega)).mono ?_; rintro e X ⟨rfl, rX, gX⟩; have BbX := BbI.kept gX (by simp; exact fun e => nb5 (.inl e)); have xx0 := BbX.cell0; have xx1 := BbX.cell1; have BrX := Br.kept gX (by simp; exact fun e => nr (.inl e)); have rr0 := BrX.cell0; have rr1 := BrX.cell1; have rf0 := BrX.free0; have rf1 := BrX.free1)
          obtain ⟨fs, hfs⟩ := Wo.underR
          refine ret_box1 (g := W3.heap.size) (t := 27) rfl hfs Wo.infoR rfl (BrX.set _ _) rfl ?_
          have n9 : b1 ≠ W3.heap.size := fun e => nr (.inl e.symm)
          have gF : w.grownBy X none := gb_past Gi gX q1
          have l3 : w.heap.size ≤ W3.heap.size := L3
          refine ⟨b1, rfl, World.rowIs.setOther (World.rowIs.setOther (rX.congr (fun t ht => ?_)) n9 _) n9 _, gb_new (gb_new gF l3 _) l3 _, q1⟩
          unfold tl
          rw [HGB.out, HGS.out]
end Go.Proofs.YtkgipjabkalnaaaDoor.Pd
