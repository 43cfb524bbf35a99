/- Set of every row. -/
import Derived.Test.YtcdefpfnjjahgaaW40
namespace Go.Proofs.Ytcdefpfnjjahgaa
open Go.RowKit
set_option linter.unusedVariables false
set_option linter.unusedSimpArgs false

theorem bitAt_of {n : Nat} {f : Nat → Nat} {p : Nat → Bool} (hp : ∀ k, k < n → f k = Pk.pack p k) {q : Nat} (hq : q < 64 * n) : Pk.bitAt f q = p q := by
  rw [← Pk.bitAt_pack p q]
  unfold Pk.bitAt
  rw [hp (q / 64) (by omega)]
theorem andNot_nat (x y : Nat) (hx : x < 18446744073709551616) (hl : y < 18446744073709551616) : bits .andNot .u64 (x : Int) (y : Int) = ((x &&& (18446744073709551615 ^^^ y) : Nat) : Int) := by
  have hy : x &&& (18446744073709551615 ^^^ y) < 18446744073709551616 := Nat.lt_of_le_of_lt Nat.and_le_left hx
  unfold bits
  simp only [BitVec.ofInt_natCast]
  have hb : (BitVec.ofNat 64 x &&& ~~~ BitVec.ofNat 64 y).toNat = x &&& (18446744073709551615 ^^^ y) := by
    rw [BitVec.toNat_and, BitVec.toNat_ofNat, Nat.mod_eq_of_lt hx, BitVec.not_def, BitVec.toNat_xor, BitVec.toNat_ofNat, Nat.mod_eq_of_lt hl]
    rfl
  have hf : IntKind.u64.wrap (((BitVec.ofNat 64 x &&& ~~~ BitVec.ofNat 64 y).toNat : Nat) : Int) = ((x &&& (18446744073709551615 ^^^ y) : Nat) : Int) := by
    rw [hb, IntKind.wrap_u64]
    omega
  exact hf
theorem pack_clear (p : Nat → Bool) (j : Nat) : Pk.pack p (j / 64) &&& (18446744073709551615 ^^^ Pk.one j) = Pk.pack (fun q => p q && !(q == j)) (j / 64) := by
  apply Nat.eq_of_testBit_eq
  intro t
  have e : (18446744073709551615 : Nat) = 2 ^ 64 - 1 := rfl
  rw [Nat.testBit_and, Nat.testBit_xor, e, Nat.testBit_two_pow_sub_one, Pk.testBit_pack, Pk.testBit_pack]
  unfold Pk.one
  rw [Nat.testBit_two_pow]
  by_cases ht : t < 64
  · by_cases e2 : j % 64 = t
    · have e3 : 64 * (j / 64) + t = j := by omega
      simp [ht, e2, e3]
    · have e3 : ¬ 64 * (j / 64) + t = j := by omega
      simp [ht, e2, e3]
  · simp [ht]
set_option maxRecDepth 100000 in
set_option maxHeartbeats 4000000 in
theorem setU (N : Int) (n cap : Nat) (sp : Option Addr) (f : Nat → Nat) (hf : ∀ k, k < n → f k < 18446744073709551616) (hn : n ≤ 9223372036854775807) (i : Int) (on : Bool) (w : World) (hc : Wd w sp n f) :
    Calls Try.prog 20 #[.agg #[.int .i64 N, .slice sp n cap], .int .i64 i, .bool on] w (Made (setAns N n f i on) w) := by
  obtain ⟨W0, hW0, c0, c1, sz0, g0, B0⟩ := box2 w (.int .i64 N) (.slice sp n cap) 25
  obtain ⟨W1, hW1, d0, d1, sz1, g1, B1⟩ := box2 W0 (.int .i64 0) (.slice none 0 0) 25
  have gg := gb_trans g0 g1
  have B01 := B0.kept g1 (by simp)
  have x0 := B01.cell0
  have x1 := B01.cell1
  obtain ⟨fs, hfs⟩ := underR
  have hv := validC N n cap sp f hf hn W1 (hc.kept gg (by simp))
  have hip := fun w => isPlaceC N i (.slice sp n cap) w
  cases hvb : validB N n f with
  | false =>
    rw [hvb] at hv
    unfold setAns
    rw [if_pos hvb]
    clear hvb
    go_enter Try.func20, Try.ntmps20
    go_wp2_with (go_at_call 13; refine hv.mono ?_; rintro e w2 ⟨rfl, g2⟩; have B2 := B1.kept g2 (by simp); have B02 := B01.kept g2 (by simp); have y2 := B2.free0; have y3 := B2.free1; have y0 := B2.cell0; have y1 := B2.cell1; have x2 := B02.cell0; have x3 := B02.cell1)
    refine ret_box2 (g := W0.heap.size) (t := 25) rfl hfs infoR rfl (B2.set _ _) rfl ?_
    exact made_bad 20 (gb_new (gb_new (gb_trans gg g2) g0.size _) g0.size _)
  | true =>
    rw [hvb] at hv
    obtain ⟨m, p, rfl, M, hp⟩ := may_of_validB hf hvb
    by_cases hi : i < 0 ∨ (m : Int) ≤ i
    · have eI : (decide (0 ≤ i) && decide (i < (m : Int))) = false := by
        rcases hi with h | h
        · rw [decide_eq_false (by omega)]; rfl
        · rw [decide_eq_false (show ¬ i < (m : Int) by omega)]; simp
      rw [eI] at hip
      unfold setAns
      rw [if_neg (by rw [hvb]; simp), if_pos hi]
      clear hvb eI
      go_enter Try.func20, Try.ntmps20
      go_wp2_with (first | (go_at_call 13; refine hv.mono ?_; rintro e w2 ⟨rfl, g2⟩; have B2 := B1.kept g2 (by simp); have B02 := B01.kept g2 (by simp); have y2 := B2.free0; have y3 := B2.free1; have y0 := B2.cell0; have y1 := B2.cell1; have x2 := B02.cell0; have x3 := B02.cell1) | (go_at_call 37; refine (hip w2).mono ?_; rintro e w3 ⟨rfl, g3⟩; have B3 := B2.kept g3 (by simp); have B03 := B02.kept g3 (by simp); have u2 := B3.free0; have u3 := B3.free1; have u0 := B3.cell0; have u1 := B3.cell1; have v0 := B03.cell0; have v1 := B03.cell1))
      refine ret_box2 (g := W0.heap.size) (t := 25) rfl hfs infoR rfl (B3.set _ _) rfl ?_
      exact made_bad 2 (gb_new (gb_new (gb_trans gg (gb_trans g2 g3)) g0.size _) g0.size _)
    · obtain ⟨j, rfl⟩ : ∃ j : Nat, i = j := ⟨i.toNat, by omega⟩
      have eI : (decide (0 ≤ (j : Int)) && decide ((j : Int) < (m : Int))) = true := by rw [decide_eq_true (by omega), decide_eq_true (by omega)]; rfl
      rw [eI] at hip
      have hjm' : j < m := by omega
      have hml := M.len
      have hmw : Hid (n = (m + 63) / 64) := M.words
      have hj64 : j < 64 * n := by have := hmw.out; omega
      have hco := fun w h => copiedC m n cap sp p M.le M.words w (Wd.congr h hp)
      have eA : setAns (m : Int) n f (j : Int) on = okAns m (fun q => decide (q < m) && (if q = j then on else Pk.bitAt f q)) := by
        unfold setAns
        rw [if_neg (by rw [hvb]; simp), if_neg (by omega), Int.toNat_natCast]
        congr 1
        funext q
        by_cases e : q = j
        · rw [if_pos (by omega), if_pos e]
        · rw [if_neg (by omega), if_neg e]
      rw [eA]
      have HP : Hid (∀ q, q < 64 * n → q ≠ j → p q = (decide (q < m) && Pk.bitAt f q)) := fun q hq _ => by
        by_cases h : q < m
        · rw [decide_eq_true h, bitAt_of hp hq]; rfl
        · rw [decide_eq_false h, M.tail q (by omega)]; rfl
      clear hvb eA eI
      cases on with
      | true =>
        go_enter Try.func20, Try.ntmps20
        go_wp2_with (first | (go_at_call 13; refine hv.mono ?_; rintro e w2 ⟨rfl, g2⟩; have B2 := B1.kept g2 (by simp); have B02 := B01.kept g2 (by simp); have y2 := B2.free0; have y3 := B2.free1; have y0 := B2.cell0; have y1 := B2.cell1; have x2 := B02.cell0; have x3 := B02.cell1) | (go_at_call 37; refine (hip w2).mono ?_; rintro e w3 ⟨rfl, g3⟩; have B3 := B2.kept g3 (by simp); have B03 := B02.kept g3 (by simp); have u2 := B3.free0; have u3 := B3.free1; have u0 := B3.cell0; have u1 := B3.cell1; have v0 := B03.cell0; have v1 := B03.cell1) | (go_at_call 39; refine (hco w3 (((hc.kept gg (by simp)).kept g2 (by simp)).kept g3 (by simp))).mono ?_; rintro e w4 ⟨b, rfl, hr4, g4, hb4, hl4⟩; obtain ⟨V4, hV4, p4, q4, sz4, gv4, C4⟩ := box2 w4 (.int .i64 m) (.slice (some ⟨b, 0, none⟩) n n) 25; have lb4 := hl4.out; have hr5 := Row.kept hr4 gv4 (by simp)) | (go_at_call 30; refine (raiseC (m : Int) j b n n p hj64 hml V4 hr5).mono ?_; rintro e w6 ⟨rfl, hr6, g6⟩; have nb : some W0.heap.size ≠ some b := (fun e => by have := Option.some.inj e; have := B3.lt; omega); have B6 := ((B3.kept g4 (by simp)).kept gv4 (by simp)).kept g6 nb; have C6 := C4.kept g6 (fun e => by have := Option.some.inj e; omega); have s0 := B6.cell0; have s1 := B6.cell1; have s2 := B6.free0; have s3 := B6.free1; have s4 := C6.cell0; have s5 := C6.cell1))
        have HQ : Hid (∀ q, q < 64 * n → (p q || q == j) = (decide (q < m) && (if q = j then true else Pk.bitAt f q))) := fun q hq => by
          by_cases e : q = j
          · rw [if_pos e, e, decide_eq_true hjm']; simp
          · rw [if_neg e, HP.out q hq e]; simp [e]
        refine ret_box2 (g := W0.heap.size) (t := 25) rfl hfs infoR rfl (B6.set _ _) rfl ?_
        have e0 := g0.size
        have e2 := g2.size
        have e3 := g3.size
        have eg := gg.size
        have e1 := B1.lt
        have hne : b ≠ W0.heap.size := by omega
        have G := gb_past (gb_trans gg (gb_trans g2 (gb_trans g3 (gb_trans g4 gv4)))) g6 (by omega)
        have hr7 := World.rowIs.setOther (World.rowIs.setOther (Row.congr hr6 HQ.out) (a := ⟨W0.heap.size, 0, none⟩) hne (.int .i64 m)) (a := ⟨W0.heap.size, 1, none⟩) hne (.slice (some ⟨b, 0, none⟩) n n)
        have hg7 := gb_new (gb_new G (a := ⟨W0.heap.size, 0, none⟩) e0 (.int .i64 m)) (a := ⟨W0.heap.size, 1, none⟩) e0 (.slice (some ⟨b, 0, none⟩) n n)
        have hb9 : w.heap.size ≤ b := by omega
        have hw := hmw.out
        subst hw
        exact made_ok hr7 hg7 hb9
      | false =>
        go_enter Try.func20, Try.ntmps20
        go_wp2_with (first | (go_at_call 13; refine hv.mono ?_; rintro e w2 ⟨rfl, g2⟩; have B2 := B1.kept g2 (by simp); have B02 := B01.kept g2 (by simp); have y2 := B2.free0; have y3 := B2.free1; have y0 := B2.cell0; have y1 := B2.cell1; have x2 := B02.cell0; have x3 := B02.cell1) | (go_at_call 37; refine (hip w2).mono ?_; rintro e w3 ⟨rfl, g3⟩; have B3 := B2.kept g3 (by simp); have B03 := B02.kept g3 (by simp); have u2 := B3.free0; have u3 := B3.free1; have u0 := B3.cell0; have u1 := B3.cell1; have v0 := B03.cell0; have v1 := B03.cell1) | (go_at_call 39; refine (hco w3 (((hc.kept gg (by simp)).kept g2 (by simp)).kept g3 (by simp))).mono ?_; rintro e w4 ⟨b, rfl, hr4, g4, hb4, hl4⟩; obtain ⟨V4, hV4, p4, q4, sz4, gv4, C4⟩ := box2 w4 (.int .i64 m) (.slice (some ⟨b, 0, none⟩) n n) 25; have lb4 := hl4.out; have hr5 := Row.kept hr4 gv4 (by simp)))
        have hk := World.rowIs.cell hr5 (i := j / 64) (by omega)
        have hfz := World.rowIs.frozen hr5 (j / 64)
        have z0 := C4.cell0
        have z1 := C4.cell1
        have hbi : (j : Int) / 64 < n := by omega
        have ht : ((j : Int) / 64).toNat = j / 64 := by omega
        have hd : IntKind.i64.wrap ((j : Int) / 64) = ((j / 64 : Nat) : Int) := by rw [IntKind.wrap_i64]; omega
        have hi0 : (0 : Int) ≤ (j : Int) / 64 := by omega
        have han := andNot_nat (Pk.pack p (j / 64)) (Pk.one j) (Pk.pack_lt _ _) (Pk.one_lt j)
        rw [pack_clear] at han
        obtain ⟨V6, hV6⟩ : ∃ V6, V4.setCell ⟨b, j / 64, none⟩ (.int .u64 (Pk.pack (fun q => p q && !(q == j)) (j / 64))) = V6 := ⟨_, rfl⟩
        have hr6 : Row V6 55 b n (fun q => p q && !(q == j)) := by
          rw [← hV6]
          exact hr5.set rfl (fun q _ hq => by
            have : q ≠ j := fun e => hq (by rw [e])
            simp [this])
        have g6 : V4.grownBy V6 (some b) := by rw [← hV6]; exact gb_set (World.grownBy.refl _ _) _ _
        refine region_tail 10 mixed (by kernel_rfl) ?_
        simp only [List.take_succ_cons, List.take_zero, List.drop_succ_cons, List.drop_zero]
        repeat still_step
        still_call (placeMaskC j (by omega) _)
        repeat still_step
        refine wpStill_nil ?_
        have nb : some W0.heap.size ≠ some b := (fun e => by have := Option.some.inj e; have := B3.lt; omega)
        have B6 := ((B3.kept g4 (by simp)).kept gv4 (by simp)).kept g6 nb
        have C6 := C4.kept g6 (fun e => by have := Option.some.inj e; omega)
        have s0 := B6.cell0
        have s1 := B6.cell1
        have s2 := B6.free0
        have s3 := B6.free1
        have s4 := C6.cell0
        have s5 := C6.cell1
        go_wp2
        have HQ : Hid (∀ q, q < 64 * n → (p q && !(q == j)) = (decide (q < m) && (if q = j then false else Pk.bitAt f q))) := fun q hq => by
          by_cases e : q = j
          · rw [if_pos e, e]; simp
          · rw [if_neg e, HP.out q hq e]; simp [e]
        refine ret_box2 (g := W0.heap.size) (t := 25) rfl hfs infoR rfl (B6.set _ _) rfl ?_
        have e0 := g0.size
        have e2 := g2.size
        have e3 := g3.size
        have eg := gg.size
        have e1 := B1.lt
        have hne : b ≠ W0.heap.size := by omega
        have G := gb_past (gb_trans gg (gb_trans g2 (gb_trans g3 (gb_trans g4 gv4)))) g6 (by omega)
        have hr7 := World.rowIs.setOther (World.rowIs.setOther (Row.congr hr6 HQ.out) (a := ⟨W0.heap.size, 0, none⟩) hne (.int .i64 m)) (a := ⟨W0.heap.size, 1, none⟩) hne (.slice (some ⟨b, 0, none⟩) n n)
        have hg7 := gb_new (gb_new (gb_drew G) (a := ⟨W0.heap.size, 0, none⟩) e0 (.int .i64 m)) (a := ⟨W0.heap.size, 1, none⟩) e0 (.slice (some ⟨b, 0, none⟩) n n)
        have hb9 : w.heap.size ≤ b := by omega
        have hw := hmw.out
        subst hw
        exact made_ok hr7 hg7 hb9
end Go.Proofs.Ytcdefpfnjjahgaa
