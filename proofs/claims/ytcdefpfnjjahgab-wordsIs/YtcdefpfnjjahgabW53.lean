/- The document's Is, of every four rows. -/
import Derived.Test.YtcdefpfnjjahgabW52
namespace Go.Proofs.Ytcdefpfnjjahgab
open Go.RowKit
set_option linter.unusedVariables false
set_option linter.unusedSimpArgs false

/-- What the first digits say. -/
def sN (pp : Nat → Nat → Bool) : Nat → Nat → Nat
  | 0, _ => 0
  | d + 1, t => sN pp d t + (if pp d t then 2 ^ d else 0)
theorem sN_lt (pp : Nat → Nat → Bool) (t : Nat) : ∀ d, sN pp d t < 2 ^ d
  | 0 => by show 0 < 1; decide
  | d + 1 => by
    have := sN_lt pp t d
    show sN pp d t + (if pp d t then 2 ^ d else 0) < 2 ^ (d + 1)
    rw [Nat.pow_succ]
    split <;> omega
theorem isN_sN (pp : Nat → Nat → Bool) (v t : Nat) (hv : v ≤ 15) : isN pp v 4 t = decide (sN pp 4 t = v) := by
  have key : ∀ a b c d : Bool, ∀ x : Fin 16, ((((true && (if x.val.testBit 0 then a else !a)) && (if x.val.testBit 1 then b else !b)) && (if x.val.testBit 2 then c else !c)) && (if x.val.testBit 3 then d else !d)) = decide ((((0 + (if a then 2 ^ 0 else 0)) + (if b then 2 ^ 1 else 0)) + (if c then 2 ^ 2 else 0)) + (if d then 2 ^ 3 else 0) = x.val) := by decide
  exact key (pp 0 t) (pp 1 t) (pp 2 t) (pp 3 t) ⟨v, by omega⟩
theorem rws_b8 {r : Nat → RD} {W : World} {q : Nat} (h : B8 W q 36 (.int .i64 (r 0).N) (.slice (r 0).sp (r 0).n (r 0).cap) (.int .i64 (r 1).N) (.slice (r 1).sp (r 1).n (r 1).cap) (.int .i64 (r 2).N) (.slice (r 2).sp (r 2).n (r 2).cap) (.int .i64 (r 3).N) (.slice (r 3).sp (r 3).n (r 3).cap)) (hok : ∀ d, d < 4 → (r d).ok W) : Rws W q 4 r := by
  intro j hj
  have hok' : RD.ok W (r j) := hok j hj
  rcases (show j = 0 ∨ j = 1 ∨ j = 2 ∨ j = 3 by omega) with rfl | rfl | rfl | rfl
  · exact ⟨h.c0, h.c1, hok'⟩
  · exact ⟨h.c2, h.c3, hok'⟩
  · exact ⟨h.c4, h.c5, hok'⟩
  · exact ⟨h.c6, h.c7, hok'⟩
set_option maxRecDepth 100000 in
set_option maxHeartbeats 2000000 in
theorem refIsU (r : Nat → RD) (v : Int) (w : World) (hok : ∀ d, d < 4 → (r d).ok w) :
    Calls Try.prog 18 #[.agg #[.int .i64 (r 0).N, .slice (r 0).sp (r 0).n (r 0).cap, .int .i64 (r 1).N, .slice (r 1).sp (r 1).n (r 1).cap, .int .i64 (r 2).N, .slice (r 2).sp (r 2).n (r 2).cap, .int .i64 (r 3).N, .slice (r 3).sp (r 3).n (r 3).cap], .int .i64 v] w (Made (isAns r v) w) := by
  obtain ⟨W1, hW1, hA, sz1, g1⟩ := box8 w 36 (.int .i64 (r 0).N) (.slice (r 0).sp (r 0).n (r 0).cap) (.int .i64 (r 1).N) (.slice (r 1).sp (r 1).n (r 1).cap) (.int .i64 (r 2).N) (.slice (r 2).sp (r 2).n (r 2).cap) (.int .i64 (r 3).N) (.slice (r 3).sp (r 3).n (r 3).cap)
  obtain ⟨W2, hW2, d0, d1, sz2, g2, hR⟩ := box2 W1 (.int .i64 0) (.slice none 0 0) 31
  have G2 := gb_trans g1 g2
  have hA2 := hA.kept g2
  obtain ⟨W3, hW3, hL, sz3, g3⟩ := box8 W2 31 (.int .i64 (r 0).N) (.slice (r 0).sp (r 0).n (r 0).cap) (.int .i64 (r 1).N) (.slice (r 1).sp (r 1).n (r 1).cap) (.int .i64 (r 2).N) (.slice (r 2).sp (r 2).n (r 2).cap) (.int .i64 (r 3).N) (.slice (r 3).sp (r 3).n (r 3).cap)
  have G3 := gb_trans G2 g3
  have hA3 := hA2.kept g3
  have hR3 := hR.kept g3 (by simp)
  have hRw : Rws W3 W2.heap.size 4 r := by
    intro j hj
    have hok' : RD.ok W3 (r j) := (hok j hj).kept G3 (by simp)
    rcases (show j = 0 ∨ j = 1 ∨ j = 2 ∨ j = 3 by omega) with rfl | rfl | rfl | rfl
    · exact ⟨hL.c0, hL.c1, hok'⟩
    · exact ⟨hL.c2, hL.c3, hok'⟩
    · exact ⟨hL.c4, hL.c5, hok'⟩
    · exact ⟨hL.c6, hL.c7, hok'⟩
  have hfi := fitsC W2.heap.size 4 4 r (some ⟨W2.heap.size, 0, none⟩) (fun _ => rfl) (by omega) W3 hRw
  have a0 := hA2.c0
  have a1 := hA2.c1
  have a2 := hA2.c2
  have a3 := hA2.c3
  have a4 := hA2.c4
  have a5 := hA2.c5
  have a6 := hA2.c6
  have a7 := hA2.c7
  obtain ⟨fs, hfs⟩ := underR
  unfold isAns
  by_cases hz : alikeZ r 4 = 0
  · rw [if_pos hz]
    rw [hz] at hfi
    clear hRw
    by_cases hv : v < 0 ∨ 15 < v
    · rw [if_pos hv]
      clear hz
      by_cases h0 : v < 0
      · have hv0 : decide (v < 0) = true := by simpa using h0
        clear hv h0
        go_enter Try.func18, Try.ntmps18
        go_wp2_with (first | (go_at_call 31; refine hfi.mono ?_; rintro e w4 ⟨rfl, g4⟩; have hR4 := hR3.kept g4 (by simp); have y2 := hR4.free0; have y3 := hR4.free1; have y0 := hR4.cell0; have y1 := hR4.cell1))
        refine ret_box2 (g := W1.heap.size) (t := 31) rfl hfs infoR rfl (hR4.set _ _) rfl ?_
        exact made_bad 2 (gb_new (gb_new (gb_trans G3 g4) g1.size _) g1.size _)
      · have hv0 : decide (v < 0) = false := by simpa using h0
        have hv1 : decide ((15 : Int) < v) = true := by simp; omega
        clear hv h0
        go_enter Try.func18, Try.ntmps18
        go_wp2_with (first | (go_at_call 31; refine hfi.mono ?_; rintro e w4 ⟨rfl, g4⟩; have hR4 := hR3.kept g4 (by simp); have y2 := hR4.free0; have y3 := hR4.free1; have y0 := hR4.cell0; have y1 := hR4.cell1))
        refine ret_box2 (g := W1.heap.size) (t := 31) rfl hfs infoR rfl (hR4.set _ _) rfl ?_
        exact made_bad 2 (gb_new (gb_new (gb_trans G3 g4) g1.size _) g1.size _)
    · rw [if_neg hv]
      obtain ⟨v, rfl⟩ : ∃ x : Nat, v = x := ⟨v.toNat, by omega⟩
      obtain ⟨m, n, pp, F⟩ := four_of (fun d hd => (hok d hd).2.1) hz
      have hv0 : decide ((v : Int) < 0) = false := by simp
      have hv1 : decide ((15 : Int) < (v : Int)) = false := by simp; omega
      have eN : (r 0).N = (m : Int) := F.eN 0 (by decide)
      have HM := (F.may 0 (by decide))
      have hml := HM.le
      have hnl := HM.len
      have HNW : Hid (n = (m + 63) / 64) := HM.words
      obtain ⟨c, hcc⟩ : ∃ c : Nat, Hid (c = (m + 63) / 64) := ⟨_, rfl⟩
      have hrow := fun w b h => refRowC m m (some ⟨b, 0, none⟩) (fun t => isN (fun d => Pk.bitAt (r d).f) v 4 t) hml w h
      rw [← hcc.out] at hrow
      have hbit : ∀ d, d < 4 → ∀ i, i < m → ∀ W, Wd W (r d).sp (r d).n (r d).f → Calls Try.prog 32 #[.agg #[.int .i64 (r d).N, .slice (r d).sp (r d).n (r d).cap], .int .i64 i] W fun e w' => e = .returned (.bool (Pk.bitAt (r d).f i)) ∧ W.grownBy w' none := fun d hd i hi W h =>
        refBitC (r d).N i (r d).n (r d).cap (r d).sp (r d).f (hok d hd).2.1 (by rw [F.en d hd]; have := HNW.out; omega) (by rw [F.en d hd]; exact hnl) W h
      have hwd : ∀ d, d < 4 → ∀ W, w.grownBy W none → Wd W (r d).sp (r d).n (r d).f := fun d hd W h => (hok d hd).1.kept h (by simp)
      obtain ⟨mc, hmk, hmc⟩ := madeB m (by omega)
      have hv15 : v ≤ 15 := by omega
      have eA : okAns (r 0).N.toNat (fun t => isN (fun d => Pk.bitAt (r d).f) ((v : Nat) : Int).toNat 4 t && decide (t < (r 0).N.toNat)) = okAns m (fun t => isN (fun d => Pk.bitAt (r d).f) v 4 t && decide (t < m)) := by rw [eN, Int.toNat_natCast, Int.toNat_natCast]
      rw [eA]
      clear eA
      have HEN : Hid ((r 0).N = (m : Int)) := eN
      clear eN F HM
      go_enter Try.func18, Try.ntmps18
      go_wp2_with (first | (go_at_call 31; refine hfi.mono ?_; rintro e w4 ⟨rfl, g4⟩; have hR4 := hR3.kept g4 (by simp); have hA4 := hA3.kept g4; have b0 := hA4.c0; rw [HEN.out] at b0; obtain ⟨W5, hW5⟩ : ∃ W5, w4.alloc (.cells mc 4) = W5 := ⟨_, rfl⟩; have g5 : w4.grownBy W5 none := (by rw [← hW5]; exact World.grownBy_alloc _ _ _); have hr5 : W5.rowIs w4.heap.size 4 m (fun _ => .bool false) := (by rw [← hW5]; exact hmc w4)))
      have hA5 := hA4.kept g5
      have hR5 := hR4.kept g5 (by simp)
      have G5 : w.grownBy W5 none := gb_trans G3 (gb_trans g4 g5)
      have G4s := (gb_trans G3 g4).size
      have l4 := hR4.lt
      have l5 := hr5.lt
      have lA := hA4.lt
      go_loopw [8] (fun x wr => ∃ i : Nat, i ≤ m ∧ x = .int .i64 i ∧ (∃ F, wr.rowIs w4.heap.size 4 m F ∧ Hid (∀ j, j < i → F j = .bool (isN (fun d => Pk.bitAt (r d).f) v 4 j))) ∧ W5.grownBy wr (some w4.heap.size)) (fun x _ => m - (intOf x).toNat)
      case atStart => exact ⟨0, Nat.zero_le _, rfl, ⟨_, hr5, fun j hj => absurd hj (Nat.not_lt_zero _)⟩, World.grownBy.refl _ _⟩
      case round =>
        obtain ⟨i, hi, rfl, ⟨F, hF, HF⟩, hgi⟩ := hrel
        have hGi : w.grownBy wr none := gb_past G5 hgi G4s
        by_cases hlt : i < m
        · have hlt' : (i : Int) < (m : Int) := by omega
          have hAi : B8 wr w.heap.size 36 (.int .i64 (r 0).N) (.slice (r 0).sp (r 0).n (r 0).cap) (.int .i64 (r 1).N) (.slice (r 1).sp (r 1).n (r 1).cap) (.int .i64 (r 2).N) (.slice (r 2).sp (r 2).n (r 2).cap) (.int .i64 (r 3).N) (.slice (r 3).sp (r 3).n (r 3).cap) := (hgi.block _ (Nat.lt_of_lt_of_le lA g5.size) (fun e => by injection e; omega)).trans hA5
          go_wp2
          go_loopw [9, 10, 11] (fun x y z wr' => ∃ d S P : Nat, d ≤ 4 ∧ z = .int .i64 d ∧ x = .int .i64 S ∧ y = .int .i64 P ∧ Hid (S = sN (fun d => Pk.bitAt (r d).f) d i) ∧ Hid (P = 2 ^ d) ∧ wr.grownBy wr' none) (fun _ _ z _ => 4 - (intOf z).toNat)
          case atStart => exact ⟨0, 0, 1, by omega, rfl, rfl, rfl, rfl, rfl, World.grownBy.refl _ _⟩
          case round =>
            obtain ⟨d, S, P, hd, rfl, rfl, rfl, HS, HP, hgd⟩ := hrel
            have hSl : S ≤ 16 := by
              have h1 := sN_lt (fun d => Pk.bitAt (r d).f) i d
              have h2 : 2 ^ d ≤ 2 ^ 4 := Nat.pow_le_pow_right (by decide) hd
              rw [HS.out]; omega
            have hPl : P ≤ 16 := by
              have h2 : 2 ^ d ≤ 2 ^ 4 := Nat.pow_le_pow_right (by decide) hd
              rw [HP.out]; omega
            by_cases hdl : d < 4
            · have hdl' : (d : Int) < 4 := by omega
              have hGd := gb_trans hGi hgd
              obtain ⟨x0, x1, x2⟩ := rws_b8 (hAi.kept hgd) (fun e he => (hok e he).kept hGd (by simp)) d hdl
              have hb9 := hbit d hdl i hlt wr (hwd d hdl wr hGd)
              have HP' : Hid (2 * P = 2 ^ (d + 1)) := by unfold Hid; rw [HP.out, Nat.pow_succ, Nat.mul_comm]
              have hw2 : IntKind.i64.wrap (2 * (P : Int)) = ((2 * P : Nat) : Int) := by rw [IntKind.wrap_i64]; omega
              cases hb : Pk.bitAt (r d).f i with
              | true =>
                rw [hb] at hb9
                have HS' : Hid (S + P = sN (fun d => Pk.bitAt (r d).f) (d + 1) i) := by
                  show S + P = sN (fun d => Pk.bitAt (r d).f) d i + (if Pk.bitAt (r d).f i then 2 ^ d else 0)
                  rw [hb, if_pos rfl, HS.out, HP.out]
                have hw1 : IntKind.i64.wrap ((S : Int) + (P : Int)) = ((S + P : Nat) : Int) := by rw [IntKind.wrap_i64]; omega
                clear hb
                go_wp2_with (go_at_call 32; refine hb9.mono ?_; rintro e w7 ⟨rfl, g7⟩)
                first
                  | (refine ⟨⟨d + 1, S + P, 2 * P, by omega, by go_num, by first | rfl | simp, by first | rfl | simp, HS', HP', gb_trans hgd g7⟩, ?_⟩; simp [intOf]; omega)
                  | (go_roundw; (case rel => exact ⟨d + 1, S + P, 2 * P, by omega, by go_num, by first | rfl | simp, by first | rfl | simp, HS', HP', gb_trans hgd g7⟩); (case measure => (simp [intOf]; omega)))
              | false =>
                rw [hb] at hb9
                have HS' : Hid (S = sN (fun d => Pk.bitAt (r d).f) (d + 1) i) := by
                  show S = sN (fun d => Pk.bitAt (r d).f) d i + (if Pk.bitAt (r d).f i then 2 ^ d else 0)
                  rw [hb, if_neg (by simp), HS.out]; rfl
                clear hb
                go_wp2_with (go_at_call 32; refine hb9.mono ?_; rintro e w7 ⟨rfl, g7⟩)
                first
                  | (refine ⟨⟨d + 1, S, 2 * P, by omega, by go_num, by first | rfl | simp, by first | rfl | simp, HS', HP', gb_trans hgd g7⟩, ?_⟩; simp [intOf]; omega)
                  | (go_roundw; (case rel => exact ⟨d + 1, S, 2 * P, by omega, by go_num, by first | rfl | simp, by first | rfl | simp, HS', HP', gb_trans hgd g7⟩); (case measure => (simp [intOf]; omega)))
            · have hdl' : ¬ (d : Int) < 4 := by omega
              obtain rfl : d = 4 := by omega
              have hFd := rowIs_kept hF hgd (by simp)
              have u0 := hFd.cell (i := i) hlt
              have u1 := hFd.frozen i
              have hBq : ((S : Int) == (v : Int)) = isN (fun d => Pk.bitAt (r d).f) v 4 i := by
                rw [isN_sN _ _ _ hv15, ← HS.out]
                by_cases e : S = v
                · rw [decide_eq_true e]; simp [e]
                · rw [decide_eq_false e]; simp; omega
              obtain ⟨B, HB⟩ : ∃ B, Hid (isN (fun d => Pk.bitAt (r d).f) v 4 i = B) := ⟨_, rfl⟩
              rw [HB.out] at hBq
              clear HS HP
              go_wp2
              have hrel' : ∃ F', (wr.setCell ⟨w4.heap.size, i, none⟩ (.bool B)).rowIs w4.heap.size 4 m F' ∧ Hid (∀ j, j < i + 1 → F' j = .bool (isN (fun d => Pk.bitAt (r d).f) v 4 j)) := ⟨_, World.rowIs.set hFd i (.bool B), fun j hj => by
                by_cases e : j = i
                · rw [if_pos e, e, HB.out]
                · rw [if_neg e]; exact HF.out j (by omega)⟩
              first
                | (refine ⟨⟨i + 1, by omega, by go_num, hrel', gb_set (gb_none hgi hgd) _ _⟩, ?_⟩; simp [intOf]; omega)
                | (go_roundw; (case rel => exact ⟨i + 1, by omega, by go_num, hrel', gb_set (gb_none hgi hgd) _ _⟩); (case measure => (simp [intOf]; omega)))
        · have hlt' : ¬ (i : Int) < (m : Int) := by omega
          have Rk := hR5.kept hgi (fun e => by injection e; omega)
          have hbd : Bd wr (some ⟨w4.heap.size, 0, none⟩) m (fun t => isN (fun d => Pk.bitAt (r d).f) v 4 t) := full_bd hF (fun j hj => HF.out j (by omega)) (Nat.le_refl _)
          go_wp2_with (go_at_call 33; refine (hrow _ w4.heap.size hbd).mono ?_; rintro e w8 ⟨b8, rfl, hr8, g8, hb8⟩; have R8 := Rk.kept g8 (by simp); have z2 := R8.free0; have z3 := R8.free1; have z0 := R8.cell0; have z1 := R8.cell1)
          refine ret_box2 (g := W1.heap.size) (t := 31) rfl hfs infoR rfl (R8.set _ _) rfl ?_
          have sk := hgi.size
          have hne : b8 ≠ W1.heap.size := by omega
          have hr9 := World.rowIs.setOther (World.rowIs.setOther hr8 (a := ⟨W1.heap.size, 0, none⟩) hne (.int .i64 m)) (a := ⟨W1.heap.size, 1, none⟩) hne (.slice (some ⟨b8, 0, none⟩) c c)
          have hg9 := gb_new (gb_new (gb_trans hGi g8) (a := ⟨W1.heap.size, 0, none⟩) g1.size (.int .i64 m)) (a := ⟨W1.heap.size, 1, none⟩) g1.size (.slice (some ⟨b8, 0, none⟩) c c)
          have s4 := hGi.size
          rw [hcc.out] at hr9 hg9 ⊢
          exact made_ok (Row.congr hr9 (fun t ht => by rw [Bool.and_comm])) hg9 (by omega)
  · rw [if_neg hz]
    obtain ⟨E, hE⟩ : ∃ E, alikeZ r 4 = E := ⟨_, rfl⟩
    rw [hE] at hfi hz ⊢
    clear hE hRw
    go_enter Try.func18, Try.ntmps18
    go_wp2_with (first | (go_at_call 31; refine hfi.mono ?_; rintro e w4 ⟨rfl, g4⟩; have hR4 := hR3.kept g4 (by simp); have y2 := hR4.free0; have y3 := hR4.free1; have y0 := hR4.cell0; have y1 := hR4.cell1))
    refine ret_box2 (g := W1.heap.size) (t := 31) rfl hfs infoR rfl (hR4.set _ _) rfl ?_
    exact made_bad E (gb_new (gb_new (gb_trans G3 g4) g1.size _) g1.size _)
end Go.Proofs.Ytcdefpfnjjahgab
