/- What read of package life answers. -/
import Derived.Test.YtlkdenanbofliaaGreatDoorL5
import Derived.WalkMore
import Derived.Deep.RegionHeld2
import Derived.StillTailTactics
import Derived.Deep.LoopGhost
namespace Go.Proofs.YtlkdenanbofliaaGreatDoor
open Go.RowKit
set_option linter.unusedVariables false
set_option linter.unusedSimpArgs false
set_option maxRecDepth 100000

theorem gb_any {w w' : World} {b : Nat} (h : w.grownBy w' none) : w.grownBy w' (some b) := ⟨h.os, h.tape, h.output, h.size, fun k hk _ => h.block k hk (by simp)⟩
theorem cu_row {w W : World} {b g : Nat} {s : ByteArray} {i : Nat} {cs : Array Value} (hW : w.setRow g cs = W) (hg : g ≠ b) (h : Cu w b s i) : Cu W b s i := by
  subst hW
  exact (setRow_other _ _ _ _ (by omega)).trans h
theorem gb_row2 {w w' : World} {b : Option Nat} (h : w.grownBy w' b) {g : Nat} (hb : w.heap.size ≤ g) {cs : Array Value} : w.grownBy (w'.setRow g cs) b :=
  ⟨h.os, h.tape, h.output, by simpa using h.size, fun k hk hne => (setRow_other _ _ _ _ (by omega)).trans (h.block k hk hne)⟩

theorem ixS0 (x y : Value) (w : World) : (Instr.index 125 (.agg #[x, y]) (.int .i64 0)).run Tryz.prog w = .ok x w := by kernel_rfl
theorem ixS1 (x y : Value) (w : World) : (Instr.index 125 (.agg #[x, y]) (.int .i64 1)).run Tryz.prog w = .ok y w := by kernel_rfl
theorem mixedL : Tryz.prog.follows .mixedOrders = true := by kernel_rfl
theorem cu_dr {w : World} {b : Nat} {s : ByteArray} {k : Nat} (h : Cu w b s k) : Cu w.drew b s k := h
theorem cu_set {w : World} {b g i : Nat} {s : ByteArray} {k : Nat} {v : Value} (hg : g ≠ b) (h : Cu w b s k) : Cu (w.setCell ⟨g, i, none⟩ v) b s k := by
  unfold Cu at h ⊢
  simp [World.setCell, Array.getElem?_modify, h, hg]
theorem d_ex {c : Nat} (h : Lf.isD c = true) : ∃ x, x < 10 ∧ c = x + 48 := by unfold Lf.isD at h; simp at h; exact ⟨c - 48, by omega, by omega⟩
theorem dgAt {x : Nat} (h : x < 10) : ((ByteArray.mk #[48, 49, 50, 51, 52, 53, 54, 55, 56, 57])[x]'(by show _ < 10; exact h)).toNat = x + 48 := by
  match x, h with
  | 0, _ => rfl
  | 1, _ => rfl
  | 2, _ => rfl
  | 3, _ => rfl
  | 4, _ => rfl
  | 5, _ => rfl
  | 6, _ => rfl
  | 7, _ => rfl
  | 8, _ => rfl
  | 9, _ => rfl
theorem infoLf : (Tryz.prog.info? 25).map (·.size) = some 3 := by kernel_rfl
theorem underLf : ∃ fs, Tryz.prog.underlying 25 = some (.struct fs) := ⟨_, Tryz.underlying25⟩
set_option maxHeartbeats 4000000 in
theorem readC (b : Nat) (s : ByteArray) (w : World) (h : Cu w b s 0) (hs : s.size ≤ 1048576) : Calls Tryz.prog 67 #[.pointer (some ⟨b, 0, none⟩)] w fun e w' => e = .returned (.tuple #[.agg #[.int .u8 (Lf.readR s).ho, .int .u16 (Lf.readR s).bo, .int .u16 (Lf.readR s).st], .int .i64 (Lf.readR s).er]) ∧ Cu w' b s (Lf.readR s).a ∧ w.grownBy w' (some b) := by
  obtain ⟨fs, hfs'⟩ := underLf
  have hfs : Hid (Tryz.prog.underlying 25 = some (.struct fs)) := hfs'
  clear hfs'
  have hs' : s.size ≤ maxLen := by unfold maxLen; omega
  have i0' := ixS0
  have i1' := ixS1
  obtain ⟨W1, hW1, sz1, g1, B1⟩ := boxn w #[.int .u8 0, .int .u16 0, .int .u16 0] 25
  obtain ⟨W2, hW2, sz2, g2, B2⟩ := boxn W1 #[.int .u16 0, .int .u16 0] 73
  have h2 := (h.kept g1 (by simp)).kept g2 (by simp)
  have G2 : w.grownBy W2 (some b) := gb_any (gb_trans g1 g2)
  have HM1 : Hid (w.heap.size ≠ b) := by
    have := h.lt
    unfold Hid; omega
  have HM2 : Hid (W1.heap.size ≠ b) := by
    have := h.lt
    have := sz1.out
    unfold Hid; omega
  have HM3 : Hid (W1.heap.size ≠ w.heap.size) := by
    have := sz1.out
    unfold Hid; omega
  have B12 := B1.kept g2 (by simp)
  have ht := takes66 b s 0 W2 h2 (Nat.zero_le _) hs'
  obtain ⟨R, hR⟩ : ∃ R, Lf.readR s = R := ⟨_, rfl⟩
  rw [hR]
  have HR : Hid (Lf.readR s = R) := hR
  clear hR
  cases hq : Lf.tk (Sc.bt s 0) 66 with
  | false =>
    have HQ : Hid (Lf.bad 0 80 = R) := by have := HR.out; unfold Lf.readR at this; rw [hq] at this; exact this
    rw [hq] at ht
    simp only [Bool.false_eq_true, if_false] at ht
    clear hq
    go_enter Tryz.func67, Tryz.ntmps67
    go_wp2
    go_step3
    go_wp2
    go_step3
    go_wp2
    refine wp_loop_rounds 3 ?_
    rw [rounds_succ]
    go_wp2
    refine wp_loop_rounds 2 ?_
    rw [rounds_succ]
    go_wp2_with (first | (go_at_call 82; refine ht.mono ?_; rintro e w3 ⟨rfl, h3, g3⟩; have B13 := B12.kept g3 (by simpa using HM1.out)) | (refine wpList_st (op := ⟨_, .store 25 _ _, _, _, _, _⟩) rfl 25 _ _ rfl w.heap.size #[.int .u8 0, .int .u16 0, .int .u16 0] rfl rfl B13 infoLf rfl (by simp [Value.oneCell']) ?_; intro W9 hW9 B9))
    (try rw [Exit.noGoto_ret])
    refine ret_c2 (g := w.heap.size) (cs := #[.int .u8 0, .int .u16 0, .int .u16 0]) rfl hfs.out infoLf rfl B9 rfl ⟨?_, ?_, ?_⟩
    · rw [← HQ.out]; rfl
    · rw [← HQ.out]; exact cu_row hW9 HM1.out h3
    · exact hW9 ▸ gb_row2 (gb_trans G2 g3) (by omega)
  | true =>
    rw [hq] at ht
    simp only [if_true] at ht
    have HQ : Hid (Lf.read1 s (Lf.dg s 1 0) = R) := by have := HR.out; unfold Lf.readR at this; rw [hq] at this; exact this
    have L0 : 0 < s.size := Lf.tk_lt (by decide) hq
    clear hq
    go_enter Tryz.func67, Tryz.ntmps67
    go_wp2
    go_step3
    go_wp2
    go_step3
    go_wp2
    refine wp_loop_rounds 3 ?_
    rw [rounds_succ]
    go_wp2
    refine wp_loop_rounds 2 ?_
    rw [rounds_succ]
    go_wp2_with (first | (go_at_call 82; refine ht.mono ?_; rintro e w3 ⟨rfl, h3, g3⟩; have B13 := B12.kept g3 (by simpa using HM1.out); have C13 := B2.kept g3 (by simpa using HM2.out); have G3 := gb_trans G2 g3))
    rw [rounds_succ]
    go_wp2_with (first | (go_at_call 83; refine (nextDigitC b s 1 w3 h3 L0).mono ?_; rintro e w4 ⟨rfl, k4, rfl⟩))
    go_loopg [5, 9, 10] (s.size - 1) (fun g vf vn vi wr => ∃ k u : Nat, k + g = s.size ∧ u < 1024 ∧ vf = .int .i64 0 ∧ vn = .int .i64 (Lf.dn (Sc.bt s k)) ∧ vi = .bool (Lf.isD (Sc.bt s k)) ∧ Cu wr b s k ∧ Bo wr w.heap.size 25 #[.int .u8 0, .int .u16 0, .int .u16 0] ∧ Bo wr W1.heap.size 73 #[.int .u16 u, .int .u16 0] ∧ w.grownBy wr (some b) ∧ Hid (Lf.dg s k u = Lf.dg s 1 0))
    case atStart => exact ⟨1, 0, by omega, by decide, rfl, rfl, rfl, h3.drew, B13.drew, C13.drew, gb_drewN G3 _, rfl⟩
    case round =>
      obtain ⟨k, u, hk, hu, rfl, rfl, rfl, hc, hB, hC, hG, hdg⟩ := hrel
      have c0 := hC.cell 0 (v := .int .u16 u) rfl
      have f0 := hC.frozen 0
      cases hd : Lf.isD (Sc.bt s k) with
      | true =>
        have hl := Lf.isD_lt hd
        obtain ⟨x, hx, hbx⟩ := d_ex hd
        have e48 : Sc.bt s k - 48 = x := by omega
        have hH := fun w => hasC u x (by omega) (by omega) w
        rw [Lf.dn_yes hd, e48]
        cases ht2 : u.testBit x with
        | true =>
          rw [ht2] at hH
          have HQ2 : Hid (Lf.bad k 81 = R) := by
            have := HQ.out
            rw [← hdg.out, Lf.dg_tw hd (by rw [e48]; exact ht2)] at this
            exact this
          clear hd ht2 hx hbx e48
          go_wp2_with (first | (go_at_call 36; refine (hH _).mono ?_; rintro e w5 ⟨rfl, hw5⟩; subst w5) | (refine wpList_st (op := ⟨_, .store 25 _ _, _, _, _, _⟩) rfl 25 _ _ rfl w.heap.size #[.int .u8 0, .int .u16 0, .int .u16 0] rfl rfl hB infoLf rfl (by simp [Value.oneCell']) ?_; intro W9 hW9 B9))
          (try rw [Exit.noGoto_ret])
          refine ret_c2 (g := w.heap.size) (cs := #[.int .u8 0, .int .u16 0, .int .u16 0]) rfl hfs.out infoLf rfl B9 rfl ⟨?_, ?_, ?_⟩
          · rw [← HQ2.out]; rfl
          · rw [← HQ2.out]; exact cu_row hW9 HM1.out hc
          · exact hW9 ▸ gb_row2 hG (by omega)
        | false =>
          rw [ht2] at hH
          have hgo : Hid (Lf.dg s (k + 1) (u ||| 2 ^ x) = Lf.dg s 1 0) := by
            have := (Lf.dg_go hd (by rw [e48]; exact ht2)).symm.trans hdg.out
            rw [e48] at this
            exact this
          have hor := or16 u (2 ^ x) (by omega) (Lf.p16 (by omega))
          have hu2 := Lf.or_lt hu hx
          have hbt := fun w => bitC x (by omega) w
          have E1 : Hid (Sc.bt s k = x + 48) := hbx
          have hdx := dgAt hx
          have hx10 : (x : Int) < 10 := by omega
          have htk : ∀ w, Cu w b s k → Calls Tryz.prog 49 #[.pointer (some ⟨b, 0, none⟩), .int .u8 ((x : Int) + 48)] w fun e w' => e = .returned (.bool true) ∧ Cu w' b s (k + 1) ∧ w.grownBy w' (some b) := fun w h => takeIs b (x + 48) s k w h (Nat.le_of_lt hl) hs' (by omega) E1
          have hnd := fun w h => nextDigitC b s (k + 1) w h hl
          generalize u ||| 2 ^ x = u2 at hgo hor hu2
          generalize 2 ^ x = q at hor hbt
          clear hd ht2 hbx e48 hdg
          go_wp2_with (first | (go_at_call 36; refine (hH _).mono ?_; rintro e w5 ⟨rfl, hw5⟩; subst w5))
          obtain ⟨W6, hW6⟩ : ∃ W6, wr.setCell ⟨W1.heap.size, 0, none⟩ (.int .u16 u2) = W6 := ⟨_, rfl⟩
          have hc6 : Cu W6 b s k := hW6 ▸ cu_set HM2.out hc
          have hB6 : Bo W6 w.heap.size 25 #[.int .u8 0, .int .u16 0, .int .u16 0] := hW6 ▸ hB.set2 HM3.out
          have hC6 : Bo W6 W1.heap.size 73 #[.int .u16 u2, .int .u16 0] := hW6 ▸ hC.set 0 _
          have hG6 : w.grownBy W6 (some b) := hW6 ▸ gb_new hG g1.size (.int .u16 u2)
          refine region_tail 7 mixedL (by kernel_rfl) ?_
          simp only [List.take_succ_cons, List.take_zero, List.drop_succ_cons, List.drop_zero]
          iterate 4 still_step
          still_call (hbt _)
          iterate 2 still_step
          refine wpStill_nil ?_
          go_wp2_with (first | (go_at_call 49; refine (htk _ (cu_dr hc6)).mono ?_; rintro e w7 ⟨rfl, h7, g7⟩; have B7 := hB6.dr.kept g7 (by simpa using HM1.out); have C7 := hC6.dr.kept g7 (by simpa using HM2.out); have G7 := gb_trans (gb_drew hG6) g7) | (go_at_call 83; refine (hnd _ h7).mono ?_; rintro e w8 ⟨rfl, k8, rfl⟩))
          go_roundg (gk - 1)
          case measure => omega
          case rel => exact ⟨k + 1, u2, by omega, hu2, rfl, rfl, rfl, h7.drew, B7.drew, C7.drew, gb_drewN G7 _, hgo⟩
      | false =>
        have HQ2 : Hid (Lf.read1 s ⟨false, k, u⟩ = R) := by
          have := HQ.out
          rw [← hdg.out, Lf.dg_no hd] at this
          exact this
        have hsl := takesSlash b s k wr hc (by omega) hs'
        unfold Lf.read1 at HQ2
        simp only [Bool.false_eq_true, if_false] at HQ2
        clear hdg HQ
        by_cases h47 : Sc.bt s k = 47
        · have hkl : k < s.size := by
            by_cases hl : k < s.size
            · exact hl
            · rw [Sc.bt_off hl] at h47; cases h47
          have hS := fun w h => takes83 b s (k + 1) w h hkl hs'
          simp only [h47, if_true, decide_true] at hsl HQ2
          cases hS2 : Lf.tk (Sc.bt s (k + 1)) 83 with
          | false =>
            rw [hS2] at hS HQ2
            simp only [Bool.false_eq_true, if_false] at hS HQ2
            clear hd h47 hS2
            go_wp2
            rw [rounds_succ]
            go_wp2
            refine wp_loop_rounds 3 ?_
            rw [rounds_succ]
            go_wp2_with (first | (go_at_call 82; (fail_if_success (guard_hyp g11)); refine (hsl).mono ?_; rintro e w11 ⟨rfl, h11, g11⟩; have B11 := hB.kept g11 (by simpa using HM1.out); have C11 := hC.kept g11 (by simpa using HM2.out); have G11 := gb_trans hG g11))
            rw [rounds_succ]
            go_wp2_with (first | (go_at_call 82; refine (hS _ h11).mono ?_; rintro e w12 ⟨rfl, h12, g12⟩; have B22 := B11.kept g12 (by simpa using HM1.out); have C22 := C11.kept g12 (by simpa using HM2.out); have G22 := gb_trans G11 g12) | (refine wpList_st (op := ⟨_, .store 25 _ _, _, _, _, _⟩) rfl 25 _ _ rfl w.heap.size #[.int .u8 0, .int .u16 0, .int .u16 0] rfl rfl B22 infoLf rfl (by simp [Value.oneCell']) ?_; intro W9 hW9 B9))
            (try rw [Exit.noGoto_ret])
            refine ret_c2 (g := w.heap.size) (cs := #[.int .u8 0, .int .u16 0, .int .u16 0]) rfl hfs.out infoLf rfl B9 rfl ⟨?_, ?_, ?_⟩
            · rw [← HQ2.out]; rfl
            · rw [← HQ2.out]; exact cu_row hW9 HM1.out h12
            · exact hW9 ▸ gb_row2 G22 (by omega)
          | true =>
            rw [hS2] at hS HQ2
            simp only [if_true] at hS HQ2
            have hkl2 : k + 2 ≤ s.size := Lf.tk_lt (by decide) hS2
            clear hd h47 hS2
            go_wp2
            rw [rounds_succ]
            go_wp2
            refine wp_loop_rounds 3 ?_
            rw [rounds_succ]
            go_wp2_with (first | (go_at_call 82; (fail_if_success (guard_hyp g11)); refine (hsl).mono ?_; rintro e w11 ⟨rfl, h11, g11⟩; have B11 := hB.kept g11 (by simpa using HM1.out); have C11 := hC.kept g11 (by simpa using HM2.out); have G11 := gb_trans hG g11))
            rw [rounds_succ]
            go_wp2_with (first | (go_at_call 82; refine (hS _ h11).mono ?_; rintro e w12 ⟨rfl, h12, g12⟩; have B22 := B11.kept g12 (by simpa using HM1.out); have C22 := C11.kept g12 (by simpa using HM2.out); have G22 := gb_trans G11 g12))
            rw [rounds_succ]
            go_wp2_with (first | (go_at_call 83; refine (nextDigitC b s (k + 2) w12 h12 hkl2).mono ?_; rintro e w4 ⟨rfl, k4, rfl⟩))
            go_loopg [5, 9, 10] (s.size - (k + 2)) (fun g vf vn vi wr => ∃ l v : Nat, l + g = s.size ∧ v < 1024 ∧ vf = .int .i64 0 ∧ vn = .int .i64 (Lf.dn (Sc.bt s l)) ∧ vi = .bool (Lf.isD (Sc.bt s l)) ∧ Cu wr b s l ∧ Bo wr w.heap.size 25 #[.int .u8 0, .int .u16 0, .int .u16 0] ∧ Bo wr W1.heap.size 73 #[.int .u16 u, .int .u16 v] ∧ w.grownBy wr (some b) ∧ Hid (Lf.dg s l v = Lf.dg s (k + 2) 0))
            case atStart => exact ⟨k + 2, 0, by omega, by decide, rfl, rfl, rfl, h12.drew, B22.drew, C22.drew, gb_drewN G22 _, rfl⟩
            case round =>
              clear c0 f0 hc hB hC hG hsl hS h11 B11 C11 G11 h12 B22 C22 G22 hkl hkl2 hk
              obtain ⟨l, v, hk, hv, rfl, rfl, rfl, hc, hB, hC, hG, hdg⟩ := hrel
              have c0 := hC.cell 0 (v := .int .u16 u) rfl
              have c1 := hC.cell 1 (v := .int .u16 v) rfl
              have f1 := hC.frozen 1
              cases hd : Lf.isD (Sc.bt s l) with
              | true =>
                have hl := Lf.isD_lt hd
                obtain ⟨x, hx, hbx⟩ := d_ex hd
                have e48 : Sc.bt s l - 48 = x := by omega
                have hH := fun w => hasC v x (by omega) (by omega) w
                rw [Lf.dn_yes hd, e48]
                cases ht2 : v.testBit x with
                | true =>
                  rw [ht2] at hH
                  have HQ3 : Hid (Lf.bad l 81 = R) := by
                    have := HQ2.out
                    rw [← hdg.out, Lf.dg_tw hd (by rw [e48]; exact ht2)] at this
                    exact this
                  clear hd ht2 hx hbx e48
                  go_wp2_with (first | (go_at_call 36; refine (hH _).mono ?_; rintro e w5 ⟨rfl, hw5⟩; subst w5) | (refine wpList_st (op := ⟨_, .store 25 _ _, _, _, _, _⟩) rfl 25 _ _ rfl w.heap.size #[.int .u8 0, .int .u16 0, .int .u16 0] rfl rfl hB infoLf rfl (by simp [Value.oneCell']) ?_; intro W9 hW9 B9))
                  (try rw [Exit.noGoto_ret])
                  refine ret_c2 (g := w.heap.size) (cs := #[.int .u8 0, .int .u16 0, .int .u16 0]) rfl hfs.out infoLf rfl B9 rfl ⟨?_, ?_, ?_⟩
                  · rw [← HQ3.out]; rfl
                  · rw [← HQ3.out]; exact cu_row hW9 HM1.out hc
                  · exact hW9 ▸ gb_row2 hG (by omega)
                | false =>
                  rw [ht2] at hH
                  have hgo : Hid (Lf.dg s (l + 1) (v ||| 2 ^ x) = Lf.dg s (k + 2) 0) := by
                    have := (Lf.dg_go hd (by rw [e48]; exact ht2)).symm.trans hdg.out
                    rw [e48] at this
                    exact this
                  have hor := or16 v (2 ^ x) (by omega) (Lf.p16 (by omega))
                  have hu2 := Lf.or_lt hv hx
                  have hbt := fun w => bitC x (by omega) w
                  have E1 : Hid (Sc.bt s l = x + 48) := hbx
                  have hdx := dgAt hx
                  have hx10 : (x : Int) < 10 := by omega
                  have htk : ∀ w, Cu w b s l → Calls Tryz.prog 49 #[.pointer (some ⟨b, 0, none⟩), .int .u8 ((x : Int) + 48)] w fun e w' => e = .returned (.bool true) ∧ Cu w' b s (l + 1) ∧ w.grownBy w' (some b) := fun w h => takeIs b (x + 48) s l w h (Nat.le_of_lt hl) hs' (by omega) E1
                  have hnd := fun w h => nextDigitC b s (l + 1) w h hl
                  generalize v ||| 2 ^ x = u2 at hgo hor hu2
                  generalize 2 ^ x = q at hor hbt
                  clear hd ht2 hbx e48 hdg
                  go_wp2_with (first | (go_at_call 36; refine (hH _).mono ?_; rintro e w5 ⟨rfl, hw5⟩; subst w5))
                  obtain ⟨W6, hW6⟩ : ∃ W6, wr.setCell ⟨W1.heap.size, 1, none⟩ (.int .u16 u2) = W6 := ⟨_, rfl⟩
                  have hc6 : Cu W6 b s l := hW6 ▸ cu_set HM2.out hc
                  have hB6 : Bo W6 w.heap.size 25 #[.int .u8 0, .int .u16 0, .int .u16 0] := hW6 ▸ hB.set2 HM3.out
                  have hC6 : Bo W6 W1.heap.size 73 #[.int .u16 u, .int .u16 u2] := hW6 ▸ hC.set 1 _
                  have hG6 : w.grownBy W6 (some b) := hW6 ▸ gb_new hG g1.size (.int .u16 u2)
                  refine region_tail 7 mixedL (by kernel_rfl) ?_
                  simp only [List.take_succ_cons, List.take_zero, List.drop_succ_cons, List.drop_zero]
                  iterate 4 still_step
                  still_call (hbt _)
                  iterate 2 still_step
                  refine wpStill_nil ?_
                  go_wp2_with (first | (go_at_call 49; refine (htk _ (cu_dr hc6)).mono ?_; rintro e w7 ⟨rfl, h7, g7⟩; have B7 := hB6.dr.kept g7 (by simpa using HM1.out); have C7 := hC6.dr.kept g7 (by simpa using HM2.out); have G7 := gb_trans (gb_drew hG6) g7) | (go_at_call 83; refine (hnd _ h7).mono ?_; rintro e w8 ⟨rfl, k8, rfl⟩))
                  go_roundg (gk - 1)
                  case measure => omega
                  case rel => exact ⟨l + 1, u2, by omega, hu2, rfl, rfl, rfl, h7.drew, B7.drew, C7.drew, gb_drewN G7 _, hgo⟩
              | false =>
                have HQ3 : Hid (Lf.read2 s u ⟨false, l, v⟩ = R) := by
                  have := HQ2.out
                  rw [← hdg.out, Lf.dg_no hd] at this
                  exact this
                have hho := fun w h => takeHoodC b s l w h (by omega) hs'
                have hR2 : Hid (Lf.read2 s u ⟨false, l, v⟩ = if Lf.hoodEnd s l = s.size then ⟨Lf.hoodAt s l, u, v, Lf.hoodEnd s l, 0⟩ else Lf.bad (Lf.hoodEnd s l) 80) := rfl
                have HQ4 : Hid ((if Lf.hoodEnd s l = s.size then ⟨Lf.hoodAt s l, u, v, Lf.hoodEnd s l, 0⟩ else Lf.bad (Lf.hoodEnd s l) 80) = R) := hR2.out.symm.trans HQ3.out
                clear hdg HQ2 hd HQ3 hR2
                generalize Lf.hoodAt s l = H at hho HQ4
                generalize Lf.hoodEnd s l = E at hho HQ4
                obtain ⟨Wz, hWz, szz, gz, Bz⟩ := boxn wr #[.int .u8 0, .int .u16 0, .int .u16 0] 25
                have hcz := hc.kept gz (by simp)
                have hBz := hB.kept gz (by simp)
                have hCz := hC.kept gz (by simp)
                have Gz : w.grownBy Wz (some b) := gb_trans hG (gb_any gz)
                have HM4 : Hid (wr.heap.size ≠ b) := by
                  have := hc.lt
                  unfold Hid; omega
                have HM5 : Hid (wr.heap.size ≠ w.heap.size) := by
                  have := hB.lt
                  unfold Hid; omega
                have HM6 : Hid (wr.heap.size ≠ W1.heap.size) := by
                  have := hC.lt
                  unfold Hid; omega
                have cz0 := hCz.cell 0 (v := .int .u16 u) rfl
                have cz1 := hCz.cell 1 (v := .int .u16 v) rfl
                go_wp2
                rw [rounds_succ]
                go_wp2
                go_region_held2 (fun w' => w'.cell? ⟨W1.heap.size, 0, none⟩ = some (.int .u16 u) ∧ w'.cell? ⟨W1.heap.size, 1, none⟩ = some (.int .u16 v)) (go_keep) (first | (go_at_call 84; (fail_if_success (guard_hyp g5)); refine (hho _ (cu_dr hcz)).mono ?_; rintro e w5 ⟨rfl, h5, g5⟩; have G5 := gb_trans (gb_drew Gz) g5; have B5 := hBz.dr.kept g5 (by simpa using HM1.out); have C5 := hCz.dr.kept g5 (by simpa using HM2.out); have Bp5 := Bz.dr.kept g5 (by simpa using HM4.out); have c05 := C5.cell 0 (v := .int .u16 u) rfl; have c15 := C5.cell 1 (v := .int .u16 v) rfl; have f0 := Bp5.frozen 0; have f1 := Bp5.frozen 1; have f2 := Bp5.frozen 2; have b0 := Bp5.cell 0 (v := .int .u8 0) rfl; have b1 := Bp5.cell 1 (v := .int .u16 0) rfl; have b2 := Bp5.cell 2 (v := .int .u16 0) rfl; obtain ⟨W6, hW6⟩ : ∃ W6, ((w5.setCell ⟨wr.heap.size, 0, none⟩ (.int .u8 (H : Nat))).setCell ⟨wr.heap.size, 1, none⟩ (.int .u16 u)).setCell ⟨wr.heap.size, 2, none⟩ (.int .u16 v) = W6 := ⟨_, rfl⟩; have Bp : Bo W6 wr.heap.size 25 #[.int .u8 (H : Nat), .int .u16 u, .int .u16 v] := hW6 ▸ ((Bp5.set 0 _).set 1 _).set 2 _; have h6 : Cu W6 b s E := hW6 ▸ cu_set HM4.out (cu_set HM4.out (cu_set HM4.out h5)); have B6 : Bo W6 w.heap.size 25 #[.int .u8 0, .int .u16 0, .int .u16 0] := hW6 ▸ ((B5.set2 HM5.out).set2 HM5.out).set2 HM5.out; have G6 : w.grownBy W6 (some b) := hW6 ▸ gb_new (gb_new (gb_new G5 hG.size (.int .u8 (H : Nat))) hG.size (.int .u16 u)) hG.size (.int .u16 v); have C6 : Bo W6 W1.heap.size 73 #[.int .u16 u, .int .u16 v] := hW6 ▸ ((C5.set2 HM6.out).set2 HM6.out).set2 HM6.out; have c06 := C6.cell 0 (v := .int .u16 u) rfl; have c16 := C6.cell 1 (v := .int .u16 v) rfl) | (go_at_call 84; (fail_if_success (guard_hyp g5)); refine (hho _ (cu_dr hc)).mono ?_; rintro e w5 ⟨rfl, h5, g5⟩; have G5 := gb_trans (gb_drew hG) g5; have B5 := hB.dr.kept g5 (by simpa using HM1.out); have C5 := hC.dr.kept g5 (by simpa using HM2.out); have c05 := C5.cell 0 (v := .int .u16 u) rfl; have c15 := C5.cell 1 (v := .int .u16 v) rfl; obtain ⟨W6, hW6, sz6, g6, Bp⟩ := boxn w5 #[.int .u8 (H : Nat), .int .u16 u, .int .u16 v] 25; have h6 := h5.kept g6 (by simp); have B6 := B5.kept g6 (by simp); have G6 : w.grownBy W6 (some b) := gb_trans G5 (gb_any g6); have C6 := C5.kept g6 (by simp); have c06 := C6.cell 0 (v := .int .u16 u) rfl; have c16 := C6.cell 1 (v := .int .u16 v) rfl))
                all_goals have p0 := Bp.cell 0 (v := .int .u8 (H : Nat)) rfl
                all_goals have p1 := Bp.cell 1 (v := .int .u16 u) rfl
                all_goals have p2 := Bp.cell 2 (v := .int .u16 v) rfl
                all_goals have hdn := doneC b s E W6 h6
                all_goals clear c05 c15 c06 c16 cz0 cz1 c0 c1
                all_goals by_cases hE : E = s.size
                all_goals (first | rw [if_pos hE] at HQ4 | rw [if_neg hE] at HQ4)
                · have hEq : ((E : Int) == (s.size : Int)) = true := by simp [hE]
                  rw [hEq] at hdn
                  clear hE hEq
                  go_wp2_with (first | (go_at_call 85; refine hdn.mono ?_; rintro e w7 ⟨rfl, k7, rfl⟩) | (refine wpList_st (op := ⟨_, .store 25 _ _, _, _, _, _⟩) rfl 25 _ _ rfl w.heap.size #[.int .u8 (H : Nat), .int .u16 u, .int .u16 v] rfl rfl B6.drew infoLf rfl (by simp [Value.oneCell']) ?_; intro W9 hW9 B9))
                  (try rw [Exit.noGoto_ret])
                  refine ret_c2 (g := w.heap.size) (cs := #[.int .u8 (H : Nat), .int .u16 u, .int .u16 v]) rfl hfs.out infoLf rfl B9 rfl ⟨?_, ?_, ?_⟩
                  · rw [← HQ4.out]; rfl
                  · rw [← HQ4.out]; exact cu_row hW9 HM1.out h6.drew
                  · exact hW9 ▸ gb_row2 (gb_drewN G6 k7) (by omega)
                · have hEq : ((E : Int) == (s.size : Int)) = false := by simp; omega
                  rw [hEq] at hdn
                  clear hE hEq
                  go_wp2_with (first | (go_at_call 85; refine hdn.mono ?_; rintro e w7 ⟨rfl, k7, rfl⟩) | (refine wpList_st (op := ⟨_, .store 25 _ _, _, _, _, _⟩) rfl 25 _ _ rfl w.heap.size #[.int .u8 0, .int .u16 0, .int .u16 0] rfl rfl B6.drew infoLf rfl (by simp [Value.oneCell']) ?_; intro W9 hW9 B9))
                  (try rw [Exit.noGoto_ret])
                  refine ret_c2 (g := w.heap.size) (cs := #[.int .u8 0, .int .u16 0, .int .u16 0]) rfl hfs.out infoLf rfl B9 rfl ⟨?_, ?_, ?_⟩
                  · rw [← HQ4.out]; rfl
                  · rw [← HQ4.out]; exact cu_row hW9 HM1.out h6.drew
                  · exact hW9 ▸ gb_row2 (gb_drewN G6 k7) (by omega)
                · have hEq : ((E : Int) == (s.size : Int)) = true := by simp [hE]
                  rw [hEq] at hdn
                  clear hE hEq
                  go_wp2_with (first | (go_at_call 85; refine hdn.mono ?_; rintro e w7 ⟨rfl, k7, rfl⟩) | (refine wpList_st (op := ⟨_, .store 25 _ _, _, _, _, _⟩) rfl 25 _ _ rfl w.heap.size #[.int .u8 (H : Nat), .int .u16 u, .int .u16 v] rfl rfl B6.drew infoLf rfl (by simp [Value.oneCell']) ?_; intro W9 hW9 B9))
                  (try rw [Exit.noGoto_ret])
                  refine ret_c2 (g := w.heap.size) (cs := #[.int .u8 (H : Nat), .int .u16 u, .int .u16 v]) rfl hfs.out infoLf rfl B9 rfl ⟨?_, ?_, ?_⟩
                  · rw [← HQ4.out]; rfl
                  · rw [← HQ4.out]; exact cu_row hW9 HM1.out h6.drew
                  · exact hW9 ▸ gb_row2 (gb_drewN G6 k7) (by omega)
                · have hEq : ((E : Int) == (s.size : Int)) = false := by simp; omega
                  rw [hEq] at hdn
                  clear hE hEq
                  go_wp2_with (first | (go_at_call 85; refine hdn.mono ?_; rintro e w7 ⟨rfl, k7, rfl⟩) | (refine wpList_st (op := ⟨_, .store 25 _ _, _, _, _, _⟩) rfl 25 _ _ rfl w.heap.size #[.int .u8 0, .int .u16 0, .int .u16 0] rfl rfl B6.drew infoLf rfl (by simp [Value.oneCell']) ?_; intro W9 hW9 B9))
                  (try rw [Exit.noGoto_ret])
                  refine ret_c2 (g := w.heap.size) (cs := #[.int .u8 0, .int .u16 0, .int .u16 0]) rfl hfs.out infoLf rfl B9 rfl ⟨?_, ?_, ?_⟩
                  · rw [← HQ4.out]; rfl
                  · rw [← HQ4.out]; exact cu_row hW9 HM1.out h6.drew
                  · exact hW9 ▸ gb_row2 (gb_drewN G6 k7) (by omega)
        · simp only [h47, if_false, decide_false] at hsl HQ2
          clear hd h47
          go_wp2
          rw [rounds_succ]
          go_wp2
          refine wp_loop_rounds 3 ?_
          rw [rounds_succ]
          go_wp2_with (first | (go_at_call 82; (fail_if_success (guard_hyp g11)); refine (hsl).mono ?_; rintro e w11 ⟨rfl, h11, g11⟩; have B11 := hB.kept g11 (by simpa using HM1.out); have C11 := hC.kept g11 (by simpa using HM2.out); have G11 := gb_trans hG g11) | (refine wpList_st (op := ⟨_, .store 25 _ _, _, _, _, _⟩) rfl 25 _ _ rfl w.heap.size #[.int .u8 0, .int .u16 0, .int .u16 0] rfl rfl B11 infoLf rfl (by simp [Value.oneCell']) ?_; intro W9 hW9 B9))
          (try rw [Exit.noGoto_ret])
          refine ret_c2 (g := w.heap.size) (cs := #[.int .u8 0, .int .u16 0, .int .u16 0]) rfl hfs.out infoLf rfl B9 rfl ⟨?_, ?_, ?_⟩
          · rw [← HQ2.out]; rfl
          · rw [← HQ2.out]; exact cu_row hW9 HM1.out h11
          · exact hW9 ▸ gb_row2 G11 (by omega)
end Go.Proofs.YtlkdenanbofliaaGreatDoor
