/- What Turned of the document answers. -/
import Derived.Test.YtnedofaobhmloaaDoorL14
namespace Go.Proofs.YtnedofaobhmloaaDoor
open Go.RowKit
set_option linter.unusedVariables false
set_option linter.unusedSimpArgs false
set_option maxRecDepth 100000

set_option maxHeartbeats 1000000 in
theorem turnedDbad (ho bo st : Nat) (hh : ho < 256) (hb : bo < 65536) (hs : st < 65536) (w : World) (hc : ¬ ((Lf.ck ho bo st : Nat) : Int) = 0) : Calls Tryd.prog 15 #[.agg #[.int .u8 ho, .int .u16 bo, .int .u16 st]] w fun e w' => e = .returned (.tuple #[.agg #[.int .u8 0, .int .u16 0, .int .u16 0], .int .i64 (Lf.ck ho bo st : Nat)]) ∧ w.grownBy w' none := by
  have hg := fun w => checkD ho bo st hh hb hs w
  generalize Lf.ck ho bo st = q at hg hc ⊢
  obtain ⟨fs, hfs'⟩ := underLf
  have hfs : Hid (Tryd.prog.underlying 26 = some (.struct fs)) := hfs'
  clear hfs'
  obtain ⟨W1, hW1, sz1, g1, B1⟩ := boxn w #[.int .u8 ho, .int .u16 bo, .int .u16 st] 26
  obtain ⟨W2, hW2, sz2, g2, B2⟩ := boxn W1 #[.int .u8 0, .int .u16 0, .int .u16 0] 26
  have B12 := B1.kept g2 (by simp)
  have d0 := B12.cell 0 (v := .int .u8 ho) rfl
  have d1 := B12.cell 1 (v := .int .u16 bo) rfl
  have d2 := B12.cell 2 (v := .int .u16 st) rfl
  have G2 := gb_trans g1 g2
  go_enter Tryd.func15, Tryd.ntmps15
  go_wp2_with (first | (go_at_call 17; refine (hg _).mono ?_; rintro e w3 ⟨rfl, g3⟩; have B23 := B2.kept g3 (by simp); have G3 := gb_trans G2 g3) | (refine wpList_st (op := ⟨_, .store 26 _ _, _, _, _, _⟩) rfl 26 _ _ rfl W1.heap.size #[.int .u8 0, .int .u16 0, .int .u16 0] rfl rfl B23 infoLf rfl (by simp [Value.oneCell']) ?_; intro W9 hW9 B9))
  refine ret_c2 (g := W1.heap.size) (cs := #[.int .u8 0, .int .u16 0, .int .u16 0]) rfl hfs.out infoLf rfl B9 rfl ⟨rfl, hW9 ▸ gb_row2 G3 g1.size⟩
/-- The rule turned, the counts below k looked at. -/
def tq (c m k : Nat) (j : Nat) : Bool := decide (j < k) && !c.testBit (m - j)
theorem ra_of' {w : World} {g : Nat} {t : TypeId} {cs : Array Value} {l : List Value} (h : Bo w g t cs) (hl : Hid (cs.toList = l)) : w.rangeAt g 0 l := by
  rw [← hl.out]
  intro j v hv
  rw [Nat.zero_add]
  exact h.cell j (by simpa using hv)
theorem tq_step (c m k : Nat) : (fun j => if j = k then !c.testBit (m - k) else tq c m k j) = tq c m (k + 1) := by
  funext j
  unfold tq
  by_cases e : j = k
  · subst e; simp
  · by_cases h : j < k
    · have h2 : j < k + 1 := by omega
      simp [e, h, h2]
    · have h2 : ¬ j < k + 1 := by omega
      simp [e, h, h2]
set_option maxHeartbeats 4000000 in
theorem turnedDfine (ho bo st : Nat) (hh : ho < 256) (hb : bo < 65536) (hs : st < 65536) (w : World) (hc : Lf.ck ho bo st = 0) : Calls Tryd.prog 15 #[.agg #[.int .u8 ho, .int .u16 bo, .int .u16 st]] w fun e w' => e = .returned (.tuple #[.agg #[.int .u8 ho, .int .u16 ((Lf.nm (tq st (Lf.mo ho) (Lf.mo ho + 1)) 10 : Nat) : Int), .int .u16 ((Lf.nm (tq bo (Lf.mo ho) (Lf.mo ho + 1)) 10 : Nat) : Int)], .int .i64 0]) ∧ w.grownBy w' none := by
  have hg := fun w => checkD ho bo st hh hb hs w
  rw [hc] at hg
  have hi := Lf.ck_in hc
  have hd := fun w => greatYes ho hi.1 hi.2.1 w
  have hm := Lf.mo_le ho
  generalize Lf.mo ho = m at hd hm ⊢
  clear hi hc
  obtain ⟨fs, hfs'⟩ := underLf
  have hfs : Hid (Tryd.prog.underlying 26 = some (.struct fs)) := hfs'
  clear hfs'
  obtain ⟨W1, hW1, sz1, g1, B1⟩ := boxn w #[.int .u8 ho, .int .u16 bo, .int .u16 st] 26
  obtain ⟨W2, hW2, sz2, g2, B2⟩ := boxn W1 #[.int .u8 0, .int .u16 0, .int .u16 0] 26
  have B12 := B1.kept g2 (by simp)
  have d0 := B12.cell 0 (v := .int .u8 ho) rfl
  have d1 := B12.cell 1 (v := .int .u16 bo) rfl
  have d2 := B12.cell 2 (v := .int .u16 st) rfl
  have G2 := gb_trans g1 g2
  go_enter Tryd.func15, Tryd.ntmps15
  go_wp2_with (first | (go_at_call 17; refine (hg _).mono ?_; rintro e w3 ⟨rfl, g3⟩; have B23 := B2.kept g3 (by simp); have B13 := B12.kept g3 (by simp); have e0 := B13.cell 0 (v := .int .u8 ho) rfl; have G3 := gb_trans G2 g3; obtain ⟨W4, hW4, sz4, g4, B4⟩ := boxn w3 #[.bool false, .bool false, .bool false, .bool false, .bool false, .bool false, .bool false, .bool false, .bool false, .bool false] 59; obtain ⟨W5, hW5, sz5, g5, B5⟩ := boxn W4 #[.bool false, .bool false, .bool false, .bool false, .bool false, .bool false, .bool false, .bool false, .bool false, .bool false] 59) | (go_at_call 29; refine (hd _).mono ?_; rintro e w6 ⟨rfl, hw6⟩; subst w6))
  have P1 := (B13.kept g4 (by simp)).kept g5 (by simp)
  have P2 := (B23.kept g4 (by simp)).kept g5 (by simp)
  have P4 : Bo W5 w3.heap.size 59 (bl (tq st m 0)) := B4.kept g5 (by simp)
  have P5 : Bo W5 W4.heap.size 59 (bl (tq bo m 0)) := B5
  have G5 := gb_trans (gb_trans G3 g4) g5
  have N41 : Hid (w3.heap.size ≠ w.heap.size) := by have := B13.lt; unfold Hid; omega
  have N42 : Hid (w3.heap.size ≠ W1.heap.size) := by have := B23.lt; unfold Hid; omega
  have N51 : Hid (W4.heap.size ≠ w.heap.size) := by have := B13.lt; have := sz4.out; unfold Hid; omega
  have N52 : Hid (W4.heap.size ≠ W1.heap.size) := by have := B23.lt; have := sz4.out; unfold Hid; omega
  have N54 : Hid (W4.heap.size ≠ w3.heap.size) := by have := sz4.out; unfold Hid; omega
  have N21 : Hid (W1.heap.size ≠ w.heap.size) := by have := sz1.out; unfold Hid; omega
  have Z4 : w.heap.size ≤ w3.heap.size := G3.size
  have Z5 : w.heap.size ≤ W4.heap.size := (gb_trans G3 g4).size
  clear e0 d0 d1 d2 B4 B5
  go_loopw [8] (fun i wr => ∃ k : Nat, k ≤ m + 1 ∧ i = .int .i64 k ∧ Bo wr w.heap.size 26 #[.int .u8 ho, .int .u16 bo, .int .u16 st] ∧ Bo wr W1.heap.size 26 #[.int .u8 0, .int .u16 0, .int .u16 0] ∧ Bo wr w3.heap.size 59 (bl (tq st m k)) ∧ Bo wr W4.heap.size 59 (bl (tq bo m k)) ∧ w.grownBy wr none) (fun i _ => m + 1 - (intOf i).toNat)
  case atStart => exact ⟨0, by omega, rfl, P1, P2, P4, P5, G5⟩
  case round =>
    clear P1 P2 P4 P5 G5
    obtain ⟨k, hk, rfl, P1, P2, P4, P5, hG⟩ := hrel
    have c0 := P1.cell 0 (v := .int .u8 ho) rfl
    have c1 := P1.cell 1 (v := .int .u16 bo) rfl
    have c2 := P1.cell 2 (v := .int .u16 st) rfl
    by_cases hlt : k ≤ m
    · have hle : (k : Int) ≤ (m : Int) := by omega
      have hk10 : (k : Int) < 10 := by omega
      have hk10' : k < 10 := by omega
      have b1 : ∀ w, Calls Tryd.prog 35 #[.int .u16 st, .int .i64 ((m : Int) - (k : Int))] w fun e w' => e = .returned (.bool (st.testBit (m - k))) ∧ w' = w := fun w => by
        have := bitD st (m - k) hs (by omega) w
        rw [show ((m - k : Nat) : Int) = (m : Int) - (k : Int) by omega] at this
        exact this
      have b2 : ∀ w, Calls Tryd.prog 35 #[.int .u16 bo, .int .i64 ((m : Int) - (k : Int))] w fun e w' => e = .returned (.bool (bo.testBit (m - k))) ∧ w' = w := fun w => by
        have := bitD bo (m - k) hb (by omega) w
        rw [show ((m - k : Nat) : Int) = (m : Int) - (k : Int) by omega] at this
        exact this
      have hsw : IntKind.i64.wrap ((m : Int) - (k : Int)) = (m : Int) - (k : Int) := by rw [IntKind.wrap_i64]; omega
      have q4 := P4.cell k (bl_at _ k (by omega))
      have f4 := P4.frozen k
      obtain ⟨W6, hW6⟩ : ∃ W6, wr.setCell ⟨w3.heap.size, k, none⟩ (.bool (!st.testBit (m - k))) = W6 := ⟨_, rfl⟩
      have Q1 : Bo W6 w.heap.size 26 #[.int .u8 ho, .int .u16 bo, .int .u16 st] := hW6 ▸ P1.set2 N41.out
      have Q2 : Bo W6 W1.heap.size 26 #[.int .u8 0, .int .u16 0, .int .u16 0] := hW6 ▸ P2.set2 N42.out
      have Q4 : Bo W6 w3.heap.size 59 (bl (tq st m (k + 1))) := by
        have := P4.set k (.bool (!st.testBit (m - k)))
        rw [hW6, bl_set _ k (by omega), tq_step st m k] at this
        exact this
      have Q5 : Bo W6 W4.heap.size 59 (bl (tq bo m k)) := hW6 ▸ P5.set2 (Ne.symm N54.out)
      have G6 : w.grownBy W6 none := hW6 ▸ gb_new hG Z4 (.bool (!st.testBit (m - k)))
      have r1 := Q1.cell 1 (v := .int .u16 bo) rfl
      have q5 := Q5.cell k (bl_at _ k (by omega))
      have f5 := Q5.frozen k
      obtain ⟨W7, hW7⟩ : ∃ W7, W6.setCell ⟨W4.heap.size, k, none⟩ (.bool (!bo.testBit (m - k))) = W7 := ⟨_, rfl⟩
      have R1 : Bo W7 w.heap.size 26 #[.int .u8 ho, .int .u16 bo, .int .u16 st] := hW7 ▸ Q1.set2 N51.out
      have R2 : Bo W7 W1.heap.size 26 #[.int .u8 0, .int .u16 0, .int .u16 0] := hW7 ▸ Q2.set2 N52.out
      have R4 : Bo W7 w3.heap.size 59 (bl (tq st m (k + 1))) := hW7 ▸ Q4.set2 N54.out
      have R5 : Bo W7 W4.heap.size 59 (bl (tq bo m (k + 1))) := by
        have := Q5.set k (.bool (!bo.testBit (m - k)))
        rw [hW7, bl_set _ k (by omega), tq_step bo m k] at this
        exact this
      have G7 : w.grownBy W7 none := hW7 ▸ gb_new G6 Z5 (.bool (!bo.testBit (m - k)))
      generalize st.testBit (m - k) = s1 at b1 hW6
      generalize bo.testBit (m - k) = s2 at b2 hW7
      go_wp2_with (first | (go_at_call 35; (fail_if_success (guard_hyp mk)); refine (b1 _).mono ?_; rintro e w8 ⟨rfl, hw8⟩; subst w8; have mk : True := trivial) | (go_at_call 35; refine (b2 _).mono ?_; rintro e w9 ⟨rfl, hw9⟩; subst w9))
      exact ⟨⟨k + 1, by omega, by simp, R1, R2, R4, R5, G7⟩, by simp [intOf]; omega⟩
    · obtain rfl : k = m + 1 := by omega
      have hle : ¬ ((m + 1 : Nat) : Int) ≤ (m : Int) := by omega
      obtain ⟨la, HA⟩ : ∃ la, Hid ((bl (tq st m (m + 1))).toList = la) := ⟨_, rfl⟩
      obtain ⟨lb, HB⟩ : ∃ lb, Hid ((bl (tq bo m (m + 1))).toList = lb) := ⟨_, rfl⟩
      have ilA : (Tryd.prog.info? 59).map (·.size) = some la.length := by rw [← HA.out]; exact infoBl
      have ilB : (Tryd.prog.info? 59).map (·.size) = some lb.length := by rw [← HB.out]; exact infoBl
      have uTB := Tryd.underlying59
      have n1 : ∀ w, Calls Tryd.prog 28 #[.agg la.toArray] w fun e w' => e = .returned (.int .u16 ((Lf.nm (tq st m (m + 1)) 10 : Nat) : Int)) ∧ w.grownBy w' none := fun w => by rw [← HA.out]; exact numberD (tq st m (m + 1)) w
      have n2 : ∀ w, Calls Tryd.prog 28 #[.agg lb.toArray] w fun e w' => e = .returned (.int .u16 ((Lf.nm (tq bo m (m + 1)) 10 : Nat) : Int)) ∧ w.grownBy w' none := fun w => by rw [← HB.out]; exact numberD (tq bo m (m + 1)) w
      obtain ⟨x1, hx1⟩ : ∃ x1, Hid (Lf.nm (tq st m (m + 1)) 10 = x1) := ⟨_, rfl⟩
      obtain ⟨x2, hx2⟩ : ∃ x2, Hid (Lf.nm (tq bo m (m + 1)) 10 = x2) := ⟨_, rfl⟩
      rw [hx1.out] at n1
      rw [hx2.out] at n2
      have l_0 := P1.cell 0 (v := .int .u8 ho) rfl
      have a_ := ra_of' P4 HA
      have b_ := ra_of' P5 HB
      go_wp2
      refine wp_region_held_drew (S := fun w' => w'.cell? ⟨w.heap.size, 0, none⟩ = some (.int .u8 ho) ∧ w'.rangeAt w3.heap.size 0 la ∧ w'.rangeAt W4.heap.size 0 lb) (by kernel_rfl) ⟨l_0, a_, b_⟩ (fun hHeld => ?_)
      refine wpAnyH_take (i := 0) (v := .pointer (some ⟨w.heap.size, 0, none⟩)) rfl (by kernel_rfl) (by kernel_rfl) (by kernel_rfl) (fun _ _ _ h => h) (Or.inl ⟨by rfl, fun w hSw => by (dsimp only at hSw; go_simp)⟩) (by assumption) ?_
      try simp only [Act.put, List.setIfInBounds_toArray, List.set_cons_zero, List.set_cons_succ]
      refine wpAnyH_take (i := 1) (v := .int .u8 ho) rfl (by kernel_rfl) (by kernel_rfl) (by kernel_rfl) (fun _ _ _ h => h) (Or.inl ⟨by rfl, fun w hSw => by (dsimp only at hSw; go_simp)⟩) (by assumption) ?_
      try simp only [Act.put, List.setIfInBounds_toArray, List.set_cons_zero, List.set_cons_succ]
      refine wpAnyH_take (i := 2) (v := .agg la.toArray) rfl (by kernel_rfl) (by kernel_rfl) (by kernel_rfl) (fun _ _ _ h => h) (yieldsIf_load_mid (by rfl) _ _ rfl _ _ rfl la _ (fun w hSw => hSw.2.1) uTB rfl ilA) (by assumption) ?_
      try simp only [Act.put, List.setIfInBounds_toArray, List.set_cons_zero, List.set_cons_succ]
      refine wpAnyH_take (i := 4) (v := .agg lb.toArray) rfl (by kernel_rfl) (by kernel_rfl) (by kernel_rfl) (fun _ _ _ h => h) (yieldsIf_load_mid (by rfl) _ _ rfl _ _ rfl lb _ (fun w hSw => hSw.2.2) uTB rfl ilB) (by assumption) ?_
      try simp only [Act.put, List.setIfInBounds_toArray, List.set_cons_zero, List.set_cons_succ]
      refine wpAnyH_ready (rs := [3]) (by kernel_rfl) (by simp) ?_
      refine AllReadyH.cons rfl (fun K hK => ?_) AllReadyH.nil
      go_simp
      go_wp2_with (go_at_call 28; (fail_if_success (guard_hyp g10)); refine (n1 _).mono ?_; rintro e w10 ⟨rfl, g10⟩; have T1 := P1.dr.kept g10 (by simp); have T2 := P2.dr.kept g10 (by simp); have T4 := P4.dr.kept g10 (by simp); have T5 := P5.dr.kept g10 (by simp); have G10 := gb_trans (gb_drew hG) g10; have l10_0 := T1.cell 0 (v := .int .u8 ho) rfl; have a10_ := ra_of' T4 HA; have b10_ := ra_of' T5 HB)
      refine hK.out _ _ ⟨l10_0, a10_, b10_⟩ (fun hHeld => ?_)
      clear hK K
      try simp only [Act.put, List.setIfInBounds_toArray, List.set_cons_zero, List.set_cons_succ]
      refine wpAnyH_ready (rs := [5]) (by kernel_rfl) (by simp) ?_
      refine AllReadyH.cons rfl (fun K hK => ?_) AllReadyH.nil
      go_simp
      go_wp2_with (go_at_call 28; (fail_if_success (guard_hyp g11)); refine (n2 _).mono ?_; rintro e w11 ⟨rfl, g11⟩; have U1 := T1.kept g11 (by simp); have U2 := T2.kept g11 (by simp); have U4 := T4.kept g11 (by simp); have U5 := T5.kept g11 (by simp); have G11 := gb_trans G10 g11; have l11_0 := U1.cell 0 (v := .int .u8 ho) rfl; have a11_ := ra_of' U4 HA; have b11_ := ra_of' U5 HB; have k0 := U2.cell 0 (v := .int .u8 0) rfl; have k1 := U2.cell 1 (v := .int .u16 0) rfl; have k2 := U2.cell 2 (v := .int .u16 0) rfl; have f0 := U2.frozen 0; have f1 := U2.frozen 1; have f2 := U2.frozen 2; obtain ⟨W12, hW12⟩ : ∃ W12, ((w11.setCell ⟨W1.heap.size, 0, none⟩ (.int .u8 ho)).setCell ⟨W1.heap.size, 1, none⟩ (.int .u16 (x1 : Nat))).setCell ⟨W1.heap.size, 2, none⟩ (.int .u16 (x2 : Nat)) = W12 := ⟨_, rfl⟩; have V2 : Bo W12 W1.heap.size 26 #[.int .u8 ho, .int .u16 (x1 : Nat), .int .u16 (x2 : Nat)] := hW12 ▸ ((U2.set 0 _).set 1 _).set 2 _; have V1 : Bo W12 w.heap.size 26 #[.int .u8 ho, .int .u16 bo, .int .u16 st] := hW12 ▸ ((U1.set2 N21.out).set2 N21.out).set2 N21.out; have V4 : Bo W12 w3.heap.size 59 (bl (tq st m (m + 1))) := hW12 ▸ ((U4.set2 (Ne.symm N42.out)).set2 (Ne.symm N42.out)).set2 (Ne.symm N42.out); have V5 : Bo W12 W4.heap.size 59 (bl (tq bo m (m + 1))) := hW12 ▸ ((U5.set2 (Ne.symm N52.out)).set2 (Ne.symm N52.out)).set2 (Ne.symm N52.out); have G12 : w.grownBy W12 none := hW12 ▸ gb_new (gb_new (gb_new G11 g1.size (.int .u8 ho)) g1.size (.int .u16 (x1 : Nat))) g1.size (.int .u16 (x2 : Nat)); have l12_0 := V1.cell 0 (v := .int .u8 ho) rfl; have a12_ := ra_of' V4 HA; have b12_ := ra_of' V5 HB)
      refine hK.out _ _ ⟨l11_0, a11_, b11_⟩ (fun hHeld => ?_)
      clear hK K
      try simp only [Act.put, List.setIfInBounds_toArray, List.set_cons_zero, List.set_cons_succ]
      refine wpAnyH_take (i := 6) (v := .agg #[.int .u8 ho, .int .u16 (x1 : Nat), .int .u16 (x2 : Nat)]) rfl (by kernel_rfl) (by kernel_rfl) (by kernel_rfl) (fun _ _ _ h => h) (Or.inl ⟨by rfl, fun w hSw => by (dsimp only at hSw; go_simp)⟩) (by assumption) ?_
      try simp only [Act.put, List.setIfInBounds_toArray, List.set_cons_zero, List.set_cons_succ]
      refine wpAnyH_ready (rs := [7]) (by kernel_rfl) (by simp) ?_
      refine AllReadyH.cons rfl (fun K hK => ?_) AllReadyH.nil
      go_simp
      refine hK.out _ _ ⟨l12_0, a12_, b12_⟩ (fun hHeld => ?_)
      clear hK K
      try simp only [Act.put, List.setIfInBounds_toArray, List.set_cons_zero, List.set_cons_succ]
      refine wpAnyH_ready (rs := [8]) (by kernel_rfl) (by simp) ?_
      refine AllReadyH.cons rfl (fun K hK => ?_) AllReadyH.nil
      go_simp
      refine hK.out _ _ ⟨l12_0, a12_, b12_⟩ (fun hHeld => ?_)
      clear hK K
      try simp only [Act.put, List.setIfInBounds_toArray, List.set_cons_zero, List.set_cons_succ]
      refine wpAnyH_done (by kernel_rfl) ?_ _
      all_goals go_wp2
      all_goals refine ret_c2 (g := W1.heap.size) (cs := #[.int .u8 ho, .int .u16 (x1 : Nat), .int .u16 (x2 : Nat)]) rfl hfs.out infoLf rfl V2 rfl ⟨by rw [hx1.out, hx2.out]; rfl, G12⟩
end Go.Proofs.YtnedofaobhmloaaDoor
