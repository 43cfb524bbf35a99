/- WordsAdds: the ones of Xor and twice those of And are what both rows have; Bits tells as many places, rising. -/
import Derived.RangeFuncBox
import Derived.Test.YtcdefpfnjjahgabDoorW7
import Derived.Test.YtcdefpfnjjahgabDoorW13
import Derived.Test.YtcdefpfnjjahgabDoorW29
import Derived.Test.YtcdefpfnjjahgabDoorW30
namespace Go.Proofs.YtcdefpfnjjahgabDoor
open Go.RowKit Go.Shelf
set_option linter.unusedVariables false
attribute [local go_sem] Oper.semAt_some

theorem with_tmps {c : Code} {F : Fence} {n : Nat} {P : Program} {Q : Exit → Act → World → Prop} {t : Array Value} {d : List Deferred} {w : World} (h : ∀ AR, AR = t → c.wpIn F n P Q { tmps := AR, defers := d } w) : c.wpIn F n P Q { tmps := t, defers := d } w := h t rfl

theorem bxd_own {W W' : World} {row : Option Nat} {g : Nat} {t : TypeId} {x : Value} (h : Boxed W g t x) (hg : W.grownBy W' row) (hr : ∀ r, row = some r → ∃ o : Obj, W.heap[r]? = some o ∧ o.isCells = false) : Boxed W' g t x :=
  h.kept hg (fun e => by
    obtain ⟨o, ho, hc⟩ := hr g e.symm
    rw [show W.heap[g]? = _ from h] at ho; cases ho; cases hc)
theorem boxed_far {W : World} {g b : Nat} {t : TypeId} {x v : Value} (h : Boxed W g t x) (hne : g ≠ b) : Boxed (W.setCell ⟨b, 0, none⟩ v) g t x := (Below.heap_setCell _ _ _ _ hne).trans h

set_option maxRecDepth 100000 in
set_option maxHeartbeats 4000000 in
theorem walkAdds (la ca : Nat) (sa : Option Addr) (fa : Nat → Bool) (lb cb : Nat) (sb : Option Addr) (fb : Nat → Bool) (hla : la ≤ ca ∧ ca ≤ 9223372036854775807) (hlb : lb ≤ cb ∧ cb ≤ 9223372036854775807) (w : World) (ha : Bd w sa la fa) (hb : Bd w sb lb fb) (hT : Tab64 w) :
    Calls Tryd.prog 4 #[.slice sa la ca, .slice sb lb cb] w fun e w' => e = .returned (.bool true) ∧ Below w.heap.size w w' := by
  have hG0 : 0 < w.heap.size := cell_lt (hT 0 (by decide))
  obtain ⟨m, hm⟩ : ∃ m, m = min la (min lb 65538) := ⟨_, rfl⟩
  have hpair := fun w ha hb => pairC la lb ca cb m sa sb fa fb hm (by omega) (by omega) (by omega) (by omega) w ha hb
  have ml : m ≤ 65538 := by omega
  clear hm
  obtain ⟨c, hc⟩ : ∃ c, c = (m + 63) / 64 := ⟨_, rfl⟩
  rw [← hc] at hpair
  obtain ⟨P, hP⟩ : ∃ P : Nat → Bool, P = fun i => decide (i < m) && fa i := ⟨_, rfl⟩
  obtain ⟨Q, hQ⟩ : ∃ Q : Nat → Bool, Q = fun i => decide (i < m) && fb i := ⟨_, rfl⟩
  rw [← hP, ← hQ] at hpair
  have tP : ∀ i, m ≤ i → P i = false := fun i hi => by rw [hP]; show (decide (i < m) && fa i) = false; rw [decide_eq_false (by omega)]; rfl
  have tQ : ∀ i, m ≤ i → Q i = false := fun i hi => by rw [hQ]; show (decide (i < m) && fb i) = false; rw [decide_eq_false (by omega)]; rfl
  clear hP hQ
  have MR : MayBe m c P := ⟨ml, hc, fun i hi => by exact tP i hi⟩
  have MS : MayBe m c Q := ⟨ml, hc, fun i hi => by exact tQ i hi⟩
  have MAND : MayBe m c (fun i => (P i && Q i)) := ⟨ml, hc, fun i hi => by show (P i && Q i) = false; rw [tP i hi]; rfl⟩
  have MXOR : MayBe m c (fun i => Bool.xor (P i) (Q i)) := ⟨ml, hc, fun i hi => by show Bool.xor (P i) (Q i) = false; rw [tP i hi, tQ i hi]; rfl⟩
  have hnP := fun cap sp w h => onesC m c cap sp P MR w h
  have hnQ := fun cap sp w h => onesC m c cap sp Q MS w h
  have hnA := fun cap sp w h => onesC m c cap sp (fun i => (P i && Q i)) MAND w h
  have hnX := fun cap sp w h => onesC m c cap sp (fun i => Bool.xor (P i) (Q i)) MXOR w h
  have hx := cnt_xor P Q m
  have b1 := cnt_le P m
  have b2 := cnt_le Q m
  have b3 := cnt_le (fun i => (P i && Q i)) m
  have b4 := cnt_le (fun i => Bool.xor (P i) (Q i)) m
  have hall : (come P (64 * c)).length = cnt P m := by
    rw [come_same P (64 * c) (s := m) (by omega) (fun j h1 _ => tP j h1), come_cnt]
  obtain ⟨nP, eP⟩ : ∃ n, cnt P m = n := ⟨_, rfl⟩
  obtain ⟨nQ, eQ⟩ : ∃ n, cnt Q m = n := ⟨_, rfl⟩
  obtain ⟨nA, eA⟩ : ∃ n, cnt (fun i => (P i && Q i)) m = n := ⟨_, rfl⟩
  obtain ⟨nX, eX⟩ : ∃ n, cnt (fun i => Bool.xor (P i) (Q i)) m = n := ⟨_, rfl⟩
  rw [eP] at hnP hx b1 hall
  rw [eQ] at hnQ hx b2
  rw [eA] at hnA hx b3
  rw [eX] at hnX hx b4
  clear eP eQ eA eX
  have HALL : Hid ((come P (64 * c)).length = nP) := hall
  have w1 : IntKind.i64.wrap (2 * (nA : Int)) = 2 * (nA : Int) := by rw [IntKind.wrap_i64]; omega
  have w2 : IntKind.i64.wrap ((nX : Int) + 2 * (nA : Int)) = (nX : Int) + 2 * (nA : Int) := by rw [IntKind.wrap_i64]; omega
  have w3 : IntKind.i64.wrap ((nP : Int) + (nQ : Int)) = (nP : Int) + (nQ : Int) := by rw [IntKind.wrap_i64]; omega
  have hne : ((nX : Int) + 2 * (nA : Int) != (nP : Int) + (nQ : Int)) = false := by simp; omega
  have hcl : c ≤ 1025 := MR.len
  have MW : Hid (c = (m + 63) / 64) := hc
  clear hx hc hall
  obtain ⟨W0, hW0⟩ : ∃ W0, w.alloc (.cells #[.bool false] 4) = W0 := ⟨_, rfl⟩
  have g0 : w.grownBy W0 none := by rw [← hW0]; exact World.grownBy_alloc _ _ _
  have hRb : Boxed W0 w.heap.size 4 (.bool false) := by rw [← hW0]; exact Boxed.new _ _ _
  have hnil : ∀ (B : Nat) (w : World), (binOp BinOp.eql 40 (.func (.func 31) #[] #[.pointer (some ⟨B, 0, none⟩)]) .nilFunc).run Tryd.prog w = .ok (.bool false) w := fun _ _ => by kernel_rfl
  refine (callsIn_wide (n := 3)).1 ?_
  refine callsIn_of_wp_marks Tryd.func4 rfl trivial ?_ rfl
  simp only [Tryd.ntmps4, List.size_toArray, List.length_cons, List.length_nil, Nat.reduceAdd, Nat.reduceSub, Array.replicate_succ, Array.replicate_zero, List.push_toArray, List.append_toArray, List.nil_append, List.cons_append]
  gi_wp2_with (first | (refine ⟨trivial, ?_⟩; gi_at_call 5; refine (callsIn_wide.2 (aliveC W0)).mono ?_; rintro e w1 ⟨rfl, g1⟩) | (refine ⟨trivial, ?_⟩; gi_at_call 6; refine (callsIn_wide.2 (hpair w1 (ha.kept (gb_trans g0 g1) (by simp)) (hb.kept (gb_trans g0 g1) (by simp)))).mono ?_; rintro e w2 ⟨bR, bS, rfl, hrR, hrS, g2, l2, l2'⟩; obtain ⟨V0, hV0, B0R, B0S, gv0⟩ := box22 w2 (.int .i64 m) (.slice (some ⟨bR, 0, none⟩) c c) (.int .i64 m) (.slice (some ⟨bS, 0, none⟩) c c) 26; have H0 : W0.grownBy V0 none := gb_trans g1 (gb_trans g2 gv0); have R0R := hrR.kept gv0 (by simp); have R0S := hrS.kept gv0 (by simp); have x0R0 := B0R.cell0; have x0R1 := B0R.cell1; have x0S0 := B0S.cell0; have x0S1 := B0S.cell1) | (refine ⟨trivial, ?_⟩; gi_at_call 11; guard_hyp V0; (fail_if_success (guard_hyp V1)); refine (callsIn_wide.2 (andC m c c c (some ⟨bR, 0, none⟩) (some ⟨bS, 0, none⟩) P Q MR MS V0 R0R.wd R0S.wd)).mono ?_; rintro e y0 ⟨bAND, rfl, qAND, h0, _⟩; obtain ⟨V1, hV1, _, _, _, gv1, B1AND⟩ := box2 y0 (.int .i64 m) (.slice (some ⟨bAND, 0, none⟩) c c) 26; have e0 := gb_trans h0 gv1; have R1AND := Row.kept qAND gv1 (by simp); have H1 := gb_trans H0 e0; have B1R := B0R.kept e0 (by simp); have R1R := R0R.kept e0 (by simp); have B1S := B0S.kept e0 (by simp); have R1S := R0S.kept e0 (by simp); have x1R0 := B1R.cell0; have x1R1 := B1R.cell1; have x1S0 := B1S.cell0; have x1S1 := B1S.cell1) | (refine ⟨trivial, ?_⟩; gi_at_call 12; guard_hyp V1; (fail_if_success (guard_hyp V2)); refine (callsIn_wide.2 (xorC m c c c (some ⟨bR, 0, none⟩) (some ⟨bS, 0, none⟩) P Q MR MS V1 R1R.wd R1S.wd)).mono ?_; rintro e y1 ⟨bXOR, rfl, qXOR, h1, _⟩; obtain ⟨V2, hV2, _, _, _, gv2, B2XOR⟩ := box2 y1 (.int .i64 m) (.slice (some ⟨bXOR, 0, none⟩) c c) 26; have e1 := gb_trans h1 gv2; have R2XOR := Row.kept qXOR gv2 (by simp); have H2 := gb_trans H1 e1; have B2R := B1R.kept e1 (by simp); have R2R := R1R.kept e1 (by simp); have B2S := B1S.kept e1 (by simp); have R2S := R1S.kept e1 (by simp); have B2AND := B1AND.kept e1 (by simp); have R2AND := R1AND.kept e1 (by simp); have x2R0 := B2R.cell0; have x2R1 := B2R.cell1) | (refine ⟨trivial, ?_⟩; gi_at_call 13; guard_hyp V2; (fail_if_success (guard_hyp V3)); refine (callsIn_wide.2 (hnP c (some ⟨bR, 0, none⟩) V2 R2R.wd)).mono ?_; rintro e V3 ⟨rfl, e2⟩; have H3 := gb_trans H2 e2; have B3R := B2R.kept e2 (by simp); have R3R := R2R.kept e2 (by simp); have B3S := B2S.kept e2 (by simp); have R3S := R2S.kept e2 (by simp); have B3AND := B2AND.kept e2 (by simp); have R3AND := R2AND.kept e2 (by simp); have B3XOR := B2XOR.kept e2 (by simp); have R3XOR := R2XOR.kept e2 (by simp); have x3S0 := B3S.cell0; have x3S1 := B3S.cell1) | (refine ⟨trivial, ?_⟩; gi_at_call 13; guard_hyp V3; (fail_if_success (guard_hyp V4)); refine (callsIn_wide.2 (hnQ c (some ⟨bS, 0, none⟩) V3 R3S.wd)).mono ?_; rintro e V4 ⟨rfl, e3⟩; have H4 := gb_trans H3 e3; have B4R := B3R.kept e3 (by simp); have R4R := R3R.kept e3 (by simp); have B4AND := B3AND.kept e3 (by simp); have R4AND := R3AND.kept e3 (by simp); have B4XOR := B3XOR.kept e3 (by simp); have R4XOR := R3XOR.kept e3 (by simp); have x4AND0 := B4AND.cell0; have x4AND1 := B4AND.cell1) | (refine ⟨trivial, ?_⟩; gi_at_call 13; guard_hyp V4; (fail_if_success (guard_hyp V5)); refine (callsIn_wide.2 (hnA c (some ⟨bAND, 0, none⟩) V4 R4AND.wd)).mono ?_; rintro e V5 ⟨rfl, e4⟩; have H5 := gb_trans H4 e4; have B5R := B4R.kept e4 (by simp); have R5R := R4R.kept e4 (by simp); have B5XOR := B4XOR.kept e4 (by simp); have R5XOR := R4XOR.kept e4 (by simp); have x5XOR0 := B5XOR.cell0; have x5XOR1 := B5XOR.cell1) | (refine ⟨trivial, ?_⟩; gi_at_call 13; guard_hyp V5; (fail_if_success (guard_hyp V6)); refine (callsIn_wide.2 (hnX c (some ⟨bXOR, 0, none⟩) V5 R5XOR.wd)).mono ?_; rintro e V6 ⟨rfl, e5⟩; have H6 := gb_trans H5 e5; have B6R := B5R.kept e5 (by simp); have R6R := R5R.kept e5 (by simp); have x6R0 := B6R.cell0; have x6R1 := B6R.cell1) | (refine ⟨trivial, ?_⟩; gi_at_call 14; guard_hyp V6; (fail_if_success (guard_hyp V7)); refine (callsIn_wide.2 (bitsC m c c (some ⟨bR, 0, none⟩) P MR V6 R6R.wd)).mono ?_; rintro e V7 ⟨bC, BC, rfl, hBC, hrC, e6⟩; have H7 := gb_trans H6 e6; have B7R := B6R.kept e6 (by simp); have R7R := R6R.kept e6 (by simp); have x7R0 := B7R.cell0; have x7R1 := B7R.cell1))
  refine with_tmps ?_
  intro AR hAR
  obtain ⟨V8, hV8⟩ : ∃ V8, (V7.alloc (.cells #[.int .i64 0] 3)).alloc (.cells #[.int .i64 (-1)] 3) = V8 := ⟨_, rfl⟩
  rw [hV8]
  have kS : Boxed V8 V7.heap.size 3 (.int .i64 0) := by rw [← hV8]; exact (Boxed.new _ _ _).alloc _
  have kL : Boxed V8 (V7.heap.size + 1) 3 (.int .i64 (-1)) := by
    rw [← hV8]
    have h := Boxed.new (V7.alloc (.cells #[.int .i64 0] 3)) 3 (.int .i64 (-1))
    rw [World.size_alloc] at h
    exact h
  have g8 : V7.grownBy V8 none := by rw [← hV8]; exact gb_alloc (World.grownBy_alloc _ _ _) _
  have HG : w.grownBy V8 none := gb_trans g0 (gb_trans H7 g8)
  have B8 := B7R.kept g8 (by simp)
  have R8 := R7R.kept g8 (by simp)
  have z1 : w.heap.size < V7.heap.size := Nat.lt_of_lt_of_le hRb.lt H7.size
  have z2 : w2.heap.size < V7.heap.size := B7R.lt
  have z3 : bR < V7.heap.size := R7R.lt
  have z4 : bC < V7.heap.size := hrC.lt
  have z5 : w.heap.size < w2.heap.size := Nat.lt_of_lt_of_le hRb.lt (Nat.le_trans g1.size g2.size)
  have z6 : w.heap.size < bR := Nat.lt_of_lt_of_le hRb.lt (Nat.le_trans g1.size l2)
  have z8 := g8.size
  have hB0 := gb_below HG
  refine wpIn_rangeFunc_ownF rfl (by omega) (gf := 31) (lb := #[.pointer (some ⟨BC, 0, none⟩)]) (by subst hAR; rfl) trivial (enters_of Tryd.func31 (by kernel_rfl) rfl)
    (places_stops 2 (by omega) BC V7.heap.size c c m (some ⟨bC, 0, none⟩) P hcl (by omega) (fun a ha _ => by cases ha; exact z4) (fun j _ hp => by
      by_cases h : j < m
      · exact h
      · rw [MR.tail j (by omega)] at hp; cases hp) V8 z8 (g8.cell hBC (by simp)) ((hrC.kept g8 (by simp)).wd) (hT.below hB0 hG0)) belowK_t (belowK_b z8) (Below.refl _ _) (fun _ => rfl)
    (fun pre W => (Boxed W V7.heap.size 3 (.int .i64 (pre.length : Nat)) ∧ Boxed W (V7.heap.size + 1) 3 (.int .i64 (lastOf pre)) ∧ Boxed W w.heap.size 4 (.bool false) ∧ Bx W w2.heap.size 26 (.int .i64 m) (.slice (some ⟨bR, 0, none⟩) c c) ∧ Row W 45 bR c P) ∧ Below w.heap.size w W)
    (fun _ pre _ => ∃ (pre' : List (Fin m)) (x : Fin m), pre = pre' ++ [x] ∧ ¬ (lastOf pre' < (x.val : Int) ∧ P x.val = true))
    (OwnFrom.and (Own.from (fun s A B row hs hg hr => ⟨bxd_own hs.1 hg hr, bxd_own hs.2.1 hg hr, bxd_own hs.2.2.1 hg hr, bx_own hs.2.2.2.1 hg hr, row_own hs.2.2.2.2 hg hr⟩) _) (ownFrom_below (Nat.le_refl _) HG.size))
    (fun _ _ _ _ _ hs _ _ => hs)
    ⟨⟨kS, kL, (hRb.kept H7 (by simp)).kept g8 (by simp), B8, R8⟩, hB0⟩
    (fun x => { tmps := (AR.setIfInBounds 100 (.int .i64 (x.val : Int))).setIfInBounds 24 (.int .i64 (x.val : Int)), defers := [] }) ?assign ?body ?done ?stop
  case assign =>
    intro l x W K hK
    subst hAR
    gi_wp2
    exact hK
  case body =>
    rintro l pre ⟨x, hxm⟩ W ⟨⟨jS, jL, jR, hBx, hRx⟩, hBel⟩ hlen
    subst hAR
    have u0 := jS.cell
    have u1 := jL.cell
    have u2 := jR.cell
    have u3 := jR.frozen
    have v0 := hBx.cell0
    have v1 := hBx.cell1
    have hgb : getB m P (x : Int) = P x := by simp [getB, hxm]
    have hget := getC m c c (some ⟨bR, 0, none⟩) P MR (x : Int) W hRx.wd
    rw [hgb] at hget
    have hIx : ¬ (lastOf pre < (x : Int) ∧ P x = true) → ∃ pre' y, pre ++ [(⟨x, hxm⟩ : Fin m)] = pre' ++ [y] ∧ ¬ (lastOf pre' < (y.val : Int) ∧ P y.val = true) := fun h => ⟨pre, ⟨x, hxm⟩, rfl, h⟩
    have hls := lastOf_snoc pre ⟨x, hxm⟩
    have hwl : IntKind.i64.wrap ((pre.length : Int) + 1) = (((pre ++ [(⟨x, hxm⟩ : Fin m)]).length : Nat) : Int) := by rw [IntKind.wrap_i64]; simp; omega
    have hge : ¬ ((m : Int) ≤ (x : Int)) := by omega
    generalize lastOf pre = lv at *
    by_cases hlt : lv < (x : Int)
    · have hle : ¬ ((x : Int) ≤ lv) := by omega
      cases hp : P x with
      | true =>
        rw [hp] at hget
        gi_wp2_with (refine ⟨trivial, ?_⟩; gi_at_call 15; refine (CallsIn.inRound l (callsIn_wide.2 hget)).mono ?_; rintro e W6 ⟨rfl, g6⟩; have iS := jS.kept g6 (by simp); have iL := jL.kept g6 (by simp); have t0 := iS.cell; have t1 := iS.frozen; have t2 := iL.cell; have t3 := iL.frozen)
        have e1 : (((pre ++ [(⟨x, hxm⟩ : Fin m)]).length : Nat) : Int) = (pre.length : Int) + 1 := by simp
        have q1 := jS.lt
        have qB : V7.heap.size ≤ W.heap.size := by omega
        have n1 : w.heap.size ≠ V7.heap.size + 1 := by omega
        have n2 : w.heap.size ≠ V7.heap.size := by omega
        have n3 : w2.heap.size ≠ V7.heap.size + 1 := by omega
        have n4 : w2.heap.size ≠ V7.heap.size := by omega
        have n5 : bR ≠ V7.heap.size + 1 := by omega
        have n6 : bR ≠ V7.heap.size := by omega
        refine ⟨((KeepsOthers.of_grownBy g6 (fun _ _ e => by cases e)).trans (KeepsOthers.setCell _ _ _)).trans (KeepsOthers.setCell _ _ _), (((Below.refl _ W).grown g6 qB (fun _ e => by cases e)).setCell (p := ⟨V7.heap.size + 1, 0, none⟩) (by show V7.heap.size ≤ V7.heap.size + 1; omega) _).setCell (p := ⟨V7.heap.size, 0, none⟩) (Nat.le_refl _) _, ⟨?_, ?_, ?_, ?_, ?_⟩, ((hBel.grown g6 hBel.size (fun _ e => by cases e)).setCell (p := ⟨V7.heap.size + 1, 0, none⟩) (by show w.heap.size ≤ V7.heap.size + 1; omega) _).setCell (p := ⟨V7.heap.size, 0, none⟩) (by show w.heap.size ≤ V7.heap.size; omega) _⟩
        · rw [e1]; exact Boxed.set _ (boxed_far iS (by omega))
        · rw [hls]; exact boxed_far (Boxed.set _ iL) (by omega)
        · exact boxed_far (boxed_far (Boxed.kept jR g6 (by simp)) n1) n2
        · exact (Below.heap_setCell _ _ _ _ n4).trans ((Below.heap_setCell _ _ _ _ n3).trans (hBx.kept g6 (by simp)))
        · exact World.rowIs.setOther (World.rowIs.setOther (hRx.kept g6 (by simp)) n5 _) n6 _
      | false =>
        rw [hp] at hget
        gi_wp2_with (refine ⟨trivial, ?_⟩; gi_at_call 15; refine (CallsIn.inRound l (callsIn_wide.2 hget)).mono ?_; rintro e W6 ⟨rfl, g6⟩; have iR := jR.kept g6 (by simp); have t0 := iR.cell; have t1 := iR.frozen)
        exact ⟨(KeepsOthers.of_grownBy g6 (fun _ _ e => by cases e)).trans (KeepsOthers.setCell _ _ _), hIx (fun h => by rw [hp] at h; cases h.2)⟩
    · have hle : (x : Int) ≤ lv := by omega
      gi_wp2
      refine ⟨trivial, ?_⟩
      gi_wp2
      exact ⟨KeepsOthers.setCell _ _ _, hIx (fun h => by omega)⟩
  case done =>
    rintro D ys W hD hS ⟨⟨jS, jL, jR, hBx, hRx⟩, hBel⟩ hK
    subst hAR
    have u0 := jS.cell
    have u2 := jR.cell
    have u3 := jR.frozen
    have hlen : ys.length = nP := by
      have := HALL.out
      rw [← hS] at this
      simpa using this
    rw [hlen] at u0
    have hK1 := (KeepsOthers.setCell W ⟨w.heap.size, 0, none⟩ (.bool true)).same D _ hK rfl
    gi_wp2
    refine ⟨by simp, .inl ⟨_, _, rfl, run_takeDeferred hK1, ?_⟩⟩
    have hc5 := cell_kept (World.cell?_setCell_same' W ⟨w.heap.size, 0, none⟩ (.bool true) (by rw [u2]; rfl)) (grownBy_putObj' _ D (.deferred none)) (fun r e => by cases e; exact ⟨_, hK1, rfl⟩)
    refine ⟨.bool true, ?_, rfl, (hBel.setCell (p := ⟨w.heap.size, 0, none⟩) (Nat.le_refl _) _).trans (belowK_b (w := w) (Nat.le_refl _) _ D _ _ (Nat.le_trans HG.size hD) hK1 rfl rfl)⟩
    simp [results, go_sem, hc5]
  case stop =>
    rintro D cc pre W hD ⟨s, _, hs⟩ ⟨pre', x, rfl, hbad⟩ hK
    exact absurd (come_good hs) hbad
end Go.Proofs.YtcdefpfnjjahgabDoor
