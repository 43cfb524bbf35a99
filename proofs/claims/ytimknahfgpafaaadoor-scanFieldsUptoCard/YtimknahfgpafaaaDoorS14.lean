/- The document's Runs: what it answers. -/
import Derived.Test.YtimknahfgpafaaaDoorS7
import Derived.Test.YtimknahfgpafaaaDoorS13
namespace Go.Proofs.YtimknahfgpafaaaDoor
open Go.RowKit
set_option linter.unusedVariables false
set_option linter.unusedSimpArgs false

theorem rrunsLong (s : ByteArray) (w : World) (hs : 1048576 < s.size) : Calls Tryd.prog 19 #[.string s] w fun e w' => e = .returned (.tuple #[.slice none 0 0, .int .i64 0, .int .i64 3]) ∧ w' = w := by
  have hs' : (1048576 : Int) < (s.size : Int) := by omega
  go_enter Tryd.func19, Tryd.ntmps19
  go_wp2
  refine bodyPost_ret (results_tmp3 rfl _ _ _) rfl ?_
  exact ⟨rfl, rfl⟩
theorem own_set3 {w : World} {base e size n g o : Nat} {v x : Value} {xs : List Value} (h : w.ownsRow base e size v n xs) (hne : some g ≠ v.ownBlock) : (w.setCell ⟨g, o, none⟩ x).ownsRow base e size v n xs := by
  refine ⟨h.1, ?_⟩
  rcases h.2 with h0 | ⟨b, cap, cur, rfl, h1, h2, h3⟩
  · exact .inl h0
  · exact .inr ⟨b, cap, cur, rfl, h1, (Below.heap_setCell _ _ _ _ (fun e => hne (by simp [Value.ownBlock, e]))).trans h2, h3⟩
set_option maxRecDepth 100000 in
set_option maxHeartbeats 4000000 in
theorem rrunsShort (s : ByteArray) (w : World) (hs : s.size ≤ 1048576) : Calls Tryd.prog 19 #[.string s] w (Left w (runsF (s.size + 1) s 0 [])) := by
  have hs' : ¬ (1048576 : Int) < (s.size : Int) := by omega
  have hsm : s.size ≤ maxLen := by unfold maxLen; omega
  obtain ⟨i0, hi⟩ := info_parts infoR3
  have HI : Hid (Tryd.prog.info? 48 = some i0 ∧ i0.zero = some (.agg #[.int .i64 0, .string ⟨#[]⟩, .int .i64 0]) ∧ i0.size = 3 ∧ i0.bytes = 32) := hi
  clear hi
  go_enter Tryd.func19, Tryd.ntmps19
  go_wp2
  go_loopw [5, 6] (fun v va wr => ∃ (i : Nat) (l : List Rn), i ≤ s.size ∧ va = .int .i64 i ∧ wr.ownsRow w.heap.size 48 3 v l.length (rcs l) ∧ l.length ≤ i ∧ Hid (runsF (s.size - i + 1) s i l = runsF (s.size + 1) s 0 []) ∧ w.grownBy wr none) (fun _ va _ => s.size - (intOf va).toNat)
  case atStart => exact ⟨0, [], Nat.zero_le _, rfl, World.ownsRow_nil _ _ _ _, Nat.zero_le _, rfl, World.grownBy.refl _ _⟩
  case round =>
    obtain ⟨i, l, hi, rfl, hown, hll, HF, hg⟩ := hrel
    have HR : Hid (runsF (s.size + 1) s 0 [] = runsF (s.size - i + 1) s i l) := HF.out.symm
    clear HF
    have hsz := hg.size
    by_cases hlt : i < s.size
    · have hlt' : (i : Int) < (s.size : Int) := by omega
      have hb := Sc.bt_at hlt
      cases hwh : Sc.whiteB (Sc.bt s i) with
      | true =>
        have HW : Hid (runsF (s.size - (i + 1) + 1) s (i + 1) l = runsF (s.size + 1) s 0 []) := by
          have h : runsF (s.size - i + 1) s i l = runsF (s.size - i) s (i + 1) l := by rw [runsF, if_neg (by omega), if_pos hwh]
          unfold Hid; rw [HR.out, h]
          exact runsF_fuel s _ _ _ _ (by omega) (by omega)
        clear HR
        go_wp2_with (go_at_call 43; refine (rwhiteC _ _).mono ?_; rintro e w' ⟨rfl, hw'⟩; subst w')
        go_roundw
        case rel => exact ⟨i + 1, l, by omega, by go_num, hown, by omega, HW, hg⟩
        case measure => simp [intOf]; omega
      | false =>
        by_cases c33 : Sc.bt s i = 33
        · have e33 : ((Sc.bt s i : Int) == 33) = true := by simp; omega
          have HX : Hid (runsF (s.size + 1) s 0 [] = (some l, i + 1, 0)) := by unfold Hid; rw [HR.out, runsF, if_neg (by omega), if_neg (by rw [hwh]; simp), if_pos c33]
          clear c33 HR
          go_wp2_with (go_at_call 43; refine (rwhiteC _ _).mono ?_; rintro e w' ⟨rfl, hw'⟩; subst w')
          refine bodyPost_ret (results_tmp3 rfl _ _ _) rfl ?_
          unfold Left
          rw [HX.out]
          exact ⟨_, rfl, hown, hg⟩
        have e33 : ((Sc.bt s i : Int) == 33) = false := by simp; omega
        have HS : Hid (runsF (s.size + 1) s 0 [] = if cnB s i = false then (none, i, 11) else if s.size < dg s i + tl s (dg s i) then (none, s.size, 30) else if tgB s (dg s i) = false then (none, dg s i, 31) else runsF (s.size - i) s (dg s i + tl s (dg s i)) (l ++ [(cnV s i, tagAt s (dg s i), i)])) := by
          unfold Hid; rw [HR.out, runsF, if_neg (by omega), if_neg (by rw [hwh]; simp), if_neg c33]
        clear c33 HR
        have hgd := dg_ge (s := s) (i := i) (by omega)
        have hdl := dg_le (s := s) (i := i) (by omega)
        have htp := tl_pos s (dg s i)
        cases hdi : Sc.digitB (Sc.bt s i) with
        | false =>
          have hdg : dg s i = i := Sc.ov_no hi (fun _ => hdi)
          have hcn : cnB s i = true := by unfold cnB; rw [decide_eq_true hdg, Bool.true_or]
          have HC : Hid (cnV s i = 1) := by unfold Hid cnV; rw [if_pos hdg]
          rw [hdg] at HS hdl hgd htp
          have hjl := hi
          clear hdg
          obtain ⟨W1, hW1, sz1, g1, hB1⟩ := box3 wr (.int .i64 1) (.string ⟨#[]⟩) (.int .i64 i) 48
          have b0 := hB1.c0
          have b1 := hB1.f0
          have q1 : wr.heap.size < W1.heap.size := by have := sz1.out; omega
          have hown1 := hown.kept g1 (Classical.em _)
          have hne1 : some wr.heap.size ≠ u5.ownBlock := fun e => by have := (hown.lt _ e.symm).2; omega
          have hownX := hown1
          have gX := g1
          by_cases hj : s.size < i + tl s i
          · have HX : Hid (runsF (s.size + 1) s 0 [] = (none, s.size, 30)) := by unfold Hid; rw [HS.out, if_neg (by rw [hcn]; simp), if_pos hj]
            have ht : Hid (tgR s i = -1) := by unfold Hid tgR; rw [if_pos hj]
            have htag := rtagAtC s i W1 hsm hjl
            rw [ht.out] at htag
            clear HS hj hcn ht
            go_wp2_with (first | (go_at_call 43; refine (rwhiteC _ _).mono ?_; rintro e w' ⟨rfl, hw'⟩; subst w') | (go_at_call 44; refine (rdigitC _ _).mono ?_; rintro e w' ⟨rfl, hw'⟩; subst w') | (fail) | (go_at_call 46; refine htag.mono ?_; rintro e w3 ⟨rfl, g3⟩))
            refine bodyPost_ret (results_tmp3 rfl _ _ _) rfl ?_
            exact Left.none HX (gb_trans hg (gb_trans gX g3))
          cases htg : tgB s i with
          | false =>
            have HX : Hid (runsF (s.size + 1) s 0 [] = (none, i, 31)) := by unfold Hid; rw [HS.out, if_neg (by rw [hcn]; simp), if_neg hj, if_pos htg]
            have ht : Hid (tgR s i = 0) := by unfold Hid tgR; rw [if_neg hj, if_neg (by rw [htg]; simp)]
            have htag := rtagAtC s i W1 hsm hjl
            rw [ht.out] at htag
            clear HS hj hcn ht htg
            go_wp2_with (first | (go_at_call 43; refine (rwhiteC _ _).mono ?_; rintro e w' ⟨rfl, hw'⟩; subst w') | (go_at_call 44; refine (rdigitC _ _).mono ?_; rintro e w' ⟨rfl, hw'⟩; subst w') | (fail) | (go_at_call 46; refine htag.mono ?_; rintro e w3 ⟨rfl, g3⟩))
            refine bodyPost_ret (results_tmp3 rfl _ _ _) rfl ?_
            exact Left.none HX (gb_trans hg (gb_trans gX g3))
          | true =>
            have HX : Hid (runsF (s.size - (i + tl s i) + 1) s (i + tl s i) (l ++ [(1, tagAt s i, i)]) = runsF (s.size + 1) s 0 []) := by
              unfold Hid; rw [HS.out, if_neg (by rw [hcn]; simp), if_neg hj, if_neg (by rw [htg]; simp), HC.out]
              exact runsF_fuel s _ _ _ _ (by omega) (by omega)
            have ht : Hid (tgR s i = (tl s i : Nat)) := by unfold Hid tgR; rw [if_neg hj, if_pos htg]
            have htag := rtagAtC s i W1 hsm hjl
            rw [ht.out] at htag
            have hext : s.extract i (i + tl s i) = tagAt s i := rfl
            have htp := tl_pos s i
            have hj' : i + tl s i ≤ s.size := by omega
            clear HS hj hcn ht htg
            generalize tl s i = t at *
            generalize tagAt s i = T at *
            have t0 : ((t : Int) == 0) = false := by simp; omega
            have t1 : ¬ (t : Int) < 0 := by omega
            have t2 : (i : Int) + (t : Int) ≤ (s.size : Int) := by omega
            have t3 : (i : Int) ≤ (i : Int) + (t : Int) := by omega
            have t4 : IntKind.i64.wrap ((i : Int) + (t : Int)) = ((i + t : Nat) : Int) := by rw [IntKind.wrap_i64]; omega
            go_wp2_with (first | (go_at_call 43; refine (rwhiteC _ _).mono ?_; rintro e w' ⟨rfl, hw'⟩; subst w') | (go_at_call 44; refine (rdigitC _ _).mono ?_; rintro e w' ⟨rfl, hw'⟩; subst w') | (fail) | (go_at_call 46; refine htag.mono ?_; rintro e w3 ⟨rfl, g3⟩; have hB3 := hB1.kept g3 (by simp); have x1 := hB3.c1; have x2 := hB3.f1; have hown3 := hownX.kept g3 (Classical.em _); obtain ⟨Y, hY⟩ : ∃ Y, w3.setCell ⟨wr.heap.size, 1, none⟩ (.string T) = Y := ⟨_, rfl⟩; have hBY : Bq Y wr.heap.size 48 (.int .i64 1) (.string T) (.int .i64 i) := (by rw [← hY]; have hB3' := hB3; unfold Bq at hB3' ⊢; simp [World.setCell, Array.getElem?_modify, hB3']); have hownY : Y.ownsRow w.heap.size 48 3 u5 l.length (rcs l) := (by rw [← hY]; exact own_set3 hown3 hne1); have gY : wr.grownBy Y none := (by rw [← hY]; exact gb_new (gb_trans gX g3) (Nat.le_refl _) _); have z0 := hBY.c0; have z1 := hBY.c1; have z2 := hBY.c2; have hbY := Nat.le_trans hsz gY.size) | (at_builtin; refine wpList_append_own _ rfl _ _ 42 rfl w.heap.size 48 i0 (.agg #[.int .i64 0, .string ⟨#[]⟩, .int .i64 0]) 3 32 underRunS HI.out.1 HI.out.2.1 HI.out.2.2.1 HI.out.2.2.2 rfl (by decide) _ _ _ rfl (hownY.alloc _) ⟨Y.heap.size, 0, none⟩ 1 1 [(.int .i64 1), .string T, .int .i64 i] rfl rfl (new3 _ _ _ _ _) ?_ ?_ ?_ ?_ ?_; rotate_right; intro v4 w4 hown4 hgrow4 hnil4))
            · have HA := hownY.alloc (.cells #[(.int .i64 1), .string T, .int .i64 i] 48)
              have G4 := gb_row (gb_alloc (gb_trans hg gY) (.cells #[(.int .i64 1), .string T, .int .i64 i] 48)) hgrow4 (fun i e => (HA.lt i e).1)
              go_wp2
              go_roundw
              case rel =>
                refine ⟨i + t, l ++ [(1, T, i)], by omega, by go_num, ?_, ?_, HX, G4⟩
                · rw [rcs_snoc, List.length_append]; exact hown4
                · rw [List.length_append]; simp only [List.length_cons, List.length_nil]; omega
              case measure => simp [intOf]; omega
            · intro u hu
              simp at hu
              rcases hu with rfl | rfl | rfl <;> rfl
            · unfold maxLen; omega
            · omega
            · simp; omega

        | true =>
          have hdg : i < dg s i := Sc.ov_gt hlt hdi
          have hnum := fun W => rnumberC s i W hsm hi
          cases hcn : cnB s i with
          | false =>
            have HX : Hid (runsF (s.size + 1) s 0 [] = (none, i, 11)) := by unfold Hid; rw [HS.out, if_pos hcn]
            obtain ⟨W1, hW1, sz1, g1, hB1⟩ := box3 wr (.int .i64 1) (.string ⟨#[]⟩) (.int .i64 i) 48
            have hcn' : ¬ (1 ≤ numV s i ∧ numV s i ≤ 1099511627776) := by
              unfold cnB at hcn
              rw [Bool.or_eq_false_iff] at hcn
              exact of_decide_eq_false hcn.2
            clear HS hcn
            generalize dg s i = j at *
            cases hf : nvB (numV s i) with
            | false =>
              rw [hf] at hnum
              clear hcn'
              go_wp2_with (first | (go_at_call 43; refine (rwhiteC _ _).mono ?_; rintro e w' ⟨rfl, hw'⟩; subst w') | (go_at_call 44; refine (rdigitC _ _).mono ?_; rintro e w' ⟨rfl, hw'⟩; subst w') | (go_at_call 45; refine (hnum _).mono ?_; rintro e w' ⟨n9, rfl, hn9, hw'⟩; subst w'))
              refine bodyPost_ret (results_tmp3 rfl _ _ _) rfl ?_
              exact Left.none HX (gb_trans hg g1)
            | true =>
              rw [hf] at hnum
              have hfit : numV s i ≤ 9223372036854775807 := of_decide_eq_true hf
              generalize numV s i = N at *
              by_cases hN : N < 1
              · have hN' : (N : Int) < 1 := by omega
                clear hcn' hf
                go_wp2_with (first | (go_at_call 43; refine (rwhiteC _ _).mono ?_; rintro e w' ⟨rfl, hw'⟩; subst w') | (go_at_call 44; refine (rdigitC _ _).mono ?_; rintro e w' ⟨rfl, hw'⟩; subst w') | (go_at_call 45; refine (hnum _).mono ?_; rintro e w' ⟨n9, rfl, hn9, hw'⟩; subst w'; obtain rfl := hn9 hfit))
                refine bodyPost_ret (results_tmp3 rfl _ _ _) rfl ?_
                exact Left.none HX (gb_trans hg g1)
              · have hN' : ¬ (N : Int) < 1 := by omega
                have hN2 : (1099511627776 : Int) < (N : Int) := by omega
                clear hcn' hf
                go_wp2_with (first | (go_at_call 43; refine (rwhiteC _ _).mono ?_; rintro e w' ⟨rfl, hw'⟩; subst w') | (go_at_call 44; refine (rdigitC _ _).mono ?_; rintro e w' ⟨rfl, hw'⟩; subst w') | (go_at_call 45; refine (hnum _).mono ?_; rintro e w' ⟨n9, rfl, hn9, hw'⟩; subst w'; obtain rfl := hn9 hfit))
                refine bodyPost_ret (results_tmp3 rfl _ _ _) rfl ?_
                exact Left.none HX (gb_trans hg g1)
          | true =>
            have hcn' : 1 ≤ numV s i ∧ numV s i ≤ 1099511627776 := by
              have h := hcn
              unfold cnB at h
              rw [decide_eq_false (by omega), Bool.false_or] at h
              exact of_decide_eq_true h
            have HC : Hid (cnV s i = numV s i) := by unfold Hid cnV; rw [if_neg (by omega)]
            obtain ⟨hc1, hc2⟩ := hcn'
            have hfit : numV s i ≤ 9223372036854775807 := by omega
            have hf : nvB (numV s i) = true := decide_eq_true hfit
            rw [hf] at hnum
            have hN' : ¬ (numV s i : Int) < 1 := by omega
            have hN2 : ¬ (1099511627776 : Int) < (numV s i : Int) := by omega
            clear hf
            obtain ⟨j, hj0⟩ : ∃ j, dg s i = j := ⟨_, rfl⟩
            rw [hj0] at HS hnum hdg hdl hgd
            clear hj0 htp
            have hjl : j ≤ s.size := hdl
            obtain ⟨W1, hW1, sz1, g1, hB1⟩ := box3 wr (.int .i64 1) (.string ⟨#[]⟩) (.int .i64 i) 48
            have b0 := hB1.c0
            have b1 := hB1.f0
            have q1 : wr.heap.size < W1.heap.size := by have := sz1.out; omega
            have hown1 := hown.kept g1 (Classical.em _)
            have hne1 : some wr.heap.size ≠ u5.ownBlock := fun e => by have := (hown.lt _ e.symm).2; omega
            obtain ⟨X, hX⟩ : ∃ X, W1.setCell ⟨wr.heap.size, 0, none⟩ (.int .i64 (numV s i : Nat)) = X := ⟨_, rfl⟩
            have hBX : Bq X wr.heap.size 48 (.int .i64 (numV s i : Nat)) (.string ⟨#[]⟩) (.int .i64 i) := by rw [← hX]; unfold Bq at hB1 ⊢; simp [World.setCell, Array.getElem?_modify, hB1]
            have hownX : X.ownsRow w.heap.size 48 3 u5 l.length (rcs l) := by rw [← hX]; exact own_set3 hown1 hne1
            have gX : wr.grownBy X none := by rw [← hX]; exact gb_new g1 (Nat.le_refl _) _
            by_cases hj : s.size < j + tl s j
            · have HX : Hid (runsF (s.size + 1) s 0 [] = (none, s.size, 30)) := by unfold Hid; rw [HS.out, if_neg (by rw [hcn]; simp), if_pos hj]
              have ht : Hid (tgR s j = -1) := by unfold Hid tgR; rw [if_pos hj]
              have htag := rtagAtC s j X hsm hjl
              rw [ht.out] at htag
              clear HS hj hcn ht
              go_wp2_with (first | (go_at_call 43; refine (rwhiteC _ _).mono ?_; rintro e w' ⟨rfl, hw'⟩; subst w') | (go_at_call 44; refine (rdigitC _ _).mono ?_; rintro e w' ⟨rfl, hw'⟩; subst w') | (go_at_call 45; refine (hnum _).mono ?_; rintro e w' ⟨n9, rfl, hn9, hw'⟩; subst w'; obtain rfl := hn9 hfit) | (go_at_call 46; refine htag.mono ?_; rintro e w3 ⟨rfl, g3⟩))
              refine bodyPost_ret (results_tmp3 rfl _ _ _) rfl ?_
              exact Left.none HX (gb_trans hg (gb_trans gX g3))
            cases htg : tgB s j with
            | false =>
              have HX : Hid (runsF (s.size + 1) s 0 [] = (none, j, 31)) := by unfold Hid; rw [HS.out, if_neg (by rw [hcn]; simp), if_neg hj, if_pos htg]
              have ht : Hid (tgR s j = 0) := by unfold Hid tgR; rw [if_neg hj, if_neg (by rw [htg]; simp)]
              have htag := rtagAtC s j X hsm hjl
              rw [ht.out] at htag
              clear HS hj hcn ht htg
              go_wp2_with (first | (go_at_call 43; refine (rwhiteC _ _).mono ?_; rintro e w' ⟨rfl, hw'⟩; subst w') | (go_at_call 44; refine (rdigitC _ _).mono ?_; rintro e w' ⟨rfl, hw'⟩; subst w') | (go_at_call 45; refine (hnum _).mono ?_; rintro e w' ⟨n9, rfl, hn9, hw'⟩; subst w'; obtain rfl := hn9 hfit) | (go_at_call 46; refine htag.mono ?_; rintro e w3 ⟨rfl, g3⟩))
              refine bodyPost_ret (results_tmp3 rfl _ _ _) rfl ?_
              exact Left.none HX (gb_trans hg (gb_trans gX g3))
            | true =>
              have HX : Hid (runsF (s.size - (j + tl s j) + 1) s (j + tl s j) (l ++ [(numV s i, tagAt s j, i)]) = runsF (s.size + 1) s 0 []) := by
                unfold Hid; rw [HS.out, if_neg (by rw [hcn]; simp), if_neg hj, if_neg (by rw [htg]; simp), HC.out]
                exact runsF_fuel s _ _ _ _ (by omega) (by omega)
              have ht : Hid (tgR s j = (tl s j : Nat)) := by unfold Hid tgR; rw [if_neg hj, if_pos htg]
              have htag := rtagAtC s j X hsm hjl
              rw [ht.out] at htag
              have hext : s.extract j (j + tl s j) = tagAt s j := rfl
              have htp := tl_pos s j
              have hj' : j + tl s j ≤ s.size := by omega
              clear HS hj hcn ht htg
              generalize tl s j = t at *
              generalize tagAt s j = T at *
              have t0 : ((t : Int) == 0) = false := by simp; omega
              have t1 : ¬ (t : Int) < 0 := by omega
              have t2 : (j : Int) + (t : Int) ≤ (s.size : Int) := by omega
              have t3 : (j : Int) ≤ (j : Int) + (t : Int) := by omega
              have t4 : IntKind.i64.wrap ((j : Int) + (t : Int)) = ((j + t : Nat) : Int) := by rw [IntKind.wrap_i64]; omega
              go_wp2_with (first | (go_at_call 43; refine (rwhiteC _ _).mono ?_; rintro e w' ⟨rfl, hw'⟩; subst w') | (go_at_call 44; refine (rdigitC _ _).mono ?_; rintro e w' ⟨rfl, hw'⟩; subst w') | (go_at_call 45; refine (hnum _).mono ?_; rintro e w' ⟨n9, rfl, hn9, hw'⟩; subst w'; obtain rfl := hn9 hfit) | (go_at_call 46; refine htag.mono ?_; rintro e w3 ⟨rfl, g3⟩; have hB3 := hBX.kept g3 (by simp); have x1 := hB3.c1; have x2 := hB3.f1; have hown3 := hownX.kept g3 (Classical.em _); obtain ⟨Y, hY⟩ : ∃ Y, w3.setCell ⟨wr.heap.size, 1, none⟩ (.string T) = Y := ⟨_, rfl⟩; have hBY : Bq Y wr.heap.size 48 (.int .i64 (numV s i : Nat)) (.string T) (.int .i64 i) := (by rw [← hY]; have hB3' := hB3; unfold Bq at hB3' ⊢; simp [World.setCell, Array.getElem?_modify, hB3']); have hownY : Y.ownsRow w.heap.size 48 3 u5 l.length (rcs l) := (by rw [← hY]; exact own_set3 hown3 hne1); have gY : wr.grownBy Y none := (by rw [← hY]; exact gb_new (gb_trans gX g3) (Nat.le_refl _) _); have z0 := hBY.c0; have z1 := hBY.c1; have z2 := hBY.c2; have hbY := Nat.le_trans hsz gY.size) | (at_builtin; refine wpList_append_own _ rfl _ _ 42 rfl w.heap.size 48 i0 (.agg #[.int .i64 0, .string ⟨#[]⟩, .int .i64 0]) 3 32 underRunS HI.out.1 HI.out.2.1 HI.out.2.2.1 HI.out.2.2.2 rfl (by decide) _ _ _ rfl (hownY.alloc _) ⟨Y.heap.size, 0, none⟩ 1 1 [(.int .i64 (numV s i : Nat)), .string T, .int .i64 i] rfl rfl (new3 _ _ _ _ _) ?_ ?_ ?_ ?_ ?_; rotate_right; intro v4 w4 hown4 hgrow4 hnil4))
              · have HA := hownY.alloc (.cells #[(.int .i64 (numV s i : Nat)), .string T, .int .i64 i] 48)
                have G4 := gb_row (gb_alloc (gb_trans hg gY) (.cells #[(.int .i64 (numV s i : Nat)), .string T, .int .i64 i] 48)) hgrow4 (fun i e => (HA.lt i e).1)
                go_wp2
                go_roundw
                case rel =>
                  refine ⟨j + t, l ++ [(numV s i, T, i)], by omega, by go_num, ?_, ?_, HX, G4⟩
                  · rw [rcs_snoc, List.length_append]; exact hown4
                  · rw [List.length_append]; simp only [List.length_cons, List.length_nil]; omega
                case measure => simp [intOf]; omega
              · intro u hu
                simp at hu
                rcases hu with rfl | rfl | rfl <;> rfl
              · unfold maxLen; omega
              · omega
              · simp; omega
    · have hlt' : ¬ (i : Int) < (s.size : Int) := by omega
      have HX : Hid (runsF (s.size + 1) s 0 [] = (none, s.size, 30)) := by unfold Hid; rw [HR.out, runsF, if_pos (by omega)]
      clear HR
      go_wp2
      refine bodyPost_ret (results_tmp3 rfl _ _ _) rfl ?_
      exact Left.none HX hg
end Go.Proofs.YtimknahfgpafaaaDoor
