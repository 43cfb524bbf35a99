/- The document's Read: what it answers. -/
import Derived.Test.YtjacoifhjfipaaaRr
import Derived.Deep.QuietTactic
import Derived.BigQuiet
namespace Go.Proofs.Ytjacoifhjfipaaa
open Go.RowKit
set_option linter.unusedVariables false
set_option linter.unusedSimpArgs false
set_option maxRecDepth 100000

theorem ccs_one {l : List Cx} {u : Value} (h : u ∈ ccs l) : u.oneCell' = true := by
  unfold ccs at h
  obtain ⟨c, _, hc⟩ := List.mem_flatMap.1 h
  unfold cvs at hc
  simp at hc
  rcases hc with rfl | rfl | rfl <;> rfl
theorem app_own {ops : Array Oper} {rest : List Oper} {o : Oper} {a : Act} {Q : Exit → Act → World → Prop} (w : World) (hgd : o.guard = none) (s x : Operand)
    (ho : o.op = .call { callee := .builtin .append, args := #[s, x], argTypes := #[24, 24] }) (B : Nat) (v : Value) (l : List Cx) (hs : a.eval s = v) (hown : Own w B v l) (B2 : Nat) (v2 : Value) (l2 : List Cx) (hx : a.eval x = v2) (h2 : Own w B2 v2 l2)
    (hlen : l.length + l2.length ≤ 2199023255552) (hB : B ≤ w.heap.size) (h : ∀ v' w', Own w' B v' (l ++ l2) → w.grownBy w' v.ownBlock → wpList Try.prog ops Q rest (a.put o.dst v') w') : wpList Try.prog ops Q (o :: rest) a w := by
  obtain ⟨i0, h1, h3, h4, h5⟩ := info_parts infoCx
  have h2' := h2
  rcases h2.2 with ⟨rfl, h0⟩ | ⟨g, cap, cur, rfl, _⟩
  · have e0 : l2 = [] := List.length_eq_zero_iff.1 h0
    subst e0
    refine wpList_append_own_none hgd s x 24 ho B 33 i0 3 underCS h1 v l.length (ccs l) hs hown hx ?_
    exact h v w (by rw [List.append_nil]; exact hown) (World.grownBy.refl _ _)
  · refine wpList_append_own _ hgd s x 24 ho B 33 i0 (.agg #[.int .i64 0, .int .i64 0, .int .u8 0]) 3 24 underCS h1 h3 h4 h5 rfl (by decide) v l.length (ccs l) hs hown ⟨g, 0, none⟩ l2.length cap (ccs l2) hx (ccs_len l2) (fun j u hj => h2'.cells (g := g) rfl j u hj) (fun u hu => ccs_one hu) (by unfold maxLen; omega) (by omega) hB ?_
    intro v' w' own' g' _
    exact h v' w' (by unfold Own; rw [List.length_append, ccs_app]; exact own') g'
theorem lnF_end (s : ByteArray) (i : Nat) (h : ¬ i < s.size) : lnF (s.size + 1) s i = [] := by rw [lnF, if_neg h]
theorem lnF_line {s : ByteArray} {i : Nat} (h : i < s.size) : lnF (s.size + 1) s i = i :: lnF (s.size + 1) s (lx s i) := by
  have hb := lx_bd h
  have e : lnF (s.size + 1) s i = i :: lnF s.size s (lx s i) := by rw [lnF, if_pos h]
  rw [e, lnF_fuel s s.size (s.size + 1) (lx s i) (by omega) (by omega)]
theorem ln_of {s : ByteArray} {f i : Nat} (hf : f ≤ i) (hi : i ≤ s.size) (h : ∀ j, f ≤ j → j < i → j < s.size → Sc.bt s j ≠ 10) (h10 : i < s.size → Sc.bt s i = 10) : ln s f = i :=
  Sc.ov_of ⟨hf, hi, fun j h1 h2 => (noEnd_iff _).2 (h j h1 h2 (by omega)), fun h3 => (noEnd_no _).2 (h10 h3)⟩
set_option maxHeartbeats 8000000 in
theorem refReadC (s : ByteArray) (w : World) : Calls Try.prog 17 #[.string s] w (LeftR w s) := by
  by_cases hbig : 1048576 < s.size
  · have e1 : rdE s = 3 := by unfold rdE; rw [if_pos hbig]
    have e2 : rdP s = 0 := by unfold rdP; rw [if_pos hbig]
    have e3 : rdC s = [] := by unfold rdC; rw [if_pos hbig]
    have hs' : (1048576 : Int) < (s.size : Int) := by omega
    unfold LeftR
    rw [e1, e2, e3]
    clear e1 e2 e3
    go_enter Try.func17, Try.ntmps17
    go_wp2
    go_ret3
    exact ⟨_, rfl, World.ownsRow_nil _ _ _ _, World.grownBy.refl _ _⟩
  · have hs' : ¬ (1048576 : Int) < (s.size : Int) := by omega
    go_enter Try.func17, Try.ntmps17
    go_wp2
    go_loopw [5, 6, 7] (fun v vy vf wr => ∃ (fr y : Nat) (acc : List Cx) (pre : List Nat), fr ≤ s.size + 1 ∧ vf = .int .i64 (fr : Nat) ∧ vy = .int .i64 (y : Nat) ∧ Own wr w.heap.size v acc ∧ w.grownBy wr none ∧ Hid (rdF s pre = (y, acc, none)) ∧ Hid (pre ++ lnF (s.size + 1) s fr = lns s) ∧ pre.length ≤ fr) (fun _ _ vf _ => s.size + 2 - (intOf vf).toNat)
    case atStart => exact ⟨0, 0, [], [], by omega, rfl, rfl, World.ownsRow_nil _ _ _ _, World.grownBy.refl _ _, rfl, rfl, by simp⟩
    case round =>
      obtain ⟨fr, y, acc, pre, hfr, rfl, rfl, own, hg, HS, HP, hpl⟩ := hrel
      obtain ⟨sp9, cp9, rfl, _, _⟩ := ce_of own
      by_cases hlt : fr < s.size
      · have hlt' : (fr : Int) < (s.size : Int) := by omega
        have hbd := rdF_len s pre.length pre rfl
        rw [HS.out] at hbd
        have hmul : pre.length * s.size ≤ 1048576 * 1048576 := Nat.mul_le_mul (by omega) (by omega)
        have HAC : Hid (acc.length ≤ 1099511627776) := Nat.le_trans hbd.1 hmul
        have hyb : y ≤ 1048576 := by have := hbd.2; omega
        clear hbd hmul
        go_wp2
        go_loopw [8] (fun v wr2 => ∃ k : Nat, fr ≤ k ∧ k ≤ s.size ∧ v = .int .i64 (k : Nat) ∧ Hid (∀ j, fr ≤ j → j < k → j < s.size → Sc.bt s j ≠ 10) ∧ wr2 = wr) (fun v _ => s.size - (intOf v).toNat)
        case atStart => exact ⟨fr, Nat.le_refl _, by omega, rfl, fun j h1 h2 => by omega, rfl⟩
        case round =>
          obtain ⟨k, hk0, hk, rfl, HB, hw⟩ := hrel
          subst hw
          by_cases hks : k < s.size
          · have hks' : (k : Int) < (s.size : Int) := by omega
            have hb := Sc.bt_at hks
            by_cases h10 : Sc.bt s k = 10
            · have e10 : ((Sc.bt s k : Int) != 10) = false := by rw [h10]; rfl
              have HL : Hid (ln s fr = k) := ln_of hk0 hk HB.out (fun _ => h10)
              have HPN : Hid ((pre ++ [fr]) ++ lnF (s.size + 1) s (k + 1) = lns s) := by
                have e : lx s fr = k + 1 := by unfold lx; rw [HL.out, if_pos hks]
                unfold Hid; rw [← HP.out, lnF_line hlt, e, List.append_assoc, List.singleton_append]
              clear h10 HP
              have hfk : (fr : Int) ≤ (k : Int) := by omega
              have hks : (k : Int) ≤ (s.size : Int) := by omega
              have hwk : IntKind.i64.wrap ((k : Int) + 1) = (k : Int) + 1 := by rw [IntKind.wrap_i64]; omega
              obtain ⟨u, hu⟩ : ∃ u, s.extract fr k = u := ⟨_, rfl⟩
              have hus : u.size ≤ 1048576 := by rw [← hu, Sc.size_ext s hk]; omega
              have htr : Hid (u.extract 0 (trE u) = lin s fr) := by
                have := tr_line (s := s) (i := fr) (by omega)
                rw [HL.out, hu] at this
                exact this
              by_cases hu0 : u.size = 0
              · have HLL : Hid (lin s fr = u) := by
                  unfold Hid; rw [← htr.out]
                  have e : trE u = u.size := by unfold trE; rw [if_neg (fun h => by omega)]
                  rw [e, ext_all]
                have hu1 : ¬ (0 : Int) < (u.size : Int) := by omega
                obtain ⟨L, hLe⟩ : ∃ L, u = L := ⟨_, rfl⟩
                rw [hLe] at HLL hu hu0 hu1 hus
                clear htr hLe
                have hLs : L.size ≤ 1048576 := hus
                have hE : L.size = 0 := hu0
                have HR0 : Hid (remB L = false) := by unfold Hid remB; rw [decide_eq_false]; omega
                have hE' : (((L.size : Nat) : Int) == 0) = true := by rw [hE]; rfl
                have hrow := fun W => refRowC L (by omega) fr y (by omega) (by omega) W
                have hrl := rowA_app L y acc _ 0 0 [] (Nat.le_refl _)
                have hln := rowA_len L y _ 0 0 [] (Nat.le_refl _)
                rw [List.append_nil] at hrl
                obtain ⟨RS, hRS⟩ : ∃ RS, rowA L y 0 0 [] = RS := ⟨_, rfl⟩
                simp only [hRS] at hrow
                rw [hRS] at hrl hln
                obtain ⟨cs, ob⟩ := RS
                have HRL : Hid (rowA L y 0 0 acc = match (cs, ob) with | (c, none) => (acc ++ c, none) | (_, some q) => ([], some q)) := hrl
                have hcl : cs.length ≤ L.size := by simpa using hln
                clear hRS hrl hln
                cases ob with
                | some q =>
                  have hbad : (0 : Int) ≤ rwB (some q) fr := by unfold rwB; simp; omega
                  have HQ : Hid (rwB (some q) fr = ((fr + q : Nat) : Int)) := rfl
                  have HN : Hid (rdF s (pre ++ [fr]) = (y, [], some (fr + q))) := by
                    unfold Hid; rw [rdF_snoc, HS.out, stepR_bad rfl (by rw [HLL.out]; exact HR0.out) (p := q) (by rw [HLL.out, HRL.out])]
                  have hrow : ∀ W, Calls Try.prog 36 #[.string L, .int .i64 (fr : Nat), .int .i64 (y : Nat)] W fun e w' => ∃ v, e = .returned (.tuple #[v, .int .i64 (rwB (some q) fr)]) ∧ Own w' W.heap.size v cs ∧ W.grownBy w' none := hrow
                  obtain ⟨X, hX⟩ : ∃ X, rwB (some q) fr = X := ⟨_, rfl⟩
                  simp only [hX] at hrow hbad
                  have HX : Hid (rwB (some q) fr = X) := hX
                  clear hX
                  go_wp2_with (go_at_call 36; refine (hrow _).mono ?_; rintro e w8 ⟨v8, rfl, own8, g8⟩)
                  go_ret3
                  have hrd : rd s = ([], some (fr + q)) := by
                    unfold rd; rw [← HPN.out, rdF_err _ (by rw [HN.out]; rfl), HN.out]
                  refine ⟨.slice none 0 0, ?_, ?_, gb_trans hg g8⟩
                  · rw [← HX.out, HQ.out]
                    unfold rdP rdE; rw [if_neg hbig, if_neg hbig, hrd]; rfl
                  · unfold rdC; rw [if_neg hbig, hrd]; exact World.ownsRow_nil _ _ _ _
                | none =>
                  have hbad : ¬ (0 : Int) ≤ -1 := by omega
                  have HN : Hid (rdF s (pre ++ [fr]) = (y + 1, acc ++ cs, none)) := by
                    unfold Hid; rw [rdF_snoc, HS.out, stepR_row rfl (by rw [HLL.out]; exact HR0.out) (c := acc ++ cs) (by rw [HLL.out, HRL.out])]
                  have hrow : ∀ W, Calls Try.prog 36 #[.string L, .int .i64 (fr : Nat), .int .i64 (y : Nat)] W fun e w' => ∃ v, e = .returned (.tuple #[v, .int .i64 (-1)]) ∧ Own w' W.heap.size v cs ∧ W.grownBy w' none := hrow
                  have hwy : IntKind.i64.wrap ((y : Int) + 1) = (y : Int) + 1 := by rw [IntKind.wrap_i64]; omega
                  have hszw := hg.size
                  go_wp2_with (first | (go_at_call 36; refine (hrow _).mono ?_; rintro e w8 ⟨v8, rfl, own8, g8⟩; have ownA := own.kept g8 (Classical.em _); have G8 := gb_trans hg g8; have sz8 := G8.size) | (at_builtin; refine app_own w8 rfl _ _ rfl w.heap.size _ acc rfl ownA wr.heap.size v8 cs rfl own8 (by have := HAC.out; omega) sz8 ?_; intro v9 w9 own9 g9; refine Hid.out ?_))
                  refine Lib.hid ?_
                  have G9 : w.grownBy w9 none := gb_row G8 g9 (fun i e => (ownA.lt i e).1)
                  clear own8 g9 ownA
                  go_wp2
                  go_roundw
                  case rel => exact ⟨k + 1, y + 1, acc ++ cs, pre ++ [fr], by omega, by go_num, by go_num, own9, G9, HN, HPN, by rw [List.length_append]; simp only [List.length_cons, List.length_nil]; omega⟩
                  case measure => simp [intOf]; omega
              · obtain ⟨m, hm⟩ : ∃ m, u.size = m + 1 := ⟨u.size - 1, by omega⟩
                have hmu : m < u.size := by omega
                have hbm := Sc.bt_at hmu
                have hw1 : IntKind.i64.wrap ((u.size : Int) - 1) = (m : Int) := by rw [IntKind.wrap_i64]; omega
                have hu1 : (0 : Int) < (u.size : Int) := by omega
                have hm0 : (0 : Int) ≤ (m : Int) := by omega
                have hm1 : (m : Int) < (u.size : Int) := by omega
                have hm2 : (m : Int) ≤ (u.size : Int) := by omega
                have hmH : Hid (u.size = m + 1) := hm
                by_cases h13 : Sc.bt u m = 13
                · have e13 : ((Sc.bt u m : Int) == 13) = true := by rw [h13]; rfl
                  have hLL : lin s fr = u.extract 0 m := by
                    rw [← htr.out]
                    have e : trE u = u.size - 1 := by unfold trE; rw [if_pos ⟨by omega, by rw [hm, Nat.add_sub_cancel]; exact h13⟩]
                    rw [e, hm, Nat.add_sub_cancel]
                  obtain ⟨L, hLx⟩ : ∃ L, u.extract 0 m = L := ⟨_, rfl⟩
                  have hLs : L.size ≤ 1048576 := by rw [← hLx, Sc.size_ext u (by omega)]; omega
                  have HLL : Hid (lin s fr = L) := by unfold Hid; rw [hLL, hLx]
                  clear htr hLL h13 hm hu0
                  by_cases hE : L.size = 0
                  · have HR0 : Hid (remB L = false) := by unfold Hid remB; rw [decide_eq_false]; omega
                    have hE' : (((L.size : Nat) : Int) == 0) = true := by rw [hE]; rfl
                    have hrow := fun W => refRowC L (by omega) fr y (by omega) (by omega) W
                    have hrl := rowA_app L y acc _ 0 0 [] (Nat.le_refl _)
                    have hln := rowA_len L y _ 0 0 [] (Nat.le_refl _)
                    rw [List.append_nil] at hrl
                    obtain ⟨RS, hRS⟩ : ∃ RS, rowA L y 0 0 [] = RS := ⟨_, rfl⟩
                    simp only [hRS] at hrow
                    rw [hRS] at hrl hln
                    obtain ⟨cs, ob⟩ := RS
                    have HRL : Hid (rowA L y 0 0 acc = match (cs, ob) with | (c, none) => (acc ++ c, none) | (_, some q) => ([], some q)) := hrl
                    have hcl : cs.length ≤ L.size := by simpa using hln
                    clear hRS hrl hln
                    cases ob with
                    | some q =>
                      have hbad : (0 : Int) ≤ rwB (some q) fr := by unfold rwB; simp; omega
                      have HQ : Hid (rwB (some q) fr = ((fr + q : Nat) : Int)) := rfl
                      have HN : Hid (rdF s (pre ++ [fr]) = (y, [], some (fr + q))) := by
                        unfold Hid; rw [rdF_snoc, HS.out, stepR_bad rfl (by rw [HLL.out]; exact HR0.out) (p := q) (by rw [HLL.out, HRL.out])]
                      have hrow : ∀ W, Calls Try.prog 36 #[.string L, .int .i64 (fr : Nat), .int .i64 (y : Nat)] W fun e w' => ∃ v, e = .returned (.tuple #[v, .int .i64 (rwB (some q) fr)]) ∧ Own w' W.heap.size v cs ∧ W.grownBy w' none := hrow
                      obtain ⟨X, hX⟩ : ∃ X, rwB (some q) fr = X := ⟨_, rfl⟩
                      simp only [hX] at hrow hbad
                      have HX : Hid (rwB (some q) fr = X) := hX
                      clear hX
                      go_wp2_with (go_at_call 36; refine (hrow _).mono ?_; rintro e w8 ⟨v8, rfl, own8, g8⟩)
                      go_ret3
                      have hrd : rd s = ([], some (fr + q)) := by
                        unfold rd; rw [← HPN.out, rdF_err _ (by rw [HN.out]; rfl), HN.out]
                      refine ⟨.slice none 0 0, ?_, ?_, gb_trans hg g8⟩
                      · rw [← HX.out, HQ.out]
                        unfold rdP rdE; rw [if_neg hbig, if_neg hbig, hrd]; rfl
                      · unfold rdC; rw [if_neg hbig, hrd]; exact World.ownsRow_nil _ _ _ _
                    | none =>
                      have hbad : ¬ (0 : Int) ≤ -1 := by omega
                      have HN : Hid (rdF s (pre ++ [fr]) = (y + 1, acc ++ cs, none)) := by
                        unfold Hid; rw [rdF_snoc, HS.out, stepR_row rfl (by rw [HLL.out]; exact HR0.out) (c := acc ++ cs) (by rw [HLL.out, HRL.out])]
                      have hrow : ∀ W, Calls Try.prog 36 #[.string L, .int .i64 (fr : Nat), .int .i64 (y : Nat)] W fun e w' => ∃ v, e = .returned (.tuple #[v, .int .i64 (-1)]) ∧ Own w' W.heap.size v cs ∧ W.grownBy w' none := hrow
                      have hwy : IntKind.i64.wrap ((y : Int) + 1) = (y : Int) + 1 := by rw [IntKind.wrap_i64]; omega
                      have hszw := hg.size
                      go_wp2_with (first | (go_at_call 36; refine (hrow _).mono ?_; rintro e w8 ⟨v8, rfl, own8, g8⟩; have ownA := own.kept g8 (Classical.em _); have G8 := gb_trans hg g8; have sz8 := G8.size) | (at_builtin; refine app_own w8 rfl _ _ rfl w.heap.size _ acc rfl ownA wr.heap.size v8 cs rfl own8 (by have := HAC.out; omega) sz8 ?_; intro v9 w9 own9 g9; refine Hid.out ?_))
                      refine Lib.hid ?_
                      have G9 : w.grownBy w9 none := gb_row G8 g9 (fun i e => (ownA.lt i e).1)
                      clear own8 g9 ownA
                      go_wp2
                      go_roundw
                      case rel => exact ⟨k + 1, y + 1, acc ++ cs, pre ++ [fr], by omega, by go_num, by go_num, own9, G9, HN, HPN, by rw [List.length_append]; simp only [List.length_cons, List.length_nil]; omega⟩
                      case measure => simp [intOf]; omega
                  · have h0L : 0 < L.size := by omega
                    have hE' : (((L.size : Nat) : Int) == 0) = false := beq_false_of_ne (by omega)
                    have hbL := Sc.bt_at h0L
                    by_cases h33 : Sc.bt L 0 = 33
                    · have HR0 : Hid (remB L = true) := by unfold Hid remB; rw [decide_eq_true ⟨h0L, h33⟩]
                      have h33' : ((Sc.bt L 0 : Int) != 33) = false := by rw [h33]; rfl
                      have HN : Hid (rdF s (pre ++ [fr]) = (y, acc, none)) := by unfold Hid; rw [rdF_snoc, HS.out, stepR_rem rfl (by rw [HLL.out]; exact HR0.out)]
                      clear h33
                      go_wp2
                      go_roundw
                      case rel => exact ⟨k + 1, y, acc, pre ++ [fr], by omega, by go_num, rfl, own, hg, HN, HPN, by rw [List.length_append]; simp only [List.length_cons, List.length_nil]; omega⟩
                      case measure => simp [intOf]; omega
                    · have HR0 : Hid (remB L = false) := by unfold Hid remB; rw [decide_eq_false]; exact fun h => h33 h.2
                      have h33' : ((Sc.bt L 0 : Int) != 33) = true := by simp; omega
                      clear h33
                      have hrow := fun W => refRowC L (by omega) fr y (by omega) (by omega) W
                      have hrl := rowA_app L y acc _ 0 0 [] (Nat.le_refl _)
                      have hln := rowA_len L y _ 0 0 [] (Nat.le_refl _)
                      rw [List.append_nil] at hrl
                      obtain ⟨RS, hRS⟩ : ∃ RS, rowA L y 0 0 [] = RS := ⟨_, rfl⟩
                      simp only [hRS] at hrow
                      rw [hRS] at hrl hln
                      obtain ⟨cs, ob⟩ := RS
                      have HRL : Hid (rowA L y 0 0 acc = match (cs, ob) with | (c, none) => (acc ++ c, none) | (_, some q) => ([], some q)) := hrl
                      have hcl : cs.length ≤ L.size := by simpa using hln
                      clear hRS hrl hln
                      cases ob with
                      | some q =>
                        have hbad : (0 : Int) ≤ rwB (some q) fr := by unfold rwB; simp; omega
                        have HQ : Hid (rwB (some q) fr = ((fr + q : Nat) : Int)) := rfl
                        have HN : Hid (rdF s (pre ++ [fr]) = (y, [], some (fr + q))) := by
                          unfold Hid; rw [rdF_snoc, HS.out, stepR_bad rfl (by rw [HLL.out]; exact HR0.out) (p := q) (by rw [HLL.out, HRL.out])]
                        have hrow : ∀ W, Calls Try.prog 36 #[.string L, .int .i64 (fr : Nat), .int .i64 (y : Nat)] W fun e w' => ∃ v, e = .returned (.tuple #[v, .int .i64 (rwB (some q) fr)]) ∧ Own w' W.heap.size v cs ∧ W.grownBy w' none := hrow
                        obtain ⟨X, hX⟩ : ∃ X, rwB (some q) fr = X := ⟨_, rfl⟩
                        simp only [hX] at hrow hbad
                        have HX : Hid (rwB (some q) fr = X) := hX
                        clear hX
                        go_wp2_with (go_at_call 36; refine (hrow _).mono ?_; rintro e w8 ⟨v8, rfl, own8, g8⟩)
                        go_ret3
                        have hrd : rd s = ([], some (fr + q)) := by
                          unfold rd; rw [← HPN.out, rdF_err _ (by rw [HN.out]; rfl), HN.out]
                        refine ⟨.slice none 0 0, ?_, ?_, gb_trans hg g8⟩
                        · rw [← HX.out, HQ.out]
                          unfold rdP rdE; rw [if_neg hbig, if_neg hbig, hrd]; rfl
                        · unfold rdC; rw [if_neg hbig, hrd]; exact World.ownsRow_nil _ _ _ _
                      | none =>
                        have hbad : ¬ (0 : Int) ≤ -1 := by omega
                        have HN : Hid (rdF s (pre ++ [fr]) = (y + 1, acc ++ cs, none)) := by
                          unfold Hid; rw [rdF_snoc, HS.out, stepR_row rfl (by rw [HLL.out]; exact HR0.out) (c := acc ++ cs) (by rw [HLL.out, HRL.out])]
                        have hrow : ∀ W, Calls Try.prog 36 #[.string L, .int .i64 (fr : Nat), .int .i64 (y : Nat)] W fun e w' => ∃ v, e = .returned (.tuple #[v, .int .i64 (-1)]) ∧ Own w' W.heap.size v cs ∧ W.grownBy w' none := hrow
                        have hwy : IntKind.i64.wrap ((y : Int) + 1) = (y : Int) + 1 := by rw [IntKind.wrap_i64]; omega
                        have hszw := hg.size
                        go_wp2_with (first | (go_at_call 36; refine (hrow _).mono ?_; rintro e w8 ⟨v8, rfl, own8, g8⟩; have ownA := own.kept g8 (Classical.em _); have G8 := gb_trans hg g8; have sz8 := G8.size) | (at_builtin; refine app_own w8 rfl _ _ rfl w.heap.size _ acc rfl ownA wr.heap.size v8 cs rfl own8 (by have := HAC.out; omega) sz8 ?_; intro v9 w9 own9 g9; refine Hid.out ?_))
                        refine Lib.hid ?_
                        have G9 : w.grownBy w9 none := gb_row G8 g9 (fun i e => (ownA.lt i e).1)
                        clear own8 g9 ownA
                        go_wp2
                        go_roundw
                        case rel => exact ⟨k + 1, y + 1, acc ++ cs, pre ++ [fr], by omega, by go_num, by go_num, own9, G9, HN, HPN, by rw [List.length_append]; simp only [List.length_cons, List.length_nil]; omega⟩
                        case measure => simp [intOf]; omega
                · have e13 : ((Sc.bt u m : Int) == 13) = false := by simp; omega
                  have HLL : Hid (lin s fr = u) := by
                    unfold Hid; rw [← htr.out]
                    have e : trE u = u.size := by unfold trE; rw [if_neg (fun h => h13 (by have := h.2; rw [hm, Nat.add_sub_cancel] at this; exact this))]
                    rw [e, ext_all]
                  clear htr h13 hm hu0
                  obtain ⟨L, hLe⟩ : ∃ L, u = L := ⟨_, rfl⟩
                  subst hLe
                  have hLs : u.size ≤ 1048576 := hus
                  by_cases hE : u.size = 0
                  · have HR0 : Hid (remB u = false) := by unfold Hid remB; rw [decide_eq_false]; omega
                    have hE' : (((u.size : Nat) : Int) == 0) = true := by rw [hE]; rfl
                    have hrow := fun W => refRowC u (by omega) fr y (by omega) (by omega) W
                    have hrl := rowA_app u y acc _ 0 0 [] (Nat.le_refl _)
                    have hln := rowA_len u y _ 0 0 [] (Nat.le_refl _)
                    rw [List.append_nil] at hrl
                    obtain ⟨RS, hRS⟩ : ∃ RS, rowA u y 0 0 [] = RS := ⟨_, rfl⟩
                    simp only [hRS] at hrow
                    rw [hRS] at hrl hln
                    obtain ⟨cs, ob⟩ := RS
                    have HRL : Hid (rowA u y 0 0 acc = match (cs, ob) with | (c, none) => (acc ++ c, none) | (_, some q) => ([], some q)) := hrl
                    have hcl : cs.length ≤ u.size := by simpa using hln
                    clear hRS hrl hln
                    cases ob with
                    | some q =>
                      have hbad : (0 : Int) ≤ rwB (some q) fr := by unfold rwB; simp; omega
                      have HQ : Hid (rwB (some q) fr = ((fr + q : Nat) : Int)) := rfl
                      have HN : Hid (rdF s (pre ++ [fr]) = (y, [], some (fr + q))) := by
                        unfold Hid; rw [rdF_snoc, HS.out, stepR_bad rfl (by rw [HLL.out]; exact HR0.out) (p := q) (by rw [HLL.out, HRL.out])]
                      have hrow : ∀ W, Calls Try.prog 36 #[.string u, .int .i64 (fr : Nat), .int .i64 (y : Nat)] W fun e w' => ∃ v, e = .returned (.tuple #[v, .int .i64 (rwB (some q) fr)]) ∧ Own w' W.heap.size v cs ∧ W.grownBy w' none := hrow
                      obtain ⟨X, hX⟩ : ∃ X, rwB (some q) fr = X := ⟨_, rfl⟩
                      simp only [hX] at hrow hbad
                      have HX : Hid (rwB (some q) fr = X) := hX
                      clear hX
                      go_wp2_with (go_at_call 36; refine (hrow _).mono ?_; rintro e w8 ⟨v8, rfl, own8, g8⟩)
                      go_ret3
                      have hrd : rd s = ([], some (fr + q)) := by
                        unfold rd; rw [← HPN.out, rdF_err _ (by rw [HN.out]; rfl), HN.out]
                      refine ⟨.slice none 0 0, ?_, ?_, gb_trans hg g8⟩
                      · rw [← HX.out, HQ.out]
                        unfold rdP rdE; rw [if_neg hbig, if_neg hbig, hrd]; rfl
                      · unfold rdC; rw [if_neg hbig, hrd]; exact World.ownsRow_nil _ _ _ _
                    | none =>
                      have hbad : ¬ (0 : Int) ≤ -1 := by omega
                      have HN : Hid (rdF s (pre ++ [fr]) = (y + 1, acc ++ cs, none)) := by
                        unfold Hid; rw [rdF_snoc, HS.out, stepR_row rfl (by rw [HLL.out]; exact HR0.out) (c := acc ++ cs) (by rw [HLL.out, HRL.out])]
                      have hrow : ∀ W, Calls Try.prog 36 #[.string u, .int .i64 (fr : Nat), .int .i64 (y : Nat)] W fun e w' => ∃ v, e = .returned (.tuple #[v, .int .i64 (-1)]) ∧ Own w' W.heap.size v cs ∧ W.grownBy w' none := hrow
                      have hwy : IntKind.i64.wrap ((y : Int) + 1) = (y : Int) + 1 := by rw [IntKind.wrap_i64]; omega
                      have hszw := hg.size
                      go_wp2_with (first | (go_at_call 36; refine (hrow _).mono ?_; rintro e w8 ⟨v8, rfl, own8, g8⟩; have ownA := own.kept g8 (Classical.em _); have G8 := gb_trans hg g8; have sz8 := G8.size) | (at_builtin; refine app_own w8 rfl _ _ rfl w.heap.size _ acc rfl ownA wr.heap.size v8 cs rfl own8 (by have := HAC.out; omega) sz8 ?_; intro v9 w9 own9 g9; refine Hid.out ?_))
                      refine Lib.hid ?_
                      have G9 : w.grownBy w9 none := gb_row G8 g9 (fun i e => (ownA.lt i e).1)
                      clear own8 g9 ownA
                      go_wp2
                      go_roundw
                      case rel => exact ⟨k + 1, y + 1, acc ++ cs, pre ++ [fr], by omega, by go_num, by go_num, own9, G9, HN, HPN, by rw [List.length_append]; simp only [List.length_cons, List.length_nil]; omega⟩
                      case measure => simp [intOf]; omega
                  · have h0L : 0 < u.size := by omega
                    have hE' : (((u.size : Nat) : Int) == 0) = false := beq_false_of_ne (by omega)
                    have hbL := Sc.bt_at h0L
                    by_cases h33 : Sc.bt u 0 = 33
                    · have HR0 : Hid (remB u = true) := by unfold Hid remB; rw [decide_eq_true ⟨h0L, h33⟩]
                      have h33' : ((Sc.bt u 0 : Int) != 33) = false := by rw [h33]; rfl
                      have HN : Hid (rdF s (pre ++ [fr]) = (y, acc, none)) := by unfold Hid; rw [rdF_snoc, HS.out, stepR_rem rfl (by rw [HLL.out]; exact HR0.out)]
                      clear h33
                      go_wp2
                      go_roundw
                      case rel => exact ⟨k + 1, y, acc, pre ++ [fr], by omega, by go_num, rfl, own, hg, HN, HPN, by rw [List.length_append]; simp only [List.length_cons, List.length_nil]; omega⟩
                      case measure => simp [intOf]; omega
                    · have HR0 : Hid (remB u = false) := by unfold Hid remB; rw [decide_eq_false]; exact fun h => h33 h.2
                      have h33' : ((Sc.bt u 0 : Int) != 33) = true := by simp; omega
                      clear h33
                      have hrow := fun W => refRowC u (by omega) fr y (by omega) (by omega) W
                      have hrl := rowA_app u y acc _ 0 0 [] (Nat.le_refl _)
                      have hln := rowA_len u y _ 0 0 [] (Nat.le_refl _)
                      rw [List.append_nil] at hrl
                      obtain ⟨RS, hRS⟩ : ∃ RS, rowA u y 0 0 [] = RS := ⟨_, rfl⟩
                      simp only [hRS] at hrow
                      rw [hRS] at hrl hln
                      obtain ⟨cs, ob⟩ := RS
                      have HRL : Hid (rowA u y 0 0 acc = match (cs, ob) with | (c, none) => (acc ++ c, none) | (_, some q) => ([], some q)) := hrl
                      have hcl : cs.length ≤ u.size := by simpa using hln
                      clear hRS hrl hln
                      cases ob with
                      | some q =>
                        have hbad : (0 : Int) ≤ rwB (some q) fr := by unfold rwB; simp; omega
                        have HQ : Hid (rwB (some q) fr = ((fr + q : Nat) : Int)) := rfl
                        have HN : Hid (rdF s (pre ++ [fr]) = (y, [], some (fr + q))) := by
                          unfold Hid; rw [rdF_snoc, HS.out, stepR_bad rfl (by rw [HLL.out]; exact HR0.out) (p := q) (by rw [HLL.out, HRL.out])]
                        have hrow : ∀ W, Calls Try.prog 36 #[.string u, .int .i64 (fr : Nat), .int .i64 (y : Nat)] W fun e w' => ∃ v, e = .returned (.tuple #[v, .int .i64 (rwB (some q) fr)]) ∧ Own w' W.heap.size v cs ∧ W.grownBy w' none := hrow
                        obtain ⟨X, hX⟩ : ∃ X, rwB (some q) fr = X := ⟨_, rfl⟩
                        simp only [hX] at hrow hbad
                        have HX : Hid (rwB (some q) fr = X) := hX
                        clear hX
                        go_wp2_with (go_at_call 36; refine (hrow _).mono ?_; rintro e w8 ⟨v8, rfl, own8, g8⟩)
                        go_ret3
                        have hrd : rd s = ([], some (fr + q)) := by
                          unfold rd; rw [← HPN.out, rdF_err _ (by rw [HN.out]; rfl), HN.out]
                        refine ⟨.slice none 0 0, ?_, ?_, gb_trans hg g8⟩
                        · rw [← HX.out, HQ.out]
                          unfold rdP rdE; rw [if_neg hbig, if_neg hbig, hrd]; rfl
                        · unfold rdC; rw [if_neg hbig, hrd]; exact World.ownsRow_nil _ _ _ _
                      | none =>
                        have hbad : ¬ (0 : Int) ≤ -1 := by omega
                        have HN : Hid (rdF s (pre ++ [fr]) = (y + 1, acc ++ cs, none)) := by
                          unfold Hid; rw [rdF_snoc, HS.out, stepR_row rfl (by rw [HLL.out]; exact HR0.out) (c := acc ++ cs) (by rw [HLL.out, HRL.out])]
                        have hrow : ∀ W, Calls Try.prog 36 #[.string u, .int .i64 (fr : Nat), .int .i64 (y : Nat)] W fun e w' => ∃ v, e = .returned (.tuple #[v, .int .i64 (-1)]) ∧ Own w' W.heap.size v cs ∧ W.grownBy w' none := hrow
                        have hwy : IntKind.i64.wrap ((y : Int) + 1) = (y : Int) + 1 := by rw [IntKind.wrap_i64]; omega
                        have hszw := hg.size
                        go_wp2_with (first | (go_at_call 36; refine (hrow _).mono ?_; rintro e w8 ⟨v8, rfl, own8, g8⟩; have ownA := own.kept g8 (Classical.em _); have G8 := gb_trans hg g8; have sz8 := G8.size) | (at_builtin; refine app_own w8 rfl _ _ rfl w.heap.size _ acc rfl ownA wr.heap.size v8 cs rfl own8 (by have := HAC.out; omega) sz8 ?_; intro v9 w9 own9 g9; refine Hid.out ?_))
                        refine Lib.hid ?_
                        have G9 : w.grownBy w9 none := gb_row G8 g9 (fun i e => (ownA.lt i e).1)
                        clear own8 g9 ownA
                        go_wp2
                        go_roundw
                        case rel => exact ⟨k + 1, y + 1, acc ++ cs, pre ++ [fr], by omega, by go_num, by go_num, own9, G9, HN, HPN, by rw [List.length_append]; simp only [List.length_cons, List.length_nil]; omega⟩
                        case measure => simp [intOf]; omega
            · have e10 : ((Sc.bt s k : Int) != 10) = true := by simp; omega
              have HB' : Hid (∀ j, fr ≤ j → j < k + 1 → j < s.size → Sc.bt s j ≠ 10) := fun j h1 h2 h3 => by
                by_cases hj : j = k
                · rw [hj]; exact h10
                · exact HB.out j h1 (by omega) h3
              clear h10
              go_wp2
              go_roundw
              case rel => exact ⟨k + 1, by omega, by omega, by go_num, HB', by first | rfl | trivial⟩
              case measure => simp [intOf]; omega
          · obtain rfl : k = s.size := by omega
            have hks' : ¬ (s.size : Int) < (s.size : Int) := by omega
            have HL : Hid (ln s fr = s.size) := ln_of hk0 hk HB.out (fun h => by omega)
            have HPN : Hid ((pre ++ [fr]) ++ lnF (s.size + 1) s (s.size + 1) = lns s) := by
              have e : lx s fr = s.size := by unfold lx; rw [HL.out, if_neg (by omega)]
              unfold Hid; rw [← HP.out, lnF_line hlt, e, lnF_end s s.size (by omega), lnF_end s (s.size + 1) (by omega), List.append_nil]
            clear HP
            have hfk : (fr : Int) ≤ (s.size : Int) := by omega
            have hks : (s.size : Int) ≤ (s.size : Int) := by omega
            have hwk : IntKind.i64.wrap ((s.size : Int) + 1) = (s.size : Int) + 1 := by rw [IntKind.wrap_i64]; omega
            obtain ⟨u, hu⟩ : ∃ u, s.extract fr s.size = u := ⟨_, rfl⟩
            have hus : u.size ≤ 1048576 := by rw [← hu, Sc.size_ext s hk]; omega
            have htr : Hid (u.extract 0 (trE u) = lin s fr) := by
              have := tr_line (s := s) (i := fr) (by omega)
              rw [HL.out, hu] at this
              exact this
            by_cases hu0 : u.size = 0
            · have HLL : Hid (lin s fr = u) := by
                unfold Hid; rw [← htr.out]
                have e : trE u = u.size := by unfold trE; rw [if_neg (fun h => by omega)]
                rw [e, ext_all]
              have hu1 : ¬ (0 : Int) < (u.size : Int) := by omega
              obtain ⟨L, hLe⟩ : ∃ L, u = L := ⟨_, rfl⟩
              rw [hLe] at HLL hu hu0 hu1 hus
              clear htr hLe
              have hLs : L.size ≤ 1048576 := hus
              have hE : L.size = 0 := hu0
              have HR0 : Hid (remB L = false) := by unfold Hid remB; rw [decide_eq_false]; omega
              have hE' : (((L.size : Nat) : Int) == 0) = true := by rw [hE]; rfl
              have hrow := fun W => refRowC L (by omega) fr y (by omega) (by omega) W
              have hrl := rowA_app L y acc _ 0 0 [] (Nat.le_refl _)
              have hln := rowA_len L y _ 0 0 [] (Nat.le_refl _)
              rw [List.append_nil] at hrl
              obtain ⟨RS, hRS⟩ : ∃ RS, rowA L y 0 0 [] = RS := ⟨_, rfl⟩
              simp only [hRS] at hrow
              rw [hRS] at hrl hln
              obtain ⟨cs, ob⟩ := RS
              have HRL : Hid (rowA L y 0 0 acc = match (cs, ob) with | (c, none) => (acc ++ c, none) | (_, some q) => ([], some q)) := hrl
              have hcl : cs.length ≤ L.size := by simpa using hln
              clear hRS hrl hln
              cases ob with
              | some q =>
                have hbad : (0 : Int) ≤ rwB (some q) fr := by unfold rwB; simp; omega
                have HQ : Hid (rwB (some q) fr = ((fr + q : Nat) : Int)) := rfl
                have HN : Hid (rdF s (pre ++ [fr]) = (y, [], some (fr + q))) := by
                  unfold Hid; rw [rdF_snoc, HS.out, stepR_bad rfl (by rw [HLL.out]; exact HR0.out) (p := q) (by rw [HLL.out, HRL.out])]
                have hrow : ∀ W, Calls Try.prog 36 #[.string L, .int .i64 (fr : Nat), .int .i64 (y : Nat)] W fun e w' => ∃ v, e = .returned (.tuple #[v, .int .i64 (rwB (some q) fr)]) ∧ Own w' W.heap.size v cs ∧ W.grownBy w' none := hrow
                obtain ⟨X, hX⟩ : ∃ X, rwB (some q) fr = X := ⟨_, rfl⟩
                simp only [hX] at hrow hbad
                have HX : Hid (rwB (some q) fr = X) := hX
                clear hX
                go_wp2_with (go_at_call 36; refine (hrow _).mono ?_; rintro e w8 ⟨v8, rfl, own8, g8⟩)
                go_ret3
                have hrd : rd s = ([], some (fr + q)) := by
                  unfold rd; rw [← HPN.out, rdF_err _ (by rw [HN.out]; rfl), HN.out]
                refine ⟨.slice none 0 0, ?_, ?_, gb_trans hg g8⟩
                · rw [← HX.out, HQ.out]
                  unfold rdP rdE; rw [if_neg hbig, if_neg hbig, hrd]; rfl
                · unfold rdC; rw [if_neg hbig, hrd]; exact World.ownsRow_nil _ _ _ _
              | none =>
                have hbad : ¬ (0 : Int) ≤ -1 := by omega
                have HN : Hid (rdF s (pre ++ [fr]) = (y + 1, acc ++ cs, none)) := by
                  unfold Hid; rw [rdF_snoc, HS.out, stepR_row rfl (by rw [HLL.out]; exact HR0.out) (c := acc ++ cs) (by rw [HLL.out, HRL.out])]
                have hrow : ∀ W, Calls Try.prog 36 #[.string L, .int .i64 (fr : Nat), .int .i64 (y : Nat)] W fun e w' => ∃ v, e = .returned (.tuple #[v, .int .i64 (-1)]) ∧ Own w' W.heap.size v cs ∧ W.grownBy w' none := hrow
                have hwy : IntKind.i64.wrap ((y : Int) + 1) = (y : Int) + 1 := by rw [IntKind.wrap_i64]; omega
                have hszw := hg.size
                go_wp2_with (first | (go_at_call 36; refine (hrow _).mono ?_; rintro e w8 ⟨v8, rfl, own8, g8⟩; have ownA := own.kept g8 (Classical.em _); have G8 := gb_trans hg g8; have sz8 := G8.size) | (at_builtin; refine app_own w8 rfl _ _ rfl w.heap.size _ acc rfl ownA wr.heap.size v8 cs rfl own8 (by have := HAC.out; omega) sz8 ?_; intro v9 w9 own9 g9; refine Hid.out ?_))
                refine Lib.hid ?_
                have G9 : w.grownBy w9 none := gb_row G8 g9 (fun i e => (ownA.lt i e).1)
                clear own8 g9 ownA
                go_wp2
                go_roundw
                case rel => exact ⟨s.size + 1, y + 1, acc ++ cs, pre ++ [fr], by omega, by go_num, by go_num, own9, G9, HN, HPN, by rw [List.length_append]; simp only [List.length_cons, List.length_nil]; omega⟩
                case measure => simp [intOf]; omega
            · obtain ⟨m, hm⟩ : ∃ m, u.size = m + 1 := ⟨u.size - 1, by omega⟩
              have hmu : m < u.size := by omega
              have hbm := Sc.bt_at hmu
              have hw1 : IntKind.i64.wrap ((u.size : Int) - 1) = (m : Int) := by rw [IntKind.wrap_i64]; omega
              have hu1 : (0 : Int) < (u.size : Int) := by omega
              have hm0 : (0 : Int) ≤ (m : Int) := by omega
              have hm1 : (m : Int) < (u.size : Int) := by omega
              have hm2 : (m : Int) ≤ (u.size : Int) := by omega
              have hmH : Hid (u.size = m + 1) := hm
              by_cases h13 : Sc.bt u m = 13
              · have e13 : ((Sc.bt u m : Int) == 13) = true := by rw [h13]; rfl
                have hLL : lin s fr = u.extract 0 m := by
                  rw [← htr.out]
                  have e : trE u = u.size - 1 := by unfold trE; rw [if_pos ⟨by omega, by rw [hm, Nat.add_sub_cancel]; exact h13⟩]
                  rw [e, hm, Nat.add_sub_cancel]
                obtain ⟨L, hLx⟩ : ∃ L, u.extract 0 m = L := ⟨_, rfl⟩
                have hLs : L.size ≤ 1048576 := by rw [← hLx, Sc.size_ext u (by omega)]; omega
                have HLL : Hid (lin s fr = L) := by unfold Hid; rw [hLL, hLx]
                clear htr hLL h13 hm hu0
                by_cases hE : L.size = 0
                · have HR0 : Hid (remB L = false) := by unfold Hid remB; rw [decide_eq_false]; omega
                  have hE' : (((L.size : Nat) : Int) == 0) = true := by rw [hE]; rfl
                  have hrow := fun W => refRowC L (by omega) fr y (by omega) (by omega) W
                  have hrl := rowA_app L y acc _ 0 0 [] (Nat.le_refl _)
                  have hln := rowA_len L y _ 0 0 [] (Nat.le_refl _)
                  rw [List.append_nil] at hrl
                  obtain ⟨RS, hRS⟩ : ∃ RS, rowA L y 0 0 [] = RS := ⟨_, rfl⟩
                  simp only [hRS] at hrow
                  rw [hRS] at hrl hln
                  obtain ⟨cs, ob⟩ := RS
                  have HRL : Hid (rowA L y 0 0 acc = match (cs, ob) with | (c, none) => (acc ++ c, none) | (_, some q) => ([], some q)) := hrl
                  have hcl : cs.length ≤ L.size := by simpa using hln
                  clear hRS hrl hln
                  cases ob with
                  | some q =>
                    have hbad : (0 : Int) ≤ rwB (some q) fr := by unfold rwB; simp; omega
                    have HQ : Hid (rwB (some q) fr = ((fr + q : Nat) : Int)) := rfl
                    have HN : Hid (rdF s (pre ++ [fr]) = (y, [], some (fr + q))) := by
                      unfold Hid; rw [rdF_snoc, HS.out, stepR_bad rfl (by rw [HLL.out]; exact HR0.out) (p := q) (by rw [HLL.out, HRL.out])]
                    have hrow : ∀ W, Calls Try.prog 36 #[.string L, .int .i64 (fr : Nat), .int .i64 (y : Nat)] W fun e w' => ∃ v, e = .returned (.tuple #[v, .int .i64 (rwB (some q) fr)]) ∧ Own w' W.heap.size v cs ∧ W.grownBy w' none := hrow
                    obtain ⟨X, hX⟩ : ∃ X, rwB (some q) fr = X := ⟨_, rfl⟩
                    simp only [hX] at hrow hbad
                    have HX : Hid (rwB (some q) fr = X) := hX
                    clear hX
                    go_wp2_with (go_at_call 36; refine (hrow _).mono ?_; rintro e w8 ⟨v8, rfl, own8, g8⟩)
                    go_ret3
                    have hrd : rd s = ([], some (fr + q)) := by
                      unfold rd; rw [← HPN.out, rdF_err _ (by rw [HN.out]; rfl), HN.out]
                    refine ⟨.slice none 0 0, ?_, ?_, gb_trans hg g8⟩
                    · rw [← HX.out, HQ.out]
                      unfold rdP rdE; rw [if_neg hbig, if_neg hbig, hrd]; rfl
                    · unfold rdC; rw [if_neg hbig, hrd]; exact World.ownsRow_nil _ _ _ _
                  | none =>
                    have hbad : ¬ (0 : Int) ≤ -1 := by omega
                    have HN : Hid (rdF s (pre ++ [fr]) = (y + 1, acc ++ cs, none)) := by
                      unfold Hid; rw [rdF_snoc, HS.out, stepR_row rfl (by rw [HLL.out]; exact HR0.out) (c := acc ++ cs) (by rw [HLL.out, HRL.out])]
                    have hrow : ∀ W, Calls Try.prog 36 #[.string L, .int .i64 (fr : Nat), .int .i64 (y : Nat)] W fun e w' => ∃ v, e = .returned (.tuple #[v, .int .i64 (-1)]) ∧ Own w' W.heap.size v cs ∧ W.grownBy w' none := hrow
                    have hwy : IntKind.i64.wrap ((y : Int) + 1) = (y : Int) + 1 := by rw [IntKind.wrap_i64]; omega
                    have hszw := hg.size
                    go_wp2_with (first | (go_at_call 36; refine (hrow _).mono ?_; rintro e w8 ⟨v8, rfl, own8, g8⟩; have ownA := own.kept g8 (Classical.em _); have G8 := gb_trans hg g8; have sz8 := G8.size) | (at_builtin; refine app_own w8 rfl _ _ rfl w.heap.size _ acc rfl ownA wr.heap.size v8 cs rfl own8 (by have := HAC.out; omega) sz8 ?_; intro v9 w9 own9 g9; refine Hid.out ?_))
                    refine Lib.hid ?_
                    have G9 : w.grownBy w9 none := gb_row G8 g9 (fun i e => (ownA.lt i e).1)
                    clear own8 g9 ownA
                    go_wp2
                    go_roundw
                    case rel => exact ⟨s.size + 1, y + 1, acc ++ cs, pre ++ [fr], by omega, by go_num, by go_num, own9, G9, HN, HPN, by rw [List.length_append]; simp only [List.length_cons, List.length_nil]; omega⟩
                    case measure => simp [intOf]; omega
                · have h0L : 0 < L.size := by omega
                  have hE' : (((L.size : Nat) : Int) == 0) = false := beq_false_of_ne (by omega)
                  have hbL := Sc.bt_at h0L
                  by_cases h33 : Sc.bt L 0 = 33
                  · have HR0 : Hid (remB L = true) := by unfold Hid remB; rw [decide_eq_true ⟨h0L, h33⟩]
                    have h33' : ((Sc.bt L 0 : Int) != 33) = false := by rw [h33]; rfl
                    have HN : Hid (rdF s (pre ++ [fr]) = (y, acc, none)) := by unfold Hid; rw [rdF_snoc, HS.out, stepR_rem rfl (by rw [HLL.out]; exact HR0.out)]
                    clear h33
                    go_wp2
                    go_roundw
                    case rel => exact ⟨s.size + 1, y, acc, pre ++ [fr], by omega, by go_num, rfl, own, hg, HN, HPN, by rw [List.length_append]; simp only [List.length_cons, List.length_nil]; omega⟩
                    case measure => simp [intOf]; omega
                  · have HR0 : Hid (remB L = false) := by unfold Hid remB; rw [decide_eq_false]; exact fun h => h33 h.2
                    have h33' : ((Sc.bt L 0 : Int) != 33) = true := by simp; omega
                    clear h33
                    have hrow := fun W => refRowC L (by omega) fr y (by omega) (by omega) W
                    have hrl := rowA_app L y acc _ 0 0 [] (Nat.le_refl _)
                    have hln := rowA_len L y _ 0 0 [] (Nat.le_refl _)
                    rw [List.append_nil] at hrl
                    obtain ⟨RS, hRS⟩ : ∃ RS, rowA L y 0 0 [] = RS := ⟨_, rfl⟩
                    simp only [hRS] at hrow
                    rw [hRS] at hrl hln
                    obtain ⟨cs, ob⟩ := RS
                    have HRL : Hid (rowA L y 0 0 acc = match (cs, ob) with | (c, none) => (acc ++ c, none) | (_, some q) => ([], some q)) := hrl
                    have hcl : cs.length ≤ L.size := by simpa using hln
                    clear hRS hrl hln
                    cases ob with
                    | some q =>
                      have hbad : (0 : Int) ≤ rwB (some q) fr := by unfold rwB; simp; omega
                      have HQ : Hid (rwB (some q) fr = ((fr + q : Nat) : Int)) := rfl
                      have HN : Hid (rdF s (pre ++ [fr]) = (y, [], some (fr + q))) := by
                        unfold Hid; rw [rdF_snoc, HS.out, stepR_bad rfl (by rw [HLL.out]; exact HR0.out) (p := q) (by rw [HLL.out, HRL.out])]
                      have hrow : ∀ W, Calls Try.prog 36 #[.string L, .int .i64 (fr : Nat), .int .i64 (y : Nat)] W fun e w' => ∃ v, e = .returned (.tuple #[v, .int .i64 (rwB (some q) fr)]) ∧ Own w' W.heap.size v cs ∧ W.grownBy w' none := hrow
                      obtain ⟨X, hX⟩ : ∃ X, rwB (some q) fr = X := ⟨_, rfl⟩
                      simp only [hX] at hrow hbad
                      have HX : Hid (rwB (some q) fr = X) := hX
                      clear hX
                      go_wp2_with (go_at_call 36; refine (hrow _).mono ?_; rintro e w8 ⟨v8, rfl, own8, g8⟩)
                      go_ret3
                      have hrd : rd s = ([], some (fr + q)) := by
                        unfold rd; rw [← HPN.out, rdF_err _ (by rw [HN.out]; rfl), HN.out]
                      refine ⟨.slice none 0 0, ?_, ?_, gb_trans hg g8⟩
                      · rw [← HX.out, HQ.out]
                        unfold rdP rdE; rw [if_neg hbig, if_neg hbig, hrd]; rfl
                      · unfold rdC; rw [if_neg hbig, hrd]; exact World.ownsRow_nil _ _ _ _
                    | none =>
                      have hbad : ¬ (0 : Int) ≤ -1 := by omega
                      have HN : Hid (rdF s (pre ++ [fr]) = (y + 1, acc ++ cs, none)) := by
                        unfold Hid; rw [rdF_snoc, HS.out, stepR_row rfl (by rw [HLL.out]; exact HR0.out) (c := acc ++ cs) (by rw [HLL.out, HRL.out])]
                      have hrow : ∀ W, Calls Try.prog 36 #[.string L, .int .i64 (fr : Nat), .int .i64 (y : Nat)] W fun e w' => ∃ v, e = .returned (.tuple #[v, .int .i64 (-1)]) ∧ Own w' W.heap.size v cs ∧ W.grownBy w' none := hrow
                      have hwy : IntKind.i64.wrap ((y : Int) + 1) = (y : Int) + 1 := by rw [IntKind.wrap_i64]; omega
                      have hszw := hg.size
                      go_wp2_with (first | (go_at_call 36; refine (hrow _).mono ?_; rintro e w8 ⟨v8, rfl, own8, g8⟩; have ownA := own.kept g8 (Classical.em _); have G8 := gb_trans hg g8; have sz8 := G8.size) | (at_builtin; refine app_own w8 rfl _ _ rfl w.heap.size _ acc rfl ownA wr.heap.size v8 cs rfl own8 (by have := HAC.out; omega) sz8 ?_; intro v9 w9 own9 g9; refine Hid.out ?_))
                      refine Lib.hid ?_
                      have G9 : w.grownBy w9 none := gb_row G8 g9 (fun i e => (ownA.lt i e).1)
                      clear own8 g9 ownA
                      go_wp2
                      go_roundw
                      case rel => exact ⟨s.size + 1, y + 1, acc ++ cs, pre ++ [fr], by omega, by go_num, by go_num, own9, G9, HN, HPN, by rw [List.length_append]; simp only [List.length_cons, List.length_nil]; omega⟩
                      case measure => simp [intOf]; omega
              · have e13 : ((Sc.bt u m : Int) == 13) = false := by simp; omega
                have HLL : Hid (lin s fr = u) := by
                  unfold Hid; rw [← htr.out]
                  have e : trE u = u.size := by unfold trE; rw [if_neg (fun h => h13 (by have := h.2; rw [hm, Nat.add_sub_cancel] at this; exact this))]
                  rw [e, ext_all]
                clear htr h13 hm hu0
                obtain ⟨L, hLe⟩ : ∃ L, u = L := ⟨_, rfl⟩
                subst hLe
                have hLs : u.size ≤ 1048576 := hus
                by_cases hE : u.size = 0
                · have HR0 : Hid (remB u = false) := by unfold Hid remB; rw [decide_eq_false]; omega
                  have hE' : (((u.size : Nat) : Int) == 0) = true := by rw [hE]; rfl
                  have hrow := fun W => refRowC u (by omega) fr y (by omega) (by omega) W
                  have hrl := rowA_app u y acc _ 0 0 [] (Nat.le_refl _)
                  have hln := rowA_len u y _ 0 0 [] (Nat.le_refl _)
                  rw [List.append_nil] at hrl
                  obtain ⟨RS, hRS⟩ : ∃ RS, rowA u y 0 0 [] = RS := ⟨_, rfl⟩
                  simp only [hRS] at hrow
                  rw [hRS] at hrl hln
                  obtain ⟨cs, ob⟩ := RS
                  have HRL : Hid (rowA u y 0 0 acc = match (cs, ob) with | (c, none) => (acc ++ c, none) | (_, some q) => ([], some q)) := hrl
                  have hcl : cs.length ≤ u.size := by simpa using hln
                  clear hRS hrl hln
                  cases ob with
                  | some q =>
                    have hbad : (0 : Int) ≤ rwB (some q) fr := by unfold rwB; simp; omega
                    have HQ : Hid (rwB (some q) fr = ((fr + q : Nat) : Int)) := rfl
                    have HN : Hid (rdF s (pre ++ [fr]) = (y, [], some (fr + q))) := by
                      unfold Hid; rw [rdF_snoc, HS.out, stepR_bad rfl (by rw [HLL.out]; exact HR0.out) (p := q) (by rw [HLL.out, HRL.out])]
                    have hrow : ∀ W, Calls Try.prog 36 #[.string u, .int .i64 (fr : Nat), .int .i64 (y : Nat)] W fun e w' => ∃ v, e = .returned (.tuple #[v, .int .i64 (rwB (some q) fr)]) ∧ Own w' W.heap.size v cs ∧ W.grownBy w' none := hrow
                    obtain ⟨X, hX⟩ : ∃ X, rwB (some q) fr = X := ⟨_, rfl⟩
                    simp only [hX] at hrow hbad
                    have HX : Hid (rwB (some q) fr = X) := hX
                    clear hX
                    go_wp2_with (go_at_call 36; refine (hrow _).mono ?_; rintro e w8 ⟨v8, rfl, own8, g8⟩)
                    go_ret3
                    have hrd : rd s = ([], some (fr + q)) := by
                      unfold rd; rw [← HPN.out, rdF_err _ (by rw [HN.out]; rfl), HN.out]
                    refine ⟨.slice none 0 0, ?_, ?_, gb_trans hg g8⟩
                    · rw [← HX.out, HQ.out]
                      unfold rdP rdE; rw [if_neg hbig, if_neg hbig, hrd]; rfl
                    · unfold rdC; rw [if_neg hbig, hrd]; exact World.ownsRow_nil _ _ _ _
                  | none =>
                    have hbad : ¬ (0 : Int) ≤ -1 := by omega
                    have HN : Hid (rdF s (pre ++ [fr]) = (y + 1, acc ++ cs, none)) := by
                      unfold Hid; rw [rdF_snoc, HS.out, stepR_row rfl (by rw [HLL.out]; exact HR0.out) (c := acc ++ cs) (by rw [HLL.out, HRL.out])]
                    have hrow : ∀ W, Calls Try.prog 36 #[.string u, .int .i64 (fr : Nat), .int .i64 (y : Nat)] W fun e w' => ∃ v, e = .returned (.tuple #[v, .int .i64 (-1)]) ∧ Own w' W.heap.size v cs ∧ W.grownBy w' none := hrow
                    have hwy : IntKind.i64.wrap ((y : Int) + 1) = (y : Int) + 1 := by rw [IntKind.wrap_i64]; omega
                    have hszw := hg.size
                    go_wp2_with (first | (go_at_call 36; refine (hrow _).mono ?_; rintro e w8 ⟨v8, rfl, own8, g8⟩; have ownA := own.kept g8 (Classical.em _); have G8 := gb_trans hg g8; have sz8 := G8.size) | (at_builtin; refine app_own w8 rfl _ _ rfl w.heap.size _ acc rfl ownA wr.heap.size v8 cs rfl own8 (by have := HAC.out; omega) sz8 ?_; intro v9 w9 own9 g9; refine Hid.out ?_))
                    refine Lib.hid ?_
                    have G9 : w.grownBy w9 none := gb_row G8 g9 (fun i e => (ownA.lt i e).1)
                    clear own8 g9 ownA
                    go_wp2
                    go_roundw
                    case rel => exact ⟨s.size + 1, y + 1, acc ++ cs, pre ++ [fr], by omega, by go_num, by go_num, own9, G9, HN, HPN, by rw [List.length_append]; simp only [List.length_cons, List.length_nil]; omega⟩
                    case measure => simp [intOf]; omega
                · have h0L : 0 < u.size := by omega
                  have hE' : (((u.size : Nat) : Int) == 0) = false := beq_false_of_ne (by omega)
                  have hbL := Sc.bt_at h0L
                  by_cases h33 : Sc.bt u 0 = 33
                  · have HR0 : Hid (remB u = true) := by unfold Hid remB; rw [decide_eq_true ⟨h0L, h33⟩]
                    have h33' : ((Sc.bt u 0 : Int) != 33) = false := by rw [h33]; rfl
                    have HN : Hid (rdF s (pre ++ [fr]) = (y, acc, none)) := by unfold Hid; rw [rdF_snoc, HS.out, stepR_rem rfl (by rw [HLL.out]; exact HR0.out)]
                    clear h33
                    go_wp2
                    go_roundw
                    case rel => exact ⟨s.size + 1, y, acc, pre ++ [fr], by omega, by go_num, rfl, own, hg, HN, HPN, by rw [List.length_append]; simp only [List.length_cons, List.length_nil]; omega⟩
                    case measure => simp [intOf]; omega
                  · have HR0 : Hid (remB u = false) := by unfold Hid remB; rw [decide_eq_false]; exact fun h => h33 h.2
                    have h33' : ((Sc.bt u 0 : Int) != 33) = true := by simp; omega
                    clear h33
                    have hrow := fun W => refRowC u (by omega) fr y (by omega) (by omega) W
                    have hrl := rowA_app u y acc _ 0 0 [] (Nat.le_refl _)
                    have hln := rowA_len u y _ 0 0 [] (Nat.le_refl _)
                    rw [List.append_nil] at hrl
                    obtain ⟨RS, hRS⟩ : ∃ RS, rowA u y 0 0 [] = RS := ⟨_, rfl⟩
                    simp only [hRS] at hrow
                    rw [hRS] at hrl hln
                    obtain ⟨cs, ob⟩ := RS
                    have HRL : Hid (rowA u y 0 0 acc = match (cs, ob) with | (c, none) => (acc ++ c, none) | (_, some q) => ([], some q)) := hrl
                    have hcl : cs.length ≤ u.size := by simpa using hln
                    clear hRS hrl hln
                    cases ob with
                    | some q =>
                      have hbad : (0 : Int) ≤ rwB (some q) fr := by unfold rwB; simp; omega
                      have HQ : Hid (rwB (some q) fr = ((fr + q : Nat) : Int)) := rfl
                      have HN : Hid (rdF s (pre ++ [fr]) = (y, [], some (fr + q))) := by
                        unfold Hid; rw [rdF_snoc, HS.out, stepR_bad rfl (by rw [HLL.out]; exact HR0.out) (p := q) (by rw [HLL.out, HRL.out])]
                      have hrow : ∀ W, Calls Try.prog 36 #[.string u, .int .i64 (fr : Nat), .int .i64 (y : Nat)] W fun e w' => ∃ v, e = .returned (.tuple #[v, .int .i64 (rwB (some q) fr)]) ∧ Own w' W.heap.size v cs ∧ W.grownBy w' none := hrow
                      obtain ⟨X, hX⟩ : ∃ X, rwB (some q) fr = X := ⟨_, rfl⟩
                      simp only [hX] at hrow hbad
                      have HX : Hid (rwB (some q) fr = X) := hX
                      clear hX
                      go_wp2_with (go_at_call 36; refine (hrow _).mono ?_; rintro e w8 ⟨v8, rfl, own8, g8⟩)
                      go_ret3
                      have hrd : rd s = ([], some (fr + q)) := by
                        unfold rd; rw [← HPN.out, rdF_err _ (by rw [HN.out]; rfl), HN.out]
                      refine ⟨.slice none 0 0, ?_, ?_, gb_trans hg g8⟩
                      · rw [← HX.out, HQ.out]
                        unfold rdP rdE; rw [if_neg hbig, if_neg hbig, hrd]; rfl
                      · unfold rdC; rw [if_neg hbig, hrd]; exact World.ownsRow_nil _ _ _ _
                    | none =>
                      have hbad : ¬ (0 : Int) ≤ -1 := by omega
                      have HN : Hid (rdF s (pre ++ [fr]) = (y + 1, acc ++ cs, none)) := by
                        unfold Hid; rw [rdF_snoc, HS.out, stepR_row rfl (by rw [HLL.out]; exact HR0.out) (c := acc ++ cs) (by rw [HLL.out, HRL.out])]
                      have hrow : ∀ W, Calls Try.prog 36 #[.string u, .int .i64 (fr : Nat), .int .i64 (y : Nat)] W fun e w' => ∃ v, e = .returned (.tuple #[v, .int .i64 (-1)]) ∧ Own w' W.heap.size v cs ∧ W.grownBy w' none := hrow
                      have hwy : IntKind.i64.wrap ((y : Int) + 1) = (y : Int) + 1 := by rw [IntKind.wrap_i64]; omega
                      have hszw := hg.size
                      go_wp2_with (first | (go_at_call 36; refine (hrow _).mono ?_; rintro e w8 ⟨v8, rfl, own8, g8⟩; have ownA := own.kept g8 (Classical.em _); have G8 := gb_trans hg g8; have sz8 := G8.size) | (at_builtin; refine app_own w8 rfl _ _ rfl w.heap.size _ acc rfl ownA wr.heap.size v8 cs rfl own8 (by have := HAC.out; omega) sz8 ?_; intro v9 w9 own9 g9; refine Hid.out ?_))
                      refine Lib.hid ?_
                      have G9 : w.grownBy w9 none := gb_row G8 g9 (fun i e => (ownA.lt i e).1)
                      clear own8 g9 ownA
                      go_wp2
                      go_roundw
                      case rel => exact ⟨s.size + 1, y + 1, acc ++ cs, pre ++ [fr], by omega, by go_num, by go_num, own9, G9, HN, HPN, by rw [List.length_append]; simp only [List.length_cons, List.length_nil]; omega⟩
                      case measure => simp [intOf]; omega
      · have hlt' : ¬ (fr : Int) < (s.size : Int) := by omega
        have hrd : rd s = (acc, none) := by
          unfold rd
          rw [← HP.out, lnF_end s fr hlt, List.append_nil, HS.out]
        have e1 : Hid (rdE s = 0) := by unfold Hid rdE; rw [if_neg hbig, hrd]; rfl
        have e2 : Hid (rdP s = 0) := by unfold Hid rdP; rw [if_neg hbig, hrd]; rfl
        have e3 : Hid (rdC s = acc) := by unfold Hid rdC; rw [if_neg hbig, hrd]; rfl
        clear hrd
        go_wp2
        go_ret3
        refine ⟨_, by rw [e1.out, e2.out]; rfl, by rw [e3.out]; exact own, hg⟩
end Go.Proofs.Ytjacoifhjfipaaa
