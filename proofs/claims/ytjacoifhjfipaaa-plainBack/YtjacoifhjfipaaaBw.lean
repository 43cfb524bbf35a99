/- The walk of PlainBack. -/
import Derived.Test.YtjacoifhjfipaaaBp
import Derived.Test.YtjacoifhjfipaaaAl
namespace Go.Proofs.Ytjacoifhjfipaaa
open Go.RowKit Ln
set_option linter.unusedVariables false
set_option linter.unusedSimpArgs false
set_option maxRecDepth 100000

theorem rd_of {n : Nat} {g : Nat → Nat → Nat} {m : Nat} (hg : ∀ j i, g j i < 256) (hz : (PT n g m).size ≤ 1680) : rdE (PT n g m) = 0 ∧ rdP (PT n g m) = 0 ∧ rdC (PT n g m) = pic n g m := by
  have h := rd_PT n g hg m
  have hs : ¬ 1048576 < (PT n g m).size := by omega
  unfold rdE rdP rdC
  rw [h, if_neg hs, if_neg hs, if_neg hs]
  exact ⟨rfl, rfl, rfl⟩
set_option maxHeartbeats 8000000 in
theorem back_walk (X0 Y0 V0 H0 : Int) (sp : Option Addr) (L cap : Nat) (st : Nat → Nat) (hL : L < 4611686018427387904) (h8 : ∀ q, q < L → st q < 256) (w : World) (hs : Sb w sp L st) :
    Calls Try.prog 7 #[.agg #[.int .i64 X0, .int .i64 Y0, .int .i64 V0, .int .i64 H0], .slice sp L cap] w fun e w' => e = .returned (.bool true) ∧ Below w.heap.size w w' := by
  obtain ⟨i0, hi⟩ := info_parts infoCx
  have HI : Hid (Try.prog.info? 33 = some i0 ∧ i0.zero = some (.agg #[.int .i64 0, .int .i64 0, .int .u8 0]) ∧ i0.size = 3 ∧ i0.bytes = 24) := hi
  have HS : Hid (Sb w sp L st) := hs
  have H8 : Hid (∀ q, q < L → st q < 256) := h8
  clear hi hs h8
  obtain ⟨V1, hV1, sV1, gV1, BV1⟩ := boxn w #[.int .i64 X0, .int .i64 Y0, .int .i64 V0, .int .i64 H0] 31
  go_enter Try.func7, Try.ntmps7
  go_wp2_with (first
    | (go_at_call 9; refine (aliveC V1).mono ?_; rintro e w1 ⟨rfl, g1⟩; have G1 := gb_trans gV1 g1; have a0 := (BV1.kept g1 (by simp)).cell 0 (v := .int .i64 X0) rfl; have a1 := (BV1.kept g1 (by simp)).cell 1 (v := .int .i64 Y0) rfl; have a2 := (BV1.kept g1 (by simp)).cell 2 (v := .int .i64 V0) rfl; have a3 := (BV1.kept g1 (by simp)).cell 3 (v := .int .i64 H0) rfl)
    | (go_at_call 25; refine (fewC X0 Y0 V0 H0 w1).mono ?_; rintro e w2 ⟨⟨x, y, n, m, hx, hy, hn, hm, rfl⟩, g2⟩; have G2 := gb_trans G1 g2; have HXY : Hid ((-1000 ≤ x ∧ x ≤ 1000) ∧ (-1000 ≤ y ∧ y ≤ 1000) ∧ n ≤ 20 ∧ m ≤ 20) := ⟨hx, hy, hn, hm⟩; clear hx hy hn hm a0 a1 a2 a3; obtain ⟨V3, hV3, sV3, gV3, BV3⟩ := boxn w2 #[.int .i64 x, .int .i64 y, .int .i64 (n : Nat), .int .i64 (m : Nat)] 31; have G3 := gb_trans G2 gV3; have b0 := BV3.cell 0 (v := .int .i64 x) rfl; have b1 := BV3.cell 1 (v := .int .i64 y) rfl; have b2 := BV3.cell 2 (v := .int .i64 (n : Nat)) rfl; have b3 := BV3.cell 3 (v := .int .i64 (m : Nat)) rfl)
    | (go_at_call 26; refine (laidC x y HXY.out.1 HXY.out.2.1 n m HXY.out.2.2.1 HXY.out.2.2.2 sp L cap hL st V3 (HS.out.kept G3 (by simp))).mono ?_; rintro e w4 ⟨v4, rfl, o4, g4⟩; have G4 := gb_trans G3 g4; have hll := ldP_len x y n L st (m + 2); have hok := ld_ok x y n L st HXY.out.1 HXY.out.2.1 HXY.out.2.2.1 HXY.out.2.2.2 H8.out; have hWW := ld_W x y n L st HXY.out.1 HXY.out.2.1 HXY.out.2.2.1 HXY.out.2.2.2 H8.out; have hRD := rd_of (gA_lt n L st H8.out) hWW.2.2; have hwn := wn_ld x y n L st m; obtain ⟨l, hl⟩ : ∃ l, ldP x y n L st (m + 2) = l := ⟨_, rfl⟩; rw [hl] at o4 hll hok hWW hwn; obtain ⟨T, hT⟩ : ∃ T, PT n (gA n L st) m = T := ⟨_, rfl⟩; rw [hT] at hWW hRD; obtain ⟨PC, hPC⟩ : ∃ PC, pic n (gA n L st) m = PC := ⟨_, rfl⟩; rw [hPC] at hRD hwn; clear hl hT hPC; have hmul : (m + 2) * (n + 2) ≤ 22 * 22 := Nat.mul_le_mul (by have := HXY.out; omega) (by have := HXY.out; omega); have HLL : Hid (l.length ≤ 484) := Nat.le_trans hll hmul; have HOK : Hid (∀ c ∈ l, CxOk c ∧ farC c = false) := hok; have HWW : Hid (wrE l x y (n : Int) (m : Int) = 0 ∧ wrS l x y (n : Int) (m : Int) = T ∧ T.size ≤ 1680) := hWW; have HRD : Hid (rdE T = 0 ∧ rdP T = 0 ∧ rdC T = PC) := hRD; have HWN : Hid (wnL x y n m l = PC) := hwn; clear hll hok hWW hRD hwn hmul; obtain ⟨sp4, cp4, rfl, ce4, _⟩ := ce_of o4; have c0 := (BV3.kept g4 (by simp)).cell 0 (v := .int .i64 x) rfl; have c1 := (BV3.kept g4 (by simp)).cell 1 (v := .int .i64 y) rfl; have c2 := (BV3.kept g4 (by simp)).cell 2 (v := .int .i64 (n : Nat)) rfl; have c3 := (BV3.kept g4 (by simp)).cell 3 (v := .int .i64 (m : Nat)) rfl; clear b0 b1 b2 b3)
    | (go_at_call 11; refine (writeC sp4 cp4 l (by have := HLL.out; omega) (fun c hc => (HOK.out c hc).1) x y n m w4 ce4).mono ?_; rintro e w5 ⟨he, g5⟩; rw [HWW.out.1, HWW.out.2.1] at he; subst he; have G5 := gb_trans G4 g5; clear c0 c1 c2 c3)
    | (go_at_call 10; refine (readAll T w5).mono ?_; rintro e w6 ⟨v6, he, o6, g6⟩; rw [HRD.out.1, HRD.out.2.1] at he; rw [HRD.out.2.2] at o6; subst he; obtain ⟨sp6, cp6, rfl, ce6, _⟩ := ce_of o6; have G6 := gb_trans G5 g6)
    | go_in)
  have BR6 := (BV3.kept (gb_trans g4 (gb_trans g5 g6)) (by simp))
  have ce46 := ce4.kept (gb_trans g5 g6) (by simp)
  have H46 : Hid (Ce w6 sp4 l) := ce46
  have H66 : Hid (Ce w6 sp6 PC) := ce6
  obtain ⟨B0, hB0⟩ : ∃ B0, w6.heap.size = B0 := ⟨_, rfl⟩
  have HB0 : Hid (w6.heap.size = B0) := hB0
  have hg0 : Hid (w6.grownBy w6 none) := World.grownBy.refl _ _
  have hr2 : w2.heap.size < w6.heap.size := BR6.lt
  have HR2 : Hid (w2.heap.size < w6.heap.size) := hr2
  clear hB0 hr2 ce46 ce4 ce6 o4 o6
  go_loopw [13, 14] (fun v vk wr => ∃ k : Nat, k ≤ l.length ∧ vk = .int .i64 (k : Nat) ∧ Own wr B0 v (wnL x y n m (l.take k)) ∧ Hid (w6.grownBy wr none) ∧ Bo wr w2.heap.size 31 #[.int .i64 x, .int .i64 y, .int .i64 (n : Nat), .int .i64 (m : Nat)]) (fun _ vk _ => l.length - (intOf vk).toNat)
  case atStart => exact ⟨0, Nat.zero_le _, rfl, World.ownsRow_nil _ _ _ _, hg0, BR6⟩
  case round =>
    obtain ⟨k, hk, rfl, own, HG, BR⟩ := hrel
    by_cases hlt : k < l.length
    · have hlt' : (k : Int) < (l.length : Int) := Int.ofNat_lt.2 hlt
      obtain ⟨sp9, cp9, rfl, _, _⟩ := ce_of own
      obtain ⟨q, o, rfl, c0, c1, c2⟩ := (H46.out.kept HG.out (by simp)) k hlt
      have r0 := BR.cell 0 (v := .int .i64 x) rfl
      have r1 := BR.cell 1 (v := .int .i64 y) rfl
      have r2 := BR.cell 2 (v := .int .i64 (n : Nat)) rfl
      have r3 := BR.cell 3 (v := .int .i64 (m : Nat)) rfl
      have OKc := HOK.out _ (List.getElem_mem hlt)
      obtain ⟨c, hc⟩ : ∃ c, l[k] = c := ⟨_, rfl⟩
      rw [hc] at c0 c1 c2 OKc
      have HC : Hid (l[k] = c) := hc
      clear hc
      obtain ⟨cx, cy, z⟩ := c
      have hfc := OKc.2
      have hw1 : IntKind.i64.wrap ((k : Int) + 1) = (k : Int) + 1 := wrap_suc (by have := HLL.out; omega)
      have HWX : Hid (z ≠ 0 → wrap64 (cx - x) = cx - x ∧ wrap64 (cy - y) = cy - y) := fun h0 => by
        have h1 := HXY.out
        unfold farC at hfc
        rw [decide_eq_true (show (cx, cy, z).2.2 ≠ 0 from h0), Bool.true_and, Bool.or_eq_false_iff] at hfc
        have h2 : farB cx = false := hfc.1
        have h3 : farB cy = false := hfc.2
        unfold farB at h2 h3
        rw [decide_eq_false_iff_not] at h2 h3
        unfold wrap64
        omega
      by_cases h0 : z = 0
      · have n0 : ¬ (0 : Int) < (z : Int) := by omega
        obtain ⟨px, hpx⟩ : ∃ px, wrap64 (cx - x) = px := ⟨_, rfl⟩
        obtain ⟨py, hpy⟩ : ∃ py, wrap64 (cy - y) = py := ⟨_, rfl⟩
        have HZ : Hid (z = 0) := h0
        clear h0 OKc hfc
        have HN : Hid (wnL x y n m (l.take (k + 1)) = wnL x y n m (l.take k)) := by
          unfold Hid wnL; rw [take_succ l k hlt, List.flatMap_append, HC.out]
          simp only [List.flatMap_cons, List.flatMap_nil, List.append_nil]
          rw [show wnI x y n m (cx, cy, z) = [] from by unfold wnI; rw [if_neg]; intro hh; exact hh.1 HZ.out]; exact List.append_nil _
        go_wp2
        go_quiet (fail)
        generalize hU : World.drewN wr _ = U
        have ownU : Own U B0 (.slice sp9 (wnL x y n m (l.take k)).length cp9) (wnL x y n m (l.take k)) := by rw [← hU]; exact own
        have HGU : Hid (w6.grownBy U none) := by rw [← hU]; exact gb_drewN HG.out _
        have BRU : Bo U w2.heap.size 31 #[.int .i64 x, .int .i64 y, .int .i64 (n : Nat), .int .i64 (m : Nat)] := by rw [← hU]; exact BR.drew
        have d2 : U.cell? ⟨q, o + k * 3 + 2, none⟩ = some (.int .u8 (z : Nat)) := by rw [← hU]; exact c2
        have s2 := BRU.cell 2 (v := .int .i64 (n : Nat)) rfl
        have s3 := BRU.cell 3 (v := .int .i64 (m : Nat)) rfl
        have hBU : B0 ≤ U.heap.size := by have h1 := HGU.out.size; have h2 := HB0.out; rw [← h2]; exact h1
        clear hU c0 c1 c2 r0 r1 r2 r3 own HG BR
        go_wp2
        go_roundw
        case rel => exact ⟨k + 1, hlt, by go_num, by rw [HN.out]; exact ownU, HGU, BRU⟩
        case measure => simp [intOf]; omega
      · have n0 : (0 : Int) < (z : Int) := by omega
        obtain ⟨px, hpx⟩ : ∃ px, cx - x = px := ⟨_, rfl⟩
        obtain ⟨py, hpy⟩ : ∃ py, cy - y = py := ⟨_, rfl⟩
        have HPX : Hid (cx - x = px ∧ cy - y = py) := ⟨hpx, hpy⟩
        have e1 := (HWX.out h0).1.trans hpx
        have e2 := (HWX.out h0).2.trans hpy
        have HZ : Hid (z ≠ 0) := h0
        clear h0 OKc hfc hpx hpy
        by_cases h1 : 0 ≤ px
        · by_cases h2 : px < (n : Int)
          · by_cases h3 : 0 ≤ py
            · by_cases h4 : py < (m : Int)
              · have HN : Hid (wnL x y n m (l.take (k + 1)) = wnL x y n m (l.take k) ++ [(px, py, z)]) := by
                  unfold Hid wnL; rw [take_succ l k hlt, List.flatMap_append, HC.out]
                  simp only [List.flatMap_cons, List.flatMap_nil, List.append_nil]
                  rw [show wnI x y n m (cx, cy, z) = [(px, py, z)] from by
                    unfold wnI
                    have a := HPX.out
                    show (if z ≠ 0 ∧ 0 ≤ cx - x ∧ cx - x < (n : Int) ∧ 0 ≤ cy - y ∧ cy - y < (m : Int) then [(cx - x, cy - y, z)] else []) = _
                    rw [a.1, a.2, if_pos ⟨HZ.out, h1, h2, h3, h4⟩]]
                go_wp2
                go_quiet (fail)
                generalize hU : World.drewN wr _ = U
                have ownU : Own U B0 (.slice sp9 (wnL x y n m (l.take k)).length cp9) (wnL x y n m (l.take k)) := by rw [← hU]; exact own
                have HGU : Hid (w6.grownBy U none) := by rw [← hU]; exact gb_drewN HG.out _
                have BRU : Bo U w2.heap.size 31 #[.int .i64 x, .int .i64 y, .int .i64 (n : Nat), .int .i64 (m : Nat)] := by rw [← hU]; exact BR.drew
                have d2 : U.cell? ⟨q, o + k * 3 + 2, none⟩ = some (.int .u8 (z : Nat)) := by rw [← hU]; exact c2
                have s2 := BRU.cell 2 (v := .int .i64 (n : Nat)) rfl
                have s3 := BRU.cell 3 (v := .int .i64 (m : Nat)) rfl
                have hBU : B0 ≤ U.heap.size := by have h1 := HGU.out.size; have h2 := HB0.out; rw [← h2]; exact h1
                clear hU c0 c1 c2 r0 r1 r2 r3 own HG BR
                have hbw : (wnL x y n m (l.take k)).length ≤ 484 := by
                  have h1 : ∀ (l : List Cx), (l.flatMap (wnI x y n m)).length ≤ l.length := fun l => by
                    induction l with
                    | nil => exact Nat.le_refl _
                    | cons c l ih => rw [List.flatMap_cons, List.length_append, List.length_cons]; have : (wnI x y n m c).length ≤ 1 := by unfold wnI; split <;> simp
                                     omega
                  have h2 := h1 (l.take k)
                  have h3 := HLL.out
                  rw [List.length_take] at h2
                  unfold wnL
                  omega
                go_wp2_with (at_builtin; refine wpList_append_own _ rfl _ _ 24 rfl B0 33 i0 (.agg #[.int .i64 0, .int .i64 0, .int .u8 0]) 3 24 underCS HI.out.1 HI.out.2.1 HI.out.2.2.1 HI.out.2.2.2 rfl (by decide) _ _ _ rfl (ownU.alloc _) ⟨_, 0, none⟩ 1 1 [.int .i64 px, .int .i64 py, .int .u8 (z : Nat)] rfl rfl (new3 _ _ _ _ _) ?_ ?_ ?_ ?_ ?_; rotate_right; intro v4 w4 hown4 hgrow4 hnil4)
                · have HA := ownU.alloc (.cells #[.int .i64 px, .int .i64 py, .int .u8 (z : Nat)] 33)
                  have ga := World.grownBy_alloc U (.cells #[.int .i64 px, .int .i64 py, .int .u8 (z : Nat)] 33) none
                  have G4 : Hid (w6.grownBy w4 none) := gb_row (gb_alloc HGU.out (.cells #[.int .i64 px, .int .i64 py, .int .u8 (z : Nat)] 33)) hgrow4 (fun i e => by have h1 := (HA.lt i e).1; have h2 := HB0.out; rw [h2]; exact h1)
                  have own4 : Own w4 B0 v4 (wnL x y n m (l.take (k + 1))) := by rw [HN.out]; unfold Own; rw [ccs_snoc, List.length_append]; exact hown4
                  have BR4 := (BRU.kept ga (by simp)).kept hgrow4 (fun e => by have h1 := (HA.lt _ e.symm).1; have h2 := HB0.out; have h3 := HR2.out; omega)
                  clear hown4 hgrow4
                  go_wp2
                  go_roundw
                  case rel => exact ⟨k + 1, hlt, by go_num, own4, G4, BR4⟩
                  case measure => simp [intOf]; omega
                · intro u hu
                  simp at hu
                  rcases hu with rfl | rfl | rfl <;> rfl
                · unfold maxLen; omega
                · omega
                · exact Nat.le_trans hBU (World.grownBy_alloc U _ none).size
              · have h4' : ¬ py < (m : Int) := h4
                have HN : Hid (wnL x y n m (l.take (k + 1)) = wnL x y n m (l.take k)) := by
                  unfold Hid wnL; rw [take_succ l k hlt, List.flatMap_append, HC.out]
                  simp only [List.flatMap_cons, List.flatMap_nil, List.append_nil]
                  rw [show wnI x y n m (cx, cy, z) = [] from by unfold wnI; rw [if_neg]; intro hh; have a := HPX.out; exact h4 (by rw [← a.2]; exact hh.2.2.2.2)]; exact List.append_nil _
                go_wp2
                go_quiet (fail)
                generalize hU : World.drewN wr _ = U
                have ownU : Own U B0 (.slice sp9 (wnL x y n m (l.take k)).length cp9) (wnL x y n m (l.take k)) := by rw [← hU]; exact own
                have HGU : Hid (w6.grownBy U none) := by rw [← hU]; exact gb_drewN HG.out _
                have BRU : Bo U w2.heap.size 31 #[.int .i64 x, .int .i64 y, .int .i64 (n : Nat), .int .i64 (m : Nat)] := by rw [← hU]; exact BR.drew
                have d2 : U.cell? ⟨q, o + k * 3 + 2, none⟩ = some (.int .u8 (z : Nat)) := by rw [← hU]; exact c2
                have s2 := BRU.cell 2 (v := .int .i64 (n : Nat)) rfl
                have s3 := BRU.cell 3 (v := .int .i64 (m : Nat)) rfl
                have hBU : B0 ≤ U.heap.size := by have h1 := HGU.out.size; have h2 := HB0.out; rw [← h2]; exact h1
                clear hU c0 c1 c2 r0 r1 r2 r3 own HG BR
                go_wp2
                go_roundw
                case rel => exact ⟨k + 1, hlt, by go_num, by rw [HN.out]; exact ownU, HGU, BRU⟩
                case measure => simp [intOf]; omega
            · have h3' : ¬ 0 ≤ py := h3
              have HN : Hid (wnL x y n m (l.take (k + 1)) = wnL x y n m (l.take k)) := by
                unfold Hid wnL; rw [take_succ l k hlt, List.flatMap_append, HC.out]
                simp only [List.flatMap_cons, List.flatMap_nil, List.append_nil]
                rw [show wnI x y n m (cx, cy, z) = [] from by unfold wnI; rw [if_neg]; intro hh; have a := HPX.out; exact h3 (by rw [← a.2]; exact hh.2.2.2.1)]; exact List.append_nil _
              go_wp2
              go_quiet (fail)
              generalize hU : World.drewN wr _ = U
              have ownU : Own U B0 (.slice sp9 (wnL x y n m (l.take k)).length cp9) (wnL x y n m (l.take k)) := by rw [← hU]; exact own
              have HGU : Hid (w6.grownBy U none) := by rw [← hU]; exact gb_drewN HG.out _
              have BRU : Bo U w2.heap.size 31 #[.int .i64 x, .int .i64 y, .int .i64 (n : Nat), .int .i64 (m : Nat)] := by rw [← hU]; exact BR.drew
              have d2 : U.cell? ⟨q, o + k * 3 + 2, none⟩ = some (.int .u8 (z : Nat)) := by rw [← hU]; exact c2
              have s2 := BRU.cell 2 (v := .int .i64 (n : Nat)) rfl
              have s3 := BRU.cell 3 (v := .int .i64 (m : Nat)) rfl
              have hBU : B0 ≤ U.heap.size := by have h1 := HGU.out.size; have h2 := HB0.out; rw [← h2]; exact h1
              clear hU c0 c1 c2 r0 r1 r2 r3 own HG BR
              go_wp2
              go_roundw
              case rel => exact ⟨k + 1, hlt, by go_num, by rw [HN.out]; exact ownU, HGU, BRU⟩
              case measure => simp [intOf]; omega
          · have h2' : ¬ px < (n : Int) := h2
            have HN : Hid (wnL x y n m (l.take (k + 1)) = wnL x y n m (l.take k)) := by
              unfold Hid wnL; rw [take_succ l k hlt, List.flatMap_append, HC.out]
              simp only [List.flatMap_cons, List.flatMap_nil, List.append_nil]
              rw [show wnI x y n m (cx, cy, z) = [] from by unfold wnI; rw [if_neg]; intro hh; have a := HPX.out; exact h2 (by rw [← a.1]; exact hh.2.2.1)]; exact List.append_nil _
            go_wp2
            go_quiet (fail)
            generalize hU : World.drewN wr _ = U
            have ownU : Own U B0 (.slice sp9 (wnL x y n m (l.take k)).length cp9) (wnL x y n m (l.take k)) := by rw [← hU]; exact own
            have HGU : Hid (w6.grownBy U none) := by rw [← hU]; exact gb_drewN HG.out _
            have BRU : Bo U w2.heap.size 31 #[.int .i64 x, .int .i64 y, .int .i64 (n : Nat), .int .i64 (m : Nat)] := by rw [← hU]; exact BR.drew
            have d2 : U.cell? ⟨q, o + k * 3 + 2, none⟩ = some (.int .u8 (z : Nat)) := by rw [← hU]; exact c2
            have s2 := BRU.cell 2 (v := .int .i64 (n : Nat)) rfl
            have s3 := BRU.cell 3 (v := .int .i64 (m : Nat)) rfl
            have hBU : B0 ≤ U.heap.size := by have h1 := HGU.out.size; have h2 := HB0.out; rw [← h2]; exact h1
            clear hU c0 c1 c2 r0 r1 r2 r3 own HG BR
            go_wp2
            go_roundw
            case rel => exact ⟨k + 1, hlt, by go_num, by rw [HN.out]; exact ownU, HGU, BRU⟩
            case measure => simp [intOf]; omega
        · have h1' : ¬ 0 ≤ px := h1
          have HN : Hid (wnL x y n m (l.take (k + 1)) = wnL x y n m (l.take k)) := by
            unfold Hid wnL; rw [take_succ l k hlt, List.flatMap_append, HC.out]
            simp only [List.flatMap_cons, List.flatMap_nil, List.append_nil]
            rw [show wnI x y n m (cx, cy, z) = [] from by unfold wnI; rw [if_neg]; intro hh; have a := HPX.out; exact h1 (by rw [← a.1]; exact hh.2.1)]; exact List.append_nil _
          go_wp2
          go_quiet (fail)
          generalize hU : World.drewN wr _ = U
          have ownU : Own U B0 (.slice sp9 (wnL x y n m (l.take k)).length cp9) (wnL x y n m (l.take k)) := by rw [← hU]; exact own
          have HGU : Hid (w6.grownBy U none) := by rw [← hU]; exact gb_drewN HG.out _
          have BRU : Bo U w2.heap.size 31 #[.int .i64 x, .int .i64 y, .int .i64 (n : Nat), .int .i64 (m : Nat)] := by rw [← hU]; exact BR.drew
          have d2 : U.cell? ⟨q, o + k * 3 + 2, none⟩ = some (.int .u8 (z : Nat)) := by rw [← hU]; exact c2
          have s2 := BRU.cell 2 (v := .int .i64 (n : Nat)) rfl
          have s3 := BRU.cell 3 (v := .int .i64 (m : Nat)) rfl
          have hBU : B0 ≤ U.heap.size := by have h1 := HGU.out.size; have h2 := HB0.out; rw [← h2]; exact h1
          clear hU c0 c1 c2 r0 r1 r2 r3 own HG BR
          go_wp2
          go_roundw
          case rel => exact ⟨k + 1, hlt, by go_num, by rw [HN.out]; exact ownU, HGU, BRU⟩
          case measure => simp [intOf]; omega
    · have hkn : k = l.length := Nat.le_antisymm hk (Nat.not_lt.1 hlt)
      have hlt' : ¬ (k : Int) < (l.length : Int) := fun h => hlt (Int.ofNat_lt.1 h)
      obtain ⟨sp9, cp9, hv, ce9, _⟩ := ce_of own
      rw [hkn, List.take_length, HWN.out] at hv ce9
      subst hv
      have h66 := H66.out.kept HG.out (by simp)
      have HG2 := HG
      have hpl : PC.length < 4611686018427387904 := by
        have : (wnL x y n m l).length ≤ l.length := by
          unfold wnL
          have : ∀ (l : List Cx), (l.flatMap (wnI x y n m)).length ≤ l.length := fun l => by
            induction l with
            | nil => exact Nat.le_refl _
            | cons c l ih => rw [List.flatMap_cons, List.length_append, List.length_cons]; have : (wnI x y n m c).length ≤ 1 := by unfold wnI; split <;> simp
                             omega
          exact this l
        rw [HWN.out] at this
        have := HLL.out
        omega
      go_wp2_with (first | (go_at_call 18; refine (sameC sp6 sp9 cp6 cp9 PC PC hpl hpl wr h66 ce9).mono ?_; rintro e w7 ⟨he, g7⟩; rw [decide_eq_true rfl] at he; subst he) | go_in)
      go_ret
      exact ⟨rfl, gb_below (gb_trans G6 (gb_trans HG2.out g7))⟩
end Go.Proofs.Ytjacoifhjfipaaa
