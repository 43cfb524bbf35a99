/- draw: what it answers, with each of its closures. -/
import Derived.Test.YtjacoifhjfipaaaDp
import Derived.Test.YtjacoifhjfipaaaSt
namespace Go.Proofs.Ytjacoifhjfipaaa
open Go.RowKit
set_option linter.unusedVariables false
set_option linter.unusedSimpArgs false
set_option maxRecDepth 100000

theorem underRS : Try.prog.underlying 68 = some (.slice 21) := by kernel_rfl
theorem underRn : Try.prog.underlying 21 = some (.int .i32) := by kernel_rfl
theorem underStr : Try.prog.underlying 9 = some .string := by kernel_rfl
theorem infoRn : (Try.prog.info? 21).map (fun i => (i.zero, i.size, i.bytes)) = some (some (.int .i32 0), 1, 4) := by kernel_rfl
theorem own_sl {W : World} {base e size n : Nat} {v : Value} {xs : List Value} (h : W.ownsRow base e size v n xs) : ∃ p cap, v = .slice p n cap := by
  rcases h.2 with ⟨rfl, h0⟩ | ⟨g, cap, cur, rfl, _⟩
  · exact ⟨none, 0, by rw [h0]⟩
  · exact ⟨_, cap, rfl⟩
theorem conv_own {W : World} {base : Nat} {v : Value} {l : List Int} (h : W.ownsRow base 21 1 v l.length (rvs l)) : (convert 68 9 v).run Try.prog W = .ok (.string (runesBytes l)) W := by
  rcases h.2 with ⟨rfl, h0⟩ | ⟨g, cap, cur, rfl, hb, hg, _⟩
  · rw [run_convert_runes_nil W 68 9 21 0 0 underRS underRn underStr]
    obtain rfl : l = [] := List.length_eq_zero_iff.1 h0
    rfl
  · have hc := h.cells (g := g) rfl
    have := run_convert_runes W 68 9 21 ⟨g, 0, none⟩ l.length cap l (Nat.le_refl _) underRS underRn underStr (fun j hj => by
      rw [hc j (.int .i32 (l.getD j 0)) (by unfold rvs; rw [List.getElem?_map, List.getElem?_eq_getElem hj]; simp [List.getD, List.getElem?_eq_getElem hj])])
    rw [List.take_length] at this
    exact this
set_option maxHeartbeats 4000000 in
theorem drawW (L V : Nat) (hL : L ≤ 65536) (hV : V ≤ 65536) (g : Nat) (f : Nat → Nat → Int) (w : World)
    (hc : ∀ (j i : Nat) (W : World), j < L → i < V → w.grownBy W none → Calls Try.prog 31 #[.int .i64 (j : Nat), .int .i64 (i : Nat), .pointer (some ⟨g, 0, none⟩)] W fun e w' => e = .returned (.int .i32 (f j i)) ∧ W.grownBy w' none) :
    Calls Try.prog 30 #[.int .i64 (L : Nat), .int .i64 (V : Nat), .func (.func 31) #[] #[.pointer (some ⟨g, 0, none⟩)]] w fun e w' => e = .returned (.tuple #[.string (dwS L V f), .int .i64 (dwE L V f)]) ∧ w.grownBy w' none := by
  obtain ⟨S, hS⟩ : ∃ S, L * (V + 1) = S := ⟨_, rfl⟩
  have hSb : S ≤ 65536 * 65537 := by rw [← hS]; exact Nat.mul_le_mul hL (by omega)
  have hmi : (L : Int) * ((V : Int) + 1) = (S : Int) := by rw [← hS]; push_cast; rfl
  have hw0 : IntKind.i64.wrap ((V : Int) + 1) = (V : Int) + 1 := by rw [IntKind.wrap_i64]; omega
  have hw1 : wrap64 ((L : Int) * ((V : Int) + 1)) = (S : Int) := by rw [hmi]; unfold wrap64; omega
  have HS : Hid (L * (V + 1) = S) := hS
  have HC : Hid (∀ (j i : Nat) (W : World), j < L → i < V → w.grownBy W none → Calls Try.prog 31 #[.int .i64 (j : Nat), .int .i64 (i : Nat), .pointer (some ⟨g, 0, none⟩)] W fun e w' => e = .returned (.int .i32 (f j i)) ∧ W.grownBy w' none) := hc
  clear hmi hS hc
  by_cases hbig : 1048576 < S
  · have e1 : dwS L V f = ⟨#[]⟩ := by unfold dwS; rw [HS.out, if_pos hbig]
    have e2 : dwE L V f = 3 := by unfold dwE; rw [HS.out, if_pos hbig]
    have hbig' : (1048576 : Int) < (S : Int) := by omega
    rw [e1, e2]
    clear e1 e2
    go_enter Try.func30, Try.ntmps30
    go_wp2
    go_ret2
    exact ⟨rfl, World.grownBy.refl _ _⟩
  · have hbig' : ¬ (1048576 : Int) < (S : Int) := by omega
    obtain ⟨i0, hi⟩ := info_parts infoRn
    have HI : Hid (Try.prog.info? 21 = some i0 ∧ i0.zero = some (.int .i32 0) ∧ i0.size = 1 ∧ i0.bytes = 4) := hi
    clear hi
    go_enter Try.func30, Try.ntmps30
    go_wp2_with (first | (at_make; refine wpList_make_own _ rfl _ _ 68 rfl w.heap.size 21 i0 (.int .i32 0) 1 underRS HI.out.1 HI.out.2.1 HI.out.2.2.1 .i64 .i64 _ S rfl rfl (by first | rfl | omega) (by rw [HI.out.2.2.2]; omega) (by unfold maxLen; omega) (Nat.le_refl _) ?_; intro w1 own1 g1) | go_in)
    go_loopw [9, 22] (fun v9 v wr => ∃ j : Nat, j ≤ L ∧ v = .int .i64 (j : Nat) ∧ wr.ownsRow w.heap.size 21 1 v9 (j * (V + 1)) (rvs (dwP V f j)) ∧ w.grownBy wr none) (fun _ v _ => L - (intOf v).toNat)
    case atStart => exact ⟨0, Nat.zero_le _, rfl, by rw [Nat.zero_mul, show rvs (dwP V f 0) = [] by simp [dwP, rvs]]; exact own1, g1⟩
    case round =>
      obtain ⟨j, hj, rfl, hown, hg⟩ := hrel
      by_cases hlt : j < L
      · have hlt' : (j : Int) < (L : Int) := by omega
        have hmul : (j + 1) * (V + 1) ≤ L * (V + 1) := Nat.mul_le_mul_right _ hlt
        obtain ⟨n, hn⟩ : ∃ n, j * (V + 1) = n := ⟨_, rfl⟩
        have hnS : n + (V + 1) ≤ S := by rw [Nat.add_mul, Nat.one_mul, hn, HS.out] at hmul; exact hmul
        have HN : Hid (j * (V + 1) = n) := hn
        rw [hn] at hown
        clear hn hmul
        obtain ⟨sp9, cp9, rfl⟩ := own_sl hown
        go_wp2
        go_loopw [9, 26] (fun v9 v wr2 => ∃ i : Nat, i ≤ V ∧ v = .int .i64 (i : Nat) ∧ wr2.ownsRow w.heap.size 21 1 v9 (n + i) (rvs (rwP V f j i)) ∧ w.grownBy wr2 none) (fun _ v _ => V - (intOf v).toNat)
        case atStart => exact ⟨0, Nat.zero_le _, rfl, by rw [rwP_zero]; exact hown, hg⟩
        case round =>
          obtain ⟨i, hi, rfl, hown, hg⟩ := hrel
          obtain ⟨sp9, cp9, rfl⟩ := own_sl hown
          by_cases hli : i < V
          · have hli' : (i : Int) < (V : Int) := by omega
            have hcall := HC.out j i
            have hw2 : IntKind.i64.wrap ((i : Int) + 1) = (i : Int) + 1 := by rw [IntKind.wrap_i64]; omega
            have hsz := hg.size
            go_wp2_with (first | (go_at_call 31; refine (hcall _ hlt hli hg).mono ?_; rintro e w8 ⟨rfl, g8⟩; have own8 := hown.kept g8 (Classical.em _); have G8 := gb_trans hg g8; have sz8 := G8.size) | (at_builtin; refine wpList_append_own _ rfl _ _ 68 rfl w.heap.size 21 i0 (.int .i32 0) 1 4 underRS HI.out.1 HI.out.2.1 HI.out.2.2.1 HI.out.2.2.2 rfl (by decide) _ _ _ rfl (own8.alloc _) ⟨_, 0, none⟩ 1 1 [.int .i32 (f j i)] rfl rfl (new1 _ _ _) ?_ ?_ ?_ ?_ ?_; rotate_right; intro v4 w4 hown4 hgrow4 hnil4))
            · have HA := own8.alloc (.cells #[.int .i32 (f j i)] 21)
              have G4 := gb_row (gb_alloc G8 (.cells #[.int .i32 (f j i)] 21)) hgrow4 (fun i e => (HA.lt i e).1)
              go_wp2
              go_roundw
              case rel => exact ⟨i + 1, hli, by go_num, by rw [rwP_succ, rvs_snoc]; exact hown4, G4⟩
              case measure => first | (simp [intOf]; done) | (simp [intOf]; omega)
            · first
              | rfl
              | (intro u hu
                 simp at hu
                 subst hu; rfl)
            · unfold maxLen; omega
            · omega
            · first | omega | (simp; omega)
          · obtain rfl : i = V := by omega
            have hli' : ¬ (i : Int) < (i : Int) := by omega
            have hw2 : IntKind.i64.wrap ((j : Int) + 1) = (j : Int) + 1 := by rw [IntKind.wrap_i64]; omega
            have hsz := hg.size
            go_wp2_with (at_builtin; refine wpList_append_own _ rfl _ _ 68 rfl w.heap.size 21 i0 (.int .i32 0) 1 4 underRS HI.out.1 HI.out.2.1 HI.out.2.2.1 HI.out.2.2.2 rfl (by decide) _ _ _ rfl (hown.alloc _) ⟨_, 0, none⟩ 1 1 [.int .i32 10] rfl rfl (new1 _ _ _) ?_ ?_ ?_ ?_ ?_; rotate_right; intro v4 w4 hown4 hgrow4 hnil4)
            · have HA := hown.alloc (.cells #[.int .i32 10] 21)
              have G4 := gb_row (gb_alloc hg (.cells #[.int .i32 10] 21)) hgrow4 (fun i e => (HA.lt i e).1)
              go_wp2
              go_roundw
              case rel => exact ⟨j + 1, hlt, by go_num, by rw [dwP_succ, rvs_snoc, Nat.add_mul, Nat.one_mul, HN.out]; exact hown4, G4⟩
              case measure => first | (simp [intOf]; done) | (simp [intOf]; omega)
            · first
              | rfl
              | (intro u hu
                 simp at hu
                 subst hu; rfl)
            · unfold maxLen; omega
            · omega
            · first | omega | (simp; omega)
      · obtain rfl : j = L := by omega
        have hlt' : ¬ (j : Int) < (j : Int) := by omega
        obtain ⟨sp9, cp9, rfl⟩ := own_sl hown
        have hcv := fun W (h : wr.grownBy W none) => conv_own (W := W) (l := dwP V f j) (by rw [dwP_len]; exact hown.kept h (Classical.em _))
        have hcv := hcv _ (World.grownBy.refl _ _)
        obtain ⟨T, hT⟩ : ∃ T, runesBytes (dwP V f j) = T := ⟨_, rfl⟩
        rw [hT] at hcv
        have HT : Hid (dwT j V f = T) := hT
        clear hT
        by_cases hz : 1048576 < T.size
        · have hz' : (1048576 : Int) < (T.size : Int) := by omega
          have e1 : Hid (dwS j V f = ⟨#[]⟩) := by unfold Hid dwS; rw [HS.out, if_neg hbig, HT.out, if_pos hz]
          have e2 : Hid (dwE j V f = 3) := by unfold Hid dwE; rw [HS.out, if_neg hbig, HT.out, if_pos hz]
          go_wp2
          go_ret2
          rw [e1.out, e2.out]
          exact ⟨rfl, hg⟩
        · have hz' : ¬ (1048576 : Int) < (T.size : Int) := by omega
          have e1 : Hid (dwS j V f = T) := by unfold Hid dwS; rw [HS.out, if_neg hbig, HT.out, if_neg hz]
          have e2 : Hid (dwE j V f = 0) := by unfold Hid dwE; rw [HS.out, if_neg hbig, HT.out, if_neg hz]
          go_wp2
          go_ret2
          rw [e1.out, e2.out]
          exact ⟨rfl, hg⟩
set_option maxHeartbeats 4000000 in
theorem drawH (L V : Nat) (hL : L ≤ 65536) (hV : V ≤ 65536) (g : Nat) (f : Nat → Nat → Int) (w : World)
    (hc : ∀ (j i : Nat) (W : World), j < L → i < V → w.grownBy W none → Calls Try.prog 33 #[.int .i64 (j : Nat), .int .i64 (i : Nat), .pointer (some ⟨g, 0, none⟩)] W fun e w' => e = .returned (.int .i32 (f j i)) ∧ W.grownBy w' none) :
    Calls Try.prog 30 #[.int .i64 (L : Nat), .int .i64 (V : Nat), .func (.func 33) #[] #[.pointer (some ⟨g, 0, none⟩)]] w fun e w' => e = .returned (.tuple #[.string (dwS L V f), .int .i64 (dwE L V f)]) ∧ w.grownBy w' none := by
  obtain ⟨S, hS⟩ : ∃ S, L * (V + 1) = S := ⟨_, rfl⟩
  have hSb : S ≤ 65536 * 65537 := by rw [← hS]; exact Nat.mul_le_mul hL (by omega)
  have hmi : (L : Int) * ((V : Int) + 1) = (S : Int) := by rw [← hS]; push_cast; rfl
  have hw0 : IntKind.i64.wrap ((V : Int) + 1) = (V : Int) + 1 := by rw [IntKind.wrap_i64]; omega
  have hw1 : wrap64 ((L : Int) * ((V : Int) + 1)) = (S : Int) := by rw [hmi]; unfold wrap64; omega
  have HS : Hid (L * (V + 1) = S) := hS
  have HC : Hid (∀ (j i : Nat) (W : World), j < L → i < V → w.grownBy W none → Calls Try.prog 33 #[.int .i64 (j : Nat), .int .i64 (i : Nat), .pointer (some ⟨g, 0, none⟩)] W fun e w' => e = .returned (.int .i32 (f j i)) ∧ W.grownBy w' none) := hc
  clear hmi hS hc
  by_cases hbig : 1048576 < S
  · have e1 : dwS L V f = ⟨#[]⟩ := by unfold dwS; rw [HS.out, if_pos hbig]
    have e2 : dwE L V f = 3 := by unfold dwE; rw [HS.out, if_pos hbig]
    have hbig' : (1048576 : Int) < (S : Int) := by omega
    rw [e1, e2]
    clear e1 e2
    go_enter Try.func30, Try.ntmps30
    go_wp2
    go_ret2
    exact ⟨rfl, World.grownBy.refl _ _⟩
  · have hbig' : ¬ (1048576 : Int) < (S : Int) := by omega
    obtain ⟨i0, hi⟩ := info_parts infoRn
    have HI : Hid (Try.prog.info? 21 = some i0 ∧ i0.zero = some (.int .i32 0) ∧ i0.size = 1 ∧ i0.bytes = 4) := hi
    clear hi
    go_enter Try.func30, Try.ntmps30
    go_wp2_with (first | (at_make; refine wpList_make_own _ rfl _ _ 68 rfl w.heap.size 21 i0 (.int .i32 0) 1 underRS HI.out.1 HI.out.2.1 HI.out.2.2.1 .i64 .i64 _ S rfl rfl (by first | rfl | omega) (by rw [HI.out.2.2.2]; omega) (by unfold maxLen; omega) (Nat.le_refl _) ?_; intro w1 own1 g1) | go_in)
    go_loopw [9, 22] (fun v9 v wr => ∃ j : Nat, j ≤ L ∧ v = .int .i64 (j : Nat) ∧ wr.ownsRow w.heap.size 21 1 v9 (j * (V + 1)) (rvs (dwP V f j)) ∧ w.grownBy wr none) (fun _ v _ => L - (intOf v).toNat)
    case atStart => exact ⟨0, Nat.zero_le _, rfl, by rw [Nat.zero_mul, show rvs (dwP V f 0) = [] by simp [dwP, rvs]]; exact own1, g1⟩
    case round =>
      obtain ⟨j, hj, rfl, hown, hg⟩ := hrel
      by_cases hlt : j < L
      · have hlt' : (j : Int) < (L : Int) := by omega
        have hmul : (j + 1) * (V + 1) ≤ L * (V + 1) := Nat.mul_le_mul_right _ hlt
        obtain ⟨n, hn⟩ : ∃ n, j * (V + 1) = n := ⟨_, rfl⟩
        have hnS : n + (V + 1) ≤ S := by rw [Nat.add_mul, Nat.one_mul, hn, HS.out] at hmul; exact hmul
        have HN : Hid (j * (V + 1) = n) := hn
        rw [hn] at hown
        clear hn hmul
        obtain ⟨sp9, cp9, rfl⟩ := own_sl hown
        go_wp2
        go_loopw [9, 26] (fun v9 v wr2 => ∃ i : Nat, i ≤ V ∧ v = .int .i64 (i : Nat) ∧ wr2.ownsRow w.heap.size 21 1 v9 (n + i) (rvs (rwP V f j i)) ∧ w.grownBy wr2 none) (fun _ v _ => V - (intOf v).toNat)
        case atStart => exact ⟨0, Nat.zero_le _, rfl, by rw [rwP_zero]; exact hown, hg⟩
        case round =>
          obtain ⟨i, hi, rfl, hown, hg⟩ := hrel
          obtain ⟨sp9, cp9, rfl⟩ := own_sl hown
          by_cases hli : i < V
          · have hli' : (i : Int) < (V : Int) := by omega
            have hcall := HC.out j i
            have hw2 : IntKind.i64.wrap ((i : Int) + 1) = (i : Int) + 1 := by rw [IntKind.wrap_i64]; omega
            have hsz := hg.size
            go_wp2_with (first | (go_at_call 33; refine (hcall _ hlt hli hg).mono ?_; rintro e w8 ⟨rfl, g8⟩; have own8 := hown.kept g8 (Classical.em _); have G8 := gb_trans hg g8; have sz8 := G8.size) | (at_builtin; refine wpList_append_own _ rfl _ _ 68 rfl w.heap.size 21 i0 (.int .i32 0) 1 4 underRS HI.out.1 HI.out.2.1 HI.out.2.2.1 HI.out.2.2.2 rfl (by decide) _ _ _ rfl (own8.alloc _) ⟨_, 0, none⟩ 1 1 [.int .i32 (f j i)] rfl rfl (new1 _ _ _) ?_ ?_ ?_ ?_ ?_; rotate_right; intro v4 w4 hown4 hgrow4 hnil4))
            · have HA := own8.alloc (.cells #[.int .i32 (f j i)] 21)
              have G4 := gb_row (gb_alloc G8 (.cells #[.int .i32 (f j i)] 21)) hgrow4 (fun i e => (HA.lt i e).1)
              go_wp2
              go_roundw
              case rel => exact ⟨i + 1, hli, by go_num, by rw [rwP_succ, rvs_snoc]; exact hown4, G4⟩
              case measure => first | (simp [intOf]; done) | (simp [intOf]; omega)
            · first
              | rfl
              | (intro u hu
                 simp at hu
                 subst hu; rfl)
            · unfold maxLen; omega
            · omega
            · first | omega | (simp; omega)
          · obtain rfl : i = V := by omega
            have hli' : ¬ (i : Int) < (i : Int) := by omega
            have hw2 : IntKind.i64.wrap ((j : Int) + 1) = (j : Int) + 1 := by rw [IntKind.wrap_i64]; omega
            have hsz := hg.size
            go_wp2_with (at_builtin; refine wpList_append_own _ rfl _ _ 68 rfl w.heap.size 21 i0 (.int .i32 0) 1 4 underRS HI.out.1 HI.out.2.1 HI.out.2.2.1 HI.out.2.2.2 rfl (by decide) _ _ _ rfl (hown.alloc _) ⟨_, 0, none⟩ 1 1 [.int .i32 10] rfl rfl (new1 _ _ _) ?_ ?_ ?_ ?_ ?_; rotate_right; intro v4 w4 hown4 hgrow4 hnil4)
            · have HA := hown.alloc (.cells #[.int .i32 10] 21)
              have G4 := gb_row (gb_alloc hg (.cells #[.int .i32 10] 21)) hgrow4 (fun i e => (HA.lt i e).1)
              go_wp2
              go_roundw
              case rel => exact ⟨j + 1, hlt, by go_num, by rw [dwP_succ, rvs_snoc, Nat.add_mul, Nat.one_mul, HN.out]; exact hown4, G4⟩
              case measure => first | (simp [intOf]; done) | (simp [intOf]; omega)
            · first
              | rfl
              | (intro u hu
                 simp at hu
                 subst hu; rfl)
            · unfold maxLen; omega
            · omega
            · first | omega | (simp; omega)
      · obtain rfl : j = L := by omega
        have hlt' : ¬ (j : Int) < (j : Int) := by omega
        obtain ⟨sp9, cp9, rfl⟩ := own_sl hown
        have hcv := fun W (h : wr.grownBy W none) => conv_own (W := W) (l := dwP V f j) (by rw [dwP_len]; exact hown.kept h (Classical.em _))
        have hcv := hcv _ (World.grownBy.refl _ _)
        obtain ⟨T, hT⟩ : ∃ T, runesBytes (dwP V f j) = T := ⟨_, rfl⟩
        rw [hT] at hcv
        have HT : Hid (dwT j V f = T) := hT
        clear hT
        by_cases hz : 1048576 < T.size
        · have hz' : (1048576 : Int) < (T.size : Int) := by omega
          have e1 : Hid (dwS j V f = ⟨#[]⟩) := by unfold Hid dwS; rw [HS.out, if_neg hbig, HT.out, if_pos hz]
          have e2 : Hid (dwE j V f = 3) := by unfold Hid dwE; rw [HS.out, if_neg hbig, HT.out, if_pos hz]
          go_wp2
          go_ret2
          rw [e1.out, e2.out]
          exact ⟨rfl, hg⟩
        · have hz' : ¬ (1048576 : Int) < (T.size : Int) := by omega
          have e1 : Hid (dwS j V f = T) := by unfold Hid dwS; rw [HS.out, if_neg hbig, HT.out, if_neg hz]
          have e2 : Hid (dwE j V f = 0) := by unfold Hid dwE; rw [HS.out, if_neg hbig, HT.out, if_neg hz]
          go_wp2
          go_ret2
          rw [e1.out, e2.out]
          exact ⟨rfl, hg⟩
end Go.Proofs.Ytjacoifhjfipaaa
