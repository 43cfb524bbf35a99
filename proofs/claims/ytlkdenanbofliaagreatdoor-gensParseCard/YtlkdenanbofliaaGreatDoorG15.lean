/- What Parse of the document answers, of every text; the walk of GensParse. -/
import Derived.Test.YtlkdenanbofliaaGreatDoorG13
import Derived.Test.YtlkdenanbofliaaGreatDoorG14
import Derived.Test.YtlkdenanbofliaaGreatDoorG8
import Derived.Test.YtlkdenanbofliaaGreatDoorL23
namespace Go.Proofs.YtlkdenanbofliaaGreatDoor
open Go.RowKit
set_option linter.unusedVariables false
set_option linter.unusedSimpArgs false
set_option maxRecDepth 100000

theorem Lf.parse_er (s : ByteArray) : (Lf.parseR s).er < 256 := by
  unfold Lf.parseR
  split
  · show 3 < 256; decide
  · have h := (Lf.read_is s).er
    revert h
    generalize Lf.readR s = r
    intro h
    unfold Lf.parse2
    split
    · split
      · show 82 < 256; decide
      · show 0 < 256; decide
    · omega
namespace Gn
theorem stR_end (s : ByteArray) : stR s s.size = ⟨0, s.size, 90⟩ := by
  have hb : Sc.bt s s.size = 0 := Sc.bt_off (Nat.lt_irrefl _)
  have e1 : sl1 s s.size = s.size := by unfold sl1; rw [if_neg (by rw [hb]; decide)]
  have e2 : fs s s.size = s.size := by unfold fs le1; rw [e1, if_neg (by rw [hb]; decide)]
  have e3 : Sc.ov Sc.digitB s s.size = s.size := Sc.ov_no (Nat.le_refl _) (fun h => absurd h (Nat.lt_irrefl _))
  unfold stR st1
  rw [e2, e3, if_neg (Nat.lt_irrefl _), num_none (Nat.le_refl _), if_neg (by omega)]
theorem ss_is {s : ByteArray} (h : ss s < s.size) : Sc.bt s (ss s) = 47 := by
  have hle := ss_le s
  by_cases hf : Sc.ov noSl s 0 < s.size
  · have e : ss s = Sc.ov noSl s (Sc.ov noSl s 0 + 1) := by unfold ss; rw [if_pos hf]
    have k := Sc.ov_is noSl (s := s) (i := Sc.ov noSl s 0 + 1) hf
    rw [e]
    exact is_sl (k.stop (by omega))
  · unfold ss at h
    rw [if_neg hf] at h
    omega
theorem stR_at (s : ByteArray) (h : ss s < s.size) : stR s (ss s) = st1 s (le1 s (ss s + 1)) := by
  unfold stR fs sl1
  rw [if_pos (ss_is h)]
theorem st_er {s : ByteArray} {p : Nat} {n b er : Nat} (h : stR s p = ⟨n, b, er⟩) : er = 0 ∨ er = 90 := by
  unfold stR st1 at h
  split at h
  · cases h; exact Or.inr rfl
  · split at h
    · cases h; exact Or.inl rfl
    · cases h; exact Or.inr rfl
theorem lists_er (s : ByteArray) : (listsR s).er < 256 := by
  have d := tl_is (s := s) (i := 0) (Nat.zero_le _)
  unfold listsR lists1
  split
  · have d2 := (tl_is (s := s) (i := (tl s 0).a) d.le).er
    unfold lists2
    split
    · split
      · show 82 < 256; decide
      · show 0 < 256; decide
    · show (tl s (tl s 0).a).er < 256; omega
  · have := d.er
    show (tl s 0).er < 256; omega
end Gn
theorem gparseD (s : ByteArray) (w : World) : Calls Tryz.prog 9 #[.string s] w fun e w' => e = .returned (.tuple #[.agg #[.int .u8 (Gn.parseR s).ho, .int .u16 (Gn.parseR s).bo, .int .u16 (Gn.parseR s).st, .int .i64 (Gn.parseR s).n], .int .i64 (Gn.parseR s).a, .int .i64 (Gn.parseR s).er]) ∧ w.grownBy w' none := by
  unfold Gn.parseR
  by_cases hl : 1048576 < s.size
  · rw [if_pos hl]
    exact gpdLong s w (by omega)
  · rw [if_neg hl]
    have hs : s.size ≤ 1048576 := by omega
    have hs' : ¬ (1048576 : Int) < s.size := by omega
    have hq := Gn.ss_le s
    have hsl := fun w => slashD s hs w
    have hN := fun w => listsD' s hs w
    unfold Gn.readR Gn.isB
    by_cases h0 : 0 < s.size
    · by_cases h1 : Sc.bt s 0 = 66
      · rw [if_pos (by simp [h1])]
        have hx := fun w => parseD (s.extract 0 (Gn.ss s)) w
        have hle := Lf.parse_er (s.extract 0 (Gn.ss s))
        unfold Gn.lettR
        cases hr : Lf.parseR (s.extract 0 (Gn.ss s)) with
        | mk ho bo st a er =>
          rw [hr] at hx hle
          have hle : er < 256 := hle
          unfold Gn.lett1
          by_cases he0 : er = 0
          · subst he0
            simp only [if_true]
            unfold Gn.parse1
            have he : (0 : Nat) = 0 := rfl
            · simp only [if_true]
              by_cases hqe : Gn.ss s = s.size
              · have ht : Gn.stR s (Gn.ss s) = ⟨0, Gn.ss s, 90⟩ := by
                  rw [hqe]
                  exact Gn.stR_end s
                rw [ht]
                unfold Gn.parse2
                simp only []
                rw [if_neg (by decide)]
                exact gpdB2 s w hs' (Gn.ss s) hq h0 h1 ho bo st _ hqe hsl hx
              · have hlt : Gn.ss s < s.size := by omega
                have hst := fun w => statesD s (Gn.ss s + 1) hs hlt w
                rw [← Gn.stR_at s hlt] at hst
                skip
                cases ht : Gn.stR s (Gn.ss s) with
                | mk n b er =>
                  rw [ht] at hst
                  have her := Gn.st_er ht
                  unfold Gn.parse2
                  by_cases he : er = 0
                  · subst he
                    simp only [if_true]
                    exact gpdB4 s w hs' (Gn.ss s) hq h0 h1 ho bo st _ n b hqe hsl hx hst
                  · have e9 : er = 90 := by omega
                    subst e9
                    simp only []
                    rw [if_neg he]
                    exact gpdB3 s w hs' (Gn.ss s) hq h0 h1 ho bo st _ n b hqe hsl hx hst
          · simp only []
            rw [if_neg he0]
            unfold Gn.parse1
            rw [if_neg (show ¬ (Lf.bad a er).er = 0 from he0)]
            exact gpdB1 s w hs' (Gn.ss s) hq h0 h1 ho bo st a er (by omega) (by omega) hsl hx
      · by_cases h2 : Sc.bt s 0 = 98
        · rw [if_pos (by simp [h2])]
          have hx := fun w => parseD (s.extract 0 (Gn.ss s)) w
          have hle := Lf.parse_er (s.extract 0 (Gn.ss s))
          unfold Gn.lettR
          cases hr : Lf.parseR (s.extract 0 (Gn.ss s)) with
          | mk ho bo st a er =>
            rw [hr] at hx hle
            have hle : er < 256 := hle
            unfold Gn.lett1
            by_cases he0 : er = 0
            · subst he0
              simp only [if_true]
              unfold Gn.parse1
              have he : (0 : Nat) = 0 := rfl
              · simp only [if_true]
                by_cases hqe : Gn.ss s = s.size
                · have ht : Gn.stR s (Gn.ss s) = ⟨0, Gn.ss s, 90⟩ := by
                    rw [hqe]
                    exact Gn.stR_end s
                  rw [ht]
                  unfold Gn.parse2
                  simp only []
                  rw [if_neg (by decide)]
                  exact gpdb2 s w hs' (Gn.ss s) hq h0 h2 ho bo st _ hqe hsl hx
                · have hlt : Gn.ss s < s.size := by omega
                  have hst := fun w => statesD s (Gn.ss s + 1) hs hlt w
                  rw [← Gn.stR_at s hlt] at hst
                  skip
                  cases ht : Gn.stR s (Gn.ss s) with
                  | mk n b er =>
                    rw [ht] at hst
                    have her := Gn.st_er ht
                    unfold Gn.parse2
                    by_cases he : er = 0
                    · subst he
                      simp only [if_true]
                      exact gpdb4 s w hs' (Gn.ss s) hq h0 h2 ho bo st _ n b hqe hsl hx hst
                    · have e9 : er = 90 := by omega
                      subst e9
                      simp only []
                      rw [if_neg he]
                      exact gpdb3 s w hs' (Gn.ss s) hq h0 h2 ho bo st _ n b hqe hsl hx hst
            · simp only []
              rw [if_neg he0]
              unfold Gn.parse1
              rw [if_neg (show ¬ (Lf.bad a er).er = 0 from he0)]
              exact gpdb1 s w hs' (Gn.ss s) hq h0 h2 ho bo st a er (by omega) (by omega) hsl hx
        · rw [if_neg (by simp [h1, h2])]
          have hx := hN
          have hle := Gn.lists_er s
          have ha0 := fun h => Gn.lists_ss (s := s) h
          cases hr : Gn.listsR s with
          | mk ho bo st a er =>
            rw [hr] at hx hle ha0
            have hle : er < 256 := hle
            have ha : er = 0 → a = Gn.ss s := ha0
            unfold Gn.lat at hx
            unfold Gn.parse1
            by_cases he : er = 0
            · subst he
              simp only [if_true]
              by_cases hqe : Gn.ss s = s.size
              · have ht : Gn.stR s a = ⟨0, Gn.ss s, 90⟩ := by
                  rw [ha rfl, hqe]
                  exact Gn.stR_end s
                rw [ht]
                unfold Gn.parse2
                simp only []
                rw [if_neg (by decide)]
                exact gpdN2 s w hs' (Gn.ss s) hq h0 h1 h2 ho bo st _ hqe hsl hx
              · have hlt : Gn.ss s < s.size := by omega
                have hst := fun w => statesD s (Gn.ss s + 1) hs hlt w
                rw [← Gn.stR_at s hlt] at hst
                rw [ha rfl]
                cases ht : Gn.stR s (Gn.ss s) with
                | mk n b er =>
                  rw [ht] at hst
                  have her := Gn.st_er ht
                  unfold Gn.parse2
                  by_cases he : er = 0
                  · subst he
                    simp only [if_true]
                    exact gpdN4 s w hs' (Gn.ss s) hq h0 h1 h2 ho bo st _ n b hqe hsl hx hst
                  · have e9 : er = 90 := by omega
                    subst e9
                    simp only []
                    rw [if_neg he]
                    exact gpdN3 s w hs' (Gn.ss s) hq h0 h1 h2 ho bo st _ n b hqe hsl hx hst
            · simp only [he, if_false] at hx ⊢
              exact gpdN1 s w hs' (Gn.ss s) hq h0 h1 h2 ho bo st a er (by omega) (by omega) hsl hx
    · have e0 : s = ⟨#[]⟩ := Sc.ext (by show s.size = 0; omega) fun i hi => by omega
      have hb : Sc.bt s 0 = 0 := Sc.bt_off h0
      rw [if_neg (by simp [hb])]
      have hr : Gn.listsR s = ⟨0, 0, 0, 0, 80⟩ := by rw [e0]; kernel_rfl
      have hx := hN
      rw [hr] at hx ⊢
      exact gpdE1 s w hs' (Gn.ss s) hq e0 0 0 0 0 80 (by decide) (by decide) hsl hx

set_option maxHeartbeats 4000000 in
theorem parse_walk0 (s t : ByteArray) (w : World) (en : Hid (En w)) : Calls Tryz.prog 3 #[.string s, .string t] w fun e w' => e = .returned (.bool true) ∧ w.grownBy w' none := by
  have hv := enH en
  have hp1 := fun w en => gparseC s w en
  have hq1 := fun w => gparseD s w
  have hp2 := fun w en => gparseC t w en
  have hq2 := fun w => gparseD t w
  generalize Gn.parseR s = R at hp1 hq1
  generalize Gn.parseR t = R' at hp2 hq2
  obtain ⟨H1, B1_, T1, N1, a1, e1⟩ := R
  obtain ⟨H2, B2_, T2, N2, a2, e2⟩ := R'
  simp only [] at hp1 hq1 hp2 hq2
  go_enter Tryz.func3, Tryz.ntmps3
  go_wp2_with (first | (go_at_call 8; (fail_if_success (guard_hyp g1)); refine (awakeC _ en).mono ?_; rintro e w1 ⟨rfl, g1⟩; have hv1 := hvK hv g1) | (go_at_call 9; (fail_if_success (guard_hyp g2)); refine (hq1 _).mono ?_; rintro e w2 ⟨rfl, g2⟩; have G2 := gb_trans g1 g2; have hv2 := hvK hv G2; obtain ⟨W3, hW3, sz3, g3, B3⟩ := boxn w2 #[.int .u8 (H1 : Nat), .int .u16 (B1_ : Nat), .int .u16 (T1 : Nat), .int .i64 (N1 : Nat)] 27; have G3 := gb_trans G2 g3; have hv3 := hvK hv G3; have b3_3_0 := B3.cell 0 (v := .int .u8 (H1 : Nat)) rfl; have b3_3_1 := B3.cell 1 (v := .int .u16 (B1_ : Nat)) rfl; have b3_3_2 := B3.cell 2 (v := .int .u16 (T1 : Nat)) rfl; have b3_3_3 := B3.cell 3 (v := .int .i64 (N1 : Nat)) rfl) | (go_at_call 9; (fail_if_success (guard_hyp g4)); refine (hq2 _).mono ?_; rintro e w4 ⟨rfl, g4⟩; have G4 := gb_trans G3 g4; have hv4 := hvK hv G4; have B3x := B3.kept g4 (by simp); obtain ⟨W5, hW5, sz5, g5, B5⟩ := boxn w4 #[.int .u8 (H2 : Nat), .int .u16 (B2_ : Nat), .int .u16 (T2 : Nat), .int .i64 (N2 : Nat)] 27; have G5 := gb_trans G4 g5; have hv5 := hvK hv G5; have B3xx := B3x.kept g5 (by simp); clear b3_3_0 b3_3_1 b3_3_2 b3_3_3; have b3_5_0 := B3xx.cell 0 (v := .int .u8 (H1 : Nat)) rfl; have b3_5_1 := B3xx.cell 1 (v := .int .u16 (B1_ : Nat)) rfl; have b3_5_2 := B3xx.cell 2 (v := .int .u16 (T1 : Nat)) rfl; have b3_5_3 := B3xx.cell 3 (v := .int .i64 (N1 : Nat)) rfl; have b5_5_0 := B5.cell 0 (v := .int .u8 (H2 : Nat)) rfl; have b5_5_1 := B5.cell 1 (v := .int .u16 (B2_ : Nat)) rfl; have b5_5_2 := B5.cell 2 (v := .int .u16 (T2 : Nat)) rfl; have b5_5_3 := B5.cell 3 (v := .int .i64 (N2 : Nat)) rfl) | (go_at_call 10; (fail_if_success (guard_hyp g6)); refine (hp1 _ (enK en G5)).mono ?_; rintro e w6 ⟨rfl, g6⟩; have G6 := gb_trans G5 g6; have hv6 := hvK hv G6; have B3xxx := B3xx.kept g6 (by simp); have B5x := B5.kept g6 (by simp); obtain ⟨W7, hW7, sz7, g7, B7⟩ := boxn w6 #[.int .u8 (H1 : Nat), .int .u16 (B1_ : Nat), .int .u16 (T1 : Nat), .int .i64 (N1 : Nat)] 27; have G7 := gb_trans G6 g7; have hv7 := hvK hv G7; have B3xxxx := B3xxx.kept g7 (by simp); have B5xx := B5x.kept g7 (by simp); clear b3_5_0 b3_5_1 b3_5_2 b3_5_3 b5_5_0 b5_5_1 b5_5_2 b5_5_3; have b3_7_0 := B3xxxx.cell 0 (v := .int .u8 (H1 : Nat)) rfl; have b3_7_1 := B3xxxx.cell 1 (v := .int .u16 (B1_ : Nat)) rfl; have b3_7_2 := B3xxxx.cell 2 (v := .int .u16 (T1 : Nat)) rfl; have b3_7_3 := B3xxxx.cell 3 (v := .int .i64 (N1 : Nat)) rfl; have b5_7_0 := B5xx.cell 0 (v := .int .u8 (H2 : Nat)) rfl; have b5_7_1 := B5xx.cell 1 (v := .int .u16 (B2_ : Nat)) rfl; have b5_7_2 := B5xx.cell 2 (v := .int .u16 (T2 : Nat)) rfl; have b5_7_3 := B5xx.cell 3 (v := .int .i64 (N2 : Nat)) rfl; have b7_7_0 := B7.cell 0 (v := .int .u8 (H1 : Nat)) rfl; have b7_7_1 := B7.cell 1 (v := .int .u16 (B1_ : Nat)) rfl; have b7_7_2 := B7.cell 2 (v := .int .u16 (T1 : Nat)) rfl; have b7_7_3 := B7.cell 3 (v := .int .i64 (N1 : Nat)) rfl) | (go_at_call 10; (fail_if_success (guard_hyp g8)); refine (hp2 _ (enK en G7)).mono ?_; rintro e w8 ⟨rfl, g8⟩; have G8 := gb_trans G7 g8; have hv8 := hvK hv G8; have B3xxxxx := B3xxxx.kept g8 (by simp); have B5xxx := B5xx.kept g8 (by simp); have B7x := B7.kept g8 (by simp); obtain ⟨W9, hW9, sz9, g9, B9⟩ := boxn w8 #[.int .u8 (H2 : Nat), .int .u16 (B2_ : Nat), .int .u16 (T2 : Nat), .int .i64 (N2 : Nat)] 27; have G9 := gb_trans G8 g9; have hv9 := hvK hv G9; have B3xxxxxx := B3xxxxx.kept g9 (by simp); have B5xxxx := B5xxx.kept g9 (by simp); have B7xx := B7x.kept g9 (by simp); clear b3_7_0 b3_7_1 b3_7_2 b3_7_3 b5_7_0 b5_7_1 b5_7_2 b5_7_3 b7_7_0 b7_7_1 b7_7_2 b7_7_3; have b3_9_0 := B3xxxxxx.cell 0 (v := .int .u8 (H1 : Nat)) rfl; have b3_9_1 := B3xxxxxx.cell 1 (v := .int .u16 (B1_ : Nat)) rfl; have b3_9_2 := B3xxxxxx.cell 2 (v := .int .u16 (T1 : Nat)) rfl; have b3_9_3 := B3xxxxxx.cell 3 (v := .int .i64 (N1 : Nat)) rfl; have b5_9_0 := B5xxxx.cell 0 (v := .int .u8 (H2 : Nat)) rfl; have b5_9_1 := B5xxxx.cell 1 (v := .int .u16 (B2_ : Nat)) rfl; have b5_9_2 := B5xxxx.cell 2 (v := .int .u16 (T2 : Nat)) rfl; have b5_9_3 := B5xxxx.cell 3 (v := .int .i64 (N2 : Nat)) rfl; have b7_9_0 := B7xx.cell 0 (v := .int .u8 (H1 : Nat)) rfl; have b7_9_1 := B7xx.cell 1 (v := .int .u16 (B1_ : Nat)) rfl; have b7_9_2 := B7xx.cell 2 (v := .int .u16 (T1 : Nat)) rfl; have b7_9_3 := B7xx.cell 3 (v := .int .i64 (N1 : Nat)) rfl; have b9_9_0 := B9.cell 0 (v := .int .u8 (H2 : Nat)) rfl; have b9_9_1 := B9.cell 1 (v := .int .u16 (B2_ : Nat)) rfl; have b9_9_2 := B9.cell 2 (v := .int .u16 (T2 : Nat)) rfl; have b9_9_3 := B9.cell 3 (v := .int .i64 (N2 : Nat)) rfl) | (go_at_call 10; (fail_if_success (guard_hyp g10)); refine (hp1 _ (enK en G9)).mono ?_; rintro e w10 ⟨rfl, g10⟩; have G10 := gb_trans G9 g10; have hv10 := hvK hv G10; have B3xxxxxxx := B3xxxxxx.kept g10 (by simp); have B5xxxxx := B5xxxx.kept g10 (by simp); have B7xxx := B7xx.kept g10 (by simp); have B9x := B9.kept g10 (by simp); obtain ⟨W11, hW11, sz11, g11, B11⟩ := boxn w10 #[.int .u8 (H1 : Nat), .int .u16 (B1_ : Nat), .int .u16 (T1 : Nat), .int .i64 (N1 : Nat)] 27; have G11 := gb_trans G10 g11; have hv11 := hvK hv G11; have B3xxxxxxxx := B3xxxxxxx.kept g11 (by simp); have B5xxxxxx := B5xxxxx.kept g11 (by simp); have B7xxxx := B7xxx.kept g11 (by simp); have B9xx := B9x.kept g11 (by simp); clear b3_9_0 b3_9_1 b3_9_2 b3_9_3 b5_9_0 b5_9_1 b5_9_2 b5_9_3 b7_9_0 b7_9_1 b7_9_2 b7_9_3 b9_9_0 b9_9_1 b9_9_2 b9_9_3; have b3_11_0 := B3xxxxxxxx.cell 0 (v := .int .u8 (H1 : Nat)) rfl; have b3_11_1 := B3xxxxxxxx.cell 1 (v := .int .u16 (B1_ : Nat)) rfl; have b3_11_2 := B3xxxxxxxx.cell 2 (v := .int .u16 (T1 : Nat)) rfl; have b3_11_3 := B3xxxxxxxx.cell 3 (v := .int .i64 (N1 : Nat)) rfl; have b5_11_0 := B5xxxxxx.cell 0 (v := .int .u8 (H2 : Nat)) rfl; have b5_11_1 := B5xxxxxx.cell 1 (v := .int .u16 (B2_ : Nat)) rfl; have b5_11_2 := B5xxxxxx.cell 2 (v := .int .u16 (T2 : Nat)) rfl; have b5_11_3 := B5xxxxxx.cell 3 (v := .int .i64 (N2 : Nat)) rfl; have b7_11_0 := B7xxxx.cell 0 (v := .int .u8 (H1 : Nat)) rfl; have b7_11_1 := B7xxxx.cell 1 (v := .int .u16 (B1_ : Nat)) rfl; have b7_11_2 := B7xxxx.cell 2 (v := .int .u16 (T1 : Nat)) rfl; have b7_11_3 := B7xxxx.cell 3 (v := .int .i64 (N1 : Nat)) rfl; have b9_11_0 := B9xx.cell 0 (v := .int .u8 (H2 : Nat)) rfl; have b9_11_1 := B9xx.cell 1 (v := .int .u16 (B2_ : Nat)) rfl; have b9_11_2 := B9xx.cell 2 (v := .int .u16 (T2 : Nat)) rfl; have b9_11_3 := B9xx.cell 3 (v := .int .i64 (N2 : Nat)) rfl; have b11_11_0 := B11.cell 0 (v := .int .u8 (H1 : Nat)) rfl; have b11_11_1 := B11.cell 1 (v := .int .u16 (B1_ : Nat)) rfl; have b11_11_2 := B11.cell 2 (v := .int .u16 (T1 : Nat)) rfl; have b11_11_3 := B11.cell 3 (v := .int .i64 (N1 : Nat)) rfl))
  go_ret
  exact ⟨rfl, G11⟩
theorem parse_walk (s t : ByteArray) (w : World) (en : En w) : Calls Tryz.prog 3 #[.string s, .string t] w fun e w' => e = .returned (.bool true) ∧ Below w.heap.size w w' :=
  (parse_walk0 s t w en).mono fun e w' ⟨a, b⟩ => ⟨a, gb_below b⟩
end Go.Proofs.YtlkdenanbofliaaGreatDoor
