/- The document's Not and Join, of every row. -/
import Derived.Test.YtcdefpfnjjahgaaW43
import Derived.Deep.RegionHeld2
import Derived.StillTailTactics
namespace Go.Proofs.Ytcdefpfnjjahgaa
open Go.RowKit
set_option linter.unusedVariables false
set_option linter.unusedSimpArgs false

set_option maxRecDepth 100000 in
set_option maxHeartbeats 4000000 in
theorem refNotU (N : Int) (n cap : Nat) (sp : Option Addr) (f : Nat → Nat) (hf : ∀ k, k < n → f k < 18446744073709551616) (hn : n ≤ 9223372036854775807) (w : World) (hc : Wd w sp n f) :
    Calls Try.prog 24 #[.agg #[.int .i64 N, .slice sp n cap]] w (Made (notAns N n f) w) := by
  obtain ⟨W0, hW0, c0, c1, sz0, g0, B0⟩ := box2 w (.int .i64 N) (.slice sp n cap) 25
  obtain ⟨W1, hW1, d0, d1, sz1, g1, B1⟩ := box2 W0 (.int .i64 0) (.slice none 0 0) 25
  have gg := gb_trans g0 g1
  have B01 := B0.kept g1 (by simp)
  have x0 := B01.cell0
  have x1 := B01.cell1
  obtain ⟨fs, hfs⟩ := underR
  have hv := refValidC N n cap sp f hf hn W1 (hc.kept gg (by simp))
  cases hvb : validB N n f with
  | false =>
    rw [hvb] at hv
    unfold notAns
    rw [if_pos hvb]
    clear hvb
    go_enter Try.func24, Try.ntmps24
    go_wp2_with (go_at_call 17; refine hv.mono ?_; rintro e w2 ⟨rfl, g2⟩; have B2 := B1.kept g2 (by simp); have B02 := B01.kept g2 (by simp); have y2 := B2.free0; have y3 := B2.free1; have y0 := B2.cell0; have y1 := B2.cell1; have x2 := B02.cell0; have x3 := B02.cell1)
    refine ret_box2 (g := W0.heap.size) (t := 25) rfl hfs infoR rfl (B2.set _ _) rfl ?_
    exact made_bad 20 (gb_new (gb_new (gb_trans gg g2) g0.size _) g0.size _)
  | true =>
    rw [hvb] at hv
    obtain ⟨m, p, rfl, M, hp⟩ := may_of_validB hf hvb
    unfold notAns
    rw [if_neg (by rw [hvb]; simp), Int.toNat_natCast]
    have hbits := fun w h => refBitsC m n cap sp f hf M.le M.words w h
    have hrow := fun w b h => refRowC m m (some ⟨b, 0, none⟩) (fun q => !Pk.bitAt f q) M.le w h
    obtain ⟨c, hcc⟩ : ∃ c : Nat, Hid (c = (m + 63) / 64) := ⟨_, rfl⟩
    rw [← hcc.out] at hrow
    have hml := M.le
    clear hvb
    go_enter Try.func24, Try.ntmps24
    go_wp2_with (first
      | (go_at_call 17; refine hv.mono ?_; rintro e w2 ⟨rfl, g2⟩; have B2 := B1.kept g2 (by simp); have B02 := B01.kept g2 (by simp); have y2 := B2.free0; have y3 := B2.free1; have y0 := B2.cell0; have y1 := B2.cell1; have x2 := B02.cell0; have x3 := B02.cell1)
      | (go_at_call 35; refine (hbits w2 ((hc.kept gg (by simp)).kept g2 (by simp))).mono ?_; rintro e w3 ⟨b, rfl, hr3, hb3, g3⟩))
    have B3 := B2.kept g3 (by simp)
    have s2 := g2.size
    have s3 := g3.size
    have sg := gg.size
    have s1 := B1.lt
    have s0 := g0.size
    have lb := hr3.lt
    go_loopw [5] (fun v wr => ∃ k : Nat, k ≤ m ∧ v = .int .i64 k ∧ (∃ F, wr.rowIs b 4 m F ∧ Hid (∀ j, j < m → F j = .bool (if j < k then !Pk.bitAt f j else Pk.bitAt f j))) ∧ w3.grownBy wr (some b)) (fun v _ => m - (intOf v).toNat)
    case atStart => exact ⟨0, Nat.zero_le _, rfl, ⟨_, hr3, fun j hj => by rw [if_neg (Nat.not_lt_zero _)]⟩, World.grownBy.refl _ _⟩
    case round =>
      obtain ⟨k, hk, rfl, ⟨F, hR, HF⟩, hgk⟩ := hrel
      by_cases hlt : k < m
      · have hlt' : (k : Int) < (m : Int) := by omega
        have u0 := hR.cell (i := k) hlt
        rw [HF.out k hlt, if_neg (Nat.lt_irrefl _)] at u0
        have u1 := hR.frozen k
        go_wp2
        refine ⟨⟨k + 1, by omega, by go_num, ⟨_, World.rowIs.set hR k _, fun j hj => ?_⟩, gb_set hgk _ _⟩, ?_⟩
        · by_cases e : j = k
          · rw [if_pos e, if_pos (by omega), e]
          · rw [if_neg e, HF.out j hj]
            by_cases e2 : j < k
            · rw [if_pos e2, if_pos (by omega)]
            · rw [if_neg e2, if_neg (by omega)]
        · simp [intOf]; omega
      · have hlt' : ¬ (k : Int) < (m : Int) := by omega
        have Bk := B3.kept hgk (fun e => by have := Option.some.inj e; omega)
        have hbd : Bd wr (some ⟨b, 0, none⟩) m (fun q => !Pk.bitAt f q) := full_bd hR (fun j hj => by rw [HF.out j hj, if_pos (by omega)]) (Nat.le_refl _)
        go_wp2_with (go_at_call 31; refine (hrow _ b hbd).mono ?_; rintro e w4 ⟨b4, rfl, hr4, g4, hb4⟩; have B4 := Bk.kept g4 (by simp); have z2 := B4.free0; have z3 := B4.free1; have z0 := B4.cell0; have z1 := B4.cell1)
        refine ret_box2 (g := W0.heap.size) (t := 25) rfl hfs infoR rfl (B4.set _ _) rfl ?_
        have sk := hgk.size
        have hne : b4 ≠ W0.heap.size := by omega
        have G := gb_past (gb_trans gg (gb_trans g2 g3)) hgk (by omega)
        have hr5 := World.rowIs.setOther (World.rowIs.setOther hr4 (a := ⟨W0.heap.size, 0, none⟩) hne (.int .i64 m)) (a := ⟨W0.heap.size, 1, none⟩) hne (.slice (some ⟨b4, 0, none⟩) c c)
        have hg5 := gb_new (gb_new (gb_trans G g4) (a := ⟨W0.heap.size, 0, none⟩) s0 (.int .i64 m)) (a := ⟨W0.heap.size, 1, none⟩) s0 (.slice (some ⟨b4, 0, none⟩) c c)
        rw [hcc.out] at hr5 hg5 ⊢
        exact made_ok hr5 hg5 (by omega)

set_option maxRecDepth 100000 in
set_option maxHeartbeats 4000000 in
theorem refJoin1U (N N' : Int) (n n' ca cb : Nat) (sa sb : Option Addr) (f f' : Nat → Nat) (hf : ∀ k, k < n → f k < 18446744073709551616) (hf' : ∀ k, k < n' → f' k < 18446744073709551616) (hn : n ≤ 9223372036854775807) (hn' : n' ≤ 9223372036854775807) (w : World) (ha : Wd w sa n f) (hb : Wd w sb n' f') :
    Calls Try.prog 41 #[.int .i64 1, .agg #[.int .i64 N, .slice sa n ca], .agg #[.int .i64 N', .slice sb n' cb]] w (Made (joinAns (fun a b => a && b) N n f N' n' f') w) := by
  obtain ⟨W0, hW0, c0, c1, sz0, g0, A0⟩ := box2 w (.int .i64 N) (.slice sa n ca) 25
  obtain ⟨W1, hW1, d0, d1, sz1, g1, B1⟩ := box2 W0 (.int .i64 N') (.slice sb n' cb) 25
  obtain ⟨W2, hW2, e0, e1, sz2, g2, C2⟩ := box2 W1 (.int .i64 0) (.slice none 0 0) 25
  have gg := gb_trans g0 (gb_trans g1 g2)
  have A2 := A0.kept (gb_trans g1 g2) (by simp)
  have B2 := B1.kept g2 (by simp)
  have xa0 := A2.cell0
  have xa1 := A2.cell1
  have xb0 := B2.cell0
  have xb1 := B2.cell1
  have q1 := (gb_trans g0 g1).size
  obtain ⟨fs, hfs⟩ := underR
  have hva := fun w h => refValidC N n ca sa f hf hn w h
  have hvb := fun w h => refValidC N' n' cb sb f' hf' hn' w h
  cases h1 : validB N n f with
  | false =>
    rw [h1] at hva
    unfold joinAns
    rw [if_pos (by rw [h1]; rfl)]
    clear h1 hvb
    go_enter Try.func41, Try.ntmps41
    go_wp2_with (go_at_call 17; (fail_if_success (guard_hyp g3)); refine (hva _ (ha.kept gg (by simp))).mono ?_; rintro e w3 ⟨rfl, g3⟩; have A3 := A2.kept g3 (by simp); have B3 := B2.kept g3 (by simp); have C3 := C2.kept g3 (by simp); have xa30 := A3.cell0; have xa31 := A3.cell1; have xb30 := B3.cell0; have xb31 := B3.cell1; have xc30 := C3.cell0; have xc31 := C3.cell1; have zc30 := C3.free0; have zc31 := C3.free1)
    refine ret_box2 (g := W1.heap.size) (t := 25) rfl hfs infoR rfl (C3.set _ _) rfl ?_
    exact made_bad 20 (gb_new (gb_new (gb_trans gg g3) q1 _) q1 _)
  | true =>
  cases h2 : validB N' n' f' with
  | false =>
    rw [h1] at hva
    rw [h2] at hvb
    unfold joinAns
    rw [if_pos (by rw [h1, h2]; rfl)]
    clear h1 h2
    go_enter Try.func41, Try.ntmps41
    go_wp2_with (first | (go_at_call 17; (fail_if_success (guard_hyp g3)); refine (hva _ (ha.kept gg (by simp))).mono ?_; rintro e w3 ⟨rfl, g3⟩; have A3 := A2.kept g3 (by simp); have B3 := B2.kept g3 (by simp); have C3 := C2.kept g3 (by simp); have xa30 := A3.cell0; have xa31 := A3.cell1; have xb30 := B3.cell0; have xb31 := B3.cell1; have xc30 := C3.cell0; have xc31 := C3.cell1; have zc30 := C3.free0; have zc31 := C3.free1) | (go_at_call 17; guard_hyp g3; (fail_if_success (guard_hyp g4)); refine (hvb _ ((hb.kept gg (by simp)).kept g3 (by simp))).mono ?_; rintro e w4 ⟨rfl, g4⟩; have A4 := A3.kept g4 (by simp); have B4 := B3.kept g4 (by simp); have C4 := C3.kept g4 (by simp); have xa40 := A4.cell0; have xa41 := A4.cell1; have xb40 := B4.cell0; have xb41 := B4.cell1; have xc40 := C4.cell0; have xc41 := C4.cell1; have zc40 := C4.free0; have zc41 := C4.free1; have G4 := gb_trans gg (gb_trans g3 g4); clear xa30 xa31 xb30 xb31 xc30 xc31 zc30 zc31))
    refine ret_box2 (g := W1.heap.size) (t := 25) rfl hfs infoR rfl (C4.set _ _) rfl ?_
    exact made_bad 20 (gb_new (gb_new G4 q1 _) q1 _)
  | true =>
  by_cases hN : N = N'
  · subst hN
    rw [h1] at hva
    rw [h2] at hvb
    obtain ⟨m, p, rfl, M, hp⟩ := may_of_validB hf h1
    obtain ⟨m', p', e, M', hp'⟩ := may_of_validB hf' h2
    obtain rfl : m = m' := by omega
    obtain rfl : n = n' := by rw [M.words, M'.words]
    unfold joinAns
    rw [if_neg (by rw [h1, h2]; simp), if_pos rfl, Int.toNat_natCast]
    clear h1 h2 e hp hp' M'
    have hba := fun w h => refBitsC m n ca sa f hf M.le M.words w h
    have hbb := fun w h => refBitsC m n cb sb f' hf' M.le M.words w h
    have hrow := fun w b h => refRowC m m (some ⟨b, 0, none⟩) (fun q => (fun a b => a && b) (Pk.bitAt f q) (Pk.bitAt f' q)) M.le w h
    obtain ⟨c, hcc⟩ : ∃ c : Nat, Hid (c = (m + 63) / 64) := ⟨_, rfl⟩
    rw [← hcc.out] at hrow
    have hml := M.le
    obtain ⟨mc, hmk, hmc⟩ := madeB m (by omega)
    clear M
    go_enter Try.func41, Try.ntmps41
    go_wp2_with (first | (go_at_call 17; (fail_if_success (guard_hyp g3)); refine (hva _ (ha.kept gg (by simp))).mono ?_; rintro e w3 ⟨rfl, g3⟩; have A3 := A2.kept g3 (by simp); have B3 := B2.kept g3 (by simp); have C3 := C2.kept g3 (by simp); have xa30 := A3.cell0; have xa31 := A3.cell1; have xb30 := B3.cell0; have xb31 := B3.cell1; have xc30 := C3.cell0; have xc31 := C3.cell1; have zc30 := C3.free0; have zc31 := C3.free1) | (go_at_call 17; guard_hyp g3; (fail_if_success (guard_hyp g4)); refine (hvb _ ((hb.kept gg (by simp)).kept g3 (by simp))).mono ?_; rintro e w4 ⟨rfl, g4⟩; have A4 := A3.kept g4 (by simp); have B4 := B3.kept g4 (by simp); have C4 := C3.kept g4 (by simp); have xa40 := A4.cell0; have xa41 := A4.cell1; have xb40 := B4.cell0; have xb41 := B4.cell1; have xc40 := C4.cell0; have xc41 := C4.cell1; have zc40 := C4.free0; have zc41 := C4.free1; have G4 := gb_trans gg (gb_trans g3 g4); clear xa30 xa31 xb30 xb31 xc30 xc31 zc30 zc31))
    go_region_held2 (fun w' => w'.cell? ⟨w.heap.size, 0, none⟩ = some (.int .i64 m) ∧ w'.cell? ⟨w.heap.size, 1, none⟩ = some (.slice sa n ca) ∧ w'.cell? ⟨W0.heap.size, 0, none⟩ = some (.int .i64 m) ∧ w'.cell? ⟨W0.heap.size, 1, none⟩ = some (.slice sb n cb)) (go_keep) (first | (go_at_call 35; (fail_if_success (guard_hyp g5)); refine (hba _ (ha.kept (gb_drew G4) (by simp))).mono ?_; rintro e w5 ⟨bl, rfl, hr5, hb5, g5⟩; have e5 := gb_trans (gb_drew (World.grownBy.refl w4 none)) g5; have G5 := gb_trans G4 e5; have A5 := A4.kept e5 (by simp); have B5 := B4.kept e5 (by simp); have C5 := C4.kept e5 (by simp); have xa50 := A5.cell0; have xa51 := A5.cell1; have xb50 := B5.cell0; have xb51 := B5.cell1) | (go_at_call 35; guard_hyp g5; refine (hbb _ (hb.kept G5 (by simp))).mono ?_; rintro e w6 ⟨bm, rfl, hr6, hb6, g6⟩; have G6 := gb_trans G5 g6; have A6 := A5.kept g6 (by simp); have B6 := B5.kept g6 (by simp); have C6 := C5.kept g6 (by simp); have hl6 := rowIs_kept hr5 g6 (by simp); have xa60 := A6.cell0; have xa61 := A6.cell1; have xb60 := B6.cell0; have xb61 := B6.cell1))
    obtain ⟨W7, hW7⟩ : ∃ W7, w6.alloc (.cells mc 4) = W7 := ⟨_, rfl⟩
    have g7 : w6.grownBy W7 none := by rw [← hW7]; exact World.grownBy_alloc _ _ _
    have hr7 : W7.rowIs w6.heap.size 4 m (fun _ => .bool false) := by rw [← hW7]; exact hmc w6
    have G7 := gb_trans G6 g7
    have C7 := C6.kept g7 (by simp)
    have hl7 := rowIs_kept hl6 g7 (by simp)
    have hm7 := rowIs_kept hr6 g7 (by simp)
    have ll := hl6.lt
    have lm := hr6.lt
    have lc := C6.lt
    have lo := hr7.lt
    go_wp2
    go_loopw [11] (fun v wr => ∃ k : Nat, k ≤ m ∧ v = .int .i64 k ∧ (∃ F, wr.rowIs w6.heap.size 4 m F ∧ Hid (∀ j, j < k → F j = .bool ((fun a b => a && b) (Pk.bitAt f j) (Pk.bitAt f' j)))) ∧ W7.grownBy wr (some w6.heap.size)) (fun v _ => m - (intOf v).toNat)
    case atStart => exact ⟨0, Nat.zero_le _, rfl, ⟨_, hr7, fun j hj => absurd hj (Nat.not_lt_zero _)⟩, World.grownBy.refl _ _⟩
    case round =>
      obtain ⟨k, hk, rfl, ⟨F, hR, HF⟩, hgk⟩ := hrel
      by_cases hlt : k < m
      · have hlt' : (k : Int) < (m : Int) := by omega
        have hlk := rowIs_kept hl7 hgk (fun e => by have := Option.some.inj e; omega)
        have hmk' := rowIs_kept hm7 hgk (fun e => by have := Option.some.inj e; omega)
        have v0 := hlk.cell (i := k) hlt
        have v1 := hmk'.cell (i := k) hlt
        have u0 := hR.cell (i := k) hlt
        have u1 := hR.frozen k
        obtain ⟨P, HP⟩ : ∃ P, Hid (Pk.bitAt f k = P) := ⟨_, rfl⟩
        obtain ⟨Q, HQ⟩ : ∃ Q, Hid (Pk.bitAt f' k = Q) := ⟨_, rfl⟩
        rw [HP.out] at v0
        rw [HQ.out] at v1
        cases P <;> cases Q
        all_goals go_wp2
        all_goals refine ⟨⟨k + 1, by omega, by go_num, ⟨_, World.rowIs.set hR k _, fun j hj => ?_⟩, gb_set hgk _ _⟩, ?_⟩
        all_goals first
          | (by_cases e : j = k
             · rw [if_pos e, e, HP.out, HQ.out]; rfl
             · rw [if_neg e]; exact HF.out j (by omega))
          | (simp [intOf]; omega)
      · have hlt' : ¬ (k : Int) < (m : Int) := by omega
        have Ck := C7.kept hgk (fun e => by have := Option.some.inj e; omega)
        have hbd : Bd wr (some ⟨w6.heap.size, 0, none⟩) m (fun q => (fun a b => a && b) (Pk.bitAt f q) (Pk.bitAt f' q)) := full_bd hR (fun j hj => HF.out j (by omega)) (Nat.le_refl _)
        go_wp2_with (go_at_call 31; refine (hrow _ w6.heap.size hbd).mono ?_; rintro e w8 ⟨b8, rfl, hr8, g8, hb8⟩; have C8 := Ck.kept g8 (by simp); have z2 := C8.free0; have z3 := C8.free1; have z0 := C8.cell0; have z1 := C8.cell1)
        refine ret_box2 (g := W1.heap.size) (t := 25) rfl hfs infoR rfl (C8.set _ _) rfl ?_
        have sk := hgk.size
        have hne : b8 ≠ W1.heap.size := by omega
        have G := gb_past G7 hgk (by have := G6.size; omega)
        have hr9 := World.rowIs.setOther (World.rowIs.setOther hr8 (a := ⟨W1.heap.size, 0, none⟩) hne (.int .i64 m)) (a := ⟨W1.heap.size, 1, none⟩) hne (.slice (some ⟨b8, 0, none⟩) c c)
        have hg9 := gb_new (gb_new (gb_trans G g8) (a := ⟨W1.heap.size, 0, none⟩) q1 (.int .i64 m)) (a := ⟨W1.heap.size, 1, none⟩) q1 (.slice (some ⟨b8, 0, none⟩) c c)
        have s7 := G7.size
        rw [hcc.out] at hr9 hg9 ⊢
        exact made_ok hr9 hg9 (by omega)
  · rw [h1] at hva
    rw [h2] at hvb
    have hN' : ¬ N = N' := hN
    have hN2 : (N != N') = true := by simpa using hN
    unfold joinAns
    rw [if_neg (by rw [h1, h2]; simp), if_neg hN]
    clear h1 h2
    go_enter Try.func41, Try.ntmps41
    go_wp2_with (first | (go_at_call 17; (fail_if_success (guard_hyp g3)); refine (hva _ (ha.kept gg (by simp))).mono ?_; rintro e w3 ⟨rfl, g3⟩; have A3 := A2.kept g3 (by simp); have B3 := B2.kept g3 (by simp); have C3 := C2.kept g3 (by simp); have xa30 := A3.cell0; have xa31 := A3.cell1; have xb30 := B3.cell0; have xb31 := B3.cell1; have xc30 := C3.cell0; have xc31 := C3.cell1; have zc30 := C3.free0; have zc31 := C3.free1) | (go_at_call 17; guard_hyp g3; (fail_if_success (guard_hyp g4)); refine (hvb _ ((hb.kept gg (by simp)).kept g3 (by simp))).mono ?_; rintro e w4 ⟨rfl, g4⟩; have A4 := A3.kept g4 (by simp); have B4 := B3.kept g4 (by simp); have C4 := C3.kept g4 (by simp); have xa40 := A4.cell0; have xa41 := A4.cell1; have xb40 := B4.cell0; have xb41 := B4.cell1; have xc40 := C4.cell0; have xc41 := C4.cell1; have zc40 := C4.free0; have zc41 := C4.free1; have G4 := gb_trans gg (gb_trans g3 g4); clear xa30 xa31 xb30 xb31 xc30 xc31 zc30 zc31))
    refine ret_box2 (g := W1.heap.size) (t := 25) rfl hfs infoR rfl (C4.set _ _) rfl ?_
    exact made_bad 21 (gb_new (gb_new G4 q1 _) q1 _)

set_option maxRecDepth 100000 in
set_option maxHeartbeats 4000000 in
theorem refJoin2U (N N' : Int) (n n' ca cb : Nat) (sa sb : Option Addr) (f f' : Nat → Nat) (hf : ∀ k, k < n → f k < 18446744073709551616) (hf' : ∀ k, k < n' → f' k < 18446744073709551616) (hn : n ≤ 9223372036854775807) (hn' : n' ≤ 9223372036854775807) (w : World) (ha : Wd w sa n f) (hb : Wd w sb n' f') :
    Calls Try.prog 41 #[.int .i64 2, .agg #[.int .i64 N, .slice sa n ca], .agg #[.int .i64 N', .slice sb n' cb]] w (Made (joinAns (fun a b => a || b) N n f N' n' f') w) := by
  obtain ⟨W0, hW0, c0, c1, sz0, g0, A0⟩ := box2 w (.int .i64 N) (.slice sa n ca) 25
  obtain ⟨W1, hW1, d0, d1, sz1, g1, B1⟩ := box2 W0 (.int .i64 N') (.slice sb n' cb) 25
  obtain ⟨W2, hW2, e0, e1, sz2, g2, C2⟩ := box2 W1 (.int .i64 0) (.slice none 0 0) 25
  have gg := gb_trans g0 (gb_trans g1 g2)
  have A2 := A0.kept (gb_trans g1 g2) (by simp)
  have B2 := B1.kept g2 (by simp)
  have xa0 := A2.cell0
  have xa1 := A2.cell1
  have xb0 := B2.cell0
  have xb1 := B2.cell1
  have q1 := (gb_trans g0 g1).size
  obtain ⟨fs, hfs⟩ := underR
  have hva := fun w h => refValidC N n ca sa f hf hn w h
  have hvb := fun w h => refValidC N' n' cb sb f' hf' hn' w h
  cases h1 : validB N n f with
  | false =>
    rw [h1] at hva
    unfold joinAns
    rw [if_pos (by rw [h1]; rfl)]
    clear h1 hvb
    go_enter Try.func41, Try.ntmps41
    go_wp2_with (go_at_call 17; (fail_if_success (guard_hyp g3)); refine (hva _ (ha.kept gg (by simp))).mono ?_; rintro e w3 ⟨rfl, g3⟩; have A3 := A2.kept g3 (by simp); have B3 := B2.kept g3 (by simp); have C3 := C2.kept g3 (by simp); have xa30 := A3.cell0; have xa31 := A3.cell1; have xb30 := B3.cell0; have xb31 := B3.cell1; have xc30 := C3.cell0; have xc31 := C3.cell1; have zc30 := C3.free0; have zc31 := C3.free1)
    refine ret_box2 (g := W1.heap.size) (t := 25) rfl hfs infoR rfl (C3.set _ _) rfl ?_
    exact made_bad 20 (gb_new (gb_new (gb_trans gg g3) q1 _) q1 _)
  | true =>
  cases h2 : validB N' n' f' with
  | false =>
    rw [h1] at hva
    rw [h2] at hvb
    unfold joinAns
    rw [if_pos (by rw [h1, h2]; rfl)]
    clear h1 h2
    go_enter Try.func41, Try.ntmps41
    go_wp2_with (first | (go_at_call 17; (fail_if_success (guard_hyp g3)); refine (hva _ (ha.kept gg (by simp))).mono ?_; rintro e w3 ⟨rfl, g3⟩; have A3 := A2.kept g3 (by simp); have B3 := B2.kept g3 (by simp); have C3 := C2.kept g3 (by simp); have xa30 := A3.cell0; have xa31 := A3.cell1; have xb30 := B3.cell0; have xb31 := B3.cell1; have xc30 := C3.cell0; have xc31 := C3.cell1; have zc30 := C3.free0; have zc31 := C3.free1) | (go_at_call 17; guard_hyp g3; (fail_if_success (guard_hyp g4)); refine (hvb _ ((hb.kept gg (by simp)).kept g3 (by simp))).mono ?_; rintro e w4 ⟨rfl, g4⟩; have A4 := A3.kept g4 (by simp); have B4 := B3.kept g4 (by simp); have C4 := C3.kept g4 (by simp); have xa40 := A4.cell0; have xa41 := A4.cell1; have xb40 := B4.cell0; have xb41 := B4.cell1; have xc40 := C4.cell0; have xc41 := C4.cell1; have zc40 := C4.free0; have zc41 := C4.free1; have G4 := gb_trans gg (gb_trans g3 g4); clear xa30 xa31 xb30 xb31 xc30 xc31 zc30 zc31))
    refine ret_box2 (g := W1.heap.size) (t := 25) rfl hfs infoR rfl (C4.set _ _) rfl ?_
    exact made_bad 20 (gb_new (gb_new G4 q1 _) q1 _)
  | true =>
  by_cases hN : N = N'
  · subst hN
    rw [h1] at hva
    rw [h2] at hvb
    obtain ⟨m, p, rfl, M, hp⟩ := may_of_validB hf h1
    obtain ⟨m', p', e, M', hp'⟩ := may_of_validB hf' h2
    obtain rfl : m = m' := by omega
    obtain rfl : n = n' := by rw [M.words, M'.words]
    unfold joinAns
    rw [if_neg (by rw [h1, h2]; simp), if_pos rfl, Int.toNat_natCast]
    clear h1 h2 e hp hp' M'
    have hba := fun w h => refBitsC m n ca sa f hf M.le M.words w h
    have hbb := fun w h => refBitsC m n cb sb f' hf' M.le M.words w h
    have hrow := fun w b h => refRowC m m (some ⟨b, 0, none⟩) (fun q => (fun a b => a || b) (Pk.bitAt f q) (Pk.bitAt f' q)) M.le w h
    obtain ⟨c, hcc⟩ : ∃ c : Nat, Hid (c = (m + 63) / 64) := ⟨_, rfl⟩
    rw [← hcc.out] at hrow
    have hml := M.le
    obtain ⟨mc, hmk, hmc⟩ := madeB m (by omega)
    clear M
    go_enter Try.func41, Try.ntmps41
    go_wp2_with (first | (go_at_call 17; (fail_if_success (guard_hyp g3)); refine (hva _ (ha.kept gg (by simp))).mono ?_; rintro e w3 ⟨rfl, g3⟩; have A3 := A2.kept g3 (by simp); have B3 := B2.kept g3 (by simp); have C3 := C2.kept g3 (by simp); have xa30 := A3.cell0; have xa31 := A3.cell1; have xb30 := B3.cell0; have xb31 := B3.cell1; have xc30 := C3.cell0; have xc31 := C3.cell1; have zc30 := C3.free0; have zc31 := C3.free1) | (go_at_call 17; guard_hyp g3; (fail_if_success (guard_hyp g4)); refine (hvb _ ((hb.kept gg (by simp)).kept g3 (by simp))).mono ?_; rintro e w4 ⟨rfl, g4⟩; have A4 := A3.kept g4 (by simp); have B4 := B3.kept g4 (by simp); have C4 := C3.kept g4 (by simp); have xa40 := A4.cell0; have xa41 := A4.cell1; have xb40 := B4.cell0; have xb41 := B4.cell1; have xc40 := C4.cell0; have xc41 := C4.cell1; have zc40 := C4.free0; have zc41 := C4.free1; have G4 := gb_trans gg (gb_trans g3 g4); clear xa30 xa31 xb30 xb31 xc30 xc31 zc30 zc31))
    go_region_held2 (fun w' => w'.cell? ⟨w.heap.size, 0, none⟩ = some (.int .i64 m) ∧ w'.cell? ⟨w.heap.size, 1, none⟩ = some (.slice sa n ca) ∧ w'.cell? ⟨W0.heap.size, 0, none⟩ = some (.int .i64 m) ∧ w'.cell? ⟨W0.heap.size, 1, none⟩ = some (.slice sb n cb)) (go_keep) (first | (go_at_call 35; (fail_if_success (guard_hyp g5)); refine (hba _ (ha.kept (gb_drew G4) (by simp))).mono ?_; rintro e w5 ⟨bl, rfl, hr5, hb5, g5⟩; have e5 := gb_trans (gb_drew (World.grownBy.refl w4 none)) g5; have G5 := gb_trans G4 e5; have A5 := A4.kept e5 (by simp); have B5 := B4.kept e5 (by simp); have C5 := C4.kept e5 (by simp); have xa50 := A5.cell0; have xa51 := A5.cell1; have xb50 := B5.cell0; have xb51 := B5.cell1) | (go_at_call 35; guard_hyp g5; refine (hbb _ (hb.kept G5 (by simp))).mono ?_; rintro e w6 ⟨bm, rfl, hr6, hb6, g6⟩; have G6 := gb_trans G5 g6; have A6 := A5.kept g6 (by simp); have B6 := B5.kept g6 (by simp); have C6 := C5.kept g6 (by simp); have hl6 := rowIs_kept hr5 g6 (by simp); have xa60 := A6.cell0; have xa61 := A6.cell1; have xb60 := B6.cell0; have xb61 := B6.cell1))
    obtain ⟨W7, hW7⟩ : ∃ W7, w6.alloc (.cells mc 4) = W7 := ⟨_, rfl⟩
    have g7 : w6.grownBy W7 none := by rw [← hW7]; exact World.grownBy_alloc _ _ _
    have hr7 : W7.rowIs w6.heap.size 4 m (fun _ => .bool false) := by rw [← hW7]; exact hmc w6
    have G7 := gb_trans G6 g7
    have C7 := C6.kept g7 (by simp)
    have hl7 := rowIs_kept hl6 g7 (by simp)
    have hm7 := rowIs_kept hr6 g7 (by simp)
    have ll := hl6.lt
    have lm := hr6.lt
    have lc := C6.lt
    have lo := hr7.lt
    go_wp2
    go_loopw [11] (fun v wr => ∃ k : Nat, k ≤ m ∧ v = .int .i64 k ∧ (∃ F, wr.rowIs w6.heap.size 4 m F ∧ Hid (∀ j, j < k → F j = .bool ((fun a b => a || b) (Pk.bitAt f j) (Pk.bitAt f' j)))) ∧ W7.grownBy wr (some w6.heap.size)) (fun v _ => m - (intOf v).toNat)
    case atStart => exact ⟨0, Nat.zero_le _, rfl, ⟨_, hr7, fun j hj => absurd hj (Nat.not_lt_zero _)⟩, World.grownBy.refl _ _⟩
    case round =>
      obtain ⟨k, hk, rfl, ⟨F, hR, HF⟩, hgk⟩ := hrel
      by_cases hlt : k < m
      · have hlt' : (k : Int) < (m : Int) := by omega
        have hlk := rowIs_kept hl7 hgk (fun e => by have := Option.some.inj e; omega)
        have hmk' := rowIs_kept hm7 hgk (fun e => by have := Option.some.inj e; omega)
        have v0 := hlk.cell (i := k) hlt
        have v1 := hmk'.cell (i := k) hlt
        have u0 := hR.cell (i := k) hlt
        have u1 := hR.frozen k
        obtain ⟨P, HP⟩ : ∃ P, Hid (Pk.bitAt f k = P) := ⟨_, rfl⟩
        obtain ⟨Q, HQ⟩ : ∃ Q, Hid (Pk.bitAt f' k = Q) := ⟨_, rfl⟩
        rw [HP.out] at v0
        rw [HQ.out] at v1
        cases P <;> cases Q
        all_goals go_wp2
        all_goals refine ⟨⟨k + 1, by omega, by go_num, ⟨_, World.rowIs.set hR k _, fun j hj => ?_⟩, gb_set hgk _ _⟩, ?_⟩
        all_goals first
          | (by_cases e : j = k
             · rw [if_pos e, e, HP.out, HQ.out]; rfl
             · rw [if_neg e]; exact HF.out j (by omega))
          | (simp [intOf]; omega)
      · have hlt' : ¬ (k : Int) < (m : Int) := by omega
        have Ck := C7.kept hgk (fun e => by have := Option.some.inj e; omega)
        have hbd : Bd wr (some ⟨w6.heap.size, 0, none⟩) m (fun q => (fun a b => a || b) (Pk.bitAt f q) (Pk.bitAt f' q)) := full_bd hR (fun j hj => HF.out j (by omega)) (Nat.le_refl _)
        go_wp2_with (go_at_call 31; refine (hrow _ w6.heap.size hbd).mono ?_; rintro e w8 ⟨b8, rfl, hr8, g8, hb8⟩; have C8 := Ck.kept g8 (by simp); have z2 := C8.free0; have z3 := C8.free1; have z0 := C8.cell0; have z1 := C8.cell1)
        refine ret_box2 (g := W1.heap.size) (t := 25) rfl hfs infoR rfl (C8.set _ _) rfl ?_
        have sk := hgk.size
        have hne : b8 ≠ W1.heap.size := by omega
        have G := gb_past G7 hgk (by have := G6.size; omega)
        have hr9 := World.rowIs.setOther (World.rowIs.setOther hr8 (a := ⟨W1.heap.size, 0, none⟩) hne (.int .i64 m)) (a := ⟨W1.heap.size, 1, none⟩) hne (.slice (some ⟨b8, 0, none⟩) c c)
        have hg9 := gb_new (gb_new (gb_trans G g8) (a := ⟨W1.heap.size, 0, none⟩) q1 (.int .i64 m)) (a := ⟨W1.heap.size, 1, none⟩) q1 (.slice (some ⟨b8, 0, none⟩) c c)
        have s7 := G7.size
        rw [hcc.out] at hr9 hg9 ⊢
        exact made_ok hr9 hg9 (by omega)
  · rw [h1] at hva
    rw [h2] at hvb
    have hN' : ¬ N = N' := hN
    have hN2 : (N != N') = true := by simpa using hN
    unfold joinAns
    rw [if_neg (by rw [h1, h2]; simp), if_neg hN]
    clear h1 h2
    go_enter Try.func41, Try.ntmps41
    go_wp2_with (first | (go_at_call 17; (fail_if_success (guard_hyp g3)); refine (hva _ (ha.kept gg (by simp))).mono ?_; rintro e w3 ⟨rfl, g3⟩; have A3 := A2.kept g3 (by simp); have B3 := B2.kept g3 (by simp); have C3 := C2.kept g3 (by simp); have xa30 := A3.cell0; have xa31 := A3.cell1; have xb30 := B3.cell0; have xb31 := B3.cell1; have xc30 := C3.cell0; have xc31 := C3.cell1; have zc30 := C3.free0; have zc31 := C3.free1) | (go_at_call 17; guard_hyp g3; (fail_if_success (guard_hyp g4)); refine (hvb _ ((hb.kept gg (by simp)).kept g3 (by simp))).mono ?_; rintro e w4 ⟨rfl, g4⟩; have A4 := A3.kept g4 (by simp); have B4 := B3.kept g4 (by simp); have C4 := C3.kept g4 (by simp); have xa40 := A4.cell0; have xa41 := A4.cell1; have xb40 := B4.cell0; have xb41 := B4.cell1; have xc40 := C4.cell0; have xc41 := C4.cell1; have zc40 := C4.free0; have zc41 := C4.free1; have G4 := gb_trans gg (gb_trans g3 g4); clear xa30 xa31 xb30 xb31 xc30 xc31 zc30 zc31))
    refine ret_box2 (g := W1.heap.size) (t := 25) rfl hfs infoR rfl (C4.set _ _) rfl ?_
    exact made_bad 21 (gb_new (gb_new G4 q1 _) q1 _)

set_option maxRecDepth 100000 in
set_option maxHeartbeats 4000000 in
theorem refJoin3U (N N' : Int) (n n' ca cb : Nat) (sa sb : Option Addr) (f f' : Nat → Nat) (hf : ∀ k, k < n → f k < 18446744073709551616) (hf' : ∀ k, k < n' → f' k < 18446744073709551616) (hn : n ≤ 9223372036854775807) (hn' : n' ≤ 9223372036854775807) (w : World) (ha : Wd w sa n f) (hb : Wd w sb n' f') :
    Calls Try.prog 41 #[.int .i64 3, .agg #[.int .i64 N, .slice sa n ca], .agg #[.int .i64 N', .slice sb n' cb]] w (Made (joinAns (fun a b => Bool.xor a b) N n f N' n' f') w) := by
  obtain ⟨W0, hW0, c0, c1, sz0, g0, A0⟩ := box2 w (.int .i64 N) (.slice sa n ca) 25
  obtain ⟨W1, hW1, d0, d1, sz1, g1, B1⟩ := box2 W0 (.int .i64 N') (.slice sb n' cb) 25
  obtain ⟨W2, hW2, e0, e1, sz2, g2, C2⟩ := box2 W1 (.int .i64 0) (.slice none 0 0) 25
  have gg := gb_trans g0 (gb_trans g1 g2)
  have A2 := A0.kept (gb_trans g1 g2) (by simp)
  have B2 := B1.kept g2 (by simp)
  have xa0 := A2.cell0
  have xa1 := A2.cell1
  have xb0 := B2.cell0
  have xb1 := B2.cell1
  have q1 := (gb_trans g0 g1).size
  obtain ⟨fs, hfs⟩ := underR
  have hva := fun w h => refValidC N n ca sa f hf hn w h
  have hvb := fun w h => refValidC N' n' cb sb f' hf' hn' w h
  cases h1 : validB N n f with
  | false =>
    rw [h1] at hva
    unfold joinAns
    rw [if_pos (by rw [h1]; rfl)]
    clear h1 hvb
    go_enter Try.func41, Try.ntmps41
    go_wp2_with (go_at_call 17; (fail_if_success (guard_hyp g3)); refine (hva _ (ha.kept gg (by simp))).mono ?_; rintro e w3 ⟨rfl, g3⟩; have A3 := A2.kept g3 (by simp); have B3 := B2.kept g3 (by simp); have C3 := C2.kept g3 (by simp); have xa30 := A3.cell0; have xa31 := A3.cell1; have xb30 := B3.cell0; have xb31 := B3.cell1; have xc30 := C3.cell0; have xc31 := C3.cell1; have zc30 := C3.free0; have zc31 := C3.free1)
    refine ret_box2 (g := W1.heap.size) (t := 25) rfl hfs infoR rfl (C3.set _ _) rfl ?_
    exact made_bad 20 (gb_new (gb_new (gb_trans gg g3) q1 _) q1 _)
  | true =>
  cases h2 : validB N' n' f' with
  | false =>
    rw [h1] at hva
    rw [h2] at hvb
    unfold joinAns
    rw [if_pos (by rw [h1, h2]; rfl)]
    clear h1 h2
    go_enter Try.func41, Try.ntmps41
    go_wp2_with (first | (go_at_call 17; (fail_if_success (guard_hyp g3)); refine (hva _ (ha.kept gg (by simp))).mono ?_; rintro e w3 ⟨rfl, g3⟩; have A3 := A2.kept g3 (by simp); have B3 := B2.kept g3 (by simp); have C3 := C2.kept g3 (by simp); have xa30 := A3.cell0; have xa31 := A3.cell1; have xb30 := B3.cell0; have xb31 := B3.cell1; have xc30 := C3.cell0; have xc31 := C3.cell1; have zc30 := C3.free0; have zc31 := C3.free1) | (go_at_call 17; guard_hyp g3; (fail_if_success (guard_hyp g4)); refine (hvb _ ((hb.kept gg (by simp)).kept g3 (by simp))).mono ?_; rintro e w4 ⟨rfl, g4⟩; have A4 := A3.kept g4 (by simp); have B4 := B3.kept g4 (by simp); have C4 := C3.kept g4 (by simp); have xa40 := A4.cell0; have xa41 := A4.cell1; have xb40 := B4.cell0; have xb41 := B4.cell1; have xc40 := C4.cell0; have xc41 := C4.cell1; have zc40 := C4.free0; have zc41 := C4.free1; have G4 := gb_trans gg (gb_trans g3 g4); clear xa30 xa31 xb30 xb31 xc30 xc31 zc30 zc31))
    refine ret_box2 (g := W1.heap.size) (t := 25) rfl hfs infoR rfl (C4.set _ _) rfl ?_
    exact made_bad 20 (gb_new (gb_new G4 q1 _) q1 _)
  | true =>
  by_cases hN : N = N'
  · subst hN
    rw [h1] at hva
    rw [h2] at hvb
    obtain ⟨m, p, rfl, M, hp⟩ := may_of_validB hf h1
    obtain ⟨m', p', e, M', hp'⟩ := may_of_validB hf' h2
    obtain rfl : m = m' := by omega
    obtain rfl : n = n' := by rw [M.words, M'.words]
    unfold joinAns
    rw [if_neg (by rw [h1, h2]; simp), if_pos rfl, Int.toNat_natCast]
    clear h1 h2 e hp hp' M'
    have hba := fun w h => refBitsC m n ca sa f hf M.le M.words w h
    have hbb := fun w h => refBitsC m n cb sb f' hf' M.le M.words w h
    have hrow := fun w b h => refRowC m m (some ⟨b, 0, none⟩) (fun q => (fun a b => Bool.xor a b) (Pk.bitAt f q) (Pk.bitAt f' q)) M.le w h
    obtain ⟨c, hcc⟩ : ∃ c : Nat, Hid (c = (m + 63) / 64) := ⟨_, rfl⟩
    rw [← hcc.out] at hrow
    have hml := M.le
    obtain ⟨mc, hmk, hmc⟩ := madeB m (by omega)
    clear M
    go_enter Try.func41, Try.ntmps41
    go_wp2_with (first | (go_at_call 17; (fail_if_success (guard_hyp g3)); refine (hva _ (ha.kept gg (by simp))).mono ?_; rintro e w3 ⟨rfl, g3⟩; have A3 := A2.kept g3 (by simp); have B3 := B2.kept g3 (by simp); have C3 := C2.kept g3 (by simp); have xa30 := A3.cell0; have xa31 := A3.cell1; have xb30 := B3.cell0; have xb31 := B3.cell1; have xc30 := C3.cell0; have xc31 := C3.cell1; have zc30 := C3.free0; have zc31 := C3.free1) | (go_at_call 17; guard_hyp g3; (fail_if_success (guard_hyp g4)); refine (hvb _ ((hb.kept gg (by simp)).kept g3 (by simp))).mono ?_; rintro e w4 ⟨rfl, g4⟩; have A4 := A3.kept g4 (by simp); have B4 := B3.kept g4 (by simp); have C4 := C3.kept g4 (by simp); have xa40 := A4.cell0; have xa41 := A4.cell1; have xb40 := B4.cell0; have xb41 := B4.cell1; have xc40 := C4.cell0; have xc41 := C4.cell1; have zc40 := C4.free0; have zc41 := C4.free1; have G4 := gb_trans gg (gb_trans g3 g4); clear xa30 xa31 xb30 xb31 xc30 xc31 zc30 zc31))
    go_region_held2 (fun w' => w'.cell? ⟨w.heap.size, 0, none⟩ = some (.int .i64 m) ∧ w'.cell? ⟨w.heap.size, 1, none⟩ = some (.slice sa n ca) ∧ w'.cell? ⟨W0.heap.size, 0, none⟩ = some (.int .i64 m) ∧ w'.cell? ⟨W0.heap.size, 1, none⟩ = some (.slice sb n cb)) (go_keep) (first | (go_at_call 35; (fail_if_success (guard_hyp g5)); refine (hba _ (ha.kept (gb_drew G4) (by simp))).mono ?_; rintro e w5 ⟨bl, rfl, hr5, hb5, g5⟩; have e5 := gb_trans (gb_drew (World.grownBy.refl w4 none)) g5; have G5 := gb_trans G4 e5; have A5 := A4.kept e5 (by simp); have B5 := B4.kept e5 (by simp); have C5 := C4.kept e5 (by simp); have xa50 := A5.cell0; have xa51 := A5.cell1; have xb50 := B5.cell0; have xb51 := B5.cell1) | (go_at_call 35; guard_hyp g5; refine (hbb _ (hb.kept G5 (by simp))).mono ?_; rintro e w6 ⟨bm, rfl, hr6, hb6, g6⟩; have G6 := gb_trans G5 g6; have A6 := A5.kept g6 (by simp); have B6 := B5.kept g6 (by simp); have C6 := C5.kept g6 (by simp); have hl6 := rowIs_kept hr5 g6 (by simp); have xa60 := A6.cell0; have xa61 := A6.cell1; have xb60 := B6.cell0; have xb61 := B6.cell1))
    obtain ⟨W7, hW7⟩ : ∃ W7, w6.alloc (.cells mc 4) = W7 := ⟨_, rfl⟩
    have g7 : w6.grownBy W7 none := by rw [← hW7]; exact World.grownBy_alloc _ _ _
    have hr7 : W7.rowIs w6.heap.size 4 m (fun _ => .bool false) := by rw [← hW7]; exact hmc w6
    have G7 := gb_trans G6 g7
    have C7 := C6.kept g7 (by simp)
    have hl7 := rowIs_kept hl6 g7 (by simp)
    have hm7 := rowIs_kept hr6 g7 (by simp)
    have ll := hl6.lt
    have lm := hr6.lt
    have lc := C6.lt
    have lo := hr7.lt
    go_wp2
    go_loopw [11] (fun v wr => ∃ k : Nat, k ≤ m ∧ v = .int .i64 k ∧ (∃ F, wr.rowIs w6.heap.size 4 m F ∧ Hid (∀ j, j < k → F j = .bool ((fun a b => Bool.xor a b) (Pk.bitAt f j) (Pk.bitAt f' j)))) ∧ W7.grownBy wr (some w6.heap.size)) (fun v _ => m - (intOf v).toNat)
    case atStart => exact ⟨0, Nat.zero_le _, rfl, ⟨_, hr7, fun j hj => absurd hj (Nat.not_lt_zero _)⟩, World.grownBy.refl _ _⟩
    case round =>
      obtain ⟨k, hk, rfl, ⟨F, hR, HF⟩, hgk⟩ := hrel
      by_cases hlt : k < m
      · have hlt' : (k : Int) < (m : Int) := by omega
        have hlk := rowIs_kept hl7 hgk (fun e => by have := Option.some.inj e; omega)
        have hmk' := rowIs_kept hm7 hgk (fun e => by have := Option.some.inj e; omega)
        have v0 := hlk.cell (i := k) hlt
        have v1 := hmk'.cell (i := k) hlt
        have u0 := hR.cell (i := k) hlt
        have u1 := hR.frozen k
        obtain ⟨P, HP⟩ : ∃ P, Hid (Pk.bitAt f k = P) := ⟨_, rfl⟩
        obtain ⟨Q, HQ⟩ : ∃ Q, Hid (Pk.bitAt f' k = Q) := ⟨_, rfl⟩
        rw [HP.out] at v0
        rw [HQ.out] at v1
        go_wp2
        refine region_tail 12 mixed (by kernel_rfl) ?_
        simp only [List.take_succ_cons, List.take_zero, List.drop_succ_cons, List.drop_zero]
        repeat still_step
        refine wpStill_nil ?_
        go_wp2
        refine ⟨⟨k + 1, by omega, by go_num, ⟨_, World.rowIs.set hR k _, fun j hj => ?_⟩, gb_drew (gb_set hgk _ _)⟩, ?_⟩
        · by_cases e : j = k
          · rw [if_pos e, e, HP.out, HQ.out]; cases P <;> cases Q <;> rfl
          · rw [if_neg e]; exact HF.out j (by omega)
        · simp [intOf]; omega
      · have hlt' : ¬ (k : Int) < (m : Int) := by omega
        have Ck := C7.kept hgk (fun e => by have := Option.some.inj e; omega)
        have hbd : Bd wr (some ⟨w6.heap.size, 0, none⟩) m (fun q => (fun a b => Bool.xor a b) (Pk.bitAt f q) (Pk.bitAt f' q)) := full_bd hR (fun j hj => HF.out j (by omega)) (Nat.le_refl _)
        go_wp2_with (go_at_call 31; refine (hrow _ w6.heap.size hbd).mono ?_; rintro e w8 ⟨b8, rfl, hr8, g8, hb8⟩; have C8 := Ck.kept g8 (by simp); have z2 := C8.free0; have z3 := C8.free1; have z0 := C8.cell0; have z1 := C8.cell1)
        refine ret_box2 (g := W1.heap.size) (t := 25) rfl hfs infoR rfl (C8.set _ _) rfl ?_
        have sk := hgk.size
        have hne : b8 ≠ W1.heap.size := by omega
        have G := gb_past G7 hgk (by have := G6.size; omega)
        have hr9 := World.rowIs.setOther (World.rowIs.setOther hr8 (a := ⟨W1.heap.size, 0, none⟩) hne (.int .i64 m)) (a := ⟨W1.heap.size, 1, none⟩) hne (.slice (some ⟨b8, 0, none⟩) c c)
        have hg9 := gb_new (gb_new (gb_trans G g8) (a := ⟨W1.heap.size, 0, none⟩) q1 (.int .i64 m)) (a := ⟨W1.heap.size, 1, none⟩) q1 (.slice (some ⟨b8, 0, none⟩) c c)
        have s7 := G7.size
        rw [hcc.out] at hr9 hg9 ⊢
        exact made_ok hr9 hg9 (by omega)
  · rw [h1] at hva
    rw [h2] at hvb
    have hN' : ¬ N = N' := hN
    have hN2 : (N != N') = true := by simpa using hN
    unfold joinAns
    rw [if_neg (by rw [h1, h2]; simp), if_neg hN]
    clear h1 h2
    go_enter Try.func41, Try.ntmps41
    go_wp2_with (first | (go_at_call 17; (fail_if_success (guard_hyp g3)); refine (hva _ (ha.kept gg (by simp))).mono ?_; rintro e w3 ⟨rfl, g3⟩; have A3 := A2.kept g3 (by simp); have B3 := B2.kept g3 (by simp); have C3 := C2.kept g3 (by simp); have xa30 := A3.cell0; have xa31 := A3.cell1; have xb30 := B3.cell0; have xb31 := B3.cell1; have xc30 := C3.cell0; have xc31 := C3.cell1; have zc30 := C3.free0; have zc31 := C3.free1) | (go_at_call 17; guard_hyp g3; (fail_if_success (guard_hyp g4)); refine (hvb _ ((hb.kept gg (by simp)).kept g3 (by simp))).mono ?_; rintro e w4 ⟨rfl, g4⟩; have A4 := A3.kept g4 (by simp); have B4 := B3.kept g4 (by simp); have C4 := C3.kept g4 (by simp); have xa40 := A4.cell0; have xa41 := A4.cell1; have xb40 := B4.cell0; have xb41 := B4.cell1; have xc40 := C4.cell0; have xc41 := C4.cell1; have zc40 := C4.free0; have zc41 := C4.free1; have G4 := gb_trans gg (gb_trans g3 g4); clear xa30 xa31 xb30 xb31 xc30 xc31 zc30 zc31))
    refine ret_box2 (g := W1.heap.size) (t := 25) rfl hfs infoR rfl (C4.set _ _) rfl ?_
    exact made_bad 21 (gb_new (gb_new G4 q1 _) q1 _)
end Go.Proofs.Ytcdefpfnjjahgaa
