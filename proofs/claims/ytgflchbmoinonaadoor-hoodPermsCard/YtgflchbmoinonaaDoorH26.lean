/- HoodPerms: the walk. -/
import Derived.Test.YtgflchbmoinonaaDoorH25
namespace Go.Proofs.YtgflchbmoinonaaDoor
open Go.RowKit
open Fl
set_option linter.unusedVariables false
set_option linter.unusedSimpArgs false
set_option maxRecDepth 100000

set_option maxHeartbeats 1000000 in
theorem perms_walk (h : Int) (q : Int) (w : World) (h0 : 0 ≤ h) (h1 : h ≤ 255) (hv : Hid (Hv w)) : Calls Tryd.prog 5 #[.int .u8 h, .int .i64 q] w fun e w' => e = .returned (.bool true) ∧ w.grownBy w' none := by
  obtain ⟨nP, FP, ok, er, hP8, hP, hRP⟩ := permAll h h0 h1 q
  obtain ⟨nT, FT, et, hT8, hT, hRT⟩ := partsAll h h0 h1
  have gg0 := World.grownBy.refl w none
  go_enter Tryd.func5, Tryd.ntmps5
  go_wp2_with (first | (go_at_call 18; guard_hyp gg0; (fail_if_success (guard_hyp gg1)); refine (hRP _).mono ?_; rintro e y1 ⟨vwa, rfl, Lwa1, g1⟩; have gg1 := gb_trans gg0 g1) | (go_at_call 19; guard_hyp gg1; (fail_if_success (guard_hyp gg2)); refine (hRT _).mono ?_; rintro e y2 ⟨vpa, rfl, Lpa2, g2⟩; have gg2 := gb_trans gg1 g2; have Lwa2 := Lwa1.kept g2 (by simp)) | (go_at_call 10; guard_hyp gg2; (fail_if_success (guard_hyp gg3)); refine (hP _ (hvK hv gg2)).mono ?_; rintro e y3 ⟨va, rfl, La3, g3⟩; have gg3 := gb_trans gg2 g3; have Lwa3 := Lwa2.kept g3 (by simp); have Lpa3 := Lpa2.kept g3 (by simp)) | (go_at_call 10; guard_hyp gg3; (fail_if_success (guard_hyp gg4)); refine (hP _ (hvK hv gg3)).mono ?_; rintro e y4 ⟨vb, rfl, Lb4, g4⟩; have gg4 := gb_trans gg3 g4; have Lwa4 := Lwa3.kept g4 (by simp); have Lpa4 := Lpa3.kept g4 (by simp); have La4 := La3.kept g4 (by simp)) | (go_at_call 11; guard_hyp gg4; (fail_if_success (guard_hyp gg5)); refine (hT _ (hvK hv gg4)).mono ?_; rintro e y5 ⟨vc, rfl, Lc5, g5⟩; have gg5 := gb_trans gg4 g5; have Lwa5 := Lwa4.kept g5 (by simp); have Lpa5 := Lpa4.kept g5 (by simp); have La5 := La4.kept g5 (by simp); have Lb5 := Lb4.kept g5 (by simp)) | (go_at_call 11; guard_hyp gg5; (fail_if_success (guard_hyp gg6)); refine (hT _ (hvK hv gg5)).mono ?_; rintro e y6 ⟨vd, rfl, Ld6, g6⟩; have gg6 := gb_trans gg5 g6; have Lwa6 := Lwa5.kept g6 (by simp); have Lpa6 := Lpa5.kept g6 (by simp); have La6 := La5.kept g6 (by simp); have Lb6 := Lb5.kept g6 (by simp); have Lc6 := Lc5.kept g6 (by simp); have hh6 := World.grownBy.refl y6 none; obtain ⟨swa, cwa, rfl, Rwa⟩ := Lwa6.rd; obtain ⟨spa, cpa, rfl, Rpa⟩ := Lpa6.rd; obtain ⟨sa, ca, rfl, Ra⟩ := La6.rd; obtain ⟨sb, cb, rfl, Rb⟩ := Lb6.rd; obtain ⟨sc, cc, rfl, Rc⟩ := Lc6.rd; obtain ⟨sd, cd, rfl, Rd⟩ := Ld6.rd) | (go_at_call 13; guard_hyp gg6; (fail_if_success (guard_hyp gg7)); refine (sameI nP ca cwa sa swa FP FP (by omega) (fun _ _ => rfl) _ (Ra.kept hh6 (by simp)) (Rwa.kept hh6 (by simp))).mono ?_; rintro e y7 ⟨rfl, g7⟩; have gg7 := gb_trans gg6 g7; have hh7 := gb_trans hh6 g7) | (go_at_call 13; guard_hyp gg7; (fail_if_success (guard_hyp gg8)); refine (sameI nP cb cwa sb swa FP FP (by omega) (fun _ _ => rfl) _ (Rb.kept hh7 (by simp)) (Rwa.kept hh7 (by simp))).mono ?_; rintro e y8 ⟨rfl, g8⟩; have gg8 := gb_trans gg7 g8; have hh8 := gb_trans hh7 g8) | (go_at_call 13; guard_hyp gg8; (fail_if_success (guard_hyp gg9)); refine (sameI nT cc cpa sc spa FT FT (by omega) (fun _ _ => rfl) _ (Rc.kept hh8 (by simp)) (Rpa.kept hh8 (by simp))).mono ?_; rintro e y9 ⟨rfl, g9⟩; have gg9 := gb_trans gg8 g9; have hh9 := gb_trans hh8 g9) | (go_at_call 13; guard_hyp gg9; (fail_if_success (guard_hyp gg10)); refine (sameI nT cd cpa sd spa FT FT (by omega) (fun _ _ => rfl) _ (Rd.kept hh9 (by simp)) (Rpa.kept hh9 (by simp))).mono ?_; rintro e y10 ⟨rfl, g10⟩; have gg10 := gb_trans gg9 g10; have hh10 := gb_trans hh9 g10))
  obtain ⟨V, hV⟩ : ∃ V : Nat → Value, V = fun m => if m = 0 then .slice sa nP ca else if m = 1 then .slice sb nP cb else if m = 2 then .slice sc nT cc else .slice sd nT cd := ⟨_, rfl⟩
  obtain ⟨Nn, hN⟩ : ∃ Nn : Nat → Nat, Nn = fun m => if m < 2 then nP else nT := ⟨_, rfl⟩
  obtain ⟨Z, hZ⟩ : ∃ Z, y10.alloc (.cells #[.slice sa nP ca, .slice sb nP cb, .slice sc nT cc, .slice sd nT cd] 25) = Z := ⟨_, rfl⟩
  rw [hZ]
  have gZ : y10.grownBy Z none := by rw [← hZ]; exact World.grownBy_alloc _ _ _
  have kZ := gb_trans hh10 gZ
  have sZ : y10.heap.size < Z.heap.size := by rw [← hZ]; simp
  have SV : Sv Z y2.heap.size y10.heap.size V Nn (fun m => if m < 2 then FP else FT) := by
    have z3 := g3.size
    have z4 := g4.size
    have z5 := g5.size
    have z6 := g6.size
    have z10 := hh10.size
    have A1 := (La6.kept kZ (by simp))
    have A2 := (Lb6.kept kZ (by simp))
    have A3 := (Lc6.kept kZ (by simp))
    have A4 := (Ld6.kept kZ (by simp))
    have lo := fun {bs : Nat} {v : Value} {n : Nat} {F : Nat → Int} (h : Lst Z bs v n F) (hb : y2.heap.size ≤ bs) => (show Lst Z y2.heap.size v n F from h.imp id fun ⟨ga, t, c0, cs, e, h1, r⟩ => ⟨ga, t, c0, cs, e, Nat.le_trans hb h1, r⟩)
    have B1 := fun b e => La3.lt b e
    have B2 := fun b e => Lb4.lt b e
    have B3 := fun b e => Lc5.lt b e
    have B4 := fun b e => Ld6.lt b e
    refine ⟨by rw [← hZ, hV]; exact Bo.new _ _ _, fun m hm => ?_⟩
    have hcase : m = 0 ∨ m = 1 ∨ m = 2 ∨ m = 3 := by omega
    have dis : ∀ m', m' < 4 → ∀ b, (V m').ownBlock = some b → (m' = 0 → y2.heap.size ≤ b ∧ b < y3.heap.size) ∧ (m' = 1 → y3.heap.size ≤ b ∧ b < y4.heap.size) ∧ (m' = 2 → y4.heap.size ≤ b ∧ b < y5.heap.size) ∧ (m' = 3 → y5.heap.size ≤ b ∧ b < y6.heap.size) := fun m' _ b e => by
      rw [hV] at e
      exact ⟨fun h0 => by subst h0; exact B1 b e, fun h0 => by subst h0; exact B2 b e, fun h0 => by subst h0; exact B3 b e, fun h0 => by subst h0; exact B4 b e⟩
    refine ⟨?_, fun e => ?_, fun m' hm' hne b e e' => ?_⟩
    · rcases hcase with rfl | rfl | rfl | rfl
      · rw [hV, hN]; exact A1
      · rw [hV, hN]; exact lo A2 (by omega)
      · rw [hV, hN]; exact lo A3 (by omega)
      · rw [hV, hN]; exact lo A4 (by omega)
    · have := dis m hm _ e
      omega
    · have d1 := dis m hm _ e
      have d2 := dis m' hm' _ e'
      omega
  have GZ : y2.grownBy Z none := gb_trans g3 (gb_trans g4 (gb_trans g5 (gb_trans g6 kZ)))
  have hN8 : ∀ m, Nn m ≤ 8 := fun m => by rw [hN]; dsimp only; split <;> omega
  clear hV hN hZ La3 La4 La5 Lb4 Lb5 Lc5 Lwa3 Lwa4 Lwa5 Lpa3 Lpa4 Lpa5
  go_loopw [21] (fun x wr => ∃ (m : Nat) (G : Nat → Nat → Int), m ≤ 4 ∧ x = .int .i64 m ∧ Sv wr y2.heap.size y10.heap.size V Nn G ∧ (∀ a, a < m → ∀ j, j < Nn a → G a j = 100 * (a : Int) + j + 50) ∧ y2.grownBy wr none) (fun x _ => 4 - (intOf x).toNat)
  case atStart => exact ⟨0, _, by omega, rfl, SV, fun a ha => by omega, GZ⟩
  case round =>
    obtain ⟨m, G, hm, rfl, sv, hG, gr⟩ := hrel
    by_cases hlt : m < 4
    · have hlt' : (m : Int) < 4 := by omega
      have hnn : (0 : Int) ≤ (m : Int) := by omega
      have c0 := sv.all hlt
      obtain ⟨s', c', eV, _⟩ := (sv.2 m hlt).1.rd
      rw [eV] at c0
      go_wp2
      go_loopw [22] (fun x wi => ∃ (k : Nat) (G : Nat → Nat → Int), k ≤ Nn m ∧ x = .int .i64 k ∧ Sv wi y2.heap.size y10.heap.size V Nn G ∧ (∀ a, a < m → ∀ j, j < Nn a → G a j = 100 * (a : Int) + j + 50) ∧ (∀ j, j < k → G m j = 100 * (m : Int) + j + 50) ∧ y2.grownBy wi none) (fun x _ => Nn m - (intOf x).toNat)
      case atStart => exact ⟨0, _, by omega, rfl, sv, hG, fun j hj => by omega, gr⟩
      case round =>
        clear c0 sv hG gr
        obtain ⟨k, G, hk, rfl, sv, hG, hGm, gr⟩ := hrel
        have c0 := sv.all hlt
        rw [eV] at c0
        by_cases hkl : k < Nn m
        · have hkl' : (k : Int) < (Nn m : Int) := by omega
          have hkn : (0 : Int) ≤ (k : Int) := by omega
          have h8 := hN8 m
          have hw1 : IntKind.i64.wrap (100 * (m : Int)) = 100 * (m : Int) := by rw [IntKind.wrap_i64]; omega
          have hw2 : IntKind.i64.wrap (100 * (m : Int) + (k : Int)) = 100 * (m : Int) + (k : Int) := by rw [IntKind.wrap_i64]; omega
          have hw3 : IntKind.i64.wrap (100 * (m : Int) + (k : Int) + 50) = 100 * (m : Int) + (k : Int) + 50 := by rw [IntKind.wrap_i64]; omega
          obtain ⟨ga, c, eV2, hb, k0, f0, put⟩ := sv.put hlt hkl
          have e3 : Value.slice s' (Nn m) c' = .slice (some ⟨ga, 0, none⟩) (Nn m) c := eV.symm.trans eV2
          injection e3 with e4 _ e5
          subst e4 e5
          have put := put (100 * (m : Int) + (k : Int) + 50)
          go_wp2
          refine ⟨⟨k + 1, _, by omega, by go_num, put, fun a ha j hj => ?_, fun j hj => ?_, gb_new gr hb _⟩, by simp [intOf]; omega⟩
          · rw [if_neg (fun h => by omega)]
            exact hG a ha j hj
          · by_cases e : j = k
            · subst e
              rw [if_pos ⟨rfl, rfl⟩]
            · rw [if_neg (fun h => e h.2)]
              exact hGm j (by omega)
        · have hkl' : ¬ (k : Int) < (Nn m : Int) := by omega
          go_wp2
          refine ⟨⟨m + 1, G, by omega, by go_num, sv, fun a ha j hj => ?_, gr⟩, by simp [intOf]; omega⟩
          by_cases e : a = m
          · subst e
            exact hGm j (by omega)
          · exact hG a (by omega) j hj
    · have hlt' : ¬ (m : Int) < 4 := by omega
      have G0 := Gw.start sv (fun a ha j hj => hG a (by omega) j hj)
      clear hG sv
      go_wp2
      clear hlt' hlt
      go_loopw [23, 24] (fun vg x w2 => ∃ (m : Nat) (U : Nat → Value) (vh : Value), m ≤ 4 ∧ vh = vg ∧ x = .int .i64 m ∧ Gw w2 y2.heap.size y10.heap.size V U Nn vh m 0 ∧ y2.grownBy w2 none) (fun _ x _ => 4 - (intOf x).toNat)
      case atStart => exact ⟨0, V, _, by omega, rfl, rfl, G0, gr⟩
      case round =>
        clear G0 gr
        obtain ⟨m, U, vg, hm, rfl, rfl, gw, gr⟩ := hrel
        by_cases hlt : m < 4
        · have hlt' : (m : Int) < 4 := by omega
          have hnn : (0 : Int) ≤ (m : Int) := by omega
          have eU : U m = V m := gw.2.2.2.1 m (II_self m 0)
          have c0 : wr.cell? ⟨y10.heap.size, m, none⟩ = some (U m) := by rw [eU]; exact gw.all hlt
          go_wp2
          go_loopw [25, 26] (fun g x wi => ∃ (k : Nat) (U : Nat → Value), k ≤ 12 ∧ U m = g ∧ x = .int .i64 k ∧ Gw wi y2.heap.size y10.heap.size V U Nn vg m k ∧ y2.grownBy wi none) (fun _ x _ => 12 - (intOf x).toNat)
          case atStart => exact ⟨0, U, by omega, by first | exact eU | rfl, rfl, gw, gr⟩
          case round =>
            clear c0 gw gr eU
            obtain ⟨k, U, hk, rfl, rfl, gw, gr⟩ := hrel
            by_cases hkl : k < 12
            · have hkl' : (k : Int) < 12 := by omega
              have hw1 : IntKind.i64.wrap (1000 * (m : Int)) = 1000 * (m : Int) := by rw [IntKind.wrap_i64]; omega
              have hw2 : IntKind.i64.wrap (1000 * (m : Int) + (k : Int)) = 1000 * (m : Int) + (k : Int) := by rw [IntKind.wrap_i64]; omega
              have hw3 : IntKind.i64.wrap (1000 * (m : Int) + (k : Int) + 500) = 1000 * (m : Int) + (k : Int) + 500 := by rw [IntKind.wrap_i64]; omega
              obtain ⟨X, hX, szX, gX, BX⟩ := boxn wr #[.int .i64 (1000 * (m : Int) + (k : Int) + 500)] 3
              have x0 := BX.cell 0 (v := .int .i64 (1000 * (m : Int) + (k : Int) + 500)) rfl
              have gwX := gw.kept gX
              have GX := gb_trans gr gX
              have hbX : y2.heap.size ≤ X.heap.size := GX.size
              have pX := (gwX.2.2.2.2 m hlt).1
              rw [II_self] at pX
              go_wp2_with (at_builtin; refine wp_pr rfl _ _ rfl y2.heap.size y2.heap.size (Nn m) k (V m) (U m) (100 * (m : Int) + 50) (1000 * (m : Int) + 500) pX hbX (by omega) (hN8 m) wr.heap.size rfl rfl (1000 * (m : Int) + (k : Int) + 500) (by omega) x0 ?_; intro v' w' p' g' hblk)
              refine ⟨⟨k + 1, upV U m v', by omega, upV_self _ _ _, by go_num, gwX.step hlt g' p' hblk, gb_rowG GX g' (fun i e => (gwX.lt hlt (.inr e)).1)⟩, by simp [intOf]; omega⟩
            · have hkl' : ¬ (k : Int) < 12 := by omega
              obtain rfl : k = 12 := by omega
              obtain ⟨s2, k2, e2, _⟩ := ((gw.2.2.2.2 m hlt).1.end (Nat.le_refl _)).2.rd
              rw [e2]
              obtain ⟨X, hX, szX, gX, BX⟩ := boxn wr #[.slice s2 (Nn m + II m 12 m) k2] 25
              have x0 := BX.cell 0 (v := .slice s2 (Nn m + II m 12 m) k2) rfl
              rw [← e2] at x0
              have e2' : Hid (U m = .slice s2 (Nn m + II m 12 m) k2) := e2
              clear e2
              generalize Nn m + II m 12 m = n12 at hX BX e2' ⊢
              have gwX := gw.kept gX
              have GX := gb_trans gr gX
              have hbX : y2.heap.size ≤ X.heap.size := GX.size
              go_wp2_with (at_builtin; refine wp_push rfl _ _ rfl y2.heap.size y10.heap.size V U Nn vg m gwX hlt hbX wr.heap.size rfl rfl x0 ?_; intro v' w' gw' g' hlo)
              refine ⟨⟨m + 1, U, v', by omega, rfl, by go_num, gw', gb_rowG GX g' hlo⟩, by simp [intOf]; omega⟩
        · have hlt' : ¬ (m : Int) < 4 := by omega
          obtain rfl : m = 4 := by omega
          obtain ⟨gg, cap, rfl, _⟩ := gw.read
          obtain ⟨WW, hWW⟩ : ∃ W, wr = W := ⟨_, rfl⟩
          rw [hWW] at gw gr ⊢
          have RD : ∀ w3, WW.grownBy w3 none → ∀ a, a < 4 → w3.cell? ⟨y10.heap.size, a, none⟩ = some (V a) ∧ w3.cell? ⟨gg, a, none⟩ = some (U a) ∧ Lst w3 y2.heap.size (V a) (Nn a) (fun j => 100 * (a : Int) + 50 + (j : Int)) ∧ Lst w3 y2.heap.size (U a) (Nn a + 12) (fun j => if j < Nn a then 100 * (a : Int) + 50 + (j : Int) else 1000 * (a : Int) + 500 + ((j - Nn a : Nat) : Int)) := fun w3 g => by
            obtain ⟨gg', cap', e, r⟩ := (gw.kept g).read
            injection e with e1 _ _
            injection e1 with e1
            injection e1 with e1
            subst e1
            exact r
          have RW := World.grownBy.refl WW none
          clear gw
          go_wp2
          clear hlt' hlt
          go_loopw [27] (fun x w3 => ∃ m : Nat, m ≤ 4 ∧ x = .int .i64 m ∧ WW.grownBy w3 none) (fun x _ => 4 - (intOf x).toNat)
          case atStart => exact ⟨0, by omega, rfl, RW⟩
          case round =>
            obtain ⟨m, hm, rfl, hg3⟩ := hrel
            by_cases hlt : m < 4
            · have hlt' : (m : Int) < 4 := by omega
              have hnn : (0 : Int) ≤ (m : Int) := by omega
              obtain ⟨c0, c1, l1, l2⟩ := RD _ hg3 m hlt
              obtain ⟨s1, k1, e1, _⟩ := l1.rd
              obtain ⟨s2, k2, e2, _⟩ := l2.rd
              rw [e1] at c0 l1
              rw [e2] at c1 l2
              have h8 := hN8 m
              go_wp2
              go_loopw [29] (fun x w4 => ∃ k : Nat, k ≤ Nn m ∧ x = .int .i64 k ∧ WW.grownBy w4 none) (fun x _ => Nn m - (intOf x).toNat)
              case atStart => exact ⟨0, by omega, rfl, hg3⟩
              case round =>
                obtain ⟨k, hk, rfl, hg4⟩ := hrel
                clear c0 c1 l1 l2 hg3
                obtain ⟨c0, c1, l1, l2⟩ := RD _ hg4 m hlt
                rw [e1] at c0 l1
                rw [e2] at c1 l2
                by_cases hkl : k < Nn m
                · have hkl' : (k : Int) < (Nn m : Int) := by omega
                  have hkl2 : (k : Int) < (Nn m : Int) + 12 := by omega
                  have hkn : (0 : Int) ≤ (k : Int) := by omega
                  obtain ⟨ga, ca, ea, da⟩ := l1.at hkl
                  obtain ⟨gb, cb, eb, db⟩ := l2.at (k := k) (by omega)
                  injection ea with ea _ ea'
                  subst ea ea'
                  injection eb with eb _ eb'
                  subst eb eb'
                  try dsimp only at da db
                  rw [if_pos hkl] at db
                  rw [show 100 * (m : Int) + 50 + (k : Int) = 100 * (m : Int) + (k : Int) + 50 by omega] at da db
                  have hw1 : IntKind.i64.wrap (100 * (m : Int)) = 100 * (m : Int) := by rw [IntKind.wrap_i64]; omega
                  have hw2 : IntKind.i64.wrap (100 * (m : Int) + (k : Int)) = 100 * (m : Int) + (k : Int) := by rw [IntKind.wrap_i64]; omega
                  have hw3 : IntKind.i64.wrap (100 * (m : Int) + (k : Int) + 50) = 100 * (m : Int) + (k : Int) + 50 := by rw [IntKind.wrap_i64]; omega
                  clear RD
                  go_wp2
                  try (go_quiet (fail); go_wp2)
                  refine ⟨⟨k + 1, by omega, by go_num, by first | exact hg4 | exact gb_drewN hg4 _⟩, by simp [intOf]; omega⟩
                · have hkl' : ¬ (k : Int) < (Nn m : Int) := by omega
                  go_wp2
                  clear hkl
                  go_loopw [30] (fun x w4 => ∃ k : Nat, k ≤ 12 ∧ x = .int .i64 k ∧ WW.grownBy w4 none) (fun x _ => 12 - (intOf x).toNat)
                  case atStart => exact ⟨0, by omega, rfl, hg4⟩
                  case round =>
                    clear hkl'
                    clear c0 c1 l1 l2 hg4
                    obtain ⟨k, hk, rfl, hg4⟩ := hrel
                    obtain ⟨c0, c1, l1, l2⟩ := RD _ hg4 m hlt
                    rw [e1] at c0 l1
                    rw [e2] at c1 l2
                    by_cases hkl : k < 12
                    · have hkl' : (k : Int) < 12 := by omega
                      have hkl2 : ((Nn m + k : Nat) : Int) < (Nn m : Int) + 12 := by omega
                      have hkn : (0 : Int) ≤ ((Nn m + k : Nat) : Int) := by omega
                      obtain ⟨gb, cb, eb, db⟩ := l2.at (k := Nn m + k) (by omega)
                      injection eb with eb _ eb'
                      subst eb eb'
                      try dsimp only at db
                      rw [if_neg (by omega), Nat.add_sub_cancel_left, show 1000 * (m : Int) + 500 + (k : Int) = 1000 * (m : Int) + (k : Int) + 500 by omega] at db
                      have hw0 : IntKind.i64.wrap ((Nn m : Int) + (k : Int)) = ((Nn m + k : Nat) : Int) := by rw [IntKind.wrap_i64]; omega
                      have hw1 : IntKind.i64.wrap (1000 * (m : Int)) = 1000 * (m : Int) := by rw [IntKind.wrap_i64]; omega
                      have hw2 : IntKind.i64.wrap (1000 * (m : Int) + (k : Int)) = 1000 * (m : Int) + (k : Int) := by rw [IntKind.wrap_i64]; omega
                      have hw3 : IntKind.i64.wrap (1000 * (m : Int) + (k : Int) + 500) = 1000 * (m : Int) + (k : Int) + 500 := by rw [IntKind.wrap_i64]; omega
                      generalize hq : Nn m + k = q at hw0 db hkl2 hkn
                      clear RD
                      go_wp2
                      try (go_quiet (fail); go_wp2)
                      refine ⟨⟨k + 1, by omega, by go_num, by first | exact hg4 | exact gb_drewN hg4 _⟩, by simp [intOf]; omega⟩
                    · have hkl' : ¬ (k : Int) < 12 := by omega
                      go_wp2
                      refine ⟨⟨m + 1, by omega, by go_num, hg4⟩, by simp [intOf]; omega⟩
            · have hlt' : ¬ (m : Int) < 4 := by omega
              have gr := gb_trans gr hg3
              have GW := gb_trans gg2 gr
              go_wp2_with (first | (go_at_call 10; (fail_if_success (guard_hyp g11)); refine (hP _ (hvK hv GW)).mono ?_; rintro e y11 ⟨vx, rfl, Lx, g11⟩; have GW1 := gb_trans GW g11) | (go_at_call 11; guard_hyp g11; (fail_if_success (guard_hyp g12)); refine (hT y11 (hvK hv GW1)).mono ?_; rintro e y12 ⟨vy, rfl, Ly, g12⟩; have GW2 := gb_trans GW1 g12; have k12 := gb_trans gr (gb_trans g11 g12); obtain ⟨sx, cx_, rfl, Rx⟩ := (Lx.kept g12 (by simp)).rd; obtain ⟨sy, cy_, rfl, Ry⟩ := Ly.rd; have Rwz := (Lwa2.kept k12 (by simp)).rdOf; have Rpz := (Lpa2.kept k12 (by simp)).rdOf) | (go_at_call 13; guard_hyp g12; (fail_if_success (guard_hyp g13)); refine (sameI nP cx_ cwa sx swa FP FP (by omega) (fun _ _ => rfl) _ Rx Rwz).mono ?_; rintro e y13 ⟨rfl, g13⟩; have Ry3 := Ry.kept g13 (by simp); have Rpz3 := Rpz.kept g13 (by simp)) | (go_at_call 13; guard_hyp g13; (fail_if_success (guard_hyp g14)); refine (sameI nT cy_ cpa sy spa FT FT (by omega) (fun _ _ => rfl) _ Ry3 Rpz3).mono ?_; rintro e y14 ⟨rfl, g14⟩))
              go_ret
              exact ⟨rfl, gb_trans GW2 (gb_trans g13 g14)⟩
end Go.Proofs.YtgflchbmoinonaaDoor
