/- The document's ahead, turned. -/
import Derived.Test.YtijjbejilpglnaaGreatN35
namespace Go.Proofs.YtijjbejilpglnaaGreat
open Go.RowKit
set_option linter.unusedVariables false
set_option linter.unusedSimpArgs false
set_option maxRecDepth 100000

namespace Ln
/-- Ahead by rows. -/
def ahB (x y : Pt) : Bool := decide (x.2 < y.2) || (decide (x.2 = y.2) && decide (x.1 < y.1))
theorem aheadC (a b c d : Int) (w : World) : Calls Tryz.prog 54 #[.agg #[.int .i64 a, .int .i64 b], .agg #[.int .i64 c, .int .i64 d]] w fun e w' => e = .returned (.bool (ahB (a, b) (c, d))) ∧ w.grownBy w' none := by
  obtain ⟨W1, hW1, sz1, g1, B1⟩ := boxn w #[.int .i64 a, .int .i64 b] 25
  obtain ⟨W2, hW2, sz2, g2, B2⟩ := boxn W1 #[.int .i64 c, .int .i64 d] 25
  have B12 := B1.kept g2 (by simp)
  have c0 := B12.cell 0 (v := .int .i64 a) rfl
  have c1 := B12.cell 1 (v := .int .i64 b) rfl
  have d0 := B2.cell 0 (v := .int .i64 c) rfl
  have d1 := B2.cell 1 (v := .int .i64 d) rfl
  have HG : Hid (w.grownBy W2 none) := gb_trans g1 g2
  unfold ahB
  simp only
  by_cases h1 : b < d
  · go_enter Tryz.func54, Tryz.ntmps54
    go_wp2
    go_ret
    exact ⟨by simp [h1], HG.out⟩
  · by_cases h2 : b = d
    · subst h2
      have h3 : (b == b) = true := by simp
      go_enter Tryz.func54, Tryz.ntmps54
      go_wp2
      go_ret
      exact ⟨by simp, HG.out⟩
    · have h3 : (b == d) = false := by simp [h2]
      go_enter Tryz.func54, Tryz.ntmps54
      go_wp2
      go_ret
      exact ⟨by simp [h1, h2], HG.out⟩
/-- A list by rows, a place put in or taken out. -/
def tnL : List Pt → Pt → List Pt
  | [], p => [p]
  | q :: L, p => if ahB q p = true then q :: tnL L p else if q = p then L else p :: q :: L
theorem drop_psL (f : Nat → Pt) (n i : Nat) (h : i < n) : (psL f n).drop i = f i :: (psL f n).drop (i + 1) := by
  have hl : i < (psL f n).length := by rw [psL_len]; exact h
  rw [List.drop_eq_getElem_cons hl]
  congr 1
  simp [psL]
set_option maxHeartbeats 4000000 in
theorem turnedC (sp : Option Addr) (n c : Nat) (f : Nat → Pt) (hn : n < 1000000) (a b : Int) (w : World) (H : Pl w sp n f) :
    Calls Tryz.prog 32 #[.slice sp n c, .agg #[.int .i64 a, .int .i64 b]] w fun e w' => ∃ v, e = .returned v ∧ w'.ownsRow w.heap.size 25 2 v (tnL (psL f n) (a, b)).length (fl (tnL (psL f n) (a, b))) ∧ w.grownBy w' none := by
  obtain ⟨i0, HI⟩ : ∃ i, Hid (Tryz.prog.info? 25 = some i ∧ i.zero = some (.agg #[.int .i64 0, .int .i64 0]) ∧ i.size = 2 ∧ i.bytes = 16) := by
    obtain ⟨i, h1, h2, h3, h4⟩ := info_parts infoK
    exact ⟨i, h1, h2, h3, h4⟩
  obtain ⟨W1, hW1, sz1, g1, B1⟩ := boxn w #[.int .i64 a, .int .i64 b] 25
  obtain ⟨T, hT⟩ : ∃ T, tnL (psL f n) (a, b) = T := ⟨_, rfl⟩
  have HT : Hid (tnL (psL f n) (a, b) = T) := hT
  rw [hT]
  clear hT
  have s1 := B1.lt
  go_enter Tryz.func32, Tryz.ntmps32
  go_wp2
  go_loopw [5, 6, 7] (fun u d v wr => ∃ (i nO : Nat) (ov : Value) (O : List Pt) (dn : Bool), i ≤ n ∧ u = ov ∧ d = .bool dn ∧ v = .int .i64 i ∧ Hid (O.length = nO) ∧ nO ≤ i + 1 ∧ Hid (dn = false → nO ≤ i) ∧ wr.ownsRow W1.heap.size 25 2 ov nO (fl O) ∧ Hid (O ++ (if dn = true then (psL f n).drop i else tnL ((psL f n).drop i) (a, b)) = T) ∧ W1.grownBy wr none) (fun _ _ v _ => n - (intOf v).toNat)
  case atStart => exact ⟨0, 0, _, [], false, Nat.zero_le _, rfl, rfl, rfl, rfl, by omega, (fun _ => Nat.zero_le _), World.ownsRow_nil _ _ _ _, HT.out, World.grownBy.refl _ _⟩
  case round =>
    obtain ⟨i, nO, ov, O, dn, hi, hov, rfl, rfl, HO, hnO, HNI, own, HR, gi⟩ := hrel
    subst hov
    have Bi := B1.kept gi (by simp)
    have p0 := Bi.cell 0 (v := .int .i64 a) rfl
    have p1 := Bi.cell 1 (v := .int .i64 b) rfl
    by_cases hlt : i < n
    · have hlt' : (i : Int) < (n : Int) := by omega
      have hst := HR.out
      rw [drop_psL f n i hlt] at hst
      obtain ⟨q, o, rfl, c0, c1⟩ := ((H.kept g1 (by simp)).kept gi (by simp)) i hlt
      obtain ⟨fp, hfp⟩ : ∃ fp, f i = fp := ⟨_, rfl⟩
      rw [hfp] at c0 c1 hst
      clear hfp
      obtain ⟨x, y⟩ := fp
      simp only at c0 c1
      obtain ⟨R, hR⟩ : ∃ R, (psL f n).drop (i + 1) = R := ⟨_, rfl⟩
      have HRR : Hid ((psL f n).drop (i + 1) = R) := hR
      rw [hR] at hst
      clear hR HR
      have HST : Hid (O ++ (if dn = true then (x, y) :: R else tnL ((x, y) :: R) (a, b)) = T) := hst
      clear hst
      cases dn with
      | true =>
        have HX : Hid (fl O ++ [.int .i64 x, .int .i64 y] = fl (O ++ [(x, y)])) := by unfold Hid; rw [fl_app]; rfl
        have HS1 : Hid ((O ++ [(x, y)]) ++ (if true = true then (psL f n).drop (i + 1) else tnL ((psL f n).drop (i + 1)) (a, b)) = T) := by
          have := HST.out
          rw [if_pos rfl] at this
          unfold Hid
          rw [if_pos rfl, HRR.out, List.append_assoc]
          exact this
        clear HST
        go_wp2
        go_quiet (fail)
        have gd := gb_drewN (World.grownBy.refl wr none) nq
        have v0 := gd.cell c0 (by simp)
        have v1 := gd.cell c1 (by simp)
        have ownd := own.kept gd (Classical.em _)
        generalize wr.drewN nq = wd at gd v0 v1 ownd ⊢
        obtain ⟨W3, hW3⟩ : ∃ W3, wd.alloc (.cells #[.int .i64 x, .int .i64 y] 25) = W3 := ⟨_, rfl⟩
        have g3 : wd.grownBy W3 none := (by rw [← hW3]; exact World.grownBy_alloc _ _ _)
        have nX : ∀ l u, [Value.int .i64 x, .int .i64 y][l]? = some u → W3.cell? ((⟨wd.heap.size, 0, none⟩ : Addr).add l) = some u := by rw [← hW3]; exact World.news_of_block (heap_alloc_new _ _)
        have own3 := ownd.kept g3 (Classical.em _)
        have hb3 : W1.heap.size ≤ W3.heap.size := (gb_trans gi (gb_trans gd g3)).size
        have how := fun gg e => own3.lt gg e
        clear own ownd
        go_wp2_with (first | (at_builtin; refine wpList_append_lies _ rfl _ _ 23 rfl W1.heap.size 25 i0 (.agg #[.int .i64 0, .int .i64 0]) 2 16 underPS HI.out.1 HI.out.2.1 HI.out.2.2.1 HI.out.2.2.2 rfl (by decide) _ nO _ rfl own3 ⟨wd.heap.size, 0, none⟩ 1 1 [.int .i64 x, .int .i64 y] rfl rfl nX (by intro u hu; simp at hu; rcases hu with rfl | rfl <;> rfl) (by decide) (by unfold maxLen; omega) (by omega) hb3 _ rfl ?_; intro g6 c6 w6 own6 gg6 at6 lt6) | go_in)
        go_roundw
        case rel => exact ⟨i + 1, nO + 1, _, O ++ [(x, y)], true, by omega, rfl, rfl, by go_num, by unfold Hid; rw [List.length_append, HO.out]; rfl, by omega, (fun e => by cases e), by rw [← HX.out]; exact own6, HS1.out, (gb_trans gi (gb_trans gd g3)).andThen gg6 (fun j hj => .inl (how j hj).1)⟩
        case measure => simp [intOf]; omega
      | false =>
        have kA := fun w1 => aheadC x y a b w1
        obtain ⟨t, ht⟩ : ∃ t, ahB (x, y) (a, b) = t := ⟨_, rfl⟩
        have HA : Hid (ahB (x, y) (a, b) = t) := ht
        rw [ht] at kA
        clear ht
        have gdr : wr.grownBy wr.drew none := gb_drew (World.grownBy.refl wr none)
        have Bd := Bi.kept gdr (by simp)
        have r0 := Bd.cell 0 (v := .int .i64 a) rfl
        have r1 := Bd.cell 1 (v := .int .i64 b) rfl
        have e0 := gdr.cell c0 (by simp)
        have e1 := gdr.cell c1 (by simp)
        have ownr := own.kept gdr (Classical.em _)
        have gir := gb_trans gi gdr
        cases t with
        | true =>
          have HX : Hid (fl O ++ [.int .i64 x, .int .i64 y] = fl (O ++ [(x, y)])) := by unfold Hid; rw [fl_app]; rfl
          have HS1 : Hid ((O ++ [(x, y)]) ++ (if false = true then (psL f n).drop (i + 1) else tnL ((psL f n).drop (i + 1)) (a, b)) = T) := by
            have := HST.out
            rw [if_neg (by simp)] at this
            unfold tnL at this
            rw [if_pos HA.out] at this
            unfold Hid
            rw [if_neg (by simp), HRR.out, List.append_assoc]
            exact this
          clear HST HA
          go_wp2
          go_region_held2 (fun w' => w'.cell? ⟨w.heap.size, 0, none⟩ = some (.int .i64 a) ∧ w'.cell? ⟨w.heap.size, 1, none⟩ = some (.int .i64 b) ∧ w'.cell? ⟨q, o + i * 2, none⟩ = some (.int .i64 x) ∧ w'.cell? ⟨q, o + i * 2 + 1, none⟩ = some (.int .i64 y)) (go_keep) (first | (go_at_call 54; refine (kA _).mono ?_; rintro e w2 ⟨rfl, g2⟩; clear kA; have B2 := Bd.kept g2 (by simp); have u0 := B2.cell 0 (v := .int .i64 a) rfl; have u1 := B2.cell 1 (v := .int .i64 b) rfl; have v0 := g2.cell e0 (by simp); have v1 := g2.cell e1 (by simp); have own2 := ownr.kept g2 (Classical.em _); obtain ⟨W3, hW3⟩ : ∃ W3, w2.alloc (.cells #[.int .i64 x, .int .i64 y] 25) = W3 := ⟨_, rfl⟩; have g3 : w2.grownBy W3 none := (by rw [← hW3]; exact World.grownBy_alloc _ _ _); have nX : ∀ l u, [Value.int .i64 x, .int .i64 y][l]? = some u → W3.cell? ((⟨w2.heap.size, 0, none⟩ : Addr).add l) = some u := (by rw [← hW3]; exact World.news_of_block (heap_alloc_new _ _)); have own3 := own2.kept g3 (Classical.em _); have hb3 : W1.heap.size ≤ W3.heap.size := (gb_trans gir (gb_trans g2 g3)).size; have how := (fun gg e => own3.lt gg e); clear own own2))
          go_wp2_with (first | (at_builtin; refine wpList_append_lies _ rfl _ _ 23 rfl W1.heap.size 25 i0 (.agg #[.int .i64 0, .int .i64 0]) 2 16 underPS HI.out.1 HI.out.2.1 HI.out.2.2.1 HI.out.2.2.2 rfl (by decide) _ nO _ rfl own3 ⟨w2.heap.size, 0, none⟩ 1 1 [.int .i64 x, .int .i64 y] rfl rfl nX (by intro u hu; simp at hu; rcases hu with rfl | rfl <;> rfl) (by decide) (by unfold maxLen; omega) (by omega) hb3 _ rfl ?_; intro g6 c6 w6 own6 gg6 at6 lt6) | go_in)
          go_roundw
          case rel => exact ⟨i + 1, nO + 1, _, O ++ [(x, y)], false, by omega, rfl, rfl, by go_num, by unfold Hid; rw [List.length_append, HO.out]; rfl, by omega, (fun _ => by have := HNI.out (by trivial); omega), by rw [← HX.out]; exact own6, HS1.out, (gb_trans gir (gb_trans g2 g3)).andThen gg6 (fun j hj => .inl (how j hj).1)⟩
          case measure => simp [intOf]; omega
        | false =>
          by_cases hxy : (x, y) = (a, b)
          · have HS1 : Hid (O ++ (if true = true then (psL f n).drop (i + 1) else tnL ((psL f n).drop (i + 1)) (a, b)) = T) := by
              have := HST.out
              rw [if_neg (by simp)] at this
              unfold tnL at this
              rw [if_neg (by rw [HA.out]; simp), if_pos hxy] at this
              unfold Hid
              rw [if_pos rfl, HRR.out]
              exact this
            obtain ⟨rfl, rfl⟩ : x = a ∧ y = b := by simpa using hxy
            clear HST HA hxy
            go_wp2
            go_region_held2 (fun w' => w'.cell? ⟨w.heap.size, 0, none⟩ = some (.int .i64 x) ∧ w'.cell? ⟨w.heap.size, 1, none⟩ = some (.int .i64 y) ∧ w'.cell? ⟨q, o + i * 2, none⟩ = some (.int .i64 x) ∧ w'.cell? ⟨q, o + i * 2 + 1, none⟩ = some (.int .i64 y)) (go_keep) (first | (go_at_call 54; refine (kA _).mono ?_; rintro e w2 ⟨rfl, g2⟩; clear kA; have B2 := Bd.kept g2 (by simp); have u0 := B2.cell 0 (v := .int .i64 x) rfl; have u1 := B2.cell 1 (v := .int .i64 y) rfl; have v0 := g2.cell e0 (by simp); have v1 := g2.cell e1 (by simp); have own2 := ownr.kept g2 (Classical.em _)))
            go_wp2
            go_quiet (fail)
            go_wp2
            go_roundw
            case rel => exact ⟨i + 1, nO, _, O, true, by omega, rfl, rfl, by go_num, HO.out, by omega, (fun e => by cases e), own2.kept (gb_drewN (World.grownBy.refl _ none) _) (Classical.em _), HS1.out, gb_drewN (gb_trans gir g2) _⟩
            case measure => simp [intOf]; omega
          · have HX : Hid (fl O ++ [.int .i64 a, .int .i64 b] = fl (O ++ [(a, b)])) := by unfold Hid; rw [fl_app]; rfl
            have HX2 : Hid (fl (O ++ [(a, b)]) ++ [.int .i64 x, .int .i64 y] = fl (O ++ [(a, b), (x, y)])) := by unfold Hid; rw [fl_app, fl_app]; show _ = fl O ++ _; rw [List.append_assoc]; rfl
            have HS1 : Hid ((O ++ [(a, b), (x, y)]) ++ (if true = true then (psL f n).drop (i + 1) else tnL ((psL f n).drop (i + 1)) (a, b)) = T) := by
              have := HST.out
              rw [if_neg (by simp)] at this
              unfold tnL at this
              rw [if_neg (by rw [HA.out]; simp), if_neg hxy] at this
              unfold Hid
              rw [if_pos rfl, HRR.out, List.append_assoc]
              exact this
            have he' : ¬ (x = a ∧ y = b) := fun e => hxy (by rw [e.1, e.2])
            clear HST HA hxy
            by_cases hac : x = a
            · subst hac
              have hbd : (y == b) = false := by simp; exact fun e => he' ⟨rfl, e⟩
              go_wp2
              go_region_held2 (fun w' => w'.cell? ⟨w.heap.size, 0, none⟩ = some (.int .i64 x) ∧ w'.cell? ⟨w.heap.size, 1, none⟩ = some (.int .i64 b) ∧ w'.cell? ⟨q, o + i * 2, none⟩ = some (.int .i64 x) ∧ w'.cell? ⟨q, o + i * 2 + 1, none⟩ = some (.int .i64 y)) (go_keep) (first | (go_at_call 54; refine (kA _).mono ?_; rintro e w2 ⟨rfl, g2⟩; clear kA; have B2 := Bd.kept g2 (by simp); have u0 := B2.cell 0 (v := .int .i64 x) rfl; have u1 := B2.cell 1 (v := .int .i64 b) rfl; have v0 := g2.cell e0 (by simp); have v1 := g2.cell e1 (by simp); have own2 := ownr.kept g2 (Classical.em _)))
              go_wp2
              go_quiet (fail)
              have gq := gb_drewN (World.grownBy.refl w2 none) nq
              have Bq := B2.kept gq (by simp)
              have s0 := Bq.cell 0 (v := .int .i64 x) rfl
              have s1' := Bq.cell 1 (v := .int .i64 b) rfl
              have y0 := gq.cell v0 (by simp)
              have y1 := gq.cell v1 (by simp)
              have ownq := own2.kept gq (Classical.em _)
              generalize w2.drewN nq = wd at gq Bq s0 s1' y0 y1 ownq ⊢
              obtain ⟨W3, hW3⟩ : ∃ W3, wd.alloc (.cells #[.int .i64 x, .int .i64 b] 25) = W3 := ⟨_, rfl⟩
              have g3 : wd.grownBy W3 none := (by rw [← hW3]; exact World.grownBy_alloc _ _ _)
              have nX : ∀ l u, [Value.int .i64 x, .int .i64 b][l]? = some u → W3.cell? ((⟨wd.heap.size, 0, none⟩ : Addr).add l) = some u := by rw [← hW3]; exact World.news_of_block (heap_alloc_new _ _)
              have own3 := ownq.kept g3 (Classical.em _)
              have hb3 : W1.heap.size ≤ W3.heap.size := (gb_trans gir (gb_trans g2 (gb_trans gq g3))).size
              have how := fun gg e => own3.lt gg e
              have B3 := Bq.kept g3 (by simp)
              have yy0 := g3.cell y0 (by simp)
              have yy1 := g3.cell y1 (by simp)
              have hqlt := cell_lt c0
              have gis := gi.size
              have gds := gdr.size
              have g2s := g2.size
              have gqs := gq.size
              have HQ : Hid (∀ gg, u5.ownBlock = some gg → gg ≠ w.heap.size ∧ gg ≠ q) := fun gg e => by
                have := (how gg e).1
                exact ⟨by omega, fun e2 => by have := H.lt i hlt _ rfl; simp only at this; omega⟩
              clear own own2 ownq
              go_wp2_with (first | (at_builtin; (fail_if_success (guard_hyp own6)); refine wpList_append_lies _ rfl _ _ 23 rfl W1.heap.size 25 i0 (.agg #[.int .i64 0, .int .i64 0]) 2 16 underPS HI.out.1 HI.out.2.1 HI.out.2.2.1 HI.out.2.2.2 rfl (by decide) _ nO _ rfl own3 ⟨wd.heap.size, 0, none⟩ 1 1 [.int .i64 x, .int .i64 b] rfl rfl nX (by intro u hu; simp at hu; rcases hu with rfl | rfl <;> rfl) (by decide) (by unfold maxLen; omega) (by omega) hb3 _ rfl ?_; intro g6 c6 w6 own6 gg6 at6 lt6; have gg6c : W3.grownBy w6 u5.ownBlock := gg6; have z0 := gg6c.cell yy0 (fun e => (HQ.out q e.symm).2 rfl); have z1 := gg6c.cell yy1 (fun e => (HQ.out q e.symm).2 rfl); obtain ⟨W5, hW5⟩ : ∃ W5, w6.alloc (.cells #[.int .i64 x, .int .i64 y] 25) = W5 := ⟨_, rfl⟩; have g5 : w6.grownBy W5 none := (by rw [← hW5]; exact World.grownBy_alloc _ _ _); have nX2 : ∀ l u, [Value.int .i64 x, .int .i64 y][l]? = some u → W5.cell? ((⟨w6.heap.size, 0, none⟩ : Addr).add l) = some u := (by rw [← hW5]; exact World.news_of_block (heap_alloc_new _ _)); have own5 := own6.kept g5 (Classical.em _); have hb5 : W1.heap.size ≤ W5.heap.size := (by have := gg6.size; have := g5.size; omega)) | (at_builtin; refine wpList_append_lies _ rfl _ _ 23 rfl W1.heap.size 25 i0 (.agg #[.int .i64 0, .int .i64 0]) 2 16 underPS HI.out.1 HI.out.2.1 HI.out.2.2.1 HI.out.2.2.2 rfl (by decide) _ (nO + 1) _ rfl own5 ⟨w6.heap.size, 0, none⟩ 1 1 [.int .i64 x, .int .i64 y] rfl rfl nX2 (by intro u hu; simp at hu; rcases hu with rfl | rfl <;> rfl) (by decide) (by unfold maxLen; omega) (by omega) hb5 _ rfl ?_; intro g62 c62 w62 own62 gg62 at62 lt62) | go_in)
              go_roundw
              case rel => exact ⟨i + 1, nO + 1 + 1, _, O ++ [(x, b), (x, y)], true, by omega, rfl, rfl, by go_num, by unfold Hid; rw [List.length_append, HO.out]; rfl, by have := HNI.out (by trivial); omega, (fun e => by cases e), by rw [← HX2.out, ← HX.out]; exact own62, HS1.out, (((gb_trans gir (gb_trans g2 (gb_trans gq g3))).andThen gg6 (fun j hj => .inl (how j hj).1)).andThen g5 (fun j hj => by cases hj)).andThen gg62 (fun j hj => .inl (by injection hj with hj; subst hj; exact (own5.lt _ rfl).1))⟩
              case measure => simp [intOf]; omega
            · have hbd : (x == a) = false := by simp; exact hac
              go_wp2
              go_region_held2 (fun w' => w'.cell? ⟨w.heap.size, 0, none⟩ = some (.int .i64 a) ∧ w'.cell? ⟨w.heap.size, 1, none⟩ = some (.int .i64 b) ∧ w'.cell? ⟨q, o + i * 2, none⟩ = some (.int .i64 x) ∧ w'.cell? ⟨q, o + i * 2 + 1, none⟩ = some (.int .i64 y)) (go_keep) (first | (go_at_call 54; refine (kA _).mono ?_; rintro e w2 ⟨rfl, g2⟩; clear kA; have B2 := Bd.kept g2 (by simp); have u0 := B2.cell 0 (v := .int .i64 a) rfl; have u1 := B2.cell 1 (v := .int .i64 b) rfl; have v0 := g2.cell e0 (by simp); have v1 := g2.cell e1 (by simp); have own2 := ownr.kept g2 (Classical.em _)))
              go_wp2
              go_quiet (fail)
              have gq := gb_drewN (World.grownBy.refl w2 none) nq
              have Bq := B2.kept gq (by simp)
              have s0 := Bq.cell 0 (v := .int .i64 a) rfl
              have s1' := Bq.cell 1 (v := .int .i64 b) rfl
              have y0 := gq.cell v0 (by simp)
              have y1 := gq.cell v1 (by simp)
              have ownq := own2.kept gq (Classical.em _)
              generalize w2.drewN nq = wd at gq Bq s0 s1' y0 y1 ownq ⊢
              obtain ⟨W3, hW3⟩ : ∃ W3, wd.alloc (.cells #[.int .i64 a, .int .i64 b] 25) = W3 := ⟨_, rfl⟩
              have g3 : wd.grownBy W3 none := (by rw [← hW3]; exact World.grownBy_alloc _ _ _)
              have nX : ∀ l u, [Value.int .i64 a, .int .i64 b][l]? = some u → W3.cell? ((⟨wd.heap.size, 0, none⟩ : Addr).add l) = some u := by rw [← hW3]; exact World.news_of_block (heap_alloc_new _ _)
              have own3 := ownq.kept g3 (Classical.em _)
              have hb3 : W1.heap.size ≤ W3.heap.size := (gb_trans gir (gb_trans g2 (gb_trans gq g3))).size
              have how := fun gg e => own3.lt gg e
              have B3 := Bq.kept g3 (by simp)
              have yy0 := g3.cell y0 (by simp)
              have yy1 := g3.cell y1 (by simp)
              have hqlt := cell_lt c0
              have gis := gi.size
              have gds := gdr.size
              have g2s := g2.size
              have gqs := gq.size
              have HQ : Hid (∀ gg, u5.ownBlock = some gg → gg ≠ w.heap.size ∧ gg ≠ q) := fun gg e => by
                have := (how gg e).1
                exact ⟨by omega, fun e2 => by have := H.lt i hlt _ rfl; simp only at this; omega⟩
              clear own own2 ownq
              go_wp2_with (first | (at_builtin; (fail_if_success (guard_hyp own6)); refine wpList_append_lies _ rfl _ _ 23 rfl W1.heap.size 25 i0 (.agg #[.int .i64 0, .int .i64 0]) 2 16 underPS HI.out.1 HI.out.2.1 HI.out.2.2.1 HI.out.2.2.2 rfl (by decide) _ nO _ rfl own3 ⟨wd.heap.size, 0, none⟩ 1 1 [.int .i64 a, .int .i64 b] rfl rfl nX (by intro u hu; simp at hu; rcases hu with rfl | rfl <;> rfl) (by decide) (by unfold maxLen; omega) (by omega) hb3 _ rfl ?_; intro g6 c6 w6 own6 gg6 at6 lt6; have gg6c : W3.grownBy w6 u5.ownBlock := gg6; have z0 := gg6c.cell yy0 (fun e => (HQ.out q e.symm).2 rfl); have z1 := gg6c.cell yy1 (fun e => (HQ.out q e.symm).2 rfl); obtain ⟨W5, hW5⟩ : ∃ W5, w6.alloc (.cells #[.int .i64 x, .int .i64 y] 25) = W5 := ⟨_, rfl⟩; have g5 : w6.grownBy W5 none := (by rw [← hW5]; exact World.grownBy_alloc _ _ _); have nX2 : ∀ l u, [Value.int .i64 x, .int .i64 y][l]? = some u → W5.cell? ((⟨w6.heap.size, 0, none⟩ : Addr).add l) = some u := (by rw [← hW5]; exact World.news_of_block (heap_alloc_new _ _)); have own5 := own6.kept g5 (Classical.em _); have hb5 : W1.heap.size ≤ W5.heap.size := (by have := gg6.size; have := g5.size; omega)) | (at_builtin; refine wpList_append_lies _ rfl _ _ 23 rfl W1.heap.size 25 i0 (.agg #[.int .i64 0, .int .i64 0]) 2 16 underPS HI.out.1 HI.out.2.1 HI.out.2.2.1 HI.out.2.2.2 rfl (by decide) _ (nO + 1) _ rfl own5 ⟨w6.heap.size, 0, none⟩ 1 1 [.int .i64 x, .int .i64 y] rfl rfl nX2 (by intro u hu; simp at hu; rcases hu with rfl | rfl <;> rfl) (by decide) (by unfold maxLen; omega) (by omega) hb5 _ rfl ?_; intro g62 c62 w62 own62 gg62 at62 lt62) | go_in)
              go_roundw
              case rel => exact ⟨i + 1, nO + 1 + 1, _, O ++ [(a, b), (x, y)], true, by omega, rfl, rfl, by go_num, by unfold Hid; rw [List.length_append, HO.out]; rfl, by have := HNI.out (by trivial); omega, (fun e => by cases e), by rw [← HX2.out, ← HX.out]; exact own62, HS1.out, (((gb_trans gir (gb_trans g2 (gb_trans gq g3))).andThen gg6 (fun j hj => .inl (how j hj).1)).andThen g5 (fun j hj => by cases hj)).andThen gg62 (fun j hj => .inl (by injection hj with hj; subst hj; exact (own5.lt _ rfl).1))⟩
              case measure => simp [intOf]; omega
    · have hin : i = n := by omega
      subst hin
      have hlt' : ¬ (i : Int) < (i : Int) := by omega
      have hd : (psL f i).drop i = [] := List.drop_of_length_le (by rw [psL_len]; exact Nat.le_refl _)
      have hst := HR.out
      rw [hd] at hst
      cases dn with
      | true =>
        have hOT : O = T := by rw [if_pos rfl, List.append_nil] at hst; exact hst
        subst hOT
        have HNO := HO.out
        subst HNO
        go_wp2
        go_ret
        exact ⟨_, rfl, own_less own (by omega), gb_trans g1 gi⟩
      | false =>
        have hOT : O ++ [(a, b)] = T := by rw [if_neg (by simp)] at hst; exact hst
        have HX : Hid (fl O ++ [.int .i64 a, .int .i64 b] = fl T) := by unfold Hid; rw [← hOT, fl_app]; rfl
        have HLT : Hid (T.length = nO + 1) := by unfold Hid; rw [← hOT, List.length_append, HO.out]; rfl
        obtain ⟨W3, hW3⟩ : ∃ W3, wr.alloc (.cells #[.int .i64 a, .int .i64 b] 25) = W3 := ⟨_, rfl⟩
        have g3 : wr.grownBy W3 none := (by rw [← hW3]; exact World.grownBy_alloc _ _ _)
        have nX : ∀ l u, [Value.int .i64 a, .int .i64 b][l]? = some u → W3.cell? ((⟨wr.heap.size, 0, none⟩ : Addr).add l) = some u := by rw [← hW3]; exact World.news_of_block (heap_alloc_new _ _)
        have own3 := own.kept g3 (Classical.em _)
        have hb3 : W1.heap.size ≤ W3.heap.size := (gb_trans gi g3).size
        have how := fun gg e => own3.lt gg e
        clear own hst hOT hd
        go_wp2_with (first | (at_builtin; refine wpList_append_lies _ rfl _ _ 23 rfl W1.heap.size 25 i0 (.agg #[.int .i64 0, .int .i64 0]) 2 16 underPS HI.out.1 HI.out.2.1 HI.out.2.2.1 HI.out.2.2.2 rfl (by decide) _ nO _ rfl own3 ⟨wr.heap.size, 0, none⟩ 1 1 [.int .i64 a, .int .i64 b] rfl rfl nX (by intro u hu; simp at hu; rcases hu with rfl | rfl <;> rfl) (by decide) (by unfold maxLen; omega) (by omega) hb3 _ rfl ?_; intro g6 c6 w6 own6 gg6 at6 lt6) | go_in)
        go_ret
        exact ⟨_, rfl, by rw [HLT.out, ← HX.out]; exact own_less own6 (by omega), gb_trans g1 ((gb_trans gi g3).andThen gg6 (fun j hj => .inl (how j hj).1))⟩
end Ln
end Go.Proofs.YtijjbejilpglnaaGreat
