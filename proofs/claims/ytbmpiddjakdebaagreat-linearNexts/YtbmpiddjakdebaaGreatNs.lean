/- The document's Jump, where nothing is wrong. -/
import Derived.Test.YtbmpiddjakdebaaGreatNr
import Derived.Test.YtbmpiddjakdebaaGreatNt
namespace Go.Proofs.YtbmpiddjakdebaaGreat
open Go.RowKit
set_option linter.unusedVariables false
set_option linter.unusedSimpArgs false
set_option maxRecDepth 100000

namespace Ln
theorem cell_lt {w : World} {a : Addr} {v : Value} (h : w.cell? a = some v) : a.block < w.heap.size := by
  unfold World.cell? at h
  split at h
  · rename_i hh
    exact (Array.getElem?_eq_some_iff.1 hh).1
  · cases h
set_option maxHeartbeats 1000000 in
theorem jumpDY {x y t z : Int} {M : Nat} (T : Td x y t z M) (s1 : Option Addr) (c1 : Nat) (D : List Pt) (hl : D.length ≤ 64) (hD : ∀ p ∈ D, (-1099511627776 ≤ p.1 ∧ p.1 ≤ 1099511627776) ∧ (-1099511627776 ≤ p.2 ∧ p.2 ≤ 1099511627776)) (s2 : Option Addr) (c2 : Nat) (C : List Pt) (hI : InT x y (To.fi x) (To.fi y) C) (hlC : C.length < 1000000000) (n : Nat) (hn : n ≤ 1125899906842624) (w : World) (H1 : Pl w s1 D.length (fun k => D.getD k (0, 0))) (H2 : Pl w s2 C.length (fun k => C.getD k (0, 0))) (hE : asE 2 x y t z (fun k => D.getD k (0, 0)) D.length (fun k => C.getD k (0, 0)) C.length = 0) :
    Calls Tryz.prog 13 #[.agg #[.int .u8 2, .int .i64 x, .int .i64 y, .int .u8 t, .int .i64 z], .slice s1 D.length c1, .slice s2 C.length c2, .int .i64 n] w fun e w' => ∃ (v : Value) (X : List Pt), e = .returned (.tuple #[v, .int .i64 0]) ∧ w'.ownsRow w.heap.size 40 2 v X.length (fl X) ∧ Hid (Rs x y t z X (mulL (pwL (D.map neg) n) C)) ∧ w.grownBy w' none := by
  obtain ⟨W1, hW1, sz1, g1, B1⟩ := boxn w #[.int .u8 2, .int .i64 x, .int .i64 y, .int .u8 t, .int .i64 z] 23
  have ca0 := B1.cell 0 (v := .int .u8 2) rfl; have ca1 := B1.cell 1 (v := .int .i64 x) rfl; have ca2 := B1.cell 2 (v := .int .i64 y) rfl; have ca3 := B1.cell 3 (v := .int .u8 t) rfl; have ca4 := B1.cell 4 (v := .int .i64 z) rfl
  have kA := askedD 2 x y t z T.ht s1 D.length c1 (fun k => D.getD k (0, 0)) (by omega) s2 C.length c2 (fun k => C.getD k (0, 0)) hlC W1 (H1.kept g1 (by simp)) (H2.kept g1 (by simp))
  rw [hE] at kA
  have kN := fun w1 => numberD (n : Int) w1
  have hG : ckG (n : Int) = 0 := by unfold ckG; rw [if_neg (by omega), if_neg (by omega)]
  rw [hG] at kN
  have hM2 := T.hM2
  have hMb : ¬ (1048576 : Int) < (M : Int) := by omega
  have wM := T.wM
  have kP := fun w1 (g : w.grownBy w1 none) => powerD T s1 c1 D hl hD n hn w1 (H1.kept g (by simp))
  have HT : Hid (Td x y t z M) := T
  clear hE hG T
  go_enter Tryz.func13, Tryz.ntmps13
  go_wp2_with (first | (go_at_call 21; refine kA.mono ?_; rintro e w3 ⟨rfl, g3⟩; clear kA; have B3 := B1.kept g3 (by simp); have b0 := B3.cell 0 (v := .int .u8 2) rfl; have b1 := B3.cell 1 (v := .int .i64 x) rfl; have b2 := B3.cell 2 (v := .int .i64 y) rfl; have b3 := B3.cell 3 (v := .int .u8 t) rfl; have b4 := B3.cell 4 (v := .int .i64 z) rfl) | (go_at_call 22; refine (kN _).mono ?_; rintro e w4 ⟨rfl, hw4⟩; subst w4; clear kN) | go_in)
  have gd : w3.grownBy w3.drew none := gb_drew (World.grownBy.refl _ none)
  have G3 := gb_trans g1 g3
  have kP3 := kP w3.drew (gb_trans G3 gd)
  have B3d := B3.kept gd (by simp)
  have d0 := B3d.cell 0 (v := .int .u8 2) rfl; have d1 := B3d.cell 1 (v := .int .i64 x) rfl; have d2 := B3d.cell 2 (v := .int .i64 y) rfl; have d3 := B3d.cell 3 (v := .int .u8 t) rfl; have d4 := B3d.cell 4 (v := .int .i64 z) rfl
  clear kP
  go_region_held2 (fun w' => w'.cell? ⟨w.heap.size, 0, none⟩ = some (.int .u8 2) ∧ w'.cell? ⟨w.heap.size, 1, none⟩ = some (.int .i64 x) ∧ w'.cell? ⟨w.heap.size, 2, none⟩ = some (.int .i64 y) ∧ w'.cell? ⟨w.heap.size, 3, none⟩ = some (.int .u8 t) ∧ w'.cell? ⟨w.heap.size, 4, none⟩ = some (.int .i64 z)) (go_keep) (first | (go_at_call 24; refine kP3.mono ?_; rintro e w5 ⟨gG, GG, rfl, hrowG, HEG, hgG, g5⟩; clear kP3; have B5 := B3d.kept g5 (by simp); have f0 := B5.cell 0 (v := .int .u8 2) rfl; have f1 := B5.cell 1 (v := .int .i64 x) rfl; have f2 := B5.cell 2 (v := .int .i64 y) rfl; have f3 := B5.cell 3 (v := .int .u8 t) rfl; have f4 := B5.cell 4 (v := .int .i64 z) rfl; have kL5 := listD 2 x y t z HT.out.hx HT.out.hy (some ⟨gG, 0, none⟩) M M GG hM2 w5 (Bs.row hrowG)) | (go_at_call 23; refine kL5.mono ?_; rintro e w6 ⟨v6, rfl, own6, g6⟩; clear kL5; have B6 := B5.kept g6 (by simp); have h0 := B6.cell 0 (v := .int .u8 2) rfl; have h1 := B6.cell 1 (v := .int .i64 x) rfl; have h2 := B6.cell 2 (v := .int .i64 y) rfl; have h3 := B6.cell 3 (v := .int .u8 t) rfl; have h4 := B6.cell 4 (v := .int .i64 z) rfl))
  have HOb : Hid (∀ p ∈ lsT x y GG M, (-65536 ≤ p.1 ∧ p.1 ≤ 65536) ∧ (-65536 ≤ p.2 ∧ p.2 ≤ 65536)) := fun p hp => by
    obtain ⟨i, hi, _, e⟩ := lsT_mem.1 hp
    rw [e]
    exact HT.out.at hi
  have HOl : Hid ((lsT x y GG M).length ≤ 1048576) := Nat.le_trans (lsT_len x y GG M) hM2
  obtain ⟨O, hO⟩ : ∃ O, lsT x y GG M = O := ⟨_, rfl⟩
  rw [hO] at own6 HEG HOb HOl
  clear hO hrowG
  obtain ⟨so, co, rfl, Po, zo⟩ := own_shape0 own6 rfl
  have G6 := gb_trans G3 (gb_trans gd (gb_trans g5 g6))
  have H26 := H2.kept G6 (by simp)
  clear own6 zo
  obtain ⟨nO, hnO⟩ : ∃ n, O.length = n := ⟨_, rfl⟩
  have HNO : Hid (O.length = nO) := hnO
  rw [hnO] at Po HOl ⊢
  clear hnO
  obtain ⟨nC, hnC⟩ : ∃ n, C.length = n := ⟨_, rfl⟩
  have HNC : Hid (C.length = nC) := hnC
  rw [hnC] at H26 hlC ⊢
  clear hnC
  have hmk := makeBN w6 M hM2
  have hm0 := madeBN w6 M
  obtain ⟨W7, hW7⟩ : ∃ W7, w6.alloc (.cells (madeCells #[.bool false] M) 4) = W7 := ⟨_, rfl⟩
  have g7 : w6.grownBy W7 none := (by rw [← hW7]; exact World.grownBy_alloc _ _ _)
  rw [hW7] at hmk hm0
  clear hW7
  have hr0 : W7.rowIs w6.heap.size 4 M (bR (juF x y t z C O 0 0)) := hm0.congr (fun c hc => by show Value.bool false = Value.bool _; rw [juF_first])
  have B7 := B6.kept g7 (by simp)
  have G7 := gb_trans G6 g7
  have s6 : w.heap.size ≤ w6.heap.size := G6.size
  have hne2 : w6.heap.size ≠ w.heap.size := by have := B6.lt; omega
  have hnl := HOl.out
  have HB1 : Hid (0 < nC → ∀ q o, s2 = some ⟨q, o, none⟩ → q ≠ w6.heap.size) := fun h0 q o e => by
    obtain ⟨q', o', e', c0, _⟩ := H26 0 h0
    rw [e] at e'
    obtain ⟨rfl, rfl⟩ : q = q' ∧ o = o' := by simpa using e'
    have := cell_lt c0
    simp only at this
    omega
  have HB2 : Hid (0 < nO → ∀ q o, so = some ⟨q, o, none⟩ → q ≠ w6.heap.size) := fun h0 q o e => by
    obtain ⟨q', o', e', c0, _⟩ := Po 0 h0
    rw [e] at e'
    obtain ⟨rfl, rfl⟩ : q = q' ∧ o = o' := by simpa using e'
    have := cell_lt c0
    simp only at this
    omega
  clear hm0 H2 H1
  go_wp2
  clear hmk
  go_loopw [14] (fun u wr => ∃ i : Nat, i ≤ nC ∧ u = .int .i64 i ∧ wr.rowIs w6.heap.size 4 M (bR (juF x y t z C O i 0)) ∧ Bo wr w.heap.size 23 #[.int .u8 2, .int .i64 x, .int .i64 y, .int .u8 t, .int .i64 z] ∧ Pl wr s2 nC (fun k => C.getD k (0, 0)) ∧ Pl wr so nO (fun k => O.getD k (0, 0)) ∧ w.grownBy wr none) (fun u _ => nC - (intOf u).toNat)
  case atStart => exact ⟨0, Nat.zero_le _, rfl, hr0, B7, H26.kept g7 (by simp), Po.kept g7 (by simp), G7⟩
  case round =>
    clear hr0 B7 H26 Po
    obtain ⟨i, hi, rfl, hrow, Bi, PC, PO, gi⟩ := hrel
    by_cases hlt : i < nC
    · have hlt' : (i : Int) < (nC : Int) := by omega
      have hcb := hI _ (getD_mem C i (by rw [HNC.out]; exact hlt))
      obtain ⟨E, hE⟩ : ∃ E, C.getD i (0, 0) = E := ⟨_, rfl⟩
      have HEi : Hid (C.getD i (0, 0) = E) := hE
      rw [hE] at hcb
      clear hE
      obtain ⟨ea, eb⟩ := E
      have ex : To.fi x = -(x / 2) := rfl
      have ey : To.fi y = -(y / 2) := rfl
      have hcb' : (-65536 ≤ ea ∧ ea ≤ 65536) ∧ (-65536 ≤ eb ∧ eb ≤ 65536) := by
        have h1 := HT.out.hx
        have h2 := HT.out.hy
        simp only at hcb
        omega
      clear hcb ex ey
      go_wp2
      go_loopw [15] (fun u wr => ∃ k : Nat, k ≤ nO ∧ u = .int .i64 k ∧ wr.rowIs w6.heap.size 4 M (bR (juF x y t z C O i k)) ∧ Bo wr w.heap.size 23 #[.int .u8 2, .int .i64 x, .int .i64 y, .int .u8 t, .int .i64 z] ∧ Pl wr s2 nC (fun k => C.getD k (0, 0)) ∧ Pl wr so nO (fun k => O.getD k (0, 0)) ∧ w.grownBy wr none) (fun u _ => nO - (intOf u).toNat)
      case atStart => exact ⟨0, Nat.zero_le _, rfl, hrow, Bi, PC, PO, gi⟩
      case round =>
        clear hrow Bi PC PO
        obtain ⟨k, hk, rfl, hrow, Bk, PC, PO, gk⟩ := hrel
        by_cases hkl : k < nO
        · have hkl' : (k : Int) < (nO : Int) := by omega
          have j0 := Bk.cell 0 (v := .int .u8 2) rfl; have j1 := Bk.cell 1 (v := .int .i64 x) rfl; have j2 := Bk.cell 2 (v := .int .i64 y) rfl; have j3 := Bk.cell 3 (v := .int .u8 t) rfl; have j4 := Bk.cell 4 (v := .int .i64 z) rfl
          obtain ⟨q1, o1, hs2, d0, d1⟩ := PC i hlt
          obtain ⟨q2, o2, hso, e0, e1⟩ := PO k hkl
          have HL1 : Hid (q1 ≠ w6.heap.size) := HB1.out (by omega) q1 o1 hs2
          have HL2 : Hid (q2 ≠ w6.heap.size) := HB2.out (by omega) q2 o2 hso
          simp only at d0 d1 e0 e1
          rw [HEi.out] at d0 d1
          have hob := HOb.out _ (getD_mem O k (by rw [HNO.out]; exact hkl))
          have HST : Hid (∀ c, juF x y t z C O i (k + 1) c = if c = numP x y t z (padd (C.getD i (0, 0)) (O.getD k (0, 0))) then !(juF x y t z C O i k c) else juF x y t z C O i k c) := fun c => juF_step x y t z C O i k c (by rw [HNO.out]; exact hkl)
          obtain ⟨F, hF⟩ : ∃ E, O.getD k (0, 0) = E := ⟨_, rfl⟩
          rw [hF] at e0 e1 hob HST
          rw [HEi.out] at HST
          clear hF
          obtain ⟨fa, fb⟩ := F
          simp only at d0 d1 e0 e1 hob
          have kQ := fun w1 => placeN HT.out (padd (ea, eb) (fa, fb)) (by unfold padd; simp only; omega) (by unfold padd; simp only; omega) w1
          have hQ := HT.out.lt (padd (ea, eb) (fa, fb))
          obtain ⟨Q, hQe⟩ : ∃ Q, numP x y t z (padd (ea, eb) (fa, fb)) = Q := ⟨_, rfl⟩
          rw [hQe] at kQ hQ HST
          simp only [padd] at kQ
          clear hQe
          have wa : IntKind.i64.wrap (ea + fa) = ea + fa := by rw [IntKind.wrap_i64]; omega
          have wb : IntKind.i64.wrap (eb + fb) = eb + fb := by rw [IntKind.wrap_i64]; omega
          have hQ' : (Q : Int) < (M : Int) := by omega
          obtain ⟨b0, hb0⟩ : ∃ b, juF x y t z C O i k Q = b := ⟨_, rfl⟩
          have HB0 : Hid (juF x y t z C O i k Q = b0) := hb0
          have hcv : bR (juF x y t z C O i k) Q = .bool b0 := by show Value.bool _ = _; rw [hb0]
          clear hb0
          have gdk : wr.grownBy wr.drew none := gb_drew (World.grownBy.refl _ none)
          have Bkd := Bk.dr
          have d0d := gdk.cell d0 (by simp)
          have d1d := gdk.cell d1 (by simp)
          have e0d := gdk.cell e0 (by simp)
          have e1d := gdk.cell e1 (by simp)
          have HPC : Hid (Pl wr s2 nC (fun k => C.getD k (0, 0))) := PC
          have HPO : Hid (Pl wr so nO (fun k => O.getD k (0, 0))) := PO
          have hG8 : Hid (∀ w8, wr.grownBy w8 none → w8.rowIs w6.heap.size 4 M (bR (juF x y t z C O i k))) := fun w8 g8 => rowIs_kept hrow g8 (by simp)
          clear PC PO hrow
          subst hs2
          subst hso
          go_wp2
          go_region_held2 (fun w' => w'.cell? ⟨w.heap.size, 0, none⟩ = some (.int .u8 2) ∧ w'.cell? ⟨w.heap.size, 1, none⟩ = some (.int .i64 x) ∧ w'.cell? ⟨w.heap.size, 2, none⟩ = some (.int .i64 y) ∧ w'.cell? ⟨w.heap.size, 3, none⟩ = some (.int .u8 t) ∧ w'.cell? ⟨w.heap.size, 4, none⟩ = some (.int .i64 z) ∧ w'.cell? ⟨q1, o1 + i * 2, none⟩ = some (.int .i64 ea) ∧ w'.cell? ⟨q1, o1 + i * 2 + 1, none⟩ = some (.int .i64 eb) ∧ w'.cell? ⟨q2, o2 + k * 2, none⟩ = some (.int .i64 fa) ∧ w'.cell? ⟨q2, o2 + k * 2 + 1, none⟩ = some (.int .i64 fb)) (go_keep) (first | (go_at_call 25; refine (kQ _).mono ?_; rintro e w8 ⟨rfl, g8⟩; have x0 := g8.cell d0d (by simp); have x1 := g8.cell d1d (by simp); have x2 := g8.cell e0d (by simp); have x3 := g8.cell e1d (by simp); have B8 := Bkd.kept g8 (by simp); have n0 := B8.cell 0 (v := .int .u8 2) rfl; have n1 := B8.cell 1 (v := .int .i64 x) rfl; have n2 := B8.cell 2 (v := .int .i64 y) rfl; have n3 := B8.cell 3 (v := .int .u8 t) rfl; have n4 := B8.cell 4 (v := .int .i64 z) rfl))
          have G8 := gb_trans gdk g8
          have hrow8 := hG8.out w8 G8
          have hc := hrow8.cell (i := Q) hQ
          have hcf := hrow8.frozen Q
          rw [hcv] at hc
          have gs : w8.grownBy (w8.setCell ⟨w6.heap.size, Q, none⟩ (.bool !b0)) (some w6.heap.size) := gb_set (World.grownBy.refl _ _) Q (.bool !b0)
          clear kQ hcv
          go_wp2
          first | go_roundw | (go_quiet (fail); go_wp2; go_roundw)
          case rel => exact ⟨k + 1, by omega, by go_num, (hrow8.set Q _).congr (fun c hc => by
            show _ = Value.bool _
            rw [HST.out c]
            by_cases e : c = Q
            · rw [if_pos e, if_pos e, e, HB0.out]
            · rw [if_neg e, if_neg e]; rfl), Bo.set2 B8 hne2, (HPC.out.kept G8 (by simp)).kept gs (fun a ha e => by injection ha with ha; subst ha; have := Option.some.inj e; exact HL1.out this), (HPO.out.kept G8 (by simp)).kept gs (fun a ha e => by injection ha with ha; subst ha; have := Option.some.inj e; exact HL2.out this), gb_new (gb_trans gk G8) (by simp only; omega) _⟩
          case measure => simp [intOf]; omega
        · have hke : k = nO := by omega
          have hkl' : ¬ (k : Int) < (nO : Int) := by omega
          have hr1 : wr.rowIs w6.heap.size 4 M (bR (juF x y t z C O (i + 1) 0)) := hrow.congr (fun c hc => by show Value.bool _ = Value.bool _; rw [hke, ← HNO.out, juF_next x y t z C O i c (by rw [HNC.out]; exact hlt)])
          clear hke
          go_wp2
          go_roundw
          case rel => exact ⟨i + 1, by omega, by go_num, hr1, Bk, PC, PO, gk⟩
          case measure => simp [intOf]; omega
    · have hie : i = nC := by omega
      have hlt' : ¬ (i : Int) < (nC : Int) := by omega
      have HRs : Hid (Rs x y t z (lsT x y (juF x y t z C O i 0) M) (mulL (pwL (D.map neg) n) C)) := HT.out.rs HEG.out (fun m _ => by rw [hie, ← HNC.out, juF_all])
      have kL := listD 2 x y t z HT.out.hx HT.out.hy (some ⟨w6.heap.size, 0, none⟩) M M (juF x y t z C O i 0) hM2 wr (Bs.row hrow)
      generalize lsT x y (juF x y t z C O i 0) M = XX at kL HRs
      have m0 := Bi.cell 0 (v := .int .u8 2) rfl; have m1 := Bi.cell 1 (v := .int .i64 x) rfl; have m2 := Bi.cell 2 (v := .int .i64 y) rfl; have m3 := Bi.cell 3 (v := .int .u8 t) rfl; have m4 := Bi.cell 4 (v := .int .i64 z) rfl
      clear hie
      go_wp2_with (first | (go_at_call 23; refine kL.mono ?_; rintro e w9 ⟨v9, rfl, own9, g9⟩; clear kL) | go_in)
      go_ret2
      have hsz := gi.size
      exact ⟨v9, XX, rfl, own_less own9 hsz, HRs, gb_trans gi g9⟩
end Ln
end Go.Proofs.YtbmpiddjakdebaaGreat
namespace Go.Proofs.YtbmpiddjakdebaaGreat
open Go.RowKit
set_option linter.unusedVariables false
set_option linter.unusedSimpArgs false
set_option maxRecDepth 100000

namespace Ln
theorem orl4 (a b c d e : Int) : (if a ≠ 0 then a else orL [b, c, d, e]) = if (if a ≠ 0 then a else if b ≠ 0 then b else c) ≠ 0 then (if a ≠ 0 then a else if b ≠ 0 then b else c) else if d ≠ 0 then d else e := by
  by_cases ha : a = 0 <;> by_cases hb : b = 0 <;> by_cases hc : c = 0 <;> by_cases hd : d = 0 <;> by_cases he : e = 0 <;> simp [orL, ha, hb, hc, hd, he]
theorem jpE_as {k x y t z : Int} {f : Nat → Pt} {n : Nat} {h : Nat → Pt} {m : Nat} {g : Int} : jpE k x y t z f n h m g = if asE k x y t z f n h m ≠ 0 then asE k x y t z f n h m else if ckG g ≠ 0 then ckG g else bdE x y := orl4 _ _ _ _ _
set_option maxHeartbeats 1000000 in
theorem jumpDN (k x y t z : Int) (ht : 0 ≤ t) (s1 : Option Addr) (n c1 : Nat) (f : Nat → Pt) (hn : n < 1000000000) (s2 : Option Addr) (m c2 : Nat) (h : Nat → Pt) (hm : m < 1000000000) (g : Int) (w : World) (H1 : Pl w s1 n f) (H2 : Pl w s2 m h) (hE : jpE k x y t z f n h m g ≠ 0) :
    Calls Tryz.prog 13 #[.agg #[.int .u8 k, .int .i64 x, .int .i64 y, .int .u8 t, .int .i64 z], .slice s1 n c1, .slice s2 m c2, .int .i64 g] w fun e w' => e = .returned (.tuple #[.slice none 0 0, .int .i64 (jpE k x y t z f n h m g)]) ∧ w.grownBy w' none := by
  obtain ⟨W1, hW1, sz1, g1, B1⟩ := boxn w #[.int .u8 k, .int .i64 x, .int .i64 y, .int .u8 t, .int .i64 z] 23
  have ca0 := B1.cell 0 (v := .int .u8 k) rfl; have ca1 := B1.cell 1 (v := .int .i64 x) rfl; have ca2 := B1.cell 2 (v := .int .i64 y) rfl; have ca3 := B1.cell 3 (v := .int .u8 t) rfl; have ca4 := B1.cell 4 (v := .int .i64 z) rfl
  have kA := askedD k x y t z ht s1 n c1 f hn s2 m c2 h hm W1 (H1.kept g1 (by simp)) (H2.kept g1 (by simp))
  have kN := fun w1 => numberD g w1
  rw [jpE_as] at hE ⊢
  by_cases h1 : asE k x y t z f n h m = 0
  · rw [if_neg (by simp [h1])] at hE ⊢
    rw [h1] at kA
    by_cases h2 : ckG g = 0
    · rw [if_neg (by simp [h2])] at hE ⊢
      rw [h2] at kN
      have h3 : 1048576 < x * y ∧ bdE x y = 4 := by
        unfold bdE at hE ⊢
        split at hE
        · rename_i hh; exact ⟨hh, by rw [if_pos hh]⟩
        · exact absurd rfl hE
      rw [h3.2]
      have hok : 0 ≤ x ∧ x ≤ 65536 ∧ 0 ≤ y ∧ y ≤ 65536 := by
        have hto : toE k x y t z = 0 := by
          unfold asE at h1
          by_cases h0 : toE k x y t z = 0
          · exact h0
          · rw [if_pos h0] at h1; exact h1
        have ok := Tp.ok_of (toE_zero hto).1
        exact ⟨ok.wide.1, ok.wide.2, ok.high.1, ok.high.2⟩
      have hxy : x * y ≤ 65536 * 65536 := Int.mul_le_mul hok.2.1 hok.2.2.2 hok.2.2.1 (by omega)
      have wM : IntKind.i64.wrap (x * y) = x * y := by rw [IntKind.wrap_i64]; omega
      have hb := h3.1
      clear h1 h2 hE hok hxy h3
      go_enter Tryz.func13, Tryz.ntmps13
      go_wp2_with (first | (go_at_call 21; refine kA.mono ?_; rintro e w3 ⟨rfl, g3⟩; clear kA; have B3 := B1.kept g3 (by simp); have b0 := B3.cell 0 (v := .int .u8 k) rfl; have b1 := B3.cell 1 (v := .int .i64 x) rfl; have b2 := B3.cell 2 (v := .int .i64 y) rfl; have b3 := B3.cell 3 (v := .int .u8 t) rfl; have b4 := B3.cell 4 (v := .int .i64 z) rfl) | (go_at_call 22; refine (kN _).mono ?_; rintro e w4 ⟨rfl, hw4⟩; subst w4; clear kN) | go_in)
      go_ret2
      exact ⟨rfl, gb_trans g1 g3⟩
    · rw [if_pos h2] at hE ⊢
      obtain ⟨e2, he2⟩ : ∃ e, ckG g = e := ⟨_, rfl⟩
      rw [he2] at kN h2 ⊢
      have hb : (e2 != 0) = true := by simp [h2]
      clear he2 h1 hE
      go_enter Tryz.func13, Tryz.ntmps13
      go_wp2_with (first | (go_at_call 21; refine kA.mono ?_; rintro e w3 ⟨rfl, g3⟩; clear kA) | (go_at_call 22; refine (kN _).mono ?_; rintro e w4 ⟨rfl, hw4⟩; subst w4; clear kN) | go_in)
      go_ret2
      exact ⟨rfl, gb_trans g1 g3⟩
  · rw [if_pos h1] at hE ⊢
    obtain ⟨e2, he2⟩ : ∃ e, asE k x y t z f n h m = e := ⟨_, rfl⟩
    rw [he2] at kA h1 ⊢
    have hb : (e2 != 0) = true := by simp [h1]
    clear he2 hE
    go_enter Tryz.func13, Tryz.ntmps13
    go_wp2_with (first | (go_at_call 21; refine kA.mono ?_; rintro e w3 ⟨rfl, g3⟩; clear kA) | go_in)
    go_ret2
    exact ⟨rfl, gb_trans g1 g3⟩
end Ln
end Go.Proofs.YtbmpiddjakdebaaGreat
namespace Go.Proofs.YtbmpiddjakdebaaGreat
open Go.RowKit
set_option linter.unusedVariables false
set_option linter.unusedSimpArgs false
set_option maxRecDepth 100000

namespace Ln
/-- An answer: what the sum says, or nothing with an error. -/
def An (x y t z E : Int) (A X : List Pt) : Prop := if E = 0 then Rs x y t z X A else X = []
theorem An.eq {x y t z E : Int} {A X Y : List Pt} (h : An x y t z E A X) (h' : An x y t z E A Y) : X = Y := by
  unfold An at h h'
  by_cases e : E = 0
  · rw [if_pos e] at h h'
    exact h.eq h' (Eqv.refl _ _)
  · rw [if_neg e] at h h'
    rw [h, h']
theorem jumpPL (k x y t z : Int) (ht : 0 ≤ t) (s1 : Option Addr) (c1 : Nat) (D : List Pt) (oD : ∀ j, j < D.length → PtOk (D.getD j (0, 0))) (lD : D.length < 1000000000) (h01 : s1 = none → D.length = 0 ∧ c1 = 0) (s2 : Option Addr) (c2 : Nat) (C : List Pt) (oC : ∀ j, j < C.length → PtOk (C.getD j (0, 0))) (lC : C.length < 1000000000) (h02 : s2 = none → C.length = 0 ∧ c2 = 0) (g : Int) (w : World) (H1 : Pl w s1 D.length (fun k => D.getD k (0, 0))) (H2 : Pl w s2 C.length (fun k => C.getD k (0, 0))) : Calls Tryz.prog 14 #[.agg #[.int .u8 k, .int .i64 x, .int .i64 y, .int .u8 t, .int .i64 z], .slice s1 D.length c1, .slice s2 C.length c2, .int .i64 g] w fun e w' => ∃ (v : Value) (X : List Pt), e = .returned (.tuple #[v, .int .i64 (jpE k x y t z (fun k => D.getD k (0, 0)) D.length (fun k => C.getD k (0, 0)) C.length g)]) ∧ w'.ownsRow w.heap.size 40 2 v X.length (fl X) ∧ Hid (An x y t z (jpE k x y t z (fun k => D.getD k (0, 0)) D.length (fun k => C.getD k (0, 0)) C.length g) (mulL (pwL (D.map neg) g.toNat) C) X) ∧ w.grownBy w' none := by
  by_cases hE : (jpE k x y t z (fun k => D.getD k (0, 0)) D.length (fun k => C.getD k (0, 0)) C.length g) = 0
  · obtain ⟨hc, hk, hx, hy, hO, hL, hG, hxy⟩ := jpE_zero hE
    obtain ⟨gn, rfl⟩ : ∃ gn : Nat, g = (gn : Int) := ⟨g.toNat, by omega⟩
    have := jumpG k x y t z ht s1 D.length c1 (fun k => D.getD k (0, 0)) oD (by omega) h01 s2 C.length c2 (fun k => C.getD k (0, 0)) oC lC h02 gn (by omega) (lpL_50 gn (by omega)) w H1 H2 hE
    rw [psL_self, psL_self] at this
    refine this.mono ?_
    rintro e w' ⟨v, nx, he, own, b1, b2, b3, hw⟩
    refine ⟨v, srt nx, by rw [hE]; exact he, by rw [srt_len]; exact own, ?_, hw⟩
    show An _ _ _ _ _ _ _
    unfold An
    rw [if_pos hE, Int.toNat_natCast]
    exact rs_of b1 b2 b3
  · refine (jumpN k x y t z ht s1 D.length c1 (fun k => D.getD k (0, 0)) oD (by omega) s2 C.length c2 (fun k => C.getD k (0, 0)) oC (by omega) g w H1 H2 hE).mono ?_
    rintro e w' ⟨he, hw⟩
    refine ⟨_, [], he, World.ownsRow_nil _ _ _ _, ?_, hw⟩
    show An _ _ _ _ _ _ _
    unfold An
    rw [if_neg hE]
theorem jumpDL (k x y t z : Int) (ht : 0 ≤ t) (s1 : Option Addr) (c1 : Nat) (D : List Pt) (oD : ∀ j, j < D.length → PtOk (D.getD j (0, 0))) (lD : D.length < 1000000000) (h01 : s1 = none → D.length = 0 ∧ c1 = 0) (s2 : Option Addr) (c2 : Nat) (C : List Pt) (oC : ∀ j, j < C.length → PtOk (C.getD j (0, 0))) (lC : C.length < 1000000000) (h02 : s2 = none → C.length = 0 ∧ c2 = 0) (g : Int) (w : World) (H1 : Pl w s1 D.length (fun k => D.getD k (0, 0))) (H2 : Pl w s2 C.length (fun k => C.getD k (0, 0))) : Calls Tryz.prog 13 #[.agg #[.int .u8 k, .int .i64 x, .int .i64 y, .int .u8 t, .int .i64 z], .slice s1 D.length c1, .slice s2 C.length c2, .int .i64 g] w fun e w' => ∃ (v : Value) (X : List Pt), e = .returned (.tuple #[v, .int .i64 (jpE k x y t z (fun k => D.getD k (0, 0)) D.length (fun k => C.getD k (0, 0)) C.length g)]) ∧ w'.ownsRow w.heap.size 40 2 v X.length (fl X) ∧ Hid (An x y t z (jpE k x y t z (fun k => D.getD k (0, 0)) D.length (fun k => C.getD k (0, 0)) C.length g) (mulL (pwL (D.map neg) g.toNat) C) X) ∧ w.grownBy w' none := by
  by_cases hE : (jpE k x y t z (fun k => D.getD k (0, 0)) D.length (fun k => C.getD k (0, 0)) C.length g) = 0
  · obtain ⟨hc, hk, hx, hy, hO, hL, hG, hxy⟩ := jpE_zero hE
    obtain ⟨gn, rfl⟩ : ∃ gn : Nat, g = (gn : Int) := ⟨g.toNat, by omega⟩
    obtain ⟨htw, hin⟩ := ceL_zero hx.1 hy.1 hL
    obtain ⟨hn64, haw, htw1⟩ := ckO_zero hO
    subst hk
    have hx0 : 0 ≤ x * y := Int.mul_nonneg (by omega) (by omega)
    have T : Td x y t z (x * y).toNat := ⟨hc, hx, hy, ht, rfl, by omega⟩
    have hD : ∀ p ∈ D, (-1099511627776 ≤ p.1 ∧ p.1 ≤ 1099511627776) ∧ (-1099511627776 ≤ p.2 ∧ p.2 ≤ 1099511627776) := fun p hp => by
      obtain ⟨j, hj, e⟩ := List.getElem_of_mem hp
      have := (alW_is _ (fun k => D.getD k (0, 0)) D.length).1 haw j hj
      rw [inW_is, inW_is] at this
      have e2 : D.getD j (0, 0) = p := by rw [List.getD_eq_getElem?_getD, List.getElem?_eq_getElem hj]; exact e
      simp only [e2] at this
      exact this
    have hI : InT x y (To.fi x) (To.fi y) C := fun p hp => by
      obtain ⟨j, hj, e⟩ := List.getElem_of_mem hp
      have := hin j hj
      have e2 : C.getD j (0, 0) = p := by rw [List.getD_eq_getElem?_getD, List.getElem?_eq_getElem hj]; exact e
      simp only [e2] at this
      exact this
    have hA : asE 2 x y t z (fun k => D.getD k (0, 0)) D.length (fun k => C.getD k (0, 0)) C.length = 0 := by
      have h0 := hE
      rw [jpE_as] at h0
      by_cases h1 : asE 2 x y t z (fun k => D.getD k (0, 0)) D.length (fun k => C.getD k (0, 0)) C.length = 0
      · exact h1
      · rw [if_pos h1] at h0; exact absurd h0 h1
    refine (jumpDY T s1 c1 D hn64 hD s2 c2 C hI lC gn (by omega) w H1 H2 hA).mono ?_
    rintro e w' ⟨v, X, he, own, HR, hw⟩
    refine ⟨v, X, by rw [hE]; exact he, own, ?_, hw⟩
    show An _ _ _ _ _ _ _
    unfold An
    rw [if_pos hE, Int.toNat_natCast]
    exact HR.out
  · refine (jumpDN k x y t z ht s1 D.length c1 (fun k => D.getD k (0, 0)) lD s2 C.length c2 (fun k => C.getD k (0, 0)) lC g w H1 H2 hE).mono ?_
    rintro e w' ⟨he, hw⟩
    refine ⟨_, [], he, World.ownsRow_nil _ _ _ _, ?_, hw⟩
    show An _ _ _ _ _ _ _
    unfold An
    rw [if_neg hE]
end Ln
end Go.Proofs.YtbmpiddjakdebaaGreat
namespace Go.Proofs.YtbmpiddjakdebaaGreat
open Go.RowKit
set_option linter.unusedVariables false
set_option linter.unusedSimpArgs false
set_option maxRecDepth 100000

namespace Ln
set_option maxHeartbeats 1000000 in
theorem nextPL (k x y t z : Int) (ht : 0 ≤ t) (s1 : Option Addr) (c1 : Nat) (D : List Pt) (oD : ∀ j, j < D.length → PtOk (D.getD j (0, 0))) (lD : D.length < 1000000000) (h01 : s1 = none → D.length = 0 ∧ c1 = 0) (s2 : Option Addr) (c2 : Nat) (C : List Pt) (oC : ∀ j, j < C.length → PtOk (C.getD j (0, 0))) (lC : C.length < 1000000000) (h02 : s2 = none → C.length = 0 ∧ c2 = 0) (w : World) (H1 : Pl w s1 D.length (fun k => D.getD k (0, 0))) (H2 : Pl w s2 C.length (fun k => C.getD k (0, 0))) : Calls Tryz.prog 9 #[.agg #[.int .u8 k, .int .i64 x, .int .i64 y, .int .u8 t, .int .i64 z], .slice s1 D.length c1, .slice s2 C.length c2] w fun e w' => ∃ (v : Value) (X : List Pt), e = .returned (.tuple #[v, .int .i64 (jpE k x y t z (fun k => D.getD k (0, 0)) D.length (fun k => C.getD k (0, 0)) C.length 1)]) ∧ w'.ownsRow w.heap.size 40 2 v X.length (fl X) ∧ Hid (An x y t z (jpE k x y t z (fun k => D.getD k (0, 0)) D.length (fun k => C.getD k (0, 0)) C.length 1) (mulL (pwL (D.map neg) (1 : Int).toNat) C) X) ∧ w.grownBy w' none := by
  obtain ⟨W1, hW1, sz1, g1, B1⟩ := boxn w #[.int .u8 k, .int .i64 x, .int .i64 y, .int .u8 t, .int .i64 z] 23
  have ca0 := B1.cell 0 (v := .int .u8 k) rfl; have ca1 := B1.cell 1 (v := .int .i64 x) rfl; have ca2 := B1.cell 2 (v := .int .i64 y) rfl; have ca3 := B1.cell 3 (v := .int .u8 t) rfl; have ca4 := B1.cell 4 (v := .int .i64 z) rfl
  have kJ := jumpPL k x y t z ht s1 c1 D oD lD h01 s2 c2 C oC lC h02 1 W1 (H1.kept g1 (by simp)) (H2.kept g1 (by simp))
  generalize (jpE k x y t z (fun k => D.getD k (0, 0)) D.length (fun k => C.getD k (0, 0)) C.length 1) = e0 at kJ ⊢
  generalize mulL (pwL (D.map neg) (1 : Int).toNat) C = AA at kJ ⊢
  clear oD lD h01 oC lC h02 H1 H2
  go_enter Tryz.func9, Tryz.ntmps9
  go_wp2_with (first | (go_at_call 14; refine kJ.mono ?_; rintro e w2 ⟨v, X, rfl, own, HN, g2⟩) | go_in)
  go_ret2
  exact ⟨v, X, rfl, own_less own g1.size, HN.out, gb_trans g1 g2⟩
set_option maxHeartbeats 1000000 in
theorem nextDL (k x y t z : Int) (ht : 0 ≤ t) (s1 : Option Addr) (c1 : Nat) (D : List Pt) (oD : ∀ j, j < D.length → PtOk (D.getD j (0, 0))) (lD : D.length < 1000000000) (h01 : s1 = none → D.length = 0 ∧ c1 = 0) (s2 : Option Addr) (c2 : Nat) (C : List Pt) (oC : ∀ j, j < C.length → PtOk (C.getD j (0, 0))) (lC : C.length < 1000000000) (h02 : s2 = none → C.length = 0 ∧ c2 = 0) (w : World) (H1 : Pl w s1 D.length (fun k => D.getD k (0, 0))) (H2 : Pl w s2 C.length (fun k => C.getD k (0, 0))) : Calls Tryz.prog 8 #[.agg #[.int .u8 k, .int .i64 x, .int .i64 y, .int .u8 t, .int .i64 z], .slice s1 D.length c1, .slice s2 C.length c2] w fun e w' => ∃ (v : Value) (X : List Pt), e = .returned (.tuple #[v, .int .i64 (jpE k x y t z (fun k => D.getD k (0, 0)) D.length (fun k => C.getD k (0, 0)) C.length 1)]) ∧ w'.ownsRow w.heap.size 40 2 v X.length (fl X) ∧ Hid (An x y t z (jpE k x y t z (fun k => D.getD k (0, 0)) D.length (fun k => C.getD k (0, 0)) C.length 1) (mulL (pwL (D.map neg) (1 : Int).toNat) C) X) ∧ w.grownBy w' none := by
  obtain ⟨W1, hW1, sz1, g1, B1⟩ := boxn w #[.int .u8 k, .int .i64 x, .int .i64 y, .int .u8 t, .int .i64 z] 23
  have ca0 := B1.cell 0 (v := .int .u8 k) rfl; have ca1 := B1.cell 1 (v := .int .i64 x) rfl; have ca2 := B1.cell 2 (v := .int .i64 y) rfl; have ca3 := B1.cell 3 (v := .int .u8 t) rfl; have ca4 := B1.cell 4 (v := .int .i64 z) rfl
  have kJ := jumpDL k x y t z ht s1 c1 D oD lD h01 s2 c2 C oC lC h02 1 W1 (H1.kept g1 (by simp)) (H2.kept g1 (by simp))
  generalize (jpE k x y t z (fun k => D.getD k (0, 0)) D.length (fun k => C.getD k (0, 0)) C.length 1) = e0 at kJ ⊢
  generalize mulL (pwL (D.map neg) (1 : Int).toNat) C = AA at kJ ⊢
  clear oD lD h01 oC lC h02 H1 H2
  go_enter Tryz.func8, Tryz.ntmps8
  go_wp2_with (first | (go_at_call 13; refine kJ.mono ?_; rintro e w2 ⟨v, X, rfl, own, HN, g2⟩) | go_in)
  go_ret2
  exact ⟨v, X, rfl, own_less own g1.size, HN.out, gb_trans g1 g2⟩
set_option maxHeartbeats 1000000 in
theorem powerPL (k x y t z : Int) (ht : 0 ≤ t) (s1 : Option Addr) (c1 : Nat) (D : List Pt) (oD : ∀ j, j < D.length → PtOk (D.getD j (0, 0))) (lD : D.length < 1000000000) (h01 : s1 = none → D.length = 0 ∧ c1 = 0) (g : Int) (w : World) (H1 : Pl w s1 D.length (fun k => D.getD k (0, 0))) : Calls Tryz.prog 16 #[.agg #[.int .u8 k, .int .i64 x, .int .i64 y, .int .u8 t, .int .i64 z], .slice s1 D.length c1, .int .i64 g] w fun e w' => ∃ (v : Value) (X : List Pt), e = .returned (.tuple #[v, .int .i64 (jpE k x y t z (fun k => D.getD k (0, 0)) D.length (fun k => ([(0, 0)] : List Pt).getD k (0, 0)) ([(0, 0)] : List Pt).length g)]) ∧ w'.ownsRow w.heap.size 40 2 v X.length (fl X) ∧ Hid (An x y t z (jpE k x y t z (fun k => D.getD k (0, 0)) D.length (fun k => ([(0, 0)] : List Pt).getD k (0, 0)) ([(0, 0)] : List Pt).length g) (mulL (pwL (D.map neg) (g : Int).toNat) ([(0, 0)] : List Pt)) X) ∧ w.grownBy w' none := by
  obtain ⟨W1, hW1, sz1, g1, B1⟩ := boxn w #[.int .u8 k, .int .i64 x, .int .i64 y, .int .u8 t, .int .i64 z] 23
  have ca0 := B1.cell 0 (v := .int .u8 k) rfl; have ca1 := B1.cell 1 (v := .int .i64 x) rfl; have ca2 := B1.cell 2 (v := .int .i64 y) rfl; have ca3 := B1.cell 3 (v := .int .u8 t) rfl; have ca4 := B1.cell 4 (v := .int .i64 z) rfl
  obtain ⟨W2, hW2, sz2, g2, B2⟩ := boxn W1 #[.int .i64 0, .int .i64 0] 40
  have G2 := gb_trans g1 g2
  have kJ : Calls Tryz.prog 14 #[.agg #[.int .u8 k, .int .i64 x, .int .i64 y, .int .u8 t, .int .i64 z], .slice s1 D.length c1, .slice (some ⟨W1.heap.size, 0, none⟩) 1 1, .int .i64 g] W2 fun e w' => ∃ (v : Value) (X : List Pt), e = .returned (.tuple #[v, .int .i64 (jpE k x y t z (fun k => D.getD k (0, 0)) D.length (fun k => ([(0, 0)] : List Pt).getD k (0, 0)) ([(0, 0)] : List Pt).length g)]) ∧ w'.ownsRow W2.heap.size 40 2 v X.length (fl X) ∧ Hid (An x y t z (jpE k x y t z (fun k => D.getD k (0, 0)) D.length (fun k => ([(0, 0)] : List Pt).getD k (0, 0)) ([(0, 0)] : List Pt).length g) (mulL (pwL (D.map neg) (g : Int).toNat) ([(0, 0)] : List Pt)) X) ∧ W2.grownBy w' none := jumpPL k x y t z ht s1 c1 D oD lD h01 (some ⟨W1.heap.size, 0, none⟩) 1 ([(0, 0)] : List Pt) (fun j hj => by have h1 : ([(0, 0)] : List Pt).length = 1 := rfl; obtain rfl : j = 0 := (by omega); exact ⟨by decide, by decide⟩) (by decide) (fun e => by cases e) g W2 (H1.kept G2 (by simp)) (pl_lit (ps := [(0, 0)]) B2 rfl)
  generalize (jpE k x y t z (fun k => D.getD k (0, 0)) D.length (fun k => ([(0, 0)] : List Pt).getD k (0, 0)) ([(0, 0)] : List Pt).length g) = e0 at kJ ⊢
  generalize mulL (pwL (D.map neg) (g : Int).toNat) ([(0, 0)] : List Pt) = AA at kJ ⊢
  have HG : Hid (w.grownBy W2 none) := G2
  clear oD lD h01 H1 G2
  go_enter Tryz.func16, Tryz.ntmps16
  go_wp2_with (first | (go_at_call 14; refine kJ.mono ?_; rintro e w3 ⟨v, X, rfl, own, HN, g3⟩) | go_in)
  go_ret2
  exact ⟨v, X, rfl, own_less own HG.out.size, HN.out, gb_trans HG.out g3⟩
set_option maxHeartbeats 1000000 in
theorem powerDL (k x y t z : Int) (ht : 0 ≤ t) (s1 : Option Addr) (c1 : Nat) (D : List Pt) (oD : ∀ j, j < D.length → PtOk (D.getD j (0, 0))) (lD : D.length < 1000000000) (h01 : s1 = none → D.length = 0 ∧ c1 = 0) (g : Int) (w : World) (H1 : Pl w s1 D.length (fun k => D.getD k (0, 0))) : Calls Tryz.prog 15 #[.agg #[.int .u8 k, .int .i64 x, .int .i64 y, .int .u8 t, .int .i64 z], .slice s1 D.length c1, .int .i64 g] w fun e w' => ∃ (v : Value) (X : List Pt), e = .returned (.tuple #[v, .int .i64 (jpE k x y t z (fun k => D.getD k (0, 0)) D.length (fun k => ([(0, 0)] : List Pt).getD k (0, 0)) ([(0, 0)] : List Pt).length g)]) ∧ w'.ownsRow w.heap.size 40 2 v X.length (fl X) ∧ Hid (An x y t z (jpE k x y t z (fun k => D.getD k (0, 0)) D.length (fun k => ([(0, 0)] : List Pt).getD k (0, 0)) ([(0, 0)] : List Pt).length g) (mulL (pwL (D.map neg) (g : Int).toNat) ([(0, 0)] : List Pt)) X) ∧ w.grownBy w' none := by
  obtain ⟨W1, hW1, sz1, g1, B1⟩ := boxn w #[.int .u8 k, .int .i64 x, .int .i64 y, .int .u8 t, .int .i64 z] 23
  have ca0 := B1.cell 0 (v := .int .u8 k) rfl; have ca1 := B1.cell 1 (v := .int .i64 x) rfl; have ca2 := B1.cell 2 (v := .int .i64 y) rfl; have ca3 := B1.cell 3 (v := .int .u8 t) rfl; have ca4 := B1.cell 4 (v := .int .i64 z) rfl
  obtain ⟨W2, hW2, sz2, g2, B2⟩ := boxn W1 #[.int .i64 0, .int .i64 0] 40
  have G2 := gb_trans g1 g2
  have kJ : Calls Tryz.prog 13 #[.agg #[.int .u8 k, .int .i64 x, .int .i64 y, .int .u8 t, .int .i64 z], .slice s1 D.length c1, .slice (some ⟨W1.heap.size, 0, none⟩) 1 1, .int .i64 g] W2 fun e w' => ∃ (v : Value) (X : List Pt), e = .returned (.tuple #[v, .int .i64 (jpE k x y t z (fun k => D.getD k (0, 0)) D.length (fun k => ([(0, 0)] : List Pt).getD k (0, 0)) ([(0, 0)] : List Pt).length g)]) ∧ w'.ownsRow W2.heap.size 40 2 v X.length (fl X) ∧ Hid (An x y t z (jpE k x y t z (fun k => D.getD k (0, 0)) D.length (fun k => ([(0, 0)] : List Pt).getD k (0, 0)) ([(0, 0)] : List Pt).length g) (mulL (pwL (D.map neg) (g : Int).toNat) ([(0, 0)] : List Pt)) X) ∧ W2.grownBy w' none := jumpDL k x y t z ht s1 c1 D oD lD h01 (some ⟨W1.heap.size, 0, none⟩) 1 ([(0, 0)] : List Pt) (fun j hj => by have h1 : ([(0, 0)] : List Pt).length = 1 := rfl; obtain rfl : j = 0 := (by omega); exact ⟨by decide, by decide⟩) (by decide) (fun e => by cases e) g W2 (H1.kept G2 (by simp)) (pl_lit (ps := [(0, 0)]) B2 rfl)
  generalize (jpE k x y t z (fun k => D.getD k (0, 0)) D.length (fun k => ([(0, 0)] : List Pt).getD k (0, 0)) ([(0, 0)] : List Pt).length g) = e0 at kJ ⊢
  generalize mulL (pwL (D.map neg) (g : Int).toNat) ([(0, 0)] : List Pt) = AA at kJ ⊢
  have HG : Hid (w.grownBy W2 none) := G2
  clear oD lD h01 H1 G2
  go_enter Tryz.func15, Tryz.ntmps15
  go_wp2_with (first | (go_at_call 13; refine kJ.mono ?_; rintro e w3 ⟨v, X, rfl, own, HN, g3⟩) | go_in)
  go_ret2
  exact ⟨v, X, rfl, own_less own HG.out.size, HN.out, gb_trans HG.out g3⟩
end Ln
end Go.Proofs.YtbmpiddjakdebaaGreat
