/- ScanBack: the walk. -/
import Derived.Test.YtimknahfgpafaabDoorS10
import Derived.Test.YtimknahfgpafaabDoorS26
import Derived.Test.YtimknahfgpafaabDoorS28
import Derived.Deep.QuietTactic
import Derived.BigQuiet
import Derived.Deep.Cut
import Derived.Lib.AppendIntMem
import Derived.Lib.SmallJoins
namespace Go.Proofs.YtimknahfgpafaabDoor
open Go.RowKit
set_option linter.unusedVariables false
set_option linter.unusedSimpArgs false

def PiecesIn (w : World) (sp : Option Addr) (n : Nat) (C S K H : Nat → Int) : Prop := ∀ k, k < n → ∃ b o, sp = some ⟨b, o, none⟩ ∧ w.cell? ⟨b, o + k * 4, none⟩ = some (.int .i64 (C k)) ∧ w.cell? ⟨b, o + k * 4 + 1, none⟩ = some (.int .u8 (S k)) ∧ w.cell? ⟨b, o + k * 4 + 2, none⟩ = some (.int .i64 (K k)) ∧ w.cell? ⟨b, o + k * 4 + 3, none⟩ = some (.int .i64 (H k))
def Tab (w : World) : Prop := Lib.TabIs Tryd.prog w "internal/strconv.uint64pow10" .u64 Lib.pow10Tab
theorem gPow : Tryd.prog.globalNamed "internal/strconv.uint64pow10" = some 0 := by kernel_rfl
theorem tab_gb {w w1 : World} (h : Hid (Tab w)) (hb : w.grownBy w1 none) : Hid (Tab w1) := Joins.tab_stays gPow h (gb_below hb) (Nat.le_refl _)
theorem itoaC (m : Nat) (w : World) (h1 : 1 ≤ m) (h2 : m ≤ 1099511627776) (hT : Hid (Tab w)) : Calls Tryd.prog 7 #[.int .i64 (m : Nat)] w fun e w' => ∃ D, e = .returned (.string D) ∧ Hid ((∀ j, j < D.size → Sc.digitB (Sc.bt D j) = true) ∧ 0 < D.size ∧ D.size ≤ 21 ∧ Tx.vl 0 D.data.toList = m) ∧ w.grownBy w' none := by
  refine (Tryd.strconv_Itoa (m : Int) (by omega) (by omega) w hT.out).mono ?_
  rintro e w' ⟨rfl, k, os, rfl⟩
  obtain ⟨hD, hv, hne⟩ := itoa_pos h1 h2
  have hl := Lib.itoa_length_le (m : Int) (by omega) (by omega)
  have hz : (⟨(Lib.itoa (m : Int)).toArray⟩ : ByteArray).size = (Lib.itoa (m : Int)).length := by show (Lib.itoa (m : Int)).toArray.size = _; simp
  refine ⟨_, rfl, ⟨fun j hj => ?_, ?_, by rw [hz]; exact hl, hv⟩, gb_of_below (Lib.below_grow _ _ (Nat.le_refl _) _ _)⟩
  · obtain ⟨c, hc, hn⟩ := Sc.list_bt hj
    have hc' : (Lib.itoa (m : Int))[j]? = some c := hc
    have hm := List.mem_of_getElem? hc'
    unfold Tx.allD at hD
    have := (Tx.isD_iff c).1 (List.all_eq_true.1 hD c hm)
    unfold Sc.digitB
    rw [Sc.wi_iff, ← hn]; omega
  · rw [hz]; exact List.length_pos_iff.2 hne
theorem itoaZ (mz : Int) (m : Nat) (w : World) (hm : Hid (mz = (m : Int))) (h1 : 1 ≤ m) (h2 : m ≤ 1099511627776) (hT : Hid (Tab w)) : Calls Tryd.prog 7 #[.int .i64 mz] w fun e w' => ∃ D, e = .returned (.string D) ∧ Hid ((∀ j, j < D.size → Sc.digitB (Sc.bt D j) = true) ∧ 0 < D.size ∧ D.size ≤ 21 ∧ Tx.vl 0 D.data.toList = m) ∧ w.grownBy w' none := by
  rw [hm.out]
  exact itoaC m w h1 h2 hT
theorem tagTOk (n : Nat) (w : World) (hn : n < 256) : Calls Tryd.prog 6 #[.int .u8 n, .bool true] w fun e w' => ∃ tg, e = .returned (.string tg) ∧ Hid (tagOk tg = true ∧ tg.size ≤ 2) ∧ (oN (stOf tg) = n) ∧ oB (stOf tg) = true ∧ w.grownBy w' none := by
  refine (tagTC n w hn).mono ?_
  rintro e w' ⟨rfl, hg⟩
  have h := tagOk_T ⟨n, hn⟩
  refine ⟨_, rfl, ⟨h.1, ?_⟩, by rw [h.2]; rfl, by rw [h.2]; rfl, hg⟩
  have h1 := h.1
  unfold tagOk at h1
  simp only [Bool.and_eq_true, Bool.or_eq_true, decide_eq_true_eq] at h1
  obtain ⟨⟨⟨⟨⟨hsz, _⟩, _⟩, _⟩, _⟩, _⟩ := h1
  have : (tagT n).size = 1 ∨ (tagT n).size = 2 := hsz
  omega
theorem tagFOk (n : Nat) (w : World) (hn : n < 2) : Calls Tryd.prog 6 #[.int .u8 n, .bool false] w fun e w' => ∃ tg, e = .returned (.string tg) ∧ Hid (tagOk tg = true ∧ tg.size ≤ 2) ∧ (oN (stOf tg) = n) ∧ oB (stOf tg) = true ∧ w.grownBy w' none := by
  refine (tagFC n w).mono ?_
  rintro e w' ⟨rfl, hw⟩
  have h := tagOk_F ⟨n, hn⟩
  refine ⟨_, rfl, ⟨h.1, ?_⟩, by rw [h.2]; rfl, by rw [h.2]; rfl, by rw [hw]; exact World.grownBy.refl _ _⟩
  have h1 := h.1
  unfold tagOk at h1
  simp only [Bool.and_eq_true, Bool.or_eq_true, decide_eq_true_eq] at h1
  obtain ⟨⟨⟨⟨⟨hsz, _⟩, _⟩, _⟩, _⟩, _⟩ := h1
  have : (tagF n).size = 1 ∨ (tagF n).size = 2 := hsz
  omega
theorem keepB {a b : World} {r : Option Nat} {B : Nat} {o : Obj} (h : a.grownBy b r) (hb : a.heap[B]? = some o) (hne : some B ≠ r) : b.heap[B]? = some o := (h.block B (Array.getElem?_eq_some_iff.1 hb).1 hne).trans hb
theorem app_text (T D tg gp : ByteArray) : T ++ ((D ++ tg) ++ gp) = ((T ++ D) ++ tg) ++ gp := by rw [← ByteArray.append_assoc, ← ByteArray.append_assoc]
theorem app_empty (t : ByteArray) : (⟨#[]⟩ : ByteArray) ++ t = t := by
  refine Sc.ext (by rw [ByteArray.size_append]; exact Nat.zero_add _) fun i hi => ?_
  have := bt_app2 ⟨#[]⟩ t (j := i) (by rw [ByteArray.size_append] at hi; have e : (⟨#[]⟩ : ByteArray).size = 0 := rfl; omega)
  have e : (⟨#[]⟩ : ByteArray).size = 0 := rfl
  rw [e, Nat.zero_add] at this
  exact this
theorem app_text0 (T tg gp : ByteArray) : T ++ ((⟨#[]⟩ ++ tg) ++ gp) = (T ++ tg) ++ gp := by rw [app_empty, ← ByteArray.append_assoc]
/-- The white texts. -/
def gpF (q : Nat) : ByteArray := if q = 0 then ⟨#[]⟩ else if q = 1 then ⟨#[32]⟩ else if q = 2 then ⟨#[10]⟩ else ⟨#[13, 10, 9]⟩
theorem gpF_white : ∀ q : Fin 4, ((List.range 3).all fun j => decide ((gpF q.val).size ≤ j) || Sc.whiteB (Sc.bt (gpF q.val) j)) = true ∧ (gpF q.val).size ≤ 3 := by decide +kernel
theorem own_type {w : World} {base size n b : Nat} {v : Value} {xs : List Value} {c : Array Value} {t t' : TypeId} (h : w.ownsRow base t size v n xs) (hb : w.heap[b]? = some (.cells c t' (0, 0)) ∧ t ≠ t') (e : some b = v.ownBlock) : False := by
  rcases h.2 with ⟨rfl, _⟩ | ⟨g, cap, cur, rfl, _, hg, _⟩
  · cases e
  · cases e
    rw [hb.1] at hg
    simp only [Option.some.injEq, Obj.cells.injEq] at hg
    exact hb.2 hg.2.1.symm

set_option maxRecDepth 100000 in
set_option maxHeartbeats 20000000 in
theorem back_walk (n cap : Nat) (sp : Option Addr) (C S K H : Nat → Int) (hn : n ≤ 9223372036854775807) (u : ByteArray) (w : World) (ho : PiecesIn w sp n C S K H) (hS : ∀ k, k < n → 0 ≤ S k ∧ S k ≤ 255) (hu : u.size ≤ maxLen) (tp : TypeId) (p : Value) (hE : Hid (Er tp p w)) (hG : 6 < w.heap.size) (hT : Hid (Tab w)) :
    Calls Tryd.prog 3 #[.slice sp n cap, .string u] w fun e w' => e = .returned (.bool true) ∧ Below w.heap.size w w' := by
  obtain ⟨i0, hi⟩ := info_parts infoR3
  have HI : Hid (Tryd.prog.info? 30 = some i0 ∧ i0.zero = some (.agg #[.int .i64 0, .string ⟨#[]⟩, .int .i64 0]) ∧ i0.size = 3 ∧ i0.bytes = 32) := hi
  clear hi
  go_enter Tryd.func3, Tryd.ntmps3
  go_wp2_with (go_at_call 5; refine (awakeC _ tp p hE hG).mono ?_; rintro e w1 ⟨rfl, g1⟩)
  obtain ⟨X0, hX0⟩ : ∃ X0, w1.alloc (.cells #[.string ⟨#[]⟩, .string ⟨#[32]⟩, .string ⟨#[10]⟩, .string ⟨#[13, 10, 9]⟩] 9) = X0 := ⟨_, rfl⟩
  have hgap : X0.heap[w1.heap.size]? = some (.cells #[.string ⟨#[]⟩, .string ⟨#[32]⟩, .string ⟨#[10]⟩, .string ⟨#[13, 10, 9]⟩] 9 (0, 0)) := by rw [← hX0]; exact heap_alloc_new w1 _
  have gX : w.grownBy X0 none := by rw [← hX0]; exact gb_alloc g1 _
  have zB := g1.size
  rw [hX0]
  clear hX0
  generalize w1.heap.size = Bg at *
  go_loopw [7, 8, 9] (fun vt vw v wr => ∃ (k : Nat) (T : ByteArray) (R : List Rn), k ≤ n ∧ k ≤ 200 ∧ vt = .string T ∧ v = .int .i64 k ∧ T.size ≤ 26 * k ∧ R.length = k ∧ wr.ownsRow w.heap.size 30 3 vw R.length (rcs R) ∧ Hid (Rdn T R) ∧ wr.heap[Bg]? = some (.cells #[.string ⟨#[]⟩, .string ⟨#[32]⟩, .string ⟨#[10]⟩, .string ⟨#[13, 10, 9]⟩] 9 (0, 0)) ∧ w.grownBy wr none) (fun _ _ v _ => n - (intOf v).toNat)
  case atStart => exact ⟨0, ⟨#[]⟩, [], Nat.zero_le _, Nat.zero_le _, rfl, rfl, Nat.zero_le _, rfl, World.ownsRow_nil _ _ _ _, rdn_nil, hgap, gX⟩
  case round =>
    obtain ⟨k, T, R, hk, hk2, rfl, rfl, hTz, hRl, hown, HR, hgp, hg⟩ := hrel
    have hgz := hg.size
    have hTr : Hid (Tab wr) := tab_gb hT hg
    by_cases hlt : k < n ∧ k < 200
    · have h1 : (k : Int) < (n : Int) := by omega
      have h2 : (k : Int) < 200 := by omega
      obtain ⟨b0', o0, rfl, x0, x1, x2, x3⟩ := ho k hlt.1
      have hb0 := cell_lt x0
      have y0 := hg.cell x0 (by simp)
      have y1 := hg.cell x1 (by simp)
      have y2 := hg.cell x2 (by simp)
      have y3 := hg.cell x3 (by simp)
      have hs8 := hS k hlt.1
      clear x0 x1 x2 x3
      generalize C k = c at *
      generalize K k = kd at *
      generalize H k = hh at *
      obtain ⟨st, hst0⟩ : ∃ st : Nat, S k = st := ⟨(S k).toNat, by omega⟩
      rw [hst0] at y1 hs8
      have hst : st < 256 := by omega
      clear hst0 hs8
      obtain ⟨c1, hc1⟩ : ∃ c1, c.tmod 1099511627776 = c1 := ⟨_, rfl⟩
      have hc1a : -1099511627776 < c1 := by rw [← hc1]; exact Int.lt_tmod_of_pos c (by decide)
      have hc1b : c1 < 1099511627776 := by rw [← hc1]; exact Int.tmod_lt_of_pos c (by decide)
      obtain ⟨q, hc2⟩ : ∃ q : Nat, (c1 + 1099511627776).tmod 1099511627776 = (q : Int) := ⟨((c1 + 1099511627776).tmod 1099511627776).toNat, (Int.toNat_of_nonneg (Int.tmod_nonneg _ (by omega))).symm⟩
      have hqb : (q : Int) < 1099511627776 := by rw [← hc2]; exact Int.tmod_lt_of_pos _ (by decide)
      obtain ⟨mz, hm0⟩ : ∃ mz : Int, 1 + (q : Int) = mz := ⟨_, rfl⟩
      obtain ⟨m, hmz⟩ : ∃ m : Nat, Hid (mz = (m : Int)) := ⟨q + 1, by unfold Hid; omega⟩
      have hm1 : 1 ≤ m := by have := hmz.out; omega
      have hm2 : m ≤ 1099511627776 := by have := hmz.out; omega
      have hmzb : mz ≤ 1099511627776 := by omega
      have hmza : 1 ≤ mz := by omega
      obtain ⟨d1, hd1⟩ : ∃ d1, hh.tmod 4 = d1 := ⟨_, rfl⟩
      have hd1a : -4 < d1 := by rw [← hd1]; exact Int.lt_tmod_of_pos hh (by decide)
      have hd1b : d1 < 4 := by rw [← hd1]; exact Int.tmod_lt_of_pos hh (by decide)
      obtain ⟨q4, hd2⟩ : ∃ q4 : Nat, (d1 + 4).tmod 4 = (q4 : Int) := ⟨((d1 + 4).tmod 4).toNat, (Int.toNat_of_nonneg (Int.tmod_nonneg _ (by omega))).symm⟩
      have hq4 : q4 < 4 := by
        have : (q4 : Int) < 4 := by rw [← hd2]; exact Int.tmod_lt_of_pos _ (by decide)
        omega
      have hq4' : (q4 : Int) < 4 := by omega
      have gq : wr.cell? ⟨Bg, q4, none⟩ = some (.string (gpF q4)) := by
        simp only [World.cell?, hgp]
        rcases (by omega : q4 = 0 ∨ q4 = 1 ∨ q4 = 2 ∨ q4 = 3) with rfl | rfl | rfl | rfl <;> rfl
      have hgw := gpF_white ⟨q4, hq4⟩
      have hgw3 : (gpF q4).size ≤ 3 := hgw.2
      have HGW : Hid (∀ j, j < (gpF q4).size → Sc.whiteB (Sc.bt (gpF q4) j) = true) := fun j hj => by
        have h3 := List.all_eq_true.1 hgw.1 j (List.mem_range.2 (by show j < 3; omega))
        rw [Bool.or_eq_true, decide_eq_true_eq] at h3
        rcases h3 with h3 | h3
        · have : (gpF q4).size ≤ j := h3
          omega
        · exact h3
      clear hgw
      generalize gpF q4 = gp at *
      have nB : some Bg ≠ u8.ownBlock := fun e => own_type hown ⟨hgp, by decide⟩ e
      have n0 : some b0' ≠ u8.ownBlock := fun e => by have := (hown.lt b0' e.symm).1; have hb0' : b0' < w.heap.size := hb0; omega
      clear ho hS
      go_upto_region 9 with (fail)
      clear hm0 hc1 hc2 hqb hc1a hc1b
      obtain ⟨r3, hr3⟩ : ∃ r3, kd.tmod 3 = r3 := ⟨_, rfl⟩
      obtain ⟨r2, hr2⟩ : ∃ r2, kd.tmod 2 = r2 := ⟨_, rfl⟩
      by_cases k1 : r3 = 1
      · have e1 : (r3 == 1) = true := by simp; omega
        have e2 : (r3 == 2) = false := by simp; omega
        by_cases dA : 1 < m
        · have n1 : (1 : Int) < mz := by have := hmz.out; omega
          have m1 : Hid (1 < m) := dA
          clear dA
          go_wp2_with (first
            | (go_at_call 6; refine (tagTOk st _ hst).mono ?_; rintro e w2 ⟨tg, rfl, HT, hsN, hsB, g2⟩; have ht1 := HT.out.2; obtain ⟨W3, hW3, sz3, g3, hB3⟩ := box3 w2 (.int .i64 mz) (.string tg) (.int .i64 (T.size : Nat)) 30; have T3 : Hid (Tab W3) := tab_gb (tab_gb hTr g2) g3; have hgp3 := keepB g3 (keepB g2 hgp (by simp)) (by simp); have own3 := (hown.kept g2 (Classical.em _)).kept g3 (Classical.em _); have q3 := g3.size; have z0 := hB3.c0; have z1 := hB3.c1; have z2 := hB3.c2; have hz3 : w.heap.size ≤ W3.heap.size := Nat.le_trans hgz (Nat.le_trans g2.size q3); have y0s := g2.cell y0 (by simp); have y1s := g2.cell y1 (by simp); have y2s := g2.cell y2 (by simp); have y3s := g2.cell y3 (by simp); have gqs := g2.cell gq (by simp); have y0t := g3.cell y0s (by simp); have y1t := g3.cell y1s (by simp); have y2t := g3.cell y2s (by simp); have y3t := g3.cell y3s (by simp); have gqt := g3.cell gqs (by simp))
            | (go_at_call 7; refine (itoaZ mz m _ hmz hm1 hm2 T3).mono ?_; rintro e w4 ⟨D, rfl, HD, g4⟩; have hd1 := HD.out.2.2.1; have zz1 : ¬ 9223372036854775807 < T.size + D.size := (by omega); have zz2 : ¬ 9223372036854775807 < T.size + D.size + tg.size := (by omega); have zz3 : ¬ 9223372036854775807 < T.size + D.size + tg.size + gp.size := (by omega); have hgp4 := keepB g4 hgp3 (by simp); have hB4 := hB3.kept g4 (by simp); have own4 := own3.kept g4 (Classical.em _); have b0 := hB4.c0; have b1 := hB4.c1; have b2 := hB4.c2; have hz4 : w.heap.size ≤ w4.heap.size := Nat.le_trans hz3 g4.size; have y0u := g4.cell y0t (by simp); have y1u := g4.cell y1t (by simp); have y2u := g4.cell y2t (by simp); have y3u := g4.cell y3t (by simp); have gqu := g4.cell gqt (by simp))
            | (at_builtin; refine wpList_append_own _ rfl _ _ 25 rfl w.heap.size 30 i0 (.agg #[.int .i64 0, .string ⟨#[]⟩, .int .i64 0]) 3 32 underRunS HI.out.1 HI.out.2.1 HI.out.2.2.1 HI.out.2.2.2 rfl (by decide) _ _ _ rfl (own4.alloc _) ⟨w4.heap.size, 0, none⟩ 1 1 [.int .i64 mz, .string tg, .int .i64 (T.size : Nat)] rfl rfl (new3 _ _ _ _ _) ?_ ?_ ?_ ?_ ?_; rotate_right; intro v5 w5 hown5 hgrow5 hnil5; have HA := own4.alloc (.cells #[.int .i64 mz, .string tg, .int .i64 (T.size : Nat)] 30); have ga := World.grownBy_alloc w4 (.cells #[.int .i64 mz, .string tg, .int .i64 (T.size : Nat)] 30) none; have y0w := hgrow5.cell (ga.cell y0u (by simp)) n0; have y1w := hgrow5.cell (ga.cell y1u (by simp)) n0; have y2w := hgrow5.cell (ga.cell y2u (by simp)) n0; have y3w := hgrow5.cell (ga.cell y3u (by simp)) n0; have gqw := hgrow5.cell (ga.cell gqu (by simp)) nB; have hgp5 := keepB hgrow5 (keepB ga hgp4 (by simp)) nB; have G5 := gb_row (gb_trans (gb_trans (gb_trans hg g2) (gb_trans g3 g4)) ga) hgrow5 (fun i e => (HA.lt i e).1))
            | (go_at_call 8; refine (stateC _ _).mono ?_; rintro e w6 ⟨rfl, k6, rfl⟩))
          · go_roundw
            case rel =>
              have hz1 := ByteArray.size_append (a := T ++ D) (b := tg)
              have hz2 := ByteArray.size_append (a := T ++ D ++ tg) (b := gp)
              have hz0 := ByteArray.size_append (a := T) (b := D)
              skip
              refine ⟨k + 1, _, R ++ [(m, tg, T.size)], by omega, by omega, rfl, by go_num, by omega, by rw [List.length_append, hRl]; rfl, ?_, ?_, hgp5, gb_drewN G5 _⟩
              · rw [rcs_snoc, List.length_append]
                rw [hmz.out] at hown5
                exact hown5
              · have h9 := rdn_step HR.out D tg gp m HD.out.1 HT.out.1 HGW.out (.inr ⟨HD.out.2.1, HD.out.2.2.2, hm1, hm2⟩)
                rw [app_text] at h9
                exact h9
            case measure => simp [intOf]; omega
          · first
            | exact ⟨rfl, rfl, rfl⟩
            | (intro u hu
               simp at hu
               rcases hu with rfl | rfl | rfl <;> rfl)
          · unfold maxLen; omega
          · omega
          · first | omega | (simp; omega)
        by_cases dB : r2 = 0
        · have n1 : ¬ (1 : Int) < mz := by have := hmz.out; omega
          have n2 : (r2 == 0) = true := by simp; omega
          clear dA dB
          go_wp2_with (first
            | (go_at_call 6; refine (tagTOk st _ hst).mono ?_; rintro e w2 ⟨tg, rfl, HT, hsN, hsB, g2⟩; have ht1 := HT.out.2; obtain ⟨W3, hW3, sz3, g3, hB3⟩ := box3 w2 (.int .i64 mz) (.string tg) (.int .i64 (T.size : Nat)) 30; have T3 : Hid (Tab W3) := tab_gb (tab_gb hTr g2) g3; have hgp3 := keepB g3 (keepB g2 hgp (by simp)) (by simp); have own3 := (hown.kept g2 (Classical.em _)).kept g3 (Classical.em _); have q3 := g3.size; have z0 := hB3.c0; have z1 := hB3.c1; have z2 := hB3.c2; have hz3 : w.heap.size ≤ W3.heap.size := Nat.le_trans hgz (Nat.le_trans g2.size q3); have y0s := g2.cell y0 (by simp); have y1s := g2.cell y1 (by simp); have y2s := g2.cell y2 (by simp); have y3s := g2.cell y3 (by simp); have gqs := g2.cell gq (by simp); have y0t := g3.cell y0s (by simp); have y1t := g3.cell y1s (by simp); have y2t := g3.cell y2s (by simp); have y3t := g3.cell y3s (by simp); have gqt := g3.cell gqs (by simp))
            | (go_at_call 7; refine (itoaZ mz m _ hmz hm1 hm2 T3).mono ?_; rintro e w4 ⟨D, rfl, HD, g4⟩; have hd1 := HD.out.2.2.1; have zz1 : ¬ 9223372036854775807 < T.size + D.size := (by omega); have zz2 : ¬ 9223372036854775807 < T.size + D.size + tg.size := (by omega); have zz3 : ¬ 9223372036854775807 < T.size + D.size + tg.size + gp.size := (by omega); have hgp4 := keepB g4 hgp3 (by simp); have hB4 := hB3.kept g4 (by simp); have own4 := own3.kept g4 (Classical.em _); have b0 := hB4.c0; have b1 := hB4.c1; have b2 := hB4.c2; have hz4 : w.heap.size ≤ w4.heap.size := Nat.le_trans hz3 g4.size; have y0u := g4.cell y0t (by simp); have y1u := g4.cell y1t (by simp); have y2u := g4.cell y2t (by simp); have y3u := g4.cell y3t (by simp); have gqu := g4.cell gqt (by simp))
            | (at_builtin; refine wpList_append_own _ rfl _ _ 25 rfl w.heap.size 30 i0 (.agg #[.int .i64 0, .string ⟨#[]⟩, .int .i64 0]) 3 32 underRunS HI.out.1 HI.out.2.1 HI.out.2.2.1 HI.out.2.2.2 rfl (by decide) _ _ _ rfl (own4.alloc _) ⟨w4.heap.size, 0, none⟩ 1 1 [.int .i64 mz, .string tg, .int .i64 (T.size : Nat)] rfl rfl (new3 _ _ _ _ _) ?_ ?_ ?_ ?_ ?_; rotate_right; intro v5 w5 hown5 hgrow5 hnil5; have HA := own4.alloc (.cells #[.int .i64 mz, .string tg, .int .i64 (T.size : Nat)] 30); have ga := World.grownBy_alloc w4 (.cells #[.int .i64 mz, .string tg, .int .i64 (T.size : Nat)] 30) none; have y0w := hgrow5.cell (ga.cell y0u (by simp)) n0; have y1w := hgrow5.cell (ga.cell y1u (by simp)) n0; have y2w := hgrow5.cell (ga.cell y2u (by simp)) n0; have y3w := hgrow5.cell (ga.cell y3u (by simp)) n0; have gqw := hgrow5.cell (ga.cell gqu (by simp)) nB; have hgp5 := keepB hgrow5 (keepB ga hgp4 (by simp)) nB; have G5 := gb_row (gb_trans (gb_trans (gb_trans hg g2) (gb_trans g3 g4)) ga) hgrow5 (fun i e => (HA.lt i e).1))
            | (go_at_call 8; refine (stateC _ _).mono ?_; rintro e w6 ⟨rfl, k6, rfl⟩))
          · go_roundw
            case rel =>
              have hz1 := ByteArray.size_append (a := T ++ D) (b := tg)
              have hz2 := ByteArray.size_append (a := T ++ D ++ tg) (b := gp)
              have hz0 := ByteArray.size_append (a := T) (b := D)
              skip
              refine ⟨k + 1, _, R ++ [(m, tg, T.size)], by omega, by omega, rfl, by go_num, by omega, by rw [List.length_append, hRl]; rfl, ?_, ?_, hgp5, gb_drewN G5 _⟩
              · rw [rcs_snoc, List.length_append]
                rw [hmz.out] at hown5
                exact hown5
              · have h9 := rdn_step HR.out D tg gp m HD.out.1 HT.out.1 HGW.out (.inr ⟨HD.out.2.1, HD.out.2.2.2, hm1, hm2⟩)
                rw [app_text] at h9
                exact h9
            case measure => simp [intOf]; omega
          · first
            | exact ⟨rfl, rfl, rfl⟩
            | (intro u hu
               simp at hu
               rcases hu with rfl | rfl | rfl <;> rfl)
          · unfold maxLen; omega
          · omega
          · first | omega | (simp; omega)
        · have m1 : Hid (m = 1) := by unfold Hid; omega
          have n1 : ¬ (1 : Int) < mz := by have := hmz.out; omega
          have n2 : (r2 == 0) = false := by simp; omega
          clear dA dB
          go_wp2_with (first
            | (go_at_call 6; refine (tagTOk st _ hst).mono ?_; rintro e w2 ⟨tg, rfl, HT, hsN, hsB, g2⟩; have ht1 := HT.out.2; obtain ⟨W3, hW3, sz3, g3, hB3⟩ := box3 w2 (.int .i64 mz) (.string tg) (.int .i64 (T.size : Nat)) 30; have T3 : Hid (Tab W3) := tab_gb (tab_gb hTr g2) g3; have hgp3 := keepB g3 (keepB g2 hgp (by simp)) (by simp); have own3 := (hown.kept g2 (Classical.em _)).kept g3 (Classical.em _); have q3 := g3.size; have z0 := hB3.c0; have z1 := hB3.c1; have z2 := hB3.c2; have hz3 : w.heap.size ≤ W3.heap.size := Nat.le_trans hgz (Nat.le_trans g2.size q3); have y0s := g2.cell y0 (by simp); have y1s := g2.cell y1 (by simp); have y2s := g2.cell y2 (by simp); have y3s := g2.cell y3 (by simp); have gqs := g2.cell gq (by simp); have y0t := g3.cell y0s (by simp); have y1t := g3.cell y1s (by simp); have y2t := g3.cell y2s (by simp); have y3t := g3.cell y3s (by simp); have gqt := g3.cell gqs (by simp); have zz2 : ¬ 9223372036854775807 < T.size + tg.size := (by omega); have zz3 : ¬ 9223372036854775807 < T.size + tg.size + gp.size := (by omega))
            | (at_builtin; refine wpList_append_own _ rfl _ _ 25 rfl w.heap.size 30 i0 (.agg #[.int .i64 0, .string ⟨#[]⟩, .int .i64 0]) 3 32 underRunS HI.out.1 HI.out.2.1 HI.out.2.2.1 HI.out.2.2.2 rfl (by decide) _ _ _ rfl (own3.alloc _) ⟨W3.heap.size, 0, none⟩ 1 1 [.int .i64 mz, .string tg, .int .i64 (T.size : Nat)] rfl rfl (new3 _ _ _ _ _) ?_ ?_ ?_ ?_ ?_; rotate_right; intro v5 w5 hown5 hgrow5 hnil5; have HA := own3.alloc (.cells #[.int .i64 mz, .string tg, .int .i64 (T.size : Nat)] 30); have ga := World.grownBy_alloc W3 (.cells #[.int .i64 mz, .string tg, .int .i64 (T.size : Nat)] 30) none; have y0w := hgrow5.cell (ga.cell y0t (by simp)) n0; have y1w := hgrow5.cell (ga.cell y1t (by simp)) n0; have y2w := hgrow5.cell (ga.cell y2t (by simp)) n0; have y3w := hgrow5.cell (ga.cell y3t (by simp)) n0; have gqw := hgrow5.cell (ga.cell gqt (by simp)) nB; have hgp5 := keepB hgrow5 (keepB ga hgp3 (by simp)) nB; have G5 := gb_row (gb_trans (gb_trans (gb_trans hg g2) g3) ga) hgrow5 (fun i e => (HA.lt i e).1))
            | (go_at_call 8; refine (stateC _ _).mono ?_; rintro e w6 ⟨rfl, k6, rfl⟩))
          · go_roundw
            case rel =>
              have hz1 := ByteArray.size_append (a := T) (b := tg)
              have hz2 := ByteArray.size_append (a := T ++ tg) (b := gp)
              skip
              skip
              refine ⟨k + 1, _, R ++ [(m, tg, T.size)], by omega, by omega, rfl, by go_num, by omega, by rw [List.length_append, hRl]; rfl, ?_, ?_, hgp5, gb_drewN G5 _⟩
              · rw [rcs_snoc, List.length_append]
                rw [hmz.out] at hown5
                exact hown5
              · have h9 := rdn_step HR.out ⟨#[]⟩ tg gp m (fun j hj => absurd hj (Nat.not_lt_zero _)) HT.out.1 HGW.out (.inl ⟨rfl, m1.out⟩)
                rw [app_text0] at h9
                exact h9
            case measure => simp [intOf]; omega
          · first
            | exact ⟨rfl, rfl, rfl⟩
            | (intro u hu
               simp at hu
               rcases hu with rfl | rfl | rfl <;> rfl)
          · unfold maxLen; omega
          · omega
          · first | omega | (simp; omega)
      by_cases k2 : r3 = 2
      · have e1 : (r3 == 1) = false := by simp; omega
        have e2 : (r3 == 2) = true := by simp; omega
        by_cases dA : 1 < m
        · have n1 : (1 : Int) < mz := by have := hmz.out; omega
          have m1 : Hid (1 < m) := dA
          clear dA
          go_wp2_with (first
            | (go_at_call 6; refine (tagFOk (st % 2) _ (by omega)).mono ?_; rintro e w2 ⟨tg, rfl, HT, hsN, hsB, g2⟩; have ht1 := HT.out.2; obtain ⟨W3, hW3, sz3, g3, hB3⟩ := box3 w2 (.int .i64 mz) (.string tg) (.int .i64 (T.size : Nat)) 30; have T3 : Hid (Tab W3) := tab_gb (tab_gb hTr g2) g3; have hgp3 := keepB g3 (keepB g2 hgp (by simp)) (by simp); have own3 := (hown.kept g2 (Classical.em _)).kept g3 (Classical.em _); have q3 := g3.size; have z0 := hB3.c0; have z1 := hB3.c1; have z2 := hB3.c2; have hz3 : w.heap.size ≤ W3.heap.size := Nat.le_trans hgz (Nat.le_trans g2.size q3); have y0s := g2.cell y0 (by simp); have y1s := g2.cell y1 (by simp); have y2s := g2.cell y2 (by simp); have y3s := g2.cell y3 (by simp); have gqs := g2.cell gq (by simp); have y0t := g3.cell y0s (by simp); have y1t := g3.cell y1s (by simp); have y2t := g3.cell y2s (by simp); have y3t := g3.cell y3s (by simp); have gqt := g3.cell gqs (by simp))
            | (go_at_call 7; refine (itoaZ mz m _ hmz hm1 hm2 T3).mono ?_; rintro e w4 ⟨D, rfl, HD, g4⟩; have hd1 := HD.out.2.2.1; have zz1 : ¬ 9223372036854775807 < T.size + D.size := (by omega); have zz2 : ¬ 9223372036854775807 < T.size + D.size + tg.size := (by omega); have zz3 : ¬ 9223372036854775807 < T.size + D.size + tg.size + gp.size := (by omega); have hgp4 := keepB g4 hgp3 (by simp); have hB4 := hB3.kept g4 (by simp); have own4 := own3.kept g4 (Classical.em _); have b0 := hB4.c0; have b1 := hB4.c1; have b2 := hB4.c2; have hz4 : w.heap.size ≤ w4.heap.size := Nat.le_trans hz3 g4.size; have y0u := g4.cell y0t (by simp); have y1u := g4.cell y1t (by simp); have y2u := g4.cell y2t (by simp); have y3u := g4.cell y3t (by simp); have gqu := g4.cell gqt (by simp))
            | (at_builtin; refine wpList_append_own _ rfl _ _ 25 rfl w.heap.size 30 i0 (.agg #[.int .i64 0, .string ⟨#[]⟩, .int .i64 0]) 3 32 underRunS HI.out.1 HI.out.2.1 HI.out.2.2.1 HI.out.2.2.2 rfl (by decide) _ _ _ rfl (own4.alloc _) ⟨w4.heap.size, 0, none⟩ 1 1 [.int .i64 mz, .string tg, .int .i64 (T.size : Nat)] rfl rfl (new3 _ _ _ _ _) ?_ ?_ ?_ ?_ ?_; rotate_right; intro v5 w5 hown5 hgrow5 hnil5; have HA := own4.alloc (.cells #[.int .i64 mz, .string tg, .int .i64 (T.size : Nat)] 30); have ga := World.grownBy_alloc w4 (.cells #[.int .i64 mz, .string tg, .int .i64 (T.size : Nat)] 30) none; have y0w := hgrow5.cell (ga.cell y0u (by simp)) n0; have y1w := hgrow5.cell (ga.cell y1u (by simp)) n0; have y2w := hgrow5.cell (ga.cell y2u (by simp)) n0; have y3w := hgrow5.cell (ga.cell y3u (by simp)) n0; have gqw := hgrow5.cell (ga.cell gqu (by simp)) nB; have hgp5 := keepB hgrow5 (keepB ga hgp4 (by simp)) nB; have G5 := gb_row (gb_trans (gb_trans (gb_trans hg g2) (gb_trans g3 g4)) ga) hgrow5 (fun i e => (HA.lt i e).1))
            | (go_at_call 8; refine (stateC _ _).mono ?_; rintro e w6 ⟨rfl, k6, rfl⟩))
          · go_roundw
            case rel =>
              have hz1 := ByteArray.size_append (a := T ++ D) (b := tg)
              have hz2 := ByteArray.size_append (a := T ++ D ++ tg) (b := gp)
              have hz0 := ByteArray.size_append (a := T) (b := D)
              skip
              refine ⟨k + 1, _, R ++ [(m, tg, T.size)], by omega, by omega, rfl, by go_num, by omega, by rw [List.length_append, hRl]; rfl, ?_, ?_, hgp5, gb_drewN G5 _⟩
              · rw [rcs_snoc, List.length_append]
                rw [hmz.out] at hown5
                exact hown5
              · have h9 := rdn_step HR.out D tg gp m HD.out.1 HT.out.1 HGW.out (.inr ⟨HD.out.2.1, HD.out.2.2.2, hm1, hm2⟩)
                rw [app_text] at h9
                exact h9
            case measure => simp [intOf]; omega
          · first
            | exact ⟨rfl, rfl, rfl⟩
            | (intro u hu
               simp at hu
               rcases hu with rfl | rfl | rfl <;> rfl)
          · unfold maxLen; omega
          · omega
          · first | omega | (simp; omega)
        by_cases dB : r2 = 0
        · have n1 : ¬ (1 : Int) < mz := by have := hmz.out; omega
          have n2 : (r2 == 0) = true := by simp; omega
          clear dA dB
          go_wp2_with (first
            | (go_at_call 6; refine (tagFOk (st % 2) _ (by omega)).mono ?_; rintro e w2 ⟨tg, rfl, HT, hsN, hsB, g2⟩; have ht1 := HT.out.2; obtain ⟨W3, hW3, sz3, g3, hB3⟩ := box3 w2 (.int .i64 mz) (.string tg) (.int .i64 (T.size : Nat)) 30; have T3 : Hid (Tab W3) := tab_gb (tab_gb hTr g2) g3; have hgp3 := keepB g3 (keepB g2 hgp (by simp)) (by simp); have own3 := (hown.kept g2 (Classical.em _)).kept g3 (Classical.em _); have q3 := g3.size; have z0 := hB3.c0; have z1 := hB3.c1; have z2 := hB3.c2; have hz3 : w.heap.size ≤ W3.heap.size := Nat.le_trans hgz (Nat.le_trans g2.size q3); have y0s := g2.cell y0 (by simp); have y1s := g2.cell y1 (by simp); have y2s := g2.cell y2 (by simp); have y3s := g2.cell y3 (by simp); have gqs := g2.cell gq (by simp); have y0t := g3.cell y0s (by simp); have y1t := g3.cell y1s (by simp); have y2t := g3.cell y2s (by simp); have y3t := g3.cell y3s (by simp); have gqt := g3.cell gqs (by simp))
            | (go_at_call 7; refine (itoaZ mz m _ hmz hm1 hm2 T3).mono ?_; rintro e w4 ⟨D, rfl, HD, g4⟩; have hd1 := HD.out.2.2.1; have zz1 : ¬ 9223372036854775807 < T.size + D.size := (by omega); have zz2 : ¬ 9223372036854775807 < T.size + D.size + tg.size := (by omega); have zz3 : ¬ 9223372036854775807 < T.size + D.size + tg.size + gp.size := (by omega); have hgp4 := keepB g4 hgp3 (by simp); have hB4 := hB3.kept g4 (by simp); have own4 := own3.kept g4 (Classical.em _); have b0 := hB4.c0; have b1 := hB4.c1; have b2 := hB4.c2; have hz4 : w.heap.size ≤ w4.heap.size := Nat.le_trans hz3 g4.size; have y0u := g4.cell y0t (by simp); have y1u := g4.cell y1t (by simp); have y2u := g4.cell y2t (by simp); have y3u := g4.cell y3t (by simp); have gqu := g4.cell gqt (by simp))
            | (at_builtin; refine wpList_append_own _ rfl _ _ 25 rfl w.heap.size 30 i0 (.agg #[.int .i64 0, .string ⟨#[]⟩, .int .i64 0]) 3 32 underRunS HI.out.1 HI.out.2.1 HI.out.2.2.1 HI.out.2.2.2 rfl (by decide) _ _ _ rfl (own4.alloc _) ⟨w4.heap.size, 0, none⟩ 1 1 [.int .i64 mz, .string tg, .int .i64 (T.size : Nat)] rfl rfl (new3 _ _ _ _ _) ?_ ?_ ?_ ?_ ?_; rotate_right; intro v5 w5 hown5 hgrow5 hnil5; have HA := own4.alloc (.cells #[.int .i64 mz, .string tg, .int .i64 (T.size : Nat)] 30); have ga := World.grownBy_alloc w4 (.cells #[.int .i64 mz, .string tg, .int .i64 (T.size : Nat)] 30) none; have y0w := hgrow5.cell (ga.cell y0u (by simp)) n0; have y1w := hgrow5.cell (ga.cell y1u (by simp)) n0; have y2w := hgrow5.cell (ga.cell y2u (by simp)) n0; have y3w := hgrow5.cell (ga.cell y3u (by simp)) n0; have gqw := hgrow5.cell (ga.cell gqu (by simp)) nB; have hgp5 := keepB hgrow5 (keepB ga hgp4 (by simp)) nB; have G5 := gb_row (gb_trans (gb_trans (gb_trans hg g2) (gb_trans g3 g4)) ga) hgrow5 (fun i e => (HA.lt i e).1))
            | (go_at_call 8; refine (stateC _ _).mono ?_; rintro e w6 ⟨rfl, k6, rfl⟩))
          · go_roundw
            case rel =>
              have hz1 := ByteArray.size_append (a := T ++ D) (b := tg)
              have hz2 := ByteArray.size_append (a := T ++ D ++ tg) (b := gp)
              have hz0 := ByteArray.size_append (a := T) (b := D)
              skip
              refine ⟨k + 1, _, R ++ [(m, tg, T.size)], by omega, by omega, rfl, by go_num, by omega, by rw [List.length_append, hRl]; rfl, ?_, ?_, hgp5, gb_drewN G5 _⟩
              · rw [rcs_snoc, List.length_append]
                rw [hmz.out] at hown5
                exact hown5
              · have h9 := rdn_step HR.out D tg gp m HD.out.1 HT.out.1 HGW.out (.inr ⟨HD.out.2.1, HD.out.2.2.2, hm1, hm2⟩)
                rw [app_text] at h9
                exact h9
            case measure => simp [intOf]; omega
          · first
            | exact ⟨rfl, rfl, rfl⟩
            | (intro u hu
               simp at hu
               rcases hu with rfl | rfl | rfl <;> rfl)
          · unfold maxLen; omega
          · omega
          · first | omega | (simp; omega)
        · have m1 : Hid (m = 1) := by unfold Hid; omega
          have n1 : ¬ (1 : Int) < mz := by have := hmz.out; omega
          have n2 : (r2 == 0) = false := by simp; omega
          clear dA dB
          go_wp2_with (first
            | (go_at_call 6; refine (tagFOk (st % 2) _ (by omega)).mono ?_; rintro e w2 ⟨tg, rfl, HT, hsN, hsB, g2⟩; have ht1 := HT.out.2; obtain ⟨W3, hW3, sz3, g3, hB3⟩ := box3 w2 (.int .i64 mz) (.string tg) (.int .i64 (T.size : Nat)) 30; have T3 : Hid (Tab W3) := tab_gb (tab_gb hTr g2) g3; have hgp3 := keepB g3 (keepB g2 hgp (by simp)) (by simp); have own3 := (hown.kept g2 (Classical.em _)).kept g3 (Classical.em _); have q3 := g3.size; have z0 := hB3.c0; have z1 := hB3.c1; have z2 := hB3.c2; have hz3 : w.heap.size ≤ W3.heap.size := Nat.le_trans hgz (Nat.le_trans g2.size q3); have y0s := g2.cell y0 (by simp); have y1s := g2.cell y1 (by simp); have y2s := g2.cell y2 (by simp); have y3s := g2.cell y3 (by simp); have gqs := g2.cell gq (by simp); have y0t := g3.cell y0s (by simp); have y1t := g3.cell y1s (by simp); have y2t := g3.cell y2s (by simp); have y3t := g3.cell y3s (by simp); have gqt := g3.cell gqs (by simp); have zz2 : ¬ 9223372036854775807 < T.size + tg.size := (by omega); have zz3 : ¬ 9223372036854775807 < T.size + tg.size + gp.size := (by omega))
            | (at_builtin; refine wpList_append_own _ rfl _ _ 25 rfl w.heap.size 30 i0 (.agg #[.int .i64 0, .string ⟨#[]⟩, .int .i64 0]) 3 32 underRunS HI.out.1 HI.out.2.1 HI.out.2.2.1 HI.out.2.2.2 rfl (by decide) _ _ _ rfl (own3.alloc _) ⟨W3.heap.size, 0, none⟩ 1 1 [.int .i64 mz, .string tg, .int .i64 (T.size : Nat)] rfl rfl (new3 _ _ _ _ _) ?_ ?_ ?_ ?_ ?_; rotate_right; intro v5 w5 hown5 hgrow5 hnil5; have HA := own3.alloc (.cells #[.int .i64 mz, .string tg, .int .i64 (T.size : Nat)] 30); have ga := World.grownBy_alloc W3 (.cells #[.int .i64 mz, .string tg, .int .i64 (T.size : Nat)] 30) none; have y0w := hgrow5.cell (ga.cell y0t (by simp)) n0; have y1w := hgrow5.cell (ga.cell y1t (by simp)) n0; have y2w := hgrow5.cell (ga.cell y2t (by simp)) n0; have y3w := hgrow5.cell (ga.cell y3t (by simp)) n0; have gqw := hgrow5.cell (ga.cell gqt (by simp)) nB; have hgp5 := keepB hgrow5 (keepB ga hgp3 (by simp)) nB; have G5 := gb_row (gb_trans (gb_trans (gb_trans hg g2) g3) ga) hgrow5 (fun i e => (HA.lt i e).1))
            | (go_at_call 8; refine (stateC _ _).mono ?_; rintro e w6 ⟨rfl, k6, rfl⟩))
          · go_roundw
            case rel =>
              have hz1 := ByteArray.size_append (a := T) (b := tg)
              have hz2 := ByteArray.size_append (a := T ++ tg) (b := gp)
              skip
              skip
              refine ⟨k + 1, _, R ++ [(m, tg, T.size)], by omega, by omega, rfl, by go_num, by omega, by rw [List.length_append, hRl]; rfl, ?_, ?_, hgp5, gb_drewN G5 _⟩
              · rw [rcs_snoc, List.length_append]
                rw [hmz.out] at hown5
                exact hown5
              · have h9 := rdn_step HR.out ⟨#[]⟩ tg gp m (fun j hj => absurd hj (Nat.not_lt_zero _)) HT.out.1 HGW.out (.inl ⟨rfl, m1.out⟩)
                rw [app_text0] at h9
                exact h9
            case measure => simp [intOf]; omega
          · first
            | exact ⟨rfl, rfl, rfl⟩
            | (intro u hu
               simp at hu
               rcases hu with rfl | rfl | rfl <;> rfl)
          · unfold maxLen; omega
          · omega
          · first | omega | (simp; omega)
      · skip
        have e1 : (r3 == 1) = false := by simp; omega
        have e2 : (r3 == 2) = false := by simp; omega
        by_cases dA : 1 < m
        · have n1 : (1 : Int) < mz := by have := hmz.out; omega
          have m1 : Hid (1 < m) := dA
          clear dA
          obtain ⟨W3, hW3, sz3, g3, hB3⟩ := box3 wr (.int .i64 mz) (.string ⟨#[36]⟩) (.int .i64 (T.size : Nat)) 30
          have T3 : Hid (Tab W3) := tab_gb hTr g3
          have hgp3 := keepB g3 hgp (by simp)
          have own3 := hown.kept g3 (Classical.em _)
          have q3 := g3.size
          have z0 := hB3.c0
          have z1 := hB3.c1
          have z2 := hB3.c2
          have hz3 : w.heap.size ≤ W3.heap.size := Nat.le_trans hgz q3
          have y0t := g3.cell y0 (by simp)
          have y1t := g3.cell y1 (by simp)
          have y2t := g3.cell y2 (by simp)
          have y3t := g3.cell y3 (by simp)
          have gqt := g3.cell gq (by simp)
          go_wp2_with (first
            | (go_at_call 7; refine (itoaZ mz m _ hmz hm1 hm2 T3).mono ?_; rintro e w4 ⟨D, rfl, HD, g4⟩; have hd1 := HD.out.2.2.1; have zz1 : ¬ 9223372036854775807 < T.size + D.size := (by omega); have zz2 : ¬ 9223372036854775807 < T.size + D.size + 1 := (by omega); have zz3 : ¬ 9223372036854775807 < T.size + D.size + 1 + gp.size := (by omega); have hgp4 := keepB g4 hgp3 (by simp); have hB4 := hB3.kept g4 (by simp); have own4 := own3.kept g4 (Classical.em _); have b0 := hB4.c0; have b1 := hB4.c1; have b2 := hB4.c2; have hz4 : w.heap.size ≤ w4.heap.size := Nat.le_trans hz3 g4.size; have y0u := g4.cell y0t (by simp); have y1u := g4.cell y1t (by simp); have y2u := g4.cell y2t (by simp); have y3u := g4.cell y3t (by simp); have gqu := g4.cell gqt (by simp))
            | (at_builtin; refine wpList_append_own _ rfl _ _ 25 rfl w.heap.size 30 i0 (.agg #[.int .i64 0, .string ⟨#[]⟩, .int .i64 0]) 3 32 underRunS HI.out.1 HI.out.2.1 HI.out.2.2.1 HI.out.2.2.2 rfl (by decide) _ _ _ rfl (own4.alloc _) ⟨w4.heap.size, 0, none⟩ 1 1 [.int .i64 mz, .string ⟨#[36]⟩, .int .i64 (T.size : Nat)] rfl rfl (new3 _ _ _ _ _) ?_ ?_ ?_ ?_ ?_; rotate_right; intro v5 w5 hown5 hgrow5 hnil5; have HA := own4.alloc (.cells #[.int .i64 mz, .string ⟨#[36]⟩, .int .i64 (T.size : Nat)] 30); have ga := World.grownBy_alloc w4 (.cells #[.int .i64 mz, .string ⟨#[36]⟩, .int .i64 (T.size : Nat)] 30) none; have y0w := hgrow5.cell (ga.cell y0u (by simp)) n0; have y1w := hgrow5.cell (ga.cell y1u (by simp)) n0; have y2w := hgrow5.cell (ga.cell y2u (by simp)) n0; have y3w := hgrow5.cell (ga.cell y3u (by simp)) n0; have gqw := hgrow5.cell (ga.cell gqu (by simp)) nB; have hgp5 := keepB hgrow5 (keepB ga hgp4 (by simp)) nB; have G5 := gb_row (gb_trans (gb_trans hg (gb_trans g3 g4)) ga) hgrow5 (fun i e => (HA.lt i e).1))
            | (go_at_call 8; refine (stateC _ _).mono ?_; rintro e w6 ⟨rfl, k6, rfl⟩))
          · go_roundw
            case rel =>
              have hz1 := ByteArray.size_append (a := T ++ D) (b := (⟨#[36]⟩ : ByteArray))
              have hz2 := ByteArray.size_append (a := T ++ D ++ (⟨#[36]⟩ : ByteArray)) (b := gp)
              have hz0 := ByteArray.size_append (a := T) (b := D)
              have hz9 : ((⟨#[36]⟩ : ByteArray)).size = 1 := rfl
              refine ⟨k + 1, _, R ++ [(m, ⟨#[36]⟩, T.size)], by omega, by omega, rfl, by go_num, by omega, by rw [List.length_append, hRl]; rfl, ?_, ?_, hgp5, gb_drewN G5 _⟩
              · rw [rcs_snoc, List.length_append]
                rw [hmz.out] at hown5
                exact hown5
              · have h9 := rdn_step HR.out D (⟨#[36]⟩ : ByteArray) gp m HD.out.1 tagOk_R HGW.out (.inr ⟨HD.out.2.1, HD.out.2.2.2, hm1, hm2⟩)
                rw [app_text] at h9
                exact h9
            case measure => simp [intOf]; omega
          · first
            | exact ⟨rfl, rfl, rfl⟩
            | (intro u hu
               simp at hu
               rcases hu with rfl | rfl | rfl <;> rfl)
          · unfold maxLen; omega
          · omega
          · first | omega | (simp; omega)
        by_cases dB : r2 = 0
        · have n1 : ¬ (1 : Int) < mz := by have := hmz.out; omega
          have n2 : (r2 == 0) = true := by simp; omega
          clear dA dB
          obtain ⟨W3, hW3, sz3, g3, hB3⟩ := box3 wr (.int .i64 mz) (.string ⟨#[36]⟩) (.int .i64 (T.size : Nat)) 30
          have T3 : Hid (Tab W3) := tab_gb hTr g3
          have hgp3 := keepB g3 hgp (by simp)
          have own3 := hown.kept g3 (Classical.em _)
          have q3 := g3.size
          have z0 := hB3.c0
          have z1 := hB3.c1
          have z2 := hB3.c2
          have hz3 : w.heap.size ≤ W3.heap.size := Nat.le_trans hgz q3
          have y0t := g3.cell y0 (by simp)
          have y1t := g3.cell y1 (by simp)
          have y2t := g3.cell y2 (by simp)
          have y3t := g3.cell y3 (by simp)
          have gqt := g3.cell gq (by simp)
          go_wp2_with (first
            | (go_at_call 7; refine (itoaZ mz m _ hmz hm1 hm2 T3).mono ?_; rintro e w4 ⟨D, rfl, HD, g4⟩; have hd1 := HD.out.2.2.1; have zz1 : ¬ 9223372036854775807 < T.size + D.size := (by omega); have zz2 : ¬ 9223372036854775807 < T.size + D.size + 1 := (by omega); have zz3 : ¬ 9223372036854775807 < T.size + D.size + 1 + gp.size := (by omega); have hgp4 := keepB g4 hgp3 (by simp); have hB4 := hB3.kept g4 (by simp); have own4 := own3.kept g4 (Classical.em _); have b0 := hB4.c0; have b1 := hB4.c1; have b2 := hB4.c2; have hz4 : w.heap.size ≤ w4.heap.size := Nat.le_trans hz3 g4.size; have y0u := g4.cell y0t (by simp); have y1u := g4.cell y1t (by simp); have y2u := g4.cell y2t (by simp); have y3u := g4.cell y3t (by simp); have gqu := g4.cell gqt (by simp))
            | (at_builtin; refine wpList_append_own _ rfl _ _ 25 rfl w.heap.size 30 i0 (.agg #[.int .i64 0, .string ⟨#[]⟩, .int .i64 0]) 3 32 underRunS HI.out.1 HI.out.2.1 HI.out.2.2.1 HI.out.2.2.2 rfl (by decide) _ _ _ rfl (own4.alloc _) ⟨w4.heap.size, 0, none⟩ 1 1 [.int .i64 mz, .string ⟨#[36]⟩, .int .i64 (T.size : Nat)] rfl rfl (new3 _ _ _ _ _) ?_ ?_ ?_ ?_ ?_; rotate_right; intro v5 w5 hown5 hgrow5 hnil5; have HA := own4.alloc (.cells #[.int .i64 mz, .string ⟨#[36]⟩, .int .i64 (T.size : Nat)] 30); have ga := World.grownBy_alloc w4 (.cells #[.int .i64 mz, .string ⟨#[36]⟩, .int .i64 (T.size : Nat)] 30) none; have y0w := hgrow5.cell (ga.cell y0u (by simp)) n0; have y1w := hgrow5.cell (ga.cell y1u (by simp)) n0; have y2w := hgrow5.cell (ga.cell y2u (by simp)) n0; have y3w := hgrow5.cell (ga.cell y3u (by simp)) n0; have gqw := hgrow5.cell (ga.cell gqu (by simp)) nB; have hgp5 := keepB hgrow5 (keepB ga hgp4 (by simp)) nB; have G5 := gb_row (gb_trans (gb_trans hg (gb_trans g3 g4)) ga) hgrow5 (fun i e => (HA.lt i e).1))
            | (go_at_call 8; refine (stateC _ _).mono ?_; rintro e w6 ⟨rfl, k6, rfl⟩))
          · go_roundw
            case rel =>
              have hz1 := ByteArray.size_append (a := T ++ D) (b := (⟨#[36]⟩ : ByteArray))
              have hz2 := ByteArray.size_append (a := T ++ D ++ (⟨#[36]⟩ : ByteArray)) (b := gp)
              have hz0 := ByteArray.size_append (a := T) (b := D)
              have hz9 : ((⟨#[36]⟩ : ByteArray)).size = 1 := rfl
              refine ⟨k + 1, _, R ++ [(m, ⟨#[36]⟩, T.size)], by omega, by omega, rfl, by go_num, by omega, by rw [List.length_append, hRl]; rfl, ?_, ?_, hgp5, gb_drewN G5 _⟩
              · rw [rcs_snoc, List.length_append]
                rw [hmz.out] at hown5
                exact hown5
              · have h9 := rdn_step HR.out D (⟨#[36]⟩ : ByteArray) gp m HD.out.1 tagOk_R HGW.out (.inr ⟨HD.out.2.1, HD.out.2.2.2, hm1, hm2⟩)
                rw [app_text] at h9
                exact h9
            case measure => simp [intOf]; omega
          · first
            | exact ⟨rfl, rfl, rfl⟩
            | (intro u hu
               simp at hu
               rcases hu with rfl | rfl | rfl <;> rfl)
          · unfold maxLen; omega
          · omega
          · first | omega | (simp; omega)
        · have m1 : Hid (m = 1) := by unfold Hid; omega
          have n1 : ¬ (1 : Int) < mz := by have := hmz.out; omega
          have n2 : (r2 == 0) = false := by simp; omega
          clear dA dB
          obtain ⟨W3, hW3, sz3, g3, hB3⟩ := box3 wr (.int .i64 mz) (.string ⟨#[36]⟩) (.int .i64 (T.size : Nat)) 30
          have T3 : Hid (Tab W3) := tab_gb hTr g3
          have hgp3 := keepB g3 hgp (by simp)
          have own3 := hown.kept g3 (Classical.em _)
          have q3 := g3.size
          have z0 := hB3.c0
          have z1 := hB3.c1
          have z2 := hB3.c2
          have hz3 : w.heap.size ≤ W3.heap.size := Nat.le_trans hgz q3
          have y0t := g3.cell y0 (by simp)
          have y1t := g3.cell y1 (by simp)
          have y2t := g3.cell y2 (by simp)
          have y3t := g3.cell y3 (by simp)
          have gqt := g3.cell gq (by simp)
          go_wp2_with (first
            | (at_builtin; refine wpList_append_own _ rfl _ _ 25 rfl w.heap.size 30 i0 (.agg #[.int .i64 0, .string ⟨#[]⟩, .int .i64 0]) 3 32 underRunS HI.out.1 HI.out.2.1 HI.out.2.2.1 HI.out.2.2.2 rfl (by decide) _ _ _ rfl (own3.alloc _) ⟨W3.heap.size, 0, none⟩ 1 1 [.int .i64 mz, .string ⟨#[36]⟩, .int .i64 (T.size : Nat)] rfl rfl (new3 _ _ _ _ _) ?_ ?_ ?_ ?_ ?_; rotate_right; intro v5 w5 hown5 hgrow5 hnil5; have HA := own3.alloc (.cells #[.int .i64 mz, .string ⟨#[36]⟩, .int .i64 (T.size : Nat)] 30); have ga := World.grownBy_alloc W3 (.cells #[.int .i64 mz, .string ⟨#[36]⟩, .int .i64 (T.size : Nat)] 30) none; have y0w := hgrow5.cell (ga.cell y0t (by simp)) n0; have y1w := hgrow5.cell (ga.cell y1t (by simp)) n0; have y2w := hgrow5.cell (ga.cell y2t (by simp)) n0; have y3w := hgrow5.cell (ga.cell y3t (by simp)) n0; have gqw := hgrow5.cell (ga.cell gqt (by simp)) nB; have hgp5 := keepB hgrow5 (keepB ga hgp3 (by simp)) nB; have G5 := gb_row (gb_trans (gb_trans hg g3) ga) hgrow5 (fun i e => (HA.lt i e).1))
            | (go_at_call 8; refine (stateC _ _).mono ?_; rintro e w6 ⟨rfl, k6, rfl⟩))
          · go_roundw
            case rel =>
              have hz1 := ByteArray.size_append (a := T) (b := (⟨#[36]⟩ : ByteArray))
              have hz2 := ByteArray.size_append (a := T ++ (⟨#[36]⟩ : ByteArray)) (b := gp)
              skip
              have hz9 : ((⟨#[36]⟩ : ByteArray)).size = 1 := rfl
              refine ⟨k + 1, _, R ++ [(m, ⟨#[36]⟩, T.size)], by omega, by omega, rfl, by go_num, by omega, by rw [List.length_append, hRl]; rfl, ?_, ?_, hgp5, gb_drewN G5 _⟩
              · rw [rcs_snoc, List.length_append]
                rw [hmz.out] at hown5
                exact hown5
              · have h9 := rdn_step HR.out ⟨#[]⟩ (⟨#[36]⟩ : ByteArray) gp m (fun j hj => absurd hj (Nat.not_lt_zero _)) tagOk_R HGW.out (.inl ⟨rfl, m1.out⟩)
                rw [app_text0] at h9
                exact h9
            case measure => simp [intOf]; omega
          · first
            | exact ⟨rfl, rfl, rfl⟩
            | (intro u hu
               simp at hu
               rcases hu with rfl | rfl | rfl <;> rfl)
          · unfold maxLen; omega
          · omega
          · first | omega | (simp; omega)
    · have hEr : Hid (Er tp p wr) := Er.below hE.out (gb_below hg) hG
      have hGr := Nat.lt_of_lt_of_le hG hg.size
      have hnot : ¬ ((k : Int) < (n : Int) ∧ (k : Int) < 200) := by omega
      have hT2 : T.size ≤ 5200 := by omega
      by_cases hkn : k < n
      · have h1 : (k : Int) < (n : Int) := by omega
        have h2 : ¬ (k : Int) < 200 := by omega
        clear hnot
        by_cases hbg : 1000 < u.size
        · have hv : (u.extract 0 1000).size ≤ 1000 := by rw [Sc.size_ext u (by omega)]; omega
          have hbig : (1000 : Int) < (u.size : Int) := by omega
          have hb2 : (1000 : Int) ≤ (u.size : Int) := by omega
          obtain ⟨v, hve⟩ : ∃ v, u.extract 0 1000 = v := ⟨_, rfl⟩
          rw [hve] at hv
          have hF := rdn_end (b := v) HR.out
          have hz1 := ByteArray.size_append (a := T) (b := (⟨#[33]⟩ : ByteArray))
          have hz2 := ByteArray.size_append (a := T ++ (⟨#[33]⟩ : ByteArray)) (b := v)
          have hz9 : ((⟨#[33]⟩ : ByteArray)).size = 1 := rfl
          have hr1 := fun w hE hG => runsShort ((T ++ (⟨#[33]⟩ : ByteArray)) ++ v) w (by omega) tp p hE hG
          rw [hF] at hr1
          have hr2 := fun w hE hG => runsShort T w (by omega) tp p hE hG
          rw [rdn_early HR.out] at hr2
          have zz1 : ¬ 9223372036854775807 < T.size + 1 := by omega
          have zz2 : ¬ 9223372036854775807 < T.size + 1 + v.size := by omega
          have hw9 : IntKind.i64.wrap ((T.size : Int) + 1) = ((T.size + 1 : Nat) : Int) := by rw [IntKind.wrap_i64]; omega
          clear hF hz1 hz2 hz9
          go_wp2_with (go_at_call 9; refine (hr1 _ hEr hGr).mono ?_; rintro e w2 ⟨v2, rfl, o2, g2⟩; obtain ⟨s2, c2, rfl, r2x, b2⟩ := runsIn_of o2; have r2 : RunsIn w2 s2 R := r2x; clear r2x; have own2 := hown.kept g2 (Classical.em _); obtain ⟨s3, c3, hu8, r3, b3⟩ := runsIn_of own2; subst hu8)
          have g2' := g2
          have nn : ∀ a, s3 = some a → some a.block ≠ none := fun a e => by simp
          clear hr1 hown
          go_loopw [19] (fun v wr' => ∃ j : Nat, j ≤ R.length ∧ v = .int .i64 j ∧ w2.grownBy wr' none) (fun v _ => R.length - (intOf v).toNat)
          case atStart => exact ⟨0, Nat.zero_le _, rfl, World.grownBy.refl _ _⟩
          case round =>
            obtain ⟨j, hj, rfl, hg3⟩ := hrel
            by_cases hjl : j < R.length
            · obtain ⟨ga, rfl, x0, x1, x2⟩ := (r2.kept hg3 (by simp)) j hjl
              obtain ⟨gb, rfl, y0, y1, y2⟩ := (r3.kept hg3 (by simp)) j hjl
              have hjl' : (j : Int) < (R.length : Int) := by omega
              generalize R[j] = rr at *
              go_wp2
              go_quiet (fail)
              go_wp2
              go_roundw
              case rel => exact ⟨j + 1, by omega, by go_num, gb_drewN hg3 _⟩
              case measure => simp [intOf]; omega
            · have hjl' : ¬ (j : Int) < (R.length : Int) := by omega
              have G3 := gb_trans hg (gb_trans g2' hg3)
              have E3 : Hid (Er tp p wr) := Er.below hE.out (gb_below G3) hG
              have hG3 := Nat.lt_of_lt_of_le hG G3.size
              go_wp2_with (go_at_call 9; refine (hr2 _ E3 hG3).mono ?_; rintro e w4 ⟨v4, rfl, o4, g4⟩)
              go_ret
              exact ⟨by simp, gb_below (gb_trans G3 g4)⟩

        · have hv : u.size ≤ 1000 := by omega
          have hbig : ¬ (1000 : Int) < (u.size : Int) := by omega
          skip
          skip
          skip
          have hF := rdn_end (b := u) HR.out
          have hz1 := ByteArray.size_append (a := T) (b := (⟨#[33]⟩ : ByteArray))
          have hz2 := ByteArray.size_append (a := T ++ (⟨#[33]⟩ : ByteArray)) (b := u)
          have hz9 : ((⟨#[33]⟩ : ByteArray)).size = 1 := rfl
          have hr1 := fun w hE hG => runsShort ((T ++ (⟨#[33]⟩ : ByteArray)) ++ u) w (by omega) tp p hE hG
          rw [hF] at hr1
          have hr2 := fun w hE hG => runsShort T w (by omega) tp p hE hG
          rw [rdn_early HR.out] at hr2
          have zz1 : ¬ 9223372036854775807 < T.size + 1 := by omega
          have zz2 : ¬ 9223372036854775807 < T.size + 1 + u.size := by omega
          have hw9 : IntKind.i64.wrap ((T.size : Int) + 1) = ((T.size + 1 : Nat) : Int) := by rw [IntKind.wrap_i64]; omega
          clear hF hz1 hz2 hz9
          go_wp2_with (go_at_call 9; refine (hr1 _ hEr hGr).mono ?_; rintro e w2 ⟨v2, rfl, o2, g2⟩; obtain ⟨s2, c2, rfl, r2x, b2⟩ := runsIn_of o2; have r2 : RunsIn w2 s2 R := r2x; clear r2x; have own2 := hown.kept g2 (Classical.em _); obtain ⟨s3, c3, hu8, r3, b3⟩ := runsIn_of own2; subst hu8)
          have g2' := g2
          have nn : ∀ a, s3 = some a → some a.block ≠ none := fun a e => by simp
          clear hr1 hown
          go_loopw [19] (fun v wr' => ∃ j : Nat, j ≤ R.length ∧ v = .int .i64 j ∧ w2.grownBy wr' none) (fun v _ => R.length - (intOf v).toNat)
          case atStart => exact ⟨0, Nat.zero_le _, rfl, World.grownBy.refl _ _⟩
          case round =>
            obtain ⟨j, hj, rfl, hg3⟩ := hrel
            by_cases hjl : j < R.length
            · obtain ⟨ga, rfl, x0, x1, x2⟩ := (r2.kept hg3 (by simp)) j hjl
              obtain ⟨gb, rfl, y0, y1, y2⟩ := (r3.kept hg3 (by simp)) j hjl
              have hjl' : (j : Int) < (R.length : Int) := by omega
              generalize R[j] = rr at *
              go_wp2
              go_quiet (fail)
              go_wp2
              go_roundw
              case rel => exact ⟨j + 1, by omega, by go_num, gb_drewN hg3 _⟩
              case measure => simp [intOf]; omega
            · have hjl' : ¬ (j : Int) < (R.length : Int) := by omega
              have G3 := gb_trans hg (gb_trans g2' hg3)
              have E3 : Hid (Er tp p wr) := Er.below hE.out (gb_below G3) hG
              have hG3 := Nat.lt_of_lt_of_le hG G3.size
              go_wp2_with (go_at_call 9; refine (hr2 _ E3 hG3).mono ?_; rintro e w4 ⟨v4, rfl, o4, g4⟩)
              go_ret
              exact ⟨by simp, gb_below (gb_trans G3 g4)⟩

      · have h1 : ¬ (k : Int) < (n : Int) := by omega
        clear hnot
        by_cases hbg : 1000 < u.size
        · have hv : (u.extract 0 1000).size ≤ 1000 := by rw [Sc.size_ext u (by omega)]; omega
          have hbig : (1000 : Int) < (u.size : Int) := by omega
          have hb2 : (1000 : Int) ≤ (u.size : Int) := by omega
          obtain ⟨v, hve⟩ : ∃ v, u.extract 0 1000 = v := ⟨_, rfl⟩
          rw [hve] at hv
          have hF := rdn_end (b := v) HR.out
          have hz1 := ByteArray.size_append (a := T) (b := (⟨#[33]⟩ : ByteArray))
          have hz2 := ByteArray.size_append (a := T ++ (⟨#[33]⟩ : ByteArray)) (b := v)
          have hz9 : ((⟨#[33]⟩ : ByteArray)).size = 1 := rfl
          have hr1 := fun w hE hG => runsShort ((T ++ (⟨#[33]⟩ : ByteArray)) ++ v) w (by omega) tp p hE hG
          rw [hF] at hr1
          have hr2 := fun w hE hG => runsShort T w (by omega) tp p hE hG
          rw [rdn_early HR.out] at hr2
          have zz1 : ¬ 9223372036854775807 < T.size + 1 := by omega
          have zz2 : ¬ 9223372036854775807 < T.size + 1 + v.size := by omega
          have hw9 : IntKind.i64.wrap ((T.size : Int) + 1) = ((T.size + 1 : Nat) : Int) := by rw [IntKind.wrap_i64]; omega
          clear hF hz1 hz2 hz9
          go_wp2_with (go_at_call 9; refine (hr1 _ hEr hGr).mono ?_; rintro e w2 ⟨v2, rfl, o2, g2⟩; obtain ⟨s2, c2, rfl, r2x, b2⟩ := runsIn_of o2; have r2 : RunsIn w2 s2 R := r2x; clear r2x; have own2 := hown.kept g2 (Classical.em _); obtain ⟨s3, c3, hu8, r3, b3⟩ := runsIn_of own2; subst hu8)
          have g2' := g2
          have nn : ∀ a, s3 = some a → some a.block ≠ none := fun a e => by simp
          clear hr1 hown
          go_loopw [19] (fun v wr' => ∃ j : Nat, j ≤ R.length ∧ v = .int .i64 j ∧ w2.grownBy wr' none) (fun v _ => R.length - (intOf v).toNat)
          case atStart => exact ⟨0, Nat.zero_le _, rfl, World.grownBy.refl _ _⟩
          case round =>
            obtain ⟨j, hj, rfl, hg3⟩ := hrel
            by_cases hjl : j < R.length
            · obtain ⟨ga, rfl, x0, x1, x2⟩ := (r2.kept hg3 (by simp)) j hjl
              obtain ⟨gb, rfl, y0, y1, y2⟩ := (r3.kept hg3 (by simp)) j hjl
              have hjl' : (j : Int) < (R.length : Int) := by omega
              generalize R[j] = rr at *
              go_wp2
              go_quiet (fail)
              go_wp2
              go_roundw
              case rel => exact ⟨j + 1, by omega, by go_num, gb_drewN hg3 _⟩
              case measure => simp [intOf]; omega
            · have hjl' : ¬ (j : Int) < (R.length : Int) := by omega
              have G3 := gb_trans hg (gb_trans g2' hg3)
              have E3 : Hid (Er tp p wr) := Er.below hE.out (gb_below G3) hG
              have hG3 := Nat.lt_of_lt_of_le hG G3.size
              go_wp2_with (go_at_call 9; refine (hr2 _ E3 hG3).mono ?_; rintro e w4 ⟨v4, rfl, o4, g4⟩)
              go_ret
              exact ⟨by simp, gb_below (gb_trans G3 g4)⟩

        · have hv : u.size ≤ 1000 := by omega
          have hbig : ¬ (1000 : Int) < (u.size : Int) := by omega
          skip
          skip
          skip
          have hF := rdn_end (b := u) HR.out
          have hz1 := ByteArray.size_append (a := T) (b := (⟨#[33]⟩ : ByteArray))
          have hz2 := ByteArray.size_append (a := T ++ (⟨#[33]⟩ : ByteArray)) (b := u)
          have hz9 : ((⟨#[33]⟩ : ByteArray)).size = 1 := rfl
          have hr1 := fun w hE hG => runsShort ((T ++ (⟨#[33]⟩ : ByteArray)) ++ u) w (by omega) tp p hE hG
          rw [hF] at hr1
          have hr2 := fun w hE hG => runsShort T w (by omega) tp p hE hG
          rw [rdn_early HR.out] at hr2
          have zz1 : ¬ 9223372036854775807 < T.size + 1 := by omega
          have zz2 : ¬ 9223372036854775807 < T.size + 1 + u.size := by omega
          have hw9 : IntKind.i64.wrap ((T.size : Int) + 1) = ((T.size + 1 : Nat) : Int) := by rw [IntKind.wrap_i64]; omega
          clear hF hz1 hz2 hz9
          go_wp2_with (go_at_call 9; refine (hr1 _ hEr hGr).mono ?_; rintro e w2 ⟨v2, rfl, o2, g2⟩; obtain ⟨s2, c2, rfl, r2x, b2⟩ := runsIn_of o2; have r2 : RunsIn w2 s2 R := r2x; clear r2x; have own2 := hown.kept g2 (Classical.em _); obtain ⟨s3, c3, hu8, r3, b3⟩ := runsIn_of own2; subst hu8)
          have g2' := g2
          have nn : ∀ a, s3 = some a → some a.block ≠ none := fun a e => by simp
          clear hr1 hown
          go_loopw [19] (fun v wr' => ∃ j : Nat, j ≤ R.length ∧ v = .int .i64 j ∧ w2.grownBy wr' none) (fun v _ => R.length - (intOf v).toNat)
          case atStart => exact ⟨0, Nat.zero_le _, rfl, World.grownBy.refl _ _⟩
          case round =>
            obtain ⟨j, hj, rfl, hg3⟩ := hrel
            by_cases hjl : j < R.length
            · obtain ⟨ga, rfl, x0, x1, x2⟩ := (r2.kept hg3 (by simp)) j hjl
              obtain ⟨gb, rfl, y0, y1, y2⟩ := (r3.kept hg3 (by simp)) j hjl
              have hjl' : (j : Int) < (R.length : Int) := by omega
              generalize R[j] = rr at *
              go_wp2
              go_quiet (fail)
              go_wp2
              go_roundw
              case rel => exact ⟨j + 1, by omega, by go_num, gb_drewN hg3 _⟩
              case measure => simp [intOf]; omega
            · have hjl' : ¬ (j : Int) < (R.length : Int) := by omega
              have G3 := gb_trans hg (gb_trans g2' hg3)
              have E3 : Hid (Er tp p wr) := Er.below hE.out (gb_below G3) hG
              have hG3 := Nat.lt_of_lt_of_le hG G3.size
              go_wp2_with (go_at_call 9; refine (hr2 _ E3 hG3).mono ?_; rintro e w4 ⟨v4, rfl, o4, g4⟩)
              go_ret
              exact ⟨by simp, gb_below (gb_trans G3 g4)⟩

end Go.Proofs.YtimknahfgpafaabDoor
