/- TreePerms' walk. -/
import Derived.Test.YteaionmjbkildabDoorOb
import Derived.Test.YteaionmjbkildabDoorQ27
import Derived.BigRegion
import Derived.Deep.RegionLaw
namespace Go.Proofs.YteaionmjbkildabDoor
open Go.RowKit
set_option linter.unusedVariables false
set_option linter.unusedSimpArgs false
set_option maxRecDepth 100000
attribute [local go_sem] Oper.semAt_some

set_option maxHeartbeats 4000000 in
theorem perms_walk (S1 I1 : Int) (sp1 : Option Addr) (n1 c1 : Nat) (f1 : Nat → Nat) (num1 num2 : Nat) (w : World) (htab : Tab w)
    (hS1 : -9223372036854775808 ≤ S1 ∧ S1 ≤ 9223372036854775807) (hI1 : -9223372036854775808 ≤ I1 ∧ I1 ≤ 9223372036854775807) (hn1 : n1 ≤ 140737488355328) (h81 : ∀ i, f1 i < 256) (hf1 : By w sp1 n1 f1) (hnum1 : num1 < 18446744073709551616) (hnum2 : num2 < 18446744073709551616) :
    Calls Tryd.prog 8 #[.agg #[.int .i64 S1, .int .i64 I1, .slice sp1 n1 c1], .int .u64 (num1 : Nat), .int .u64 (num2 : Nat)] w fun e w' => e = .returned (.bool true) ∧ w.grownBy w' none := by
  obtain ⟨W1, hW1, sz1, g1, B1⟩ := boxn w #[.int .i64 S1, .int .i64 I1, .slice sp1 n1 c1] 46
  have kav := aliveC W1 (tab_kept htab g1)
  have HG : Hid (w.grownBy W1 none) := g1
  have HP : Hid (Bo W1 w.heap.size 46 #[.int .i64 S1, .int .i64 I1, .slice sp1 n1 c1]) := B1
  have bs := (smS_bd S1).1
  have bi := (smI_bd I1).1
  obtain ⟨st, hst⟩ : ∃ st, smS S1 = st := ⟨_, rfl⟩
  obtain ⟨inp, hin⟩ : ∃ inp, smI I1 = inp := ⟨_, rfl⟩
  rw [hst] at bs
  rw [hin] at bi
  obtain ⟨m, hme⟩ : ∃ m, min n1 2000 = m := ⟨_, rfl⟩
  have hm : Hid (m ≤ 2000) := by unfold Hid; omega
  obtain ⟨a, hae⟩ : ∃ a : Nat → Nat, (fun i => f1 i % st) = a := ⟨_, rfl⟩
  have ha : Hid (∀ i, a i < st) := fun i => by rw [← hae]; exact Nat.mod_lt _ (by omega)
  have k1 := fun V (gV : W1.grownBy V none) => (by
    have := smallC S1 I1 hS1 hI1 sp1 n1 c1 hn1 f1 h81 V (hf1.kept (gb_trans g1 gV) (by simp))
    rw [hst, hin, hme, hae] at this
    exact this)
  obtain ⟨LL, hLe⟩ : ∃ L, frm st inp (ans st inp (syF st m a)) = L := ⟨_, rfl⟩
  have hLL : Hid (frm st inp (ans st inp (syF st m a)) = LL) := hLe
  have h1 : Hid (1 ≤ st) := bs.1
  have h4 : Hid (st ≤ 4) := bs.2
  have hi5 : Hid (inp ≤ 5) := bi
  have hfs : Hid (∀ x, syF st m a x < st) := fun x => syF_lt st m (show 0 < st by omega) ha.out x
  have ko1 := fun X => orderedC inp num1 bi hnum1 X
  have ko2 := fun X => orderedC inp num2 bi hnum2 X
  have ko3 : ∀ X : World, Calls Tryd.prog 29 #[.int .i64 (inp : Nat), .int .u64 0] X fun e w' => ∃ (sp : Option Addr) (cp : Nat) (p : Nat → Nat), e = .returned (.slice sp inp cp) ∧ Ord (fun i => (p i : Int)) inp ∧ In w' sp inp (fun i => (p i : Int)) ∧ (∀ i, i < inp → p i = i) ∧ X.grownBy w' none := fun X => (orderedC inp 0 bi (by decide) X).mono (fun e w' h => by
    unfold OrdR at h
    obtain ⟨sp, cp, p, a1, a2, a3, a4, a5⟩ := h
    exact ⟨sp, cp, p, a1, a2, a3, a4 rfl, a5⟩)
  obtain ⟨i0, HI0⟩ : ∃ i, Hid (Tryd.prog.info? 3 = some i ∧ i.zero = some (.int .i64 0) ∧ i.size = 1 ∧ i.bytes = 8) := by
    obtain ⟨i, h1, h2, h3, h4⟩ := info_parts infoI
    exact ⟨i, h1, h2, h3, h4⟩
  unfold OrdR at ko1 ko2
  clear hae hme hLe hst hin B1 htab hf1 hS1 hI1 h81 hn1 g1 hnum1 hnum2
  go_enter Tryd.func8, Tryd.ntmps8
  go_wp2_with (first | (go_at_call 9; refine kav.mono ?_; rintro e V3 ⟨rfl, g3⟩; clear kav; have P3 := HP.out.kept g3 (by simp); have oo0 := P3.cell 0 (v := .int .i64 S1) rfl; have oo1 := P3.cell 1 (v := .int .i64 I1) rfl; have oo2 := P3.cell 2 (v := .slice sp1 n1 c1) rfl; have ks := k1 V3 g3; clear k1) | (go_at_call 18; refine ks.mono ?_; rintro e V4 ⟨sq, cq, rfl, hY1, hlo1, g4⟩; clear ks hlo1; obtain ⟨V5, hV5, sz5, g5, B5⟩ := boxn V4 #[.int .i64 (st : Nat), .int .i64 (inp : Nat), .slice sq m cq] 46; have G5 := gb_trans (gb_trans g3 g4) g5; have xx0 := B5.cell 0 (v := .int .i64 (st : Nat)) rfl; have xx1 := B5.cell 1 (v := .int .i64 (inp : Nat)) rfl; have xx2 := B5.cell 2 (v := .slice sq m cq) rfl; have HY5 : Hid (By V5 sq m a) := hY1.kept g5 (by simp); clear hY1; have HX5 : Hid (Bo V5 V4.heap.size 46 #[.int .i64 (st : Nat), .int .i64 (inp : Nat), .slice sq m cq]) := B5; have kp := ko1 V5) | (go_at_call 29; (fail_if_success (guard_hyp g6)); refine kp.mono ?_; rintro e V6 ⟨sp, cp, p, rfl, hp, hIp, _, g6⟩; clear kp ko1; have HOp : Hid (Ord (fun i => (p i : Int)) inp) := hp; obtain ⟨V7, hV7, sz7, g7, B7⟩ := boxn V6 #[.slice sp inp cp] 63; have G57 := gb_trans g6 g7; have G7 := gb_trans G5 G57; have HIp7 : Hid (In V7 sp inp (fun i => (p i : Int))) := hIp.kept g7 (by simp); clear hIp hp; have X7 := HX5.out.kept G57 (by simp); have yy0 := X7.cell 0 (v := .int .i64 (st : Nat)) rfl; have yy1 := X7.cell 1 (v := .int .i64 (inp : Nat)) rfl; have yy2 := X7.cell 2 (v := .slice sq m cq) rfl; have HP7 : Hid (Bo V7 V6.heap.size 63 #[.slice sp inp cp]) := B7; have kq := ko2 V7) | (go_at_call 29; guard_hyp g6; (fail_if_success (guard_hyp g8)); refine kq.mono ?_; rintro e V8 ⟨sp2, cp2, q, rfl, hq, hIq, _, g8⟩; clear kq ko2; have HOq : Hid (Ord (fun i => (q i : Int)) inp) := hq; have HIq8 : Hid (In V8 sp2 inp (fun i => (q i : Int))) := hIq; clear hIq hq; have G58 := gb_trans G57 g8; have G8 := gb_trans G5 G58; have X8 := HX5.out.kept G58 (by simp); have zz0 := X8.cell 0 (v := .int .i64 (st : Nat)) rfl; have zz1 := X8.cell 1 (v := .int .i64 (inp : Nat)) rfl; have zz2 := X8.cell 2 (v := .slice sq m cq) rfl; have kof := ofC st inp m cq h1.out h4.out hi5.out hm.out sq a ha.out V8 (HY5.out.kept G58 (by simp)) LL hLL.out) | (go_at_call 19; refine kof.mono ?_; rintro e V9 ⟨gN, kb, rfl, hNz, hAp, g9, hgN⟩; clear kof hAp; obtain ⟨spa, hTa⟩ := hNz.tn; obtain ⟨V10, hV10, sz10, g10, B10⟩ := boxn V9 #[.int .i64 (st : Nat), .int .i64 (inp : Nat), .slice (some ⟨gN, 0, none⟩) LL.length LL.length, .int .i64 ((LL.length - 1 : Nat) : Int)] 24; have G810 := gb_trans g9 g10; have G10 := gb_trans G8 G810; have HT10 : Hid (Tn V10 gN 0 LL.length (tnOf LL spa)) := hTa.kept g10; clear hTa hNz; have HB10 : Hid (Bo V10 V9.heap.size 24 #[.int .i64 (st : Nat), .int .i64 (inp : Nat), .slice (some ⟨gN, 0, none⟩) LL.length LL.length, .int .i64 ((LL.length - 1 : Nat) : Int)]) := B10; have G510 := gb_trans G58 G810; have X10 := HX5.out.kept G510 (by simp); have vv0 := X10.cell 0 (v := .int .i64 (st : Nat)) rfl; have vv1 := X10.cell 1 (v := .int .i64 (inp : Nat)) rfl; have vv2 := X10.cell 2 (v := .slice sq m cq) rfl; have G710 := gb_trans g8 G810; have HP10 : Hid (Bo V10 V6.heap.size 63 #[.slice sp inp cp]) := HP7.out.kept G710 (by simp); have HIp10 : Hid (In V10 sp inp (fun i => (p i : Int))) := HIp7.out.kept G710 (by simp); have HIq10 : Hid (In V10 sp2 inp (fun i => (q i : Int))) := HIq8.out.kept G810 (by simp); have HX10 : Hid (Bo V10 V4.heap.size 46 #[.int .i64 (st : Nat), .int .i64 (inp : Nat), .slice sq m cq]) := X10; have HY10 : Hid (By V10 sq m a) := HY5.out.kept G510 (by simp); obtain ⟨MM, hMe⟩ : ∃ L, frm st inp (ans st inp (fun x => syF st m a (px p inp x))) = L := ⟨_, rfl⟩; have HMM : Hid (frm st inp (ans st inp (fun x => syF st m a (px p inp x))) = MM) := hMe; clear hMe; have ku := ofP st inp m cq h1.out h4.out hi5.out hm.out sq a ha.out V4.heap.size V6.heap.size sp cp p (Ord.to HOp.out) V10 HX10.out HP10.out HY10.out HIp10.out MM HMM.out) | (go_at_call 27; refine ku.mono ?_; rintro e V11 ⟨gM, kc, rfl, hNz, g11⟩; clear ku; obtain ⟨spb, hTb⟩ := hNz.tn; obtain ⟨V12, hV12, sz12, g12, B12⟩ := boxn V11 #[.int .i64 (st : Nat), .int .i64 (inp : Nat), .slice (some ⟨gM, 0, none⟩) MM.length MM.length, .int .i64 ((MM.length - 1 : Nat) : Int)] 24; have G1012 := gb_trans g11 g12; have G12 := gb_trans G10 G1012; have HU12 : Hid (Tn V12 gM 0 MM.length (tnOf MM spb)) := hTb.kept g12; clear hTb hNz; have HC12 : Hid (Bo V12 V11.heap.size 24 #[.int .i64 (st : Nat), .int .i64 (inp : Nat), .slice (some ⟨gM, 0, none⟩) MM.length MM.length, .int .i64 ((MM.length - 1 : Nat) : Int)]) := B12; have HT12 : Hid (Tn V12 gN 0 LL.length (tnOf LL spa)) := HT10.out.kept G1012; have HB12 : Hid (Bo V12 V9.heap.size 24 #[.int .i64 (st : Nat), .int .i64 (inp : Nat), .slice (some ⟨gN, 0, none⟩) LL.length LL.length, .int .i64 ((LL.length - 1 : Nat) : Int)]) := HB10.out.kept G1012 (by simp); have HP12 : Hid (Bo V12 V6.heap.size 63 #[.slice sp inp cp]) := HP10.out.kept G1012 (by simp); have HIp12 : Hid (In V12 sp inp (fun i => (p i : Int))) := HIp10.out.kept G1012 (by simp); have HIq12 : Hid (In V12 sp2 inp (fun i => (q i : Int))) := HIq10.out.kept G1012 (by simp); have HX12 : Hid (Bo V12 V4.heap.size 46 #[.int .i64 (st : Nat), .int .i64 (inp : Nat), .slice sq m cq]) := HX10.out.kept G1012 (by simp)))
  have HGG : Hid (w.grownBy V12 none) := gb_trans HG.out G12
  clear G12 G1012 G10 G810 G8 G58 G7 G57 G5 G510 G710 g3 g4 g5 g6 g7 g8 g9 g10 g11 g12 oo0 oo1 oo2 xx0 xx1 xx2 yy0 yy1 yy2 zz0 zz1 zz2 vv0 vv1 vv2 P3 X7 X8 X10 B5 B7 B10 B12 HX5 HY5 HP7 HIp7 HIq8 HT10 HB10 HP10 HIp10 HIq10 HX10 HY10 HP HG
  obtain ⟨i0, HI⟩ := (⟨i0, HI0⟩ : ∃ i, Hid (Tryd.prog.info? 3 = some i ∧ i.zero = some (.int .i64 0) ∧ i.size = 1 ∧ i.bytes = 8))
  go_loopw [15, 16] (fun v i wr => ∃ j : Nat, j ≤ inp ∧ i = .int .i64 (j : Nat) ∧ Hid (wr.ownsRow V12.heap.size 3 1 v j (nv ((List.range j).map fun k => p (q k)))) ∧ Hid (V12.grownBy wr none)) (fun _ i _ => inp - (intOf i).toNat)
  case atStart => exact ⟨0, Nat.zero_le _, rfl, World.ownsRow_nil _ _ _ _, World.grownBy.refl _ _⟩
  case round =>
    obtain ⟨j, hj, rfl, own, gj⟩ := hrel
    have xr0 := (HX12.out.kept gj.out (by simp)).cell 0 (v := .int .i64 (st : Nat)) rfl
    have xr1 := (HX12.out.kept gj.out (by simp)).cell 1 (v := .int .i64 (inp : Nat)) rfl
    have xr2 := (HX12.out.kept gj.out (by simp)).cell 2 (v := .slice sq m cq) rfl
    by_cases hlt : j < inp
    · have hlt' : (j : Int) < (inp : Int) := by omega
      have hpr := (HP12.out.kept gj.out (by simp)).cell 0 (v := .slice sp inp cp) rfl
      obtain ⟨ap, rfl⟩ := HIp12.out.some (by omega)
      obtain ⟨aq, rfl⟩ := HIq12.out.some (by omega)
      have cq := (HIq12.out.kept gj.out (by simp)).at hlt
      obtain ⟨y, hy⟩ : ∃ y, q j = y := ⟨_, rfl⟩
      have hyl : y < inp := by rw [← hy]; exact Ord.to HOq.out j hlt
      have cp2 := (HIp12.out.kept gj.out (by simp)).at hyl
      obtain ⟨x, hx⟩ : ∃ x, p y = x := ⟨_, rfl⟩
      have HX : Hid (p (q j) = x) := by unfold Hid; rw [hy, hx]
      have cq' : wr.cell? (aq.add j) = some (.int .i64 (y : Nat)) := by rw [← hy]; exact cq
      have cp' : wr.cell? (ap.add y) = some (.int .i64 (x : Nat)) := by rw [← hx]; exact cp2
      clear cq cp2 hx hy
      have hyl' : (y : Int) < (inp : Int) := by omega
      have dq : wr.drew.cell? (aq.add j) = some (.int .i64 (y : Nat)) := cq'
      have dp : wr.drew.cell? (ap.add y) = some (.int .i64 (x : Nat)) := cp'
      have dpr : wr.drew.cell? ⟨V6.heap.size, 0, none⟩ = some (.slice (some ap) inp cp) := hpr
      obtain ⟨X2, hX2⟩ : ∃ X2, wr.drew.alloc (.cells #[.int .i64 (x : Nat)] 3) = X2 := ⟨_, rfl⟩
      have gX2 : wr.drew.grownBy X2 none := (by rw [← hX2]; exact World.grownBy_alloc _ _ _)
      have nX : ∀ l u, [Value.int .i64 (x : Nat)][l]? = some u → X2.cell? ((⟨wr.heap.size, 0, none⟩ : Addr).add l) = some u := (by rw [← hX2]; exact new1 wr.drew _ 3)
      obtain ⟨NL, hNL⟩ : ∃ NL, nv ((List.range j).map fun k => p (q k)) = NL := ⟨_, rfl⟩
      have HNL : Hid (nv ((List.range j).map fun k => p (q k)) = NL) := hNL
      have own2 : X2.ownsRow V12.heap.size 3 1 u15 j NL := hNL ▸ World.ownsRow.kept (show wr.drew.ownsRow V12.heap.size 3 1 u15 j (nv ((List.range j).map fun k => p (q k))) from own.out) gX2 (Classical.em _)
      have sX : V12.heap.size ≤ X2.heap.size := Nat.le_trans gj.out.size gX2.size
      have hm1 : Hid (j + 1 ≤ maxLen) := by unfold Hid maxLen; have := hi5.out; omega
      have hb1 : Hid ((j + 1) * 8 ≤ 140737488355328) := by unfold Hid; have := hi5.out; omega
      clear hNL
      go_wp2
      go_region_law (first | (refine step_append_lies _ rfl (.tmp 68) (.tmp 76) 63 rfl V12.heap.size 3 i0 (.int .i64 0) 1 8 underIS HI.out.1 HI.out.2.1 HI.out.2.2.1 HI.out.2.2.2 rfl (by decide) _ j NL rfl own2 ⟨wr.heap.size, 0, none⟩ 1 1 [.int .i64 (x : Nat)] rfl rfl nX (by intro u hu; simp at hu; subst hu; rfl) (by decide) hm1.out hb1.out sX _ rfl ?_; intro g6 c6 w' own' g' at' lt'))
      all_goals go_wp2
      all_goals go_roundw
      all_goals first
        | (simp [intOf]; omega)
        | skip
      all_goals
        refine ⟨j + 1, hlt, by go_num, ?_, (gb_trans (gb_drew gj.out) gX2).andThen g' (fun b hb => .inl (own2.lt b hb).1)⟩
        unfold Hid
        rw [List.range_succ, List.map_append, nv_app, HNL.out, List.map_singleton, HX.out]
        exact own'
    · obtain rfl : inp = j := by omega
      have hlt' : ¬ (inp : Int) < (inp : Int) := by omega
      have hl : ((List.range inp).map fun k => p (q k)).length = inp := by simp
      obtain ⟨spr, cpr, hve, hIr⟩ := own_in (l := (List.range inp).map fun k => p (q k)) (by rw [hl]; exact own.out)
      rw [hl] at hve hIr
      subst hve
      obtain ⟨r, hr⟩ : ∃ r : Nat → Nat, (fun i => ((List.range inp).map fun k => p (q k)).getD i 0) = r := ⟨_, rfl⟩
      have hrr : ∀ i, i < inp → r i = p (q i) := fun i hi => by
        rw [← hr]
        simp [List.getD_eq_getElem?_getD, hi]
      have hIr2 : In wr spr inp (fun i => (r i : Int)) := by rw [← hr]; exact hIr
      have hOr := ord_congr hrr (ord_comp HOp.out HOq.out)
      obtain ⟨K1, hK1⟩ : ∃ K, KB st inp (syF st m a) p = K := ⟨_, rfl⟩
      obtain ⟨K2, hK2⟩ : ∃ K, KB st inp (syF st m a) q = K := ⟨_, rfl⟩
      obtain ⟨K3, hK3⟩ : ∃ K, KB st inp (syF st m a) r = K := ⟨_, rfl⟩
      have HKK : Hid ((K3 || !K1 || !K2) = true) := by
        unfold Hid
        rw [← hK1, ← hK2, ← hK3]
        exact kb_both (Ord.to HOp.out) (Ord.to HOq.out) hrr
      have hb := kb_same st inp h1.out (syF st m a) hfs.out p LL MM hLL.out HMM.out
      rw [hK1] at hb
      have hF1 : Fof st inp LL := ⟨_, fun i => (by unfold ans; exact hfs.out _ : ans st inp (syF st m a) i < st), hLL.out⟩
      have hF2 : Fof st inp MM := ⟨_, fun i => (by unfold ans; exact hfs.out _ : ans st inp (fun x => syF st m a (px p inp x)) i < st), HMM.out⟩
      have HB : Hid (K1 = true ↔ LL = MM) := hb
      have kS := fun X (g : V12.grownBy X none) => sameF st inp h1.out h4.out hi5.out LL MM hF1 hF2 gN gM spa spb K1 HB.out X (HT12.out.kept g) (HU12.out.kept g)
      have kP := fun X (g : V12.grownBy X none) => keepF st inp h1.out h4.out hi5.out (syF st m a) hfs.out LL hLL.out gN spa sp cp p HOp.out K1 hK1 X (HT12.out.kept g) (HIp12.out.kept g (by simp))
      have kQ := fun X (g : V12.grownBy X none) => keepF st inp h1.out h4.out hi5.out (syF st m a) hfs.out LL hLL.out gN spa sp2 cp2 q HOq.out K2 hK2 X (HT12.out.kept g) (HIq12.out.kept g (by simp))
      have kR := fun X (g : wr.grownBy X none) => keepF st inp h1.out h4.out hi5.out (syF st m a) hfs.out LL hLL.out gN spa spr cpr r hOr K3 hK3 X (HT12.out.kept (gb_trans gj.out g)) (hIr2.kept g (by simp))
      have kI := fun X (g : V12.grownBy X none) sp3 cp3 (p3 : Nat → Nat) (h3 : Ord (fun i => (p3 i : Int)) inp) (h0 : ∀ i, i < inp → p3 i = i) (hI3 : In X sp3 inp (fun i => (p3 i : Int))) => keepF st inp h1.out h4.out hi5.out (syF st m a) hfs.out LL hLL.out gN spa sp3 cp3 p3 h3 true (kb_id h0) X (HT12.out.kept g) hI3
      have ta0 := (HB12.out.kept gj.out (by simp)).cell 0 (v := .int .i64 (st : Nat)) rfl
      have ta1 := (HB12.out.kept gj.out (by simp)).cell 1 (v := .int .i64 (inp : Nat)) rfl
      have ta2 := (HB12.out.kept gj.out (by simp)).cell 2 (v := .slice (some ⟨gN, 0, none⟩) LL.length LL.length) rfl
      have ta3 := (HB12.out.kept gj.out (by simp)).cell 3 (v := .int .i64 ((LL.length - 1 : Nat) : Int)) rfl
      have ua0 := (HC12.out.kept gj.out (by simp)).cell 0 (v := .int .i64 (st : Nat)) rfl
      have ua1 := (HC12.out.kept gj.out (by simp)).cell 1 (v := .int .i64 (inp : Nat)) rfl
      have ua2 := (HC12.out.kept gj.out (by simp)).cell 2 (v := .slice (some ⟨gM, 0, none⟩) MM.length MM.length) rfl
      have ua3 := (HC12.out.kept gj.out (by simp)).cell 3 (v := .int .i64 ((MM.length - 1 : Nat) : Int)) rfl
      have eB : (K1 == K1) = true := by simp
      clear hb hK1 hK2 hK3 hrr hIr hIr2 hOr hF1 hF2 hr hl own
      go_wp2_with (first | (go_at_call 26; refine (kS wr gj.out).mono ?_; rintro e Z1 ⟨rfl, s1⟩; have r1 := gb_trans gj.out s1; have tb0 := (HB12.out.kept r1 (by simp)).cell 0 (v := .int .i64 (st : Nat)) rfl; have tb1 := (HB12.out.kept r1 (by simp)).cell 1 (v := .int .i64 (inp : Nat)) rfl; have tb2 := (HB12.out.kept r1 (by simp)).cell 2 (v := .slice (some ⟨gN, 0, none⟩) LL.length LL.length) rfl; have tb3 := (HB12.out.kept r1 (by simp)).cell 3 (v := .int .i64 ((LL.length - 1 : Nat) : Int)) rfl; have pb0 := (HP12.out.kept r1 (by simp)).cell 0 (v := .slice sp inp cp) rfl; have kp1 := kP Z1 r1; clear kS kP) | (go_at_call 31; (fail_if_success (guard_hyp s2)); refine kp1.mono ?_; rintro e Z2 ⟨rfl, s2⟩; clear kp1; have r2 := gb_trans r1 s2; have tc0 := (HB12.out.kept r2 (by simp)).cell 0 (v := .int .i64 (st : Nat)) rfl; have tc1 := (HB12.out.kept r2 (by simp)).cell 1 (v := .int .i64 (inp : Nat)) rfl; have tc2 := (HB12.out.kept r2 (by simp)).cell 2 (v := .slice (some ⟨gN, 0, none⟩) LL.length LL.length) rfl; have tc3 := (HB12.out.kept r2 (by simp)).cell 3 (v := .int .i64 ((LL.length - 1 : Nat) : Int)) rfl; have kq1 := kQ Z2 r2; clear kQ) | (go_at_call 31; guard_hyp s2; (fail_if_success (guard_hyp s3)); refine kq1.mono ?_; rintro e Z3 ⟨rfl, s3⟩; clear kq1; have r3 := gb_trans r2 s3; have td0 := (HB12.out.kept r3 (by simp)).cell 0 (v := .int .i64 (st : Nat)) rfl; have td1 := (HB12.out.kept r3 (by simp)).cell 1 (v := .int .i64 (inp : Nat)) rfl; have td2 := (HB12.out.kept r3 (by simp)).cell 2 (v := .slice (some ⟨gN, 0, none⟩) LL.length LL.length) rfl; have td3 := (HB12.out.kept r3 (by simp)).cell 3 (v := .int .i64 ((LL.length - 1 : Nat) : Int)) rfl; have kr1 := kR Z3 (gb_trans (gb_trans s1 s2) s3); clear kR) | (go_at_call 31; guard_hyp s3; (fail_if_success (guard_hyp s4)); refine kr1.mono ?_; rintro e Z4 ⟨rfl, s4⟩; clear kr1; have r4 := gb_trans r3 s4; have r4d := gb_drew r4; have te0 := (HB12.out.kept r4d (by simp)).cell 0 (v := .int .i64 (st : Nat)) rfl; have te1 := (HB12.out.kept r4d (by simp)).cell 1 (v := .int .i64 (inp : Nat)) rfl; have te2 := (HB12.out.kept r4d (by simp)).cell 2 (v := .slice (some ⟨gN, 0, none⟩) LL.length LL.length) rfl; have te3 := (HB12.out.kept r4d (by simp)).cell 3 (v := .int .i64 ((LL.length - 1 : Nat) : Int)) rfl; have xe0 := (HX12.out.kept r4d (by simp)).cell 0 (v := .int .i64 (st : Nat)) rfl; have xe1 := (HX12.out.kept r4d (by simp)).cell 1 (v := .int .i64 (inp : Nat)) rfl; have xe2 := (HX12.out.kept r4d (by simp)).cell 2 (v := .slice sq m cq) rfl))
      go_region_with (first | (go_at_call 29; refine (ko3 _).mono ?_; rintro e Z5 ⟨sp3, cp3, p3, rfl, hp3, hI3, hid3, s5⟩; have r5 := gb_trans r4d s5; have tf0 := (HB12.out.kept r5 (by simp)).cell 0 (v := .int .i64 (st : Nat)) rfl; have tf1 := (HB12.out.kept r5 (by simp)).cell 1 (v := .int .i64 (inp : Nat)) rfl; have tf2 := (HB12.out.kept r5 (by simp)).cell 2 (v := .slice (some ⟨gN, 0, none⟩) LL.length LL.length) rfl; have tf3 := (HB12.out.kept r5 (by simp)).cell 3 (v := .int .i64 ((LL.length - 1 : Nat) : Int)) rfl; have ki := kI Z5 r5 sp3 cp3 p3 hp3 hid3 hI3) | (go_at_call 31; refine ki.mono ?_; rintro e Z6 ⟨rfl, s6⟩; have r6 := gb_trans r5 s6))
      all_goals
        have hKK := HKK.out
        have GG : w.grownBy Z6 none := gb_trans HGG.out r6
        clear HKK
        cases K1 <;> cases K2 <;> cases K3 <;> first
          | exact absurd hKK (by decide)
          | (go_wp2; go_ret; exact ⟨rfl, GG⟩)
end Go.Proofs.YteaionmjbkildabDoor
namespace Go.Proofs.YteaionmjbkildabDoor
open Go.RowKit
theorem perms_top (S1 I1 : Int) (sp1 : Option Addr) (n1 c1 : Nat) (f1 : Nat → Nat) (a1 a2 : Int) (w : World) (htab : Tab w)
    (hS1 : -9223372036854775808 ≤ S1 ∧ S1 ≤ 9223372036854775807) (hI1 : -9223372036854775808 ≤ I1 ∧ I1 ≤ 9223372036854775807) (hn1 : n1 ≤ 140737488355328) (h81 : ∀ i, f1 i < 256) (hf1 : By w sp1 n1 f1) (ha1 : 0 ≤ a1 ∧ a1 ≤ 18446744073709551615) (ha2 : 0 ≤ a2 ∧ a2 ≤ 18446744073709551615) :
    Calls Tryd.prog 8 #[.agg #[.int .i64 S1, .int .i64 I1, .slice sp1 n1 c1], .int .u64 a1, .int .u64 a2] w fun e w' => e = .returned (.bool true) ∧ w.grownBy w' none := by
  obtain ⟨num1, rfl⟩ := Int.eq_ofNat_of_zero_le ha1.1
  obtain ⟨num2, rfl⟩ := Int.eq_ofNat_of_zero_le ha2.1
  exact perms_walk S1 I1 sp1 n1 c1 f1 num1 num2 w htab hS1 hI1 hn1 h81 hf1 (by omega) (by omega)
end Go.Proofs.YteaionmjbkildabDoor
