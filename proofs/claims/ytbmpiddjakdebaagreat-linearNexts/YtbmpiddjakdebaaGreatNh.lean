/- leap. -/
import Derived.Test.YtbmpiddjakdebaaGreatNg
import Derived.Deep.RegionHeldLaw
namespace Go.Proofs.YtbmpiddjakdebaaGreat
open Go.RowKit
set_option linter.unusedVariables false
set_option linter.unusedSimpArgs false
set_option maxRecDepth 100000

namespace Ln
theorem mkR (w : World) : (Instr.makeMap 96 none).run Tryz.prog w = .ok (.map (some w.heap.size)) (w.alloc (.map #[] 0)) := by
  simp [Instr.makeMap, asInt, asIntOf]
theorem rwL_in {k x y t z X y0 : Int} (hx : 1 ≤ x) (P : Int → List Pt) (f : Nat → Pt) : ∀ m, Rin X x y0 (rwL k x y t z X y0 P f m)
  | 0 => fun p hp => by cases hp
  | m + 1 => (rwL_in hx P f m).rwI hx _ _ _
set_option maxHeartbeats 4000000 in
theorem leapC (k x y t z X Y U V : Int) (ac : Bool) (ht : 0 ≤ t) (hx : 1 ≤ x ∧ x ≤ 65536) (hX : -65536 ≤ X ∧ X ≤ 65536) (hB : ∀ p, -65536 ≤ (cellP k x y t z p).1 ∧ (cellP k x y t z p).1 ≤ 65536 ∧ -65536 ≤ (cellP k x y t z p).2 ∧ (cellP k x y t z p).2 ≤ 65536) (s1 : Option Addr) (n c1 : Nat) (f : Nat → Pt) (hf : ∀ j, j < n → (-65536 ≤ (f j).1 ∧ (f j).1 ≤ 65536) ∧ (-65536 ≤ (f j).2 ∧ (f j).2 ≤ 65536)) (hn : n < 1000000000) (s2 : Option Addr) (m c2 : Nat) (h : Nat → Pt) (hh : ∀ j, j < m → (-65536 ≤ (h j).1 ∧ (h j).1 ≤ 65536) ∧ (-65536 ≤ (h j).2 ∧ (h j).2 ≤ 65536)) (hm : m < 1000000000) (w : World) (H1 : Pl w s1 n f) (H2 : Pl w s2 m h) :
    Calls Tryz.prog 31 #[.agg #[.int .u8 k, .int .i64 x, .int .i64 y, .int .u8 t, .int .i64 z, .int .i64 X, .int .i64 Y, .int .i64 U, .int .i64 V, .bool ac], .slice s1 n c1, .slice s2 m c2] w fun e w' => ∃ (v : Value) (nx : List Pt) (Ks T : List Int), e = .returned v ∧ w'.ownsRow w.heap.size 40 2 v nx.length (fl nx) ∧ (∀ y, y ∈ Ks ↔ ∃ j, j < n ∧ (f j).2 = y) ∧ Rc k x y t z h m Ks T ∧ T.Nodup ∧ nx.Perm (T.flatMap fun y0 => rwL k x y t z X y0 (psF f n) h m) ∧ w.grownBy w' none := by
  obtain ⟨i0, HI⟩ : ∃ i, Hid (Tryz.prog.info? 40 = some i ∧ i.zero = some (.agg #[.int .i64 0, .int .i64 0]) ∧ i.size = 2 ∧ i.bytes = 16) := by
    obtain ⟨i, h1, h2, h3, h4⟩ := info_parts infoK
    exact ⟨i, h1, h2, h3, h4⟩
  obtain ⟨W1, hW1, sz1, g1, B1⟩ := boxn w #[.int .u8 k, .int .i64 x, .int .i64 y, .int .u8 t, .int .i64 z, .int .i64 X, .int .i64 Y, .int .i64 U, .int .i64 V, .bool ac] 62
  have hmk := mkR W1
  have M1 := Gm.made W1
  obtain ⟨W2, hW2⟩ : ∃ W2, W1.alloc (.map #[] 0) = W2 := ⟨_, rfl⟩
  have g2 : W1.grownBy W2 none := (by rw [← hW2]; exact World.grownBy_alloc _ _ _)
  have hs2 : W1.heap.size < W2.heap.size := (by rw [← hW2]; simp)
  rw [hW2] at M1 hmk
  clear hW2
  have B2 := B1.kept g2 (by simp)
  have lB := B1.lt
  have G12 := gb_trans g1 g2
  go_enter Tryz.func31, Tryz.ntmps31
  go_wp2
  clear hmk
  go_loopw [16] (fun v wr => ∃ (i : Nat) (VV : Int → Value) (D : DataW Value) (Ks : List Int), i ≤ n ∧ v = .int .i64 i ∧ Gm wr W2.heap.size W1.heap.size i VV (psF f i) D ∧ Kd D Ks ∧ Hid (∀ y, y ∈ Ks ↔ ∃ j, j < i ∧ (f j).2 = y) ∧ Bo wr w.heap.size 62 #[.int .u8 k, .int .i64 x, .int .i64 y, .int .u8 t, .int .i64 z, .int .i64 X, .int .i64 Y, .int .i64 U, .int .i64 V, .bool ac] ∧ w.grownBy wr none ∧ W2.heap.size ≤ wr.heap.size) (fun v _ => n - (intOf v).toNat)
  case atStart => exact ⟨0, _, _, [], Nat.zero_le _, rfl, M1, Kd.made, (fun y => by simp), B2, G12, Nat.le_refl _⟩
  case round =>
    obtain ⟨i, VV, D, Ks, hi, rfl, Gi, Ki, HKs, Bi, gi, hsi⟩ := hrel
    by_cases hlt : i < n
    · have hlt' : (i : Int) < (n : Int) := by omega
      obtain ⟨q, o, rfl, c0, c1⟩ := (H1.kept gi (by simp)) i hlt
      have hfi := hf i hlt
      have HP : Hid (psF f (i + 1) = upP (psF f i) (f i)) := rfl
      have HKn : Hid (∀ y, y ∈ adi Ks (f i).2 ↔ ∃ j, j < i + 1 ∧ (f j).2 = y) := fun y => by
        rw [mem_adi, HKs.out y]
        constructor
        · rintro (⟨j, hj, e⟩ | e)
          · exact ⟨j, by omega, e⟩
          · exact ⟨i, by omega, e.symm⟩
        · rintro ⟨j, hj, e⟩
          by_cases hji : j = i
          · subst hji; exact .inr e.symm
          · exact .inl ⟨j, by omega, e⟩
      have hpl := fun y => psF_len f y i
      obtain ⟨p, hp⟩ : ∃ p, f i = p := ⟨_, rfl⟩
      rw [hp] at c0 c1 hfi HP HKn
      clear hp
      obtain ⟨a, d⟩ := p
      simp only at hfi HKn
      have hd : In64 d := ⟨by omega, by omega⟩
      have hpld := hpl d
      clear hpl
      obtain ⟨W3, hW3, sz3, g3, B3⟩ := boxn wr #[.int .i64 a, .int .i64 d] 40
      have d0 := B3.cell 0 (v := .int .i64 a) rfl
      have d1 := B3.cell 1 (v := .int .i64 d) rfl
      obtain ⟨Wd, hWd⟩ : ∃ Wd, W3.drew = Wd := ⟨_, rfl⟩
      have gd : wr.grownBy Wd none := (by rw [← hWd]; exact gb_drew g3)
      have B3d : Bo Wd wr.heap.size 40 #[.int .i64 a, .int .i64 d] := (by rw [← hWd]; exact B3.dr)
      have G3 := Gi.kept gd
      have lk := G3.look hd
      have KY := keyI hd
      have m0 := B3d.cell 0 (v := .int .i64 a) rfl
      have m1 := B3d.cell 1 (v := .int .i64 d) rfl
      obtain ⟨W4, hW4⟩ : ∃ W4, Wd.alloc (.cells #[.int .i64 a, .int .i64 d] 40) = W4 := ⟨_, rfl⟩
      have g4 : Wd.grownBy W4 none := (by rw [← hW4]; exact World.grownBy_alloc _ _ _)
      have B34 := B3d.kept g4 (by simp)
      have n0 := B34.cell 0 (v := .int .i64 a) rfl
      have n1 := B34.cell 1 (v := .int .i64 d) rfl
      have lk4 := (G3.kept g4).look hd
      have nX : ∀ l u, [Value.int .i64 a, .int .i64 d][l]? = some u → W4.cell? ((⟨Wd.heap.size, 0, none⟩ : Addr).add l) = some u := by rw [← hW4]; exact World.news_of_block (heap_alloc_new _ _)
      have own4 := (G3.row d).kept g4 (Classical.em _)
      have s3 := gd.size
      have s4 := g4.size
      have hb4 : W2.heap.size ≤ W4.heap.size := by omega
      obtain ⟨kk, hkk⟩ : ∃ kk, (psF f i d).length = kk := ⟨_, rfl⟩
      rw [hkk] at own4 hpld
      obtain ⟨vd, hvd⟩ : ∃ vd, VV d = vd := ⟨_, rfl⟩
      rw [hvd] at own4 lk lk4
      have hnb : ∀ gg, vd.ownBlock = some gg → W2.heap.size ≤ gg := fun gg e => (own4.lt gg e).1
      have ownm4 := (G3.own).kept g4 (by simp)
      have hnw : wr.heap.size ≠ W1.heap.size := by omega
      have hnc : vd.ownBlock ≠ some wr.heap.size := fun e => by have := (Gi.row d).lt wr.heap.size (by rw [hvd]; exact e); omega
      go_wp2
      go_region_held_law (fun w' => w'.cell? ⟨wr.heap.size, 0, none⟩ = some (.int .i64 a) ∧ w'.cell? ⟨wr.heap.size, 1, none⟩ = some (.int .i64 d)) (go_keep) (first | (refine step_append_lies _ rfl (.tmp 26) (.tmp 28) 24 rfl W2.heap.size 40 i0 (.agg #[.int .i64 0, .int .i64 0]) 2 16 underPS HI.out.1 HI.out.2.1 HI.out.2.2.1 HI.out.2.2.2 rfl (by decide) _ kk _ rfl own4 ⟨Wd.heap.size, 0, none⟩ 1 1 [.int .i64 a, .int .i64 d] rfl rfl nX (by intro u hu; simp at hu; rcases hu with rfl | rfl <;> rfl) (by decide) (by unfold maxLen; omega) (by omega) hb4 _ rfl ?_; intro g6 c6 w5 own6 g5 at6 lt6; have ownm5 := ownm4.kept g5 (fun e => by have := hnb W1.heap.size e.symm; omega); obtain ⟨w7, hrun7, own7, g7⟩ := ownm5.update lawI underR (by unfold maxLen; omega) KY (show hdR (.slice (some ⟨g6, 0, none⟩) (kk + 1) c6) = _ from rfl); have B35 := B34.kept g5 (fun e => hnc e.symm); have q0 := B35.cell 0 (v := .int .i64 a) rfl; have q1 := B35.cell 1 (v := .int .i64 d) rfl; have B37 := B35.kept g7 (fun e => hnw (Option.some.inj e)); have r0 := B37.cell 0 (v := .int .i64 a) rfl; have r1 := B37.cell 1 (v := .int .i64 d) rfl))
      all_goals
        have G7 := Gm.push (p := (a, d)) G3 hd g4 (by rw [hvd]; exact g5) (by rw [fl_app]; exact own6) (by rw [List.length_append, hkk]; rfl) (by rw [hvd]; exact at6.elim .inl (fun hh => .inr (by omega))) g7 own7
        have K7 := Ki.put (G3.own.tidy lawI) hd (.held (.slice (some ⟨g6, 0, none⟩) (kk + 1) c6))
        have B7 := (((Bi.kept gd (by simp)).kept g4 (by simp)).kept g5 (fun e => by have := hnb w.heap.size e.symm; omega)).kept g7 (fun e => by have e := Option.some.inj e; omega)
        have gw7 : w.grownBy w7 none := (((gb_trans gi (gb_trans gd g4)).andThen g5 (fun j hj => .inl (by have := hnb j hj; have := G12.size; omega)))).andThen g7 (fun j hj => .inl (by injection hj with hj; omega))
        have s5 := g5.size
        have s7 := g7.size
        clear lk lk4 own7 ownm5 ownm4 own6 own4 g7 g5 nX hrun7 m0 m1 n0 n1 q0 q1 r0 r1 B34 B35 B37
        go_wp2
        go_roundw
        case rel => exact ⟨i + 1, _, _, _, by omega, by go_num, by rw [HP.out]; exact G7, K7, HKn.out, B7, gw7, by omega⟩
        case measure => simp [intOf]; omega
    · have hin : i = n := by omega
      subst hin
      have hlt' : ¬ (i : Int) < (i : Int) := by omega
      have hKr : Nr Ks := fun q hq => by obtain ⟨j, hj, e⟩ := (HKs.out q).1 hq; have := hf j hj; omega
      have kR := reachedC k x y t z X Y U V ac ht hB W1.heap.size i D Ks Ki hKr s2 m c2 h hh hm wr Gi.own (H2.kept gi (by simp))
      have b0 := Bi.cell 0 (v := .int .u8 k) rfl; have b1 := Bi.cell 1 (v := .int .i64 x) rfl; have b2 := Bi.cell 2 (v := .int .i64 y) rfl; have b3 := Bi.cell 3 (v := .int .u8 t) rfl; have b4 := Bi.cell 4 (v := .int .i64 z) rfl; have b5 := Bi.cell 5 (v := .int .i64 X) rfl; have b6 := Bi.cell 6 (v := .int .i64 Y) rfl; have b7 := Bi.cell 7 (v := .int .i64 U) rfl; have b8 := Bi.cell 8 (v := .int .i64 V) rfl; have b9 := Bi.cell 9 (v := .bool ac) rfl
      obtain ⟨wo, hwo⟩ : ∃ W, W = wr := ⟨_, rfl⟩
      subst hwo
      go_wp2_with (first | (go_at_call 60; refine kR.mono ?_; rintro e w2 ⟨b2, T, rfl, ⟨D2, A1, A2, A3, A4, A5, A6⟩, hRc, hNr, hb2, gr2⟩) | (at_range; refine wpList_range_own _ rfl _ 97 rfl 3 71 lawI underS _ b2 _ D2 rfl A1 ?_; intro w0 hrg0 hg0 hs0) | go_in)
      go_frame
      have HRc : Hid (Rc k x y t z h m Ks T) := hRc
      have HNr : Hid (Nr T) := hNr
      have hTl := hNr.len A3
      clear hRc hNr kR
      have G0 := (Gi.kept gr2).kept hg0
      have B0 := (Bi.kept gr2 (by simp)).kept hg0 (by simp)
      have gw0 := gb_trans (gb_trans gi gr2) hg0
      have hlb2 := A1.lt
      have hrb := hrg0.lt
      obtain ⟨Rf, hRf⟩ : ∃ Rf : Int → List Pt, Rf = fun y0 => rwL k x y t z X y0 (psF f i) h m := ⟨_, rfl⟩
      have HRf : Hid (∀ y0, rwL k x y t z X y0 (psF f i) h m = Rf y0) := fun y0 => by rw [hRf]
      clear hRf
      go_loopw [10] (fun nv wr => ∃ (left : Lit → Bool) (cnt nl : Nat) (nx : List Pt) (dn : List Int) (ov : Value), nv = ov ∧ wr.ranges Tryz.prog 3 unitElem b2 w2.heap.size T.length D2 left cnt ∧ wr.ownsRow w0.heap.size 40 2 ov nl (fl nx) ∧ Hid (nx.length = nl) ∧ Gm wr W2.heap.size W1.heap.size i VV (psF f i) D ∧ Bo wr w.heap.size 62 #[.int .u8 k, .int .i64 x, .int .i64 y, .int .u8 t, .int .i64 z, .int .i64 X, .int .i64 Y, .int .i64 U, .int .i64 V, .bool ac] ∧ w.grownBy wr none ∧ w0.heap.size ≤ wr.heap.size ∧ Ci T dn left ∧ Hid (nx.Perm (dn.flatMap Rf)) ∧ nl ≤ dn.length * 65536) (fun _ wr => wr.rangeLeft b2 w2.heap.size)
      case atStart => exact ⟨_, _, 0, [], [], _, rfl, hrg0, World.ownsRow_nil _ _ _ _, rfl, G0, B0, gw0, Nat.le_refl _, Ci.start A5, List.Perm.nil, Nat.zero_le _⟩
      case round =>
        obtain ⟨left, cnt, nl, nx, dn, ov, rfl, hrg, own, HNL, Gq, Bq, gq, hsq, hC, HPm, hnl⟩ := hrel
        have p0 := Bq.cell 0 (v := .int .u8 k) rfl; have p1 := Bq.cell 1 (v := .int .i64 x) rfl; have p2 := Bq.cell 2 (v := .int .i64 y) rfl; have p3 := Bq.cell 3 (v := .int .u8 t) rfl; have p4 := Bq.cell 4 (v := .int .i64 z) rfl; have p5 := Bq.cell 5 (v := .int .i64 X) rfl; have p6 := Bq.cell 6 (v := .int .i64 Y) rfl; have p7 := Bq.cell 7 (v := .int .i64 U) rfl; have p8 := Bq.cell 8 (v := .int .i64 V) rfl; have p9 := Bq.cell 9 (v := .bool ac) rfl
        go_wp2_with (first | (at_next; refine wpList_next_ranges (α := Int) (β := Unit) _ rfl _ rfl 3 lawI _ (fun p => .int .i64 p) (fun _ => .agg #[]) (fun key l hk => by obtain ⟨x, e, _⟩ := Maps.keyOf_int_inv underI hk; exact ⟨x, e⟩) (fun v y hv => ⟨(), (unitElem_inv hv).1⟩) b2 w2.heap.size T.length D2 left cnt rfl hrg ?_ ?_) | go_in)
        · intro hc0 hl0
          have hperm := hC.done A3 hl0
          have HPp : Hid (nx.Perm (T.flatMap fun y0 => rwL k x y t z X y0 (psF f i) h m)) := by
            unfold Hid
            have e : (fun y0 => rwL k x y t z X y0 (psF f i) h m) = Rf := funext HRf.out
            rw [e]
            exact HPm.out.trans (hperm.flatMap_right _)
          clear hperm hC HPm
          go_wp2
          go_ret
          exact ⟨_, nx, Ks, T, rfl, by rw [HNL.out]; exact own_less own (by have := gw0.size; omega), HKs.out, HRc.out, A3, HPp.out, gq⟩
        · intro yk l yd yp w3 cnt1 hkey hlk hv hat hrg1 hlt hg1 hsw hen
          try dsimp only at hkey hen ⊢
          obtain ⟨r, hrS, rfl⟩ := A6 _ (Maps.has_true_of_atKey hat)
          have hkv : (.int .i64 yk : Value) = .int .i64 r := lawI.inj hkey (keyI (A4 r hrS))
          have hyr : yk = r := by injection hkv
          subst hyr
          clear hkv hkey hv hat
          have hy0 := HNr.out yk hrS
          have hC1 := hC.next hrS hlk
          have hdl : (yk :: dn).length ≤ T.length := len_subI _ _ hC1.nd (fun q hq => (hC1.sub q hq).1)
          rw [List.length_cons] at hdl
          have HC1 : Hid (Ci T (yk :: dn) (fun z => left z && !z.sameKey (kI yk))) := hC1
          have hr2 := hrg.lt
          have hlt2 : Hid (cnt1 < cnt) := hlt
          have hrgl : Hid (wr.rangeLeft b2 w2.heap.size = cnt) := hrg.left_eq
          have hov : ∀ gg, u10.ownBlock = some gg → w0.heap.size ≤ gg ∧ gg < wr.heap.size := fun gg e => own.lt gg e
          have gq3 : w.grownBy w3 none := gq.andThen hg1 (fun j hj => .inl (by injection hj with hj; have := gi.size; have := gr2.size; omega))
          have Bq3 := Bq.kept hg1 (fun e => by injection e with e; have := gi.size; have := gr2.size; omega)
          have o0 := Bq3.cell 0 (v := .int .u8 k) rfl; have o1 := Bq3.cell 1 (v := .int .i64 x) rfl; have o2 := Bq3.cell 2 (v := .int .i64 y) rfl; have o3 := Bq3.cell 3 (v := .int .u8 t) rfl; have o4 := Bq3.cell 4 (v := .int .i64 z) rfl; have o5 := Bq3.cell 5 (v := .int .i64 X) rfl; have o6 := Bq3.cell 6 (v := .int .i64 Y) rfl; have o7 := Bq3.cell 7 (v := .int .i64 U) rfl; have o8 := Bq3.cell 8 (v := .int .i64 V) rfl; have o9 := Bq3.cell 9 (v := .bool ac) rfl
          have Gq3 := Gq.keptBy hg1 (by have := gr2.size; omega) (fun y' e => by have := (Gq.row y').lt _ e; have := (Gi.row y').lt _ e; have := gr2.size; omega)
          have own3 := own.kept hg1 (.inr (fun e => by have := hov _ e; omega))
          have sw3 : w3.heap.size = wr.heap.size := hsw
          have kW := rowC k x y t z X Y U V ac ht hx hX hB yk hy0 W2.heap.size W1.heap.size i VV (psF f i) D (fun y' => ⟨by have := psF_len f y' i; omega, fun p hp => by obtain ⟨_, j, hj, e⟩ := (psF_mem f p y' i).1 hp; have := hf j hj; rw [e]; omega⟩) s2 m c2 h hh hm w3 (by omega) Gq3 (H2.kept gq3 (by simp))
          rw [HRf.out yk] at kW
          obtain ⟨wz, hwz⟩ : ∃ W, W = wr := ⟨_, rfl⟩
          subst hwz
          clear hC hC1 hrg hlt Gq Bq
          go_wp2_with (first | (go_at_call 61; refine kW.mono ?_; rintro e w4 ⟨b4, rfl, ⟨D4, E1, E2, E3, E4, E5, E6⟩, hb4, g4⟩) | (at_range; refine wpList_range_own _ rfl _ 73 rfl 40 71 lawK underM _ b4 _ D4 rfl E1 ?_; intro w5 hrg5 hg5 hs5) | go_in)
          go_frame
          have hRl : (Rf yk).length ≤ 65536 := by
            have h1 : Rin X x yk (Rf yk) := by rw [← HRf.out yk]; exact rwL_in hx.1 _ _ m
            exact h1.len E3 hx.2
          have HNL' := HNL.out
          have s4 := g4.size
          have s5 := hg5.size
          have lb4 := E1.lt
          have l5 := hrg5.lt
          have own5 := (own3.kept g4 (Classical.em _)).kept hg5 (Classical.em _)
          have ro5 := (hrg1.kept g4 (by simp) (by simp)).kept hg5 (by simp) (by simp)
          have G5 := (Gq3.kept g4).kept hg5
          have B5 := (Bq3.kept g4 (by simp)).kept hg5 (by simp)
          have gw5 := gb_trans (gb_trans gq3 g4) hg5
          have HNB : Hid (u10.ownBlock ≠ some b4 ∧ u10.ownBlock ≠ some w4.heap.size) := ⟨fun e => by have := hov _ e; omega, fun e => by have := hov _ e; omega⟩
          have hsz2 := gr2.size
          have hgi := gi.size
          clear kW own3 own Gq3 Bq3 hrg1 hen
          go_loopw [10] (fun nv wr => ∃ (left4 : Lit → Bool) (cnt4 nl4 : Nat) (dn4 : List Pt), wr.ranges Tryz.prog 40 unitElem b4 w4.heap.size (Rf yk).length D4 left4 cnt4 ∧ wr.ownsRow w0.heap.size 40 2 nv nl4 (fl (nx ++ dn4.reverse)) ∧ Hid (nl + dn4.length = nl4) ∧ Hid (nv.ownBlock ≠ some b4 ∧ nv.ownBlock ≠ some w4.heap.size) ∧ wr.ranges Tryz.prog 3 unitElem b2 w2.heap.size T.length D2 (fun z => left z && !z.sameKey (kI yk)) cnt1 ∧ Gm wr W2.heap.size W1.heap.size i VV (psF f i) D ∧ Bo wr w.heap.size 62 #[.int .u8 k, .int .i64 x, .int .i64 y, .int .u8 t, .int .i64 z, .int .i64 X, .int .i64 Y, .int .i64 U, .int .i64 V, .bool ac] ∧ w.grownBy wr none ∧ w5.heap.size ≤ wr.heap.size ∧ Cm (Rf yk) dn4 left4) (fun _ wr => wr.rangeLeft b4 w4.heap.size)
          case atStart => exact ⟨_, _, nl, [], hrg5, by rw [List.reverse_nil, List.append_nil]; exact own5, rfl, HNB, ro5, G5, B5, gw5, Nat.le_refl _, Cm.start E5⟩
          case round =>
            obtain ⟨left4, cnt4, nl4, dn4, rg, ow, HL4, HB4, ro, Gm4, Bo4, gm4, sm4, C4⟩ := hrel
            go_wp2_with (first | (at_next; refine wpList_next_ranges (α := Int × Int) (β := Unit) _ rfl _ rfl 40 lawK _ (fun p => .agg #[.int .i64 p.1, .int .i64 p.2]) (fun _ => .agg #[]) (fun key l hk => by obtain ⟨x, y, e, _⟩ := (keyOf_is key l).1 hk; exact ⟨(x, y), e⟩) (fun v y hv => ⟨(), (unitElem_inv hv).1⟩) b4 w4.heap.size (Rf yk).length D4 left4 cnt4 rfl rg ?_ ?_) | go_in)
            · intro hc0 hl0
              have hp4 := C4.done E3 hl0
              have hl4 := hp4.length_eq
              have HPn : Hid ((nx ++ dn4.reverse).Perm ((yk :: dn).flatMap Rf)) := by
                show (nx ++ dn4.reverse).Perm (Rf yk ++ dn.flatMap Rf)
                exact (List.perm_append_comm).trans (((List.reverse_perm dn4).trans hp4).append HPm.out)
              have hbd : nl4 ≤ (yk :: dn).length * 65536 := by have := HL4.out; rw [List.length_cons, Nat.succ_mul]; omega
              have HLn : Hid ((nx ++ dn4.reverse).length = nl4) := by unfold Hid; rw [List.length_append, List.length_reverse, HNL.out]; exact HL4.out
              go_wp2
              go_roundw
              case rel => exact ⟨_, cnt1, nl4, nx ++ dn4.reverse, yk :: dn, _, rfl, ro, ow, HLn.out, Gm4, Bo4, gm4, by omega, HC1.out, HPn.out, hbd⟩
              case measure =>
                have h9 := ro.left_eq
                have := hrgl.out
                have := hlt2.out
                omega
            · intro ax ay l yd yp w6 cnt6 hkey hlk hv hat hrg6 hlt6 hg6 hsw6 hen6
              try dsimp only at hkey hen6 ⊢
              obtain ⟨p, hpS, rfl⟩ := E6 _ (Maps.has_true_of_atKey hat)
              have hp := E4 p hpS
              have hkv : (.agg #[.int .i64 ax, .int .i64 ay] : Value) = ptV p := lawK.inj hkey hp.key
              have hxy : ax = p.1 ∧ ay = p.2 := by simpa [ptV] using hkv
              have HXY : Hid (fl (nx ++ dn4.reverse) ++ [.int .i64 ax, .int .i64 ay] = fl (nx ++ (p :: dn4).reverse)) := by unfold Hid; rw [List.reverse_cons, ← List.append_assoc, fl_app (nx ++ dn4.reverse), hxy.1, hxy.2]; rfl
              clear hkv hxy hkey hv hat hp
              have hC4 := C4.next E4 hpS hlk
              have HC4 : Hid (Cm (Rf yk) (p :: dn4) (fun z => left4 z && !z.sameKey (pk p))) := hC4
              have hdl4 := hC4.len
              rw [List.length_cons] at hdl4
              have hmul : dn.length * 65536 ≤ 131073 * 65536 := Nat.mul_le_mul_right _ (by omega)
              have hnl4 : nl4 < 10000000000 := by have := HL4.out; omega
              have HLn : Hid (nl + (p :: dn4).length = nl4 + 1) := by unfold Hid; rw [List.length_cons]; have := HL4.out; omega
              have hgm : w.grownBy w6 none := gm4.andThen hg6 (fun j hj => .inl (by injection hj with hj; omega))
              have ow6 := ow.kept hg6 (.inr HB4.out.2)
              have ro6 := ro.kept hg6 (fun e => by have e := Option.some.inj e; omega) (fun e => by have e := Option.some.inj e; omega)
              have Gm6 := Gm4.keptBy hg6 (by omega) (fun y' e => by have := (Gi.row y').lt _ e; omega)
              have Bo6 := Bo4.kept hg6 (fun e => by have e := Option.some.inj e; omega)
              obtain ⟨W7, hW7, sz7, g7, B7⟩ := boxn w6 #[.int .i64 ax, .int .i64 ay] 40
              rw [hsw6] at B7
              obtain ⟨W8, hW8⟩ : ∃ W8, W7.alloc (.cells #[.int .i64 ax, .int .i64 ay] 40) = W8 := ⟨_, rfl⟩
              have g8 : W7.grownBy W8 none := (by rw [← hW8]; exact World.grownBy_alloc _ _ _)
              have nX : ∀ l u, [Value.int .i64 ax, .int .i64 ay][l]? = some u → W8.cell? ((⟨W7.heap.size, 0, none⟩ : Addr).add l) = some u := by rw [← hW8]; exact World.news_of_block (heap_alloc_new _ _)
              have ow8 := (ow6.kept g7 (Classical.em _)).kept g8 (Classical.em _)
              have rg8 := (hrg6.kept g7 (by simp) (by simp)).kept g8 (by simp) (by simp)
              have ro8 := (ro6.kept g7 (by simp) (by simp)).kept g8 (by simp) (by simp)
              have Gm8 := (Gm6.kept g7).kept g8
              have Bo8 := (Bo6.kept g7 (by simp)).kept g8 (by simp)
              have gw8 := gb_trans hgm (gb_trans g7 g8)
              have e0 := B7.cell 0 (v := .int .i64 ax) rfl
              have e1 := B7.cell 1 (v := .int .i64 ay) rfl
              have s7 := g7.size
              have s8 := g8.size
              have s6 : w6.heap.size = wr.heap.size := hsw6
              have hb8 : w0.heap.size ≤ W8.heap.size := by omega
              have how := fun gg e => ow8.lt gg e
              have hlt9 : Hid (cnt6 < cnt4) := hlt6
              have hrl9 : Hid (wr.rangeLeft b4 w4.heap.size = cnt4) := rg.left_eq
              clear C4 hC4 rg ow ow6 ro ro6 Gm4 Gm6 Bo4 Bo6 hrg6 hlt6
              go_wp2_with (first | (at_builtin; refine wpList_append_lies _ rfl _ _ 24 rfl w0.heap.size 40 i0 (.agg #[.int .i64 0, .int .i64 0]) 2 16 underPS HI.out.1 HI.out.2.1 HI.out.2.2.1 HI.out.2.2.2 rfl (by decide) _ nl4 _ rfl ow8 ⟨W7.heap.size, 0, none⟩ 1 1 [.int .i64 ax, .int .i64 ay] rfl rfl nX (by intro u hu; simp at hu; rcases hu with rfl | rfl <;> rfl) (by decide) (by unfold maxLen; omega) (by omega) hb8 _ rfl ?_; intro g9 c9 w9 own9 gg9 at9 lt9) | go_in)
              go_roundw
              case rel =>
                have s9 := gg9.size
                have hn9 : g9 ≠ b4 ∧ g9 ≠ w4.heap.size := by
                  rcases at9 with hh | hh
                  · exact ⟨fun e => HB4.out.1 (hh.trans (congrArg some e)), fun e => HB4.out.2 (hh.trans (congrArg some e))⟩
                  · omega
                refine ⟨_, cnt6, nl4 + 1, p :: dn4, rg8.kept gg9 (fun e => HB4.out.1 e.symm) (fun e => HB4.out.2 e.symm), by rw [← HXY.out]; exact own9, HLn.out, ⟨fun e => hn9.1 (Option.some.inj e), fun e => hn9.2 (Option.some.inj e)⟩, ro8.kept gg9 (fun e => by have := how _ e.symm; omega) (fun e => by have := how _ e.symm; omega), ?_, Bo8.kept gg9 (fun e => by have := how _ e.symm; omega), gw8.andThen gg9 (fun j hj => .inl (by have := how _ hj; have := gw0.size; omega)), by omega, HC4.out⟩
                exact ⟨Gm8.own.kept gg9 (fun e => by have := how _ e.symm; omega), Gm8.at_, fun y' => (Gm8.row y').kept gg9 (by
                  cases hv : (VV y').ownBlock with
                  | none => exact .inl rfl
                  | some gg => exact .inr (fun e => by have := how _ e.symm; have := (Gi.row y').lt _ hv; omega)), Gm8.one, Gm8.lb⟩
              case measure =>
                have h9 := (rg8.kept gg9 (fun e => HB4.out.1 e.symm) (fun e => HB4.out.2 e.symm)).left_eq
                have := hrl9.out
                have := hlt9.out
                omega
end Ln
end Go.Proofs.YtbmpiddjakdebaaGreat
namespace Go.Proofs.YtbmpiddjakdebaaGreat
open Go.RowKit
set_option linter.unusedVariables false
set_option linter.unusedSimpArgs false
set_option maxRecDepth 100000

namespace Ln
set_option maxHeartbeats 1000000 in
theorem jumpN (k x y t z : Int) (ht : 0 ≤ t) (s1 : Option Addr) (n c1 : Nat) (f : Nat → Pt) (hf : ∀ k, k < n → PtOk (f k)) (hn : n < 1073741824) (s2 : Option Addr) (m c2 : Nat) (h : Nat → Pt) (hh : ∀ k, k < m → PtOk (h k)) (hm : m < 1073741824) (g : Int) (w : World) (H1 : Pl w s1 n f) (H2 : Pl w s2 m h) (hE : jpE k x y t z f n h m g ≠ 0) :
    Calls Tryz.prog 14 #[.agg #[.int .u8 k, .int .i64 x, .int .i64 y, .int .u8 t, .int .i64 z], .slice s1 n c1, .slice s2 m c2, .int .i64 g] w fun e w' => e = .returned (.tuple #[.slice none 0 0, .int .i64 (jpE k x y t z f n h m g)]) ∧ w.grownBy w' none := by
  have kJ := fun w1 (g1 : w.grownBy w1 none) => checkJumpC k x y t z ht s1 n c1 f hf hn s2 m c2 h hh hm g w1 (H1.kept g1 (by simp)) (H2.kept g1 (by simp))
  obtain ⟨W1, hW1, sz1, g1, B1⟩ := boxn w #[.int .u8 k, .int .i64 x, .int .i64 y, .int .u8 t, .int .i64 z] 23
  have c0 := B1.cell 0 (v := .int .u8 k) rfl; have c1 := B1.cell 1 (v := .int .i64 x) rfl; have c2 := B1.cell 2 (v := .int .i64 y) rfl; have c3 := B1.cell 3 (v := .int .u8 t) rfl; have c4 := B1.cell 4 (v := .int .i64 z) rfl
  generalize jpE k x y t z f n h m g = r at kJ hE ⊢
  have hb : (r != 0) = true := by simp [hE]
  have kJ0 := kJ w (World.grownBy.refl _ _)
  have kJ1 := kJ W1 g1
  go_enter Tryz.func14, Tryz.ntmps14
  go_wp2_with (first | (go_at_call 26; refine kJ1.mono ?_; rintro e w2 ⟨rfl, g2⟩; have g3 := gb_trans g1 g2) | (go_at_call 26; refine kJ0.mono ?_; rintro e w2 ⟨rfl, g2⟩; have g3 := g2) | go_in)
  go_ret2
  exact ⟨rfl, g3⟩
end Ln
end Go.Proofs.YtbmpiddjakdebaaGreat
namespace Go.Proofs.YtbmpiddjakdebaaGreat
open Go.RowKit
set_option linter.unusedVariables false
set_option linter.unusedSimpArgs false
set_option maxRecDepth 100000

namespace Ln
theorem rwI_nodup {X x y0 a : Int} {ps T : List Pt} (h : T.Nodup) : ∀ i, (rwI X x y0 ps a T i).Nodup
  | 0 => h
  | i + 1 => nodup_flp (rwI_nodup h i) _
theorem rwL_nodup {k x y t z X y0 : Int} (P : Int → List Pt) (f : Nat → Pt) : ∀ m, (rwL k x y t z X y0 P f m).Nodup
  | 0 => List.nodup_nil
  | m + 1 => rwI_nodup (rwL_nodup P f m) _
theorem Rin.lenx {X x y0 : Int} {T : List Pt} (h : Rin X x y0 T) (hn : T.Nodup) : T.length ≤ x.toNat := by
  have := len_sub T ((List.range x.toNat).map (fun i : Nat => ((X + (i : Int), y0) : Pt))) hn (fun q hq => by
    obtain ⟨h1, h2, h3⟩ := h q hq
    refine List.mem_map.2 ⟨(q.1 - X).toNat, List.mem_range.2 (by omega), ?_⟩
    obtain ⟨a, b⟩ := q
    simp only at h1 h2 h3 ⊢
    rw [h1, Int.toNat_of_nonneg (by omega)]
    congr 1
    omega)
  simpa using this
theorem len_box {Y y : Int} {T : List Int} (hn : T.Nodup) (h : ∀ q ∈ T, Y ≤ q ∧ q < Y + y) : T.length ≤ y.toNat := by
  have := len_subI T ((List.range y.toNat).map (fun i : Nat => Y + (i : Int))) hn (fun q hq => by
    have := h q hq
    exact List.mem_map.2 ⟨(q - Y).toNat, List.mem_range.2 (by omega), by omega⟩)
  simpa using this
theorem flat_len {β : Type} (F : Int → List β) (c : Nat) : ∀ T : List Int, (∀ q ∈ T, (F q).length ≤ c) → (T.flatMap F).length ≤ T.length * c
  | [], _ => by simp
  | q :: T, h => by
    have h1 := h q List.mem_cons_self
    have h2 := flat_len F c T (fun r hr => h r (List.mem_cons_of_mem _ hr))
    rw [List.flatMap_cons, List.length_append, List.length_cons, Nat.succ_mul]
    omega
/-- What a leap makes of cells, up to the order. -/
def leapR (k x y t z X : Int) (ms cs nx : List Pt) : Prop := ∃ Ks T : List Int, (∀ q, q ∈ Ks ↔ ∃ j, j < cs.length ∧ (cs.getD j (0, 0)).2 = q) ∧ Rc k x y t z (fun j => ms.getD j (0, 0)) ms.length Ks T ∧ T.Nodup ∧ nx.Perm (T.flatMap fun y0 => rwL k x y t z X y0 (psF (fun j => cs.getD j (0, 0)) cs.length) (fun j => ms.getD j (0, 0)) ms.length)
/-- Leaps one behind the other. -/
def runI (k x y t z X : Int) (L : Nat → List Pt) : Nat → List Pt → List Pt → Prop
  | 0, a, b => a = b
  | i + 1, a, b => ∃ c, runI k x y t z X L i a c ∧ leapR k x y t z X (L i) c b
/-- Places of the grid. -/
def InT (x y X Y : Int) (cs : List Pt) : Prop := ∀ p ∈ cs, (X ≤ p.1 ∧ p.1 < X + x) ∧ (Y ≤ p.2 ∧ p.2 < Y + y)
theorem leapR_in {k x y t z X Y : Int} {ms cs nx : List Pt} (hx : 1 ≤ x) (hY : ∀ p, Y ≤ (cellP k x y t z p).2 ∧ (cellP k x y t z p).2 < Y + y) (h : leapR k x y t z X ms cs nx) : InT x y X Y nx ∧ nx.length ≤ y.toNat * x.toNat := by
  obtain ⟨Ks, T, h1, h2, h3, h4⟩ := h
  have hT : ∀ q ∈ T, Y ≤ q ∧ q < Y + y := fun q hq => by
    obtain ⟨r, _, j, _, e⟩ := (h2 q).1 hq
    rw [e]
    exact hY _
  constructor
  · intro p hp
    obtain ⟨y0, hy0, hp⟩ := List.mem_flatMap.1 (h4.mem_iff.1 hp)
    obtain ⟨e1, e2, e3⟩ := rwL_in hx _ _ _ p hp
    rw [e1]
    exact ⟨⟨e2, e3⟩, hT y0 hy0⟩
  · rw [h4.length_eq]
    exact Nat.le_trans (flat_len _ x.toNat T (fun q _ => (rwL_in hx _ _ _).lenx (rwL_nodup _ _ _))) (Nat.mul_le_mul_right _ (len_box h3 hT))
theorem cellP_in {k x y t z : Int} (hk : k = 2) (hx : 1 ≤ x) (hy : 1 ≤ y) (p : Pt) : (To.fi x ≤ (cellP k x y t z p).1 ∧ (cellP k x y t z p).1 < To.fi x + x) ∧ (To.fi y ≤ (cellP k x y t z p).2 ∧ (cellP k x y t z p).2 < To.fi y + y) := by
  have a1 : To.fi x = -(x / 2) := rfl
  have a2 : To.fi y = -(y / 2) := rfl
  unfold cellP
  split
  · unfold Fd.ceX Fd.ceY
    have hg : Fd.glB k = true := by unfold Fd.glB; simp [hk]
    rw [if_pos hg, if_pos hg]
    have b1 := Fo.cx_bd k y t z (p.1 - To.fi x) (p.2 - To.fi y) hx
    have b2 := Fo.cy_bd k x t z (p.1 - To.fi x) (p.2 - To.fi y) hy
    simp only
    omega
  · simp only
    omega
theorem Pl.congr {w : World} {sp : Option Addr} {n : Nat} {f f' : Nat → Pt} (h : Pl w sp n f) (he : ∀ j, j < n → f j = f' j) : Pl w sp n f' := fun k hk => by rw [← he k hk]; exact h k hk
end Ln
end Go.Proofs.YtbmpiddjakdebaaGreat
