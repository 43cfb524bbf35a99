/- LinearCopies: the walk. -/
import Derived.Test.YthgoillhjajanaaGreatN75
namespace Go.Proofs.YthgoillhjajanaaGreat
open Go.RowKit
set_option linter.unusedVariables false
set_option linter.unusedSimpArgs false
set_option maxRecDepth 100000

namespace Ln
theorem mul_bd {P p : Int} (hP : 1 ≤ P ∧ P ≤ 1048576) (hp : -1000 ≤ p ∧ p ≤ 1000) : -1048576000 ≤ P * p ∧ P * p ≤ 1048576000 := by
  have h1 : P * p ≤ P * 1000 := Int.mul_le_mul_of_nonneg_left hp.2 (by omega)
  have h2 : P * (-1000) ≤ P * p := Int.mul_le_mul_of_nonneg_left hp.1 (by omega)
  omega
theorem wide_of {D : List Pt} {m P : Nat} (h : Od m D) (hP : 1 ≤ P ∧ P ≤ 1048576) (hm : m ≤ 64 := by omega) : Of (D.map (tmsP (P : Int))) := by
  refine ⟨?_, by rw [List.length_map]; exact Nat.le_trans h.le hm, fun p hp => ?_⟩
  · have hh := List.nodup_iff_pairwise_ne.1 h.nd
    refine List.nodup_iff_pairwise_ne.2 ((List.pairwise_map).2 (hh.imp (fun {a b} e e2 => e ?_)))
    unfold tmsP at e2
    simp only [Prod.mk.injEq] at e2
    have hne : (P : Int) ≠ 0 := by omega
    have h1 := Int.eq_of_mul_eq_mul_left hne e2.1
    have h2 := Int.eq_of_mul_eq_mul_left hne e2.2
    exact Prod.ext h1 h2
  · obtain ⟨q, hq, rfl⟩ := List.mem_map.1 hp
    have hb := h.bd q hq
    have h1 := mul_bd (P := (P : Int)) (by omega) hb.1
    have h2 := mul_bd (P := (P : Int)) (by omega) hb.2
    unfold tmsP
    simp only
    omega
theorem wide_eqv {x y t z : Int} {D : List Pt} {j P : Nat} (hP : 2 ^ j = P) (hG : Gc (CE x y t z)) : Eqv (CE x y t z) (pwL (D.map neg) P) ((D.map (tmsP (P : Int))).map neg) := by
  subst hP
  have h := pw_two hG (D.map neg) j
  have e : (D.map neg).map (tmsP ((2 ^ j : Nat) : Int)) = (D.map (tmsP ((2 ^ j : Nat) : Int))).map neg := by
    rw [List.map_map, List.map_map]
    exact List.map_congr_left fun p _ => by
      show tmsP _ (neg p) = neg (tmsP _ p)
      unfold tmsP neg
      simp only [Int.mul_neg]
  rw [e] at h
  exact h
set_option maxHeartbeats 1000000 in
theorem copies_walk (a0 a1 a2 a3 : Int) (s1 : Option Addr) (n1 c1 : Nat) (f1 : Nat → Pt) (s3 : Option Addr) (n3 c3 : Nat) (f3 : Nat → Pt) (k : Int) (z1 : s1 = none → n1 = 0 ∧ c1 = 0) (m1 : n1 ≤ 8796093021952) (o1 : ∀ j, j < n1 → PtOk (f1 j)) (z3 : s3 = none → n3 = 0 ∧ c3 = 0) (m3 : n3 ≤ 8796093021952) (o3 : ∀ j, j < n3 → PtOk (f3 j)) (w : World) (H1 : Pl w s1 n1 f1) (H3 : Pl w s3 n3 f3) :
    Calls Tryz.prog 5 #[.agg #[.int .i64 a0, .int .i64 a1, .int .i64 a2, .int .i64 a3], .slice s1 n1 c1, .slice s3 n3 c3, .int .i64 k] w fun e w' => e = .returned (.bool true) ∧ Below w.heap.size w w' := by
  obtain ⟨W1, hW1, sz1, g1, B1⟩ := boxn w #[.int .i64 a0, .int .i64 a1, .int .i64 a2, .int .i64 a3] 23
  have kA := aliveC W1
  have kT := fun w1 => topoC a0 a1 a2 a3 w1
  have kO1 := fun w1 (g : w.grownBy w1 none) => onceC s1 n1 c1 f1 m1 12 (by omega) w1 (H1.kept g (by simp))
  have kC := fun w1 (g : w.grownBy w1 none) (x y t z : Int) hx hy => cellsC x y t z hx hy s3 n3 c3 f3 m3 w1 (H3.kept g (by simp))
  have kU := fun w1 => upG k 21 (by omega) (by omega) w1
  have hK := up_bd k 21 (by omega)
  obtain ⟨j, hj⟩ : ∃ j : Nat, k % 21 = (j : Int) := ⟨(k % 21).toNat, by omega⟩
  rw [hj] at kU hK
  obtain ⟨P, hP⟩ : ∃ P : Nat, 2 ^ j = P := ⟨_, rfl⟩
  have hPb : 1 ≤ P ∧ P ≤ 1048576 := by
    have h1 := Nat.two_pow_pos j
    have h2 : 2 ^ j ≤ 2 ^ 20 := Nat.pow_le_pow_right (by omega) (by omega)
    rw [hP] at h1 h2
    omega
  have hPi : (2 : Int) ^ j = (P : Int) := by rw [← hP, Int.natCast_pow]; rfl
  have hPw : wrap64 ((2 : Int) ^ j) = (P : Int) := by
    rw [hPi]
    have e : wrap64 (P : Int) = IntKind.i64.wrap (P : Int) := by simp [wrap64, IntKind.wrap_i64]
    rw [e, IntKind.wrap_i64]; omega
  have HP2 : Hid (2 ^ j = P) := hP
  obtain ⟨i0, HI⟩ : ∃ i, Hid (Tryz.prog.info? 42 = some i ∧ i.zero = some (.agg #[.int .i64 0, .int .i64 0]) ∧ i.size = 2 ∧ i.bytes = 16) := by
    obtain ⟨i, h1, h2, h3, h4⟩ := info_parts infoK
    exact ⟨i, h1, h2, h3, h4⟩
  clear z1 z3 o1 o3 H1 H3 m1 m3 hj hPi hP
  go_enter Tryz.func5, Tryz.ntmps5
  go_wp2_with (first | (go_at_call 7; refine kA.mono ?_; rintro e w1 ⟨rfl, g2⟩; clear kA; have B2 := B1.kept g2 (by simp); have b0 := B2.cell 0 (v := .int .i64 a0) rfl; have b1 := B2.cell 1 (v := .int .i64 a1) rfl; have b2 := B2.cell 2 (v := .int .i64 a2) rfl; have b3 := B2.cell 3 (v := .int .i64 a3) rfl) | (go_at_call 8; refine (kT _).mono ?_; rintro e w3 ⟨x, y, t, z, rfl, hT, hxy, g3⟩; clear kT; obtain ⟨W4, hW4, sz4, g4, B4⟩ := boxn w3 #[.int .u8 2, .int .i64 x, .int .i64 y, .int .u8 t, .int .i64 z] 27; have HT : Hid (Ts x y t z ∧ (x ≤ 12 ∧ y ≤ 12)) := ⟨hT, hxy⟩; clear hT hxy; have d0 := B4.cell 0 (v := .int .u8 2) rfl; have d1 := B4.cell 1 (v := .int .i64 x) rfl; have d2 := B4.cell 2 (v := .int .i64 y) rfl; have d3 := B4.cell 3 (v := .int .u8 t) rfl; have d4 := B4.cell 4 (v := .int .i64 z) rfl; have G4 := gb_trans g1 (gb_trans g2 (gb_trans g3 g4)); have kO1' := kO1 W4 G4; clear kO1) | (go_at_call 9; refine kO1'.mono ?_; rintro e w5 ⟨v5, Da, rfl, own5, hO5, g5⟩; clear kO1'; have HA : Hid (Od 12 Da) := hO5.od; obtain ⟨sa, ca, rfl, Pa, za⟩ := own_shape0 own5 rfl; have Za : Hid (sa = none → Da.length = 0 ∧ ca = 0) := za; clear own5 hO5 za; have G5 := gb_trans G4 g5; have B6 := B4.kept g5 (by simp); have h0 := B6.cell 0 (v := .int .u8 2) rfl; have h1 := B6.cell 1 (v := .int .i64 x) rfl; have h2 := B6.cell 2 (v := .int .i64 y) rfl; have h3 := B6.cell 3 (v := .int .u8 t) rfl; have h4 := B6.cell 4 (v := .int .i64 z) rfl; have kC' := kC w5 G5 x y t z ⟨HT.out.1.hx.1, HT.out.2.1⟩ ⟨HT.out.1.hy.1, HT.out.2.2⟩; clear kC) | (go_at_call 10; refine kC'.mono ?_; rintro e w7 ⟨v7, Dc, rfl, own7, hn7, hi7, _, g7⟩; clear kC'; have HC : Hid (Dc.Nodup ∧ InT x y (To.fi x) (To.fi y) Dc) := ⟨hn7, hi7⟩; obtain ⟨sc, cc, rfl, Pc, zc⟩ := own_shape0 own7 rfl; have Zc : Hid (sc = none → Dc.length = 0 ∧ cc = 0) := zc; clear own7 hn7 hi7 zc; have Pa7 := Pa.kept g7 (by simp); have B7 := B6.kept g7 (by simp); have G7 := gb_trans G5 g7) | (go_at_call 12; refine (kU _).mono ?_; rintro e w9 ⟨rfl, hw9⟩; subst w9) | go_in)
  rw [hPw]
  clear hPw kU
  have lD := HA.out.le
  have sw : w7.heap.size ≤ w7.heap.size := Nat.le_refl _
  go_loopw [15, 14] (fun u v wr => ∃ (i : Nat) (ov : Value), i ≤ Da.length ∧ u = .int .i64 i ∧ v = ov ∧ wr.ownsRow w7.heap.size 42 2 ov i (fl ((Da.take i).map (tmsP (P : Int)))) ∧ w7.grownBy wr none) (fun u _ _ => Da.length - (intOf u).toNat)
  case atStart => exact ⟨0, _, Nat.zero_le _, rfl, rfl, World.ownsRow_nil _ _ _ _, World.grownBy.refl _ _⟩
  case round =>
    obtain ⟨i, ov, hi, rfl, hov, own, gi⟩ := hrel
    have hli : ((Da.take i).map (tmsP (P : Int))).length = i := by rw [List.length_map, List.length_take]; omega
    obtain ⟨sv, cv, hvv, Pv0, zv0⟩ := own_shape0 own hli
    subst hvv
    subst hov
    have Zv0 : Hid (sv = none → i = 0 ∧ cv = 0) := zv0
    clear Pv0 hli zv0
    have hi12 : i ≤ 12 := by have := HA.out.le; omega
    by_cases hlt : i < Da.length
    · have hlt' : (i : Int) < (Da.length : Int) := by omega
      have Pai := Pa7.kept gi (by simp)
      have hbd := HA.out.bd _ (getD_mem Da i hlt)
      have HTK : Hid (fl ((Da.take i).map (tmsP (P : Int))) ++ [.int .i64 ((P : Int) * (Da.getD i (0, 0)).1), .int .i64 ((P : Int) * (Da.getD i (0, 0)).2)] = fl ((Da.take (i + 1)).map (tmsP (P : Int)))) := by
        unfold Hid
        rw [take_getD' Da i hlt, List.map_append, fl_app]
        rfl
      obtain ⟨q, o, rfl, c0, c1⟩ := Pai i hlt
      simp only at c0 c1
      obtain ⟨E, hE⟩ : ∃ E, Da.getD i (0, 0) = E := ⟨_, rfl⟩
      rw [hE] at c0 c1 hbd HTK
      have HE : Hid (Da.getD i (0, 0) = E) := hE
      clear hE Pai
      obtain ⟨p0, p1⟩ := E
      simp only at c0 c1 hbd HTK
      have hm0 : -1048576000 ≤ (P : Int) * p0 ∧ (P : Int) * p0 ≤ 1048576000 := mul_bd (by omega) hbd.1
      have hm1 : -1048576000 ≤ (P : Int) * p1 ∧ (P : Int) * p1 ≤ 1048576000 := mul_bd (by omega) hbd.2
      have w0 : IntKind.i64.wrap ((P : Int) * p0) = (P : Int) * p0 := by rw [IntKind.wrap_i64]; omega
      have w1' : IntKind.i64.wrap ((P : Int) * p1) = (P : Int) * p1 := by rw [IntKind.wrap_i64]; omega
      have ownd : wr.drew.ownsRow w7.heap.size 42 2 (.slice sv i cv) i (fl ((Da.take i).map (tmsP (P : Int)))) := own
      obtain ⟨X2, hX2⟩ : ∃ X2, wr.drew.alloc (.cells #[.int .i64 ((P : Int) * p0), .int .i64 ((P : Int) * p1)] 42) = X2 := ⟨_, rfl⟩
      have gX2 : wr.drew.grownBy X2 none := (by rw [← hX2]; exact World.grownBy_alloc _ _ _)
      have nX : ∀ l u, [Value.int .i64 ((P : Int) * p0), .int .i64 ((P : Int) * p1)][l]? = some u → X2.cell? ((⟨wr.drew.heap.size, 0, none⟩ : Addr).add l) = some u := (by rw [← hX2]; exact World.news_of_block (heap_alloc_new _ _))
      have own2 := ownd.kept gX2 (Classical.em _)
      have G2x : w7.grownBy X2 none := gb_trans (gb_drew gi) gX2
      have sX : w7.heap.size ≤ X2.heap.size := G2x.size
      have how := fun gg e => own2.lt gg e
      have z0 := gX2.cell (show wr.drew.cell? ⟨q, o + i * 2, none⟩ = some (.int .i64 p0) from c0) (by simp)
      have z1 := gX2.cell (show wr.drew.cell? ⟨q, o + i * 2 + 1, none⟩ = some (.int .i64 p1) from c1) (by simp)
      have HQ : Hid (∀ w5, w7.grownBy w5 none → w5.cell? ⟨q, o + i * 2, none⟩ = some (.int .i64 p0) ∧ w5.cell? ⟨q, o + i * 2 + 1, none⟩ = some (.int .i64 p1)) := fun w5 g5 => by
        obtain ⟨q', o', e', c0', c1'⟩ := (Pa7.kept g5 (by simp)) i hlt
        simp only at c0' c1'
        obtain ⟨rfl, rfl⟩ : q = q' ∧ o = o' := by simpa using e'
        rw [HE.out] at c0' c1'
        exact ⟨c0', c1'⟩
      clear own ownd
      obtain ⟨LT, hLT⟩ : ∃ LT, fl ((Da.take i).map (tmsP (P : Int))) = LT := ⟨_, rfl⟩
      rw [hLT] at own2 HTK
      clear hLT
      go_wp2
      go_region_held_law (fun w' => w'.cell? ⟨q, o + i * 2, none⟩ = some (.int .i64 p0) ∧ w'.cell? ⟨q, o + i * 2 + 1, none⟩ = some (.int .i64 p1)) (go_keep) (first | (refine step_append_lies _ rfl (.tmp 38) (.tmp 54) 24 rfl w7.heap.size 42 i0 (.agg #[.int .i64 0, .int .i64 0]) 2 16 underPS HI.out.1 HI.out.2.1 HI.out.2.2.1 HI.out.2.2.2 rfl (by decide) _ i _ rfl own2 ⟨wr.drew.heap.size, 0, none⟩ 1 1 [.int .i64 ((P : Int) * p0), .int .i64 ((P : Int) * p1)] rfl rfl nX (by intro u hu; simp at hu; rcases hu with rfl | rfl <;> rfl) (by decide) (by unfold maxLen; omega) (by omega) sX _ rfl ?_; intro g6 c6 w5 own6 g5 at6 lt6; have G5' : w7.grownBy w5 none := G2x.andThen g5 (fun j hj => .inl (how j hj).1); obtain ⟨y0, y1⟩ := HQ.out w5 G5'))
      go_wp2
      go_roundw
      case rel => exact ⟨i + 1, _, by omega, by go_num, rfl, by rw [← HTK.out]; exact own6, G5'⟩
      case measure => simp [intOf]; omega
    · have hin : i = Da.length := by omega
      subst hin
      have hlt' : ¬ (Da.length : Int) < (Da.length : Int) := by omega
      rw [List.take_length] at own
      have hW := wide_of HA.out hPb
      have hl : (Da.map (tmsP (P : Int))).length = Da.length := List.length_map _
      have HM : Hid (∀ (X Y : List Pt), Rs x y t z X (mulL (pwL (Da.map neg) P) Dc) → Rs x y t z Y (mulL ((Da.map (tmsP (P : Int))).map neg) Dc) → X = Y) := fun X Y h1 h2 => h1.eq h2 (mulL_left (gc_CE x y t z HT.out.1.hx.1 HT.out.1.hy.1) (wide_eqv HP2.out (gc_CE x y t z HT.out.1.hx.1 HT.out.1.hy.1)) Dc)
      obtain ⟨Wd, hWd⟩ : ∃ Wd, Da.map (tmsP (P : Int)) = Wd := ⟨_, rfl⟩
      rw [hWd] at own hW hl HM
      clear hWd
      obtain ⟨sv', cv', hov, Pv', _⟩ := own_shape0 own hl
      obtain ⟨rfl, rfl⟩ : sv = sv' ∧ cv = cv' := by simpa using hov
      have Pv : Pl wr sv Wd.length (fun k => Wd.getD k (0, 0)) := by rw [hl]; exact Pv'
      have zv : sv = none → Wd.length = 0 ∧ cv = 0 := by rw [hl]; exact Zv0.out
      clear hov Pv'
      have HWo : Hid (Of Wd) := hW
      have HWl : Hid (Wd.length = Da.length) := hl
      have Zv : Hid (sv = none → Wd.length = 0 ∧ cv = 0) := zv
      have G8 := gb_trans G7 gi
      have B8 := B7.kept gi (by simp)
      have j0 := B8.cell 0 (v := .int .u8 2) rfl; have j1 := B8.cell 1 (v := .int .i64 x) rfl; have j2 := B8.cell 2 (v := .int .i64 y) rfl; have j3 := B8.cell 3 (v := .int .u8 t) rfl; have j4 := B8.cell 4 (v := .int .i64 z) rfl
      have kJ := jumpX x y t z HT.out.1 sa ca Da (HA.out.of (by omega)) Za.out sc cc Dc HC.out.1 HC.out.2 Zc.out P (by omega) (fun a b c d e ms => by rw [← HP2.out]; exact Nat.le_trans (lpL_pow a b c d e _ ms) (by decide)) wr (Pa7.kept gi (by simp)) (Pc.kept gi (by simp))
      have kN := fun w1 (g : wr.grownBy w1 none) => nextX x y t z HT.out.1 sv cv Wd HWo.out Zv.out sc cc Dc HC.out.1 HC.out.2 Zc.out w1 (Pv.kept g (by simp)) ((Pc.kept gi (by simp)).kept g (by simp))
      rw [hl] at kN
      clear own hW hl zv Zv0
      go_wp2_with (first | (go_at_call 11; refine kJ.mono ?_; rintro e w9 ⟨v9, X1, rfl, own9, HR9, g9⟩; clear kJ; obtain ⟨sx, cx, rfl, Px, zx⟩ := own_shape0 own9 rfl; clear own9 zx; have kN9 := kN w9 g9; clear kN; have B9 := B8.kept g9 (by simp); have k0 := B9.cell 0 (v := .int .u8 2) rfl; have k1 := B9.cell 1 (v := .int .i64 x) rfl; have k2 := B9.cell 2 (v := .int .i64 y) rfl; have k3 := B9.cell 3 (v := .int .u8 t) rfl; have k4 := B9.cell 4 (v := .int .i64 z) rfl) | (go_at_call 13; refine kN9.mono ?_; rintro e w10 ⟨v10, Y1, rfl, own10, HR10, g10⟩; clear kN9; have heq : X1 = Y1 := HM.out X1 Y1 HR9.out HR10.out; subst heq; obtain ⟨sy, cy, rfl, Py, zy⟩ := own_shape0 own10 rfl; clear own10 zy; have kS := same_refl X1 (fun p hp => inT_bd HT.out.1.hx HT.out.1.hy HR9.out.inn hp) (in_len12 HT.out.1.hx.2 HT.out.1.hy.2 HR9.out.nd HR9.out.inn) sx cx sy cy w10 (Px.kept g10 (by simp)) Py) | (go_at_call 14; refine kS.mono ?_; rintro e w11 ⟨rfl, g11⟩; clear kS) | go_in)
      go_ret
      exact ⟨rfl, gb_below (gb_trans G8 (gb_trans g9 (gb_trans g10 g11)))⟩
end Ln
end Go.Proofs.YthgoillhjajanaaGreat
