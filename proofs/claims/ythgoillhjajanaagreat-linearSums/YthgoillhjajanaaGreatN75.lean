/- Answers laid by rows; LinearBoth: the walk. -/
import Derived.Test.YthgoillhjajanaaGreatN74
namespace Go.Proofs.YthgoillhjajanaaGreat
open Go.RowKit
set_option linter.unusedVariables false
set_option linter.unusedSimpArgs false
set_option maxRecDepth 100000

namespace Ln
/-- What is answered: by rows, none twice, of the grid, alike to a sum. -/
structure Rs (x y t z : Int) (X A : List Pt) : Prop where
  nd : X.Nodup
  inn : InT x y (To.fi x) (To.fi y) X
  st : srt X = X
  eqv : Eqv (CE x y t z) X A
theorem srt_srt (X : List Pt) : srt (srt X) = srt X := srt_congr (srt_perm X)
theorem rs_of {x y t z : Int} {nx A : List Pt} (h1 : nx.Nodup) (h2 : InT x y (To.fi x) (To.fi y) nx) (h3 : Eqv (CE x y t z) nx A) : Rs x y t z (srt nx) A :=
  ⟨(srt_perm nx).nodup_iff.2 h1, fun p hp => h2 p ((srt_perm nx).mem_iff.1 hp), srt_srt nx, (eqv_of_perm _ (srt_perm nx)).trans h3⟩
theorem Rs.eq {x y t z : Int} {X Y A B : List Pt} (h : Rs x y t z X A) (h' : Rs x y t z Y B) (e : Eqv (CE x y t z) A B) : X = Y := by
  have hp : X.Perm Y := eqv_perm h.nd h'.nd (fun p hp => CE_fix (h.inn p hp).1 (h.inn p hp).2) (fun p hp => CE_fix (h'.inn p hp).1 (h'.inn p hp).2) ((h.eqv.trans e).trans h'.eqv.symm)
  rw [← h.st, ← h'.st]
  exact srt_congr hp
theorem in_len {x y X Y : Int} {C : List Pt} (hn : C.Nodup) (h : InT x y X Y C) : C.length ≤ y.toNat * x.toNat := by
  have h1 := len_sub C (((List.range y.toNat).map (fun j : Nat => Y + (j : Int))).flatMap fun y0 => (List.range x.toNat).map fun i : Nat => ((X + (i : Int), y0) : Pt)) hn (fun q hq => by
    obtain ⟨h1, h2⟩ := h q hq
    refine List.mem_flatMap.2 ⟨q.2, List.mem_map.2 ⟨(q.2 - Y).toNat, List.mem_range.2 (by omega), by omega⟩, List.mem_map.2 ⟨(q.1 - X).toNat, List.mem_range.2 (by omega), ?_⟩⟩
    obtain ⟨a, b⟩ := q
    simp only at h1 ⊢
    congr 1
    omega)
  have h2 := flat_len (fun y0 => (List.range x.toNat).map fun i : Nat => ((X + (i : Int), y0) : Pt)) x.toNat ((List.range y.toNat).map (fun j : Nat => Y + (j : Int))) (fun q _ => by simp)
  simp only [List.length_map, List.length_range] at h2
  exact Nat.le_trans h1 h2
theorem in_len12 {x y X Y : Int} (hx : x ≤ 1024) (hy : y ≤ 1024) {C : List Pt} (hn : C.Nodup) (h : InT x y X Y C) : C.length < 1000000000 := by
  have h1 := in_len hn h
  have h2 : y.toNat * x.toNat ≤ 1024 * 1024 := Nat.mul_le_mul (by omega) (by omega)
  omega
theorem jumpX (x y t z : Int) (T : Ts x y t z) (s1 : Option Addr) (c1 : Nat) (D : List Pt) (hD : Of D) (h01 : s1 = none → D.length = 0 ∧ c1 = 0) (s2 : Option Addr) (c2 : Nat) (C : List Pt) (hC : C.Nodup) (hI : InT x y (To.fi x) (To.fi y) C) (h02 : s2 = none → C.length = 0 ∧ c2 = 0) (g : Nat) (hg : g ≤ 1125899906842624) (hgl : ∀ a b c d e ms, (lpL a b c d e ms g).length ≤ 64) (w : World) (H1 : Pl w s1 D.length (fun k => D.getD k (0, 0))) (H2 : Pl w s2 C.length (fun k => C.getD k (0, 0))) :
    Calls Tryz.prog 11 #[.agg #[.int .u8 2, .int .i64 x, .int .i64 y, .int .u8 t, .int .i64 z], .slice s1 D.length c1, .slice s2 C.length c2, .int .i64 g] w fun e w' => ∃ (v : Value) (X : List Pt), e = .returned (.tuple #[v, .int .i64 0]) ∧ w'.ownsRow w.heap.size 42 2 v X.length (fl X) ∧ Hid (Rs x y t z X (mulL (pwL (D.map neg) g) C)) ∧ w.grownBy w' none := by
  refine (jumpL x y t z T s1 c1 D hD h01 s2 c2 C hC hI (in_len12 T.hx.2 T.hy.2 hC hI) h02 g hg hgl w H1 H2).mono ?_
  rintro e w' ⟨v, nx, he, own, b1, b2, b3, hw⟩
  exact ⟨v, srt nx, he, by rw [srt_len]; exact own, rs_of b1 b2 b3, hw⟩
theorem nextX (x y t z : Int) (T : Ts x y t z) (s1 : Option Addr) (c1 : Nat) (D : List Pt) (hD : Of D) (h01 : s1 = none → D.length = 0 ∧ c1 = 0) (s2 : Option Addr) (c2 : Nat) (C : List Pt) (hC : C.Nodup) (hI : InT x y (To.fi x) (To.fi y) C) (h02 : s2 = none → C.length = 0 ∧ c2 = 0) (w : World) (H1 : Pl w s1 D.length (fun k => D.getD k (0, 0))) (H2 : Pl w s2 C.length (fun k => C.getD k (0, 0))) :
    Calls Tryz.prog 13 #[.agg #[.int .u8 2, .int .i64 x, .int .i64 y, .int .u8 t, .int .i64 z], .slice s1 D.length c1, .slice s2 C.length c2] w fun e w' => ∃ (v : Value) (X : List Pt), e = .returned (.tuple #[v, .int .i64 0]) ∧ w'.ownsRow w.heap.size 42 2 v X.length (fl X) ∧ Hid (Rs x y t z X (mulL (D.map neg) C)) ∧ w.grownBy w' none := by
  refine (nextL x y t z T s1 c1 D hD h01 s2 c2 C hC hI (in_len12 T.hx.2 T.hy.2 hC hI) h02 w H1 H2).mono ?_
  rintro e w' ⟨v, nx, he, own, b1, b2, b3, hw⟩
  exact ⟨v, srt nx, he, by rw [srt_len]; exact own, rs_of b1 b2 b3, hw⟩
/-- A product as it is answered. -/
structure Tr (X A : List Pt) : Prop where
  of : Of X
  st : srt X = X
  eqv : Eqv id X A
theorem Tr.eq {X Y A B : List Pt} (h : Tr X A) (h' : Tr Y B) (e : Eqv id A B) : X = Y := by
  have hp : X.Perm Y := eqv_perm h.of.nd h'.of.nd (fun p hp => rfl) (fun p hp => rfl) ((h.eqv.trans e).trans h'.eqv.symm)
  rw [← h.st, ← h'.st]
  exact srt_congr hp
/-- Offsets as the statements make them. -/
structure Od (m : Nat) (D : List Pt) : Prop where
  nd : D.Nodup
  le : D.length ≤ m
  bd : ∀ p ∈ D, (-1000 ≤ p.1 ∧ p.1 ≤ 1000) ∧ (-1000 ≤ p.2 ∧ p.2 ≤ 1000)
theorem On.od {f : Nat → Pt} {n m : Nat} {D : List Pt} (h : On f n m D) : Od m D := ⟨h.nd, h.le, fun p hp => by
  obtain ⟨j, hj, e⟩ := h.of p hp
  have hk1 := Int.tmod_lt_of_pos (f j).1 (show (0 : Int) < 1000 by omega)
  have hk2 := Int.lt_tmod_of_pos (f j).1 (show (0 : Int) < 1000 by omega)
  have hk3 := Int.tmod_lt_of_pos (f j).2 (show (0 : Int) < 1000 by omega)
  have hk4 := Int.lt_tmod_of_pos (f j).2 (show (0 : Int) < 1000 by omega)
  rw [e]
  unfold tm3
  simp only
  omega⟩
theorem Od.of {m : Nat} {D : List Pt} (h : Od m D) (hm : m ≤ 64) : Of D := ⟨h.nd, Nat.le_trans h.le hm, fun p hp => by have := h.bd p hp; omega⟩
theorem timesX (s1 : Option Addr) (c1 : Nat) (D : List Pt) (hD : Od 8 D) (s2 : Option Addr) (c2 : Nat) (E : List Pt) (hE : Od 8 E) (w : World) (H1 : Pl w s1 D.length (fun k => D.getD k (0, 0))) (H2 : Pl w s2 E.length (fun k => E.getD k (0, 0))) :
    Calls Tryz.prog 17 #[.slice s1 D.length c1, .slice s2 E.length c2] w fun e w' => ∃ (v : Value) (T : List Pt), e = .returned (.tuple #[v, .int .i64 0]) ∧ w'.ownsRow w.heap.size 42 2 v T.length (fl T) ∧ Hid (Tr T (mulL D E)) ∧ w.grownBy w' none := by
  refine (timesL s1 c1 D (hD.of (by omega)) s2 c2 E (hE.of (by omega)) (fun p hp => hp.elim (hD.bd p) (hE.bd p)) w H1 H2).mono ?_
  rintro e w' ⟨v, T, he, own, b1, b2, b3, b4, hw⟩
  have l1 := hD.le
  have l2 := hE.le
  have h64 : D.length * E.length ≤ 8 * 8 := Nat.mul_le_mul l1 l2
  refine ⟨v, srt T, he, by rw [srt_len]; exact own, ⟨⟨(srt_perm T).nodup_iff.2 b1, by rw [srt_len]; omega, fun p hp => by have := b3 p ((srt_perm T).mem_iff.1 hp); omega⟩, srt_srt T, (eqv_of_perm _ (srt_perm T)).trans b4⟩, hw⟩
theorem same_refl (X : List Pt) (hX : ∀ p ∈ X, (-1099511627776 ≤ p.1 ∧ p.1 ≤ 1099511627776) ∧ (-1099511627776 ≤ p.2 ∧ p.2 ≤ 1099511627776)) (hl : X.length < 1000000000) (s1 : Option Addr) (c1 : Nat) (s2 : Option Addr) (c2 : Nat) (w : World) (H1 : Pl w s1 X.length (fun k => X.getD k (0, 0))) (H2 : Pl w s2 X.length (fun k => X.getD k (0, 0))) :
    Calls Tryz.prog 14 #[.slice s1 X.length c1, .slice s2 X.length c2] w fun e w' => e = .returned (.bool true) ∧ w.grownBy w' none :=
  sameEq s1 X.length c1 (fun k => X.getD k (0, 0)) (fun k hk => ptok_bd (hX _ (getD_mem X k hk))) hl s2 c2 w H1 H2
/-- By a product, and by the one behind the other. -/
theorem both_eqv {x y t z : Int} (T : Ts x y t z) {a b c ab X Y : List Pt} (h1 : Tr ab (mulL a b)) (h2 : Rs x y t z X (mulL (b.map neg) c)) (h3 : Rs x y t z Y (mulL (a.map neg) X)) : Eqv (CE x y t z) (mulL (ab.map neg) c) (mulL (a.map neg) X) := by
  have hG := gc_CE x y t z T.hx.1 T.hy.1
  have e1 := eqv_plane h1.eqv neg (CE x y t z)
  rw [neg_mulL] at e1
  exact ((mulL_left hG e1 c).trans (mulL_assoc _ _ _ _)).trans (mulL_right hG _ h2.eqv.symm)
set_option maxHeartbeats 4000000 in
theorem both_walk (a0 a1 a2 a3 : Int) (s1 : Option Addr) (n1 c1 : Nat) (f1 : Nat → Pt) (s2 : Option Addr) (n2 c2 : Nat) (f2 : Nat → Pt) (s3 : Option Addr) (n3 c3 : Nat) (f3 : Nat → Pt) (z1 : s1 = none → n1 = 0 ∧ c1 = 0) (m1 : n1 ≤ 8796093021952) (o1 : ∀ j, j < n1 → PtOk (f1 j)) (z2 : s2 = none → n2 = 0 ∧ c2 = 0) (m2 : n2 ≤ 8796093021952) (o2 : ∀ j, j < n2 → PtOk (f2 j)) (z3 : s3 = none → n3 = 0 ∧ c3 = 0) (m3 : n3 ≤ 8796093021952) (o3 : ∀ j, j < n3 → PtOk (f3 j)) (w : World) (H1 : Pl w s1 n1 f1) (H2 : Pl w s2 n2 f2) (H3 : Pl w s3 n3 f3) :
    Calls Tryz.prog 6 #[.agg #[.int .i64 a0, .int .i64 a1, .int .i64 a2, .int .i64 a3], .slice s1 n1 c1, .slice s2 n2 c2, .slice s3 n3 c3] w fun e w' => e = .returned (.bool true) ∧ Below w.heap.size w w' := by
  obtain ⟨W1, hW1, sz1, g1, B1⟩ := boxn w #[.int .i64 a0, .int .i64 a1, .int .i64 a2, .int .i64 a3] 23
  have kA := aliveC W1
  have kT := fun w1 => topoC a0 a1 a2 a3 w1
  have kO1 := fun w1 (g : w.grownBy w1 none) => onceC s1 n1 c1 f1 m1 8 (by omega) w1 (H1.kept g (by simp))
  have kO2 := fun w1 (g : w.grownBy w1 none) => onceC s2 n2 c2 f2 m2 8 (by omega) w1 (H2.kept g (by simp))
  have kC := fun w1 (g : w.grownBy w1 none) (x y t z : Int) hx hy => cellsC x y t z hx hy s3 n3 c3 f3 m3 w1 (H3.kept g (by simp))
  clear z1 z2 z3 o1 o2 o3 H1 H2 H3 m1 m2 m3
  go_enter Tryz.func6, Tryz.ntmps6
  go_wp2_with (first | (go_at_call 7; refine kA.mono ?_; rintro e w1 ⟨rfl, g2⟩; clear kA; have B2 := B1.kept g2 (by simp); have b0 := B2.cell 0 (v := .int .i64 a0) rfl; have b1 := B2.cell 1 (v := .int .i64 a1) rfl; have b2 := B2.cell 2 (v := .int .i64 a2) rfl; have b3 := B2.cell 3 (v := .int .i64 a3) rfl) | (go_at_call 8; refine (kT _).mono ?_; rintro e w3 ⟨x, y, t, z, rfl, hT, hxy, g3⟩; clear kT; obtain ⟨W4, hW4, sz4, g4, B4⟩ := boxn w3 #[.int .u8 2, .int .i64 x, .int .i64 y, .int .u8 t, .int .i64 z] 27; have HT : Hid (Ts x y t z ∧ (x ≤ 12 ∧ y ≤ 12)) := ⟨hT, hxy⟩; clear hT hxy; have d0 := B4.cell 0 (v := .int .u8 2) rfl; have d1 := B4.cell 1 (v := .int .i64 x) rfl; have d2 := B4.cell 2 (v := .int .i64 y) rfl; have d3 := B4.cell 3 (v := .int .u8 t) rfl; have d4 := B4.cell 4 (v := .int .i64 z) rfl; have G4 := gb_trans g1 (gb_trans g2 (gb_trans g3 g4)); have kO1' := kO1 W4 G4; clear kO1) | (go_at_call 9; refine kO1'.mono ?_; rintro e w5 ⟨v5, Da, rfl, own5, hO5, g5⟩; clear kO1'; have HA : Hid (Od 8 Da) := hO5.od; obtain ⟨sa, ca, rfl, Pa, za⟩ := own_shape0 own5 rfl; have Za : Hid (sa = none → Da.length = 0 ∧ ca = 0) := za; clear own5 hO5 za; have G5 := gb_trans G4 g5; have kO2' := kO2 w5 G5; clear kO2) | (go_at_call 9; refine kO2'.mono ?_; rintro e w6 ⟨v6, Db, rfl, own6, hO6, g6⟩; clear kO2'; have HB : Hid (Od 8 Db) := hO6.od; obtain ⟨sb, cb, rfl, Pb, zb⟩ := own_shape0 own6 rfl; have Zb : Hid (sb = none → Db.length = 0 ∧ cb = 0) := zb; clear own6 hO6 zb; have Pa6 := Pa.kept g6 (by simp); have G6 := gb_trans G5 g6; have B6 := (B4.kept g5 (by simp)).kept g6 (by simp); have h0 := B6.cell 0 (v := .int .u8 2) rfl; have h1 := B6.cell 1 (v := .int .i64 x) rfl; have h2 := B6.cell 2 (v := .int .i64 y) rfl; have h3 := B6.cell 3 (v := .int .u8 t) rfl; have h4 := B6.cell 4 (v := .int .i64 z) rfl; have kC' := kC w6 G6 x y t z ⟨HT.out.1.hx.1, HT.out.2.1⟩ ⟨HT.out.1.hy.1, HT.out.2.2⟩; clear kC) | (go_at_call 10; refine kC'.mono ?_; rintro e w7 ⟨v7, Dc, rfl, own7, hn7, hi7, _, g7⟩; clear kC'; have HC : Hid (Dc.Nodup ∧ InT x y (To.fi x) (To.fi y) Dc) := ⟨hn7, hi7⟩; obtain ⟨sc, cc, rfl, Pc, zc⟩ := own_shape0 own7 rfl; have Zc : Hid (sc = none → Dc.length = 0 ∧ cc = 0) := zc; clear own7 hn7 hi7 zc; have Pa7 := Pa6.kept g7 (by simp); have Pb7 := Pb.kept g7 (by simp); have B7 := B6.kept g7 (by simp); have G7 := gb_trans G6 g7; have kM1 := timesX sa ca Da HA.out sb cb Db HB.out w7 Pa7 Pb7) | (go_at_call 17; refine kM1.mono ?_; rintro e w8 ⟨v8, Ab, rfl, own8, HR8, g8⟩; clear kM1; obtain ⟨sd, cd, rfl, Pd, zd⟩ := own_shape0 own8 rfl; have Zd : Hid (sd = none → Ab.length = 0 ∧ cd = 0) := zd; clear own8 zd; have Pa8 := Pa7.kept g8 (by simp); have Pb8 := Pb7.kept g8 (by simp); have Pc8 := Pc.kept g8 (by simp); have B8 := B7.kept g8 (by simp); have G8 := gb_trans G7 g8; have kM2 := timesX sb cb Db HB.out sa ca Da HA.out w8 Pb8 Pa8) | (go_at_call 17; refine kM2.mono ?_; rintro e w9 ⟨v9, Ba, rfl, own9, HR9, g9⟩; clear kM2; have heq : Ba = Ab := HR9.out.eq HR8.out (mulL_comm _ _ _); subst heq; obtain ⟨se, ce, rfl, Pe, ze⟩ := own_shape0 own9 rfl; clear own9 ze HR9; have Pa9 := Pa8.kept g9 (by simp); have Pb9 := Pb8.kept g9 (by simp); have Pc9 := Pc8.kept g9 (by simp); have Pd9 := Pd.kept g9 (by simp); have B9 := B8.kept g9 (by simp); have G9 := gb_trans G8 g9; have i0 := B9.cell 0 (v := .int .u8 2) rfl; have i1 := B9.cell 1 (v := .int .i64 x) rfl; have i2 := B9.cell 2 (v := .int .i64 y) rfl; have i3 := B9.cell 3 (v := .int .u8 t) rfl; have i4 := B9.cell 4 (v := .int .i64 z) rfl; have kN1 := nextX x y t z HT.out.1 sb cb Db (HB.out.of (by omega)) Zb.out sc cc Dc HC.out.1 HC.out.2 Zc.out w9 Pb9 Pc9) | (go_at_call 13; refine kN1.mono ?_; rintro e w10 ⟨v10, X1, rfl, own10, HR10, g10⟩; clear kN1; obtain ⟨sx, cx, rfl, Px, zx⟩ := own_shape0 own10 rfl; have Zx : Hid (sx = none → X1.length = 0 ∧ cx = 0) := zx; clear own10 zx; have Pa10 := Pa9.kept g10 (by simp); have Pc10 := Pc9.kept g10 (by simp); have Pd10 := Pd9.kept g10 (by simp); have Pe10 := Pe.kept g10 (by simp); have B10 := B9.kept g10 (by simp); have G10 := gb_trans G9 g10; have j0 := B10.cell 0 (v := .int .u8 2) rfl; have j1 := B10.cell 1 (v := .int .i64 x) rfl; have j2 := B10.cell 2 (v := .int .i64 y) rfl; have j3 := B10.cell 3 (v := .int .u8 t) rfl; have j4 := B10.cell 4 (v := .int .i64 z) rfl; have kN2 := nextX x y t z HT.out.1 sa ca Da (HA.out.of (by omega)) Za.out sx cx X1 HR10.out.nd HR10.out.inn Zx.out w10 Pa10 Px) | (go_at_call 13; refine kN2.mono ?_; rintro e w11 ⟨v11, Y1, rfl, own11, HR11, g11⟩; clear kN2; obtain ⟨sy, cy, rfl, Py, zy⟩ := own_shape0 own11 rfl; clear own11 zy; have Pc11 := Pc10.kept g11 (by simp); have Pd11 := Pd10.kept g11 (by simp); have Pe11 := Pe10.kept g11 (by simp); have B11 := B10.kept g11 (by simp); have G11 := gb_trans G10 g11; have k0 := B11.cell 0 (v := .int .u8 2) rfl; have k1 := B11.cell 1 (v := .int .i64 x) rfl; have k2 := B11.cell 2 (v := .int .i64 y) rfl; have k3 := B11.cell 3 (v := .int .u8 t) rfl; have k4 := B11.cell 4 (v := .int .i64 z) rfl; have kN3 := nextX x y t z HT.out.1 sd cd Ba HR8.out.of Zd.out sc cc Dc HC.out.1 HC.out.2 Zc.out w11 Pd11 Pc11) | (go_at_call 13; refine kN3.mono ?_; rintro e w12 ⟨v12, Z1, rfl, own12, HR12, g12⟩; clear kN3; have heq : Z1 = Y1 := HR12.out.eq HR11.out (both_eqv HT.out.1 HR8.out HR10.out HR11.out); subst heq; obtain ⟨sz, cz, rfl, Pz, zz⟩ := own_shape0 own12 rfl; clear own12 zz HR12; have Pd12 := Pd11.kept g12 (by simp); have Pe12 := Pe11.kept g12 (by simp); have Py12 := Py.kept g12 (by simp); have G12 := gb_trans G11 g12; have kS1 := same_refl Ba HR8.out.of.bd (by have := HR8.out.of.le; omega) sd cd se ce w12 Pd12 Pe12; have kS2 := fun w13 (g13 : w12.grownBy w13 none) => same_refl Z1 (fun p hp => inT_bd HT.out.1.hx HT.out.1.hy HR11.out.inn hp) (in_len12 HT.out.1.hx.2 HT.out.1.hy.2 HR11.out.nd HR11.out.inn) sy cy sz cz w13 (Py12.kept g13 (by simp)) (Pz.kept g13 (by simp))) | (go_at_call 14; refine kS1.mono ?_; rintro e w13 ⟨rfl, g13⟩; clear kS1; have kS3 := kS2 w13 g13; clear kS2) | (go_at_call 14; refine kS3.mono ?_; rintro e w14 ⟨rfl, g14⟩; clear kS3) | go_in)
  go_ret
  exact ⟨rfl, gb_below (gb_trans G12 (gb_trans g13 g14))⟩
end Ln
end Go.Proofs.YthgoillhjajanaaGreat
