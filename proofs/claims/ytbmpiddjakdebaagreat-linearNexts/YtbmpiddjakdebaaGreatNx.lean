/- adds of fresh answers; what is kept; halves. -/
import Derived.Test.YtbmpiddjakdebaaGreatN47
import Derived.Test.YtbmpiddjakdebaaGreatNs
namespace Go.Proofs.YtbmpiddjakdebaaGreat
open Go.RowKit
set_option linter.unusedVariables false
set_option linter.unusedSimpArgs false
set_option maxRecDepth 100000

namespace Ln
theorem tmV_ok (f1 : Nat → Pt) (n1 : Nat) (f2 : Nat → Pt) (n2 : Nat) : (tmV f1 n1 f2 n2).length ≤ 4096 ∧ ∀ k, k < (tmV f1 n1 f2 n2).length → PtOk ((tmV f1 n1 f2 n2).getD k (0, 0)) := by
  by_cases hE : tmE f1 n1 f2 n2 = 0
  · have hv : tmV f1 n1 f2 n2 = tD f1 f2 n2 n1 := by unfold tmV; rw [if_pos hE]
    rw [hv]
    unfold tmE at hE
    by_cases ho : orL [ckO f1 n1 1099511627776, ckO f2 n2 1099511627776] = 0
    · rw [if_neg (by rw [ho]; simp)] at hE
      obtain ⟨e1, e2⟩ := orL2.1 ho
      have l1 := (ckO_zero e1).1
      have l2 := (ckO_zero e2).1
      have hl : lsW 1099511627776 (tD f1 f2 n2 n1) = true := by
        cases e : lsW 1099511627776 (tD f1 f2 n2 n1) with
        | true => rfl
        | false => rw [e] at hE; simp at hE
      refine ⟨Nat.le_trans (tD_len f1 f2 n2 n1) (Nat.le_trans (Nat.mul_le_mul l1 l2) (by decide)), fun k hk => ?_⟩
      have := (alW_is _ _ _).1 hl k hk
      rw [inW_is, inW_is] at this
      exact ⟨⟨by omega, by omega⟩, ⟨by omega, by omega⟩⟩
    · rw [if_pos ho] at hE
      exact absurd hE ho
  · have hv : tmV f1 n1 f2 n2 = [] := by unfold tmV; rw [if_neg hE]
    rw [hv]
    exact ⟨Nat.zero_le _, fun k hk => absurd hk (Nat.not_lt_zero _)⟩
theorem Bk.fresh {w w' : World} {base b : Nat} {gv uv : Value} {V U : List Value} {P : Nat → List Pt} (h : Bk w base b gv uv V U P) {v : Value} {m : Nat} {xs : List Value} (hv : w'.ownsRow w.heap.size 40 2 v m xs) : (∀ i, i < V.length → Nb (V.getD i nv) v) ∧ Nb gv v ∧ Nb uv v :=
  ⟨fun i hi g e e2 => by have := ((h.ev i hi).lt g e).2; have := (hv.lt g e2).1; omega, fun g e e2 => by have := (h.got.lt g e).2; have := (hv.lt g e2).1; omega, fun g e e2 => by have := (h.want.lt g e).2; have := (hv.lt g e2).1; omega⟩
theorem Bk.by {w w' : World} {base b : Nat} {gv uv : Value} {V U : List Value} {P : Nat → List Pt} (h : Bk w base b gv uv V U P) {g : Nat} (hg : w.grownBy w' (some g)) (hb : g < b) : Bk w' base b gv uv V U P := by
  have hbb := h.hb
  have ne : ∀ {x : Value} {e : TypeId} {sz m : Nat} {xs : List Value}, w.ownsRow base e sz x m xs → x.ownBlock = none ∨ x.ownBlock ≠ some g := fun hx => .inr (fun e => by have := (hx.lt g e).1; omega)
  exact ⟨h.box.kept hg (fun e => by have e := Option.some.inj e; omega), h.hb, Nat.le_trans h.hbw hg.size, h.got.kept hg (ne h.got), h.want.kept hg (ne h.want), h.lenU, fun i hi => (h.ev i hi).kept hg (ne (h.ev i hi)), fun i hi => (h.eu i hi).kept hg (ne (h.eu i hi)), h.ap, h.ng, h.gV, h.gU, h.uV, h.uU⟩
/-- Both fresh. -/
theorem addsF (Wb w wu wv : World) (gb : Wb.grownBy w none) (base b : Nat) (hbW : Wb.heap.size ≤ b) (gv uv : Value) (V U : List Value) (P : Nat → List Pt) (hB : Bk w base b gv uv V U P) (hN : V.length < 100) (gu : w.grownBy wu none) (gvv : wu.grownBy wv none) (v u : Value) (ps : List Pt) (ou : wu.ownsRow w.heap.size 40 2 u ps.length (fl ps)) (ov : wv.ownsRow wu.heap.size 40 2 v ps.length (fl ps)) (hok : ps.length ≤ 4096 ∧ ∀ k, k < ps.length → PtOk (ps.getD k (0, 0))) (r : Int) :
    Calls Tryz.prog 10 #[.pointer (some ⟨b, 0, none⟩), v, .int .i64 r, u, .int .i64 r] wv fun e w' => e = .returned (.tuple #[]) ∧ ∃ gv' uv', Bk w' base b gv' uv' (V ++ [v]) (U ++ [u]) (fun i => if i = V.length then ps else P i) ∧ Wb.grownBy w' none := by
  have hBu := hB.kept gu
  have fu := hB.fresh ou
  have fv := hBu.fresh ov
  have s1 := gu.size
  have hbw := hB.hbw
  exact addsC Wb wv (gb_trans gb (gb_trans gu gvv)) base b hbW gv uv V U P (hBu.kept gvv) hN v u ps (own_less ov (by omega)) ((own_less ou hbw).kept gvv (Classical.em _)) hok.2 (by omega) fv.1 fv.2.1 fv.2.2 fu.2.1 fu.2.2 r
/-- What it must be stands in the book already. -/
theorem addsO (Wb w wv : World) (gb : Wb.grownBy w none) (base b : Nat) (hbW : Wb.heap.size ≤ b) (gv uv : Value) (V U : List Value) (P : Nat → List Pt) (hB : Bk w base b gv uv V U P) (hN : V.length < 100) (gvv : w.grownBy wv none) (v : Value) (j : Nat) (hj : j < V.length) (ov : wv.ownsRow w.heap.size 40 2 v (P j).length (fl (P j))) (hok : (P j).length ≤ 4096 ∧ ∀ k, k < (P j).length → PtOk ((P j).getD k (0, 0))) (r : Int) :
    Calls Tryz.prog 10 #[.pointer (some ⟨b, 0, none⟩), v, .int .i64 r, U.getD j nv, .int .i64 r] wv fun e w' => e = .returned (.tuple #[]) ∧ ∃ gv' uv', Bk w' base b gv' uv' (V ++ [v]) (U ++ [U.getD j nv]) (fun i => if i = V.length then P j else P i) ∧ Wb.grownBy w' none := by
  have fv := hB.fresh ov
  have hbw := hB.hbw
  have hBv := hB.kept gvv
  exact addsC Wb wv (gb_trans gb gvv) base b hbW gv uv V U P hBv hN v (U.getD j nv) (P j) (own_less ov hbw) (hBv.eu j hj) hok.2 (by omega) fv.1 fv.2.1 fv.2.2 (hB.gU j hj) (hB.uU j hj) r
/-- Each X halved. -/
def hF (f : Nat → Pt) (j : Nat) : Pt := (Int.tdiv (f j).1 2, (f j).2)
theorem tdiv2_bd {x : Int} (h : -9223372036854775808 ≤ x ∧ x ≤ 9223372036854775807) : -9223372036854775808 ≤ Int.tdiv x 2 ∧ Int.tdiv x 2 ≤ 9223372036854775807 := by
  rcases Int.le_total 0 x with h1 | h1
  · rw [Int.tdiv_eq_ediv_of_nonneg h1]; omega
  · have e : Int.tdiv x 2 = -(Int.tdiv (-x) 2) := by rw [Int.neg_tdiv, Int.neg_neg]
    rw [e, Int.tdiv_eq_ediv_of_nonneg (by omega)]
    omega
theorem hF_ok {f : Nat → Pt} {n : Nat} (h : ∀ j, j < n → PtOk (f j)) : ∀ j, j < n → PtOk (hF f j) := fun j hj => ⟨tdiv2_bd (h j hj).1, (h j hj).2⟩
theorem fl_set1 : ∀ (ps : List Pt) (k : Nat) (a : Int), k < ps.length → (fl ps).set (k * 2) (.int .i64 a) = fl (ps.set k (a, (ps.getD k (0, 0)).2))
  | [], k, a, h => by simp at h
  | p :: ps, 0, a, h => rfl
  | p :: ps, k + 1, a, h => by
    rw [show (k + 1) * 2 = k * 2 + 1 + 1 by omega]
    show .int .i64 p.1 :: .int .i64 p.2 :: ((fl ps).set (k * 2) (.int .i64 a)) = .int .i64 p.1 :: .int .i64 p.2 :: fl (ps.set k (a, (ps.getD k (0, 0)).2))
    rw [fl_set1 ps k a (by simp at h; omega)]
end Ln
end Go.Proofs.YtbmpiddjakdebaaGreat
namespace Go.Proofs.YtbmpiddjakdebaaGreat
open Go.RowKit
set_option linter.unusedVariables false
set_option linter.unusedSimpArgs false
set_option maxRecDepth 100000

namespace Ln
/-- A torus that is gone through. -/
def smB (x y : Int) : Bool := decide (x ≤ 0) || decide (y ≤ 0) || decide (65536 < x) || decide (65536 < y) || decide (x * y ≤ 3000) || decide (1048576 < x * y)
theorem smB_le {x y : Int} (h : smB x y = true) (hx : 1 ≤ x ∧ x ≤ 65536) (hy : 1 ≤ y ∧ y ≤ 65536) (hxy : x * y ≤ 1048576) : x * y ≤ 3000 := by
  unfold smB at h
  simp only [Bool.or_eq_true, decide_eq_true_eq] at h
  omega
set_option maxHeartbeats 2000000 in
theorem smallC (k x y t z : Int) (w : World) : Calls Tryz.prog 6 #[.agg #[.int .u8 k, .int .i64 x, .int .i64 y, .int .u8 t, .int .i64 z]] w fun e w' => e = .returned (.bool (smB x y)) ∧ w.grownBy w' none := by
  obtain ⟨W1, hW1, sz1, g1, B1⟩ := boxn w #[.int .u8 k, .int .i64 x, .int .i64 y, .int .u8 t, .int .i64 z] 23
  have b0 := B1.cell 0 (v := .int .u8 k) rfl; have b1 := B1.cell 1 (v := .int .i64 x) rfl; have b2 := B1.cell 2 (v := .int .i64 y) rfl; have b3 := B1.cell 3 (v := .int .u8 t) rfl; have b4 := B1.cell 4 (v := .int .i64 z) rfl
  by_cases h1 : x ≤ 0
  · have e : smB x y = true := by unfold smB; simp [h1]
    rw [e]
    go_enter Tryz.func6, Tryz.ntmps6
    go_wp2
    go_ret
    exact ⟨rfl, g1⟩
  by_cases h2 : y ≤ 0
  · have e : smB x y = true := by unfold smB; simp [h2]
    rw [e]
    go_enter Tryz.func6, Tryz.ntmps6
    go_wp2
    go_ret
    exact ⟨rfl, g1⟩
  by_cases h3 : 65536 < x
  · have e : smB x y = true := by unfold smB; simp [h3]
    rw [e]
    go_enter Tryz.func6, Tryz.ntmps6
    go_wp2
    go_ret
    exact ⟨rfl, g1⟩
  by_cases h4 : 65536 < y
  · have e : smB x y = true := by unfold smB; simp [h4]
    rw [e]
    go_enter Tryz.func6, Tryz.ntmps6
    go_wp2
    go_ret
    exact ⟨rfl, g1⟩
  have hb : x * y ≤ 65536 * 65536 := Int.mul_le_mul (by omega) (by omega) (by omega) (by omega)
  have hb0 : 0 ≤ x * y := Int.mul_nonneg (by omega) (by omega)
  have ew : IntKind.i64.wrap (x * y) = x * y := by rw [IntKind.wrap_i64]; omega
  by_cases h5 : x * y ≤ 3000
  · have e : smB x y = true := by unfold smB; simp [h5]
    rw [e]
    clear hb hb0
    go_enter Tryz.func6, Tryz.ntmps6
    go_wp2
    go_ret
    exact ⟨rfl, g1⟩
  by_cases h6 : 1048576 < x * y
  · have e : smB x y = true := by unfold smB; simp [h6]
    rw [e]
    clear hb hb0
    go_enter Tryz.func6, Tryz.ntmps6
    go_wp2
    go_ret
    exact ⟨rfl, g1⟩
  · have e : smB x y = false := by unfold smB; simp [h1, h2, h3, h4, h5, h6]
    rw [e]
    clear hb hb0
    go_enter Tryz.func6, Tryz.ntmps6
    go_wp2
    go_ret
    exact ⟨rfl, g1⟩
def Okp (ps : List Pt) : Prop := ps.length ≤ 4096 ∧ ∀ k, k < ps.length → PtOk (ps.getD k (0, 0))
theorem okp_nil : Okp [] := ⟨Nat.zero_le _, fun k hk => absurd hk (Nat.not_lt_zero _)⟩
theorem okp_if {ps : List Pt} {P : Nat → List Pt} {k : Nat} (h : Okp ps) (hP : ∀ i, Okp (P i)) (i : Nat) : Okp ((fun i => if i = k then ps else P i) i) := by
  show Okp (if i = k then ps else P i)
  split
  · exact h
  · exact hP i
theorem getDa (v u : Value) : ([] ++ [v] ++ [u] : List Value).getD 0 nv = v := rfl
theorem getDb (v u x : Value) : ([] ++ [v] ++ [u] ++ [x] : List Value).getD 1 nv = u := rfl
theorem getDc (v : Value) : ([] ++ [v] : List Value).getD 0 nv = v := rfl
theorem in_len3 {x y X Y : Int} {C : List Pt} (hn : C.Nodup) (h : InT x y X Y C) : C.length ≤ y.toNat * x.toNat := by
  have h1 := len_sub C (((List.range y.toNat).map (fun j : Nat => Y + (j : Int))).flatMap fun y0 => (List.range x.toNat).map fun i : Nat => ((X + (i : Int), y0) : Pt)) hn (fun q hq => by
    obtain ⟨h1, h2⟩ := h q hq
    refine List.mem_flatMap.2 ⟨q.2, List.mem_map.2 ⟨(q.2 - Y).toNat, List.mem_range.2 (by omega), by omega⟩, List.mem_map.2 ⟨(q.1 - X).toNat, List.mem_range.2 (by omega), ?_⟩⟩
    obtain ⟨a, b⟩ := q
    simp only at h1 ⊢
    congr 1
    omega)
  have h2 := flat_len (fun y0 => (List.range x.toNat).map fun i : Nat => ((X + (i : Int), y0) : Pt)) x.toNat ((List.range y.toNat).map (fun j : Nat => Y + (j : Int))) (fun q _ => by simp)
  simp only [List.length_map, List.length_range] at h2
  exact Nat.le_trans h1 h2
theorem inT_bd3 {x y : Int} (hx : 1 ≤ x ∧ x ≤ 65536) (hy : 1 ≤ y ∧ y ≤ 65536) {C : List Pt} (h : InT x y (To.fi x) (To.fi y) C) {p : Pt} (hp : p ∈ C) : (-1099511627776 ≤ p.1 ∧ p.1 ≤ 1099511627776) ∧ (-1099511627776 ≤ p.2 ∧ p.2 ≤ 1099511627776) := by
  have := h p hp
  have ex : To.fi x = -(x / 2) := rfl
  have ey : To.fi y = -(y / 2) := rfl
  omega
/-- What is answered of a small torus may stand in the book. -/
theorem an_ok {k x y t z : Int} {f1 : Nat → Pt} {n1 : Nat} {f2 : Nat → Pt} {n2 : Nat} {g : Int} (hs : smB x y = true) {A X : List Pt} (h : An x y t z (jpE k x y t z f1 n1 f2 n2 g) A X) : Okp X := by
  unfold An at h
  by_cases hE : jpE k x y t z f1 n1 f2 n2 g = 0
  · rw [if_pos hE] at h
    obtain ⟨hc, hk, hx, hy, hO, hL, hG, hxy⟩ := jpE_zero hE
    have h3 := smB_le hs hx hy hxy
    have hl := in_len3 h.nd h.inn
    have hm : ((y.toNat * x.toNat : Nat) : Int) = x * y := by
      rw [Int.natCast_mul, Int.toNat_of_nonneg (by omega), Int.toNat_of_nonneg (by omega), Int.mul_comm]
    refine ⟨by omega, fun j hj => ?_⟩
    have := inT_bd3 hx hy h.inn (getD_mem X j hj)
    exact ⟨⟨by omega, by omega⟩, ⟨by omega, by omega⟩⟩
  · rw [if_neg hE] at h
    subst h
    exact okp_nil
end Ln
end Go.Proofs.YtbmpiddjakdebaaGreat
