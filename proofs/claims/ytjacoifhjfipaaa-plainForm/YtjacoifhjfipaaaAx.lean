/- apart, of the statements: two lists are written full and grown; neither has touched the other. -/
import Derived.Test.YtjacoifhjfipaaaCl
import Derived.ArgAppend
import Derived.Laws.OwnMore
import Derived.Lib.SmallJoins
import Derived.LoopN
namespace Go.Proofs.Ytjacoifhjfipaaa
open Go.RowKit
set_option linter.unusedVariables false
set_option linter.unusedSimpArgs false
set_option maxRecDepth 100000

theorem run_appS {P : Program} (w : World) (t ty : TypeId) (base : Nat) (e : TypeId) (i : TypeInfo) (z : Value) (size bytes : Nat) (ht : P.underlying t = some (.slice e)) (hi : P.info? e = some i) (hz : i.zero = some z)
    (hsize : i.size = size) (hby : i.bytes = bytes) (hzs : z.cells.size = size) (hsz : 0 < size)
    (v : Value) (n : Nat) (xs : List Value) (hown : w.ownsRow base e size v n xs)
    (ad : Addr) (c : Nat) (news : List Value) (hl : news.length = 1 * size) (hnews : ∀ j u, news[j]? = some u → w.cell? (ad.add j) = some u) (h1 : ∀ u ∈ news, u.oneCell' = true)
    (h63 : n + 1 ≤ maxLen) (hbytes : (n + 1) * bytes ≤ 140737488355328) (hbase : base ≤ w.heap.size) :
    ∃ g cap w', (Builtin.append_ #[t, t] ty #[v, .slice (some ad) 1 c]).run P w = .ok (.slice (some ⟨g, 0, none⟩) (n + 1) cap) w' ∧
      w'.ownsRow base e size (.slice (some ⟨g, 0, none⟩) (n + 1) cap) (n + 1) (xs ++ news) ∧ ((v.ownBlock = some g ∧ w.grownBy w' (some g)) ∨ (w.heap.size ≤ g ∧ w.grownBy w' none)) := by
  obtain ⟨g, cap, w', hr, h2, h3, h4, h5⟩ := run_append_lies (P := P) w t ty base e i z size bytes ht hi hz hsize hby hzs hsz v n xs hown ad 1 c news hl hnews h1 (by omega) h63 hbytes hbase _ rfl
  rcases hown.2 with ⟨rfl, hn⟩ | ⟨g0, cap0, cur, rfl, hb, hbk, hnc, hcm, hcs, htake⟩
  · refine ⟨g, cap, w', hr, h2, .inr ⟨?_, h3⟩⟩
    rcases h4 with h4 | h4
    · cases h4
    · omega
  · by_cases hroom : n + 1 ≤ cap0
    · have hz' : (n + 1) * size ≤ cap0 * size := Nat.mul_le_mul_right _ hroom
      rw [Nat.add_mul] at hz'
      have hrun := run_append_room_cells (P := P) w t ty e i ht hi g0 0 n cap0 ad 1 c news (by rw [hsize]; exact hl) hnews h1 hroom (fun j hj => by
        rw [hsize, Nat.zero_add, cell_of_row w g0 _ cur e (0, 0) hbk, Array.getElem?_eq_getElem (by rw [hcs]; omega)]
        rfl) (fun j hj => frozen_of_row w g0 _ cur e hbk)
      rw [hrun] at hr
      have hg : g0 = g := by
        injection hr with h6 h7
        injection h6 with h8 h9 h10
        injection h8 with h11
        injection h11
      subst hg
      exact ⟨g0, cap, w', by rw [hrun]; exact hr, h2, .inl ⟨rfl, h3⟩⟩
    · obtain ⟨v', w2, hr2, o2, g2⟩ := run_append_arg_grows (P := P) w t ty e i z size bytes ht hi hz hsize hby hzs hsz ⟨g0, 0, none⟩ n cap0 xs hown.1 (hown.cells rfl) ad 1 c news hl hnews (by omega) h63 hbytes
      obtain ⟨g3, cap3, rfl, hb3, hlt3⟩ := o2.form (by omega)
      exact ⟨g3, cap3, w2, hr2, row_mono o2 hbase, .inr ⟨hb3, g2⟩⟩
theorem wpList_appS {P : Program} (w : World) {ops : Array Oper} {rest : List Oper} {o : Oper} {a : Act} {Q : Exit → Act → World → Prop} (hgd : o.guard = none) (s x : Operand) (t : TypeId)
    (ho : o.op = .call { callee := .builtin .append, args := #[s, x], argTypes := #[t, t] })
    (base : Nat) (e : TypeId) (i : TypeInfo) (z : Value) (size bytes : Nat) (ht : P.underlying t = some (.slice e)) (hi : P.info? e = some i) (hz : i.zero = some z)
    (hsize : i.size = size) (hby : i.bytes = bytes) (hzs : z.cells.size = size) (hsz : 0 < size)
    (v : Value) (n : Nat) (xs : List Value) (hs : a.eval s = v) (hown : w.ownsRow base e size v n xs)
    (ad : Addr) (c : Nat) (news : List Value) (hx : a.eval x = .slice (some ad) 1 c) (hl : news.length = 1 * size) (hnews : ∀ j u, news[j]? = some u → w.cell? (ad.add j) = some u) (h1 : ∀ u ∈ news, u.oneCell' = true)
    (h63 : n + 1 ≤ maxLen) (hbytes : (n + 1) * bytes ≤ 140737488355328) (hbase : base ≤ w.heap.size)
    (h : ∀ g cap w', w'.ownsRow base e size (.slice (some ⟨g, 0, none⟩) (n + 1) cap) (n + 1) (xs ++ news) → ((v.ownBlock = some g ∧ w.grownBy w' (some g)) ∨ (w.heap.size ≤ g ∧ w.grownBy w' none)) → wpList P ops Q rest (a.put o.dst (.slice (some ⟨g, 0, none⟩) (n + 1) cap)) w') : wpList P ops Q (o :: rest) a w :=
  wpList_plain hgd fun K hK => by
    obtain ⟨g, cap, w', hr, h2, h3⟩ := run_appS (P := P) w t o.type base e i z size bytes ht hi hz hsize hby hzs hsz v n xs hown ad c news hl hnews h1 h63 hbytes hbase
    unfold Oper.wp execOp
    simp only [ho, resolve, invoke, builtin, Sem.run_bind, Sem.run_pure, Result.andThen_ok, List.map_toArray, List.map_cons, List.map_nil, hs, hx, hr]
    exact hK _ _ (h g cap w' h2 h3)

def mkc (n : Nat) (m : Int) : List Cx := List.replicate n (m, 0, 0)
theorem mkc_len (n : Nat) (m : Int) : (mkc n m).length = n := List.length_replicate
theorem mkc_snoc (n : Nat) (m : Int) : mkc (n + 1) m = mkc n m ++ [(m, 0, 0)] := by unfold mkc; rw [List.replicate_succ']
theorem mkc_get {n k : Nat} (m : Int) (h : k < (mkc n m).length) : (mkc n m)[k] = (m, 0, 0) := List.getElem_replicate _
theorem set3 (p zs : List Cx) (y : Cx) (m : Int) : (((ccs (p ++ y :: zs)).set (p.length * 3) (.int .i64 m)).set (p.length * 3 + 1) (.int .i64 0)).set (p.length * 3 + 2) (.int .u8 0) = ccs ((p ++ [(m, 0, 0)]) ++ zs) := by
  have e1 : ccs (p ++ y :: zs) = ccs p ++ (cvs y ++ ccs zs) := by rw [ccs_app]; unfold ccs; rw [List.flatMap_cons]
  have e2 : ccs ((p ++ [(m, 0, 0)]) ++ zs) = ccs p ++ (cvs (m, 0, 0) ++ ccs zs) := by rw [ccs_app, ccs_snoc, List.append_assoc]
  have hl := ccs_len p
  rw [e1, e2, List.set_append_right _ _ (by omega), List.set_append_right _ _ (by omega), List.set_append_right _ _ (by omega)]
  rw [show p.length * 3 - (ccs p).length = 0 by omega, show p.length * 3 + 1 - (ccs p).length = 1 by omega, show p.length * 3 + 2 - (ccs p).length = 2 by omega]
  rfl
/-- What lies about while both lists are grown. -/
structure Apx (B : Nat) (w : World) (va vb : Value) (na nb : Nat) (ma mb : Int) (vc vd : Value) (nc nd : Nat) (W : World) : Prop where
  oc : Own W B vc (mkc nc ma)
  od : Own W B vd (mkc nd mb)
  ra : ∀ g cap, va = .slice (some ⟨g, 0, none⟩) na cap → ∀ k, k < na → W.cell? ⟨g, k * 3, none⟩ = some (.int .i64 ma)
  rb : ∀ g cap, vb = .slice (some ⟨g, 0, none⟩) nb cap → ∀ k, k < nb → W.cell? ⟨g, k * 3, none⟩ = some (.int .i64 mb)
  d1 : ∀ g, vc.ownBlock = some g → vd.ownBlock ≠ some g
  d2 : ∀ g, vc.ownBlock = some g → vb.ownBlock ≠ some g
  d3 : ∀ g, vd.ownBlock = some g → va.ownBlock ≠ some g
  la : ∀ g, va.ownBlock = some g → g < W.heap.size
  lb : ∀ g, vb.ownBlock = some g → g < W.heap.size
  na : na ≤ nc
  nb : nb ≤ nd
  bel : Below B w W
  sz : B ≤ W.heap.size
theorem Apx.swap {B : Nat} {w : World} {va vb vc vd : Value} {na nb nc nd : Nat} {ma mb : Int} {W : World} (h : Apx B w va vb na nb ma mb vc vd nc nd W) : Apx B w vb va nb na mb ma vd vc nd nc W :=
  ⟨h.od, h.oc, h.rb, h.ra, fun g e e2 => h.d1 g e2 e, h.d3, h.d2, h.lb, h.la, h.nb, h.na, h.bel, h.sz⟩
theorem own_x {W : World} {B n : Nat} {m : Int} {g cap : Nat} {c : Nat} (h : Own W B (.slice (some ⟨g, 0, none⟩) c cap) (mkc n m)) {k : Nat} (hk : k < n) : W.cell? ⟨g, k * 3, none⟩ = some (.int .i64 m) := by
  have hk' : k < (mkc n m).length := by rw [mkc_len]; exact hk
  obtain ⟨h1, _, _⟩ := ccs_at (mkc n m) k hk'
  have hc := h.cells (g := g) rfl _ _ h1
  rw [mkc_get m hk', add_mid, Nat.zero_add] at hc
  exact hc
theorem Apx.grow {B : Nat} {w : World} {va vb vc vd : Value} {na nb nc nd : Nat} {ma mb : Int} {W W1 w4 : World} {g4 q4 : Nat} (h : Apx B w va vb na nb ma mb vc vd nc nd W) (g1 : W.grownBy W1 none)
    (own4 : w4.ownsRow B 33 3 (.slice (some ⟨g4, 0, none⟩) (nc + 1) q4) (nc + 1) (ccs (mkc nc ma) ++ [.int .i64 ma, .int .i64 0, .int .u8 0])) (hcase : (vc.ownBlock = some g4 ∧ W1.grownBy w4 (some g4)) ∨ (W1.heap.size ≤ g4 ∧ W1.grownBy w4 none)) :
    Apx B w va vb na nb ma mb (.slice (some ⟨g4, 0, none⟩) (nc + 1) q4) vd (nc + 1) nd w4 := by
  have oc4 : Own w4 B (.slice (some ⟨g4, 0, none⟩) (nc + 1) q4) (mkc (nc + 1) ma) := by
    unfold Own; rw [mkc_len, mkc_snoc, ccs_snoc]; exact own4
  have sz1 := g1.size
  have od1 := h.od.kept g1 (Classical.em _)
  have lt4 := (oc4.lt g4 rfl)
  have szs := h.sz
  rcases hcase with ⟨hc, g4'⟩ | ⟨hn, g4'⟩
  · have sz4 := g4'.size
    refine ⟨oc4, od1.kept g4' (.inr (fun e => h.d1 g4 hc (by first | exact e | exact e.symm))), ?_, ?_, ?_, ?_, h.d3, fun g e => by have := h.la g e; omega, fun g e => by have := h.lb g e; omega, by have := h.na; omega, h.nb, ?_, by omega⟩
    · intro g cap e k hk
      by_cases eg : g = g4
      · subst eg; exact own_x oc4 (by have := h.na; omega)
      · exact g4'.cell (g1.cell (h.ra g cap e k hk) (by simp)) (fun e2 => by injection e2 with e2; exact eg e2)
    · intro g cap e k hk
      have eg : g ≠ g4 := fun eg => by subst eg; exact h.d2 g hc (by rw [e]; rfl)
      exact g4'.cell (g1.cell (h.rb g cap e k hk) (by simp)) (fun e2 => by injection e2 with e2; exact eg e2)
    · intro g e; have e3 : g4 = g := by injection e
      rw [← e3]; exact h.d1 g4 hc
    · intro g e; have e3 : g4 = g := by injection e
      rw [← e3]; exact h.d2 g4 hc
    · refine h.bel.trans (((gb_below g1).mono (by omega)).trans ⟨g4'.os, g4'.tape, g4'.output, g4'.size, fun k hk => g4'.block k (by omega) (fun e => by injection e; omega)⟩)
  · have sz4 := g4'.size
    refine ⟨oc4, od1.kept g4' (Classical.em _), fun g cap e k hk => g4'.cell (g1.cell (h.ra g cap e k hk) (by simp)) (by simp), fun g cap e k hk => g4'.cell (g1.cell (h.rb g cap e k hk) (by simp)) (by simp), ?_, ?_, h.d3, fun g e => by have := h.la g e; omega, fun g e => by have := h.lb g e; omega, by have := h.na; omega, h.nb, ?_, by omega⟩
    · intro g e e2; have e3 : g4 = g := by injection e
      have := (od1.lt _ e2).2; omega
    · intro g e e2; have e3 : g4 = g := by injection e
      have := h.lb _ e2; omega
    · exact h.bel.trans (((gb_below g1).mono (by omega)).trans ((gb_below g4').mono (by omega)))
/-- What lies about while a list is written full. -/
theorem fill_one {W : World} {B g cap j : Nat} {m : Int} {y : Cx} {zs : List Cx} (h : Own W B (.slice (some ⟨g, 0, none⟩) (mkc j m ++ y :: zs).length cap) (mkc j m ++ y :: zs)) :
    Own (((W.setCell ⟨g, j * 3, none⟩ (.int .i64 m)).setCell ⟨g, j * 3 + 1, none⟩ (.int .i64 0)).setCell ⟨g, j * 3 + 2, none⟩ (.int .u8 0)) B (.slice (some ⟨g, 0, none⟩) (mkc j m ++ y :: zs).length cap) (mkc (j + 1) m ++ zs) := by
  have h1 := (((h.stored (j * 3) (.int .i64 m)).1.stored (j * 3 + 1) (.int .i64 0)).1.stored (j * 3 + 2) (.int .u8 0)).1
  have e := set3 (mkc j m) zs y m
  rw [mkc_len] at e
  rw [e] at h1
  have el : (mkc (j + 1) m ++ zs).length = (mkc j m ++ y :: zs).length := by rw [List.length_append, List.length_append, mkc_len, mkc_len, List.length_cons]; omega
  unfold Own
  rw [el, mkc_snoc]
  exact h1
theorem fill_cells {W : World} {B g cap j n : Nat} {l : List Cx} (h : Own W B (.slice (some ⟨g, 0, none⟩) n cap) l) (hj : j < l.length) : ∃ u0 u1 u2 : Value, W.cell? ⟨g, j * 3, none⟩ = some u0 ∧ W.cell? ⟨g, j * 3 + 1, none⟩ = some u1 ∧ W.cell? ⟨g, j * 3 + 2, none⟩ = some u2 := by
  obtain ⟨h1, h2, h3⟩ := ccs_at l j hj
  have hc := h.cells (g := g) rfl
  have e : ∀ j, (⟨g, 0, none⟩ : Addr).add j = ⟨g, j, none⟩ := fun j => by rw [add_mid, Nat.zero_add]
  exact ⟨_, _, _, by rw [← e]; exact hc _ _ h1, by rw [← e]; exact hc _ _ h2, by rw [← e]; exact hc _ _ h3⟩
theorem fill_free {W : World} {B g cap n : Nat} {l : List Cx} (h : Own W B (.slice (some ⟨g, 0, none⟩) n cap) l) (j : Nat) : W.frozen? ⟨g, j, none⟩ = false := by
  have hn : n = l.length := by
    rcases h.2 with ⟨h', _⟩ | ⟨g', cap', cur, h', _⟩
    · simp at h'
    · simp only [Value.slice.injEq] at h'
      exact h'.2.1
  subst hn
  exact h.frozenAt j
end Go.Proofs.Ytjacoifhjfipaaa
