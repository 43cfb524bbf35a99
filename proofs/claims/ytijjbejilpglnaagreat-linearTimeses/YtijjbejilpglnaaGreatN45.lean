/- The book's adds. -/
import Derived.Test.YtijjbejilpglnaaGreatN44
namespace Go.Proofs.YtijjbejilpglnaaGreat
open Go.RowKit
set_option linter.unusedVariables false
set_option linter.unusedSimpArgs false
set_option maxRecDepth 100000

namespace Ln
set_option maxHeartbeats 4000000 in
theorem addsC (Wb w : World) (gb : Wb.grownBy w none) (base b : Nat) (hbW : Wb.heap.size ≤ b) (gv uv : Value) (V U : List Value) (P : Nat → List Pt) (hB : Bk w base b gv uv V U P) (hN : V.length < 100) (v u : Value) (ps : List Pt) (ov : w.ownsRow base 25 2 v ps.length (fl ps)) (ou : w.ownsRow base 25 2 u ps.length (fl ps)) (hok : ∀ k, k < ps.length → PtOk (ps.getD k (0, 0))) (hl : ps.length < 1000000000) (nV : ∀ i, i < V.length → Nb (V.getD i nv) v) (n1 : Nb gv v) (n2 : Nb uv v) (n3 : Nb gv u) (n4 : Nb uv u) (r : Int) :
    Calls Tryz.prog 16 #[.pointer (some ⟨b, 0, none⟩), v, .int .i64 r, u, .int .i64 r] w fun e w' => e = .returned (.tuple #[]) ∧ ∃ gv' uv', Bk w' base b gv' uv' (V ++ [v]) (U ++ [u]) (fun i => if i = V.length then ps else P i) ∧ Wb.grownBy w' none := by
  obtain ⟨iS, HIS⟩ : ∃ i, Hid (Tryz.prog.info? 23 = some i ∧ i.zero = some (.slice none 0 0) ∧ i.size = 1 ∧ i.bytes = 24) := by
    obtain ⟨i, h1, h2, h3, h4⟩ := info_parts infoPS
    exact ⟨i, h1, h2, h3, h4⟩
  have HBk : Hid (Bk w base b gv uv V U P) := hB
  have HOV : Hid (w.ownsRow base 25 2 v ps.length (fl ps)) := ov
  have HOU : Hid (w.ownsRow base 25 2 u ps.length (fl ps)) := ou
  obtain ⟨s1, cv, hv1, P1, _⟩ := own_shape0 ov rfl
  obtain ⟨s2, cu, hu1, P2, _⟩ := own_shape0 ou rfl
  have kS := sameEq s1 ps.length cv (fun k => ps.getD k (0, 0)) hok hl s2 cu w P1 P2
  obtain ⟨nP, hnP⟩ : ∃ n, ps.length = n := ⟨_, rfl⟩
  rw [hnP] at kS hv1 hu1
  subst hv1
  subst hu1
  obtain ⟨nL, hnL⟩ : ∃ n, V.length = n := ⟨_, rfl⟩
  have HNL : Hid (V.length = nL) := hnL
  have hgot := hB.got
  have hwant := hB.want
  rw [hnL] at hgot hwant hN
  have hbase := hB.hb
  have hbw := hB.hbw
  have hng := hB.ng
  have B0 := hB.box
  have hr : (r != r) = false := by simp
  clear hB ov ou P1 P2 hnL
  clear hnP
  have hgl := fun g e => (hgot.lt g e)
  have hul := fun g e => (hwant.lt g e)
  go_enter Tryz.func16, Tryz.ntmps16
  go_wp2_with (first | (go_at_call 28; refine kS.mono ?_; rintro e w1 ⟨rfl, g1⟩; clear kS; have B1 := B0.kept g1 (by simp); have c0 := B1.cell 0 (v := gv) rfl; have c1 := B1.cell 1 (v := uv) rfl; have c2 := B1.cell 2 (v := .bool false) rfl; obtain ⟨W3, hW3⟩ : ∃ W3, w1.alloc (.cells #[.slice s1 nP cv] 23) = W3 := ⟨_, rfl⟩; have g3 : w1.grownBy W3 none := (by rw [← hW3]; exact World.grownBy_alloc _ _ _); have nX : ∀ l x, [Value.slice s1 nP cv][l]? = some x → W3.cell? ((⟨w1.heap.size, 0, none⟩ : Addr).add l) = some x := (by rw [← hW3]; exact World.news_of_block (heap_alloc_new _ _)); have own3 := (hgot.kept g1 (Classical.em _)).kept g3 (Classical.em _); have hb3 : base ≤ W3.heap.size := (by have := g1.size; have := g3.size; omega)) | (at_builtin; (fail_if_success (guard_hyp own6)); refine wpList_append_lies _ rfl _ _ 33 rfl base 23 iS (.slice none 0 0) 1 24 underPSS HIS.out.1 HIS.out.2.1 HIS.out.2.2.1 HIS.out.2.2.2 rfl (by decide) _ nL _ rfl own3 ⟨w1.heap.size, 0, none⟩ 1 1 [.slice s1 nP cv] rfl rfl nX (by intro x hx; simp at hx; subst hx; rfl) (by decide) (by unfold maxLen; omega) (by omega) hb3 _ rfl ?_; intro g6 c6 w6 own6 gg6 at6 lt6; have gg6c : W3.grownBy w6 gv.ownBlock := gg6; have at6c : gv.ownBlock = some g6 ∨ W3.heap.size ≤ g6 := at6.imp id (fun h => by omega); have B6 := (B1.kept g3 (by simp)).kept gg6c (fun e => by have := hgl b e.symm; omega); have x0 := B6.cell 0 (v := gv) rfl; have xf := B6.frozen 0; obtain ⟨WS, hWS⟩ : ∃ W, w6.setCell ⟨b, 0, none⟩ (.slice (some ⟨g6, 0, none⟩) (nL + 1) c6) = W := ⟨_, rfl⟩; have BS : Bo WS b 35 #[.slice (some ⟨g6, 0, none⟩) (nL + 1) c6, uv, .bool false] := (by rw [← hWS]; simpa using B6.set 0 (.slice (some ⟨g6, 0, none⟩) (nL + 1) c6)); have gS : w6.grownBy WS (some b) := (by rw [← hWS]; exact gb_set (World.grownBy.refl _ _) 0 _); have y0 := BS.cell 0 (v := .slice (some ⟨g6, 0, none⟩) (nL + 1) c6) rfl; have y1 := BS.cell 1 (v := uv) rfl; obtain ⟨W5, hW5⟩ : ∃ W5, WS.alloc (.cells #[.slice s2 nP cu] 23) = W5 := ⟨_, rfl⟩; have g5 : WS.grownBy W5 none := (by rw [← hW5]; exact World.grownBy_alloc _ _ _); have nX2 : ∀ l x, [Value.slice s2 nP cu][l]? = some x → W5.cell? ((⟨WS.heap.size, 0, none⟩ : Addr).add l) = some x := (by rw [← hW5]; exact World.news_of_block (heap_alloc_new _ _)); have own5 := ((((hwant.kept g1 (Classical.em _)).kept g3 (Classical.em _)).kept gg6c hng.ne).kept gS (.inr (fun e => by have := hul b e; omega))).kept g5 (Classical.em _); have hb5 : base ≤ W5.heap.size := (by have := gg6c.size; have := gS.size; have := g5.size; omega); have B5 := BS.kept g5 (by simp); have z0 := B5.cell 0 (v := .slice (some ⟨g6, 0, none⟩) (nL + 1) c6) rfl; have z1 := B5.cell 1 (v := uv) rfl) | (at_builtin; guard_hyp own6; refine wpList_append_lies _ rfl _ _ 33 rfl base 23 iS (.slice none 0 0) 1 24 underPSS HIS.out.1 HIS.out.2.1 HIS.out.2.2.1 HIS.out.2.2.2 rfl (by decide) _ nL _ rfl own5 ⟨WS.heap.size, 0, none⟩ 1 1 [.slice s2 nP cu] rfl rfl nX2 (by intro x hx; simp at hx; subst hx; rfl) (by decide) (by unfold maxLen; omega) (by omega) hb5 _ rfl ?_; intro g7 c7 w7 own7 gg7 at7 lt7; have gg7c : W5.grownBy w7 uv.ownBlock := gg7; have at7c : uv.ownBlock = some g7 ∨ W5.heap.size ≤ g7 := at7.imp id (fun h => by omega); have B7 := B5.kept gg7c (fun e => by have := hul b e.symm; omega); have t0 := B7.cell 1 (v := uv) rfl; have tf := B7.frozen 1) | go_in)
  have s1' := g1.size
  have s3 := g3.size
  have s6 := gg6c.size
  have sS := gS.size
  have s5 := g5.size
  have s7 := gg7c.size
  have hg6 := own6.lt g6 rfl
  have hg7 := own7.lt g7 rfl
  have gT : w7.grownBy (w7.setCell ⟨b, 1, none⟩ (.slice (some ⟨g7, 0, none⟩) (nL + 1) c7)) (some b) := gb_set (World.grownBy.refl _ _) 1 _
  have hug6 : uv.ownBlock ≠ some g6 := fun e => by
    rcases at6c with h | h
    · exact hng g6 h e
    · have := hul g6 e; omega
  have hBx : Bo (w7.setCell ⟨b, 1, none⟩ (.slice (some ⟨g7, 0, none⟩) (nL + 1) c7)) b 35 #[.slice (some ⟨g6, 0, none⟩) (nL + 1) c6, .slice (some ⟨g7, 0, none⟩) (nL + 1) c7, .bool false] := by simpa using B7.set 1 (.slice (some ⟨g7, 0, none⟩) (nL + 1) c7)
  have hWb : Wb.grownBy (w7.setCell ⟨b, 1, none⟩ (.slice (some ⟨g7, 0, none⟩) (nL + 1) c7)) none := by
    have sb := gb.size
    have k1 := (gb_trans gb (gb_trans g1 g3)).andThen gg6c (fun j hj => .inl (by have := hgl j hj; omega))
    have k2 := k1.andThen gS (fun j hj => .inl (by injection hj with hj; omega))
    have k3 := (gb_trans k2 g5).andThen gg7c (fun j hj => .inl (by have := hul j hj; omega))
    exact k3.andThen gT (fun j hj => .inl (by injection hj with hj; omega))
  have hpush := Bk.push (v := .slice s1 nP cv) (u := .slice s2 nP cu) (ps := ps) HBk.out hBx (by have := gT.size; omega) (by rw [HNL.out]; exact ((((own6.kept gS (.inr (fun e => by have e : g6 = b := Option.some.inj e; omega))).kept g5 (Classical.em _)).kept gg7c (.inr (fun e => hug6 e.symm))).kept gT (.inr (fun e => by have e : g6 = b := Option.some.inj e; omega)))) (by rw [HNL.out]; exact own7.kept gT (.inr (fun e => by have e : g7 = b := Option.some.inj e; omega))) (fun x n xs hx hx1 hx2 => by
    have hxb : x.ownBlock ≠ some b := fun e => by have := hx.lt b e; omega
    exact ((((((hx.kept g1 (Classical.em _)).kept g3 (Classical.em _)).kept gg6c hx1.ne).kept gS (.inr hxb)).kept g5 (Classical.em _)).kept gg7c hx2.ne).kept gT (.inr hxb)) (fun g e e2 => by
      have e : g6 = g := Option.some.inj e
      have e2 : g7 = g := Option.some.inj e2
      subst e
      rcases at7c with h | h
      · exact hug6 (by rw [h, e2])
      · omega) (fun x hx hlt g e e2 => by
      have e : g6 = g := Option.some.inj e
      subst e
      rcases at6c with h | h
      · exact hx g6 h e2
      · have := hlt g6 e2; omega) (fun x hx hlt g e e2 => by
      have e : g7 = g := Option.some.inj e
      subst e
      rcases at7c with h | h
      · exact hx g7 h e2
      · have := hlt g7 e2; omega) HOV.out HOU.out nV n1 n2 n3 n4
  have HPush : Hid (Bk (w7.setCell ⟨b, 1, none⟩ (.slice (some ⟨g7, 0, none⟩) (nL + 1) c7)) base b (.slice (some ⟨g6, 0, none⟩) (nL + 1) c6) (.slice (some ⟨g7, 0, none⟩) (nL + 1) c7) (V ++ [.slice s1 nP cv]) (U ++ [.slice s2 nP cu]) (fun i => if i = V.length then ps else P i)) := hpush
  clear hpush
  go_end0
  exact ⟨rfl, _, _, HPush.out, hWb⟩
end Ln
end Go.Proofs.YtijjbejilpglnaaGreat
