/- TreeKeepses. -/
import Derived.Test.YteaionmjbkildaaDoorQ40
import Derived.Test.YteaionmjbkildaaDoorQ46
namespace Go.Proofs.YteaionmjbkildaaDoor
open Go.RowKit
set_option linter.unusedVariables false
set_option linter.unusedSimpArgs false
set_option maxRecDepth 100000

theorem ow_in {w : World} {B g q m : Nat} {f : Nat → Int} (h : w.ownsRow B 3 1 (.slice (some ⟨g, 0, none⟩) (m + 1) q) (m + 1) (kidsV f m ++ [.int .i64 (-71)])) : In w (some ⟨g, 0, none⟩) m f ∧ w.cell? ⟨g, m, none⟩ = some (.int .i64 (-71)) ∧ m + 1 ≤ q := by
  have hl := kidsV_len f m
  refine ⟨fun k hk => ⟨_, rfl, h.cells rfl k _ ?_⟩, ?_, ?_⟩
  · rw [List.getElem?_append_left (by omega)]
    simp [kidsV, hk]
  · have := h.cells (g := g) rfl m (.int .i64 (-71)) (by rw [List.getElem?_append_right (by omega), hl]; simp)
    rw [Addr.add_lit, Nat.zero_add] at this
    exact this
  · rcases h.2 with ⟨h, _⟩ | ⟨g', cap', cur', h, _, _, h2, _⟩
    · cases h
    · cases h; exact h2
theorem Sim.kee {t t' : Nat → TN} (h : Sim t t') {S I R : Int} {n m : Nat} {p : Nat → Int} {b : Bool} {E : Int} (hc : KeE S I n R t m p b E) : KeE S I n R t' m p b E := by
  have hev : ∀ x, ev t R.toNat m x = ev t' R.toNat m x := fun x => by unfold ev; rw [h.go, (h _).1]
  rcases hc with ⟨h1, h2⟩ | ⟨h1, h2⟩ | ⟨h1, h2⟩ | ⟨h1, h2, h3, h4, h5, h6⟩
  · exact .inl ⟨fun k => h1 (h.symm.ck k), h2⟩
  · exact .inr (.inl ⟨h.ck h1, h2⟩)
  · exact .inr (.inr (.inl ⟨h.ck h1, h2⟩))
  · refine .inr (.inr (.inr ⟨h.ck h1, h2, h3, h4, ?_, h6⟩))
    rw [h5]
    congr 1
    funext x
    rw [hev, hev]

set_option maxHeartbeats 4000000 in
theorem keepsesC (S I R : Int) (sp : Option Addr) (q o n c : Nat) (t : Nat → TN) (hsp : 0 < n → sp = some ⟨q, o, none⟩) (hn : n ≤ 4398046510976) (hst : ∀ j, (t j).st < 256) (hkn : ∀ j, j < n → (t j).kn ≤ 17592186043904) (hnil : ∀ j, j < n → (t j).kp = none → (t j).kn = 0 ∧ (t j).kc = 0) (sa : Option Addr) (m ca : Nat) (f : Nat → Int) (hm : m ≤ 17592186043904) (hna : sa = none → m = 0 ∧ ca = 0) (w : World) (htab : Tab w) (hT : Tn w q o n t) (hA : In w sa m f) :
    Calls Tryd.prog 8 #[.agg #[.int .i64 S, .int .i64 I, .slice sp n c, .int .i64 R], .slice sa m ca] w fun e w' => e = .returned (.bool true) ∧ w.grownBy w' none := by
  obtain ⟨i0, HI⟩ : ∃ i, Hid (Tryd.prog.info? 3 = some i ∧ i.zero = some (.int .i64 0) ∧ i.size = 1 ∧ i.bytes = 8) := by
    obtain ⟨i, h1, h2, h3, h4⟩ := info_parts infoI
    exact ⟨i, h1, h2, h3, h4⟩
  obtain ⟨W1, hW1, sz1, g1, B1⟩ := boxn w #[.int .i64 S, .int .i64 I, .slice sp n c, .int .i64 R] 30
  have a0 := B1.cell 0 (v := .int .i64 S) rfl
  have a1 := B1.cell 1 (v := .int .i64 I) rfl
  have a2 := B1.cell 2 (v := .slice sp n c) rfl
  have a3 := B1.cell 3 (v := .int .i64 R) rfl
  have hal := aliveC W1 (tab_kept htab g1)
  go_enter Tryd.func8, Tryd.ntmps8
  go_wp2_with (first | (go_at_call 9; refine hal.mono ?_; rintro e w2 ⟨rfl, g2⟩; refine Hid.out ?_))
  refine Lib.hid ?_
  clear hal a0 a1 a2 a3
  have G2 := gb_trans g1 g2
  have B2 := B1.kept g2 (by simp)
  have a0 := B2.cell 0 (v := .int .i64 S) rfl
  have a1 := B2.cell 1 (v := .int .i64 I) rfl
  have a2 := B2.cell 2 (v := .slice sp n c) rfl
  have a3 := B2.cell 3 (v := .int .i64 R) rfl
  obtain ⟨s', hs'⟩ := Int.eq_ofNat_of_zero_le (show 0 ≤ min (max S 1) 256 by omega)
  obtain ⟨i', hi'⟩ := Int.eq_ofNat_of_zero_le (show 0 ≤ min (max I 0) 16 by omega)
  have has := asksC s' i' (by omega) (by omega)
  obtain ⟨z, hz⟩ : ∃ z, askN s' i' 1 = z := ⟨_, rfl⟩
  rw [hz] at has
  clear hz
  go_wp2_with (first | (go_at_call 14; refine (has _).mono ?_; rintro e w2' ⟨rfl, hw2⟩; subst hw2; refine Hid.out ?_))
  refine Lib.hid ?_
  clear has hs' hi'
  by_cases hzz : 5000 < z ∧ z ≤ 1048576
  · obtain ⟨z1, z2⟩ := hzz
    have y1 : (5000 : Int) < (z : Int) := by omega
    have y2 : (z : Int) ≤ 1048576 := by omega
    go_wp2
    go_ret
    exact ⟨rfl, G2⟩
  have yz : ((decide ((5000 : Int) < (z : Int))) && (decide ((z : Int) ≤ 1048576))) = false := by
    simp
    omega
  have hle := lentC S I R sp q o n c t hsp hn hst hkn hnil w2' (hT.kept G2)
  by_cases hz5 : (5000 : Int) < (z : Int)
  · have y1 : ¬ ((z : Int) ≤ 1048576) := by omega
    clear hzz yz
    go_wp2_with (first | (go_at_call 20; refine hle.mono ?_; rintro e w3 ⟨Bq, gN, cN, kb, kq, rfl, hL, hBq, g3⟩; refine Hid.out ?_))
    refine Lib.hid ?_
    clear hle a0 a1 a2 a3
    obtain ⟨W4, hW4, sz4, g4, X4⟩ := boxn w3 #[.int .i64 S, .int .i64 I, .slice (some ⟨gN, 0, none⟩) n cN, .int .i64 R] 30
    have G3 := gb_trans G2 g3
    have G4 := gb_trans G3 g4
    have B4 := (B2.kept g3 (by simp)).kept g4 (by simp)
    have hL4 := hL.keep g4 (by simp)
    have hA4 := hA.kept G4 (by simp)
    go_wp2_with (first | (at_builtin; refine app_in W4 rfl _ _ rfl rfl sa m ca f rfl hA4 hna hm ?_; intro v1 w5 own5 gk5; refine Hid.out ?_))
    refine Lib.hid ?_
    obtain ⟨W6, hW6, sz6, g6, C6⟩ := boxn w5 #[.int .i64 (-71)] 3
    have own6 := own5.kept g6 (Classical.em _)
    have nw : ∀ l u, [Value.int .i64 (-71)][l]? = some u → W6.cell? ((⟨w5.heap.size, 0, none⟩ : Addr).add l) = some u := World.news_of_block (cs := #[.int .i64 (-71)]) C6
    have sz46 : W4.heap.size ≤ W6.heap.size := Nat.le_trans gk5.size g6.size
    go_wp2_with (first | (at_builtin; refine wpList_append_lies _ rfl _ _ 25 rfl W4.heap.size 3 i0 (.int .i64 0) 1 8 underIS HI.out.1 HI.out.2.1 HI.out.2.2.1 HI.out.2.2.2 rfl (by decide) _ m _ rfl own6 ⟨w5.heap.size, 0, none⟩ 1 1 [.int .i64 (-71)] rfl rfl nw (by intro u hu; simp at hu; subst hu; rfl) (by decide) (by unfold maxLen; omega) (by omega) sz46 _ rfl ?_; intro gF qF w7 own7 gk7 at7 lt7; refine Hid.out ?_))
    refine Lib.hid ?_
    have G47 : W4.grownBy w7 none := (gb_trans gk5 g6).andThen gk7 (fun b hb => .inl (own6.lt b hb).1)
    have G7 := gb_trans G4 G47
    have hL7 := hL4.keep G47 (by simp)
    have X7 := X4.kept G47 (by simp)
    have B7 := B4.kept G47 (by simp)
    clear nw at7 lt7 gk7 gk5 own5 own6 C6 g6 hW6
    obtain ⟨in7, mk7, cap7⟩ := ow_in own7
    obtain ⟨b, E, hE⟩ := KeE.some S I n R t m f
    have HE := Lib.hid hE
    have hke := keepsG S I R (some ⟨gN, 0, none⟩) gN 0 n cN (ltT t kb kq) (fun _ => rfl) (fun j => hst j) (some ⟨gF, 0, none⟩) m qF f b E ((Sim.lt t kb kq).symm.kee hE) w7.drew hL7.tn in7
    have hmq : m ≤ qF := by omega
    clear hE
    have x0 := X7.cell 0 (v := .int .i64 S) rfl
    have x1 := X7.cell 1 (v := .int .i64 I) rfl
    have x2 := X7.cell 2 (v := .slice (some ⟨gN, 0, none⟩) n cN) rfl
    have x3 := X7.cell 3 (v := .int .i64 R) rfl
    go_wp2
    go_region_with (first | (go_at_call 30; refine hke.mono ?_; rintro e w9 ⟨rfl, g9⟩))
    clear hke x0 x1 x2 x3 in7 mk7
    replace g9 := gb_d g9
    have G9 := gb_trans G7 g9
    have hL9 := hL7.keep g9 (by simp)
    have X9 := X7.kept g9 (by simp)
    have B9 := B7.kept g9 (by simp)
    have own9 := own7.kept g9 (Classical.em _)
    have hrt := rkG S I R sp q o n c t hsp hst sa m ca f b E HE.out w9 (hT.kept G9) (hA.kept G9 (by simp))
    have x0 := B9.cell 0 (v := .int .i64 S) rfl
    have x1 := B9.cell 1 (v := .int .i64 I) rfl
    have x2 := B9.cell 2 (v := .slice sp n c) rfl
    have x3 := B9.cell 3 (v := .int .i64 R) rfl
    go_wp2_with (first | (go_at_call 31; refine hrt.mono ?_; rintro e w10 ⟨rfl, g10⟩; refine Hid.out ?_))
    refine Lib.hid ?_
    clear hrt x0 x1 x2 x3
    have G10 := gb_trans G9 g10
    have hL10 := hL9.keep g10 (by simp)
    have X10 := X9.kept g10 (by simp)
    have B10 := B9.kept g10 (by simp)
    have own10 := own9.kept g10 (Classical.em _)
    have hkp := keptC S I R sp q o n c Bq gN cN kb kq t hsp hn hkn w10 hL10 (hT.kept G10)
    have x0 := X10.cell 0 (v := .int .i64 S) rfl
    have x1 := X10.cell 1 (v := .int .i64 I) rfl
    have x2 := X10.cell 2 (v := .slice (some ⟨gN, 0, none⟩) n cN) rfl
    have x3 := X10.cell 3 (v := .int .i64 R) rfl
    have y0 := B10.cell 0 (v := .int .i64 S) rfl
    have y1 := B10.cell 1 (v := .int .i64 I) rfl
    have y2 := B10.cell 2 (v := .slice sp n c) rfl
    have y3 := B10.cell 3 (v := .int .i64 R) rfl
    go_wp2_with (first | (go_at_call 23; refine hkp.mono ?_; rintro e w11 ⟨rfl, g11⟩; refine Hid.out ?_))
    refine Lib.hid ?_
    clear hkp x0 x1 x2 x3 y0 y1 y2 y3
    have G11 := gb_trans G10 g11
    have own11 := own10.kept g11 (Classical.em _)
    obtain ⟨in11, mk11, cap11⟩ := ow_in own11
    have hA11 := hA.kept G11 (by simp)
    go_wp2
    go_loopw [14] (fun i wr => ∃ k : Nat, k ≤ m ∧ i = .int .i64 k ∧ w11.grownBy wr none) (fun i _ => m - (intOf i).toNat)
    case atStart => exact ⟨0, Nat.zero_le _, rfl, World.grownBy.refl _ _⟩
    case round =>
      obtain ⟨k, hk, rfl, Gr⟩ := hrel
      by_cases hlt : k < m
      · have hlt' : (k : Int) < (m : Int) := by omega
        have hlt2 : (k : Int) < (m : Int) + 1 := by omega
        obtain ⟨a, rfl⟩ := hA11.some (by omega)
        have ak := (hA11.kept Gr (by simp)).at hlt
        have bk := (in11.kept Gr (by simp)).at hlt
        rw [Addr.add_lit, Nat.zero_add] at bk
        obtain ⟨u, hu⟩ : ∃ u, f k = u := ⟨_, rfl⟩
        rw [hu] at ak bk
        have ya : (u != u) = false := by simp
        clear hu
        go_wp2
        go_quiet (fail)
        go_wp2
        go_roundw
        case rel => exact ⟨k + 1, hlt, by go_num, gb_drewN Gr _⟩
        case measure => simp [intOf]; omega
      · have hkm : ¬ ((k : Int) < (m : Int)) := by omega
        have p0 : wr.cell? ⟨gF, m, none⟩ = some (.int .i64 (-71)) := Gr.cell mk11 (by simp)
        have yb : (b == b) = true := by simp
        have ye : (E == E) = true := by simp
        have ym : (m : Int) < (m : Int) + 1 := by omega
        go_wp2
        go_ret
        exact ⟨rfl, gb_trans G11 Gr⟩
  · clear hzz yz
    go_wp2_with (first | (go_at_call 20; refine hle.mono ?_; rintro e w3 ⟨Bq, gN, cN, kb, kq, rfl, hL, hBq, g3⟩; refine Hid.out ?_))
    refine Lib.hid ?_
    clear hle a0 a1 a2 a3
    obtain ⟨W4, hW4, sz4, g4, X4⟩ := boxn w3 #[.int .i64 S, .int .i64 I, .slice (some ⟨gN, 0, none⟩) n cN, .int .i64 R] 30
    have G3 := gb_trans G2 g3
    have G4 := gb_trans G3 g4
    have B4 := (B2.kept g3 (by simp)).kept g4 (by simp)
    have hL4 := hL.keep g4 (by simp)
    have hA4 := hA.kept G4 (by simp)
    go_wp2_with (first | (at_builtin; refine app_in W4 rfl _ _ rfl rfl sa m ca f rfl hA4 hna hm ?_; intro v1 w5 own5 gk5; refine Hid.out ?_))
    refine Lib.hid ?_
    obtain ⟨W6, hW6, sz6, g6, C6⟩ := boxn w5 #[.int .i64 (-71)] 3
    have own6 := own5.kept g6 (Classical.em _)
    have nw : ∀ l u, [Value.int .i64 (-71)][l]? = some u → W6.cell? ((⟨w5.heap.size, 0, none⟩ : Addr).add l) = some u := World.news_of_block (cs := #[.int .i64 (-71)]) C6
    have sz46 : W4.heap.size ≤ W6.heap.size := Nat.le_trans gk5.size g6.size
    go_wp2_with (first | (at_builtin; refine wpList_append_lies _ rfl _ _ 25 rfl W4.heap.size 3 i0 (.int .i64 0) 1 8 underIS HI.out.1 HI.out.2.1 HI.out.2.2.1 HI.out.2.2.2 rfl (by decide) _ m _ rfl own6 ⟨w5.heap.size, 0, none⟩ 1 1 [.int .i64 (-71)] rfl rfl nw (by intro u hu; simp at hu; subst hu; rfl) (by decide) (by unfold maxLen; omega) (by omega) sz46 _ rfl ?_; intro gF qF w7 own7 gk7 at7 lt7; refine Hid.out ?_))
    refine Lib.hid ?_
    have G47 : W4.grownBy w7 none := (gb_trans gk5 g6).andThen gk7 (fun b hb => .inl (own6.lt b hb).1)
    have G7 := gb_trans G4 G47
    have hL7 := hL4.keep G47 (by simp)
    have X7 := X4.kept G47 (by simp)
    have B7 := B4.kept G47 (by simp)
    clear nw at7 lt7 gk7 gk5 own5 own6 C6 g6 hW6
    obtain ⟨in7, mk7, cap7⟩ := ow_in own7
    obtain ⟨b, E, hE⟩ := KeE.some S I n R t m f
    have HE := Lib.hid hE
    have hke := keepsG S I R (some ⟨gN, 0, none⟩) gN 0 n cN (ltT t kb kq) (fun _ => rfl) (fun j => hst j) (some ⟨gF, 0, none⟩) m qF f b E ((Sim.lt t kb kq).symm.kee hE) w7.drew hL7.tn in7
    have hmq : m ≤ qF := by omega
    clear hE
    have x0 := X7.cell 0 (v := .int .i64 S) rfl
    have x1 := X7.cell 1 (v := .int .i64 I) rfl
    have x2 := X7.cell 2 (v := .slice (some ⟨gN, 0, none⟩) n cN) rfl
    have x3 := X7.cell 3 (v := .int .i64 R) rfl
    go_wp2
    go_region_with (first | (go_at_call 30; refine hke.mono ?_; rintro e w9 ⟨rfl, g9⟩))
    clear hke x0 x1 x2 x3 in7 mk7
    replace g9 := gb_d g9
    have G9 := gb_trans G7 g9
    have hL9 := hL7.keep g9 (by simp)
    have X9 := X7.kept g9 (by simp)
    have B9 := B7.kept g9 (by simp)
    have own9 := own7.kept g9 (Classical.em _)
    have hrt := rkG S I R sp q o n c t hsp hst sa m ca f b E HE.out w9 (hT.kept G9) (hA.kept G9 (by simp))
    have x0 := B9.cell 0 (v := .int .i64 S) rfl
    have x1 := B9.cell 1 (v := .int .i64 I) rfl
    have x2 := B9.cell 2 (v := .slice sp n c) rfl
    have x3 := B9.cell 3 (v := .int .i64 R) rfl
    go_wp2_with (first | (go_at_call 31; refine hrt.mono ?_; rintro e w10 ⟨rfl, g10⟩; refine Hid.out ?_))
    refine Lib.hid ?_
    clear hrt x0 x1 x2 x3
    have G10 := gb_trans G9 g10
    have hL10 := hL9.keep g10 (by simp)
    have X10 := X9.kept g10 (by simp)
    have B10 := B9.kept g10 (by simp)
    have own10 := own9.kept g10 (Classical.em _)
    have hkp := keptC S I R sp q o n c Bq gN cN kb kq t hsp hn hkn w10 hL10 (hT.kept G10)
    have x0 := X10.cell 0 (v := .int .i64 S) rfl
    have x1 := X10.cell 1 (v := .int .i64 I) rfl
    have x2 := X10.cell 2 (v := .slice (some ⟨gN, 0, none⟩) n cN) rfl
    have x3 := X10.cell 3 (v := .int .i64 R) rfl
    have y0 := B10.cell 0 (v := .int .i64 S) rfl
    have y1 := B10.cell 1 (v := .int .i64 I) rfl
    have y2 := B10.cell 2 (v := .slice sp n c) rfl
    have y3 := B10.cell 3 (v := .int .i64 R) rfl
    go_wp2_with (first | (go_at_call 23; refine hkp.mono ?_; rintro e w11 ⟨rfl, g11⟩; refine Hid.out ?_))
    refine Lib.hid ?_
    clear hkp x0 x1 x2 x3 y0 y1 y2 y3
    have G11 := gb_trans G10 g11
    have own11 := own10.kept g11 (Classical.em _)
    obtain ⟨in11, mk11, cap11⟩ := ow_in own11
    have hA11 := hA.kept G11 (by simp)
    go_wp2
    go_loopw [14] (fun i wr => ∃ k : Nat, k ≤ m ∧ i = .int .i64 k ∧ w11.grownBy wr none) (fun i _ => m - (intOf i).toNat)
    case atStart => exact ⟨0, Nat.zero_le _, rfl, World.grownBy.refl _ _⟩
    case round =>
      obtain ⟨k, hk, rfl, Gr⟩ := hrel
      by_cases hlt : k < m
      · have hlt' : (k : Int) < (m : Int) := by omega
        have hlt2 : (k : Int) < (m : Int) + 1 := by omega
        obtain ⟨a, rfl⟩ := hA11.some (by omega)
        have ak := (hA11.kept Gr (by simp)).at hlt
        have bk := (in11.kept Gr (by simp)).at hlt
        rw [Addr.add_lit, Nat.zero_add] at bk
        obtain ⟨u, hu⟩ : ∃ u, f k = u := ⟨_, rfl⟩
        rw [hu] at ak bk
        have ya : (u != u) = false := by simp
        clear hu
        go_wp2
        go_quiet (fail)
        go_wp2
        go_roundw
        case rel => exact ⟨k + 1, hlt, by go_num, gb_drewN Gr _⟩
        case measure => simp [intOf]; omega
      · have hkm : ¬ ((k : Int) < (m : Int)) := by omega
        have p0 : wr.cell? ⟨gF, m, none⟩ = some (.int .i64 (-71)) := Gr.cell mk11 (by simp)
        have yb : (b == b) = true := by simp
        have ye : (E == E) = true := by simp
        have ym : (m : Int) < (m : Int) + 1 := by omega
        go_wp2
        go_ret
        exact ⟨rfl, gb_trans G11 Gr⟩
end Go.Proofs.YteaionmjbkildaaDoor
