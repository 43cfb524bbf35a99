/- TreeForm's walk. -/
import Derived.Test.YteaionmjbkildabDoorQh
import Derived.Test.YteaionmjbkildabDoorQ27
namespace Go.Proofs.YteaionmjbkildabDoor
open Go.RowKit
set_option linter.unusedVariables false
set_option linter.unusedSimpArgs false
set_option maxRecDepth 100000

set_option maxHeartbeats 2000000 in
theorem form_not (S I R : Int) (sp : Option Addr) (n c : Nat) (num : Nat) (w : World) (htab : Tab w) (hk : ∀ X, w.grownBy X none → Calls Tryd.prog 20 #[.agg #[.int .i64 S, .int .i64 I, .slice sp n c, .int .i64 R]] X fun e w' => e = .returned (.int .i64 110) ∧ X.grownBy w' none) :
    Calls Tryd.prog 7 #[.agg #[.int .i64 S, .int .i64 I, .slice sp n c, .int .i64 R], .int .u64 (num : Nat)] w fun e w' => e = .returned (.bool true) ∧ w.grownBy w' none := by
  obtain ⟨W1, hW1, sz1, g1, B1⟩ := boxn w #[.int .i64 S, .int .i64 I, .slice sp n c, .int .i64 R] 24
  have HG : Hid (w.grownBy W1 none) := g1
  have HP : Hid (Bo W1 w.heap.size 24 #[.int .i64 S, .int .i64 I, .slice sp n c, .int .i64 R]) := B1
  have kav := aliveC W1 (tab_kept htab g1)
  have kk := fun X (g : W1.grownBy X none) => hk X (gb_trans HG.out g)
  have kn := fun X (g : W1.grownBy X none) => canonE S I R sp n c X (fun Y gY => hk Y (gb_trans (gb_trans HG.out g) gY))
  have kz := fun X => alikeNil X
  clear hk htab g1 B1 sz1
  go_enter Tryd.func7, Tryd.ntmps7
  go_wp2_with (first | (go_at_call 9; refine kav.mono ?_; rintro e V2 ⟨rfl, g2⟩; clear kav; have P2 := HP.out.kept g2 (by simp); have aa0 := P2.cell 0 (v := .int .i64 S) rfl; have aa1 := P2.cell 1 (v := .int .i64 I) rfl; have aa2 := P2.cell 2 (v := .slice sp n c) rfl; have aa3 := P2.cell 3 (v := .int .i64 R) rfl; have kn2 := kn V2 g2; clear kn) | (go_at_call 23; refine kn2.mono ?_; rintro e V3 ⟨rfl, g3⟩; clear kn2; have g4 : V3.grownBy (V3.alloc (.cells #[.int .i64 0, .int .i64 0, .slice none 0 0, .int .i64 0] 24)) none := World.grownBy_alloc _ _ _; have G4 := gb_trans g2 (gb_trans g3 g4); have HC4 : Hid (Bo (V3.alloc (.cells #[.int .i64 0, .int .i64 0, .slice none 0 0, .int .i64 0] 24)) V3.heap.size 24 #[.int .i64 0, .int .i64 0, .slice none 0 0, .int .i64 0]) := Bo.new _ _ _; have P4 := HP.out.kept G4 (by simp); have bb0 := P4.cell 0 (v := .int .i64 S) rfl; have bb1 := P4.cell 1 (v := .int .i64 I) rfl; have bb2 := P4.cell 2 (v := .slice sp n c) rfl; have bb3 := P4.cell 3 (v := .int .i64 R) rfl; have kk4 := kk _ G4; clear kk) | (go_at_call 20; refine kk4.mono ?_; rintro e V5 ⟨rfl, g5⟩; clear kk4; have G5 := gb_trans G4 g5; have C5 := HC4.out.kept g5 (by simp); have cc0 := C5.cell 0 (v := .int .i64 0) rfl; have cc1 := C5.cell 1 (v := .int .i64 0) rfl; have cc2 := C5.cell 2 (v := .slice none 0 0) rfl; have cc3 := C5.cell 3 (v := .int .i64 0) rfl) | (go_at_call 25; refine (kz V5).mono ?_; rintro e V6 ⟨rfl, g6⟩; clear kz))
  go_ret
  exact ⟨rfl, gb_trans HG.out (gb_trans G5 g6)⟩

set_option maxHeartbeats 2000000 in
theorem form_big (q o n c S I R : Nat) (t : Nat → TN) (lv : Nat → Nat) (ht : Tok S I R n t lv) (hbig : 4 < S ∨ 5 < I) (num : Nat) (w : World) (htab : Tab w) (hT : Tn w q o n t) :
    Calls Tryd.prog 7 #[.agg #[.int .i64 (S : Nat), .int .i64 (I : Nat), .slice (some ⟨q, o, none⟩) n c, .int .i64 (R : Nat)], .int .u64 (num : Nat)] w fun e w' => e = .returned (.bool true) ∧ w.grownBy w' none := by
  obtain ⟨W1, hW1, sz1, g1, B1⟩ := boxn w #[.int .i64 (S : Nat), .int .i64 (I : Nat), .slice (some ⟨q, o, none⟩) n c, .int .i64 (R : Nat)] 24
  have HG : Hid (w.grownBy W1 none) := g1
  have HP : Hid (Bo W1 w.heap.size 24 #[.int .i64 (S : Nat), .int .i64 (I : Nat), .slice (some ⟨q, o, none⟩) n c, .int .i64 (R : Nat)]) := B1
  have HT1 : Hid (Tn W1 q o n t) := hT.kept g1
  have HTok : Hid (Tok S I R n t lv) := ht
  have kav := aliveC W1 (tab_kept htab g1)
  have kk := fun X (g : W1.grownBy X none) => checkK S I R q o n c t lv ht X (HT1.out.kept g)
  have kn := fun X (g : W1.grownBy X none) => canonT q o n c S I R t lv ht X (HT1.out.kept g)
  obtain ⟨L, hL⟩ : ∃ L, cnF t lv R = L := ⟨_, rfl⟩
  simp only [hL] at kn
  have HL : Hid (cnF t lv R = L) := hL
  clear ht hT htab hL g1 B1 sz1
  by_cases h4 : 4 < S
  · have y1 : (4 : Int) < (S : Int) := by omega
    clear hbig
    go_enter Tryd.func7, Tryd.ntmps7
    go_wp2_with (first | (go_at_call 9; refine kav.mono ?_; rintro e V2 ⟨rfl, g2⟩; clear kav; have P2 := HP.out.kept g2 (by simp); have aa0 := P2.cell 0 (v := .int .i64 (S : Nat)) rfl; have aa1 := P2.cell 1 (v := .int .i64 (I : Nat)) rfl; have aa2 := P2.cell 2 (v := .slice (some ⟨q, o, none⟩) n c) rfl; have aa3 := P2.cell 3 (v := .int .i64 (R : Nat)) rfl; have kn2 := kn V2 g2; clear kn) | (go_at_call 23; (fail_if_success (guard_hyp g3)); refine kn2.mono ?_; rintro e V3 ⟨gc, kb, rfl, hNz, g3⟩; clear kn2; obtain ⟨spa, hTc⟩ := hNz.tn; obtain ⟨V4, hV4, sz4, g4, B4⟩ := boxn V3 #[.int .i64 (S : Nat), .int .i64 (I : Nat), .slice (some ⟨gc, 0, none⟩) L.length L.length, .int .i64 ((L.length - 1 : Nat) : Int)] 24; have G4 := gb_trans g2 (gb_trans g3 g4); have HTc : Hid (Tn V4 gc 0 L.length (tnOf L spa)) := hTc.kept g4; clear hTc hNz; have HC4 : Hid (Bo V4 V3.heap.size 24 #[.int .i64 (S : Nat), .int .i64 (I : Nat), .slice (some ⟨gc, 0, none⟩) L.length L.length, .int .i64 ((L.length - 1 : Nat) : Int)]) := B4; have P4 := HP.out.kept G4 (by simp); have bb0 := P4.cell 0 (v := .int .i64 (S : Nat)) rfl; have bb1 := P4.cell 1 (v := .int .i64 (I : Nat)) rfl; have bb2 := P4.cell 2 (v := .slice (some ⟨q, o, none⟩) n c) rfl; have bb3 := P4.cell 3 (v := .int .i64 (R : Nat)) rfl; have kk4 := kk V4 G4; clear kk) | (go_at_call 20; refine kk4.mono ?_; rintro e V5 ⟨rfl, g5⟩; clear kk4; have G5 := gb_trans G4 g5; have P5 := HP.out.kept G5 (by simp); have cc0 := P5.cell 0 (v := .int .i64 (S : Nat)) rfl; have cc1 := P5.cell 1 (v := .int .i64 (I : Nat)) rfl; have cc2 := P5.cell 2 (v := .slice (some ⟨q, o, none⟩) n c) rfl; have cc3 := P5.cell 3 (v := .int .i64 (R : Nat)) rfl))
    go_ret
    exact ⟨rfl, gb_trans HG.out G5⟩
  · have y1 : ¬ (4 : Int) < (S : Int) := by omega
    have y2 : (5 : Int) < (I : Int) := by omega
    clear hbig
    go_enter Tryd.func7, Tryd.ntmps7
    go_wp2_with (first | (go_at_call 9; refine kav.mono ?_; rintro e V2 ⟨rfl, g2⟩; clear kav; have P2 := HP.out.kept g2 (by simp); have aa0 := P2.cell 0 (v := .int .i64 (S : Nat)) rfl; have aa1 := P2.cell 1 (v := .int .i64 (I : Nat)) rfl; have aa2 := P2.cell 2 (v := .slice (some ⟨q, o, none⟩) n c) rfl; have aa3 := P2.cell 3 (v := .int .i64 (R : Nat)) rfl; have kn2 := kn V2 g2; clear kn) | (go_at_call 23; (fail_if_success (guard_hyp g3)); refine kn2.mono ?_; rintro e V3 ⟨gc, kb, rfl, hNz, g3⟩; clear kn2; obtain ⟨spa, hTc⟩ := hNz.tn; obtain ⟨V4, hV4, sz4, g4, B4⟩ := boxn V3 #[.int .i64 (S : Nat), .int .i64 (I : Nat), .slice (some ⟨gc, 0, none⟩) L.length L.length, .int .i64 ((L.length - 1 : Nat) : Int)] 24; have G4 := gb_trans g2 (gb_trans g3 g4); have HTc : Hid (Tn V4 gc 0 L.length (tnOf L spa)) := hTc.kept g4; clear hTc hNz; have HC4 : Hid (Bo V4 V3.heap.size 24 #[.int .i64 (S : Nat), .int .i64 (I : Nat), .slice (some ⟨gc, 0, none⟩) L.length L.length, .int .i64 ((L.length - 1 : Nat) : Int)]) := B4; have P4 := HP.out.kept G4 (by simp); have bb0 := P4.cell 0 (v := .int .i64 (S : Nat)) rfl; have bb1 := P4.cell 1 (v := .int .i64 (I : Nat)) rfl; have bb2 := P4.cell 2 (v := .slice (some ⟨q, o, none⟩) n c) rfl; have bb3 := P4.cell 3 (v := .int .i64 (R : Nat)) rfl; have kk4 := kk V4 G4; clear kk) | (go_at_call 20; refine kk4.mono ?_; rintro e V5 ⟨rfl, g5⟩; clear kk4; have G5 := gb_trans G4 g5; have P5 := HP.out.kept G5 (by simp); have cc0 := P5.cell 0 (v := .int .i64 (S : Nat)) rfl; have cc1 := P5.cell 1 (v := .int .i64 (I : Nat)) rfl; have cc2 := P5.cell 2 (v := .slice (some ⟨q, o, none⟩) n c) rfl; have cc3 := P5.cell 3 (v := .int .i64 (R : Nat)) rfl))
    go_ret
    exact ⟨rfl, gb_trans HG.out G5⟩

set_option maxHeartbeats 2000000 in
theorem form_small (q o n c S I R : Nat) (t : Nat → TN) (lv : Nat → Nat) (ht : Tok S I R n t lv) (h4 : S ≤ 4) (h5 : I ≤ 5) (num : Nat) (hnum : num < 18446744073709551616) (w : World) (htab : Tab w) (hT : Tn w q o n t) :
    Calls Tryd.prog 7 #[.agg #[.int .i64 (S : Nat), .int .i64 (I : Nat), .slice (some ⟨q, o, none⟩) n c, .int .i64 (R : Nat)], .int .u64 (num : Nat)] w fun e w' => e = .returned (.bool true) ∧ w.grownBy w' none := by
  obtain ⟨W1, hW1, sz1, g1, B1⟩ := boxn w #[.int .i64 (S : Nat), .int .i64 (I : Nat), .slice (some ⟨q, o, none⟩) n c, .int .i64 (R : Nat)] 24
  have HG : Hid (w.grownBy W1 none) := g1
  have HP : Hid (Bo W1 w.heap.size 24 #[.int .i64 (S : Nat), .int .i64 (I : Nat), .slice (some ⟨q, o, none⟩) n c, .int .i64 (R : Nat)]) := B1
  have HT1 : Hid (Tn W1 q o n t) := hT.kept g1
  have HTok : Hid (Tok S I R n t lv) := ht
  have kav := aliveC W1 (tab_kept htab g1)
  have kk := fun X (g : W1.grownBy X none) => checkK S I R q o n c t lv ht X (HT1.out.kept g)
  have kn := fun X (g : W1.grownBy X none) => canonT q o n c S I R t lv ht X (HT1.out.kept g)
  obtain ⟨L, hL⟩ : ∃ L, cnF t lv R = L := ⟨_, rfl⟩
  simp only [hL] at kn
  have HL : Hid (cnF t lv R = L) := hL
  have y1 : ¬ (4 : Int) < (S : Int) := by omega
  have y2 : ¬ (5 : Int) < (I : Int) := by omega
  have h1 := ht.hs1
  have hFof : Fof S I L := ⟨_, ans_lt ht, by rw [← canon_is ht, hL]⟩
  have hpos := hFof.pos h1 h4 h5
  have hfew : L.length ≤ n := by rw [← hL]; exact form_few ht
  have yl : ((L.length : Nat) : Int) ≤ (n : Int) := by omega
  have ys : IntKind.i64.wrap ((L.length : Int) - 1) = ((L.length - 1 : Nat) : Int) := by rw [IntKind.wrap_i64]; omega
  have ko := fun X (g : W1.grownBy X none) => ofT q o n c S I R w.heap.size t lv ht h4 h5 X (HP.out.kept g (by simp)) (HT1.out.kept g) L hL
  have kr := fun X => rowC S I 0 0 h1 h4 h5 none num hnum X
  obtain ⟨x, hx⟩ : ∃ x, dgs S I num = x := ⟨_, rfl⟩
  have x1 := dgs_len S I num
  have x2 := dgs_lt (show 0 < S by omega) I num
  simp only [hx] at kr
  rw [hx] at x1 x2
  have hxf : ∀ i, i < I → x.getD i 0 < S := fun i hi => x2 _ (by
    refine List.mem_of_getElem? (i := i) ?_
    rw [List.getD_eq_getElem?_getD, List.getElem?_eq_getElem (by omega)]; rfl)
  obtain ⟨r, hr⟩ : ∃ r, ev t R I x = r := ⟨_, rfl⟩
  have ka : ∀ X d, W1.grownBy X none → X.rowIs d 5 I (fun i => .int .u8 (x.getD i 0 : Nat)) → Calls Tryd.prog 22 #[.agg #[.int .i64 (S : Nat), .int .i64 (I : Nat), .slice (some ⟨q, o, none⟩) n c, .int .i64 (R : Nat)], .slice (some ⟨d, 0, none⟩) I I] X fun e w' => e = .returned (.tuple #[.int .u8 (r : Nat), .int .i64 0]) ∧ X.grownBy w' none := fun X d g hr2 => by
    have := atC S I R q o n c t lv ht (some ⟨d, 0, none⟩) I (fun i => x.getD i 0) hxf X (HT1.out.kept g) (fun k hk => ⟨_, rfl, by rw [add_mid, Nat.zero_add]; exact hr2.cell hk⟩)
    rw [← hr]
    exact this
  have kf : ∀ X g sp, Tn X g 0 L.length (tnOf L sp) → (∀ d, X.rowIs d 5 I (fun i => .int .u8 (x.getD i 0 : Nat)) → Calls Tryd.prog 22 #[.agg #[.int .i64 (S : Nat), .int .i64 (I : Nat), .slice (some ⟨g, 0, none⟩) L.length L.length, .int .i64 ((L.length - 1 : Nat) : Int)], .slice (some ⟨d, 0, none⟩) I I] X fun e w' => e = .returned (.tuple #[.int .u8 (r : Nat), .int .i64 0]) ∧ X.grownBy w' none) ∧ (Calls Tryd.prog 23 #[.agg #[.int .i64 (S : Nat), .int .i64 (I : Nat), .slice (some ⟨g, 0, none⟩) L.length L.length, .int .i64 ((L.length - 1 : Nat) : Int)]] X fun e w' => ∃ gM kb, e = .returned (.tuple #[.agg #[.int .i64 (S : Nat), .int .i64 (I : Nat), .slice (some ⟨gM, 0, none⟩) L.length L.length, .int .i64 ((L.length - 1 : Nat) : Int)], .int .i64 0]) ∧ Nz w' X.heap.size gM kb L ∧ X.grownBy w' none) := fun X g sp hX => by
    obtain ⟨B, hB, hBe⟩ := hFof
    obtain ⟨lu, hu, hc⟩ := tok_frm S I h1 h4 h5 B hB L hBe sp
    have hs := same_at ht hu (by rw [hL, hc]) x1 x2
    refine ⟨fun d hr2 => ?_, ?_⟩
    · have := atC S I (L.length - 1) g 0 L.length L.length (tnOf L sp) lu hu (some ⟨d, 0, none⟩) I (fun i => x.getD i 0) hxf X hX (fun k hk => ⟨_, rfl, by rw [add_mid, Nat.zero_add]; exact hr2.cell hk⟩)
      rw [← hr, hs]
      exact this
    · have := canonT g 0 L.length L.length S I (L.length - 1) (tnOf L sp) lu hu X hX
      rw [hc] at this
      exact this
  have kl := fun g h spx spy X (hg : Tn X g 0 L.length (tnOf L spx)) (hh : Tn X h 0 L.length (tnOf L spy)) => alikeF S I h1 h4 h5 L L hFof hFof g h spx spy true (by simp) X hg hh
  have HKA : Hid (∀ X d, W1.grownBy X none → X.rowIs d 5 I (fun i => .int .u8 (x.getD i 0 : Nat)) → Calls Tryd.prog 22 #[.agg #[.int .i64 (S : Nat), .int .i64 (I : Nat), .slice (some ⟨q, o, none⟩) n c, .int .i64 (R : Nat)], .slice (some ⟨d, 0, none⟩) I I] X fun e w' => e = .returned (.tuple #[.int .u8 (r : Nat), .int .i64 0]) ∧ X.grownBy w' none) := ka
  clear ka ht hT htab hL hFof hfew hr hx x1 x2 hxf g1 B1 sz1
  go_enter Tryd.func7, Tryd.ntmps7
  go_wp2_with (first | (go_at_call 9; refine kav.mono ?_; rintro e V2 ⟨rfl, g2⟩; clear kav; have P2 := HP.out.kept g2 (by simp); have aa0 := P2.cell 0 (v := .int .i64 (S : Nat)) rfl; have aa1 := P2.cell 1 (v := .int .i64 (I : Nat)) rfl; have aa2 := P2.cell 2 (v := .slice (some ⟨q, o, none⟩) n c) rfl; have aa3 := P2.cell 3 (v := .int .i64 (R : Nat)) rfl; have kn2 := kn V2 g2; clear kn) | (go_at_call 23; (fail_if_success (guard_hyp g3)); refine kn2.mono ?_; rintro e V3 ⟨gc, kb, rfl, hNz, g3⟩; clear kn2; obtain ⟨spa, hTc⟩ := hNz.tn; obtain ⟨V4, hV4, sz4, g4, B4⟩ := boxn V3 #[.int .i64 (S : Nat), .int .i64 (I : Nat), .slice (some ⟨gc, 0, none⟩) L.length L.length, .int .i64 ((L.length - 1 : Nat) : Int)] 24; have G4 := gb_trans g2 (gb_trans g3 g4); have HTc : Hid (Tn V4 gc 0 L.length (tnOf L spa)) := hTc.kept g4; clear hTc hNz; have HC4 : Hid (Bo V4 V3.heap.size 24 #[.int .i64 (S : Nat), .int .i64 (I : Nat), .slice (some ⟨gc, 0, none⟩) L.length L.length, .int .i64 ((L.length - 1 : Nat) : Int)]) := B4; have P4 := HP.out.kept G4 (by simp); have bb0 := P4.cell 0 (v := .int .i64 (S : Nat)) rfl; have bb1 := P4.cell 1 (v := .int .i64 (I : Nat)) rfl; have bb2 := P4.cell 2 (v := .slice (some ⟨q, o, none⟩) n c) rfl; have bb3 := P4.cell 3 (v := .int .i64 (R : Nat)) rfl; have kk4 := kk V4 G4; clear kk) | (go_at_call 20; refine kk4.mono ?_; rintro e V5 ⟨rfl, g5⟩; clear kk4; have G5 := gb_trans G4 g5; have P5 := HP.out.kept G5 (by simp); have cc0 := P5.cell 0 (v := .int .i64 (S : Nat)) rfl; have cc1 := P5.cell 1 (v := .int .i64 (I : Nat)) rfl; have cc2 := P5.cell 2 (v := .slice (some ⟨q, o, none⟩) n c) rfl; have cc3 := P5.cell 3 (v := .int .i64 (R : Nat)) rfl; have C5 := HC4.out.kept g5 (by simp); have HTc5 : Hid (Tn V5 gc 0 L.length (tnOf L spa)) := HTc.out.kept g5; have HC5 : Hid (Bo V5 V3.heap.size 24 #[.int .i64 (S : Nat), .int .i64 (I : Nat), .slice (some ⟨gc, 0, none⟩) L.length L.length, .int .i64 ((L.length - 1 : Nat) : Int)]) := C5; have ko5 := ko V5 G5; clear ko) | (go_at_call 27; refine ko5.mono ?_; rintro e V6 ⟨gu, kb2, rfl, hNu, g6⟩; clear ko5; obtain ⟨spb, hTu⟩ := hNu.tn; obtain ⟨V7, hV7, sz7, g7, B7⟩ := boxn V6 #[.int .i64 (S : Nat), .int .i64 (I : Nat), .slice (some ⟨gu, 0, none⟩) L.length L.length, .int .i64 ((L.length - 1 : Nat) : Int)] 24; have G57 := gb_trans g6 g7; have G7 := gb_trans G5 G57; have HTu : Hid (Tn V7 gu 0 L.length (tnOf L spb)) := hTu.kept g7; clear hTu hNu; have HTc7 : Hid (Tn V7 gc 0 L.length (tnOf L spa)) := HTc5.out.kept G57; have HC7 : Hid (Bo V7 V3.heap.size 24 #[.int .i64 (S : Nat), .int .i64 (I : Nat), .slice (some ⟨gc, 0, none⟩) L.length L.length, .int .i64 ((L.length - 1 : Nat) : Int)]) := HC5.out.kept G57 (by simp); have HU7 : Hid (Bo V7 V6.heap.size 24 #[.int .i64 (S : Nat), .int .i64 (I : Nat), .slice (some ⟨gu, 0, none⟩) L.length L.length, .int .i64 ((L.length - 1 : Nat) : Int)]) := B7; have P7 := HP.out.kept G7 (by simp); have dd0 := P7.cell 0 (v := .int .i64 (S : Nat)) rfl; have dd1 := P7.cell 1 (v := .int .i64 (I : Nat)) rfl; have dd2 := P7.cell 2 (v := .slice (some ⟨q, o, none⟩) n c) rfl; have dd3 := P7.cell 3 (v := .int .i64 (R : Nat)) rfl; have kr7 := kr V7; clear kr) | (go_at_call 21; refine kr7.mono ?_; rintro e V8 ⟨d, rfl, hR8, hd8, g8⟩; clear kr7 hd8; have G8 := gb_trans G7 g8; have HR8 : Hid (V8.rowIs d 5 I (fun i => .int .u8 (x.getD i 0 : Nat))) := hR8; clear hR8; have P8 := HP.out.kept G8 (by simp); have ee0 := P8.cell 0 (v := .int .i64 (S : Nat)) rfl; have ee1 := P8.cell 1 (v := .int .i64 (I : Nat)) rfl; have ee2 := P8.cell 2 (v := .slice (some ⟨q, o, none⟩) n c) rfl; have ee3 := P8.cell 3 (v := .int .i64 (R : Nat)) rfl; have ka8 := HKA.out V8 d G8 HR8.out) | (go_at_call 22; (fail_if_success (guard_hyp g9)); refine ka8.mono ?_; rintro e V9 ⟨rfl, g9⟩; clear ka8; have G79 := gb_trans g8 g9; have G9 := gb_trans G7 G79; have HTc9 : Hid (Tn V9 gc 0 L.length (tnOf L spa)) := HTc7.out.kept G79; have C9 := HC7.out.kept G79 (by simp); have hh0 := C9.cell 0 (v := .int .i64 (S : Nat)) rfl; have hh1 := C9.cell 1 (v := .int .i64 (I : Nat)) rfl; have hh2 := C9.cell 2 (v := .slice (some ⟨gc, 0, none⟩) L.length L.length) rfl; have hh3 := C9.cell 3 (v := .int .i64 ((L.length - 1 : Nat) : Int)) rfl; have hR9 : V9.rowIs d 5 I (fun i => .int .u8 (x.getD i 0 : Nat)) := World.rowIs.of_block HR8.out (g9.block d (World.rowIs.lt HR8.out) (by simp)); have kf9 := (kf V9 gc spa HTc9.out).1 d hR9; clear hR9) | (go_at_call 22; guard_hyp g9; refine kf9.mono ?_; rintro e V10 ⟨rfl, g10⟩; clear kf9; have G710 := gb_trans G79 g10; have C10 := HC7.out.kept G710 (by simp); have ii0 := C10.cell 0 (v := .int .i64 (S : Nat)) rfl; have ii1 := C10.cell 1 (v := .int .i64 (I : Nat)) rfl; have ii2 := C10.cell 2 (v := .slice (some ⟨gc, 0, none⟩) L.length L.length) rfl; have ii3 := C10.cell 3 (v := .int .i64 ((L.length - 1 : Nat) : Int)) rfl; have kf10 := (kf V10 gc spa (HTc7.out.kept G710)).2; clear kf) | (go_at_call 23; guard_hyp g3; refine kf10.mono ?_; rintro e V11 ⟨gd, kb3, rfl, hNd, g11⟩; clear kf10; obtain ⟨spd, hTd⟩ := hNd.tn; obtain ⟨V12, hV12, sz12, g12, B12⟩ := boxn V11 #[.int .i64 (S : Nat), .int .i64 (I : Nat), .slice (some ⟨gd, 0, none⟩) L.length L.length, .int .i64 ((L.length - 1 : Nat) : Int)] 24; have G712 := gb_trans G710 (gb_trans g11 g12); have HTd : Hid (Tn V12 gd 0 L.length (tnOf L spd)) := hTd.kept g12; clear hTd hNd; have HD12 : Hid (Bo V12 V11.heap.size 24 #[.int .i64 (S : Nat), .int .i64 (I : Nat), .slice (some ⟨gd, 0, none⟩) L.length L.length, .int .i64 ((L.length - 1 : Nat) : Int)]) := B12; have C12 := HC7.out.kept G712 (by simp); have U12 := HU7.out.kept G712 (by simp); have jj0 := C12.cell 0 (v := .int .i64 (S : Nat)) rfl; have jj1 := C12.cell 1 (v := .int .i64 (I : Nat)) rfl; have jj2 := C12.cell 2 (v := .slice (some ⟨gc, 0, none⟩) L.length L.length) rfl; have jj3 := C12.cell 3 (v := .int .i64 ((L.length - 1 : Nat) : Int)) rfl; have kk0 := U12.cell 0 (v := .int .i64 (S : Nat)) rfl; have kk1 := U12.cell 1 (v := .int .i64 (I : Nat)) rfl; have kk2 := U12.cell 2 (v := .slice (some ⟨gu, 0, none⟩) L.length L.length) rfl; have kk3 := U12.cell 3 (v := .int .i64 ((L.length - 1 : Nat) : Int)) rfl; have kl12 := kl gc gu spa spb V12 (HTc7.out.kept G712) (HTu.out.kept G712)) | (go_at_call 25; (fail_if_success (guard_hyp g13)); refine kl12.mono ?_; rintro e V13 ⟨rfl, g13⟩; clear kl12; have G713 := gb_trans G712 g13; have D13 := HD12.out.kept g13 (by simp); have C13 := HC7.out.kept G713 (by simp); have ll0 := D13.cell 0 (v := .int .i64 (S : Nat)) rfl; have ll1 := D13.cell 1 (v := .int .i64 (I : Nat)) rfl; have ll2 := D13.cell 2 (v := .slice (some ⟨gd, 0, none⟩) L.length L.length) rfl; have ll3 := D13.cell 3 (v := .int .i64 ((L.length - 1 : Nat) : Int)) rfl; have nn0 := C13.cell 0 (v := .int .i64 (S : Nat)) rfl; have nn1 := C13.cell 1 (v := .int .i64 (I : Nat)) rfl; have nn2 := C13.cell 2 (v := .slice (some ⟨gc, 0, none⟩) L.length L.length) rfl; have nn3 := C13.cell 3 (v := .int .i64 ((L.length - 1 : Nat) : Int)) rfl; have kl13 := kl gd gc spd spa V13 (HTd.out.kept g13) (HTc7.out.kept G713); clear kl) | (go_at_call 25; guard_hyp g13; refine kl13.mono ?_; rintro e V14 ⟨rfl, g14⟩; clear kl13; have G714 := gb_trans G713 g14; have G14 := gb_trans G7 G714; have C14 := HC7.out.kept G714 (by simp); have P14 := HP.out.kept G14 (by simp); have pp0 := C14.cell 0 (v := .int .i64 (S : Nat)) rfl; have pp1 := C14.cell 1 (v := .int .i64 (I : Nat)) rfl; have pp2 := C14.cell 2 (v := .slice (some ⟨gc, 0, none⟩) L.length L.length) rfl; have pp3 := C14.cell 3 (v := .int .i64 ((L.length - 1 : Nat) : Int)) rfl; have rr0 := P14.cell 0 (v := .int .i64 (S : Nat)) rfl; have rr1 := P14.cell 1 (v := .int .i64 (I : Nat)) rfl; have rr2 := P14.cell 2 (v := .slice (some ⟨q, o, none⟩) n c) rfl; have rr3 := P14.cell 3 (v := .int .i64 (R : Nat)) rfl))
  go_ret
  exact ⟨rfl, gb_trans HG.out G14⟩

end Go.Proofs.YteaionmjbkildabDoor
namespace Go.Proofs.YteaionmjbkildabDoor
set_option linter.unusedVariables false

theorem form_top (S I R : Int) (sp : Option Addr) (q o n c : Nat) (t : Nat → TN) (e0 : 0 < n → sp = some ⟨q, o, none⟩) (e1 : n ≤ 4398046510976) (e2 : ∀ j, (t j).st < 256) (e3 : ∀ j, j < n → (t j).kn ≤ 17592186043904) (e4 : ∀ j, j < n → (t j).kp = none → (t j).kn = 0 ∧ (t j).kc = 0) (a : Int) (w : World) (htab : Tab w) (hT : Tn w q o n t) (ha : 0 ≤ a ∧ a ≤ 18446744073709551615) :
    Calls Tryd.prog 7 #[.agg #[.int .i64 S, .int .i64 I, .slice sp n c, .int .i64 R], .int .u64 a] w fun e w' => e = .returned (.bool true) ∧ w.grownBy w' none := by
  obtain ⟨num, rfl⟩ := Int.eq_ofNat_of_zero_le ha.1
  by_cases h : CkOk S I n R t
  · have ht := h.tok e2
    obtain ⟨hm, hn, r0, r1, _⟩ := h
    obtain ⟨⟨s1, s2⟩, i0, i1⟩ := maB_is hm
    obtain ⟨S, rfl⟩ := Int.eq_ofNat_of_zero_le (show 0 ≤ S by omega)
    obtain ⟨I, rfl⟩ := Int.eq_ofNat_of_zero_le i0
    obtain ⟨R, rfl⟩ := Int.eq_ofNat_of_zero_le r0
    simp only [Int.toNat_natCast] at ht
    obtain rfl := e0 (by have := ht.hr; omega)
    by_cases h4 : S ≤ 4 ∧ I ≤ 5
    · exact form_small q o n c S I R t _ ht h4.1 h4.2 num (by omega) w htab hT
    · exact form_big q o n c S I R t _ ht (by omega) num w htab hT
  · exact form_not S I R sp n c num w htab (fun X g => by
      have := checkC S I R sp q o n c t e0 e2 X (hT.kept g)
      rw [if_neg h] at this
      exact this)
end Go.Proofs.YteaionmjbkildabDoor
