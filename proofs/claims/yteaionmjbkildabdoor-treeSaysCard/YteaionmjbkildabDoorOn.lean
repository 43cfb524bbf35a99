/- Canon of every tree; TreeForm's closure. -/
import Derived.Test.YteaionmjbkildabDoorQr
import Derived.Test.YteaionmjbkildabDoorTa
import Derived.Test.YteaionmjbkildabDoorQ30
import Derived.Test.YteaionmjbkildabDoorOm
import Derived.Test.YteaionmjbkildabDoorTc
namespace Go.Proofs.YteaionmjbkildabDoor
open Go.RowKit
set_option linter.unusedVariables false
set_option linter.unusedSimpArgs false
set_option maxRecDepth 100000

set_option maxHeartbeats 1000000 in
theorem canonT (q o n c S I R : Nat) (t : Nat → TN) (lv : Nat → Nat) (ht : Tok S I R n t lv) (w : World) (hT : Tn w q o n t) :
    Calls Tryd.prog 23 #[.agg #[.int .i64 (S : Nat), .int .i64 (I : Nat), .slice (some ⟨q, o, none⟩) n c, .int .i64 (R : Nat)]] w fun e w' => ∃ gM kb, e = .returned (.tuple #[.agg #[.int .i64 (S : Nat), .int .i64 (I : Nat), .slice (some ⟨gM, 0, none⟩) (cnF t lv R).length (cnF t lv R).length, .int .i64 (((cnF t lv R).length - 1 : Nat) : Int)], .int .i64 0]) ∧ Nz w' w.heap.size gM kb (cnF t lv R) ∧ w.grownBy w' none := by
  obtain ⟨fs, hfs⟩ := underTree
  have HFs : Hid (Tryd.prog.underlying 24 = some (.struct fs)) := hfs
  clear hfs
  obtain ⟨W1, hW1, sz1, g1, B1⟩ := boxn w #[.int .i64 (S : Nat), .int .i64 (I : Nat), .slice (some ⟨q, o, none⟩) n c, .int .i64 (R : Nat)] 24
  obtain ⟨W2, hW2, sz2, g2, B2⟩ := boxn W1 #[.int .i64 0, .int .i64 0, .slice none 0 0, .int .i64 0] 24
  have G2 := gb_trans g1 g2
  have P2 := B1.kept g2 (by simp)
  have aa0 := P2.cell 0 (v := .int .i64 (S : Nat)) rfl
  have aa1 := P2.cell 1 (v := .int .i64 (I : Nat)) rfl
  have aa2 := P2.cell 2 (v := .slice (some ⟨q, o, none⟩) n c) rfl
  have aa3 := P2.cell 3 (v := .int .i64 (R : Nat)) rfl
  have kc := checkK S I R q o n c t lv ht W2 (hT.kept G2)
  have kn := fun X (g : W2.grownBy X none) => canonC q o n c S I R t lv ht X (hT.kept (gb_trans G2 g))
  have HP : Hid (Bo W2 w.heap.size 24 #[.int .i64 (S : Nat), .int .i64 (I : Nat), .slice (some ⟨q, o, none⟩) n c, .int .i64 (R : Nat)]) := P2
  have HB : Hid (Bo W2 W1.heap.size 24 #[.int .i64 0, .int .i64 0, .slice none 0 0, .int .i64 0]) := B2
  obtain ⟨L, hL⟩ : ∃ L, cnF t lv R = L := ⟨_, rfl⟩
  have hL' : (unf (tnd t) (lv R) R []).2 = L := hL
  simp only [hL'] at kn
  rw [hL]
  clear hL hL' P2
  have le : w.heap.size ≤ W1.heap.size := g1.size
  have hlo : W1.heap.size < W2.heap.size := B2.lt
  have HLE : Hid (w.heap.size ≤ W1.heap.size ∧ W1.heap.size < W2.heap.size) := ⟨le, hlo⟩
  clear le hlo
  go_enter Tryd.func23, Tryd.ntmps23
  go_wp2_with (first | (go_at_call 20; refine kc.mono ?_; rintro e V3 ⟨rfl, g3⟩; clear kc; have P3 := HP.out.kept g3 (by simp); have bb0 := P3.cell 0 (v := .int .i64 (S : Nat)) rfl; have bb1 := P3.cell 1 (v := .int .i64 (I : Nat)) rfl; have bb2 := P3.cell 2 (v := .slice (some ⟨q, o, none⟩) n c) rfl; have bb3 := P3.cell 3 (v := .int .i64 (R : Nat)) rfl; have kn3 := kn V3 g3; clear kn) | (go_at_call 49; refine kn3.mono ?_; rintro e V4 ⟨gM, kb, rfl, hNz, hAp, g4, hgM⟩; clear kn3 hAp; have G4 := gb_trans g3 g4; have B4 := HB.out.kept G4 (by simp); have cc0 := B4.cell 0 (v := .int .i64 0) rfl; have cc1 := B4.cell 1 (v := .int .i64 0) rfl; have cc2 := B4.cell 2 (v := .slice none 0 0) rfl; have cc3 := B4.cell 3 (v := .int .i64 0) rfl; have ff0 := B4.frozen 0; have ff1 := B4.frozen 1; have ff2 := B4.frozen 2; have ff3 := B4.frozen 3))
  have hgN : gM ≠ W1.heap.size := by have := HLE.out; have := g3.size; omega
  have GG : w.grownBy V4 none := gb_trans G2 G4
  have go4 : ∀ {W : World} i v, W.grownBy (W.setCell ⟨W1.heap.size, i, none⟩ v) (some W1.heap.size) := fun i v => gb_set (World.grownBy.refl _ _) i v
  have hl3 : W1.heap.size < V3.heap.size := by have := HLE.out; have := g3.size; omega
  have le := HLE.out.1
  exact ret_c2 (g := W1.heap.size) (t := 24) (cs := #[.int .i64 (S : Nat), .int .i64 (I : Nat), .slice (some ⟨gM, 0, none⟩) L.length L.length, .int .i64 ((L.length - 1 : Nat) : Int)]) rfl HFs.out infoTree rfl ((((B4.set 0 _).set 1 _).set 2 _).set 3 _) rfl ⟨gM, kb, rfl, ((((hNz.keep (go4 _ _) hgN hl3).keep (go4 _ _) hgN hl3).keep (go4 _ _) hgN hl3).keep (go4 _ _) hgN hl3).low (by have := G2.size; have := g3.size; omega), gb_new (gb_new (gb_new (gb_new GG le _) le _) le _) le _⟩

set_option maxHeartbeats 1000000 in
theorem canonE (S I R : Int) (sp : Option Addr) (n c : Nat) (w : World) (hk : ∀ X, w.grownBy X none → Calls Tryd.prog 20 #[.agg #[.int .i64 S, .int .i64 I, .slice sp n c, .int .i64 R]] X fun e w' => e = .returned (.int .i64 110) ∧ X.grownBy w' none) :
    Calls Tryd.prog 23 #[.agg #[.int .i64 S, .int .i64 I, .slice sp n c, .int .i64 R]] w fun e w' => e = .returned (.tuple #[.agg #[.int .i64 0, .int .i64 0, .slice none 0 0, .int .i64 0], .int .i64 110]) ∧ w.grownBy w' none := by
  obtain ⟨fs, hfs⟩ := underTree
  have HFs : Hid (Tryd.prog.underlying 24 = some (.struct fs)) := hfs
  clear hfs
  obtain ⟨W1, hW1, sz1, g1, B1⟩ := boxn w #[.int .i64 S, .int .i64 I, .slice sp n c, .int .i64 R] 24
  obtain ⟨W2, hW2, sz2, g2, B2⟩ := boxn W1 #[.int .i64 0, .int .i64 0, .slice none 0 0, .int .i64 0] 24
  have G2 := gb_trans g1 g2
  have P2 := B1.kept g2 (by simp)
  have aa0 := P2.cell 0 (v := .int .i64 S) rfl
  have aa1 := P2.cell 1 (v := .int .i64 I) rfl
  have aa2 := P2.cell 2 (v := .slice sp n c) rfl
  have aa3 := P2.cell 3 (v := .int .i64 R) rfl
  have kc := hk W2 G2
  have HB : Hid (Bo W2 W1.heap.size 24 #[.int .i64 0, .int .i64 0, .slice none 0 0, .int .i64 0]) := B2
  have le : w.heap.size ≤ W1.heap.size := g1.size
  have HLE : Hid (w.heap.size ≤ W1.heap.size) := le
  clear le P2 hk
  go_enter Tryd.func23, Tryd.ntmps23
  go_wp2_with (first | (go_at_call 20; refine kc.mono ?_; rintro e V4 ⟨rfl, g3⟩; clear kc; have B4 := HB.out.kept g3 (by simp); have cc0 := B4.cell 0 (v := .int .i64 0) rfl; have cc1 := B4.cell 1 (v := .int .i64 0) rfl; have cc2 := B4.cell 2 (v := .slice none 0 0) rfl; have cc3 := B4.cell 3 (v := .int .i64 0) rfl; have ff0 := B4.frozen 0; have ff1 := B4.frozen 1; have ff2 := B4.frozen 2; have ff3 := B4.frozen 3))
  have GG : w.grownBy V4 none := gb_trans G2 g3
  have le := HLE.out
  exact ret_c2 (g := W1.heap.size) (t := 24) (cs := #[.int .i64 0, .int .i64 0, .slice none 0 0, .int .i64 0]) rfl HFs.out infoTree rfl ((((B4.set 0 _).set 1 _).set 2 _).set 3 _) rfl ⟨rfl, gb_new (gb_new (gb_new (gb_new GG le _) le _) le _) le _⟩

theorem cloT (q o n c S I R gx gr : Nat) (t : Nat → TN) (lv : Nat → Nat) (ht : Tok S I R n t lv) (x : List Nat) (hx : x.length = I) (hs : ∀ s ∈ x, s < S) (w : World) (BX : Bo w gx 24 #[.int .i64 (S : Nat), .int .i64 (I : Nat), .slice (some ⟨q, o, none⟩) n c, .int .i64 (R : Nat)]) (hT : Tn w q o n t) (hr : w.rowIs gr 5 I (fun i => .int .u8 (x.getD i 0 : Nat))) :
    Calls Tryd.prog 28 #[.slice (some ⟨gr, 0, none⟩) I I, .pointer (some ⟨gx, 0, none⟩)] w fun e w' => e = .returned (.int .u8 ((ev t R I x : Nat) : Int)) ∧ w.grownBy w' none := by
  have aa0 := BX.cell 0 (v := .int .i64 (S : Nat)) rfl
  have aa1 := BX.cell 1 (v := .int .i64 (I : Nat)) rfl
  have aa2 := BX.cell 2 (v := .slice (some ⟨q, o, none⟩) n c) rfl
  have aa3 := BX.cell 3 (v := .int .i64 (R : Nat)) rfl
  have hrow : By w (some ⟨gr, 0, none⟩) I (fun i => x.getD i 0) := fun k hk => ⟨_, rfl, by rw [add_mid, Nat.zero_add]; exact hr.cell hk⟩
  have hk := atC S I R q o n c t lv ht (some ⟨gr, 0, none⟩) I (fun i => x.getD i 0) (fun i hi => hs _ (by
    refine List.mem_of_getElem? (i := i) ?_
    rw [List.getD_eq_getElem?_getD, List.getElem?_eq_getElem (by omega)]; rfl)) w hT hrow
  unfold ev
  obtain ⟨r, hre⟩ : ∃ r, (t (goN t (fun i => x.getD i 0) R I)).st = r := ⟨_, rfl⟩
  rw [hre] at hk ⊢
  clear hre hr hrow hT
  go_enter Tryd.func28, Tryd.ntmps28
  go_wp2_with (first | (go_at_call 22; refine hk.mono ?_; rintro e w1 ⟨rfl, g1⟩))
  go_ret
  exact ⟨rfl, g1⟩
end Go.Proofs.YteaionmjbkildabDoor
namespace Go.Proofs.YteaionmjbkildabDoor
open Go.RowKit
set_option linter.unusedVariables false
set_option linter.unusedSimpArgs false
set_option maxRecDepth 100000

theorem ev_lt0 {S I R n : Nat} {t : Nat → TN} {lv : Nat → Nat} (ht : Tok S I R n t lv) {x : List Nat} (hf : ∀ i, i < I → x.getD i 0 < S) : ev t R I x < S := by
  obtain ⟨g1, g2⟩ := goN_ok ht hf I (Nat.le_refl _)
  rcases ht.hok _ g1 with ⟨_, h2, _⟩ | ⟨_, _, _, h4⟩
  · exact h2
  · omega
theorem ans_lt {S I R n : Nat} {t : Nat → TN} {lv : Nat → Nat} (ht : Tok S I R n t lv) (k : Nat) : ans S I (ev t R I) k < S := by
  unfold ans
  have h1 := ht.hs1
  by_cases h : k < (rws S I).length
  · have hm : (rws S I).getD k [] ∈ rws S I := by
      rw [List.getD_eq_getElem?_getD, List.getElem?_eq_getElem h]
      exact List.getElem_mem _
    obtain ⟨m1, m2⟩ := (rws_memI S I _).1 hm
    exact ev_lt ht m1 m2
  · have : (rws S I).getD k [] = [] := by simp [List.getD, h]
    rw [this]
    exact ev_lt0 ht (fun i _ => by simp; omega)
theorem same_at {S I R n Q m : Nat} {t u : Nat → TN} {lv lu : Nat → Nat} (ht : Tok S I R n t lv) (hu : Tok S I Q m u lu) (h : cnF t lv R = cnF u lu Q) {x : List Nat} (hx : x.length = I) (hs : ∀ s ∈ x, s < S) : ev t R I x = ev u Q I x := by
  have h1 := ht.hs1
  rw [canon_is ht, canon_is hu, frm_eq S h1 I _ _ (ans_lt ht) (ans_lt hu), same_rows S I (by omega)] at h
  obtain ⟨k, k1, k2⟩ := dgs_all (show 0 < S by omega) x hs
  rw [hx] at k1 k2
  rw [← k2]
  exact h k k1
theorem ofT (q o n c S I R gx : Nat) (t : Nat → TN) (lv : Nat → Nat) (ht : Tok S I R n t lv) (h4 : S ≤ 4) (h5 : I ≤ 5) (w : World) (BX : Bo w gx 24 #[.int .i64 (S : Nat), .int .i64 (I : Nat), .slice (some ⟨q, o, none⟩) n c, .int .i64 (R : Nat)]) (hT : Tn w q o n t) (L : List Nd) (hL : cnF t lv R = L) :
    Calls Tryd.prog 27 #[.int .i64 (S : Nat), .int .i64 (I : Nat), .func (.func 28) #[] #[.pointer (some ⟨gx, 0, none⟩)]] w fun e w' => ∃ gN kb, e = .returned (.tuple #[.agg #[.int .i64 (S : Nat), .int .i64 (I : Nat), .slice (some ⟨gN, 0, none⟩) L.length L.length, .int .i64 ((L.length - 1 : Nat) : Int)], .int .i64 0]) ∧ Nz w' w.heap.size gN kb L ∧ w.grownBy w' none := by
  have hq := pow_small h4 h5 ht.hs1
  have hfrm : frm S I (ans S I (ev t R I)) = L := by rw [← canon_is ht, hL]
  have lx := BX.lt
  have ho := C28.ofOk S I gx ht.hs1 ht.hs2 ht.hi (by omega) (ev t R I) (fun x => ht.hst _) (fun X => Below w.heap.size w X) w (gb_below (World.grownBy.refl _ _))
    (fun X Y hX hY => ⟨hY.os.trans hX.os, hY.tape.trans hX.tape, hY.output.trans hX.output, Nat.le_trans hX.size hY.size, fun i hi => (hY.block i hi).trans (hX.block i hi)⟩)
    (fun gr x X hE hx hs hr => cloT q o n c S I R gx gr t lv ht x hx hs X ((hE.block _ lx).trans BX) (hT.below hE) hr)
    (List.all_eq_true.2 fun x hx => decide_eq_true (by obtain ⟨m1, m2⟩ := (rws_memI S I x).1 hx; exact ev_lt ht m1 m2)) (by rw [hfrm, ← hL]; exact Nat.le_trans (form_few ht) ht.hn)
  rw [hfrm] at ho
  exact ho.mono (fun e w' ⟨gN, kb, h1, h2, _, h3, _⟩ => ⟨gN, kb, h1, h2, h3⟩)
set_option maxHeartbeats 1000000 in
theorem alikeNil (w : World) : Calls Tryd.prog 25 #[.agg #[.int .i64 0, .int .i64 0, .slice none 0 0, .int .i64 0], .agg #[.int .i64 0, .int .i64 0, .slice none 0 0, .int .i64 0]] w fun e w' => e = .returned (.bool true) ∧ w.grownBy w' none := by
  obtain ⟨W1, hW1, sz1, g1, B1⟩ := boxn w #[.int .i64 0, .int .i64 0, .slice none 0 0, .int .i64 0] 24
  obtain ⟨W2, hW2, sz2, g2, B2⟩ := boxn W1 #[.int .i64 0, .int .i64 0, .slice none 0 0, .int .i64 0] 24
  have G2 := gb_trans g1 g2
  have P2 := B1.kept g2 (by simp)
  have aa0 := P2.cell 0 (v := .int .i64 0) rfl
  have aa1 := P2.cell 1 (v := .int .i64 0) rfl
  have aa2 := P2.cell 2 (v := .slice none 0 0) rfl
  have aa3 := P2.cell 3 (v := .int .i64 0) rfl
  have bb0 := B2.cell 0 (v := .int .i64 0) rfl
  have bb1 := B2.cell 1 (v := .int .i64 0) rfl
  have bb2 := B2.cell 2 (v := .slice none 0 0) rfl
  have bb3 := B2.cell 3 (v := .int .i64 0) rfl
  have HG : Hid (w.grownBy W2 none) := G2
  have HP : Hid (Bo W2 w.heap.size 24 #[.int .i64 0, .int .i64 0, .slice none 0 0, .int .i64 0]) := P2
  clear G2 P2 B1 B2 g1 g2 sz1 sz2
  go_enter Tryd.func25, Tryd.ntmps25
  go_wp2
  clear aa0 aa1 aa2 aa3 bb0 bb1 bb2 bb3
  go_loopw [5] (fun i wr => i = .int .i64 0 ∧ Hid (W2.grownBy wr none)) (fun i _ => 0)
  case atStart => exact ⟨rfl, World.grownBy.refl _ _⟩
  case round =>
    obtain ⟨rfl, gj⟩ := hrel
    have Pj := HP.out.kept gj.out (by simp)
    have p2 := Pj.cell 2 (v := .slice none 0 0) rfl
    go_wp2
    go_ret
    exact ⟨rfl, gb_trans HG.out gj.out⟩
end Go.Proofs.YteaionmjbkildabDoor
