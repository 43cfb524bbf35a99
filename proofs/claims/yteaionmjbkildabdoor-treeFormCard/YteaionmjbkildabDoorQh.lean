/- Of of a tree's own function. -/
import Derived.Test.YteaionmjbkildabDoorQj
import Derived.Test.YteaionmjbkildabDoorQp
import Derived.Test.YteaionmjbkildabDoorTc
namespace Go.Proofs.YteaionmjbkildabDoor
open Go.RowKit
set_option linter.unusedVariables false
set_option linter.unusedSimpArgs false
set_option maxRecDepth 100000

theorem ev_lt0 {S I R n : Nat} {t : Nat → TN} {lv : Nat → Nat} (ht : Tok S I R n t lv) {x : List Nat} (hf : ∀ i, i < I → x.getD i 0 < S) : ev t R I x < S := by
  obtain ⟨g1, g2⟩ := goN_ok ht hf I (Nat.le_refl _)
  rcases ht.hok _ g1 with ⟨_, h2, _⟩ | ⟨_, _, _, h4⟩
  · exact h2
  · omega
theorem ans_lt {S I R n : Nat} {t : Nat → TN} {lv : Nat → Nat} (ht : Tok S I R n t lv) (k : Nat) : ans S I (ev t R I) k < S := by
  unfold ans
  have h1 := ht.hs1
  by_cases h : k < (rws S I).length
  · have hm : (rws S I).getD k [] ∈ rws S I := by
      rw [List.getD_eq_getElem?_getD, List.getElem?_eq_getElem h]
      exact List.getElem_mem _
    obtain ⟨m1, m2⟩ := (rws_memI S I _).1 hm
    exact ev_lt ht m1 m2
  · have : (rws S I).getD k [] = [] := by simp [List.getD, h]
    rw [this]
    exact ev_lt0 ht (fun i _ => by simp; omega)
theorem same_at {S I R n Q m : Nat} {t u : Nat → TN} {lv lu : Nat → Nat} (ht : Tok S I R n t lv) (hu : Tok S I Q m u lu) (h : cnF t lv R = cnF u lu Q) {x : List Nat} (hx : x.length = I) (hs : ∀ s ∈ x, s < S) : ev t R I x = ev u Q I x := by
  have h1 := ht.hs1
  rw [canon_is ht, canon_is hu, frm_eq S h1 I _ _ (ans_lt ht) (ans_lt hu), same_rows S I (by omega)] at h
  obtain ⟨k, k1, k2⟩ := dgs_all (show 0 < S by omega) x hs
  rw [hx] at k1 k2
  rw [← k2]
  exact h k k1
theorem ofT (q o n c S I R gx : Nat) (t : Nat → TN) (lv : Nat → Nat) (ht : Tok S I R n t lv) (h4 : S ≤ 4) (h5 : I ≤ 5) (w : World) (BX : Bo w gx 24 #[.int .i64 (S : Nat), .int .i64 (I : Nat), .slice (some ⟨q, o, none⟩) n c, .int .i64 (R : Nat)]) (hT : Tn w q o n t) (L : List Nd) (hL : cnF t lv R = L) :
    Calls Tryd.prog 27 #[.int .i64 (S : Nat), .int .i64 (I : Nat), .func (.func 28) #[] #[.pointer (some ⟨gx, 0, none⟩)]] w fun e w' => ∃ gN kb, e = .returned (.tuple #[.agg #[.int .i64 (S : Nat), .int .i64 (I : Nat), .slice (some ⟨gN, 0, none⟩) L.length L.length, .int .i64 ((L.length - 1 : Nat) : Int)], .int .i64 0]) ∧ Nz w' w.heap.size gN kb L ∧ w.grownBy w' none := by
  have hq := pow_small h4 h5 ht.hs1
  have hfrm : frm S I (ans S I (ev t R I)) = L := by rw [← canon_is ht, hL]
  have lx := BX.lt
  have ho := C28.ofOk S I gx ht.hs1 ht.hs2 ht.hi (by omega) (ev t R I) (fun x => ht.hst _) (fun X => Below w.heap.size w X) w (gb_below (World.grownBy.refl _ _))
    (fun X Y hX hY => ⟨hY.os.trans hX.os, hY.tape.trans hX.tape, hY.output.trans hX.output, Nat.le_trans hX.size hY.size, fun i hi => (hY.block i hi).trans (hX.block i hi)⟩)
    (fun gr x X hE hx hs hr => cloT q o n c S I R gx gr t lv ht x hx hs X ((hE.block _ lx).trans BX) (hT.below hE) hr)
    (List.all_eq_true.2 fun x hx => decide_eq_true (by obtain ⟨m1, m2⟩ := (rws_memI S I x).1 hx; exact ev_lt ht m1 m2)) (by rw [hfrm, ← hL]; exact Nat.le_trans (form_few ht) ht.hn)
  rw [hfrm] at ho
  exact ho.mono (fun e w' ⟨gN, kb, h1, h2, _, h3, _⟩ => ⟨gN, kb, h1, h2, h3⟩)
set_option maxHeartbeats 1000000 in
theorem alikeNil (w : World) : Calls Tryd.prog 25 #[.agg #[.int .i64 0, .int .i64 0, .slice none 0 0, .int .i64 0], .agg #[.int .i64 0, .int .i64 0, .slice none 0 0, .int .i64 0]] w fun e w' => e = .returned (.bool true) ∧ w.grownBy w' none := by
  obtain ⟨W1, hW1, sz1, g1, B1⟩ := boxn w #[.int .i64 0, .int .i64 0, .slice none 0 0, .int .i64 0] 24
  obtain ⟨W2, hW2, sz2, g2, B2⟩ := boxn W1 #[.int .i64 0, .int .i64 0, .slice none 0 0, .int .i64 0] 24
  have G2 := gb_trans g1 g2
  have P2 := B1.kept g2 (by simp)
  have aa0 := P2.cell 0 (v := .int .i64 0) rfl
  have aa1 := P2.cell 1 (v := .int .i64 0) rfl
  have aa2 := P2.cell 2 (v := .slice none 0 0) rfl
  have aa3 := P2.cell 3 (v := .int .i64 0) rfl
  have bb0 := B2.cell 0 (v := .int .i64 0) rfl
  have bb1 := B2.cell 1 (v := .int .i64 0) rfl
  have bb2 := B2.cell 2 (v := .slice none 0 0) rfl
  have bb3 := B2.cell 3 (v := .int .i64 0) rfl
  have HG : Hid (w.grownBy W2 none) := G2
  have HP : Hid (Bo W2 w.heap.size 24 #[.int .i64 0, .int .i64 0, .slice none 0 0, .int .i64 0]) := P2
  clear G2 P2 B1 B2 g1 g2 sz1 sz2
  go_enter Tryd.func25, Tryd.ntmps25
  go_wp2
  clear aa0 aa1 aa2 aa3 bb0 bb1 bb2 bb3
  go_loopw [5] (fun i wr => i = .int .i64 0 ∧ Hid (W2.grownBy wr none)) (fun i _ => 0)
  case atStart => exact ⟨rfl, World.grownBy.refl _ _⟩
  case round =>
    obtain ⟨rfl, gj⟩ := hrel
    have Pj := HP.out.kept gj.out (by simp)
    have p2 := Pj.cell 2 (v := .slice none 0 0) rfl
    go_wp2
    go_ret
    exact ⟨rfl, gb_trans HG.out gj.out⟩
end Go.Proofs.YteaionmjbkildabDoor
