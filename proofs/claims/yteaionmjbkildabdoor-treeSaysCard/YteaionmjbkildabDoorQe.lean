/- canon: the tree of the same function in its one form. -/
import Derived.Test.YteaionmjbkildabDoorQc
import Derived.Test.YteaionmjbkildabDoorQ19
namespace Go.Proofs.YteaionmjbkildabDoor
open Go.RowKit
set_option linter.unusedVariables false
set_option linter.unusedSimpArgs false
set_option maxRecDepth 100000

/-- 'visit' of every node of a tree that may be. -/
theorem visitAll (b gN gn gt gv gf q o NN c S I R : Nat) (t : Nat → TN) (lv : Nat → Nat) (ht : Tok S I R NN t lv) (w0 : World) (hT : Tn w0 q o NN t) (n : Nat) : n < NN → ∀ (L : List Nd) (K : Nat → Int) (w : World), Vc w0 w b gN gn gt gv gf q o NN c S I R t → Fm w b L → Ri w gN NN K → Mo (tnd t) lv NN K L → Calls Tryd.prog 64 #[.int .i64 (n : Nat), .pointer (some ⟨gn, 0, none⟩), .pointer (some ⟨gt, 0, none⟩), .pointer (some ⟨gv, 0, none⟩), .pointer (some ⟨gf, 0, none⟩)] w (Vis (tnd t) lv NN b gN n L K w (unf (tnd t) (lv n) n L)) := by
  induction n using Nat.strongRecOn with
  | _ n ih =>
    intro hn L K w C F Rn M
    have hk : (t n).kn ≤ 256 ∧ (∀ i, i < (t n).kn → 0 ≤ (t n).kf i ∧ (t n).kf i < (n : Int)) := by
      rcases ht.hok n hn with ⟨h1, _, _⟩ | ⟨_, h2, h3, _⟩
      · rw [h1]; exact ⟨by decide, fun i hi => absurd hi (Nat.not_lt_zero _)⟩
      · rw [h2]; exact ⟨ht.hs2, fun i hi => ⟨(h3 i hi).1, (h3 i hi).2.1⟩⟩
    refine visitC b gN gn gt gv gf q o NN c S I R t lv n (t n).kn rfl ht.hn hn hk.1 (ht.hst n) hk.2 (unf (tnd t) (lv n - 1)) (unf_pre _ _) (unf_lt _ _) (fun L => ?_) w0 hT (fun i hi L K w C F Rn M => ?_) L K w C F Rn M
    · rcases ht.hok n hn with ⟨h1, _, h3⟩ | ⟨_, _, _, h4⟩
      · have e : (tnd t n).2 = [] := by
          have := tnd_len t n
          rw [h1] at this
          exact List.eq_nil_of_length_eq_zero this
        rw [h3, e]
        rfl
      · rw [h4]
        rfl
    · obtain ⟨k0, k1⟩ := hk.2 i hi
      obtain ⟨m, hm⟩ : ∃ m : Nat, (t n).kf i = m := ⟨((t n).kf i).toNat, by omega⟩
      have hlvm : lv m = lv n - 1 := by
        rcases ht.hok n hn with ⟨h1, _, h3⟩ | ⟨_, h2, h3, h4⟩
        · omega
        · have e := (h3 i (by omega)).2.2
          rw [hm, Int.toNat_natCast] at e
          omega
      have := ih m (by omega) (by omega) L K w C F Rn M
      rw [hm, Int.toNat_natCast, ← hlvm]
      exact this
theorem gt_new {a b c : World} {p q : Nat} (h : a.grownBy b none) (k : Gt p q b c) (hp : a.heap.size ≤ p) (hq : a.heap.size ≤ q) : a.grownBy c none :=
  ⟨k.os.trans h.os, k.tape.trans h.tape, k.output.trans h.output, Nat.le_trans h.size k.size, fun i hi h1 => (k.block i (Nat.lt_of_lt_of_le hi h.size) (by omega) (by omega)).trans (h.block i hi h1)⟩
theorem mo_start (T : Nat → Nd) (lv : Nat → Nat) (N : Nat) {K : Nat → Int} (h : ∀ k, k < N → K k = -1) : Mo T lv N K [] := ⟨fun j hj hk => absurd (h j hj) hk, Nat.zero_le _, Gf.nil⟩
set_option maxHeartbeats 2000000 in
/-- canon of a tree that may be: its one form. -/
theorem canonC (q o NN c S I R : Nat) (t : Nat → TN) (lv : Nat → Nat) (ht : Tok S I R NN t lv) (w : World) (hT : Tn w q o NN t) : Calls Tryd.prog 49 #[.agg #[.int .i64 (S : Nat), .int .i64 (I : Nat), .slice (some ⟨q, o, none⟩) NN c, .int .i64 (R : Nat)]] w fun e w' => ∃ gM kb, e = .returned (.agg #[.int .i64 (S : Nat), .int .i64 (I : Nat), .slice (some ⟨gM, 0, none⟩) (unf (tnd t) (lv R) R []).2.length (unf (tnd t) (lv R) R []).2.length, .int .i64 (((unf (tnd t) (lv R) R []).2.length - 1 : Nat) : Int)]) ∧ Nz w' w.heap.size gM kb (unf (tnd t) (lv R) R []).2 ∧ Ap gM kb (unf (tnd t) (lv R) R []).2 ∧ w.grownBy w' none ∧ w.heap.size ≤ gM := by
  have hmm := @run_makeMap Tryd.prog
  have hN := ht.hn
  have hR := ht.hr
  obtain ⟨W1, hW1, sz1, g1, B1⟩ := boxn w #[.int .i64 (S : Nat), .int .i64 (I : Nat), .slice (some ⟨q, o, none⟩) NN c, .int .i64 (R : Nat)] 24
  obtain ⟨Wz, hWz, szz, gz, Bz⟩ := boxn W1 #[.int .i64 0, .int .i64 0, .slice none 0 0, .int .i64 0] 24
  obtain ⟨W2, hW2⟩ : ∃ W2, Wz.alloc (.map #[] 0) = W2 := ⟨_, rfl⟩
  have g2 : Wz.grownBy W2 none := (by rw [← hW2]; exact World.grownBy_alloc _ _ _)
  have F2 : Fm W2 Wz.heap.size [] := (by rw [← hW2]; exact Fm.made Wz)
  obtain ⟨W3, hW3, sz3, g3, B3⟩ := boxn W2 #[.map (some Wz.heap.size)] 100
  have hmk := run_make_row' (P := Tryd.prog) 63 3 (.int .i64 0) 8 underIS infoI rfl .i64 .i64 NN (by omega) (by omega)
  obtain ⟨W4, hW4⟩ : ∃ W4, W3.alloc (.cells (madeCells #[.int .i64 0] NN) 3) = W4 := ⟨_, rfl⟩
  have g4 : W3.grownBy W4 none := (by rw [← hW4]; exact World.grownBy_alloc _ _ _)
  have R4 : Ri W4 W3.heap.size NN (fun _ => 0) := (by rw [← hW4]; exact World.rowIs_made W3 (.int .i64 0) NN 3)
  obtain ⟨W5, hW5, sz5, g5, B5⟩ := boxn W4 #[.slice (some ⟨W3.heap.size, 0, none⟩) NN NN] 63
  have T3 := ((B1.kept gz (by simp)).kept g2 (by simp)).kept g3 (by simp)
  have t2 := T3.cell 2 (v := .slice (some ⟨q, o, none⟩) NN c) rfl
  have hs2 : Wz.heap.size < W2.heap.size := F2.lt
  have hs4 : W3.heap.size < W4.heap.size := World.rowIs.lt R4
  have hs1 : w.heap.size < W1.heap.size := by have := sz1.out; omega
  have hsz : W1.heap.size < Wz.heap.size := by have := szz.out; omega
  have hs3 : W2.heap.size < W3.heap.size := by have := sz3.out; omega
  have hs5 : W4.heap.size < W5.heap.size := by have := sz5.out; omega
  have n5 := B5.cell 0 (v := .slice (some ⟨W3.heap.size, 0, none⟩) NN NN) rfl
  go_enter Tryd.func49, Tryd.ntmps49
  go_wp2
  have HT1 : Hid (Bo W5 w.heap.size 24 #[.int .i64 (S : Nat), .int .i64 (I : Nat), .slice (some ⟨q, o, none⟩) NN c, .int .i64 (R : Nat)]) := ((B1.kept gz (by simp)).kept (gb_trans g2 (gb_trans g3 g4)) (by simp)).kept g5 (by simp)
  have HBz : Hid (Bo W5 W1.heap.size 24 #[.int .i64 0, .int .i64 0, .slice none 0 0, .int .i64 0]) := Bz.kept (gb_trans g2 (gb_trans g3 (gb_trans g4 g5))) (by simp)
  have HF5 : Hid (Fm W5 Wz.heap.size []) := F2.kept (gb_trans g3 (gb_trans g4 g5)) (by simp)
  have HB3 : Hid (Bo W5 W2.heap.size 100 #[.map (some Wz.heap.size)]) := B3.kept (gb_trans g4 g5) (by simp)
  have HB5 : Hid (Bo W5 W4.heap.size 63 #[.slice (some ⟨W3.heap.size, 0, none⟩) NN NN]) := B5
  have HG5 : Hid (w.grownBy W5 none) := gb_trans g1 (gb_trans gz (gb_trans g2 (gb_trans g3 (gb_trans g4 g5))))
  have R5 : Ri W5 W3.heap.size NN (fun _ => 0) := rowIs_kept R4 g5 (by simp)
  have HS : Hid (w.heap.size < W1.heap.size ∧ W1.heap.size < Wz.heap.size ∧ Wz.heap.size < W2.heap.size ∧ W2.heap.size < W3.heap.size ∧ W3.heap.size < W4.heap.size ∧ W4.heap.size < W5.heap.size) := ⟨hs1, hsz, hs2, hs3, hs4, hs5⟩
  have HTok : Hid (Tok S I R NN t lv) := ht
  have HTn : Hid (Tn w q o NN t) := hT
  clear B1 Bz B3 B5 F2 R4 T3 t2 g1 gz g2 g3 g4 g5 n5 hs1 hsz hs2 hs3 hs4 hs5 ht hT hmm hmk sz1 szz sz3 sz5
  go_loopw [14] (fun i wr => ∃ j : Nat, j ≤ NN ∧ i = .int .i64 (j : Nat) ∧ Hid (W5.grownBy wr (some W3.heap.size)) ∧ ∃ K : Nat → Int, Ri wr W3.heap.size NN K ∧ Hid (∀ k, k < j → K k = -1)) (fun i _ => NN - (intOf i).toNat)
  case atStart => exact ⟨0, Nat.zero_le _, rfl, World.grownBy.refl _ _, _, R5, fun k hk => absurd hk (Nat.not_lt_zero _)⟩
  case round =>
    clear R5
    obtain ⟨j, hj, rfl, Gj, K, Rj, Kj⟩ := hrel
    have Bn := HB5.out.kept Gj.out (by have := HS.out; simp; omega)
    have n0 := Bn.cell 0 (v := .slice (some ⟨W3.heap.size, 0, none⟩) NN NN) rfl
    by_cases hlt : j < NN
    · have hlt' : (j : Int) < (NN : Int) := by omega
      have r0 := World.rowIs.cell Rj (i := j) hlt
      have r1 := World.rowIs.frozen Rj j
      go_wp2
      have gw : wr.grownBy (wr.setCell ⟨W3.heap.size, j, none⟩ (.int .i64 (-1))) (some W3.heap.size) := gb_set (World.grownBy.refl wr (some W3.heap.size)) j _
      go_roundw
      case rel =>
        refine ⟨j + 1, hlt, by go_num, gb_trans Gj.out gw, fun k => if k = j then -1 else K k, (World.rowIs.set Rj j (.int .i64 (-1))).congr (g := fun k => .int .i64 (if k = j then -1 else K k)) (fun k hk => by by_cases e : k = j <;> simp [e]), ?_⟩
        intro k hk
        by_cases e : k = j
        · simp [e]
        · simp only [if_neg e]
          exact Kj.out k (by omega)
      case measure => simp [intOf]; omega
    · obtain rfl : j = NN := by omega
      have hlt' : ¬ (j : Int) < (j : Int) := by omega
      obtain ⟨X, hX⟩ : ∃ X, X = wr := ⟨_, rfl⟩
      subst hX
      obtain ⟨Y, hY, szY, gY, BY⟩ := boxn X #[.func (.func 64) #[] #[.pointer (some ⟨W4.heap.size, 0, none⟩), .pointer (some ⟨w.heap.size, 0, none⟩), .pointer (some ⟨X.heap.size, 0, none⟩), .pointer (some ⟨W2.heap.size, 0, none⟩)]] 113
      have hX5 := Gj.out.size
      have hX5 := Gj.out.size
      have hS := HS.out
      have GY : w.grownBy Y none := gb_trans (gb_past HG5.out Gj.out (by omega)) gY
      have C0 : Vc w Y Wz.heap.size W3.heap.size W4.heap.size w.heap.size X.heap.size W2.heap.size q o j c S I R t := ⟨Bn.kept gY (by simp), (HT1.out.kept Gj.out (by simp; omega)).kept gY (by simp), BY, (HB3.out.kept Gj.out (by simp; omega)).kept gY (by simp), fun p v hp => GY.cell hp (by simp), ⟨by omega, by omega⟩, ⟨by omega, by omega⟩, ⟨by omega, by omega⟩, ⟨by omega, by omega⟩, by omega, by omega, by omega⟩
      have F0 : Fm Y Wz.heap.size [] := (HF5.out.kept Gj.out (by simp; omega)).kept gY (by simp)
      have R0 : Ri Y W3.heap.size j K := rowIs_kept Rj gY (by simp)
      have kV := visitAll Wz.heap.size W3.heap.size W4.heap.size w.heap.size X.heap.size W2.heap.size q o j c S I R t lv HTok.out w HTn.out R hR [] K Y C0 F0 R0 (mo_start _ _ _ Kj.out)
      have HC0 : Hid (Vc w Y Wz.heap.size W3.heap.size W4.heap.size w.heap.size X.heap.size W2.heap.size q o j c S I R t) := C0
      have v0 := BY.cell 0 (v := .func (.func 64) #[] #[.pointer (some ⟨W4.heap.size, 0, none⟩), .pointer (some ⟨w.heap.size, 0, none⟩), .pointer (some ⟨X.heap.size, 0, none⟩), .pointer (some ⟨W2.heap.size, 0, none⟩)]) rfl
      have u3 := C0.t.cell 3 (v := .int .i64 (R : Nat)) rfl
      have HBY : Hid (Bo Y W1.heap.size 24 #[.int .i64 0, .int .i64 0, .slice none 0 0, .int .i64 0]) := (HBz.out.kept Gj.out (by simp; omega)).kept gY (by simp)
      have HGY : Hid (w.grownBy Y none) := GY
      clear C0 F0 R0 GY hX5
      have hjN : j ≤ 65536 := hN
      go_wp2_with (first | (go_at_call 64; refine kV.mono ?_; rintro e V ⟨rfl, K2, F2, R2, M2, hK2, G2⟩; clear kV; have C2 := HC0.out.gt G2; have u0 := C2.t.cell 0 (v := .int .i64 (S : Nat)) rfl; have u1 := C2.t.cell 1 (v := .int .i64 (I : Nat)) rfl; have uf := C2.f.cell 0 (v := .map (some Wz.heap.size)) rfl; have hf := M2.few; have hcn := cnK_le K2 j; have hpos := unf_lt (tnd t) (lv R) R []; have kT := treeC Wz.heap.size S I (unf (tnd t) (lv R) R []).2 M2.good (by omega) (by omega) V F2; have GV : w.grownBy V none := gt_new HGY.out G2 (by omega) (by omega)) | (go_at_call 55; refine kT.mono ?_; rintro e V5 ⟨gM, kb, rfl, hNz, hAp, g5, hgM⟩; clear kT; have Br := (G2.bo HBY.out (by omega) (by omega)).kept g5 (by simp); have r0 := Br.cell 0 (v := .int .i64 0) rfl; have r1 := Br.cell 1 (v := .int .i64 0) rfl; have r2 := Br.cell 2 (v := .slice none 0 0) rfl; have r3 := Br.cell 3 (v := .int .i64 0) rfl; have z0 := Br.frozen 0; have z1 := Br.frozen 1; have z2 := Br.frozen 2; have z3 := Br.frozen 3))
      obtain ⟨fs, hfs⟩ := underTree
      have s5 := GV.size
      have s6 := HBY.out.lt
      have s7 := G2.size
      obtain ⟨LL, hLL⟩ : ∃ LL, (unf (tnd t) (lv R) R []).2 = LL := ⟨_, rfl⟩
      rw [hLL] at hNz hAp
      simp only [hLL]
      refine ret_c1 (g := W1.heap.size) (t := 24) (cs := #[.int .i64 (S : Nat), .int .i64 (I : Nat), .slice (some ⟨gM, 0, none⟩) LL.length LL.length, .int .i64 ((LL.length - 1 : Nat) : Int)]) rfl hfs infoTree rfl ((((Br.set 0 _).set 1 _).set 2 _).set 3 _) rfl ?_
      have gs : ∀ {W : World}, w.grownBy W none → ∀ i v, w.grownBy (W.setCell ⟨W1.heap.size, i, none⟩ v) none := fun h i v => gb_new h (by show w.heap.size ≤ W1.heap.size; omega) v
      have go4 : ∀ {W : World} i v, W.grownBy (W.setCell ⟨W1.heap.size, i, none⟩ v) (some W1.heap.size) := fun i v => gb_set (World.grownBy.refl _ _) i v
      have hne : gM ≠ W1.heap.size := by omega
      have hlo : W1.heap.size < V.heap.size := by omega
      refine ⟨gM, kb, rfl, ((((hNz.keep (go4 _ _) hne hlo).keep (go4 _ _) hne hlo).keep (go4 _ _) hne hlo).keep (go4 _ _) hne hlo).low s5, hAp, gs (gs (gs (gs (gb_trans GV g5) _ _) _ _) _ _) _ _, by omega⟩
end Go.Proofs.YteaionmjbkildabDoor
