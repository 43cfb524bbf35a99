/- The function 'visit' of canon. -/
import Derived.Test.YteaionmjbkildabDoorQv
import Derived.Test.YteaionmjbkildabDoorQ14
import Derived.Test.YteaionmjbkildabDoorQ21
import Derived.Deep.RegionHeld2
namespace Go.Proofs.YteaionmjbkildabDoor
open Go.RowKit
set_option linter.unusedVariables false
set_option linter.unusedSimpArgs false
set_option maxRecDepth 100000

/-- A tree's nodes in plain words. -/
def tnd (t : Nat → TN) (j : Nat) : Nd := ((t j).st, (List.range (t j).kn).map fun i => ((t j).kf i).toNat)
theorem tnd_len (t : Nat → TN) (j : Nat) : (tnd t j).2.length = (t j).kn := by simp [tnd]
theorem tnd_get (t : Nat → TN) {j i : Nat} (h : i < (t j).kn) : (tnd t j).2[i]? = some ((t j).kf i).toNat := by simp [tnd, h]
/-- What the function 'visit' has captured, but for the map and the row of numbers. -/
structure Vc (w0 w : World) (b gN gn gt gv gf q o NN c S I R : Nat) (t : Nat → TN) : Prop where
  n : Bo w gn 63 #[.slice (some ⟨gN, 0, none⟩) NN NN]
  t : Bo w gt 24 #[.int .i64 (S : Nat), .int .i64 (I : Nat), .slice (some ⟨q, o, none⟩) NN c, .int .i64 (R : Nat)]
  v : Bo w gv 113 #[.func (.func 64) #[] #[.pointer (some ⟨gn, 0, none⟩), .pointer (some ⟨gt, 0, none⟩), .pointer (some ⟨gv, 0, none⟩), .pointer (some ⟨gf, 0, none⟩)]]
  f : Bo w gf 100 #[.map (some b)]
  old : ∀ p v, w0.cell? p = some v → w.cell? p = some v
  ne : (gn ≠ b ∧ gn ≠ gN) ∧ (gt ≠ b ∧ gt ≠ gN) ∧ (gv ≠ b ∧ gv ≠ gN) ∧ (gf ≠ b ∧ gf ≠ gN) ∧ b ≠ gN ∧ w0.heap.size ≤ b ∧ w0.heap.size ≤ gN
theorem Vc.gt {w0 w w' : World} {b gN gn gt gv gf q o NN c S I R : Nat} {t : Nat → TN} (h : Vc w0 w b gN gn gt gv gf q o NN c S I R t) (g : Gt b gN w w') : Vc w0 w' b gN gn gt gv gf q o NN c S I R t :=
  ⟨g.bo h.n h.ne.1.1 h.ne.1.2, g.bo h.t h.ne.2.1.1 h.ne.2.1.2, g.bo h.v h.ne.2.2.1.1 h.ne.2.2.1.2, g.bo h.f h.ne.2.2.2.1.1 h.ne.2.2.2.1.2, fun p v hp => g.cell (h.old p v hp) (by have := cell_lt hp; have := h.ne.2.2.2.2.2.1; omega) (by have := cell_lt hp; have := h.ne.2.2.2.2.2.2; omega), h.ne⟩
theorem Gt.ri0 {b gN NN : Nat} {w W1 W2 : World} {K : Nat → Int} (_ : Gt b gN w W2) (h : Ri w gN NN K) (g1 : w.grownBy W1 none) (g2 : W1.grownBy W2 none) : Ri W2 gN NN K := World.rowIs.of_block (World.rowIs.of_block h (g1.block gN (World.rowIs.lt h) (by simp))) (g2.block gN (Nat.lt_of_lt_of_le (World.rowIs.lt h) g1.size) (by simp))
/-- What 'visit' must leave: the number, and what is known. -/
def Vis (T : Nat → Nd) (lv : Nat → Nat) (NN b gN n : Nat) (L : List Nd) (K : Nat → Int) (w : World) (x : Nat × List Nd) (e : Ending) (w' : World) : Prop := e = .returned (.int .i64 (x.1 : Nat)) ∧ ∃ K', Fm w' b x.2 ∧ Ri w' gN NN K' ∧ Mo T lv NN K' x.2 ∧ (∀ m, n < m → K' m = K m) ∧ Gt b gN w w'
set_option maxHeartbeats 2000000 in
theorem visitC (b gN gn gt gv gf q o NN c S I R : Nat) (t : Nat → TN) (lv : Nat → Nat) (n kn : Nat) (hkn : (t n).kn = kn) (hNN : NN ≤ 65536) (hn : n < NN) (hk256 : kn ≤ 256) (hst : (t n).st < 256) (hkf : ∀ i, i < kn → 0 ≤ (t n).kf i ∧ (t n).kf i < (n : Int)) (fU : Nat → List Nd → Nat × List Nd) (hp : ∀ k L, L <+: (fU k L).2) (hl : ∀ k L, (fU k L).1 < (fU k L).2.length)
    (hU : ∀ L, unf (tnd t) (lv n) n L = (nix (kidsU fU (tnd t n).2 L).2 ((tnd t n).1, (kidsU fU (tnd t n).2 L).1), nfm (kidsU fU (tnd t n).2 L).2 ((tnd t n).1, (kidsU fU (tnd t n).2 L).1)))
    (w0 : World) (hT : Tn w0 q o NN t)
    (ih : ∀ i, i < kn → ∀ (L : List Nd) (K : Nat → Int) (w : World), Vc w0 w b gN gn gt gv gf q o NN c S I R t → Fm w b L → Ri w gN NN K → Mo (tnd t) lv NN K L → Calls Tryd.prog 64 #[.int .i64 ((t n).kf i), .pointer (some ⟨gn, 0, none⟩), .pointer (some ⟨gt, 0, none⟩), .pointer (some ⟨gv, 0, none⟩), .pointer (some ⟨gf, 0, none⟩)] w (Vis (tnd t) lv NN b gN ((t n).kf i).toNat L K w (fU ((t n).kf i).toNat L)))
    (L : List Nd) (K : Nat → Int) (w : World) (C : Vc w0 w b gN gn gt gv gf q o NN c S I R t) (F : Fm w b L) (Rn : Ri w gN NN K) (M : Mo (tnd t) lv NN K L) :
    Calls Tryd.prog 64 #[.int .i64 (n : Nat), .pointer (some ⟨gn, 0, none⟩), .pointer (some ⟨gt, 0, none⟩), .pointer (some ⟨gv, 0, none⟩), .pointer (some ⟨gf, 0, none⟩)] w (Vis (tnd t) lv NN b gN n L K w (unf (tnd t) (lv n) n L)) := by
  have a0 := C.n.cell 0 (v := .slice (some ⟨gN, 0, none⟩) NN NN) rfl
  have a1 := World.rowIs.cell Rn (i := n) hn
  have hi2 : (n : Int) < (NN : Int) := by omega
  have hi3 : (0 : Int) ≤ (n : Int) := by omega
  by_cases hkn1 : K n = -1
  · rw [hkn1] at a1
    obtain ⟨t0, t1, t2⟩ := hT n hn
    have u0 := C.old _ _ t0
    have u1 := C.old _ _ t1
    have b2 := C.t.cell 2 (v := .slice (some ⟨q, o, none⟩) NN c) rfl
    obtain ⟨st, hstt⟩ : ∃ st, (t n).st = st := ⟨_, rfl⟩
    rw [hkn] at t1 t2 u1
    rw [hstt] at u0 hst
    obtain ⟨kp, hkp⟩ : ∃ kp, (t n).kp = kp := ⟨_, rfl⟩
    rw [hkp] at t1 t2 u1
    obtain ⟨kc, hkc⟩ : ∃ kc, (t n).kc = kc := ⟨_, rfl⟩
    rw [hkc] at t1 u1
    obtain ⟨kf, hkff⟩ : ∃ kf, (t n).kf = kf := ⟨_, rfl⟩
    rw [hkff] at t2 hkf ih
    have hgt : ∀ i, i < kn → (tnd t n).2[i]? = some (kf i).toNat := fun i hi => by rw [← hkff]; exact tnd_get t (by omega)
    have hlen : (tnd t n).2.length = kn := (tnd_len t n).trans hkn
    have hT1 : (tnd t n).1 = st := hstt
    have hu := hU L
    obtain ⟨ks, hks⟩ : ∃ ks, (tnd t n).2 = ks := ⟨_, rfl⟩
    rw [hT1, hks] at hu
    rw [hks] at hgt hlen
    have HU : Hid (unf (tnd t) (lv n) n L = (nix (kidsU fU ks L).2 (st, (kidsU fU ks L).1), nfm (kidsU fU ks L).2 (st, (kidsU fU ks L).1))) := hu
    have HC : Hid (Vc w0 w b gN gn gt gv gf q o NN c S I R t) := C
    have hbw := F.lt
    have hgw := World.rowIs.lt Rn
    obtain ⟨W1, hW1, sz1, g1, B1⟩ := boxn w #[.int .u8 (st : Nat), .slice kp kn kc] 69
    have hmk := run_make_row' (P := Tryd.prog) 63 3 (.int .i64 0) 8 underIS infoI rfl .i64 .i64 kn (by omega) (by omega)
    obtain ⟨W2, hW2⟩ : ∃ W2, W1.alloc (.cells (madeCells #[.int .i64 0] kn) 3) = W2 := ⟨_, rfl⟩
    have g2 : W1.grownBy W2 none := (by rw [← hW2]; exact World.grownBy_alloc _ _ _)
    have R2 : Ri W2 W1.heap.size kn (fun _ => 0) := (by rw [← hW2]; exact World.rowIs_made W1 (.int .i64 0) kn 3)
    have e0 := B1.cell 0 (v := .int .u8 (st : Nat)) rfl
    have e1 := B1.cell 1 (v := .slice kp kn kc) rfl
    have B2 := B1.kept g2 (by simp)
    have f0 := B2.cell 0 (v := .int .u8 (st : Nat)) rfl
    have f1 := B2.cell 1 (v := .slice kp kn kc) rfl
    have H2 : Hid (Tn w0 q o NN t) := hT
    have HI : Hid (∀ i, i < kn → ∃ a, kp = some a ∧ w0.cell? (a.add i) = some (.int .i64 (kf i))) := t2
    have hF2 : Hid (Fm W2 b (kidsU fU (ks.take 0) L).2) := (F.kept g1 (by simp)).kept g2 (by simp)
    have hG2 : Hid (Gt b gN w W2) := (Gt.of g1 (by simp)).trans (Gt.of g2 (by simp))
    have hR0 : Hid (∃ K', Ri W2 gN NN K' ∧ Mo (tnd t) lv NN K' (kidsU fU (ks.take 0) L).2 ∧ ∀ m, n ≤ m → K' m = K m) := ⟨K, (hG2.out.ri0 Rn g1 g2), M, fun _ _ => rfl⟩
    have hW2s : Hid (W1.heap.size < W2.heap.size) := (by unfold Hid; exact World.rowIs.lt R2)
    have HW1 : Hid (w.heap.size < W1.heap.size) := by have := sz1.out; unfold Hid; omega
    have HB : Hid (Bo W2 w.heap.size 69 #[.int .u8 (st : Nat), .slice kp kn kc]) := B2
    clear t2 t0 t1 hT C F Rn M hkn hkp hkc hkff hks hT1 hu hU hstt
    go_enter Tryd.func64, Tryd.ntmps64
    go_wp2
    go_loopw [28] (fun i wr => ∃ j : Nat, j ≤ kn ∧ i = .int .i64 (j : Nat) ∧ Hid (Fm wr b (kidsU fU (ks.take j) L).2) ∧ Hid (∃ K', Ri wr gN NN K' ∧ Mo (tnd t) lv NN K' (kidsU fU (ks.take j) L).2 ∧ ∀ m, n ≤ m → K' m = K m) ∧ Hid (Gt b gN w wr) ∧ Hid (Bo wr w.heap.size 69 #[.int .u8 (st : Nat), .slice kp kn kc]) ∧ ∃ h : Nat → Int, Ri wr W1.heap.size kn h ∧ Hid (∀ k, k < j → h k = lf (kidsU fU (ks.take j) L).1 k)) (fun i _ => kn - (intOf i).toNat)
    case atStart => exact ⟨0, Nat.zero_le _, rfl, hF2, hR0, hG2, HB, _, R2, fun k hk => absurd hk (Nat.not_lt_zero _)⟩
    case round =>
      clear hF2 hR0 hG2 HB R2
      obtain ⟨j, hj, rfl, Fj, Mj, Gj, Bj, h, Rj, Hj⟩ := hrel
      have Cj := HC.out.gt Gj.out
      by_cases hlt : j < kn
      · have hlt' : (j : Int) < (kn : Int) := by omega
        obtain ⟨a, rfl, hca⟩ := HI.out j hlt
        have hcw := Cj.old _ _ hca
        obtain ⟨Kj, Rk, Mk, hK⟩ := Mj.out
        have ihj := ih j hlt (kidsU fU (ks.take j) L).2 Kj wr Cj Fj.out Rk Mk
        have hkj := hkf j hlt
        have htk : ks.take (j + 1) = ks.take j ++ [(kf j).toNat] := by rw [List.take_add_one, hgt j hlt]; rfl
        have HS : Hid (kidsU fU (ks.take (j + 1)) L = ((kidsU fU (ks.take j) L).1 ++ [(fU (kf j).toNat (kidsU fU (ks.take j) L).2).1], (fU (kf j).toNat (kidsU fU (ks.take j) L).2).2)) := by unfold Hid; rw [htk, kidsU_snoc]
        have HL : Hid ((kidsU fU (ks.take j) L).1.length = j) := by unfold Hid; rw [kidsU_len, List.length_take]; omega
        have v0 := Cj.v.cell 0 (v := .func (.func 64) #[] #[.pointer (some ⟨gn, 0, none⟩), .pointer (some ⟨gt, 0, none⟩), .pointer (some ⟨gv, 0, none⟩), .pointer (some ⟨gf, 0, none⟩)]) rfl
        obtain ⟨x, hx⟩ : ∃ x, fU (kf j).toNat (kidsU fU (ks.take j) L).2 = x := ⟨_, rfl⟩
        rw [hx] at ihj HS
        obtain ⟨kv, hkv⟩ : ∃ kv, kf j = kv := ⟨_, rfl⟩
        rw [hkv] at ihj hcw hkj
        have HKV : Hid (kf j = kv) := hkv
        have hb1 := Rj.lt
        clear hca htk hx hkv
        have hnb : W1.heap.size ≠ b ∧ W1.heap.size ≠ gN := by have := HW1.out; omega
        have hwb : w.heap.size ≠ b ∧ w.heap.size ≠ gN := by omega
        go_wp2_with (go_at_call 64; refine ihj.mono ?_; rintro e w2 ⟨rfl, K2, F2, R2, M2, hK2, G2⟩; have HF2 : Hid (Fm w2 b x.2) := F2; have HR2 : Hid (Ri w2 gN NN K2) := R2; clear F2 R2; have R3 := G2.ri Rj hnb.1 hnb.2; have r2 := World.rowIs.cell R3 (i := j) hlt; have r3 := World.rowIs.frozen R3 j)
        have gw : w2.grownBy (w2.setCell ⟨W1.heap.size, j, none⟩ (.int .i64 (x.1 : Nat))) (some W1.heap.size) := gb_set (World.grownBy.refl w2 (some W1.heap.size)) j _
        have hW1w : w.heap.size ≤ W1.heap.size := by have := HW1.out; omega
        go_roundw
        case rel =>
          refine ⟨j + 1, hlt, by go_num, ?_, ?_, ?_, ?_, _, World.rowIs.set R3 j (.int .i64 (x.1 : Nat)) |>.congr (g := fun k => .int .i64 (if k = j then (x.1 : Int) else h k)) (fun k hk => by by_cases e : k = j <;> simp [e]), ?_⟩
          · rw [HS.out]; exact HF2.out.kept gw (by simpa using hnb.1.symm)
          · rw [HS.out]
            refine ⟨K2, rowIs_kept HR2.out gw (by simpa using hnb.2.symm), M2, fun m hm => ?_⟩
            rw [hK2 m (by have := hkj; omega)]
            exact hK m hm
          · exact (Gj.out.trans G2).past gw hW1w
          · exact (G2.bo Bj.out hwb.1 hwb.2).kept gw (by have := HW1.out; simp; omega)
          · intro k hk
            rw [HS.out]
            show _ = lf ((kidsU fU (ks.take j) L).1 ++ [x.1]) k
            have hL := HL.out
            rw [lf_snoc _ _ _ (by omega), hL]
            by_cases e : k = j
            · simp [e]
            · simp only [if_neg e]
              exact Hj.out k (by omega)
        case measure => simp [intOf]; omega
      · obtain rfl : j = kn := by omega
        have hlt' : ¬ (j : Int) < (j : Int) := by omega
        have htk : ks.take j = ks := List.take_of_length_le (by omega)
        obtain ⟨Kj, Rk, Mk, hK⟩ := Mj.out
        rw [htk] at Fj Mk Hj
        have hKn : Kj n = -1 := by rw [hK n (Nat.le_refl _)]; exact hkn1
        have hfew := Mk.few
        have hcn := cnK_le Kj NN
        have hkl := kidsU_lt hp hl ks L
        have hks := kidsU_len fU ks L
        have hLn := (kidsU_pre hp ks L).length_le
        have hok : NdOk (st, (kidsU fU ks L).1) := ⟨hst, fun k hk => by have := hkl k hk; omega, by show (kidsU fU ks L).1.length ≤ 256; omega⟩
        have hd : unf (tnd t) (lv n) n (nfm (kidsU fU ks L).2 (st, (kidsU fU ks L).1)) = (nix (kidsU fU ks L).2 (st, (kidsU fU ks L).1), nfm (kidsU fU ks L).2 (st, (kidsU fU ks L).1)) := by
          have e9 := unf_done (tnd t) (lv n) n L (nfm (kidsU fU ks L).2 (st, (kidsU fU ks L).1)) (by rw [HU.out]; exact List.prefix_refl _)
          rw [HU.out] at e9
          exact e9
        have hM2 := mo_step Mk hok hn hKn hd
        have hn1 := fun w' h1 h2 => numberC b (kidsU fU ks L).2 (st, (kidsU fU ks L).1) Mk.good hok (by omega) (some ⟨W1.heap.size, 0, none⟩) j w' h1 h2
        rw [show ((st, (kidsU fU ks L).1) : Nd).2.length = j from (by show (kidsU fU ks L).1.length = j; omega)] at hn1
        have HX : Hid (unf (tnd t) (lv n) n L = (nix (kidsU fU ks L).2 (st, (kidsU fU ks L).1), nfm (kidsU fU ks L).2 (st, (kidsU fU ks L).1))) := HU.out
        have hIn : ∀ w', Ri w' W1.heap.size j h → In w' (some ⟨W1.heap.size, 0, none⟩) j (lf (kidsU fU ks L).1) := fun w' hr => Ri.inr hr (Nat.le_refl _) Hj.out
        have Cj := HC.out.gt Gj.out
        generalize kidsU fU ks L = s at *
        have p0 := Cj.n.dr.cell 0 (v := .slice (some ⟨gN, 0, none⟩) NN NN) rfl
        have p1 := Cj.f.dr.cell 0 (v := .map (some b)) rfl
        have p2 := Bj.out.dr.cell 0 (v := .int .u8 (st : Nat)) rfl
        have hn2 := hn1 wr.drew (Fj.out.kept (gb_drew (World.grownBy.refl wr none)) (by simp)) (hIn wr.drew (World.rowIs.drew Rj))
        have hnn := Cj.ne
        have hbb : w.heap.size ≠ b := by omega
        have hWb : W1.heap.size ≠ b := by have := HW1.out; omega
        have HCj : Hid (Vc w0 wr b gN gn gt gv gf q o NN c S I R t) := Cj
        have HBj := Bj
        have HRk : Hid (Ri wr gN NN Kj) := Rk
        have hgNb : gN ≠ b := hnn.2.2.2.2.1.symm
        have za1 : gn ≠ gN := hnn.1.2
        have za2 : gf ≠ gN := hnn.2.2.2.1.2
        have za3 : w.heap.size ≠ gN := by omega
        have zb1 := za1.symm
        have zb2 := za2.symm
        have zb3 := za3.symm
        go_wp2
        go_region_held2 (fun w' => w'.cell? ⟨gn, 0, none⟩ = some (.slice (some ⟨gN, 0, none⟩) NN NN) ∧ w'.cell? ⟨gf, 0, none⟩ = some (.map (some b)) ∧ w'.cell? ⟨w.heap.size, 0, none⟩ = some (.int .u8 (st : Nat))) (go_keep) (first | (go_at_call 65; refine hn2.mono ?_; rintro e w2 ⟨rfl, F2, g2⟩; have HF2 : Hid (Fm w2 b (nfm s.2 (st, s.1))) := F2; clear F2; have q0 := (HCj.out.n.dr.kept g2 (by simpa using hnn.1.1)).cell 0 (v := .slice (some ⟨gN, 0, none⟩) NN NN) rfl; have q1 := (HCj.out.f.dr.kept g2 (by simpa using hnn.2.2.2.1.1)).cell 0 (v := .map (some b)) rfl; have q2 := (HBj.out.dr.kept g2 (by simpa using hbb)).cell 0 (v := .int .u8 (st : Nat)) rfl; have R5 := rowIs_kept (World.rowIs.drew HRk.out) g2 (by simpa using hgNb); have r5 := World.rowIs.cell R5 (i := n) hn; have r6 := World.rowIs.frozen R5 n))
        obtain ⟨v, hv⟩ : ∃ v : Nat, nix s.2 (st, s.1) = v := ⟨_, rfl⟩
        rw [hv] at hM2 HX ⊢
        have g3 : w2.grownBy (w2.setCell ⟨gN, n, none⟩ (.int .i64 (v : Nat))) (some gN) := gb_set (World.grownBy.refl w2 (some gN)) n _
        have R6 := (World.rowIs.set R5 n (.int .i64 (v : Nat))).congr (g := fun k => .int .i64 (if k = n then (v : Int) else Kj k)) (fun k hk => by by_cases e : k = n <;> simp [e])
        have G2 : Gt b gN wr (w2.setCell ⟨gN, n, none⟩ (.int .i64 (v : Nat))) := ((Gt.of (w := wr) ⟨g2.os, g2.tape, g2.output, g2.size, g2.block⟩ (fun k e => by cases e; exact .inl rfl))).trans (Gt.of g3 (fun k e => by cases e; exact .inr (.inl rfl)))
        have F3 := HF2.out.kept g3 (by simpa using hgNb.symm)
        have C3 := HCj.out.gt G2
        obtain ⟨W3, hW3⟩ : ∃ W3, w2.setCell ⟨gN, n, none⟩ (.int .i64 (v : Nat)) = W3 := ⟨_, rfl⟩
        rw [hW3] at g3 R6 G2 F3 C3 ⊢
        have d0 := C3.n.cell 0 (v := .slice (some ⟨gN, 0, none⟩) NN NN) rfl
        have d1 := World.rowIs.cell R6 (i := n) hn
        rw [if_pos rfl] at d1
        have HF3 : Hid (Fm W3 b (nfm s.2 (st, s.1))) := F3
        have HR6 : Hid (Ri W3 gN NN (fun k => if k = n then (v : Int) else Kj k)) := R6
        have HG : Hid (Gt b gN w W3) := Gj.out.trans G2
        clear F3 R6 G2 C3 p0 p1 p2 q0 q1 q2 r5 r6 R5 hn2 hn1 hIn g2 g3 Cj hd
        go_wp2
        go_ret
        refine ⟨(by rw [HX.out]; rfl), fun k => if k = n then (v : Int) else Kj k, by rw [HX.out]; exact HF3.out, HR6.out, by rw [HX.out]; exact hM2, fun m hm => ?_, HG.out⟩
        show (if m = n then (v : Int) else Kj m) = K m
        rw [if_neg (by omega)]
        exact hK m (by omega)
  · obtain ⟨e1, e2⟩ := known_is M hn hkn1
    rw [e1] at a1
    have hne : ((unf (tnd t) (lv n) n L).1 : Int) ≠ -1 := by omega
    have hne2 : (((unf (tnd t) (lv n) n L).1 : Int) == -1) = false := by simp
    have HV : Hid (∀ e, e = .returned (.int .i64 ((unf (tnd t) (lv n) n L).1 : Nat)) → Vis (tnd t) lv NN b gN n L K w (unf (tnd t) (lv n) n L) e w) := fun e he => ⟨he, K, by rw [e2]; exact F, Rn, by rw [e2]; exact M, fun _ _ => rfl, Gt.refl _ _ _⟩
    generalize unf (tnd t) (lv n) n L = x at *
    go_enter Tryd.func64, Tryd.ntmps64
    go_wp2
    go_ret
    exact HV.out _ rfl
end Go.Proofs.YteaionmjbkildabDoor
