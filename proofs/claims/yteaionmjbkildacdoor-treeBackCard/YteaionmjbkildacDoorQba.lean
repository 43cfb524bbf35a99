/- TreeBack. -/
import Derived.Test.YteaionmjbkildacDoorQrh
import Derived.Test.YteaionmjbkildacDoorQ61
import Derived.Test.YteaionmjbkildacDoorQ27
import Derived.Test.YteaionmjbkildacDoorQt
import Derived.Test.YteaionmjbkildacDoorQl
namespace Go.Proofs.YteaionmjbkildacDoor
open Go.RowKit
set_option linter.unusedVariables false
set_option linter.unusedSimpArgs false
set_option maxRecDepth 100000
namespace Rr
set_option maxHeartbeats 1000000 in
theorem alikeNil (w : World) : Calls Tryd.prog 7 #[.agg #[.int .i64 0, .int .i64 0, .slice none 0 0, .int .i64 0], .agg #[.int .i64 0, .int .i64 0, .slice none 0 0, .int .i64 0]] w fun e w' => e = .returned (.bool true) ∧ w.grownBy w' none := by
  obtain ⟨W1, hW1, sz1, g1, B1⟩ := boxn w #[.int .i64 0, .int .i64 0, .slice none 0 0, .int .i64 0] 24
  obtain ⟨W2, hW2, sz2, g2, B2⟩ := boxn W1 #[.int .i64 0, .int .i64 0, .slice none 0 0, .int .i64 0] 24
  have G2 := gb_trans g1 g2
  have P2 := B1.kept g2 (by simp)
  have aa0 := P2.cell 0 (v := .int .i64 0) rfl
  have aa1 := P2.cell 1 (v := .int .i64 0) rfl
  have aa2 := P2.cell 2 (v := .slice none 0 0) rfl
  have aa3 := P2.cell 3 (v := .int .i64 0) rfl
  have bb0 := B2.cell 0 (v := .int .i64 0) rfl
  have bb1 := B2.cell 1 (v := .int .i64 0) rfl
  have bb2 := B2.cell 2 (v := .slice none 0 0) rfl
  have bb3 := B2.cell 3 (v := .int .i64 0) rfl
  have HG : Hid (w.grownBy W2 none) := G2
  have HP : Hid (Bo W2 w.heap.size 24 #[.int .i64 0, .int .i64 0, .slice none 0 0, .int .i64 0]) := P2
  clear G2 P2 B1 B2 g1 g2 sz1 sz2
  go_enter Tryd.func7, Tryd.ntmps7
  go_wp2
  clear aa0 aa1 aa2 aa3 bb0 bb1 bb2 bb3
  go_loopw [5] (fun i wr => i = .int .i64 0 ∧ Hid (W2.grownBy wr none)) (fun i _ => 0)
  case atStart => exact ⟨rfl, World.grownBy.refl _ _⟩
  case round =>
    obtain ⟨rfl, gj⟩ := hrel
    have Pj := HP.out.kept gj.out (by simp)
    have p2 := Pj.cell 2 (v := .slice none 0 0) rfl
    go_wp2
    go_ret
    exact ⟨rfl, gb_trans HG.out gj.out⟩
theorem alS (S I R S2 I2 R2 : Int) (h : S ≠ S2) (n m : Nat) (ca cb : Nat) (spa spb : Option Addr) (w : World) :
    Calls Tryd.prog 7 #[.agg #[.int .i64 S, .int .i64 I, .slice spa n ca, .int .i64 R], .agg #[.int .i64 S2, .int .i64 I2, .slice spb m cb, .int .i64 R2]] w fun e w' => e = .returned (.bool false) ∧ w.grownBy w' none := by
  obtain ⟨W1, hW1, sz1, g1, B1⟩ := boxn w #[.int .i64 S, .int .i64 I, .slice spa n ca, .int .i64 R] 24
  obtain ⟨W2, hW2, sz2, g2, B2⟩ := boxn W1 #[.int .i64 S2, .int .i64 I2, .slice spb m cb, .int .i64 R2] 24
  have G2 := gb_trans g1 g2
  have B12 := B1.kept g2 (by simp)
  have a0 := B12.cell 0 (v := .int .i64 S) rfl
  have a1 := B12.cell 1 (v := .int .i64 I) rfl
  have a2 := B12.cell 2 (v := .slice spa n ca) rfl
  have a3 := B12.cell 3 (v := .int .i64 R) rfl
  have b0 := B2.cell 0 (v := .int .i64 S2) rfl
  have b1 := B2.cell 1 (v := .int .i64 I2) rfl
  have b2 := B2.cell 2 (v := .slice spb m cb) rfl
  have b3 := B2.cell 3 (v := .int .i64 R2) rfl
  have e1 : (S != S2) = true := by simp [h]
  have HG : Hid (w.grownBy W2 none) := G2
  clear B1 B2 B12 g1 g2 G2 sz1 sz2
  go_enter Tryd.func7, Tryd.ntmps7
  go_wp2
  go_ret
  exact ⟨rfl, HG.out⟩
theorem alI (S I R I2 R2 : Int) (h : I ≠ I2) (n m : Nat) (ca cb : Nat) (spa spb : Option Addr) (w : World) :
    Calls Tryd.prog 7 #[.agg #[.int .i64 S, .int .i64 I, .slice spa n ca, .int .i64 R], .agg #[.int .i64 S, .int .i64 I2, .slice spb m cb, .int .i64 R2]] w fun e w' => e = .returned (.bool false) ∧ w.grownBy w' none := by
  obtain ⟨W1, hW1, sz1, g1, B1⟩ := boxn w #[.int .i64 S, .int .i64 I, .slice spa n ca, .int .i64 R] 24
  obtain ⟨W2, hW2, sz2, g2, B2⟩ := boxn W1 #[.int .i64 S, .int .i64 I2, .slice spb m cb, .int .i64 R2] 24
  have G2 := gb_trans g1 g2
  have B12 := B1.kept g2 (by simp)
  have a0 := B12.cell 0 (v := .int .i64 S) rfl
  have a1 := B12.cell 1 (v := .int .i64 I) rfl
  have a2 := B12.cell 2 (v := .slice spa n ca) rfl
  have a3 := B12.cell 3 (v := .int .i64 R) rfl
  have b0 := B2.cell 0 (v := .int .i64 S) rfl
  have b1 := B2.cell 1 (v := .int .i64 I2) rfl
  have b2 := B2.cell 2 (v := .slice spb m cb) rfl
  have b3 := B2.cell 3 (v := .int .i64 R2) rfl
  have e1 : (S != S) = false := by simp
  have e2 : (I != I2) = true := by simp [h]
  have HG : Hid (w.grownBy W2 none) := G2
  clear B1 B2 B12 g1 g2 G2 sz1 sz2
  go_enter Tryd.func7, Tryd.ntmps7
  go_wp2
  go_ret
  exact ⟨rfl, HG.out⟩
theorem alN (S I R : Int) (n m : Nat) (h : n ≠ m) (ca cb : Nat) (spa spb : Option Addr) (w : World) :
    Calls Tryd.prog 7 #[.agg #[.int .i64 S, .int .i64 I, .slice spa n ca, .int .i64 R], .agg #[.int .i64 S, .int .i64 I, .slice spb m cb, .int .i64 R]] w fun e w' => e = .returned (.bool false) ∧ w.grownBy w' none := by
  obtain ⟨W1, hW1, sz1, g1, B1⟩ := boxn w #[.int .i64 S, .int .i64 I, .slice spa n ca, .int .i64 R] 24
  obtain ⟨W2, hW2, sz2, g2, B2⟩ := boxn W1 #[.int .i64 S, .int .i64 I, .slice spb m cb, .int .i64 R] 24
  have G2 := gb_trans g1 g2
  have B12 := B1.kept g2 (by simp)
  have a0 := B12.cell 0 (v := .int .i64 S) rfl
  have a1 := B12.cell 1 (v := .int .i64 I) rfl
  have a2 := B12.cell 2 (v := .slice spa n ca) rfl
  have a3 := B12.cell 3 (v := .int .i64 R) rfl
  have b0 := B2.cell 0 (v := .int .i64 S) rfl
  have b1 := B2.cell 1 (v := .int .i64 I) rfl
  have b2 := B2.cell 2 (v := .slice spb m cb) rfl
  have b3 := B2.cell 3 (v := .int .i64 R) rfl
  have e1 : (S != S) = false := by simp
  have e2 : (I != I) = false := by simp
  have e3 : (R != R) = false := by simp
  have e4 : ((n : Int) != (m : Int)) = true := by simp; omega
  have HG : Hid (w.grownBy W2 none) := G2
  clear B1 B2 B12 g1 g2 G2 sz1 sz2
  go_enter Tryd.func7, Tryd.ntmps7
  go_wp2
  go_ret
  exact ⟨rfl, HG.out⟩

theorem kidsTx_congr {f g : Nat → Int} : ∀ {k : Nat}, (∀ i, i < k → f i = g i) → kidsTx f k = kidsTx g k
  | 0, _ => rfl
  | k + 1, h => by rw [kidsTx, kidsTx, kidsTx_congr (fun i hi => h i (by omega)), h k (by omega)]
theorem nodeTx_congr {a b : TN} (h : TnE a b) : nodeTx a = nodeTx b := by
  unfold nodeTx
  rw [h.1, kidsTx_congr h.2.2, h.2.1]
theorem nodesTx_congr {t u : Nat → TN} : ∀ {n : Nat}, (∀ j, j < n → TnE (t j) (u j)) → nodesTx t n = nodesTx u n
  | 0, _ => rfl
  | n + 1, h => by rw [nodesTx, nodesTx, nodesTx_congr (fun j hj => h j (by omega)), nodeTx_congr (h n (by omega))]
theorem tx_iff {S I n R S2 I2 n2 R2 : Nat} {t u : Nat → TN} (hc : CkOk (S : Nat) (I : Nat) n (R : Nat) t) (hst : ∀ j, (t j).st < 256) (hc2 : CkOk (S2 : Nat) (I2 : Nat) n2 (R2 : Nat) u) (hst2 : ∀ j, (u j).st < 256) : treeTx S2 I2 n2 R2 u = treeTx S I n R t ↔ S2 = S ∧ I2 = I ∧ n2 = n ∧ R2 = R ∧ ∀ j, j < n → TnE (u j) (t j) := by
  constructor
  · intro e
    have h1 := tr_tx hc hst
    have h2 := tr_tx hc2 hst2
    rw [e, h1] at h2
    simp only [Prod.mk.injEq, List.cons.injEq, and_true, true_and] at h2
    obtain ⟨⟨rfl, rfl, rfl, rfl⟩, h3⟩ := h2
    refine ⟨rfl, rfl, rfl, rfl, fun j hj => ?_⟩
    have a1 := nds_tne hc (tnX_as _) j hj
    have a2 := nds_tne hc2 (tnX_as _) j hj
    rw [h3] at a1
    refine ⟨a2.1.symm.trans a1.1, a2.2.1.symm.trans a1.2.1, fun i hi => ?_⟩
    have b1 : i < (tnX (ndsOf u n) j).kn := by rw [a2.2.1]; exact hi
    exact (a2.2.2 i b1).symm.trans (a1.2.2 i b1)
  · rintro ⟨rfl, rfl, rfl, rfl, h⟩
    unfold treeTx
    rw [nodesTx_congr h]
theorem pa_ok {x : ByteArray} (h : paE x = 0) : x.size ≤ 1048576 ∧ (Pa.trR x.data.toList).2.2.2.1 = true ∧ (Pa.trR x.data.toList).2.2.1 = false := by
  unfold paE at h
  by_cases h1 : 1048576 < x.size
  · rw [if_pos h1] at h; exact absurd h (by decide)
  · rw [if_neg h1] at h
    by_cases h2 : (Pa.trR x.data.toList).2.2.2.1 = false
    · rw [if_pos h2] at h; exact absurd h (by decide)
    · rw [if_neg h2] at h
      refine ⟨by omega, by simpa using h2, ?_⟩
      by_cases h3 : (Pa.trR x.data.toList).2.2.1 = false
      · exact h3
      · rw [if_neg (fun q => h3 q.1)] at h; exact absurd h (by decide)
theorem paP_le (x : ByteArray) : paP x ≤ x.size := by
  unfold paP
  split
  · omega
  · split
    · exact Pa.po_le _ _
    · omega
theorem paP_ok {x : ByteArray} (h : paE x = 0) : paP x = 0 := by
  obtain ⟨h1, h2, _⟩ := pa_ok h
  unfold paP
  rw [if_neg (by omega), if_neg (by rw [h2]; simp)]
/-- What was read is what the text says. -/
theorem parse_ok {x : ByteArray} (h : paE x = 0) (w : World) : Calls Tryd.prog 6 #[.string x] w fun e w' => ∃ S I R n c gN u, e = .returned (.tuple #[.agg #[.int .i64 (S : Nat), .int .i64 (I : Nat), .slice (some ⟨gN, 0, none⟩) n c, .int .i64 (R : Nat)], .int .i64 0, .int .i64 0]) ∧ CkOk (S : Nat) (I : Nat) n (R : Nat) u ∧ (∀ j, (u j).st < 256) ∧ treeTx S I n R u = x.data.toList ∧ x.size ≤ 1048576 ∧ Tn w' gN 0 n u ∧ w.grownBy w' none := by
  refine (parseC x w).mono ?_
  intro e w' hp
  obtain ⟨g, V, rfl, _, hk⟩ := hp
  obtain ⟨h1, h2, h3⟩ := pa_ok h
  obtain ⟨S, I, R, n, c, gN, u, rfl, a1, a2, a3, a4, a5, a6⟩ := hk h
  have hw := Pa.trR_was h2 h3
  obtain ⟨S', I', n', R', _, _, _, _, b1, b2, b3, b4⟩ := hw
  rw [a1] at b1
  simp only [List.cons.injEq, and_true] at b1
  obtain ⟨rfl, rfl, rfl, rfl⟩ := b1
  obtain ⟨g2, hg2, hT⟩ := own_tn a5 a6
  have hn0 : 0 < n := by have p := a4.2.2.1; have q := a4.2.2.2.1; omega
  cases hg2 hn0
  refine ⟨S, I, R, n, c, gN, u, by rw [h, paP_ok h]; rfl, a4, a3.lt b3, ?_, h1, hT, g⟩
  unfold treeTx
  rw [headTx_is, nodesTx_is u n (fun j hj i hi => (ck_kf a4 hj i hi).1)]
  have e1 : (fun j => (u j).st) = fun i => ((Pa.trR x.data.toList).2.1.getD i (0, [])).1 := funext fun i => (a3 i).1
  have e2 : (fun j => (u j).kn) = fun i => ((Pa.trR x.data.toList).2.1.getD i (0, [])).2.length := funext fun i => (a3 i).2.1
  have e3 : (fun j i => ((u j).kf i).toNat) = fun i k => ((Pa.trR x.data.toList).2.1.getD i (0, [])).2.getD k 0 := funext fun i => funext fun k => by
    rw [(a3 i).2.2]; unfold lf; rw [Int.toNat_natCast]
  rw [e1, e2, e3, Pa.nodesL_is _ n (by omega), List.take_of_length_le (by omega)]
  exact b4.symm
theorem parse_bad {x : ByteArray} (h : ¬ paE x = 0) (w : World) : Calls Tryd.prog 6 #[.string x] w fun e w' => e = .returned (.tuple #[.agg #[.int .i64 0, .int .i64 0, .slice none 0 0, .int .i64 0], .int .i64 (paP x : Nat), .int .i64 (paE x)]) ∧ w.grownBy w' none := by
  refine (parseC x w).mono ?_
  intro e w' hp
  obtain ⟨g, V, rfl, hk, _⟩ := hp
  rw [hk h]
  exact ⟨rfl, g⟩
/-- A text that says a tree is read as that tree. -/
theorem parse_tx {S I n R : Nat} {t : Nat → TN} (hc : CkOk (S : Nat) (I : Nat) n (R : Nat) t) (hst : ∀ j, (t j).st < 256) {X : ByteArray} (hX : X.data.toList = treeTx S I n R t) (hlen : X.size ≤ 1048576) (w : World) :
    Calls Tryd.prog 6 #[.string X] w fun e w' => ∃ c gU u, e = .returned (.tuple #[.agg #[.int .i64 (S : Nat), .int .i64 (I : Nat), .slice (some ⟨gU, 0, none⟩) n c, .int .i64 (R : Nat)], .int .i64 0, .int .i64 0]) ∧ (∀ j, j < n → TnE (u j) (t j)) ∧ Tn w' gU 0 n u ∧ w.grownBy w' none := by
  refine (parseC X w).mono ?_
  intro e w' hp
  obtain ⟨g, V, rfl, _, h⟩ := hp
  obtain ⟨e1, e2⟩ := pa_tx hc hst hX hlen
  obtain ⟨c, gU, u, rfl, h1, h2, _, _⟩ := PaT.back hc hst hX (h e1)
  exact ⟨c, gU, u, by rw [e1, e2]; rfl, h1, h2, g⟩
/-- The statements' alike of two trees that may be. -/
theorem alikeG {S I n R S2 I2 n2 R2 : Nat} {t u : Nat → TN} (hc : CkOk (S : Nat) (I : Nat) n (R : Nat) t) (hc2 : CkOk (S2 : Nat) (I2 : Nat) n2 (R2 : Nat) u) (q o c q2 o2 c2 : Nat) (B : Bool) (hB : B = true ↔ S2 = S ∧ I2 = I ∧ n2 = n ∧ R2 = R ∧ ∀ j, j < n → TnE (u j) (t j)) (w : World) (hT : Tn w q o n t) (hU : Tn w q2 o2 n2 u) :
    Calls Tryd.prog 7 #[.agg #[.int .i64 (S2 : Nat), .int .i64 (I2 : Nat), .slice (some ⟨q2, o2, none⟩) n2 c2, .int .i64 (R2 : Nat)], .agg #[.int .i64 (S : Nat), .int .i64 (I : Nat), .slice (some ⟨q, o, none⟩) n c, .int .i64 (R : Nat)]] w fun e w' => e = .returned (.bool B) ∧ w.grownBy w' none := by
  have no : ¬ (S2 = S ∧ I2 = I ∧ n2 = n ∧ R2 = R) → B = false := fun h => by
    cases hb : B with
    | false => rfl
    | true => obtain ⟨a, b, c, d, _⟩ := hB.1 hb; exact absurd ⟨a, b, c, d⟩ h
  by_cases e1 : S2 = S
  · subst e1
    by_cases e2 : I2 = I
    · subst e2
      by_cases e3 : R2 = R
      · subst e3
        by_cases e4 : n2 = n
        · subst e4
          exact alikeN (S2 : Nat) (I2 : Nat) (R2 : Nat) n2 q2 o2 q o c2 c hc.2.1 u t (fun j hj => by
            rcases hc2.2.2.2.2.1 j hj with ⟨a, _⟩ | ⟨_, _, a, _⟩
            · omega
            · have hm := maB_is hc2.1
              rw [Int.toNat_natCast] at a
              omega) w hU hT B (hB.trans ⟨fun h => h.2.2.2.2, fun h => ⟨rfl, rfl, rfl, rfl, h⟩⟩)
        · rw [no (fun h => e4 h.2.2.1)]
          exact alN _ _ _ n2 n e4 c2 c _ _ w
      · rw [no (fun h => e3 h.2.2.2)]
        exact alikeX _ _ _ _ (by omega) n2 n c2 c _ _ w
    · rw [no (fun h => e2 h.2.1)]
      exact alI _ _ _ _ _ (by omega) n2 n c2 c _ _ w
  · rw [no (fun h => e1 h.1)]
    exact alS _ _ _ _ _ _ (by omega) n2 n c2 c _ _ w
/-- What Print says, in two ways. -/
theorem PrE.two {S I R : Int} {n : Nat} {t : Nat → TN} {l : List UInt8} {E : Int} (h : PrE S I n R t l E) : (E ≠ 0 ∧ l = []) ∨ (E = 0 ∧ CkOk S I n R t ∧ l = treeTx S.toNat I.toNat n R.toNat t ∧ l.length ≤ 1048576) := by
  rcases h with ⟨_, rfl, rfl⟩ | ⟨h, rfl, rfl⟩
  · exact .inl ⟨by decide, rfl⟩
  · unfold prT prE
    by_cases hl : (treeTx S.toNat I.toNat n R.toNat t).length ≤ 1048576
    · rw [if_pos hl, if_pos hl]; exact .inr ⟨rfl, h, rfl, hl⟩
    · rw [if_neg hl, if_neg hl]; exact .inl ⟨by decide, rfl⟩
set_option maxHeartbeats 8000000 in
theorem back_top (S I R : Int) (sp : Option Addr) (q o n c : Nat) (t : Nat → TN) (e0 : 0 < n → sp = some ⟨q, o, none⟩) (e1 : n ≤ 4398046510976) (e2 : ∀ j, (t j).st < 256) (e3 : ∀ j, j < n → (t j).kn ≤ 17592186043904) (e4 : ∀ j, j < n → (t j).kp = none → (t j).kn = 0 ∧ (t j).kc = 0)
    (S2 I2 R2 : Int) (sp2 : Option Addr) (q2 o2 n2 c2 : Nat) (u : Nat → TN) (d0 : 0 < n2 → sp2 = some ⟨q2, o2, none⟩) (d1 : n2 ≤ 4398046510976) (d2 : ∀ j, (u j).st < 256) (d3 : ∀ j, j < n2 → (u j).kn ≤ 17592186043904) (d4 : ∀ j, j < n2 → (u j).kp = none → (u j).kn = 0 ∧ (u j).kc = 0)
    (x : ByteArray) (w : World) (htab : Tab w) (hT : Tn w q o n t) (hU : Tn w q2 o2 n2 u) (hx : x.size ≤ maxLen) :
    Calls Tryd.prog 3 #[.agg #[.int .i64 S, .int .i64 I, .slice sp n c, .int .i64 R], .agg #[.int .i64 S2, .int .i64 I2, .slice sp2 n2 c2, .int .i64 R2], .string x] w fun e w' => e = .returned (.bool true) ∧ w.grownBy w' none := by
  obtain ⟨W1, hW1, sz1, g1, B1⟩ := boxn w #[.int .i64 S, .int .i64 I, .slice sp n c, .int .i64 R] 24
  obtain ⟨W2, hW2, sz2, g2, B2⟩ := boxn W1 #[.int .i64 S2, .int .i64 I2, .slice sp2 n2 c2, .int .i64 R2] 24
  have G2 := gb_trans g1 g2
  have kav := aliveC W2 (tab_kept htab G2)
  have HTB : Hid (Tab w) := htab
  have HP : Hid (Bo W2 w.heap.size 24 #[.int .i64 S, .int .i64 I, .slice sp n c, .int .i64 R]) := B1.kept g2 (by simp)
  have HQ : Hid (Bo W2 W1.heap.size 24 #[.int .i64 S2, .int .i64 I2, .slice sp2 n2 c2, .int .i64 R2]) := B2
  have HG : Hid (w.grownBy W2 none) := G2
  have HT : Hid (Tn w q o n t) := hT
  have HU : Hid (Tn w q2 o2 n2 u) := hU
  obtain ⟨l, E, hE⟩ := PrE.some S I n R t
  have HE : Hid (PrE S I n R t l E) := hE
  have K1 := fun V (g : W2.grownBy V none) => printG S I R sp q o n c t e0 e2 l E hE V (hT.kept (gb_trans G2 g)) (tab_kept htab (gb_trans G2 g))
  obtain ⟨l2, E2, hE2⟩ := PrE.some S2 I2 n2 R2 u
  have HE2 : Hid (PrE S2 I2 n2 R2 u l2 E2) := hE2
  have K2 := fun V (g : W2.grownBy V none) => printG S2 I2 R2 sp2 q2 o2 n2 c2 u d0 d2 l2 E2 hE2 V (hU.kept (gb_trans G2 g)) (tab_kept htab (gb_trans G2 g))
  have He0 : Hid (0 < n → sp = some ⟨q, o, none⟩) := e0
  have He2 : Hid (∀ j, (t j).st < 256) := e2
  have Hd0 : Hid (0 < n2 → sp2 = some ⟨q2, o2, none⟩) := d0
  have Hd2 : Hid (∀ j, (u j).st < 256) := d2
  clear g1 g2 G2 B1 B2 htab hT hU hE hE2 sz1 sz2 e0 e1 e2 e3 e4 d0 d1 d2 d3 d4 hx
  have hXl : ∃ X : ByteArray, (⟨l.toArray⟩ : ByteArray) = X := ⟨_, rfl⟩
  obtain ⟨X, hX⟩ := hXl
  obtain ⟨X2, hX2⟩ : ∃ X : ByteArray, (⟨l2.toArray⟩ : ByteArray) = X := ⟨_, rfl⟩
  have HX : Hid ((⟨l.toArray⟩ : ByteArray) = X) := hX
  have HX2 : Hid ((⟨l2.toArray⟩ : ByteArray) = X2) := hX2
  simp only [hX] at K1
  simp only [hX2] at K2
  clear hX hX2
  go_enter Tryd.func3, Tryd.ntmps3
  go_wp2_with (first | (go_at_call 4; refine kav.mono ?_; rintro e V3 ⟨rfl, g3⟩; refine Hid.out ?_))
  refine Lib.hid ?_
  clear kav 
  have P3 := HP.out.kept g3 (by simp)
  have p0 := P3.cell 0 (v := .int .i64 S) rfl
  have p1 := P3.cell 1 (v := .int .i64 I) rfl
  have p2 := P3.cell 2 (v := .slice sp n c) rfl
  have p3 := P3.cell 3 (v := .int .i64 R) rfl
  have k1 := K1 V3 g3
  clear K1
  go_wp2_with (first | (go_at_call 5; refine k1.mono ?_; rintro e V4 ⟨rfl, g4⟩; refine Hid.out ?_))
  refine Lib.hid ?_
  clear k1 p0 p1 p2 p3 P3
  have G4 : Hid (W2.grownBy V4 none) := gb_trans g3 g4
  clear g3 g4
  rcases PrE.two HE.out with ⟨hne, hl⟩ | ⟨rfl, hck, hl, hlen⟩
  · have HH : True := trivial
    obtain rfl : X = ⟨#[]⟩ := by rw [← HX.out, hl]
    have hne2 : (E == 0) = false := by simpa using hne
    clear hl hne
    clear K2
    have HGz : Hid (w.grownBy V4 none) := gb_trans HG.out G4.out
    clear HH
    by_cases h0 : paE x = 0
    · have kz := parse_ok h0 V4
      clear h0
      go_wp2_with (first | (go_at_call 6; refine kz.mono ?_; rintro e VA ⟨Sx, Ix, Rx, nx, cx, gX, u9, rfl, hxc, hxs, hxt, hxl, hTx, gA⟩; refine Hid.out ?_))
      refine Lib.hid ?_
      clear kz 
      obtain ⟨VB, hVB, szB, gB, BB⟩ := boxn VA #[.int .i64 (Sx : Nat), .int .i64 (Ix : Nat), .slice (some ⟨gX, 0, none⟩) nx cx, .int .i64 (Rx : Nat)] 24
      have hxk := hxc.tok hxs
      rw [Int.toNat_natCast, Int.toNat_natCast, Int.toNat_natCast] at hxk
      have GB := gb_trans HGz.out (gb_trans gA gB)
      have kp := printC Sx Ix Rx gX 0 nx cx u9 _ hxk (by rw [hxt]; have e := Array.length_toList (xs := x.data); show x.data.toList.length ≤ 1048576; rw [e]; exact hxl) VB (hTx.kept gB) (tab_kept HTB.out GB)
      have ex : (⟨(treeTx Sx Ix nx Rx u9).toArray⟩ : ByteArray) = x := by rw [hxt]
      rw [ex] at kp
      have z0 := BB.cell 0 (v := .int .i64 (Sx : Nat)) rfl
      have z1 := BB.cell 1 (v := .int .i64 (Ix : Nat)) rfl
      have z2 := BB.cell 2 (v := .slice (some ⟨gX, 0, none⟩) nx cx) rfl
      have z3 := BB.cell 3 (v := .int .i64 (Rx : Nat)) rfl
      have exx : (x.toList == x.toList) = true := by simp
      have HGB : Hid (w.grownBy VB none) := GB
      clear hxk hxc hxs hxt hxl hTx gA gB BB ex GB szB
      go_wp2_with (first | (go_at_call 5; refine kp.mono ?_; rintro e VC ⟨rfl, gC⟩))
      go_ret
      exact ⟨rfl, gb_trans HGB.out gC⟩
    · have kz := parse_bad h0 V4
      obtain ⟨p9, hp9⟩ : ∃ p, paP x = p := ⟨_, rfl⟩
      obtain ⟨E9, hE9⟩ : ∃ E, paE x = E := ⟨_, rfl⟩
      have hpl : p9 ≤ x.size := by rw [← hp9]; exact paP_le x
      rw [hp9, hE9] at kz
      have hpl1 : (0 : Int) ≤ (p9 : Int) := by omega
      have hpl2 : (p9 : Int) ≤ (x.size : Int) := by omega
      have hne9 : (E9 != 0) = true := by rw [hE9] at h0; simp [h0]
      clear h0 hp9 hE9
      go_wp2_with (first | (go_at_call 6; refine kz.mono ?_; rintro e VA ⟨rfl, gA⟩; refine Hid.out ?_))
      refine Lib.hid ?_
      clear kz 
      obtain ⟨VB, hVB, szB, gB, BB⟩ := boxn VA #[.int .i64 0, .int .i64 0, .slice none 0 0, .int .i64 0] 24
      have HVB : Hid (VA.alloc (.cells #[.int .i64 0, .int .i64 0, .slice none 0 0, .int .i64 0] 24) = VB) := hVB
      clear hVB
      have kn := alikeNil VB
      have HGB : Hid (w.grownBy VB none) := gb_trans HGz.out (gb_trans gA gB)
      clear gA gB BB szB
      go_wp2_with (first | (go_at_call 7; rw [HVB.out]; refine kn.mono ?_; rintro e VC ⟨rfl, gC⟩))
      go_ret
      exact ⟨rfl, gb_trans HGB.out gC⟩
  · have hm := maB_is hck.1
    have r0 := hck.2.2.1
    have r1 := hck.2.2.2.1
    obtain rfl := He0.out (by omega)
    obtain ⟨S, rfl⟩ := Int.eq_ofNat_of_zero_le (show 0 ≤ S by omega)
    obtain ⟨I, rfl⟩ := Int.eq_ofNat_of_zero_le (show 0 ≤ I by omega)
    obtain ⟨R, rfl⟩ := Int.eq_ofNat_of_zero_le r0
    rw [Int.toNat_natCast, Int.toNat_natCast, Int.toNat_natCast] at hl
    have hX1 : X.data.toList = treeTx S I n R t := by rw [← HX.out, ← hl]
    have hXs : X.size ≤ 1048576 := by
      have e := Array.length_toList (xs := X.data)
      show X.data.size ≤ 1048576
      rw [← e, hX1, ← hl]; exact hlen
    have HX1 : Hid (X.data.toList = treeTx S I n R t) := hX1
    have HCK : Hid (CkOk (S : Nat) (I : Nat) n (R : Nat) t) := hck
    have kq := parse_tx hck He2.out hX1 hXs V4
    have ee : ((0 : Int) == 0) = true := by decide
    clear hm r0 r1 hl hX1 hXs hck hlen
    go_wp2_with (first | (go_at_call 6; refine kq.mono ?_; rintro e V5 ⟨cu, gU, v, rfl, hTe, hTv, g5⟩; refine Hid.out ?_))
    refine Lib.hid ?_
    clear kq 
    obtain ⟨V6, hV6, sz6, g6, B6⟩ := boxn V5 #[.int .i64 (S : Nat), .int .i64 (I : Nat), .slice (some ⟨gU, 0, none⟩) n cu, .int .i64 (R : Nat)] 24
    have G46 := gb_trans g5 g6
    have G6 : Hid (W2.grownBy V6 none) := gb_trans G4.out G46
    have HU6 : Hid (Bo V6 V5.heap.size 24 #[.int .i64 (S : Nat), .int .i64 (I : Nat), .slice (some ⟨gU, 0, none⟩) n cu, .int .i64 (R : Nat)]) := B6
    have HTV : Hid (Tn V6 gU 0 n v) := hTv.kept g6
    have HTE : Hid (∀ j, j < n → TnE (v j) (t j)) := hTe
    have Q6 := HQ.out.kept G6.out (by simp)
    have q0 := Q6.cell 0 (v := .int .i64 S2) rfl
    have q1 := Q6.cell 1 (v := .int .i64 I2) rfl
    have q2 := Q6.cell 2 (v := .slice sp2 n2 c2) rfl
    have q3 := Q6.cell 3 (v := .int .i64 R2) rfl
    have k2 := K2 V6 G6.out
    clear K2 g5 g6 G46 B6 hTe hTv sz6
    go_wp2_with (first | (go_at_call 5; refine k2.mono ?_; rintro e V7 ⟨rfl, g7⟩; refine Hid.out ?_))
    refine Lib.hid ?_
    clear k2 q0 q1 q2 q3 Q6
    have G7 : Hid (W2.grownBy V7 none) := gb_trans G6.out g7
    have kA := alikeG HCK.out (ck_congr (fun j hj => tne_symm (HTE.out j hj)) HCK.out) q o c gU 0 cu true ⟨fun _ => ⟨rfl, rfl, rfl, rfl, HTE.out⟩, fun _ => rfl⟩ V7 (HT.out.kept (gb_trans HG.out G7.out)) (HTV.out.kept g7)
    have U7 := HU6.out.kept g7 (by simp)
    have P7 := HP.out.kept G7.out (by simp)
    have uu0 := U7.cell 0 (v := .int .i64 (S : Nat)) rfl
    have uu1 := U7.cell 1 (v := .int .i64 (I : Nat)) rfl
    have uu2 := U7.cell 2 (v := .slice (some ⟨gU, 0, none⟩) n cu) rfl
    have uu3 := U7.cell 3 (v := .int .i64 (R : Nat)) rfl
    have pp0 := P7.cell 0 (v := .int .i64 (S : Nat)) rfl
    have pp1 := P7.cell 1 (v := .int .i64 (I : Nat)) rfl
    have pp2 := P7.cell 2 (v := .slice (some ⟨q, o, none⟩) n c) rfl
    have pp3 := P7.cell 3 (v := .int .i64 (R : Nat)) rfl
    clear g7 U7 P7
    rcases PrE.two HE2.out with ⟨hne, hl⟩ | ⟨rfl, hck2, hl, hlen⟩
    · have HH : True := trivial
      have hne2 : (E2 == 0) = false := by simpa using hne
      clear hl hne
      go_wp2_with (first | (go_at_call 7; refine kA.mono ?_; rintro e V8 ⟨rfl, g8⟩; refine Hid.out ?_))
      refine Lib.hid ?_
      clear kA uu0 uu1 uu2 uu3 pp0 pp1 pp2 pp3
      have HGz : Hid (w.grownBy V8 none) := gb_trans HG.out (gb_trans G7.out g8)
      clear HH
      by_cases h0 : paE x = 0
      · have kz := parse_ok h0 V8
        clear h0
        go_wp2_with (first | (go_at_call 6; refine kz.mono ?_; rintro e VA ⟨Sx, Ix, Rx, nx, cx, gX, u9, rfl, hxc, hxs, hxt, hxl, hTx, gA⟩; refine Hid.out ?_))
        refine Lib.hid ?_
        clear kz 
        obtain ⟨VB, hVB, szB, gB, BB⟩ := boxn VA #[.int .i64 (Sx : Nat), .int .i64 (Ix : Nat), .slice (some ⟨gX, 0, none⟩) nx cx, .int .i64 (Rx : Nat)] 24
        have hxk := hxc.tok hxs
        rw [Int.toNat_natCast, Int.toNat_natCast, Int.toNat_natCast] at hxk
        have GB := gb_trans HGz.out (gb_trans gA gB)
        have kp := printC Sx Ix Rx gX 0 nx cx u9 _ hxk (by rw [hxt]; have e := Array.length_toList (xs := x.data); show x.data.toList.length ≤ 1048576; rw [e]; exact hxl) VB (hTx.kept gB) (tab_kept HTB.out GB)
        have ex : (⟨(treeTx Sx Ix nx Rx u9).toArray⟩ : ByteArray) = x := by rw [hxt]
        rw [ex] at kp
        have z0 := BB.cell 0 (v := .int .i64 (Sx : Nat)) rfl
        have z1 := BB.cell 1 (v := .int .i64 (Ix : Nat)) rfl
        have z2 := BB.cell 2 (v := .slice (some ⟨gX, 0, none⟩) nx cx) rfl
        have z3 := BB.cell 3 (v := .int .i64 (Rx : Nat)) rfl
        have exx : (x.toList == x.toList) = true := by simp
        have HGB : Hid (w.grownBy VB none) := GB
        clear hxk hxc hxs hxt hxl hTx gA gB BB ex GB szB
        go_wp2_with (first | (go_at_call 5; refine kp.mono ?_; rintro e VC ⟨rfl, gC⟩))
        go_ret
        exact ⟨rfl, gb_trans HGB.out gC⟩
      · have kz := parse_bad h0 V8
        obtain ⟨p9, hp9⟩ : ∃ p, paP x = p := ⟨_, rfl⟩
        obtain ⟨E9, hE9⟩ : ∃ E, paE x = E := ⟨_, rfl⟩
        have hpl : p9 ≤ x.size := by rw [← hp9]; exact paP_le x
        rw [hp9, hE9] at kz
        have hpl1 : (0 : Int) ≤ (p9 : Int) := by omega
        have hpl2 : (p9 : Int) ≤ (x.size : Int) := by omega
        have hne9 : (E9 != 0) = true := by rw [hE9] at h0; simp [h0]
        clear h0 hp9 hE9
        go_wp2_with (first | (go_at_call 6; refine kz.mono ?_; rintro e VA ⟨rfl, gA⟩; refine Hid.out ?_))
        refine Lib.hid ?_
        clear kz 
        obtain ⟨VB, hVB, szB, gB, BB⟩ := boxn VA #[.int .i64 0, .int .i64 0, .slice none 0 0, .int .i64 0] 24
        have HVB : Hid (VA.alloc (.cells #[.int .i64 0, .int .i64 0, .slice none 0 0, .int .i64 0] 24) = VB) := hVB
        clear hVB
        have kn := alikeNil VB
        have HGB : Hid (w.grownBy VB none) := gb_trans HGz.out (gb_trans gA gB)
        clear gA gB BB szB
        go_wp2_with (first | (go_at_call 7; rw [HVB.out]; refine kn.mono ?_; rintro e VC ⟨rfl, gC⟩))
        go_ret
        exact ⟨rfl, gb_trans HGB.out gC⟩
    · have hm := maB_is hck2.1
      have r0 := hck2.2.2.1
      have r1 := hck2.2.2.2.1
      obtain rfl := Hd0.out (by omega)
      obtain ⟨S2, rfl⟩ := Int.eq_ofNat_of_zero_le (show 0 ≤ S2 by omega)
      obtain ⟨I2, rfl⟩ := Int.eq_ofNat_of_zero_le (show 0 ≤ I2 by omega)
      obtain ⟨R2, rfl⟩ := Int.eq_ofNat_of_zero_le r0
      rw [Int.toNat_natCast, Int.toNat_natCast, Int.toNat_natCast] at hl
      have hX2 : X2.data.toList = treeTx S2 I2 n2 R2 u := by rw [← HX2.out, ← hl]
      have hxx : X2 = X ↔ X2.data.toList = X.data.toList := ⟨fun e => by rw [e], fun e => ByteArray.ext (Array.toList_inj.1 e)⟩
      rw [hX2, HX1.out, tx_iff HCK.out He2.out hck2 Hd2.out] at hxx
      obtain ⟨BB, hBB⟩ : ∃ B : Bool, decide (X2 = X) = B := ⟨_, rfl⟩
      have hB : BB = true ↔ S2 = S ∧ I2 = I ∧ n2 = n ∧ R2 = R ∧ ∀ j, j < n → TnE (u j) (t j) := by rw [← hBB, decide_eq_true_iff]; exact hxx
      have hb1 : (X2.toList == X.toList) = BB := by
        rw [← hBB, Lib.toList_data, Lib.toList_data]
        by_cases e : X2 = X
        · subst e; simp
        · rw [decide_eq_false e]
          exact beq_eq_false_iff_ne.2 (fun h => e (ByteArray.ext (Array.toList_inj.1 h)))
      have kB := fun V (g : V7.grownBy V none) => alikeG HCK.out hck2 q o c q2 o2 c2 BB hB V (HT.out.kept (gb_trans (gb_trans HG.out G7.out) g)) (HU.out.kept (gb_trans (gb_trans HG.out G7.out) g))
      have hb2 : (BB != BB) = false := by cases BB <;> rfl
      have HH : True := trivial
      have HL : Hid (∀ V, V7.grownBy V none → Bo V W1.heap.size 24 #[.int .i64 (S2 : Nat), .int .i64 (I2 : Nat), .slice (some ⟨q2, o2, none⟩) n2 c2, .int .i64 (R2 : Nat)] ∧ Bo V w.heap.size 24 #[.int .i64 (S : Nat), .int .i64 (I : Nat), .slice (some ⟨q, o, none⟩) n c, .int .i64 (R : Nat)]) := fun V g => ⟨HQ.out.kept (gb_trans G7.out g) (by simp), HP.out.kept (gb_trans G7.out g) (by simp)⟩
      clear hm r0 r1 hl hX2 hxx hB hck2 hlen
      go_wp2_with (first | (go_at_call 7; (fail_if_success (guard_hyp g8)); refine kA.mono ?_; rintro e V8 ⟨rfl, g8⟩; have kB1 := kB V8 g8; clear kA kB; have O8 := (HL.out V8 g8).1; have P8 := (HL.out V8 g8).2; have oo0 := O8.cell 0 (v := .int .i64 (S2 : Nat)) rfl; have oo1 := O8.cell 1 (v := .int .i64 (I2 : Nat)) rfl; have oo2 := O8.cell 2 (v := .slice (some ⟨q2, o2, none⟩) n2 c2) rfl; have oo3 := O8.cell 3 (v := .int .i64 (R2 : Nat)) rfl; have pq0 := P8.cell 0 (v := .int .i64 (S : Nat)) rfl; have pq1 := P8.cell 1 (v := .int .i64 (I : Nat)) rfl; have pq2 := P8.cell 2 (v := .slice (some ⟨q, o, none⟩) n c) rfl; have pq3 := P8.cell 3 (v := .int .i64 (R : Nat)) rfl) | (go_at_call 7; guard_hyp g8; refine kB1.mono ?_; rintro e V9 ⟨rfl, g9⟩; refine Hid.out ?_))
      refine Lib.hid ?_
      clear kB1 uu0 uu1 uu2 uu3 pp0 pp1 pp2 pp3 oo0 oo1 oo2 oo3 pq0 pq1 pq2 pq3 O8 P8
      have HGz : Hid (w.grownBy V9 none) := gb_trans HG.out (gb_trans G7.out (gb_trans g8 g9))
      clear HH
      by_cases h0 : paE x = 0
      · have kz := parse_ok h0 V9
        clear h0
        go_wp2_with (first | (go_at_call 6; refine kz.mono ?_; rintro e VA ⟨Sx, Ix, Rx, nx, cx, gX, u9, rfl, hxc, hxs, hxt, hxl, hTx, gA⟩; refine Hid.out ?_))
        refine Lib.hid ?_
        clear kz 
        obtain ⟨VB, hVB, szB, gB, BB⟩ := boxn VA #[.int .i64 (Sx : Nat), .int .i64 (Ix : Nat), .slice (some ⟨gX, 0, none⟩) nx cx, .int .i64 (Rx : Nat)] 24
        have hxk := hxc.tok hxs
        rw [Int.toNat_natCast, Int.toNat_natCast, Int.toNat_natCast] at hxk
        have GB := gb_trans HGz.out (gb_trans gA gB)
        have kp := printC Sx Ix Rx gX 0 nx cx u9 _ hxk (by rw [hxt]; have e := Array.length_toList (xs := x.data); show x.data.toList.length ≤ 1048576; rw [e]; exact hxl) VB (hTx.kept gB) (tab_kept HTB.out GB)
        have ex : (⟨(treeTx Sx Ix nx Rx u9).toArray⟩ : ByteArray) = x := by rw [hxt]
        rw [ex] at kp
        have z0 := BB.cell 0 (v := .int .i64 (Sx : Nat)) rfl
        have z1 := BB.cell 1 (v := .int .i64 (Ix : Nat)) rfl
        have z2 := BB.cell 2 (v := .slice (some ⟨gX, 0, none⟩) nx cx) rfl
        have z3 := BB.cell 3 (v := .int .i64 (Rx : Nat)) rfl
        have exx : (x.toList == x.toList) = true := by simp
        have HGB : Hid (w.grownBy VB none) := GB
        clear hxk hxc hxs hxt hxl hTx gA gB BB ex GB szB
        go_wp2_with (first | (go_at_call 5; refine kp.mono ?_; rintro e VC ⟨rfl, gC⟩))
        go_ret
        exact ⟨rfl, gb_trans HGB.out gC⟩
      · have kz := parse_bad h0 V9
        obtain ⟨p9, hp9⟩ : ∃ p, paP x = p := ⟨_, rfl⟩
        obtain ⟨E9, hE9⟩ : ∃ E, paE x = E := ⟨_, rfl⟩
        have hpl : p9 ≤ x.size := by rw [← hp9]; exact paP_le x
        rw [hp9, hE9] at kz
        have hpl1 : (0 : Int) ≤ (p9 : Int) := by omega
        have hpl2 : (p9 : Int) ≤ (x.size : Int) := by omega
        have hne9 : (E9 != 0) = true := by rw [hE9] at h0; simp [h0]
        clear h0 hp9 hE9
        go_wp2_with (first | (go_at_call 6; refine kz.mono ?_; rintro e VA ⟨rfl, gA⟩; refine Hid.out ?_))
        refine Lib.hid ?_
        clear kz 
        obtain ⟨VB, hVB, szB, gB, BB⟩ := boxn VA #[.int .i64 0, .int .i64 0, .slice none 0 0, .int .i64 0] 24
        have HVB : Hid (VA.alloc (.cells #[.int .i64 0, .int .i64 0, .slice none 0 0, .int .i64 0] 24) = VB) := hVB
        clear hVB
        have kn := alikeNil VB
        have HGB : Hid (w.grownBy VB none) := gb_trans HGz.out (gb_trans gA gB)
        clear gA gB BB szB
        go_wp2_with (first | (go_at_call 7; rw [HVB.out]; refine kn.mono ?_; rintro e VC ⟨rfl, gC⟩))
        go_ret
        exact ⟨rfl, gb_trans HGB.out gC⟩
end Rr
end Go.Proofs.YteaionmjbkildacDoor
