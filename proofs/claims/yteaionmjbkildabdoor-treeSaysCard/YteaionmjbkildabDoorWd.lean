/- A tree's text is read back. -/
import Derived.Test.YteaionmjbkildabDoorWa
import Derived.Test.YteaionmjbkildabDoorQs
import Derived.Test.YteaionmjbkildabDoorQ30
import Derived.Test.YteaionmjbkildabDoorQ26
import Derived.Test.YteaionmjbkildabDoorWc
import Derived.Test.YteaionmjbkildabDoorOm
import Derived.Test.YteaionmjbkildabDoorOn
namespace Go.Proofs.YteaionmjbkildabDoor
open Go.RowKit Go.Lib
set_option linter.unusedVariables false
set_option linter.unusedSimpArgs false
set_option maxRecDepth 100000
namespace Rr
theorem lvl_congr {t u : Nat → TN} {n : Nat} (h : ∀ j, j < n → TnE (t j) (u j)) : ∀ j, j ≤ n → lvl t j = lvl u j
  | 0, _ => rfl
  | j + 1, hj => by
    rw [lvl, lvl, lvl_congr h j (by omega)]
    obtain ⟨_, h2, h3⟩ := h j (by omega)
    by_cases e : (t j).kn = 0
    · rw [if_pos e, if_pos (by rw [← h2]; exact e)]
    · rw [if_neg e, if_neg (by rw [← h2]; exact e), h3 0 (by omega)]
theorem lw_congr {t u : Nat → TN} {n : Nat} (h : ∀ j, j < n → TnE (t j) (u j)) {j : Nat} (hj : j < n) : lw t j = lw u j := by
  unfold lw
  rw [lvl_congr h (j + 1) (by omega)]
theorem tne_symm {x y : TN} (h : TnE x y) : TnE y x := ⟨h.1.symm, h.2.1.symm, fun i hi => (h.2.2 i (by rw [h.2.1]; exact hi)).symm⟩
theorem ck_congr {t u : Nat → TN} {n : Nat} {S I R : Int} (h : ∀ j, j < n → TnE (t j) (u j)) (hc : CkOk S I n R t) : CkOk S I n R u := by
  obtain ⟨h1, h2, h3, h4, h5, h6⟩ := hc
  refine ⟨h1, h2, h3, h4, fun j hj => ?_, by rw [← lw_congr h (by omega)]; exact h6⟩
  obtain ⟨e1, e2, e3⟩ := h j hj
  rcases h5 j hj with ⟨a, b⟩ | ⟨a, b, c, d⟩
  · exact .inl ⟨by rw [← e2]; exact a, by rw [← e1]; exact b⟩
  · refine .inr ⟨by rw [← e2]; exact a, by rw [← e1]; exact b, by rw [← e2]; exact c, fun k hk => ?_⟩
    have d0 := d 0 (by omega)
    have dk := d k hk
    rw [← e3 k (by omega), ← e3 0 (by omega), ← lw_congr h (by omega), ← lw_congr h (by omega)]
    exact dk
theorem lw_tok {S I R n : Nat} {t : Nat → TN} {lv : Nat → Nat} (ht : Tok S I R n t lv) : ∀ j, j < n → lw t j = lv j := by
  intro j
  induction j using Nat.strongRecOn with
  | _ j ih =>
    intro hj
    have hn := ht.hn
    have h1 := ht.hs1
    rw [lw_rec t (by omega)]
    rcases ht.hok j hj with ⟨a, _, c⟩ | ⟨_, b, c, d⟩
    · rw [if_pos a, c]
    · have c0 := c 0 (by omega)
      have hk : ((t j).kf 0).toNat < j := by omega
      rw [if_neg (by omega), d, lvl_get t hk]
      have e := ih _ hk (by omega)
      unfold lw at e
      rw [if_pos (by omega)] at e
      rw [e]
theorem tok_ck {S I R n : Nat} {t : Nat → TN} {lv : Nat → Nat} (ht : Tok S I R n t lv) : CkOk (S : Nat) (I : Nat) n (R : Nat) t := by
  have h1 := ht.hs1
  have h2 := ht.hs2
  have h3 := ht.hi
  have h4 := ht.hr
  refine ⟨?_, ht.hn, by omega, by omega, fun j hj => ?_, ?_⟩
  · unfold maB
    simp
    omega
  · rw [Int.toNat_natCast]
    rcases ht.hok j hj with ⟨a, b, _⟩ | ⟨a, b, c, _⟩
    · exact .inl ⟨a, b⟩
    · refine .inr ⟨by omega, a, b, fun k hk => ?_⟩
      have ck := c k hk
      have c0 := c 0 (by omega)
      refine ⟨ck.1, ck.2.1, ?_⟩
      rw [lw_tok ht _ (by omega), lw_tok ht _ (by omega)]
      exact ck.2.2
  · rw [Int.toNat_natCast, lw_tok ht R h4, ht.hrt]
theorem itoa_pos {x : Int} (h : 0 ≤ x) : itoa x = decDigits x.toNat := by
  unfold itoa
  rw [if_neg (by omega)]
theorem kidsTx_is (kf : Nat → Int) : ∀ k, (∀ i, i < k → 0 ≤ kf i) → kidsTx kf k = Pa.kidsT (fun i => (kf i).toNat) k
  | 0, _ => rfl
  | k + 1, h => by rw [kidsTx, Pa.kidsT, kidsTx_is kf k (fun i hi => h i (by omega)), itoa_pos (h k (by omega))]
theorem nodeTx_is (t : TN) (h : ∀ i, i < t.kn → 0 ≤ t.kf i) : nodeTx t = Pa.nodeT t.st (fun i => (t.kf i).toNat) t.kn := by
  unfold nodeTx Pa.nodeT
  rw [kidsTx_is t.kf t.kn h, Pa.itoa_nat]
theorem nodesTx_is (t : Nat → TN) : ∀ n, (∀ j, j < n → ∀ i, i < (t j).kn → 0 ≤ (t j).kf i) → nodesTx t n = Pa.nodesT (fun j => (t j).st) (fun j => (t j).kn) (fun j i => ((t j).kf i).toNat) n
  | 0, _ => rfl
  | n + 1, h => by rw [nodesTx, Pa.nodesT, nodesTx_is t n (fun j hj => h j (by omega)), nodeTx_is (t n) (h n (by omega))]
theorem headTx_is (S I n R : Nat) : headTx S I n R = Pa.headT S I n R := by
  unfold headTx Pa.headT
  rw [Pa.itoa_nat, Pa.itoa_nat, Pa.itoa_nat, Pa.itoa_nat]
/-- The nodes that a tree's text holds. -/
def ndsOf (t : Nat → TN) (n : Nat) : List (Nat × List Nat) := (List.range n).map fun i => ((t i).st, (List.range (t i).kn).map fun k => ((t i).kf k).toNat)
theorem ck_kf {S I R : Int} {n : Nat} {t : Nat → TN} (hc : CkOk S I n R t) {j : Nat} (hj : j < n) : ∀ i, i < (t j).kn → 0 ≤ (t j).kf i ∧ (t j).kf i < 65536 := fun i hi => by
  have h2 := hc.2.1
  rcases hc.2.2.2.2.1 j hj with ⟨a, b⟩ | ⟨a, b, c, d⟩
  · omega
  · have := d i (by omega)
    omega
theorem tr_tx {S I n R : Nat} {t : Nat → TN} (hc : CkOk (S : Nat) (I : Nat) n (R : Nat) t) (hst : ∀ j, (t j).st < 256) : Pa.trR (treeTx S I n R t) = ([S, I, n, R], ndsOf t n, false, true, []) := by
  have hm := maB_is hc.1
  have h2 := hc.2.1
  have h4 := hc.2.2.2.1
  unfold treeTx
  rw [headTx_is, nodesTx_is t n (fun j hj i hi => (ck_kf hc hj i hi).1)]
  refine Pa.trR_back (by omega) (by omega) (by omega) (by omega) _ _ _ (fun i hi => ⟨hst i, fun h => ?_, fun k hk => ?_⟩)
  · rcases hc.2.2.2.2.1 i hi with ⟨a, b⟩ | ⟨a, b, c, d⟩
    · omega
    · exact b
  · have := ck_kf hc hi k hk
    omega
end Rr
end Go.Proofs.YteaionmjbkildabDoor
namespace Go.Proofs.YteaionmjbkildabDoor
open Go.RowKit
set_option linter.unusedVariables false
set_option linter.unusedSimpArgs false
set_option maxRecDepth 100000
namespace Rr
theorem ndW_len (t : Nat → TN) : ∀ n, (ndW t n).length = n * 2
  | 0 => rfl
  | n + 1 => by rw [ndW, List.length_append, ndW_len t n]; simp; omega
theorem ndW_get (t : Nat → TN) {j : Nat} : ∀ {n : Nat}, j < n → (ndW t n)[j * 2]? = some (.int .u8 ((t j).st : Nat)) ∧ (ndW t n)[j * 2 + 1]? = some (.slice (t j).kp (t j).kn (t j).kc)
  | 0, h => absurd h (Nat.not_lt_zero _)
  | n + 1, h => by
    have hl := ndW_len t n
    by_cases e : j = n
    · subst e
      constructor
      · rw [ndW, List.getElem?_append_right (by omega), hl]; simp
      · rw [ndW, List.getElem?_append_right (by omega), hl, show j * 2 + 1 - j * 2 = 1 by omega]; rfl
    · have := ndW_get t (j := j) (n := n) (by omega)
      rw [ndW, List.getElem?_append_left (by omega), List.getElem?_append_left (by omega)]
      exact this
theorem own_in {w : World} {B kn kc : Nat} {kp : Option Addr} {kf : Nat → Int} (h : w.ownsRow B 3 1 (.slice kp kn kc) kn (kidsV kf kn)) : In w kp kn kf := fun k hk => by
  rcases Joins.ownsRow_forms h with ⟨_, e⟩ | ⟨g, cap, e⟩
  · omega
  · cases e
    have := h.cells (g := g) rfl k (.int .i64 (kf k)) (by simp [kidsV, hk])
    exact ⟨_, rfl, this⟩
theorem own_tn {w : World} {B B' n c : Nat} {sp : Option Addr} {t : Nat → TN} (h : w.ownsRow B 69 2 (.slice sp n c) n (ndW t n)) (hk : Ks w B' t n) : ∃ gN, (0 < n → sp = some ⟨gN, 0, none⟩) ∧ Tn w gN 0 n t := by
  rcases Joins.ownsRow_forms h with ⟨_, e⟩ | ⟨g, cap, e⟩
  · subst e
    exact ⟨0, fun h => absurd h (Nat.lt_irrefl _), fun j hj => absurd hj (Nat.not_lt_zero _)⟩
  · cases e
    refine ⟨g, fun _ => rfl, fun j hj => ?_⟩
    obtain ⟨h0, h1⟩ := ndW_get t hj
    have e0 := h.cells (g := g) rfl _ _ h0
    have e1 := h.cells (g := g) rfl _ _ h1
    rw [Addr.add_lit] at e0 e1
    exact ⟨e0, e1, own_in (hk j hj)⟩
/-- Nodes as they were read, and none besides. -/
def AsA (t : Nat → TN) (xs : List (Nat × List Nat)) : Prop := ∀ i, (t i).st = (xs.getD i (0, [])).1 ∧ (t i).kn = (xs.getD i (0, [])).2.length ∧ (t i).kf = lf (xs.getD i (0, [])).2
def cutT (t : Nat → TN) (n : Nat) (i : Nat) : TN := if i < n then t i else ⟨0, none, 0, 0, lf []⟩
theorem cutT_lt {t : Nat → TN} {n i : Nat} (h : i < n) : cutT t n i = t i := by simp [cutT, h]
theorem As.all {t : Nat → TN} {xs : List (Nat × List Nat)} (h : As t xs) : AsA (cutT t xs.length) xs := fun i => by
  by_cases hi : i < xs.length
  · rw [cutT_lt hi]; exact h i hi
  · have e : xs.getD i (0, []) = (0, []) := by rw [List.getD_eq_getElem?_getD, List.getElem?_eq_none (by omega)]; rfl
    rw [e]
    simp [cutT, hi]
theorem AsA.tne {t u : Nat → TN} {xs : List (Nat × List Nat)} (h : AsA t xs) (k : AsA u xs) (j : Nat) : TnE (t j) (u j) := ⟨(h j).1.trans (k j).1.symm, (h j).2.1.trans (k j).2.1.symm, fun i _ => by rw [(h j).2.2, (k j).2.2]⟩
/-- The nodes that were read, as a function. -/
def tnX (xs : List (Nat × List Nat)) : Nat → TN := tnOf xs (fun _ => none)
theorem tnX_as (xs : List (Nat × List Nat)) : AsA (tnX xs) xs := fun i => ⟨rfl, rfl, rfl⟩
theorem AsA.lt {t : Nat → TN} {xs : List (Nat × List Nat)} (h : AsA t xs) (hx : ∀ y ∈ xs, Pa.NdOk y) (j : Nat) : (t j).st < 256 := by
  rw [(h j).1]
  by_cases hj : j < xs.length
  · rw [List.getD_eq_getElem?_getD, List.getElem?_eq_getElem hj]
    exact (hx _ (List.getElem_mem hj)).1
  · rw [List.getD_eq_getElem?_getD, List.getElem?_eq_none (by omega)]
    decide
/-- What was read may be. -/
def CkO (hd : List Nat) (xs : List (Nat × List Nat)) : Prop := CkOk (hd.getD 0 0 : Nat) (hd.getD 1 0 : Nat) (hd.getD 2 0) (hd.getD 3 0 : Nat) (tnX xs)
open Classical in
/-- Parse's error. -/
noncomputable def paE (x : ByteArray) : Int := if 1048576 < x.size then 3 else if (Pa.trR x.data.toList).2.2.2.1 = false then 110 else if (Pa.trR x.data.toList).2.2.1 = false ∧ CkO (Pa.trR x.data.toList).1 (Pa.trR x.data.toList).2.1 then 0 else 110
/-- Parse's place. -/
def paP (x : ByteArray) : Nat := if 1048576 < x.size then 0 else if (Pa.trR x.data.toList).2.2.2.1 = false then Pa.po x (Pa.trR x.data.toList).2.2.2.2 else 0
/-- What a tree that was read is. -/
def PaT (w : World) (x : ByteArray) (B : Nat) (V : Value) : Prop := ∃ S I R n c gN t, V = .agg #[.int .i64 (S : Nat), .int .i64 (I : Nat), .slice (some ⟨gN, 0, none⟩) n c, .int .i64 (R : Nat)] ∧ (Pa.trR x.data.toList).1 = [S, I, n, R] ∧ n = (Pa.trR x.data.toList).2.1.length ∧ AsA t (Pa.trR x.data.toList).2.1 ∧ CkOk (S : Nat) (I : Nat) n (R : Nat) t ∧ w.ownsRow B 69 2 (.slice (some ⟨gN, 0, none⟩) n c) n (ndW t n) ∧ Ks w B t n
/-- What Parse leaves. -/
def PaPost (w : World) (x : ByteArray) (e : Ending) (w' : World) : Prop := w.grownBy w' none ∧ ∃ V, e = .returned (.tuple #[V, .int .i64 (paP x : Nat), .int .i64 (paE x)]) ∧ (paE x ≠ 0 → V = .agg #[.int .i64 0, .int .i64 0, .slice none 0 0, .int .i64 0]) ∧ (paE x = 0 → PaT w' x w.heap.size V)
theorem Ks.cut {w : World} {B n : Nat} {t : Nat → TN} (h : Ks w B t n) : Ks w B (cutT t n) n := fun i hi => by rw [cutT_lt hi]; exact h i hi
theorem ndW_cut (t : Nat → TN) (n : Nat) : ndW (cutT t n) n = ndW t n := ndW_congr fun k hk => cutT_lt hk
theorem PaPost.bad {w w' : World} {x : ByteArray} {p : Nat} {E : Int} (h1 : paE x = E) (h2 : paP x = p) (hE : E ≠ 0) (g : w.grownBy w' none) : PaPost w x (.returned (.tuple #[.agg #[.int .i64 0, .int .i64 0, .slice none 0 0, .int .i64 0], .int .i64 (p : Nat), .int .i64 E])) w' := ⟨g, _, by rw [h1, h2], fun _ => rfl, fun q => absurd (h1.symm.trans q) hE⟩
theorem PaPost.good {w w' : World} {x : ByteArray} {V : Value} (h1 : paE x = 0) (h2 : paP x = 0) (g : w.grownBy w' none) (hV : PaT w' x w.heap.size V) : PaPost w x (.returned (.tuple #[V, .int .i64 ((0 : Nat) : Int), .int .i64 0])) w' := ⟨g, _, by rw [h1, h2], fun q => absurd h1 q, fun _ => hV⟩
set_option maxHeartbeats 4000000 in
theorem parseC (x : ByteArray) (w : World) : Calls Tryd.prog 15 #[.string x] w (PaPost w x) := by
  obtain ⟨fs, hfs⟩ := underTr
  have HF : Hid (Tryd.prog.underlying 24 = some (.struct fs)) := hfs
  clear hfs
  obtain ⟨W1, hW1, sz1, g1, B1⟩ := boxn w #[.int .i64 0, .int .i64 0, .slice none 0 0, .int .i64 0] 24
  have le : w.heap.size ≤ w.heap.size := Nat.le_refl _
  by_cases hz : 1048576 < x.size
  · have hz' : (1048576 : Int) < (x.size : Int) := by omega
    have e1 : Hid (paE x = 3) := if_pos hz
    have e2 : Hid (paP x = 0) := if_pos hz
    have b0 := B1.cell 0 (v := .int .i64 0) rfl
    have b1 := B1.cell 1 (v := .int .i64 0) rfl
    have b2 := B1.cell 2 (v := .slice none 0 0) rfl
    have b3 := B1.cell 3 (v := .int .i64 0) rfl
    have bf0 := B1.frozen 0
    have bf1 := B1.frozen 1
    have bf2 := B1.frozen 2
    have bf3 := B1.frozen 3
    clear hz
    go_enter Tryd.func15, Tryd.ntmps15
    go_wp2
    refine ret_c3 (g := w.heap.size) (t := 24) (cs := #[.int .i64 0, .int .i64 0, .slice none 0 0, .int .i64 0]) rfl HF.out infoTr rfl (by first | exact (((B1.set 0 _).set 1 _).set 2 _).set 3 _ | exact B1) rfl ?_
    refine (PaPost.bad e1.out e2.out (by decide) ?_)
    exact gb_new (gb_new (gb_new (gb_new g1 le _) le _) le _) le _
  · have hz' : ¬ (1048576 : Int) < (x.size : Int) := by omega
    have hz2 : x.size ≤ 1048576 := by omega
    obtain ⟨W2, hW2, sz2, g2, B2⟩ := boxn W1 #[.string x, .int .i64 0, .bool false] 83
    have HW2 : Hid (W1.alloc (.cells #[.string x, .int .i64 0, .bool false] 83) = W2) := hW2
    clear hW2
    have G2 := gb_trans g1 g2
    have R2 : Rd W2 W1.heap.size x x.data.toList false := by
      unfold Rd
      rw [Pa.po_all]
      exact B2
    obtain ⟨⟨hd, xs, big, B, r'⟩, hX⟩ : ∃ Z, Pa.trR x.data.toList = Z := ⟨_, rfl⟩
    have ht := treeC W1.heap.size x x.data.toList hd xs big B r' hX (Pa.Suf.all x) hz2 W2 R2
    have HX : Hid (Pa.trR x.data.toList = (hd, xs, big, B, r')) := hX
    have HA : Hid (w.heap.size < W1.heap.size ∧ W1.heap.size < W2.heap.size) := ⟨by have := sz1.out; omega, by have := sz2.out; omega⟩
    have HB1 : Hid (Bo W2 w.heap.size 24 #[.int .i64 0, .int .i64 0, .slice none 0 0, .int .i64 0]) := B1.kept g2 (by simp)
    have HG2 : Hid (w.grownBy W2 none) := G2
    have HZ : Hid (¬ 1048576 < x.size) := hz
    clear hX hz hz2 R2 B1 B2 g1 g2 G2 sz1 sz2
    go_enter Tryd.func15, Tryd.ntmps15
    go_wp2_with (first | (go_at_call 41; rw [HW2.out]; refine ht.mono ?_; intro e w3 hp; obtain ⟨a, b, d, sp, n, c, he, hR3, hG3, hq⟩ := hp; subst he; refine Hid.out ?_))
    refine Lib.hid ?_
    clear ht
    have G3 : w.grownBy w3 none := HG2.out.andThen hG3 (fun b hb => .inl (by cases hb; exact Nat.le_of_lt HA.out.1))
    have X3 := HB1.out.kept hG3 (by have := HA.out; simp; omega)
    obtain ⟨W4, hW4, sz4, g4, B4⟩ := boxn w3 #[.int .i64 a, .int .i64 b, .slice sp n c, .int .i64 d] 24
    have X4 := X3.kept g4 (by simp)
    have R4 := hR3.kept g4 (by simp)
    have HG4 : Hid (w.grownBy W4 none) := gb_trans G3 g4
    have r1 := R4.c1
    have r2 := R4.c2
    have hz' : ¬ (1048576 : Int) < (x.size : Int) := by have := HZ.out; omega
    have b0 := X4.cell 0 (v := .int .i64 0) rfl
    have b1 := X4.cell 1 (v := .int .i64 0) rfl
    have b2 := X4.cell 2 (v := .slice none 0 0) rfl
    have b3 := X4.cell 3 (v := .int .i64 0) rfl
    have bf0 := X4.frozen 0
    have bf1 := X4.frozen 1
    have bf2 := X4.frozen 2
    have bf3 := X4.frozen 3
    cases B with
    | false =>
      have e1 : Hid (paE x = 110) := by unfold Hid paE; rw [if_neg HZ.out, HX.out]; rfl
      have e2 : Hid (paP x = Pa.po x r') := by unfold Hid paP; rw [if_neg HZ.out, HX.out]; rfl
      have ne1 : w.heap.size ≠ W1.heap.size := by have := HA.out; omega
      have ne2 := ne1.symm
      clear hq
      go_wp2
      go_region
      all_goals
        go_wp2
        refine ret_c3 (g := w.heap.size) (t := 24) (cs := #[.int .i64 0, .int .i64 0, .slice none 0 0, .int .i64 0]) rfl HF.out infoTr rfl ((((X4.set 0 _).set 1 _).set 2 _).set 3 _) rfl (PaPost.bad e1.out e2.out (by decide) ?_)
        exact gb_drew (gb_new (gb_new (gb_new (gb_new HG4.out le _) le _) le _) le _)
    | true =>
      have e2 : Hid (paP x = 0) := by unfold Hid paP; rw [if_neg HZ.out, HX.out]; rfl
      cases big with
      | true =>
        have e1 : Hid (paE x = 110) := by unfold Hid paE; rw [if_neg HZ.out, HX.out]; rfl
        clear hq
        go_wp2
        refine ret_c3 (g := w.heap.size) (t := 24) (cs := #[.int .i64 0, .int .i64 0, .slice none 0 0, .int .i64 0]) rfl HF.out infoTr rfl ((((X4.set 0 _).set 1 _).set 2 _).set 3 _) rfl (PaPost.bad e1.out e2.out (by decide) ?_)
        exact gb_new (gb_new (gb_new (gb_new HG4.out le _) le _) le _) le _
      | false =>
        obtain ⟨S, I, R, t, hhd, rfl, rfl, rfl, hn, hAs, own, hKs⟩ := hq rfl
        have hw := Pa.trR_was (r := x.data.toList) (by rw [HX.out]) (by rw [HX.out])
        rw [HX.out] at hw
        have hok : ∀ y ∈ xs, Pa.NdOk y := by
          obtain ⟨_, _, _, _, _, _, _, _, _, _, h, _⟩ := hw
          exact h
        have hAA : AsA (cutT t n) xs := by rw [hn]; exact As.all hAs
        have own4 : W4.ownsRow W2.heap.size 69 2 (.slice sp n c) n (ndW (cutT t n) n) := by rw [ndW_cut]; exact own.kept g4 (Classical.em _)
        have K4 : Ks W4 W2.heap.size (cutT t n) n := (hKs.kept g4 (by simp)).cut
        obtain ⟨gN, hsp, hTn⟩ := own_tn own4 K4
        obtain ⟨u, hu⟩ : ∃ u, cutT t n = u := ⟨_, rfl⟩
        rw [hu] at hAA own4 K4 hTn
        have hst := hAA.lt hok
        have hck := checkC (S : Nat) (I : Nat) (R : Nat) sp gN 0 n c u hsp hst W4 hTn
        have HC : CkO hd xs ↔ CkOk (S : Nat) (I : Nat) n (R : Nat) u := by
          unfold CkO
          rw [hhd]
          exact ⟨fun h => ck_congr (fun j _ => (tnX_as xs).tne hAA j) h, fun h => ck_congr (fun j _ => hAA.tne (tnX_as xs) j) h⟩
        have HO : Hid (W4.ownsRow W2.heap.size 69 2 (.slice sp n c) n (ndW u n)) := own4
        have HK : Hid (Ks W4 W2.heap.size u n) := K4
        have HAA : Hid (AsA u xs ∧ hd = [S, I, n, R] ∧ n = xs.length) := ⟨hAA, hhd, hn⟩
        have HSP : Hid (0 < n → sp = some ⟨gN, 0, none⟩) := hsp
        have HX4 : Hid (Bo W4 w.heap.size 24 #[.int .i64 0, .int .i64 0, .slice none 0 0, .int .i64 0]) := X4
        have HT4 : Hid (Bo W4 w3.heap.size 24 #[.int .i64 (S : Nat), .int .i64 (I : Nat), .slice sp n c, .int .i64 (R : Nat)]) := B4
        clear hq hAs own hKs hw hok hAA own4 K4 hTn hst hhd hn hu hsp X4 X3
        have t0 := B4.cell 0 (v := .int .i64 (S : Nat)) rfl
        have t1 := B4.cell 1 (v := .int .i64 (I : Nat)) rfl
        have t2 := B4.cell 2 (v := .slice sp n c) rfl
        have t3 := B4.cell 3 (v := .int .i64 (R : Nat)) rfl
        by_cases hc : CkOk (S : Nat) (I : Nat) n (R : Nat) u
        · have e1 : Hid (paE x = 0) := by unfold Hid paE; rw [if_neg HZ.out, HX.out, if_neg (by simp)]; exact if_pos ⟨rfl, HC.2 hc⟩
          rw [if_pos hc] at hck
          have HCC : Hid (CkOk (S : Nat) (I : Nat) n (R : Nat) u) := hc
          clear HC hc
          go_wp2_with (first | (go_at_call 20; refine hck.mono ?_; rintro e w5 ⟨rfl, hG5⟩; have BB := HX4.out.kept hG5 (by simp); have TTT := HT4.out.kept hG5 (by simp); have p0 := BB.cell 0 (v := .int .i64 0) rfl; have p1 := BB.cell 1 (v := .int .i64 0) rfl; have p2 := BB.cell 2 (v := .slice none 0 0) rfl; have p3 := BB.cell 3 (v := .int .i64 0) rfl; have pf0 := BB.frozen 0; have pf1 := BB.frozen 1; have pf2 := BB.frozen 2; have pf3 := BB.frozen 3; have q0 := TTT.cell 0 (v := .int .i64 (S : Nat)) rfl; have q1 := TTT.cell 1 (v := .int .i64 (I : Nat)) rfl; have q2 := TTT.cell 2 (v := .slice sp n c) rfl; have q3 := TTT.cell 3 (v := .int .i64 (R : Nat)) rfl))
          have le2 : w.heap.size ≤ W2.heap.size := by have := HA.out; omega
          refine ret_c3 (g := w.heap.size) (t := 24) (cs := #[.int .i64 (S : Nat), .int .i64 (I : Nat), .slice sp n c, .int .i64 (R : Nat)]) rfl HF.out infoTr rfl ((((BB.set 0 _).set 1 _).set 2 _).set 3 _) rfl (PaPost.good e1.out e2.out ?_ ?_)
          · exact gb_new (gb_new (gb_new (gb_new (gb_trans HG4.out hG5) le _) le _) le _) le _
          · have hn0 : 0 < n := by have h1 := HCC.out.2.2.1; have h2 := HCC.out.2.2.2.1; omega
            obtain rfl := HSP.out hn0
            have gs : ∀ X, w5.grownBy X (some w.heap.size) → X.ownsRow w.heap.size 69 2 (.slice (some ⟨gN, 0, none⟩) n c) n (ndW u n) ∧ Ks X w.heap.size u n := fun X hX => by
              have o5 := (HO.out.kept hG5 (Classical.em _))
              have k5 := HK.out.kept hG5 (by simp)
              refine ⟨Joins.ownsRow_le (o5.kept hX (.inr fun e => by have := (o5.lt _ e).1; have := HA.out; omega)) le2, fun i hi => Joins.ownsRow_le ((k5.kept hX (by intro b hb; cases hb; have := HA.out; omega)) i hi) le2⟩
            obtain ⟨o6, k6⟩ := gs _ (gb_set (gb_set (gb_set (gb_set (World.grownBy.refl w5 _) _ _) _ _) _ _) _ _)
            unfold PaT
            rw [HX.out]
            exact ⟨S, I, R, n, c, gN, u, rfl, HAA.out.2.1, HAA.out.2.2, HAA.out.1, HCC.out, o6, k6⟩
        · have e1 : Hid (paE x = 110) := by unfold Hid paE; rw [if_neg HZ.out, HX.out, if_neg (by simp)]; exact if_neg fun q => hc (HC.1 q.2)
          rw [if_neg hc] at hck
          clear HC hc
          go_wp2_with (first | (go_at_call 20; refine hck.mono ?_; rintro e w5 ⟨rfl, hG5⟩; have BB := HX4.out.kept hG5 (by simp); have p0 := BB.cell 0 (v := .int .i64 0) rfl; have p1 := BB.cell 1 (v := .int .i64 0) rfl; have p2 := BB.cell 2 (v := .slice none 0 0) rfl; have p3 := BB.cell 3 (v := .int .i64 0) rfl; have pf0 := BB.frozen 0; have pf1 := BB.frozen 1; have pf2 := BB.frozen 2; have pf3 := BB.frozen 3))
          refine ret_c3 (g := w.heap.size) (t := 24) (cs := #[.int .i64 0, .int .i64 0, .slice none 0 0, .int .i64 0]) rfl HF.out infoTr rfl ((((BB.set 0 _).set 1 _).set 2 _).set 3 _) rfl (PaPost.bad e1.out e2.out (by decide) ?_)
          exact gb_new (gb_new (gb_new (gb_new (gb_trans HG4.out hG5) le _) le _) le _) le _
theorem ndsOf_at {t : Nat → TN} {n j : Nat} (hj : j < n) : (ndsOf t n).getD j (0, []) = ((t j).st, (List.range (t j).kn).map fun k => ((t j).kf k).toNat) := by
  unfold ndsOf
  rw [List.getD_eq_getElem?_getD, List.getElem?_map, List.getElem?_range hj]
  rfl
theorem nds_tne {u t : Nat → TN} {n : Nat} {S I R : Int} (hc : CkOk S I n R t) (h : AsA u (ndsOf t n)) : ∀ j, j < n → TnE (u j) (t j) := fun j hj => by
  obtain ⟨h1, h2, h3⟩ := h j
  rw [ndsOf_at hj] at h1 h2 h3
  refine ⟨h1, by rw [h2]; simp, fun i hi => ?_⟩
  have hi2 : i < (t j).kn := by rw [h2] at hi; simpa using hi
  have := ck_kf hc hj i hi2
  rw [h3]
  unfold lf
  rw [List.getD_eq_getElem?_getD, List.getElem?_map, List.getElem?_range hi2]
  show ((((t j).kf i).toNat : Nat) : Int) = (t j).kf i
  omega
open Classical in
theorem pa_tx {S I n R : Nat} {t : Nat → TN} (hc : CkOk (S : Nat) (I : Nat) n (R : Nat) t) (hst : ∀ j, (t j).st < 256) {X : ByteArray} (hX : X.data.toList = treeTx S I n R t) (hlen : X.size ≤ 1048576) : paE X = 0 ∧ paP X = 0 := by
  have hx := tr_tx hc hst
  have hl : ¬ 1048576 < X.size := by omega
  have hk : CkO [S, I, n, R] (ndsOf t n) := ck_congr (fun j hj => tne_symm (nds_tne hc (tnX_as _) j hj)) hc
  constructor
  · unfold paE
    rw [if_neg hl, hX, hx, if_neg (by simp)]
    exact if_pos ⟨rfl, hk⟩
  · unfold paP
    rw [if_neg hl, hX, hx]
    rfl
theorem PaT.back {S I n R : Nat} {t : Nat → TN} (hc : CkOk (S : Nat) (I : Nat) n (R : Nat) t) (hst : ∀ j, (t j).st < 256) {X : ByteArray} (hX : X.data.toList = treeTx S I n R t) {w : World} {B : Nat} {V : Value} (h : PaT w X B V) : ∃ c gN u, V = .agg #[.int .i64 (S : Nat), .int .i64 (I : Nat), .slice (some ⟨gN, 0, none⟩) n c, .int .i64 (R : Nat)] ∧ (∀ j, j < n → TnE (u j) (t j)) ∧ Tn w gN 0 n u ∧ w.ownsRow B 69 2 (.slice (some ⟨gN, 0, none⟩) n c) n (ndW u n) ∧ Ks w B u n := by
  obtain ⟨S', I', R', n', c, gN, u, rfl, h1, h2, h3, h4, h5, h6⟩ := h
  have hx := tr_tx hc hst
  rw [hX, hx] at h1 h2 h3
  simp only [List.cons.injEq] at h1
  obtain ⟨rfl, rfl, rfl, rfl, -⟩ := h1
  obtain ⟨g, hg, hT⟩ := own_tn h5 h6
  have hn0 : 0 < n := by have a := h4.2.2.1; have b := h4.2.2.2.1; omega
  have e := hg hn0
  cases e
  exact ⟨c, gN, u, rfl, nds_tne hc h3, hT, h5, h6⟩
end Rr
end Go.Proofs.YteaionmjbkildabDoor
namespace Go.Proofs.YteaionmjbkildabDoor
open Go.RowKit Go.Lib
set_option linter.unusedVariables false
set_option linter.unusedSimpArgs false
set_option maxRecDepth 100000

theorem atD (gN gi : Nat) (sp : Nat → Option Addr) (w : World) (hT : Tn w gN 0 5 (tnOf LD sp)) (c0 : w.cell? ⟨gi, 0, none⟩ = some (.int .u8 1)) (c1 : w.cell? ⟨gi, 1, none⟩ = some (.int .u8 0)) : Calls Tryd.prog 22 #[.agg #[.int .i64 2, .int .i64 2, .slice (some ⟨gN, 0, none⟩) 5 5, .int .i64 4], .slice (some ⟨gi, 0, none⟩) 2 2] w fun e w' => e = .returned (.tuple #[.int .u8 1, .int .i64 0]) ∧ w.grownBy w' none := by
  have h := atC 2 2 4 gN 0 5 5 (tnOf LD sp) lvD (tokD sp) (some ⟨gi, 0, none⟩) 2 (fun i => [1, 0].getD i 0) (fun i hi => match i, hi with | 0, _ => by decide | 1, _ => by decide) w hT (fun k hk => match k, hk with | 0, _ => ⟨_, rfl, c0⟩ | 1, _ => ⟨_, rfl, c1⟩)
  rw [goD] at h
  exact h
theorem keepsD (gN gi : Nat) (sp : Nat → Option Addr) (w : World) (hT : Tn w gN 0 5 (tnOf LD sp)) (c0 : w.cell? ⟨gi, 0, none⟩ = some (.int .i64 1)) (c1 : w.cell? ⟨gi, 1, none⟩ = some (.int .i64 0)) : Calls Tryd.prog 31 #[.agg #[.int .i64 2, .int .i64 2, .slice (some ⟨gN, 0, none⟩) 5 5, .int .i64 4], .slice (some ⟨gi, 0, none⟩) 2 2] w fun e w' => e = .returned (.tuple #[.bool true, .int .i64 0]) ∧ w.grownBy w' none := by
  have h := keepsC 2 2 4 gN 0 5 5 (tnOf LD sp) lvD (tokD sp) (by decide) (some ⟨gi, 0, none⟩) 2 (fun i => [1, 0].getD i 0) orD w hT (fun k hk => match k, hk with | 0, _ => ⟨_, rfl, c0⟩ | 1, _ => ⟨_, rfl, c1⟩)
  rw [keD] at h
  exact h
theorem printD (gN : Nat) (sp : Nat → Option Addr) (w : World) (hT : Tn w gN 0 5 (tnOf LD sp)) (htab : Tab w) : Calls Tryd.prog 11 #[.agg #[.int .i64 2, .int .i64 2, .slice (some ⟨gN, 0, none⟩) 5 5, .int .i64 4]] w fun e w' => e = .returned (.tuple #[.string ⟨txD.toArray⟩, .int .i64 0]) ∧ w.grownBy w' none := by
  have h := printC 2 2 4 gN 0 5 5 (tnOf LD sp) lvD (tokD sp) (by rw [txD_is]; decide) w hT htab
  rw [txD_is] at h
  exact h
theorem gPw : Tryd.prog.globalNamed "internal/strconv.uint64pow10" = some 0 := by kernel_rfl
theorem tab_kept {w w' : World} (h : Tab w) (g : w.grownBy w' none) : Tab w' := Joins.tab_stays gPw h (gb_below g) (Nat.le_refl _)

set_option maxHeartbeats 2000000 in
theorem aliveC (w : World) (htab : Tab w) : Calls Tryd.prog 9 #[] w fun e w' => e = .returned (.bool true) ∧ w.grownBy w' none := by
  have hd := differC w
  go_enter Tryd.func9, Tryd.ntmps9
  go_wp2_with (first | (go_at_call 32; refine hd.mono ?_; rintro e w1 ⟨gA, rfl, _, BA, g1⟩; refine Hid.out ?_))
  refine Lib.hid ?_
  have ho := ofD gA w1 BA
  go_wp2_with (first | (go_at_call 19; refine ho.mono ?_; rintro e w2 ⟨gN, sp, rfl, hT, g2⟩; refine Hid.out ?_))
  refine Lib.hid ?_
  clear hd ho
  obtain ⟨W3, hW3, sz3, g3, B3⟩ := boxn w2 #[.int .i64 2, .int .i64 2, .slice (some ⟨gN, 0, none⟩) 5 5, .int .i64 4] 24
  obtain ⟨W4, hW4, sz4, g4, B4⟩ := boxn W3 #[.int .u8 1, .int .u8 0] 5
  have hT4 := (hT.kept g3).kept g4
  have tb4 := tab_kept (tab_kept (tab_kept (tab_kept htab g1) g2) g3) g4
  have B34 := B3.kept g4 (by simp)
  have a0 := B3.cell 0 (v := .int .i64 2) rfl
  have a1 := B3.cell 1 (v := .int .i64 2) rfl
  have a2 := B3.cell 2 (v := .slice (some ⟨gN, 0, none⟩) 5 5) rfl
  have a3 := B3.cell 3 (v := .int .i64 4) rfl
  have hat := atD gN W3.heap.size sp W4 hT4 (B4.cell 0 rfl) (B4.cell 1 rfl)
  have c0 := B34.cell 0 (v := .int .i64 2) rfl
  have c1 := B34.cell 1 (v := .int .i64 2) rfl
  have c2 := B34.cell 2 (v := .slice (some ⟨gN, 0, none⟩) 5 5) rfl
  have c3 := B34.cell 3 (v := .int .i64 4) rfl
  go_wp2_with (first | (go_at_call 22; refine hat.mono ?_; rintro e w5 ⟨rfl, g5⟩; refine Hid.out ?_))
  refine Lib.hid ?_
  clear hat a0 a1 a2 a3 c0 c1 c2 c3
  have B35 := B34.kept g5 (by simp)
  have hpr := printD gN sp w5 (hT4.kept g5) (tab_kept tb4 g5)
  have c0 := B35.cell 0 (v := .int .i64 2) rfl
  have c1 := B35.cell 1 (v := .int .i64 2) rfl
  have c2 := B35.cell 2 (v := .slice (some ⟨gN, 0, none⟩) 5 5) rfl
  have c3 := B35.cell 3 (v := .int .i64 4) rfl
  go_wp2_with (first | (go_at_call 11; refine hpr.mono ?_; rintro e w6 ⟨rfl, g6⟩; refine Hid.out ?_))
  refine Lib.hid ?_
  clear hpr c0 c1 c2 c3
  obtain ⟨W7, hW7, sz7, g7, B7⟩ := boxn w6 #[.int .i64 1, .int .i64 0] 3
  have B36 := B35.kept g6 (by simp)
  have B37 := B36.kept g7 (by simp)
  have a0 := B36.cell 0 (v := .int .i64 2) rfl
  have a1 := B36.cell 1 (v := .int .i64 2) rfl
  have a2 := B36.cell 2 (v := .slice (some ⟨gN, 0, none⟩) 5 5) rfl
  have a3 := B36.cell 3 (v := .int .i64 4) rfl
  have hke := keepsD gN w6.heap.size sp W7 (((hT4.kept g5).kept g6).kept g7) (B7.cell 0 rfl) (B7.cell 1 rfl)
  have c0 := B37.cell 0 (v := .int .i64 2) rfl
  have c1 := B37.cell 1 (v := .int .i64 2) rfl
  have c2 := B37.cell 2 (v := .slice (some ⟨gN, 0, none⟩) 5 5) rfl
  have c3 := B37.cell 3 (v := .int .i64 4) rfl
  go_wp2_with (first | (go_at_call 31; refine hke.mono ?_; rintro e w8 ⟨rfl, g8⟩; refine Hid.out ?_))
  refine Lib.hid ?_
  clear hke c0 c1 c2 c3
  have G := gb_trans g1 (gb_trans g2 (gb_trans g3 (gb_trans g4 (gb_trans g5 (gb_trans g6 (gb_trans g7 g8))))))
  go_wp2
  go_ret
  exact ⟨rfl, G⟩
end Go.Proofs.YteaionmjbkildabDoor
namespace Go.Proofs.YteaionmjbkildabDoor
open Go.RowKit
set_option linter.unusedVariables false
set_option linter.unusedSimpArgs false
set_option maxRecDepth 100000
namespace Rr
theorem ev_says (S I : Nat) (h1 : 1 ≤ S) (h4 : S ≤ 4) (hi : I ≤ 5) (f : List Nat → Nat) (hf : ∀ x, f x < S) (L : List Nd) (hL : frm S I (ans S I f) = L) (sp : Nat → Option Addr) : ∃ lv, Tok S I (L.length - 1) L.length (tnOf L sp) lv ∧ ∀ x, x.length = I → (∀ s ∈ x, s < S) → ev (tnOf L sp) (L.length - 1) I x = f x := by
  have hA : ∀ i, ans S I f i < S := fun i => by unfold ans; exact hf _
  obtain ⟨lv, ht, hc⟩ := tok_frm S I h1 h4 hi _ hA L hL sp
  refine ⟨lv, ht, fun x hx hs => ?_⟩
  have h := hL.trans (hc.symm.trans (canon_is ht))
  rw [frm_eq S h1 I _ _ hA (ans_lt ht), same_rows S I (by omega)] at h
  obtain ⟨k, k1, k2⟩ := dgs_all (show 0 < S by omega) x hs
  rw [hx] at k1 k2
  rw [← k2]
  exact (h k k1).symm
theorem frm_few {st inp : Nat} (h1 : 1 ≤ st) (h4 : st ≤ 4) (hi : inp ≤ 5) (A : Nat → Nat) (hA : ∀ i, A i < 256) : (frm st inp A).length ≤ 2065 := by
  have e1 := (bld_stp st A (by omega) hA inp).le ([], 0)
  have e2 := clN_le st h1 inp (by omega)
  have e3 := pow_small h4 hi h1
  unfold frm
  simp at e1
  omega
theorem tx_few (t : Nat → TN) : ∀ n, (∀ j, j < n → (t j).kn ≤ 4 ∧ (t j).st < 256 ∧ ∀ i, i < (t j).kn → 0 ≤ (t j).kf i ∧ (t j).kf i < 65536) → (nodesTx t n).length ≤ 100 * n
  | 0, _ => by simp [nodesTx]
  | n + 1, h => by
    have ih := tx_few t n (fun j hj => h j (by omega))
    obtain ⟨h1, h2, h3⟩ := h n (by omega)
    have h4 := kidsTx_len (t n).kf (kn := (t n).kn) (fun k hk => by have := h3 k hk; omega) (t n).kn (Nat.le_refl _)
    have h5 := Lib.itoa_length_le ((t n).st : Int) (by omega) (by omega)
    rw [nodesTx, List.length_append]
    have h6 : (nodeTx (t n)).length ≤ 100 := by
      unfold nodeTx
      split
      · simp; omega
      · rw [List.length_append]; simp; omega
    omega
theorem headTx_few {S I n R : Nat} (hS : S < 1000000) (hI : I < 1000000) (hn : n < 1000000) (hR : R < 1000000) : (headTx S I n R).length ≤ 200 := by
  have h1 := Lib.itoa_length_le (S : Int) (by omega) (by omega)
  have h2 := Lib.itoa_length_le (I : Int) (by omega) (by omega)
  have h3 := Lib.itoa_length_le (n : Int) (by omega) (by omega)
  have h4 := Lib.itoa_length_le (R : Int) (by omega) (by omega)
  unfold headTx
  simp only [List.length_append, List.length_cons, List.length_nil]
  omega
/-- A text that says a tree is read as that tree. -/
theorem parse_tx {S I n R : Nat} {t : Nat → TN} (hc : CkOk (S : Nat) (I : Nat) n (R : Nat) t) (hst : ∀ j, (t j).st < 256) {X : ByteArray} (hX : X.data.toList = treeTx S I n R t) (hlen : X.size ≤ 1048576) (w : World) :
    Calls Tryd.prog 15 #[.string X] w fun e w' => ∃ c gU u, e = .returned (.tuple #[.agg #[.int .i64 (S : Nat), .int .i64 (I : Nat), .slice (some ⟨gU, 0, none⟩) n c, .int .i64 (R : Nat)], .int .i64 0, .int .i64 0]) ∧ (∀ j, j < n → TnE (u j) (t j)) ∧ Tn w' gU 0 n u ∧ w.grownBy w' none := by
  refine (parseC X w).mono ?_
  intro e w' hp
  obtain ⟨g, V, rfl, _, h⟩ := hp
  obtain ⟨e1, e2⟩ := pa_tx hc hst hX hlen
  obtain ⟨c, gU, u, rfl, h1, h2, _, _⟩ := PaT.back hc hst hX (h e1)
  exact ⟨c, gU, u, by rw [e1, e2]; rfl, h1, h2, g⟩
set_option maxHeartbeats 4000000 in
theorem says_walk (S1 I1 : Int) (sp1 : Option Addr) (n1 c1 : Nat) (f1 : Nat → Nat) (num : Nat) (w : World) (htab : Tab w)
    (hS1 : -9223372036854775808 ≤ S1 ∧ S1 ≤ 9223372036854775807) (hI1 : -9223372036854775808 ≤ I1 ∧ I1 ≤ 9223372036854775807) (hn1 : n1 ≤ 140737488355328) (h81 : ∀ i, f1 i < 256) (hf1 : By w sp1 n1 f1) (hnum : num < 18446744073709551616) :
    Calls Tryd.prog 5 #[.agg #[.int .i64 S1, .int .i64 I1, .slice sp1 n1 c1], .int .u64 (num : Nat)] w fun e w' => e = .returned (.bool true) ∧ w.grownBy w' none := by
  obtain ⟨W1, hW1, sz1, g1, B1⟩ := boxn w #[.int .i64 S1, .int .i64 I1, .slice sp1 n1 c1] 46
  have kav := aliveC W1 (tab_kept htab g1)
  have bs := (smS_bd S1).1
  have bi := (smI_bd I1).1
  have k1 := fun V (gV : W1.grownBy V none) => smallC S1 I1 hS1 hI1 sp1 n1 c1 hn1 f1 h81 V (hf1.kept (gb_trans g1 gV) (by simp))
  obtain ⟨st, hst⟩ : ∃ st, smS S1 = st := ⟨_, rfl⟩
  obtain ⟨inp, hin⟩ : ∃ inp, smI I1 = inp := ⟨_, rfl⟩
  rw [hst] at bs
  rw [hin] at bi
  obtain ⟨m1, hme1⟩ : ∃ m1, min n1 2000 = m1 := ⟨_, rfl⟩
  have hm1 : Hid (m1 ≤ 2000) := by unfold Hid; omega
  obtain ⟨a1, hae1⟩ : ∃ a1 : Nat → Nat, (fun i => f1 i % st) = a1 := ⟨_, rfl⟩
  have ha1 : Hid (∀ i, a1 i < st) := fun i => by rw [← hae1]; exact Nat.mod_lt _ (by omega)
  simp only [hst, hin, hme1, hae1] at k1
  obtain ⟨LL, hLe⟩ : ∃ L, frm st inp (ans st inp (syF st m1 a1)) = L := ⟨_, rfl⟩
  have hlow : Hid (∀ x, syF st m1 a1 x < st) := syF_lt st m1 bs.1 ha1.out
  have hA : Hid (∀ i, ans st inp (syF st m1 a1) i < st) := fun i => by unfold ans; exact hlow.out _
  have hLL : Hid (frm st inp (ans st inp (syF st m1 a1)) = LL) := hLe
  have HL : Hid (0 < LL.length ∧ LL.length ≤ 2065) := by
    refine ⟨?_, ?_⟩
    · obtain ⟨lv, ht, _⟩ := tok_frm st inp bs.1 bs.2 bi _ hA.out LL hLe (fun _ => none)
      have := ht.hr
      omega
    · rw [← hLe]
      exact frm_few bs.1 bs.2 bi _ (fun i => by have := hA.out i; omega)
  have HF : Hid (Fof st inp LL) := ⟨_, hA.out, hLe⟩
  have HK4 : Hid (∀ j, (LL.getD j (0, [])).2.length ≤ 4) := frm_kids st inp bs.1 bs.2 bi _ hA.out LL hLe
  have h1 : Hid (1 ≤ st) := bs.1
  have h4 : Hid (st ≤ 4) := bs.2
  have hi5 : Hid (inp ≤ 5) := bi
  have HN : Hid (num < 18446744073709551616) := hnum
  have HB1 : Hid (Bo W1 w.heap.size 46 #[.int .i64 S1, .int .i64 I1, .slice sp1 n1 c1]) := B1
  have HT : Hid (Tab w) := htab
  have HG1 : Hid (w.grownBy W1 none) := g1
  clear hae1 hme1 hLe hst hin B1 g1 htab hf1 hS1 hI1 h81 hn1 bs bi hnum sz1
  go_enter Tryd.func5, Tryd.ntmps5
  go_wp2_with (first | (go_at_call 9; refine kav.mono ?_; rintro e V3 ⟨rfl, g3⟩; refine Hid.out ?_))
  refine Lib.hid ?_
  clear kav 
  have P3 := HB1.out.kept g3 (by simp)
  have o0 := P3.cell 0 (v := .int .i64 S1) rfl; have o1 := P3.cell 1 (v := .int .i64 I1) rfl; have o2 := P3.cell 2 (v := .slice sp1 n1 c1) rfl
  have ks := k1 V3 g3
  clear k1
  go_wp2_with (first | (go_at_call 18; refine ks.mono ?_; rintro e V4 ⟨sq, cq, rfl, hY1, hlo1, g4⟩; refine Hid.out ?_))
  refine Lib.hid ?_
  clear ks o0 o1 o2
  obtain ⟨V5, hV5, sz5, g5, B5⟩ := boxn V4 #[.int .i64 (st : Nat), .int .i64 (inp : Nat), .slice sq m1 cq] 46
  have G5 : Hid (w.grownBy V5 none) := gb_trans (gb_trans HG1.out g3) (gb_trans g4 g5)
  have HY5 : Hid (By V5 sq m1 a1) := hY1.kept g5 (by simp)
  have HX5 : Hid (Bo V5 V4.heap.size 46 #[.int .i64 (st : Nat), .int .i64 (inp : Nat), .slice sq m1 cq]) := B5
  have x0 := B5.cell 0 (v := .int .i64 (st : Nat)) rfl; have x1 := B5.cell 1 (v := .int .i64 (inp : Nat)) rfl; have x2 := B5.cell 2 (v := .slice sq m1 cq) rfl
  have ko := ofC st inp m1 cq h1.out h4.out hi5.out hm1.out sq a1 ha1.out V5 HY5.out LL hLL.out
  clear P3 g3 hY1 hlo1 g4 B5 g5 sz5
  go_wp2_with (first | (go_at_call 19; refine ko.mono ?_; rintro e V8 ⟨gN, kb, rfl, hNz, hAp, g8, hgN⟩; refine Hid.out ?_))
  refine Lib.hid ?_
  clear ko hAp x0 x1 x2
  obtain ⟨V9, hV9, sz9, g9, B9⟩ := boxn V8 #[.int .i64 (st : Nat), .int .i64 (inp : Nat), .slice (some ⟨gN, 0, none⟩) LL.length LL.length, .int .i64 ((LL.length - 1 : Nat) : Int)] 24
  have G79 := gb_trans g8 g9
  have G9 : Hid (w.grownBy V9 none) := gb_trans G5.out G79
  obtain ⟨spa, hTa⟩ := hNz.tn
  have HT9 : Hid (Tn V9 gN 0 LL.length (tnOf LL spa)) := hTa.kept g9
  have HY9 : Hid (By V9 sq m1 a1) := HY5.out.kept G79 (by simp)
  have HX9 : Hid (Bo V9 V4.heap.size 46 #[.int .i64 (st : Nat), .int .i64 (inp : Nat), .slice sq m1 cq]) := HX5.out.kept G79 (by simp)
  have HZ9 : Hid (Bo V9 V8.heap.size 24 #[.int .i64 (st : Nat), .int .i64 (inp : Nat), .slice (some ⟨gN, 0, none⟩) LL.length LL.length, .int .i64 ((LL.length - 1 : Nat) : Int)]) := B9
  obtain ⟨lv1, htk1, hev⟩ := ev_says st inp h1.out h4.out hi5.out (syF st m1 a1) hlow.out LL hLL.out spa
  obtain ⟨lv2, htk2, hcn⟩ := tok_frm st inp h1.out h4.out hi5.out _ hA.out LL hLL.out spa
  have HTK : Hid (Tok st inp (LL.length - 1) LL.length (tnOf LL spa) lv1) := htk1
  have HT2 : Hid (Tok st inp (LL.length - 1) LL.length (tnOf LL spa) lv2 ∧ cnF (tnOf LL spa) lv2 (LL.length - 1) = LL) := ⟨htk2, hcn⟩
  have HEV : Hid (ev (tnOf LL spa) (LL.length - 1) inp (dgs st inp num) = syF st m1 a1 (dgs st inp num)) := hev _ (dgs_len st inp num) (dgs_lt (by have := h1.out; omega) inp num)
  have t0 := B9.cell 0 (v := .int .i64 (st : Nat)) rfl; have t1 := B9.cell 1 (v := .int .i64 (inp : Nat)) rfl; have t2 := B9.cell 2 (v := .slice (some ⟨gN, 0, none⟩) LL.length LL.length) rfl; have t3 := B9.cell 3 (v := .int .i64 ((LL.length - 1 : Nat) : Int)) rfl
  have kc := checkK st inp (LL.length - 1) gN 0 LL.length LL.length (tnOf LL spa) lv1 htk1 V9 HT9.out
  clear hTa hNz B9 g8 g9 G79 sz9 hgN hev htk1 htk2 hcn
  go_wp2_with (first | (go_at_call 20; refine kc.mono ?_; rintro e V10 ⟨rfl, g10⟩; refine Hid.out ?_))
  refine Lib.hid ?_
  clear kc t0 t1 t2 t3
  have X10 := HX9.out.kept g10 (by simp)
  have x0 := X10.cell 0 (v := .int .i64 (st : Nat)) rfl; have x1 := X10.cell 1 (v := .int .i64 (inp : Nat)) rfl; have x2 := X10.cell 2 (v := .slice sq m1 cq) rfl
  have kr := rowC st inp m1 cq h1.out h4.out hi5.out sq num HN.out V10
  go_wp2_with (first | (go_at_call 21; refine kr.mono ?_; rintro e V11 ⟨d, rfl, hR, hd, g11⟩; refine Hid.out ?_))
  refine Lib.hid ?_
  clear kr x0 x1 x2 X10 hd
  have G911 : Hid (V9.grownBy V11 none) := gb_trans g10 g11
  have HR11 : Hid (V11.rowIs d 5 inp (fun i => .int .u8 ((dgs st inp num).getD i 0 : Nat))) := hR
  have Z11 := HZ9.out.kept G911.out (by simp)
  have t0 := Z11.cell 0 (v := .int .i64 (st : Nat)) rfl; have t1 := Z11.cell 1 (v := .int .i64 (inp : Nat)) rfl; have t2 := Z11.cell 2 (v := .slice (some ⟨gN, 0, none⟩) LL.length LL.length) rfl; have t3 := Z11.cell 3 (v := .int .i64 ((LL.length - 1 : Nat) : Int)) rfl
  have hrow : By V11 (some ⟨d, 0, none⟩) inp (fun i => (dgs st inp num).getD i 0) := fun k hk => ⟨_, rfl, by rw [add_mid, Nat.zero_add]; exact hR.cell hk⟩
  have ka := atC st inp (LL.length - 1) gN 0 LL.length LL.length (tnOf LL spa) lv1 HTK.out (some ⟨d, 0, none⟩) inp (fun i => (dgs st inp num).getD i 0) (fun i hi => by
    refine dgs_lt (by have := h1.out; omega) inp num _ (List.mem_of_getElem? (i := i) ?_)
    rw [List.getD_eq_getElem?_getD, List.getElem?_eq_getElem (by rw [dgs_len]; exact hi)]; rfl) V11 (HT9.out.kept G911.out) hrow
  have ez : (tnOf LL spa (goN (tnOf LL spa) (fun i => (dgs st inp num).getD i 0) (LL.length - 1) inp)).st = syF st m1 a1 (dgs st inp num) := HEV.out
  rw [ez] at ka
  obtain ⟨z, hz⟩ : ∃ z, syF st m1 a1 (dgs st inp num) = z := ⟨_, rfl⟩
  have HZZ : Hid (syF st m1 a1 (dgs st inp num) = z) := hz
  rw [hz] at ka
  clear ez hz hR hrow g10 g11 Z11
  go_wp2_with (first | (go_at_call 22; refine ka.mono ?_; rintro e V12 ⟨rfl, g12⟩; refine Hid.out ?_))
  refine Lib.hid ?_
  clear ka t0 t1 t2 t3
  have G912 : Hid (V9.grownBy V12 none) := gb_trans G911.out g12
  have HR12 : Hid (V12.rowIs d 5 inp (fun i => .int .u8 ((dgs st inp num).getD i 0 : Nat))) := World.rowIs.of_block HR11.out (g12.block d (World.rowIs.lt HR11.out) (by simp))
  have Z12 := HZ9.out.kept G912.out (by simp)
  have t0 := Z12.cell 0 (v := .int .i64 (st : Nat)) rfl; have t1 := Z12.cell 1 (v := .int .i64 (inp : Nat)) rfl; have t2 := Z12.cell 2 (v := .slice (some ⟨gN, 0, none⟩) LL.length LL.length) rfl; have t3 := Z12.cell 3 (v := .int .i64 ((LL.length - 1 : Nat) : Int)) rfl
  have kn := canonT gN 0 LL.length LL.length st inp (LL.length - 1) (tnOf LL spa) lv2 HT2.out.1 V12 (HT9.out.kept G912.out)
  rw [HT2.out.2] at kn
  clear g12 Z12
  go_wp2_with (first | (go_at_call 23; refine kn.mono ?_; rintro e V13 ⟨gM, kbm, rfl, hNz, g13⟩; refine Hid.out ?_))
  refine Lib.hid ?_
  clear kn t0 t1 t2 t3
  obtain ⟨V14, hV14, sz14, g14, B14⟩ := boxn V13 #[.int .i64 (st : Nat), .int .i64 (inp : Nat), .slice (some ⟨gM, 0, none⟩) LL.length LL.length, .int .i64 ((LL.length - 1 : Nat) : Int)] 24
  have g1214 := gb_trans g13 g14
  have G914 : Hid (V9.grownBy V14 none) := gb_trans G912.out g1214
  obtain ⟨spm, hTm⟩ := hNz.tn
  have HM14 : Hid (Tn V14 gM 0 LL.length (tnOf LL spm)) := hTm.kept g14
  have HC14 : Hid (Bo V14 V13.heap.size 24 #[.int .i64 (st : Nat), .int .i64 (inp : Nat), .slice (some ⟨gM, 0, none⟩) LL.length LL.length, .int .i64 ((LL.length - 1 : Nat) : Int)]) := B14
  have HR14 : Hid (V14.rowIs d 5 inp (fun i => .int .u8 ((dgs st inp num).getD i 0 : Nat))) := World.rowIs.of_block HR12.out (g1214.block d (World.rowIs.lt HR12.out) (by simp))
  have Z14 := HZ9.out.kept G914.out (by simp)
  have t0 := Z14.cell 0 (v := .int .i64 (st : Nat)) rfl; have t1 := Z14.cell 1 (v := .int .i64 (inp : Nat)) rfl; have t2 := Z14.cell 2 (v := .slice (some ⟨gN, 0, none⟩) LL.length LL.length) rfl; have t3 := Z14.cell 3 (v := .int .i64 ((LL.length - 1 : Nat) : Int)) rfl
  have hck := tok_ck HTK.out
  have hs6 : ∀ j, (tnOf LL spa j).st < 256 := HTK.out.hst
  have hlen : (treeTx st inp LL.length (LL.length - 1) (tnOf LL spa)).length ≤ 1048576 := by
    have hl := HL.out
    have e1 := tx_few (tnOf LL spa) LL.length (fun j hj => ⟨HK4.out j, hs6 j, fun i hi => ck_kf hck hj i hi⟩)
    have e2 := headTx_few (S := st) (I := inp) (n := LL.length) (R := LL.length - 1) (by have := h4.out; omega) (by have := hi5.out; omega) (by omega) (by omega)
    unfold treeTx
    rw [List.length_append]
    omega
  have kp := printC st inp (LL.length - 1) gN 0 LL.length LL.length (tnOf LL spa) lv1 HTK.out hlen V14 (HT9.out.kept G914.out) (tab_kept HT.out (gb_trans G9.out G914.out))
  obtain ⟨XX, hXX⟩ : ∃ X : ByteArray, (⟨(treeTx st inp LL.length (LL.length - 1) (tnOf LL spa)).toArray⟩ : ByteArray) = X := ⟨_, rfl⟩
  rw [hXX] at kp
  have hX1 : XX.data.toList = treeTx st inp LL.length (LL.length - 1) (tnOf LL spa) := by rw [← hXX]
  have hX2 : XX.size ≤ 1048576 := by
    have : XX.size = XX.data.toList.length := (Array.length_toList).symm
    rw [this, hX1]; exact hlen
  have KPA := fun V => parse_tx hck hs6 hX1 hX2 V
  clear hck hs6 hlen hXX hX1 hX2 B14 hTm hNz g13 g14 g1214 sz14 Z14
  go_wp2_with (first | (go_at_call 11; refine kp.mono ?_; rintro e V15 ⟨rfl, g15⟩; refine Hid.out ?_))
  refine Lib.hid ?_
  clear kp t0 t1 t2 t3
  have kq := KPA V15
  clear KPA
  go_wp2_with (first | (go_at_call 15; refine kq.mono ?_; rintro e V16 ⟨cu, gU, u, rfl, hTe, hTu, g16⟩; refine Hid.out ?_))
  refine Lib.hid ?_
  clear kq 
  obtain ⟨V17, hV17, sz17, g17, B17⟩ := boxn V16 #[.int .i64 (st : Nat), .int .i64 (inp : Nat), .slice (some ⟨gU, 0, none⟩) LL.length cu, .int .i64 ((LL.length - 1 : Nat) : Int)] 24
  have g1417 := gb_trans g15 (gb_trans g16 g17)
  have G917 : Hid (V9.grownBy V17 none) := gb_trans G914.out g1417
  have HU17 : Hid (Bo V17 V16.heap.size 24 #[.int .i64 (st : Nat), .int .i64 (inp : Nat), .slice (some ⟨gU, 0, none⟩) LL.length cu, .int .i64 ((LL.length - 1 : Nat) : Int)]) := B17
  have HTU : Hid (Tn V17 gU 0 LL.length u) := hTu.kept g17
  have HTE : Hid (∀ j, j < LL.length → TnE (u j) (tnOf LL spa j)) := hTe
  have HC17 : Hid (Bo V17 V13.heap.size 24 #[.int .i64 (st : Nat), .int .i64 (inp : Nat), .slice (some ⟨gM, 0, none⟩) LL.length LL.length, .int .i64 ((LL.length - 1 : Nat) : Int)]) := HC14.out.kept g1417 (by simp)
  have HM17 : Hid (Tn V17 gM 0 LL.length (tnOf LL spm)) := HM14.out.kept g1417
  have HZ17 : Hid (Bo V17 V8.heap.size 24 #[.int .i64 (st : Nat), .int .i64 (inp : Nat), .slice (some ⟨gN, 0, none⟩) LL.length LL.length, .int .i64 ((LL.length - 1 : Nat) : Int)]) := HZ9.out.kept G917.out (by simp)
  have HT17 : Hid (Tn V17 gN 0 LL.length (tnOf LL spa)) := HT9.out.kept G917.out
  have HX17 : Hid (Bo V17 V4.heap.size 46 #[.int .i64 (st : Nat), .int .i64 (inp : Nat), .slice sq m1 cq]) := HX9.out.kept G917.out (by simp)
  have HR17 : Hid (V17.rowIs d 5 inp (fun i => .int .u8 ((dgs st inp num).getD i 0 : Nat))) := World.rowIs.of_block HR14.out (g1417.block d (World.rowIs.lt HR14.out) (by simp))
  have HY17 : Hid (By V17 sq m1 a1) := HY9.out.kept G917.out (by simp)
  have ky := saysD st inp m1 cq h1.out h4.out hi5.out hm1.out sq a1 d num V17 HY17.out HR17.out
  rw [HZZ.out] at ky
  have kA := fun V (g : V17.grownBy V none) => alikeF st inp h1.out h4.out hi5.out LL LL HF.out HF.out gM gN spm spa true ⟨fun _ => rfl, fun _ => rfl⟩ V (HM17.out.kept g) (HT17.out.kept g)
  have kB := fun V (g : V17.grownBy V none) => alikeN st inp ((LL.length - 1 : Nat) : Int) LL.length gU 0 gN 0 cu LL.length (by have := HL.out; omega) u (tnOf LL spa) (fun j hj => by
    have e1 := (HTE.out j hj).2.1
    have e2 := HK4.out j
    have e3 : (tnOf LL spa j).kn = (LL.getD j (0, [])).2.length := rfl
    omega) V (HTU.out.kept g) (HT17.out.kept g) true ⟨fun _ => HTE.out, fun _ => rfl⟩
  have X17 := HX17.out
  have x0 := X17.cell 0 (v := .int .i64 (st : Nat)) rfl; have x1 := X17.cell 1 (v := .int .i64 (inp : Nat)) rfl; have x2 := X17.cell 2 (v := .slice sq m1 cq) rfl
  have zz : ((z : Int) == (z : Int)) = true := by simp
  clear hTe hTu g15 g16 g17 g1417 B17 X17 sz17
  go_wp2_with (first | (go_at_call 24; refine ky.mono ?_; rintro e V18 ⟨rfl, g18⟩; clear ky; have C18 := HC17.out.kept g18 (by simp); have Z18 := HZ17.out.kept g18 (by simp); have cc0 := C18.cell 0 (v := .int .i64 (st : Nat)) rfl; have cc1 := C18.cell 1 (v := .int .i64 (inp : Nat)) rfl; have cc2 := C18.cell 2 (v := .slice (some ⟨gM, 0, none⟩) LL.length LL.length) rfl; have cc3 := C18.cell 3 (v := .int .i64 ((LL.length - 1 : Nat) : Int)) rfl; have zt0 := Z18.cell 0 (v := .int .i64 (st : Nat)) rfl; have zt1 := Z18.cell 1 (v := .int .i64 (inp : Nat)) rfl; have zt2 := Z18.cell 2 (v := .slice (some ⟨gN, 0, none⟩) LL.length LL.length) rfl; have zt3 := Z18.cell 3 (v := .int .i64 ((LL.length - 1 : Nat) : Int)) rfl; have kA1 := kA V18 g18; clear kA) | (go_at_call 25; (fail_if_success (guard_hyp g19)); refine kA1.mono ?_; rintro e V19 ⟨rfl, g19⟩; clear kA1; have G19 := gb_trans g18 g19; have U19 := HU17.out.kept G19 (by simp); have Z19 := HZ17.out.kept G19 (by simp); have uu0 := U19.cell 0 (v := .int .i64 (st : Nat)) rfl; have uu1 := U19.cell 1 (v := .int .i64 (inp : Nat)) rfl; have uu2 := U19.cell 2 (v := .slice (some ⟨gU, 0, none⟩) LL.length cu) rfl; have uu3 := U19.cell 3 (v := .int .i64 ((LL.length - 1 : Nat) : Int)) rfl; have zu0 := Z19.cell 0 (v := .int .i64 (st : Nat)) rfl; have zu1 := Z19.cell 1 (v := .int .i64 (inp : Nat)) rfl; have zu2 := Z19.cell 2 (v := .slice (some ⟨gN, 0, none⟩) LL.length LL.length) rfl; have zu3 := Z19.cell 3 (v := .int .i64 ((LL.length - 1 : Nat) : Int)) rfl; have kB1 := kB V19 G19; clear kB) | (go_at_call 25; guard_hyp g19; refine kB1.mono ?_; rintro e V20 ⟨rfl, g20⟩; clear kB1))
  go_ret
  exact ⟨rfl, gb_trans (gb_trans G9.out G917.out) (gb_trans G19 g20)⟩
theorem says_top (S1 I1 : Int) (sp1 : Option Addr) (n1 c1 : Nat) (f1 : Nat → Nat) (a1 : Int) (w : World) (htab : Tab w)
    (hS1 : -9223372036854775808 ≤ S1 ∧ S1 ≤ 9223372036854775807) (hI1 : -9223372036854775808 ≤ I1 ∧ I1 ≤ 9223372036854775807) (hn1 : n1 ≤ 140737488355328) (h81 : ∀ i, f1 i < 256) (hf1 : By w sp1 n1 f1) (ha1 : 0 ≤ a1 ∧ a1 ≤ 18446744073709551615) :
    Calls Tryd.prog 5 #[.agg #[.int .i64 S1, .int .i64 I1, .slice sp1 n1 c1], .int .u64 a1] w fun e w' => e = .returned (.bool true) ∧ w.grownBy w' none := by
  obtain ⟨num, rfl⟩ := Int.eq_ofNat_of_zero_le ha1.1
  exact says_walk S1 I1 sp1 n1 c1 f1 num w htab hS1 hI1 hn1 h81 hf1 (by omega)
end Rr
end Go.Proofs.YteaionmjbkildabDoor
