/- Parse of every text. -/
import Derived.Test.YteaionmjbkildabDoorQrg
import Derived.Test.YteaionmjbkildabDoorQrk
namespace Go.Proofs.YteaionmjbkildabDoor
open Go.RowKit
set_option linter.unusedVariables false
set_option linter.unusedSimpArgs false
set_option maxRecDepth 100000
namespace Rr
theorem ndW_len (t : Nat → TN) : ∀ n, (ndW t n).length = n * 2
  | 0 => rfl
  | n + 1 => by rw [ndW, List.length_append, ndW_len t n]; simp; omega
theorem ndW_get (t : Nat → TN) {j : Nat} : ∀ {n : Nat}, j < n → (ndW t n)[j * 2]? = some (.int .u8 ((t j).st : Nat)) ∧ (ndW t n)[j * 2 + 1]? = some (.slice (t j).kp (t j).kn (t j).kc)
  | 0, h => absurd h (Nat.not_lt_zero _)
  | n + 1, h => by
    have hl := ndW_len t n
    by_cases e : j = n
    · subst e
      constructor
      · rw [ndW, List.getElem?_append_right (by omega), hl]; simp
      · rw [ndW, List.getElem?_append_right (by omega), hl, show j * 2 + 1 - j * 2 = 1 by omega]; rfl
    · have := ndW_get t (j := j) (n := n) (by omega)
      rw [ndW, List.getElem?_append_left (by omega), List.getElem?_append_left (by omega)]
      exact this
theorem own_in {w : World} {B kn kc : Nat} {kp : Option Addr} {kf : Nat → Int} (h : w.ownsRow B 3 1 (.slice kp kn kc) kn (kidsV kf kn)) : In w kp kn kf := fun k hk => by
  rcases Joins.ownsRow_forms h with ⟨_, e⟩ | ⟨g, cap, e⟩
  · omega
  · cases e
    have := h.cells (g := g) rfl k (.int .i64 (kf k)) (by simp [kidsV, hk])
    exact ⟨_, rfl, this⟩
theorem own_tn {w : World} {B B' n c : Nat} {sp : Option Addr} {t : Nat → TN} (h : w.ownsRow B 69 2 (.slice sp n c) n (ndW t n)) (hk : Ks w B' t n) : ∃ gN, (0 < n → sp = some ⟨gN, 0, none⟩) ∧ Tn w gN 0 n t := by
  rcases Joins.ownsRow_forms h with ⟨_, e⟩ | ⟨g, cap, e⟩
  · subst e
    exact ⟨0, fun h => absurd h (Nat.lt_irrefl _), fun j hj => absurd hj (Nat.not_lt_zero _)⟩
  · cases e
    refine ⟨g, fun _ => rfl, fun j hj => ?_⟩
    obtain ⟨h0, h1⟩ := ndW_get t hj
    have e0 := h.cells (g := g) rfl _ _ h0
    have e1 := h.cells (g := g) rfl _ _ h1
    rw [Addr.add_lit] at e0 e1
    exact ⟨e0, e1, own_in (hk j hj)⟩
/-- Nodes as they were read, and none besides. -/
def AsA (t : Nat → TN) (xs : List (Nat × List Nat)) : Prop := ∀ i, (t i).st = (xs.getD i (0, [])).1 ∧ (t i).kn = (xs.getD i (0, [])).2.length ∧ (t i).kf = lf (xs.getD i (0, [])).2
def cutT (t : Nat → TN) (n : Nat) (i : Nat) : TN := if i < n then t i else ⟨0, none, 0, 0, lf []⟩
theorem cutT_lt {t : Nat → TN} {n i : Nat} (h : i < n) : cutT t n i = t i := by simp [cutT, h]
theorem As.all {t : Nat → TN} {xs : List (Nat × List Nat)} (h : As t xs) : AsA (cutT t xs.length) xs := fun i => by
  by_cases hi : i < xs.length
  · rw [cutT_lt hi]; exact h i hi
  · have e : xs.getD i (0, []) = (0, []) := by rw [List.getD_eq_getElem?_getD, List.getElem?_eq_none (by omega)]; rfl
    rw [e]
    simp [cutT, hi]
theorem AsA.tne {t u : Nat → TN} {xs : List (Nat × List Nat)} (h : AsA t xs) (k : AsA u xs) (j : Nat) : TnE (t j) (u j) := ⟨(h j).1.trans (k j).1.symm, (h j).2.1.trans (k j).2.1.symm, fun i _ => by rw [(h j).2.2, (k j).2.2]⟩
/-- The nodes that were read, as a function. -/
def tnX (xs : List (Nat × List Nat)) : Nat → TN := tnOf xs (fun _ => none)
theorem tnX_as (xs : List (Nat × List Nat)) : AsA (tnX xs) xs := fun i => ⟨rfl, rfl, rfl⟩
theorem AsA.lt {t : Nat → TN} {xs : List (Nat × List Nat)} (h : AsA t xs) (hx : ∀ y ∈ xs, Pa.NdOk y) (j : Nat) : (t j).st < 256 := by
  rw [(h j).1]
  by_cases hj : j < xs.length
  · rw [List.getD_eq_getElem?_getD, List.getElem?_eq_getElem hj]
    exact (hx _ (List.getElem_mem hj)).1
  · rw [List.getD_eq_getElem?_getD, List.getElem?_eq_none (by omega)]
    decide
/-- What was read may be. -/
def CkO (hd : List Nat) (xs : List (Nat × List Nat)) : Prop := CkOk (hd.getD 0 0 : Nat) (hd.getD 1 0 : Nat) (hd.getD 2 0) (hd.getD 3 0 : Nat) (tnX xs)
open Classical in
/-- Parse's error. -/
noncomputable def paE (x : ByteArray) : Int := if 1048576 < x.size then 3 else if (Pa.trR x.data.toList).2.2.2.1 = false then 110 else if (Pa.trR x.data.toList).2.2.1 = false ∧ CkO (Pa.trR x.data.toList).1 (Pa.trR x.data.toList).2.1 then 0 else 110
/-- Parse's place. -/
def paP (x : ByteArray) : Nat := if 1048576 < x.size then 0 else if (Pa.trR x.data.toList).2.2.2.1 = false then Pa.po x (Pa.trR x.data.toList).2.2.2.2 else 0
/-- What a tree that was read is. -/
def PaT (w : World) (x : ByteArray) (B : Nat) (V : Value) : Prop := ∃ S I R n c gN t, V = .agg #[.int .i64 (S : Nat), .int .i64 (I : Nat), .slice (some ⟨gN, 0, none⟩) n c, .int .i64 (R : Nat)] ∧ (Pa.trR x.data.toList).1 = [S, I, n, R] ∧ n = (Pa.trR x.data.toList).2.1.length ∧ AsA t (Pa.trR x.data.toList).2.1 ∧ CkOk (S : Nat) (I : Nat) n (R : Nat) t ∧ w.ownsRow B 69 2 (.slice (some ⟨gN, 0, none⟩) n c) n (ndW t n) ∧ Ks w B t n ∧ Inc t n
/-- What Parse leaves. -/
def PaPost (w : World) (x : ByteArray) (e : Ending) (w' : World) : Prop := w.grownBy w' none ∧ ∃ V, e = .returned (.tuple #[V, .int .i64 (paP x : Nat), .int .i64 (paE x)]) ∧ (paE x ≠ 0 → V = .agg #[.int .i64 0, .int .i64 0, .slice none 0 0, .int .i64 0]) ∧ (paE x = 0 → PaT w' x w.heap.size V)
theorem Ks.cut {w : World} {B n : Nat} {t : Nat → TN} (h : Ks w B t n) : Ks w B (cutT t n) n := fun i hi => by rw [cutT_lt hi]; exact h i hi
theorem Inc.cut {t : Nat → TN} {n : Nat} (h : Inc t n) : Inc (cutT t n) n := fun i k hik hk p q hp hq => by
  rw [cutT_lt (by omega)] at hp
  rw [cutT_lt hk] at hq
  exact h i k hik hk p q hp hq
theorem ndW_cut (t : Nat → TN) (n : Nat) : ndW (cutT t n) n = ndW t n := ndW_congr fun k hk => cutT_lt hk
theorem PaPost.bad {w w' : World} {x : ByteArray} {p : Nat} {E : Int} (h1 : paE x = E) (h2 : paP x = p) (hE : E ≠ 0) (g : w.grownBy w' none) : PaPost w x (.returned (.tuple #[.agg #[.int .i64 0, .int .i64 0, .slice none 0 0, .int .i64 0], .int .i64 (p : Nat), .int .i64 E])) w' := ⟨g, _, by rw [h1, h2], fun _ => rfl, fun q => absurd (h1.symm.trans q) hE⟩
theorem PaPost.good {w w' : World} {x : ByteArray} {V : Value} (h1 : paE x = 0) (h2 : paP x = 0) (g : w.grownBy w' none) (hV : PaT w' x w.heap.size V) : PaPost w x (.returned (.tuple #[V, .int .i64 ((0 : Nat) : Int), .int .i64 0])) w' := ⟨g, _, by rw [h1, h2], fun q => absurd h1 q, fun _ => hV⟩
set_option maxHeartbeats 4000000 in
theorem parseC (x : ByteArray) (w : World) : Calls Tryd.prog 15 #[.string x] w (PaPost w x) := by
  obtain ⟨fs, hfs⟩ := underTr
  have HF : Hid (Tryd.prog.underlying 24 = some (.struct fs)) := hfs
  clear hfs
  obtain ⟨W1, hW1, sz1, g1, B1⟩ := boxn w #[.int .i64 0, .int .i64 0, .slice none 0 0, .int .i64 0] 24
  have le : w.heap.size ≤ w.heap.size := Nat.le_refl _
  by_cases hz : 1048576 < x.size
  · have hz' : (1048576 : Int) < (x.size : Int) := by omega
    have e1 : Hid (paE x = 3) := if_pos hz
    have e2 : Hid (paP x = 0) := if_pos hz
    have b0 := B1.cell 0 (v := .int .i64 0) rfl
    have b1 := B1.cell 1 (v := .int .i64 0) rfl
    have b2 := B1.cell 2 (v := .slice none 0 0) rfl
    have b3 := B1.cell 3 (v := .int .i64 0) rfl
    have bf0 := B1.frozen 0
    have bf1 := B1.frozen 1
    have bf2 := B1.frozen 2
    have bf3 := B1.frozen 3
    clear hz
    go_enter Tryd.func15, Tryd.ntmps15
    go_wp2
    refine ret_c3 (g := w.heap.size) (t := 24) (cs := #[.int .i64 0, .int .i64 0, .slice none 0 0, .int .i64 0]) rfl HF.out infoTr rfl (by first | exact (((B1.set 0 _).set 1 _).set 2 _).set 3 _ | exact B1) rfl ?_
    refine (PaPost.bad e1.out e2.out (by decide) ?_)
    exact gb_new (gb_new (gb_new (gb_new g1 le _) le _) le _) le _
  · have hz' : ¬ (1048576 : Int) < (x.size : Int) := by omega
    have hz2 : x.size ≤ 1048576 := by omega
    obtain ⟨W2, hW2, sz2, g2, B2⟩ := boxn W1 #[.string x, .int .i64 0, .bool false] 83
    have HW2 : Hid (W1.alloc (.cells #[.string x, .int .i64 0, .bool false] 83) = W2) := hW2
    clear hW2
    have G2 := gb_trans g1 g2
    have R2 : Rd W2 W1.heap.size x x.data.toList false := by
      unfold Rd
      rw [Pa.po_all]
      exact B2
    obtain ⟨⟨hd, xs, big, B, r'⟩, hX⟩ : ∃ Z, Pa.trR x.data.toList = Z := ⟨_, rfl⟩
    have ht := treeC W1.heap.size x x.data.toList hd xs big B r' hX (Pa.Suf.all x) hz2 W2 R2
    have HX : Hid (Pa.trR x.data.toList = (hd, xs, big, B, r')) := hX
    have HA : Hid (w.heap.size < W1.heap.size ∧ W1.heap.size < W2.heap.size) := ⟨by have := sz1.out; omega, by have := sz2.out; omega⟩
    have HB1 : Hid (Bo W2 w.heap.size 24 #[.int .i64 0, .int .i64 0, .slice none 0 0, .int .i64 0]) := B1.kept g2 (by simp)
    have HG2 : Hid (w.grownBy W2 none) := G2
    have HZ : Hid (¬ 1048576 < x.size) := hz
    clear hX hz hz2 R2 B1 B2 g1 g2 G2 sz1 sz2
    go_enter Tryd.func15, Tryd.ntmps15
    go_wp2_with (first | (go_at_call 41; rw [HW2.out]; refine ht.mono ?_; intro e w3 hp; obtain ⟨a, b, d, sp, n, c, he, hR3, hG3, hq⟩ := hp; subst he; refine Hid.out ?_))
    refine Lib.hid ?_
    clear ht
    have G3 : w.grownBy w3 none := HG2.out.andThen hG3 (fun b hb => .inl (by cases hb; exact Nat.le_of_lt HA.out.1))
    have X3 := HB1.out.kept hG3 (by have := HA.out; simp; omega)
    obtain ⟨W4, hW4, sz4, g4, B4⟩ := boxn w3 #[.int .i64 a, .int .i64 b, .slice sp n c, .int .i64 d] 24
    have X4 := X3.kept g4 (by simp)
    have R4 := hR3.kept g4 (by simp)
    have HG4 : Hid (w.grownBy W4 none) := gb_trans G3 g4
    have r1 := R4.c1
    have r2 := R4.c2
    have hz' : ¬ (1048576 : Int) < (x.size : Int) := by have := HZ.out; omega
    have b0 := X4.cell 0 (v := .int .i64 0) rfl
    have b1 := X4.cell 1 (v := .int .i64 0) rfl
    have b2 := X4.cell 2 (v := .slice none 0 0) rfl
    have b3 := X4.cell 3 (v := .int .i64 0) rfl
    have bf0 := X4.frozen 0
    have bf1 := X4.frozen 1
    have bf2 := X4.frozen 2
    have bf3 := X4.frozen 3
    cases B with
    | false =>
      have e1 : Hid (paE x = 110) := by unfold Hid paE; rw [if_neg HZ.out, HX.out]; rfl
      have e2 : Hid (paP x = Pa.po x r') := by unfold Hid paP; rw [if_neg HZ.out, HX.out]; rfl
      have ne1 : w.heap.size ≠ W1.heap.size := by have := HA.out; omega
      have ne2 := ne1.symm
      clear hq
      go_wp2
      go_region
      all_goals
        go_wp2
        refine ret_c3 (g := w.heap.size) (t := 24) (cs := #[.int .i64 0, .int .i64 0, .slice none 0 0, .int .i64 0]) rfl HF.out infoTr rfl ((((X4.set 0 _).set 1 _).set 2 _).set 3 _) rfl (PaPost.bad e1.out e2.out (by decide) ?_)
        exact gb_drew (gb_new (gb_new (gb_new (gb_new HG4.out le _) le _) le _) le _)
    | true =>
      have e2 : Hid (paP x = 0) := by unfold Hid paP; rw [if_neg HZ.out, HX.out]; rfl
      cases big with
      | true =>
        have e1 : Hid (paE x = 110) := by unfold Hid paE; rw [if_neg HZ.out, HX.out]; rfl
        clear hq
        go_wp2
        refine ret_c3 (g := w.heap.size) (t := 24) (cs := #[.int .i64 0, .int .i64 0, .slice none 0 0, .int .i64 0]) rfl HF.out infoTr rfl ((((X4.set 0 _).set 1 _).set 2 _).set 3 _) rfl (PaPost.bad e1.out e2.out (by decide) ?_)
        exact gb_new (gb_new (gb_new (gb_new HG4.out le _) le _) le _) le _
      | false =>
        obtain ⟨S, I, R, t, hhd, rfl, rfl, rfl, hn, hAs, own, hKs, hInc⟩ := hq rfl
        have hw := Pa.trR_was (r := x.data.toList) (by rw [HX.out]) (by rw [HX.out])
        rw [HX.out] at hw
        have hok : ∀ y ∈ xs, Pa.NdOk y := by
          obtain ⟨_, _, _, _, _, _, _, _, _, _, h, _⟩ := hw
          exact h
        have hAA : AsA (cutT t n) xs := by rw [hn]; exact As.all hAs
        have own4 : W4.ownsRow W2.heap.size 69 2 (.slice sp n c) n (ndW (cutT t n) n) := by rw [ndW_cut]; exact own.kept g4 (Classical.em _)
        have K4 : Ks W4 W2.heap.size (cutT t n) n := (hKs.kept g4 (by simp)).cut
        obtain ⟨gN, hsp, hTn⟩ := own_tn own4 K4
        obtain ⟨u, hu⟩ : ∃ u, cutT t n = u := ⟨_, rfl⟩
        have HIN : Hid (Inc u n) := by rw [← hu]; exact hInc.cut
        rw [hu] at hAA own4 K4 hTn
        have hst := hAA.lt hok
        have hck := checkC (S : Nat) (I : Nat) (R : Nat) sp gN 0 n c u hsp hst W4 hTn
        have HC : CkO hd xs ↔ CkOk (S : Nat) (I : Nat) n (R : Nat) u := by
          unfold CkO
          rw [hhd]
          exact ⟨fun h => ck_congr (fun j _ => (tnX_as xs).tne hAA j) h, fun h => ck_congr (fun j _ => hAA.tne (tnX_as xs) j) h⟩
        have HO : Hid (W4.ownsRow W2.heap.size 69 2 (.slice sp n c) n (ndW u n)) := own4
        have HK : Hid (Ks W4 W2.heap.size u n) := K4
        have HAA : Hid (AsA u xs ∧ hd = [S, I, n, R] ∧ n = xs.length) := ⟨hAA, hhd, hn⟩
        have HSP : Hid (0 < n → sp = some ⟨gN, 0, none⟩) := hsp
        have HX4 : Hid (Bo W4 w.heap.size 24 #[.int .i64 0, .int .i64 0, .slice none 0 0, .int .i64 0]) := X4
        have HT4 : Hid (Bo W4 w3.heap.size 24 #[.int .i64 (S : Nat), .int .i64 (I : Nat), .slice sp n c, .int .i64 (R : Nat)]) := B4
        clear hq hAs own hKs hInc hw hok hAA own4 K4 hTn hst hhd hn hu hsp X4 X3
        have t0 := B4.cell 0 (v := .int .i64 (S : Nat)) rfl
        have t1 := B4.cell 1 (v := .int .i64 (I : Nat)) rfl
        have t2 := B4.cell 2 (v := .slice sp n c) rfl
        have t3 := B4.cell 3 (v := .int .i64 (R : Nat)) rfl
        by_cases hc : CkOk (S : Nat) (I : Nat) n (R : Nat) u
        · have e1 : Hid (paE x = 0) := by unfold Hid paE; rw [if_neg HZ.out, HX.out, if_neg (by simp)]; exact if_pos ⟨rfl, HC.2 hc⟩
          rw [if_pos hc] at hck
          have HCC : Hid (CkOk (S : Nat) (I : Nat) n (R : Nat) u) := hc
          clear HC hc
          go_wp2_with (first | (go_at_call 20; refine hck.mono ?_; rintro e w5 ⟨rfl, hG5⟩; have BB := HX4.out.kept hG5 (by simp); have TTT := HT4.out.kept hG5 (by simp); have p0 := BB.cell 0 (v := .int .i64 0) rfl; have p1 := BB.cell 1 (v := .int .i64 0) rfl; have p2 := BB.cell 2 (v := .slice none 0 0) rfl; have p3 := BB.cell 3 (v := .int .i64 0) rfl; have pf0 := BB.frozen 0; have pf1 := BB.frozen 1; have pf2 := BB.frozen 2; have pf3 := BB.frozen 3; have q0 := TTT.cell 0 (v := .int .i64 (S : Nat)) rfl; have q1 := TTT.cell 1 (v := .int .i64 (I : Nat)) rfl; have q2 := TTT.cell 2 (v := .slice sp n c) rfl; have q3 := TTT.cell 3 (v := .int .i64 (R : Nat)) rfl))
          have le2 : w.heap.size ≤ W2.heap.size := by have := HA.out; omega
          refine ret_c3 (g := w.heap.size) (t := 24) (cs := #[.int .i64 (S : Nat), .int .i64 (I : Nat), .slice sp n c, .int .i64 (R : Nat)]) rfl HF.out infoTr rfl ((((BB.set 0 _).set 1 _).set 2 _).set 3 _) rfl (PaPost.good e1.out e2.out ?_ ?_)
          · exact gb_new (gb_new (gb_new (gb_new (gb_trans HG4.out hG5) le _) le _) le _) le _
          · have hn0 : 0 < n := by have h1 := HCC.out.2.2.1; have h2 := HCC.out.2.2.2.1; omega
            obtain rfl := HSP.out hn0
            have gs : ∀ X, w5.grownBy X (some w.heap.size) → X.ownsRow w.heap.size 69 2 (.slice (some ⟨gN, 0, none⟩) n c) n (ndW u n) ∧ Ks X w.heap.size u n := fun X hX => by
              have o5 := (HO.out.kept hG5 (Classical.em _))
              have k5 := HK.out.kept hG5 (by simp)
              refine ⟨Joins.ownsRow_le (o5.kept hX (.inr fun e => by have := (o5.lt _ e).1; have := HA.out; omega)) le2, fun i hi => Joins.ownsRow_le ((k5.kept hX (by intro b hb; cases hb; have := HA.out; omega)) i hi) le2⟩
            obtain ⟨o6, k6⟩ := gs _ (gb_set (gb_set (gb_set (gb_set (World.grownBy.refl w5 _) _ _) _ _) _ _) _ _)
            unfold PaT
            rw [HX.out]
            exact ⟨S, I, R, n, c, gN, u, rfl, HAA.out.2.1, HAA.out.2.2, HAA.out.1, HCC.out, o6, k6, HIN.out⟩
        · have e1 : Hid (paE x = 110) := by unfold Hid paE; rw [if_neg HZ.out, HX.out, if_neg (by simp)]; exact if_neg fun q => hc (HC.1 q.2)
          rw [if_neg hc] at hck
          clear HC hc
          go_wp2_with (first | (go_at_call 20; refine hck.mono ?_; rintro e w5 ⟨rfl, hG5⟩; have BB := HX4.out.kept hG5 (by simp); have p0 := BB.cell 0 (v := .int .i64 0) rfl; have p1 := BB.cell 1 (v := .int .i64 0) rfl; have p2 := BB.cell 2 (v := .slice none 0 0) rfl; have p3 := BB.cell 3 (v := .int .i64 0) rfl; have pf0 := BB.frozen 0; have pf1 := BB.frozen 1; have pf2 := BB.frozen 2; have pf3 := BB.frozen 3))
          refine ret_c3 (g := w.heap.size) (t := 24) (cs := #[.int .i64 0, .int .i64 0, .slice none 0 0, .int .i64 0]) rfl HF.out infoTr rfl ((((BB.set 0 _).set 1 _).set 2 _).set 3 _) rfl (PaPost.bad e1.out e2.out (by decide) ?_)
          exact gb_new (gb_new (gb_new (gb_new (gb_trans HG4.out hG5) le _) le _) le _) le _
theorem ndsOf_at {t : Nat → TN} {n j : Nat} (hj : j < n) : (ndsOf t n).getD j (0, []) = ((t j).st, (List.range (t j).kn).map fun k => ((t j).kf k).toNat) := by
  unfold ndsOf
  rw [List.getD_eq_getElem?_getD, List.getElem?_map, List.getElem?_range hj]
  rfl
theorem nds_tne {u t : Nat → TN} {n : Nat} {S I R : Int} (hc : CkOk S I n R t) (h : AsA u (ndsOf t n)) : ∀ j, j < n → TnE (u j) (t j) := fun j hj => by
  obtain ⟨h1, h2, h3⟩ := h j
  rw [ndsOf_at hj] at h1 h2 h3
  refine ⟨h1, by rw [h2]; simp, fun i hi => ?_⟩
  have hi2 : i < (t j).kn := by rw [h2] at hi; simpa using hi
  have := ck_kf hc hj i hi2
  rw [h3]
  unfold lf
  rw [List.getD_eq_getElem?_getD, List.getElem?_map, List.getElem?_range hi2]
  show ((((t j).kf i).toNat : Nat) : Int) = (t j).kf i
  omega
open Classical in
theorem pa_tx {S I n R : Nat} {t : Nat → TN} (hc : CkOk (S : Nat) (I : Nat) n (R : Nat) t) (hst : ∀ j, (t j).st < 256) {X : ByteArray} (hX : X.data.toList = treeTx S I n R t) (hlen : X.size ≤ 1048576) : paE X = 0 ∧ paP X = 0 := by
  have hx := tr_tx hc hst
  have hl : ¬ 1048576 < X.size := by omega
  have hk : CkO [S, I, n, R] (ndsOf t n) := ck_congr (fun j hj => tne_symm (nds_tne hc (tnX_as _) j hj)) hc
  constructor
  · unfold paE
    rw [if_neg hl, hX, hx, if_neg (by simp)]
    exact if_pos ⟨rfl, hk⟩
  · unfold paP
    rw [if_neg hl, hX, hx]
    rfl
theorem PaT.back {S I n R : Nat} {t : Nat → TN} (hc : CkOk (S : Nat) (I : Nat) n (R : Nat) t) (hst : ∀ j, (t j).st < 256) {X : ByteArray} (hX : X.data.toList = treeTx S I n R t) {w : World} {B : Nat} {V : Value} (h : PaT w X B V) : ∃ c gN u, V = .agg #[.int .i64 (S : Nat), .int .i64 (I : Nat), .slice (some ⟨gN, 0, none⟩) n c, .int .i64 (R : Nat)] ∧ (∀ j, j < n → TnE (u j) (t j)) ∧ Tn w gN 0 n u ∧ w.ownsRow B 69 2 (.slice (some ⟨gN, 0, none⟩) n c) n (ndW u n) ∧ Ks w B u n ∧ Inc u n := by
  obtain ⟨S', I', R', n', c, gN, u, rfl, h1, h2, h3, h4, h5, h6, h7⟩ := h
  have hx := tr_tx hc hst
  rw [hX, hx] at h1 h2 h3
  simp only [List.cons.injEq] at h1
  obtain ⟨rfl, rfl, rfl, rfl, -⟩ := h1
  obtain ⟨g, hg, hT⟩ := own_tn h5 h6
  have hn0 : 0 < n := by have a := h4.2.2.1; have b := h4.2.2.2.1; omega
  have e := hg hn0
  cases e
  exact ⟨c, gN, u, rfl, nds_tne hc h3, hT, h5, h6, h7⟩
end Rr
end Go.Proofs.YteaionmjbkildabDoor
