/- The reader of a tree's text: the whole tree. -/
import Derived.Test.YteaionmjbkildabDoorQrf
namespace Go.Proofs.YteaionmjbkildabDoor
open Go.RowKit
set_option linter.unusedVariables false
set_option linter.unusedSimpArgs false
set_option maxRecDepth 100000
namespace Rr
/-- The nodes as cells. -/
def ndW (t : Nat → TN) : Nat → List Value
  | 0 => []
  | j + 1 => ndW t j ++ [.int .u8 ((t j).st : Nat), .slice (t j).kp (t j).kn (t j).kc]
theorem ndW_congr {t t' : Nat → TN} : ∀ {j : Nat}, (∀ k, k < j → t k = t' k) → ndW t j = ndW t' j
  | 0, _ => rfl
  | j + 1, h => by rw [ndW, ndW, ndW_congr (fun k hk => h k (by omega)), h j (by omega)]
/-- Nodes as they were read. -/
def As (t : Nat → TN) (xs : List (Nat × List Nat)) : Prop := ∀ i, i < xs.length → (t i).st = (xs.getD i (0, [])).1 ∧ (t i).kn = (xs.getD i (0, [])).2.length ∧ (t i).kf = lf (xs.getD i (0, [])).2
/-- The kids' lists are their own. -/
def Ks (w : World) (B : Nat) (t : Nat → TN) (n : Nat) : Prop := ∀ i, i < n → w.ownsRow B 3 1 (.slice (t i).kp (t i).kn (t i).kc) (t i).kn (kidsV (t i).kf (t i).kn)
theorem Ks.kept {w w' : World} {B n : Nat} {t : Nat → TN} {r : Option Nat} (h : Ks w B t n) (hg : w.grownBy w' r) (hr : ∀ b, r = some b → b < B) : Ks w' B t n := fun i hi => (h i hi).kept hg (by
  by_cases e : (Value.slice (t i).kp (t i).kn (t i).kc).ownBlock = r
  · refine .inl ?_
    cases hr' : r with
    | none => rw [e, hr']
    | some b =>
      have h1 := hr b hr'
      have h2 := ((h i hi).lt b (by rw [e, hr'])).1
      omega
  · exact .inr e)
/-- A row of nodes and a row of kids are not one. -/
theorem own_two {w : World} {B B' m n m' : Nat} {v u : Value} {xs ys : List Value} (h : w.ownsRow B 69 2 v m xs) (k : w.ownsRow B' 3 1 u m' ys) : u.ownBlock = none ∨ u.ownBlock ≠ v.ownBlock := by
  rcases k.2 with ⟨rfl, _⟩ | ⟨g2, cap2, cur2, rfl, _, h2, _⟩
  · exact .inl rfl
  · refine .inr ?_
    rcases h.2 with ⟨rfl, _⟩ | ⟨g1, cap, cur, rfl, _, h1, _⟩
    · simp [Value.ownBlock]
    · intro e
      simp only [Value.ownBlock, Option.some.injEq] at e
      subst e
      rw [h1] at h2
      simp at h2
theorem Ks.push {w w' : World} {B B' m n : Nat} {t : Nat → TN} {v : Value} {xs : List Value} (h : Ks w B t n) (own : w.ownsRow B' 69 2 v m xs) (hg : w.grownBy w' v.ownBlock) : Ks w' B t n := fun i hi => (h i hi).kept hg (own_two (n := 0) own (h i hi))
/-- The kids' lists lie one behind the other. -/
def Inc (t : Nat → TN) (n : Nat) : Prop := ∀ i k, i < k → k < n → ∀ p q, (Value.slice (t i).kp (t i).kn (t i).kc).ownBlock = some p → (Value.slice (t k).kp (t k).kn (t k).kc).ownBlock = some q → p < q
theorem Inc.step {t t' : Nat → TN} {n z : Nat} (h : Inc t n) (ht : ∀ k, k < n → t k = t' k) (h1 : ∀ i, i < n → ∀ p, (Value.slice (t i).kp (t i).kn (t i).kc).ownBlock = some p → p < z) (h2 : ∀ q, (Value.slice (t' n).kp (t' n).kn (t' n).kc).ownBlock = some q → z ≤ q) : Inc t' (n + 1) := fun i k hik hk p q hp hq => by
  by_cases e : k = n
  · subst e
    rw [← ht i hik] at hp
    exact Nat.lt_of_lt_of_le (h1 i hik p hp) (h2 q hq)
  · rw [← ht i (by omega)] at hp
    rw [← ht k (by omega)] at hq
    exact h i k hik (by omega) p q hp hq
/-- What the reading of a tree leaves. -/
def TreePost (w : World) (g : Nat) (x : ByteArray) (hd : List Nat) (xs : List (Nat × List Nat)) (big B : Bool) (r' : List UInt8) (e : Ending) (w' : World) : Prop := ∃ (a b d : Int) (sp : Option Addr) (n c : Nat), e = .returned (.tuple #[.agg #[.int .i64 a, .int .i64 b, .slice sp n c, .int .i64 d], .bool B]) ∧ Rd w' g x r' big ∧ w.grownBy w' (some g) ∧ (B = true → ∃ S I R t, hd = [S, I, n, R] ∧ a = (S : Nat) ∧ b = (I : Nat) ∧ d = (R : Nat) ∧ n = xs.length ∧ As t xs ∧ w'.ownsRow w.heap.size 69 2 (.slice sp n c) n (ndW t n) ∧ Ks w' w.heap.size t n ∧ Inc t n)
theorem underTr : ∃ fs, Tryd.prog.underlying 24 = some (.struct fs) := ⟨_, Tryd.underlying24⟩
theorem infoTr : (Tryd.prog.info? 24).map (·.size) = some 4 := by kernel_rfl
set_option maxHeartbeats 8000000 in
theorem treeC (g : Nat) (x : ByteArray) (r : List UInt8) (hd : List Nat) (xs0 : List (Nat × List Nat)) (big0 B : Bool) (r' : List UInt8) (hN : Hid (Pa.trR r = (hd, xs0, big0, B, r'))) (hs : Pa.Suf x r) (hz : x.size ≤ 1048576) (w : World) (h : Rd w g x r false) :
    Calls Tryd.prog 41 #[.pointer (some ⟨g, 0, none⟩)] w (TreePost w g x hd xs0 big0 B r') := by
  obtain ⟨fs, hfs⟩ := underTr
  have HF : Hid (Tryd.prog.underlying 24 = some (.struct fs)) := hfs
  clear hfs
  obtain ⟨ib, HB⟩ : ∃ i, Hid (Tryd.prog.info? 69 = some i ∧ i.zero = some (.agg #[.int .u8 0, .slice none 0 0]) ∧ i.size = 2 ∧ i.bytes = 32) := by
    obtain ⟨i, h1, h2, h3, h4⟩ := info_parts infoB
    exact ⟨i, h1, h2, h3, h4⟩
  obtain ⟨W1, hW1, sz1, g1, B1⟩ := boxn w #[.int .i64 0, .int .i64 0, .slice none 0 0, .int .i64 0] 24
  have hg0 : g < w.heap.size := h.lt
  have HNE : Hid (w.heap.size ≠ g) := by unfold Hid; omega
  have HA : Hid (w.heap.size < W1.heap.size ∧ g < w.heap.size) := ⟨by have := sz1.out; omega, hg0⟩
  have R1 : Rd W1 g x r false := h.kept g1 (by simp)
  obtain ⟨⟨l, b0, r0⟩, hhd⟩ : ∃ Z, Pa.hdR r = Z := ⟨_, rfl⟩
  have hh := headC g x r false l b0 r0 hhd hs hz W1 R1
  have hs0 : Hid (Pa.Suf x r0) := by have := Pa.hdR_suf r; rw [hhd] at this; exact hs.of this
  have HX1 : Hid (Bo W1 w.heap.size 24 #[.int .i64 0, .int .i64 0, .slice none 0 0, .int .i64 0]) := B1
  have HG1 : Hid (w.grownBy W1 none) := g1
  have e0 := hN.out
  unfold Pa.trR at e0
  rw [hhd] at e0
  cases b0 with
  | false =>
    simp only [Bool.false_eq_true, if_false, Prod.mk.injEq] at e0
    obtain ⟨rfl, rfl, rfl, rfl, rfl⟩ := e0
    clear h hs sz1 g1 B1 hg0 hhd R1 hN
    go_enter Tryd.func41, Tryd.ntmps41
    go_wp2_with (first | (go_at_call 62; refine hh.mono ?_; rintro e w2 ⟨rfl, hR2, hG2⟩; refine Hid.out ?_))
    refine Lib.hid ?_
    clear hh
    have BB2 := HX1.out.kept hG2 (by have := HA.out; simp; omega)
    have G2 := gb_trans' HG1.out hG2
    have ha4 : ∃ a0 a1 a2 a3 : Nat, arr4 l = #[.int .i64 (a0 : Nat), .int .i64 (a1 : Nat), .int .i64 (a2 : Nat), .int .i64 (a3 : Nat)] := ⟨_, _, _, _, rfl⟩
    obtain ⟨a0, a1, a2, a3, ha4⟩ := ha4
    rw [ha4]
    clear ha4
    obtain ⟨W3, hW3, sz3, g3, B3⟩ := boxn w2 #[.int .i64 (a0 : Nat), .int .i64 (a1 : Nat), .int .i64 (a2 : Nat), .int .i64 (a3 : Nat)] 70
    have BB := BB2.kept g3 (by simp)
    have hR3 := hR2.kept g3 (by simp)
    have G3 := gb_none G2 g3
    have b0 := BB.cell 0 (v := .int .i64 0) rfl
    have b1 := BB.cell 1 (v := .int .i64 0) rfl
    have b2 := BB.cell 2 (v := .slice none 0 0) rfl
    have b3 := BB.cell 3 (v := .int .i64 0) rfl
    have bf0 := BB.frozen 0
    have bf1 := BB.frozen 1
    have bf2 := BB.frozen 2
    have bf3 := BB.frozen 3
    go_wp2
    refine ret_c2 (g := w.heap.size) (t := 24) (cs := #[.int .i64 0, .int .i64 0, .slice none 0 0, .int .i64 0]) rfl HF.out infoTr rfl (by first | exact (((BB.set 0 _).set 1 _).set 2 _).set 3 _ | exact BB) rfl ⟨0, 0, 0, none, 0, 0, rfl, ?_, ?_, fun q => absurd q (by simp)⟩
    · exact (((hR3.set2 HNE.out).set2 HNE.out).set2 HNE.out).set2 HNE.out
    · exact gb_new (gb_new (gb_new (gb_new G3 (Nat.le_refl _) _) (Nat.le_refl _) _) (Nat.le_refl _) _) (Nat.le_refl _) _
  | true =>
    have hw := Pa.hdR_was (r := r) (by rw [hhd])
    rw [hhd] at hw
    obtain ⟨S, I, n, R, hS, hI, hn, hR, rfl, -⟩ := hw
    obtain ⟨⟨xz, bz, Bz, rz⟩, hzz⟩ : ∃ Z, Pa.nsR n [] false r0 = Z := ⟨_, rfl⟩
    have en : ([S, I, n, R] : List Nat).getD 2 0 = n := rfl
    simp only [if_true, en, hzz, Prod.mk.injEq] at e0
    obtain ⟨rfl, rfl, rfl, hBB, rfl⟩ := e0
    have HBB : Hid ((Bz && rz.isEmpty) = B) := hBB
    have HZ : Hid (Pa.nsR n [] false r0 = (xz, bz, Bz, rz)) := hzz
    clear h hs sz1 g1 B1 hg0 hhd R1 hN hBB hzz en
    go_enter Tryd.func41, Tryd.ntmps41
    go_wp2_with (first | (go_at_call 62; refine hh.mono ?_; rintro e w2 ⟨rfl, hR2, hG2⟩; refine Hid.out ?_))
    refine Lib.hid ?_
    clear hh
    have BB2 := HX1.out.kept hG2 (by have := HA.out; simp; omega)
    have G2 := gb_trans' HG1.out hG2
    unfold arr4
    obtain ⟨W3, hW3, sz3, g3, B3⟩ := boxn w2 #[.int .i64 (S : Nat), .int .i64 (I : Nat), .int .i64 (n : Nat), .int .i64 (R : Nat)] 70
    obtain ⟨W4, hW4, sz4, g4, B4⟩ := boxn W3 #[.int .i64 (S : Nat), .int .i64 (I : Nat), .slice none 0 0, .int .i64 (R : Nat)] 24
    have g34 := gb_trans g3 g4
    have HX4 : Hid (Bo W4 w.heap.size 24 #[.int .i64 0, .int .i64 0, .slice none 0 0, .int .i64 0]) := BB2.kept g34 (by simp)
    have HR4 : Hid (Rd W4 g x r0 false) := hR2.kept g34 (by simp)
    have HG4 : Hid (w.grownBy W4 (some g)) := gb_none G2 g34
    have HY4 : Hid (Bo W4 W3.heap.size 24 #[.int .i64 (S : Nat), .int .i64 (I : Nat), .slice none 0 0, .int .i64 (R : Nat)]) := B4
    have HA2 : Hid (w.heap.size < W3.heap.size ∧ W3.heap.size < W4.heap.size ∧ g < w.heap.size) := by have := HA.out; have := hG2.size; have := sz3.out; have := sz4.out; unfold Hid; omega
    have D3 := B3.kept g4 (by simp)
    have c0 := B3.cell 0 (v := .int .i64 (S : Nat)) rfl; have d0 := D3.cell 0 (v := .int .i64 (S : Nat)) rfl
    have c1 := B3.cell 1 (v := .int .i64 (I : Nat)) rfl; have d1 := D3.cell 1 (v := .int .i64 (I : Nat)) rfl
    have c2 := B3.cell 2 (v := .int .i64 (n : Nat)) rfl; have d2 := D3.cell 2 (v := .int .i64 (n : Nat)) rfl
    have c3 := B3.cell 3 (v := .int .i64 (R : Nat)) rfl; have d3 := D3.cell 3 (v := .int .i64 (R : Nat)) rfl
    clear BB2 hR2 G2 hG2 sz3 sz4 g3 g4 g34 B3 B4 D3 HX1 HG1
    go_wp2
    clear c0 c1 c2 c3 d0 d1 d2 d3 hW3 hW4
    go_loopw [26] (fun v wr => ∃ (xs : List (Nat × List Nat)) (ns : Bool) (rr : List UInt8) (np : Option Addr) (nc : Nat) (t : Nat → TN), v = .int .i64 (xs.length : Nat) ∧ Hid (xs.length ≤ n ∧ Pa.nsR (n - xs.length) xs ns rr = (xz, bz, Bz, rz)) ∧ Hid (Pa.Suf x rr) ∧ Hid (Rd wr g x rr ns) ∧ Hid (Bo wr w.heap.size 24 #[.int .i64 0, .int .i64 0, .slice none 0 0, .int .i64 0]) ∧ Hid (Bo wr W3.heap.size 24 #[.int .i64 (S : Nat), .int .i64 (I : Nat), .slice np xs.length nc, .int .i64 (R : Nat)]) ∧ Hid (As t xs) ∧ Hid (wr.ownsRow W4.heap.size 69 2 (.slice np xs.length nc) xs.length (ndW t xs.length)) ∧ Hid (Ks wr W4.heap.size t xs.length) ∧ Hid (Inc t xs.length) ∧ Hid (w.grownBy wr (some g)) ∧ Hid (W4.heap.size ≤ wr.heap.size)) (fun v _ => n - (intOf v).toNat)
    case atStart => exact ⟨[], false, r0, none, 0, fun _ => ⟨0, none, 0, 0, fun _ => 0⟩, rfl, ⟨Nat.zero_le _, HZ.out⟩, hs0.out, HR4.out, HX4.out, HY4.out, fun i hi => absurd hi (Nat.not_lt_zero _), World.ownsRow_nil _ _ _ _, fun i hi => absurd hi (Nat.not_lt_zero _), fun i k _ hk => absurd hk (Nat.not_lt_zero _), HG4.out, Nat.le_refl _⟩
    case round =>
      obtain ⟨xs, ns, rr, np, nc, t, rfl, hst, hsx, HR, HX, HY, hAs, own, hKs, hInc, HG, hsz⟩ := hrel
      clear HX4 HR4 HG4 HY4
      by_cases hlt : xs.length < n
      · have hlt' : ((xs.length : Nat) : Int) < (n : Int) := by omega
        obtain ⟨⟨⟨st, ks⟩, bg, b1, r1⟩, hnd⟩ : ∃ Z, Pa.ndR rr = Z := ⟨_, rfl⟩
        have hk := nodeC g x rr ns st ks bg b1 r1 hnd hsx.out hz wr HR.out
        have hs1 : Hid (Pa.Suf x r1) := by have := Pa.ndR_suf rr; rw [hnd] at this; exact hsx.out.of this
        have HE := hst.out.2
        rw [show n - xs.length = (n - (xs.length + 1)) + 1 by omega] at HE
        unfold Pa.nsR at HE
        rw [hnd] at HE
        clear hnd
        have BX5 : Hid (∀ w5, wr.grownBy w5 (some g) → Bo w5 w.heap.size 24 #[.int .i64 0, .int .i64 0, .slice none 0 0, .int .i64 0]) := fun w5 hg => HX.out.kept hg (by have := HA2.out; simp; omega)
        go_wp2_with (first | (go_at_call 63; refine hk.mono ?_; rintro e w5 ⟨kp, kc, rfl, ownk, hR5, hG5⟩; refine Hid.out ?_))
        refine Lib.hid ?_
        clear hk
        obtain ⟨W6, hW6, sz6, g6, B6⟩ := boxn w5 #[.int .u8 (st : Nat), .slice kp ks.length kc] 69
        have g56 : wr.grownBy W6 (some g) := gb_none hG5 g6
        have hR6 := hR5.kept g6 (by simp)
        have G6 := gb_one HG.out g56
        have BB := BX5.out W6 g56
        cases b1 with
        | false =>
          simp only [Bool.false_eq_true, if_false, Prod.mk.injEq] at HE
          obtain ⟨rfl, rfl, rfl, rfl⟩ := HE
          obtain rfl : B = false := by rw [← HBB.out]; rfl
          have b0 := BB.cell 0 (v := .int .i64 0) rfl
          have b1 := BB.cell 1 (v := .int .i64 0) rfl
          have b2 := BB.cell 2 (v := .slice none 0 0) rfl
          have b3 := BB.cell 3 (v := .int .i64 0) rfl
          have bf0 := BB.frozen 0
          have bf1 := BB.frozen 1
          have bf2 := BB.frozen 2
          have bf3 := BB.frozen 3
          go_wp2
          refine ret_c2 (g := w.heap.size) (t := 24) (cs := #[.int .i64 0, .int .i64 0, .slice none 0 0, .int .i64 0]) rfl HF.out infoTr rfl (by first | exact (((BB.set 0 _).set 1 _).set 2 _).set 3 _ | exact BB) rfl ⟨0, 0, 0, none, 0, 0, rfl, ?_, ?_, fun q => absurd q (by simp)⟩
          · exact (((hR6.set2 HNE.out).set2 HNE.out).set2 HNE.out).set2 HNE.out
          · exact gb_new (gb_new (gb_new (gb_new G6 (Nat.le_refl _) _) (Nat.le_refl _) _) (Nat.le_refl _) _) (Nat.le_refl _) _
        | true =>
          simp only [if_true] at HE
          have HE : Hid (Pa.nsR (n - (xs.length + 1)) (xs ++ [(st, ks)]) (ns || bg) r1 = (xz, bz, Bz, rz)) := HE
          have HPL : Hid (∀ i, i < xs.length → ∀ p, (Value.slice (t i).kp (t i).kn (t i).kc).ownBlock = some p → p < wr.heap.size) := fun i hi p hp => ((hKs.out i hi).lt p hp).2
          have HQL : Hid (∀ q, (Value.slice kp ks.length kc).ownBlock = some q → wr.heap.size ≤ q) := fun q hq => (ownk.lt q hq).1
          have YY := HY.out.kept g56 (by have := HA2.out; simp; omega)
          have own6 := own_g own.out g56 (by have := HA2.out; omega)
          have K6 := hKs.out.kept g56 (by intro b hb; cases hb; have := HA2.out; omega)
          have ownk6 : W6.ownsRow W4.heap.size 3 1 (.slice kp ks.length kc) ks.length (kidsV (lf ks) ks.length) := Joins.ownsRow_le (ownk.kept g6 (Classical.em _)) hsz.out
          obtain ⟨W7, hW7, sz7, g7, B7⟩ := boxn W6 #[.int .u8 (st : Nat), .slice kp ks.length kc] 69
          have own7 := own6.kept g7 (Classical.em _)
          have K7 := K6.kept g7 (by simp)
          have ownk7 := ownk6.kept g7 (Classical.em _)
          have y62 := YY.cell 2 (v := .slice np xs.length nc) rfl
          have c60 := B6.cell 0 (v := .int .u8 (st : Nat)) rfl
          have c61 := B6.cell 1 (v := .slice kp ks.length kc) rfl
          have nw : ∀ l u, [Value.int .u8 (st : Nat), .slice kp ks.length kc][l]? = some u → W7.cell? ((⟨W6.heap.size, 0, none⟩ : Addr).add l) = some u := World.news_of_block (cs := #[.int .u8 (st : Nat), .slice kp ks.length kc]) B7
          have sz47 : W4.heap.size ≤ W7.heap.size := Nat.le_trans hsz.out (Nat.le_trans g56.size g7.size)
          have hxl : xs.length < 65536 := by omega
          go_wp2_with (first | (at_builtin; refine wpList_append_lies _ rfl _ _ 22 rfl W4.heap.size 69 ib (.agg #[.int .u8 0, .slice none 0 0]) 2 32 underBS HB.out.1 HB.out.2.1 HB.out.2.2.1 HB.out.2.2.2 rfl (by decide) _ xs.length _ rfl own7 ⟨W6.heap.size, 0, none⟩ 1 1 [.int .u8 (st : Nat), .slice kp ks.length kc] rfl rfl nw (by intro u hu; simp at hu; rcases hu with rfl | rfl <;> rfl) (by decide) (by unfold maxLen; omega) (by omega) sz47 _ rfl ?_; intro g8 q8 w8 own8 gk8 at8 lt8; refine Hid.out ?_))
          refine Lib.hid ?_
          have hob : ∀ b, (Value.slice np xs.length nc).ownBlock = some b → W4.heap.size ≤ b := fun b hb => (own7.lt b hb).1
          have X8 := (BB.kept g7 (by simp)).kept gk8 (fun e => by have := hob _ e.symm; have := HA2.out; omega)
          have Y8 := (YY.kept g7 (by simp)).kept gk8 (fun e => by have := hob _ e.symm; have := HA2.out; omega)
          have R8 := (hR6.kept g7 (by simp)).kept gk8 (fun e => by have := hob _ e.symm; have := HA2.out; omega)
          have K8 := K7.push own7 gk8
          have ownk8 := ownk7.kept gk8 (own_two (n := 0) own7 ownk7)
          have G8 : w.grownBy w8 (some g) := (gb_none G6 g7).andThen gk8 (fun b hb => .inl (by have := hob b hb; have := HA2.out; omega))
          have y8 := Y8.cell 2 (v := .slice np xs.length nc) rfl
          have f8 := Y8.frozen 2
          obtain ⟨W9, hW9⟩ : ∃ W9, w8.setCell ⟨W3.heap.size, 2, none⟩ (.slice (some ⟨g8, 0, none⟩) (xs.length + 1) q8) = W9 := ⟨_, rfl⟩
          have g89 : w8.grownBy W9 (some W3.heap.size) := hW9 ▸ gb_set (World.grownBy.refl w8 _) _ _
          have el : (xs ++ [(st, ks)]).length = xs.length + 1 := by simp
          have HEL : Hid ((xs ++ [(st, ks)]).length = xs.length + 1) := el
          have HR9 : Hid (Rd W9 g x r1 (ns || bg)) := hW9 ▸ R8.set2 (by have := HA2.out; omega)
          have HX9 : Hid (Bo W9 w.heap.size 24 #[.int .i64 0, .int .i64 0, .slice none 0 0, .int .i64 0]) := hW9 ▸ X8.set2 (by have := HA2.out; omega)
          have HY9 : Hid (Bo W9 W3.heap.size 24 #[.int .i64 (S : Nat), .int .i64 (I : Nat), .slice (some ⟨g8, 0, none⟩) (xs.length + 1) q8, .int .i64 (R : Nat)]) := hW9 ▸ Y8.set 2 _
          have HO9 : Hid (W9.ownsRow W4.heap.size 69 2 (.slice (some ⟨g8, 0, none⟩) (xs.length + 1) q8) (xs.length + 1) (ndW t xs.length ++ [.int .u8 (st : Nat), .slice kp ks.length kc])) := own8.kept g89 (.inr fun e => by have := (own8.lt _ e).1; have := HA2.out; omega)
          have HK9 : Hid (Ks W9 W4.heap.size t xs.length) := K8.kept g89 (by intro b hb; cases hb; have := HA2.out; omega)
          have HQ9 : Hid (W9.ownsRow W4.heap.size 3 1 (.slice kp ks.length kc) ks.length (kidsV (lf ks) ks.length)) := ownk8.kept g89 (by
            by_cases e : (Value.slice kp ks.length kc).ownBlock = some W3.heap.size
            · have := (ownk8.lt _ e).1; have := HA2.out; omega
            · exact .inr e)
          have HG9 : Hid (w.grownBy W9 (some g)) := hW9 ▸ gb_new G8 (Nat.le_of_lt HA2.out.1) _
          have HZ9 : Hid (W4.heap.size ≤ W9.heap.size) := Nat.le_trans sz47 (Nat.le_trans gk8.size g89.size)
          clear X8 Y8 R8 K8 ownk8 G8 own8 g89 el own7 own6 K6 K7 ownk6 ownk7 ownk B6 B7 nw g7 g6 g56 hR6 hR5 hG5 G6 BB YY gk8 hob y62 c60 c61 sz47 hW6 hW7 at8 lt8 sz6 sz7
          go_wp2
          refine ⟨?_, ?measure⟩
          (repeat apply Exists.intro)
          refine ⟨?rel, rfl⟩
          case rel =>
            let t' : Nat → TN := fun k => if k = xs.length then ⟨st, kp, ks.length, kc, lf ks⟩ else t k
            have ht : ∀ k, k < xs.length → t k = t' k := fun k hk => by simp [t', show k ≠ xs.length by omega]
            have ht2 : t' xs.length = ⟨st, kp, ks.length, kc, lf ks⟩ := by simp [t']
            refine ⟨xs ++ [(st, ks)], ns || bg, r1, some ⟨g8, 0, none⟩, q8, t', ?_, ⟨?_, ?_⟩, hs1.out, HR9.out, HX9.out, ?_, ?_, ?_, ?_, ?_, HG9.out, HZ9.out⟩
            · rw [HEL.out]; go_num
            · rw [HEL.out]; exact hlt
            · rw [HEL.out]; exact HE.out
            · rw [HEL.out]; exact HY9.out
            · intro i hi
              rw [HEL.out] at hi
              by_cases e : i = xs.length
              · subst e
                rw [ht2]
                have : (xs ++ [(st, ks)]).getD xs.length (0, []) = (st, ks) := by simp
                rw [this]
                exact ⟨rfl, rfl, rfl⟩
              · have hi' : i < xs.length := by omega
                rw [← ht i hi']
                have : (xs ++ [(st, ks)]).getD i (0, []) = xs.getD i (0, []) := by rw [List.getD_eq_getElem?_getD, List.getElem?_append_left hi', ← List.getD_eq_getElem?_getD]
                rw [this]
                exact hAs.out i hi'
            · rw [HEL.out, ndW, ← ndW_congr ht, ht2]
              exact HO9.out
            · intro i hi
              rw [HEL.out] at hi
              by_cases e : i = xs.length
              · subst e
                rw [ht2]
                exact HQ9.out
              · rw [← ht i (by omega)]
                exact HK9.out i (by omega)
            · rw [HEL.out]
              exact hInc.out.step ht HPL.out (by rw [ht2]; exact HQL.out)
          case measure => simp [intOf]; omega
      · have hn2 : xs.length = n := by have := hst.out.1; omega
        have hlt' : ¬ ((xs.length : Nat) : Int) < (n : Int) := by omega
        have HE := hst.out.2
        rw [show n - xs.length = 0 by omega] at HE
        have HE2 : (xs, ns, true, rr) = (xz, bz, Bz, rz) := HE
        simp only [Prod.mk.injEq] at HE2
        obtain ⟨rfl, rfl, rfl, rfl⟩ := HE2
        have hB : ((((Pa.po x rr : Nat) : Int)) == ((x.size : Nat) : Int)) = B := by
          rw [← HBB.out]
          have h1 := Pa.po_eq hsx.out hsx.out
          cases rr with
          | nil => rw [Pa.po_nil]; simp
          | cons c q =>
            have h2 : ¬ Pa.po x (c :: q) = x.size := fun e => by cases h1.1 e
            simp
            omega
        have HN2 : Hid (xs.length = n) := hn2
        have BB := HX.out
        have CC := HY.out
        have x0 := HR.out.c0
        have x1 := HR.out.c1
        have b0 := BB.cell 0 (v := .int .i64 0) rfl
        have b1 := BB.cell 1 (v := .int .i64 0) rfl
        have b2 := BB.cell 2 (v := .slice none 0 0) rfl
        have b3 := BB.cell 3 (v := .int .i64 0) rfl
        have bf0 := BB.frozen 0
        have bf1 := BB.frozen 1
        have bf2 := BB.frozen 2
        have bf3 := BB.frozen 3
        have c0 := CC.cell 0 (v := .int .i64 (S : Nat)) rfl
        have c1 := CC.cell 1 (v := .int .i64 (I : Nat)) rfl
        have c2 := CC.cell 2 (v := .slice np xs.length nc) rfl
        have c3 := CC.cell 3 (v := .int .i64 (R : Nat)) rfl
        clear HE hn2 hst
        have ne1 : w.heap.size ≠ g := HNE.out
        have ne2 := ne1.symm
        have ne3 : w.heap.size ≠ W3.heap.size := by have := HA2.out; omega
        have ne4 := ne3.symm
        go_wp2
        go_region
        all_goals
          go_wp2
          refine ret_c2 (g := w.heap.size) (t := 24) (cs := #[.int .i64 (S : Nat), .int .i64 (I : Nat), .slice np xs.length nc, .int .i64 (R : Nat)]) rfl HF.out infoTr rfl ((((BB.set 0 _).set 1 _).set 2 _).set 3 _) rfl ⟨_, _, _, np, xs.length, nc, rfl, ?_, ?_, fun _ => ⟨S, I, R, t, by rw [HN2.out], rfl, rfl, rfl, rfl, hAs.out, ?_, ?_, hInc.out⟩⟩
          · exact (((HR.out.set2 HNE.out).set2 HNE.out).set2 HNE.out).set2 HNE.out
          · exact gb_drew (gb_new (gb_new (gb_new (gb_new HG.out (Nat.le_refl _) _) (Nat.le_refl _) _) (Nat.le_refl _) _) (Nat.le_refl _) _)
          · exact Joins.ownsRow_le (own.out.kept (gb_drew (gb_set (gb_set (gb_set (gb_set (World.grownBy.refl wr (some w.heap.size)) _ _) _ _) _ _) _ _)) (.inr fun e => by have := (own.out.lt _ e).1; have := HA2.out; omega)) (by have := HA2.out; omega)
          · intro i hi
            exact Joins.ownsRow_le ((hKs.out.kept (gb_drew (gb_set (gb_set (gb_set (gb_set (World.grownBy.refl wr (some w.heap.size)) _ _) _ _) _ _) _ _)) (by intro b hb; cases hb; have := HA2.out; omega)) i hi) (by have := HA2.out; omega)
end Rr
end Go.Proofs.YteaionmjbkildabDoor
