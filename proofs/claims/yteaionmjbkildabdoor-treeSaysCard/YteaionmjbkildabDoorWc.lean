/- The reader of a tree's text: a branch. -/
import Derived.Test.YteaionmjbkildabDoorWb
import Derived.Test.YteaionmjbkildabDoorQ36
import Derived.Deep.RegionWith
import Derived.BigRegion
namespace Go.Proofs.YteaionmjbkildabDoor
open Go.RowKit
set_option linter.unusedVariables false
set_option linter.unusedSimpArgs false
set_option maxRecDepth 100000
namespace Pa
theorem brR_no {f : Nat} {acc : List Nat} {r r1 : List UInt8} {n1 : Nat} (hf : r.length ≤ f) (hn : numR 9 0 r = (n1, r1)) (h : ¬ r1.length < r.length) : brR f acc r = ([], false, r1) := by
  cases f with
  | zero =>
    have : r = [] := List.length_eq_zero_iff.1 (by omega)
    subst this
    have e : numR 9 0 [] = (0, []) := rfl
    rw [e] at hn
    obtain ⟨rfl, rfl⟩ := Prod.mk.inj hn
    rfl
  | succ f =>
    unfold brR
    rw [hn, if_neg h]
theorem brR_yes {f : Nat} {acc : List Nat} {r r1 r2 : List UInt8} {n1 : Nat} {b : Bool} (hf : r.length ≤ f) (hn : numR 9 0 r = (n1, r1)) (h : r1.length < r.length) (hs : skR 32 r1 = (b, r2)) : brR f acc r = if b then brR (f - 1) (acc ++ [n1]) r2 else (acc ++ [n1], true, r2) := by
  cases f with
  | zero => omega
  | succ f =>
    conv => lhs; unfold brR
    rw [hn, if_pos h]
    simp only [hs, Nat.add_sub_cancel]
theorem suf_len {r r' : List UInt8} (h : ∃ a, r = a ++ r') : r'.length ≤ r.length := by
  obtain ⟨a, rfl⟩ := h
  simp
end Pa
namespace Rr
theorem kids_snoc (acc : List Nat) (n : Nat) : kidsV (lf (acc ++ [n])) (acc ++ [n]).length = kidsV (lf acc) acc.length ++ [.int .i64 (n : Nat)] := by
  have h : ∀ k, k ≤ acc.length → kidsV (lf (acc ++ [n])) k = kidsV (lf acc) k := by
    intro k hk
    unfold kidsV
    refine List.map_congr_left fun i hi => ?_
    have hi := List.mem_range.1 hi
    unfold lf
    rw [List.getD_eq_getElem?_getD, List.getElem?_append_left (by omega), ← List.getD_eq_getElem?_getD]
  rw [List.length_append, List.length_singleton]
  have e : kidsV (lf (acc ++ [n])) (acc.length + 1) = kidsV (lf (acc ++ [n])) acc.length ++ [.int .i64 (lf (acc ++ [n]) acc.length)] := by
    unfold kidsV
    rw [List.range_succ, List.map_append]
    rfl
  rw [e, h _ (Nat.le_refl _)]
  congr 3
  unfold lf
  simp
theorem own_g {w w' : World} {B g e s n : Nat} {v : Value} {xs : List Value} (h : w.ownsRow B e s v n xs) (hg : w.grownBy w' (some g)) (hB : g < B) : w'.ownsRow B e s v n xs :=
  h.kept hg (.inr fun e => by have := (h.lt g e).1; omega)
/-- Where the reader of the block g stands ahead of its text's end. -/
def lft (x : ByteArray) (g : Nat) (w : World) : Nat := match w.cell? ⟨g, 1, none⟩ with
  | some (.int _ p) => x.size - p.toNat
  | _ => 0
theorem Rd.lft {w : World} {g : Nat} {x : ByteArray} {r : List UInt8} {ns : Bool} (h : Rd w g x r ns) (hs : Pa.Suf x r) : Rr.lft x g w = r.length := by
  unfold Rr.lft
  rw [h.c1]
  have := hs.le
  unfold Pa.po
  simp
  omega
/-- What a branch's loop knows. -/
structure Br (x : ByteArray) (r : List UInt8) (Z : List Nat × Bool × List UInt8) (f : Nat) (acc : List Nat) (rr : List UInt8) : Prop where
  suf : Pa.Suf x rr
  fuel : rr.length ≤ f
  val : Pa.brR f acc rr = Z
  len : acc.length + rr.length ≤ r.length
set_option maxHeartbeats 4000000 in
theorem branchC (g : Nat) (x : ByteArray) (r : List UInt8) (ns : Bool) (ks : List Nat) (B : Bool) (r' : List UInt8) (hN : Hid (Pa.brR r.length [] r = (ks, B, r'))) (hs : Pa.Suf x r) (hz : x.size ≤ 1048576) (w : World) (h : Rd w g x r ns) :
    Calls Tryd.prog 78 #[.pointer (some ⟨g, 0, none⟩)] w fun e w' => ∃ kp kc, e = .returned (.tuple #[.agg #[.int .u8 0, .slice kp ks.length kc], .bool B]) ∧ w'.ownsRow w.heap.size 3 1 (.slice kp ks.length kc) ks.length (kidsV (lf ks) ks.length) ∧ Rd w' g x r' ns ∧ w.grownBy w' (some g) := by
  obtain ⟨fs, hfs⟩ := underBr
  have HF : Hid (Tryd.prog.underlying 69 = some (.struct fs)) := hfs
  clear hfs
  obtain ⟨i0, HI⟩ : ∃ i, Hid (Tryd.prog.info? 3 = some i ∧ i.zero = some (.int .i64 0) ∧ i.size = 1 ∧ i.bytes = 8) := by
    obtain ⟨i, h1, h2, h3, h4⟩ := info_parts infoI
    exact ⟨i, h1, h2, h3, h4⟩
  obtain ⟨W1, hW1, sz1, g1, B1⟩ := boxn w #[.int .u8 0, .slice none 0 0] 69
  obtain ⟨W2, hW2, sz2, g2, B2⟩ := boxn W1 #[.int .u8 0, .slice none 0 0] 69
  have hg0 : g < w.heap.size := h.lt
  have HA : Hid (w.heap.size < W1.heap.size ∧ W1.heap.size < W2.heap.size ∧ g < w.heap.size) := ⟨by have := sz1.out; omega, by have := sz2.out; omega, hg0⟩
  have G2 := gb_trans g1 g2
  have HG0 : Hid (w.grownBy W2 (some g)) := gb_trans' G2 (World.grownBy.refl _ _)
  have HB1 : Hid (Bo W2 w.heap.size 69 #[.int .u8 0, .slice none 0 0]) := B1.kept g2 (by simp)
  have HB2 : Hid (Bo W2 W1.heap.size 69 #[.int .u8 0, .slice none 0 0]) := B2
  have HR0 : Hid (Rd W2 g x r ns) := h.kept G2 (by simp)
  have HS : Hid (Pa.Suf x r) := hs
  clear h hs sz1 sz2 g1 g2 G2 B1 B2 hg0
  go_enter Tryd.func78, Tryd.ntmps78
  go_wp2
  go_loopw [] (fun wr => ∃ (f : Nat) (acc : List Nat) (rr : List UInt8) (kp : Option Addr) (kc : Nat), Hid (Br x r (ks, B, r') f acc rr) ∧ Hid (Rd wr g x rr ns) ∧ Hid (Bo wr w.heap.size 69 #[.int .u8 0, .slice none 0 0]) ∧ Hid (Bo wr W1.heap.size 69 #[.int .u8 0, .slice kp acc.length kc]) ∧ Hid (wr.ownsRow W2.heap.size 3 1 (.slice kp acc.length kc) acc.length (kidsV (lf acc) acc.length)) ∧ Hid (w.grownBy wr (some g)) ∧ Hid (W2.heap.size ≤ wr.heap.size)) (fun wr => Rr.lft x g wr)
  case atStart => exact ⟨r.length, [], r, none, 0, ⟨HS.out, Nat.le_refl _, hN.out, by simp⟩, HR0.out, HB1.out, HB2.out, World.ownsRow_nil _ _ _ _, HG0.out, Nat.le_refl _⟩
  case round =>
    obtain ⟨f, acc, rr, kp, kc, hbr, HR, HX, HY, own, HG, hsz⟩ := hrel
    obtain ⟨⟨n1, r1⟩, hnu⟩ : ∃ Z, Pa.numR 9 0 rr = Z := ⟨_, rfl⟩
    obtain ⟨b1, hb1⟩ : ∃ b, decide (r1.length < rr.length) = b := ⟨_, rfl⟩
    have hn := numberC g x rr ns n1 r1 hnu b1 hb1 hbr.out.suf hz wr HR.out
    have HNU : Hid (Pa.numR 9 0 rr = (n1, r1)) := hnu
    have hs1 : Hid (Pa.Suf x r1) := by have := Pa.numR_suf 9 0 rr; rw [hnu] at this; exact hbr.out.suf.of this
    clear hnu
    cases b1 with
    | false =>
      have e := hbr.out.val
      rw [Pa.brR_no hbr.out.fuel HNU.out (by simpa using hb1)] at e
      simp only [Prod.mk.injEq] at e
      obtain ⟨rfl, rfl, rfl⟩ := e
      have HK : Hid (∀ w1, wr.grownBy w1 (some g) → Bo w1 w.heap.size 69 #[.int .u8 0, .slice none 0 0]) := fun w1 hg => HX.out.kept hg (by have := HA.out; simp; omega)
      clear hb1
      go_wp2_with (first | (go_at_call 84; refine hn.mono ?_; rintro e w1 ⟨rfl, hR1, hG1⟩; have BB := HK.out w1 hG1; have bc0 := BB.cell 0 (v := .int .u8 0) rfl; have bc1 := BB.cell 1 (v := .slice none 0 0) rfl; have bf0 := BB.frozen 0; have bf1 := BB.frozen 1))
      have le : w.heap.size ≤ w.heap.size := Nat.le_refl _
      have hne : w.heap.size ≠ g := by have := HA.out; omega
      have hGG := gb_one HG.out hG1
      refine ret_c2 (g := w.heap.size) (t := 69) (cs := #[.int .u8 0, .slice none 0 0]) rfl HF.out infoBr rfl (by first | exact (BB.set 0 _).set 1 _ | exact BB) rfl ⟨none, 0, rfl, World.ownsRow_nil _ _ _ _, ?_, ?_⟩
      · exact (hR1.set2 hne).set2 hne
      · exact gb_new (gb_new hGG le _) le _
    | true =>
      have hb2 : r1.length < rr.length := of_decide_eq_true hb1
      have hb1 : Hid (r1.length < rr.length) := hb2
      clear hb2
      obtain ⟨⟨b2, r2⟩, hsk⟩ : ∃ Z, Pa.skR 32 r1 = Z := ⟨_, rfl⟩
      have hk := fun w4 hR => skipC g x r1 ns 32 32 rfl b2 r2 hsk hs1.out hz w4 hR
      have HSK : Hid (Pa.skR 32 r1 = (b2, r2)) := hsk
      have HV := hbr.out.val
      rw [Pa.brR_yes hbr.out.fuel HNU.out hb1.out hsk] at HV
      have HV : Hid ((if b2 then Pa.brR (f - 1) (acc ++ [n1]) r2 else (acc ++ [n1], true, r2)) = (ks, B, r')) := HV
      have hlen : Hid (acc.length + 1 + r1.length ≤ r.length ∧ r1.length + 1 ≤ rr.length) := by
        have h1 := hbr.out.len
        have h2 := hb1.out
        exact ⟨by omega, by omega⟩
      have hacc : acc.length ≤ 1048576 := by
        have h1 := hbr.out.len
        have h2 := HS.out.le
        omega
      have HACC : Hid (acc.length ≤ 1048576) := hacc
      clear hsk hacc
      go_wp2_with (first | (go_at_call 84; refine hn.mono ?_; rintro e w1 ⟨rfl, hR1, hG1⟩; refine Hid.out ?_))
      refine Lib.hid ?_
      clear hn
      have X1 := HX.out.kept hG1 (by have := HA.out; simp; omega)
      have Y1 := HY.out.kept hG1 (by have := HA.out; simp; omega)
      have own1 := own_g own.out hG1 (by have := HA.out; omega)
      have y1 := Y1.cell 1 (v := .slice kp acc.length kc) rfl
      obtain ⟨W3, hW3, sz3, g3, B3⟩ := boxn w1 #[.int .i64 (n1 : Nat)] 3
      have own3 := own1.kept g3 (Classical.em _)
      have nw : ∀ l u, [Value.int .i64 (n1 : Nat)][l]? = some u → W3.cell? ((⟨w1.heap.size, 0, none⟩ : Addr).add l) = some u := World.news_of_block (cs := #[.int .i64 (n1 : Nat)]) B3
      have sz23 : W2.heap.size ≤ W3.heap.size := Nat.le_trans hsz.out (Nat.le_trans hG1.size g3.size)
      have hacc := HACC.out
      go_wp2_with (first | (at_builtin; refine wpList_append_lies _ rfl _ _ 63 rfl W2.heap.size 3 i0 (.int .i64 0) 1 8 underIS HI.out.1 HI.out.2.1 HI.out.2.2.1 HI.out.2.2.2 rfl (by decide) _ acc.length _ rfl own3 ⟨w1.heap.size, 0, none⟩ 1 1 [.int .i64 (n1 : Nat)] rfl rfl nw (by intro u hu; simp at hu; rcases hu with rfl; rfl) (by decide) (by unfold maxLen; omega) (by omega) sz23 _ rfl ?_; intro g4 q4 w4 own4 gk4 at4 lt4; refine Hid.out ?_))
      refine Lib.hid ?_
      clear hacc y1
      have hob : ∀ b, (Value.slice kp acc.length kc).ownBlock = some b → W2.heap.size ≤ b := fun b hb => (own3.lt b hb).1
      have X4 := (X1.kept g3 (by simp)).kept gk4 (fun e => by have := hob _ e.symm; have := HA.out; omega)
      have Y4 := (Y1.kept g3 (by simp)).kept gk4 (fun e => by have := hob _ e.symm; have := HA.out; omega)
      have R4 := (hR1.kept g3 (by simp)).kept gk4 (fun e => by have := hob _ e.symm; have := HA.out; omega)
      have G4 : w.grownBy w4 (some g) := (gb_none (gb_one HG.out hG1) g3).andThen gk4 (fun b hb => .inl (by have := hob b hb; have := HA.out; omega))
      have y4 := Y4.cell 1 (v := .slice kp acc.length kc) rfl
      have f4 := Y4.frozen 1
      obtain ⟨W5, hW5⟩ : ∃ W5, w4.setCell ⟨W1.heap.size, 1, none⟩ (.slice (some ⟨g4, 0, none⟩) (acc.length + 1) q4) = W5 := ⟨_, rfl⟩
      have hxy : w.heap.size ≠ W1.heap.size ∧ W1.heap.size ≠ g ∧ w.heap.size ≠ g ∧ w.heap.size ≤ W1.heap.size ∧ w.heap.size ≤ W2.heap.size := by have := HA.out; omega
      have HXY : Hid (w.heap.size ≠ W1.heap.size ∧ W1.heap.size ≠ g ∧ w.heap.size ≠ g ∧ w.heap.size ≤ W1.heap.size ∧ w.heap.size ≤ W2.heap.size) := hxy
      have g45 : w4.grownBy W5 (some W1.heap.size) := hW5 ▸ gb_set (World.grownBy.refl w4 _) _ _
      have el : (acc ++ [n1]).length = acc.length + 1 := by simp
      have HR5 : Hid (Rd W5 g x r1 ns) := hW5 ▸ R4.set2 hxy.2.1
      have HX5 : Hid (Bo W5 w.heap.size 69 #[.int .u8 0, .slice none 0 0]) := hW5 ▸ X4.set2 (Ne.symm hxy.1)
      have HY5 : Hid (Bo W5 W1.heap.size 69 #[.int .u8 0, .slice (some ⟨g4, 0, none⟩) (acc.length + 1) q4]) := hW5 ▸ Y4.set 1 _
      have HO5 : Hid (W5.ownsRow W2.heap.size 3 1 (.slice (some ⟨g4, 0, none⟩) (acc.length + 1) q4) (acc.length + 1) (kidsV (lf acc) acc.length ++ [.int .i64 (n1 : Nat)])) := own4.kept g45 (.inr fun e => by have := (own4.lt _ e).1; have := HA.out; omega)
      have HG5 : Hid (w.grownBy W5 (some g)) := hW5 ▸ gb_new G4 hxy.2.2.2.1 _
      have HZ5 : Hid (W2.heap.size ≤ W5.heap.size) := Nat.le_trans sz23 (Nat.le_trans gk4.size g45.size)
      have hk5 := hk W5 HR5.out
      clear X4 Y4 R4 G4 own4 g45 hk own3 own1 X1 Y1 B3 nw g3 hR1 hG1 gk4 hob sz23 sz3 hW3 at4 lt4 hxy
      cases b2 with
      | false =>
        have e := HV.out
        simp only [Bool.false_eq_true, if_false, Prod.mk.injEq] at e
        obtain ⟨rfl, rfl, rfl⟩ := e
        have HEL : Hid ((acc ++ [n1]).length = acc.length + 1) := el
        clear el
        have HK : Hid (∀ w1, W5.grownBy w1 (some g) → Bo w1 w.heap.size 69 #[.int .u8 0, .slice none 0 0] ∧ Bo w1 W1.heap.size 69 #[.int .u8 0, .slice (some ⟨g4, 0, none⟩) (acc.length + 1) q4]) := fun w1 hg => ⟨HX5.out.kept hg (by have := HA.out; simp; omega), HY5.out.kept hg (by have := HA.out; simp; omega)⟩
        go_wp2_with (first | (go_at_call 75; refine hk5.mono ?_; rintro e w6 ⟨rfl, hR6, hG6⟩; have BB := (HK.out w6 hG6).1; have CC := (HK.out w6 hG6).2; have bc0 := BB.cell 0 (v := .int .u8 0) rfl; have bc1 := BB.cell 1 (v := .slice none 0 0) rfl; have bf0 := BB.frozen 0; have bf1 := BB.frozen 1; have cc0 := CC.cell 0 (v := .int .u8 0) rfl; have cc1 := CC.cell 1 (v := .slice (some ⟨g4, 0, none⟩) (acc.length + 1) q4) rfl))
        have le : w.heap.size ≤ w.heap.size := Nat.le_refl _
        have hne := HXY.out.2.2.1
        have hGG := gb_one HG5.out hG6
        have own6 := own_g HO5.out hG6 (by have := HA.out; omega)
        have sw : ∀ X : World, w6.grownBy X (some w.heap.size) → X.ownsRow w.heap.size 3 1 (.slice (some ⟨g4, 0, none⟩) (acc.length + 1) q4) (acc.length + 1) (kidsV (lf acc) acc.length ++ [.int .i64 (n1 : Nat)]) := fun X hX => Joins.ownsRow_le (own6.kept hX (.inr fun e => by have := (own6.lt _ e).1; have := HA.out; omega)) HXY.out.2.2.2.2
        rw [kids_snoc, HEL.out]
        refine ret_c2 (g := w.heap.size) (t := 69) (cs := #[.int .u8 0, .slice (some ⟨g4, 0, none⟩) (acc.length + 1) q4]) rfl HF.out infoBr rfl ((BB.set 0 _).set 1 _) rfl ⟨some ⟨g4, 0, none⟩, q4, rfl, sw _ (gb_set (gb_set (World.grownBy.refl w6 _) _ _) _ _), ?_, ?_⟩
        · exact (hR6.set2 hne).set2 hne
        · exact gb_new (gb_new hGG le _) le _
      | true =>
        have HEL : Hid ((acc ++ [n1]).length = acc.length + 1) := el
        clear el
        go_wp2_with (first | (go_at_call 75; refine hk5.mono ?_; rintro e w6 ⟨rfl, hR6, hG6⟩))
        have s2 : Pa.Suf x r2 := by have := Pa.skR_suf 32 r1; rw [HSK.out] at this; exact hs1.out.of this
        have l2 : r2.length ≤ r1.length := by have := Pa.suf_len (Pa.skR_suf 32 r1); rw [HSK.out] at this; exact this
        go_roundw
        case rel =>
          refine ⟨f - 1, acc ++ [n1], r2, some ⟨g4, 0, none⟩, q4, ⟨s2, by have := hbr.out.fuel; have := hlen.out; omega, by have := HV.out; simpa using this, by rw [HEL.out]; have := hlen.out; omega⟩, hR6, HX5.out.kept hG6 (by have := HA.out; simp; omega), ?_, ?_, gb_one HG5.out hG6, Nat.le_trans HZ5.out hG6.size⟩
          · rw [HEL.out]
            exact HY5.out.kept hG6 (by have := HA.out; simp; omega)
          · rw [kids_snoc, HEL.out]
            exact own_g HO5.out hG6 (by have := HA.out; omega)
        case measure =>
          show Rr.lft x g w6 < Rr.lft x g wr
          rw [hR6.lft s2, HR.out.lft hbr.out.suf]
          have := hlen.out
          omega
end Rr
end Go.Proofs.YteaionmjbkildabDoor
namespace Go.Proofs.YteaionmjbkildabDoor
open Go.RowKit
set_option linter.unusedVariables false
set_option linter.unusedSimpArgs false
set_option maxRecDepth 100000
namespace Rr
/-- A line of either kind. -/
def LinePost (w : World) (g : Nat) (x : ByteArray) (ns : Bool) (st : Nat) (ks : List Nat) (big B : Bool) (r' : List UInt8) (e : Ending) (w' : World) : Prop := ∃ kp kc, e = .returned (.tuple #[.agg #[.int .u8 (st : Nat), .slice kp ks.length kc], .bool B]) ∧ w'.ownsRow w.heap.size 3 1 (.slice kp ks.length kc) ks.length (kidsV (lf ks) ks.length) ∧ Rd w' g x r' (ns || big) ∧ w.grownBy w' (some g)
theorem branchL (g : Nat) (x : ByteArray) (r : List UInt8) (ns : Bool) (hd : ¬ r.head? = some 61) (st : Nat) (ks : List Nat) (big B : Bool) (r' : List UInt8) (hN : Hid (Pa.lnR r = ((st, ks), big, B, r'))) (hs : Pa.Suf x r) (hz : x.size ≤ 1048576) (w : World) (h : Rd w g x r ns) : Calls Tryd.prog 78 #[.pointer (some ⟨g, 0, none⟩)] w (LinePost w g x ns st ks big B r') := by
  have e := hN.out
  unfold Pa.lnR at e
  rw [if_neg hd] at e
  simp only [Prod.mk.injEq] at e
  obtain ⟨⟨rfl, e1⟩, rfl, e2, e3⟩ := e
  refine (branchC g x r ns ks B r' (Prod.ext e1 (Prod.ext e2 e3)) hs hz w h).mono ?_
  rintro e w' ⟨kp, kc, he, h1, h2, h3⟩
  exact ⟨kp, kc, he, h1, by rw [Bool.or_false]; exact h2, h3⟩
theorem leafL (g : Nat) (x : ByteArray) (r : List UInt8) (ns : Bool) (hd : r.head? = some 61) (st : Nat) (ks : List Nat) (big B : Bool) (r' : List UInt8) (hN : Hid (Pa.lnR r = ((st, ks), big, B, r'))) (hs : Pa.Suf x r) (hz : x.size ≤ 1048576) (w : World) (h : Rd w g x r ns) : Calls Tryd.prog 77 #[.pointer (some ⟨g, 0, none⟩)] w (LinePost w g x ns st ks big B r') := by
  refine (leafC g x r ns hd st ks big B r' hN hs hz w h).mono ?_
  rintro e w' ⟨rfl, he, h2, h3⟩
  exact ⟨none, 0, he, World.ownsRow_nil _ _ _ _, h2, h3⟩
set_option maxHeartbeats 4000000 in
theorem nodeC (g : Nat) (x : ByteArray) (r : List UInt8) (ns : Bool) (st0 : Nat) (ks0 : List Nat) (big0 B : Bool) (r' : List UInt8) (hN : Hid (Pa.ndR r = ((st0, ks0), big0, B, r'))) (hs : Pa.Suf x r) (hz : x.size ≤ 1048576) (w : World) (h : Rd w g x r ns) :
    Calls Tryd.prog 63 #[.pointer (some ⟨g, 0, none⟩)] w fun e w' => ∃ kp kc, e = .returned (.tuple #[.agg #[.int .u8 (st0 : Nat), .slice kp ks0.length kc], .bool B]) ∧ w'.ownsRow w.heap.size 3 1 (.slice kp ks0.length kc) ks0.length (kidsV (lf ks0) ks0.length) ∧ Rd w' g x r' (ns || big0) ∧ w.grownBy w' (some g) := by
  obtain ⟨fs, hfs⟩ := underBr
  have HF : Hid (Tryd.prog.underlying 69 = some (.struct fs)) := hfs
  clear hfs
  obtain ⟨W1, hW1, sz1, g1, B1⟩ := boxn w #[.int .u8 0, .slice none 0 0] 69
  obtain ⟨W2, hW2, sz2, g2, B2⟩ := boxn W1 #[.int .u8 0, .slice none 0 0] 69
  have hg0 : g < w.heap.size := h.lt
  have HA : Hid (w.heap.size < W1.heap.size ∧ W1.heap.size < W2.heap.size ∧ g < w.heap.size) := ⟨by have := sz1.out; omega, by have := sz2.out; omega, hg0⟩
  have HG2 : Hid (w.grownBy W2 none) := gb_trans g1 g2
  have HX2 : Hid (Bo W2 w.heap.size 69 #[.int .u8 0, .slice none 0 0]) := B1.kept g2 (by simp)
  have HY2 : Hid (Bo W2 W1.heap.size 69 #[.int .u8 0, .slice none 0 0]) := B2
  have R2 : Rd W2 g x r ns := h.kept HG2.out (by simp)
  obtain ⟨⟨⟨st, ks⟩, big, b1, r1⟩, hln⟩ : ∃ Z, Pa.lnR r = Z := ⟨_, rfl⟩
  have hs1 : Hid (Pa.Suf x r1) := by have := Pa.lnR_suf r; rw [hln] at this; exact hs.of this
  have HV0 := hN.out
  unfold Pa.ndR at HV0
  rw [hln] at HV0
  have HV : Hid ((if b1 = true then ((st, ks), big, (Pa.skR 10 r1).1, (Pa.skR 10 r1).2) else ((st, ks), big, b1, r1)) = ((st0, ks0), big0, B, r')) := HV0
  clear HV0
  have e0 : st = st0 ∧ ks = ks0 ∧ big = big0 := by
    have := HV.out
    cases b1 <;> simp at this <;> exact ⟨this.1.1, this.1.2, this.2.1⟩
  obtain ⟨rfl, rfl, rfl⟩ := e0
  by_cases hd : r.head? = some 61
  · have ha := aheadC g x r ns 61 61 rfl true (by simp [hd]) hs hz W2 R2
    have hl := fun w3 hR => leafL g x r ns hd st ks big b1 r1 hln hs hz w3 hR
    have HR2 : Hid (Rd W2 g x r ns) := R2
    clear h hs sz1 sz2 g1 g2 B1 B2 hg0 hln hd R2 hN
    go_enter Tryd.func63, Tryd.ntmps63
    go_wp2_with (first | (go_at_call 76; refine ha.mono ?_; rintro e w2 ⟨rfl, kk, rfl⟩) | (go_at_call 77; refine (hl _ (Rd.drew HR2.out)).mono ?_; rintro e w3 ⟨kp, kc, rfl, own3, hR3, hG3⟩; refine Hid.out ?_))
    refine Lib.hid ?_
    have hG3 : W2.grownBy w3 (some g) := ⟨hG3.os, hG3.tape, hG3.output, hG3.size, hG3.block⟩
    have own3 : w3.ownsRow W2.heap.size 3 1 (.slice kp ks.length kc) ks.length (kidsV (lf ks) ks.length) := own3
    clear hl ha
    have C3 := HY2.out.kept hG3 (by have := HA.out; simp; omega)
    have B3 := HX2.out.kept hG3 (by have := HA.out; simp; omega)
    have c0 := C3.cell 0 (v := .int .u8 0) rfl
    have c1 := C3.cell 1 (v := .slice none 0 0) rfl
    have f0 := C3.frozen 0
    have f1 := C3.frozen 1
    obtain ⟨V, hV⟩ : ∃ V, (w3.setCell ⟨W1.heap.size, 0, none⟩ (.int .u8 (st : Nat))).setCell ⟨W1.heap.size, 1, none⟩ (.slice kp ks.length kc) = V := ⟨_, rfl⟩
    have HNE : Hid (W1.heap.size ≠ g ∧ w.heap.size ≠ g ∧ w.heap.size ≠ W1.heap.size ∧ w.heap.size ≤ W1.heap.size ∧ w.heap.size ≤ W2.heap.size) := by have := HA.out; unfold Hid; omega
    have g3V : w3.grownBy V (some W1.heap.size) := hV ▸ gb_set (gb_set (World.grownBy.refl w3 _) _ _) _ _
    have HRV : Hid (Rd V g x r1 (ns || big)) := hV ▸ (hR3.set2 HNE.out.1).set2 HNE.out.1
    have HCV : Hid (Bo V W1.heap.size 69 #[.int .u8 (st : Nat), .slice kp ks.length kc]) := hV ▸ (C3.set 0 _).set 1 _
    have HBV : Hid (Bo V w.heap.size 69 #[.int .u8 0, .slice none 0 0]) := B3.kept g3V (by have := HA.out; simp; omega)
    have HOV : Hid (V.ownsRow W2.heap.size 3 1 (.slice kp ks.length kc) ks.length (kidsV (lf ks) ks.length)) := own3.kept g3V (.inr fun e => by have := (own3.lt _ e).1; have := HA.out; omega)
    have HGV : Hid (w.grownBy V (some g)) := (gb_trans' HG2.out hG3).andThen g3V (fun b hb => .inl (by have := HA.out; cases hb; omega))
    go_wp2
    try rw [hV]
    clear hV hR3 own3 c0 c1 f0 f1 C3 B3 g3V hG3
    cases b1 with
    | false =>
      have e := HV.out
      simp [-ite_eq_left_iff] at e
      obtain ⟨rfl, rfl⟩ := e
      have BB := HBV.out
      have CC := HCV.out
      have b0 := BB.cell 0 (v := .int .u8 0) rfl
      have b1 := BB.cell 1 (v := .slice none 0 0) rfl
      have bf0 := BB.frozen 0
      have bf1 := BB.frozen 1
      have c0 := CC.cell 0 (v := .int .u8 (st : Nat)) rfl
      have c1 := CC.cell 1 (v := .slice kp ks.length kc) rfl
      go_region
      all_goals
        go_wp2
        refine ret_c2 (g := w.heap.size) (t := 69) (cs := #[.int .u8 (st : Nat), .slice kp ks.length kc]) rfl HF.out infoBr rfl ((BB.set 0 _).set 1 _) rfl ⟨kp, kc, rfl, ?_, ?_, ?_⟩
        · exact Joins.ownsRow_le (HOV.out.kept (gb_drew (gb_set (gb_set (World.grownBy.refl V (some w.heap.size)) _ _) _ _)) (.inr fun e => by have := (HOV.out.lt _ e).1; have := HA.out; omega)) HNE.out.2.2.2.2
        · exact (HRV.out.set2 HNE.out.2.1).set2 HNE.out.2.1
        · exact gb_drew (gb_new (gb_new HGV.out (Nat.le_refl _) _) (Nat.le_refl _) _)
    | true =>
      obtain ⟨⟨b2, r2⟩, hsk⟩ : ∃ Z, Pa.skR 10 r1 = Z := ⟨_, rfl⟩
      have e := HV.out
      rw [hsk] at e
      simp at e
      obtain ⟨rfl, rfl⟩ := e
      have hk := skipC g x r1 (ns || big) 10 10 rfl b2 r2 hsk hs1.out hz V.drew HRV.out
      have HK : Hid (∀ w7, V.drew.grownBy w7 (some g) → Bo w7 w.heap.size 69 #[.int .u8 0, .slice none 0 0] ∧ Bo w7 W1.heap.size 69 #[.int .u8 (st : Nat), .slice kp ks.length kc]) := fun w7 hg => ⟨(Bo.dr HBV.out).kept hg (by have := HA.out; simp; omega), (Bo.dr HCV.out).kept hg (by have := HA.out; simp; omega)⟩
      have BB := HBV.out
      have CC := HCV.out
      have b0 := BB.cell 0 (v := .int .u8 0) rfl
      have b1 := BB.cell 1 (v := .slice none 0 0) rfl
      have bf0 := BB.frozen 0
      have bf1 := BB.frozen 1
      have c0 := CC.cell 0 (v := .int .u8 (st : Nat)) rfl
      have c1 := CC.cell 1 (v := .slice kp ks.length kc) rfl
      clear hsk
      go_region_with (first | (go_at_call 75; refine hk.mono ?_; rintro e w7 ⟨rfl, hR7, hG7⟩; have B7 := (HK.out w7 hG7).1; have C7 := (HK.out w7 hG7).2; have p0 := B7.cell 0 (v := .int .u8 0) rfl; have p1 := B7.cell 1 (v := .slice none 0 0) rfl; have pf0 := B7.frozen 0; have pf1 := B7.frozen 1; have q0 := C7.cell 0 (v := .int .u8 (st : Nat)) rfl; have q1 := C7.cell 1 (v := .slice kp ks.length kc) rfl))
      all_goals
        go_wp2
        have hG7 : V.grownBy w7 (some g) := ⟨hG7.os, hG7.tape, hG7.output, hG7.size, hG7.block⟩
        have own7 := own_g HOV.out hG7 (by have := HA.out; omega)
        refine ret_c2 (g := w.heap.size) (t := 69) (cs := #[.int .u8 (st : Nat), .slice kp ks.length kc]) rfl HF.out infoBr rfl ((B7.set 0 _).set 1 _) rfl ⟨kp, kc, rfl, ?_, ?_, ?_⟩
        · exact Joins.ownsRow_le (own7.kept (gb_set (gb_set (World.grownBy.refl w7 (some w.heap.size)) _ _) _ _) (.inr fun e => by have := (own7.lt _ e).1; have := HA.out; omega)) HNE.out.2.2.2.2
        · exact (hR7.set2 HNE.out.2.1).set2 HNE.out.2.1
        · exact gb_new (gb_new (gb_one HGV.out hG7) (Nat.le_refl _) _) (Nat.le_refl _) _
  · have ha := aheadC g x r ns 61 61 rfl false (by simp [hd]) hs hz W2 R2
    have hl := fun w3 hR => branchL g x r ns hd st ks big b1 r1 hln hs hz w3 hR
    have HR2 : Hid (Rd W2 g x r ns) := R2
    clear h hs sz1 sz2 g1 g2 B1 B2 hg0 hln hd R2 hN
    go_enter Tryd.func63, Tryd.ntmps63
    go_wp2_with (first | (go_at_call 76; refine ha.mono ?_; rintro e w2 ⟨rfl, kk, rfl⟩) | (go_at_call 78; refine (hl _ (Rd.drew HR2.out)).mono ?_; rintro e w3 ⟨kp, kc, rfl, own3, hR3, hG3⟩; refine Hid.out ?_))
    refine Lib.hid ?_
    have hG3 : W2.grownBy w3 (some g) := ⟨hG3.os, hG3.tape, hG3.output, hG3.size, hG3.block⟩
    have own3 : w3.ownsRow W2.heap.size 3 1 (.slice kp ks.length kc) ks.length (kidsV (lf ks) ks.length) := own3
    clear hl ha
    have C3 := HY2.out.kept hG3 (by have := HA.out; simp; omega)
    have B3 := HX2.out.kept hG3 (by have := HA.out; simp; omega)
    have c0 := C3.cell 0 (v := .int .u8 0) rfl
    have c1 := C3.cell 1 (v := .slice none 0 0) rfl
    have f0 := C3.frozen 0
    have f1 := C3.frozen 1
    obtain ⟨V, hV⟩ : ∃ V, (w3.setCell ⟨W1.heap.size, 0, none⟩ (.int .u8 (st : Nat))).setCell ⟨W1.heap.size, 1, none⟩ (.slice kp ks.length kc) = V := ⟨_, rfl⟩
    have HNE : Hid (W1.heap.size ≠ g ∧ w.heap.size ≠ g ∧ w.heap.size ≠ W1.heap.size ∧ w.heap.size ≤ W1.heap.size ∧ w.heap.size ≤ W2.heap.size) := by have := HA.out; unfold Hid; omega
    have g3V : w3.grownBy V (some W1.heap.size) := hV ▸ gb_set (gb_set (World.grownBy.refl w3 _) _ _) _ _
    have HRV : Hid (Rd V g x r1 (ns || big)) := hV ▸ (hR3.set2 HNE.out.1).set2 HNE.out.1
    have HCV : Hid (Bo V W1.heap.size 69 #[.int .u8 (st : Nat), .slice kp ks.length kc]) := hV ▸ (C3.set 0 _).set 1 _
    have HBV : Hid (Bo V w.heap.size 69 #[.int .u8 0, .slice none 0 0]) := B3.kept g3V (by have := HA.out; simp; omega)
    have HOV : Hid (V.ownsRow W2.heap.size 3 1 (.slice kp ks.length kc) ks.length (kidsV (lf ks) ks.length)) := own3.kept g3V (.inr fun e => by have := (own3.lt _ e).1; have := HA.out; omega)
    have HGV : Hid (w.grownBy V (some g)) := (gb_trans' HG2.out hG3).andThen g3V (fun b hb => .inl (by have := HA.out; cases hb; omega))
    go_wp2
    try rw [hV]
    clear hV hR3 own3 c0 c1 f0 f1 C3 B3 g3V hG3
    cases b1 with
    | false =>
      have e := HV.out
      simp [-ite_eq_left_iff] at e
      obtain ⟨rfl, rfl⟩ := e
      have BB := HBV.out
      have CC := HCV.out
      have b0 := BB.cell 0 (v := .int .u8 0) rfl
      have b1 := BB.cell 1 (v := .slice none 0 0) rfl
      have bf0 := BB.frozen 0
      have bf1 := BB.frozen 1
      have c0 := CC.cell 0 (v := .int .u8 (st : Nat)) rfl
      have c1 := CC.cell 1 (v := .slice kp ks.length kc) rfl
      go_region
      all_goals
        go_wp2
        refine ret_c2 (g := w.heap.size) (t := 69) (cs := #[.int .u8 (st : Nat), .slice kp ks.length kc]) rfl HF.out infoBr rfl ((BB.set 0 _).set 1 _) rfl ⟨kp, kc, rfl, ?_, ?_, ?_⟩
        · exact Joins.ownsRow_le (HOV.out.kept (gb_drew (gb_set (gb_set (World.grownBy.refl V (some w.heap.size)) _ _) _ _)) (.inr fun e => by have := (HOV.out.lt _ e).1; have := HA.out; omega)) HNE.out.2.2.2.2
        · exact (HRV.out.set2 HNE.out.2.1).set2 HNE.out.2.1
        · exact gb_drew (gb_new (gb_new HGV.out (Nat.le_refl _) _) (Nat.le_refl _) _)
    | true =>
      obtain ⟨⟨b2, r2⟩, hsk⟩ : ∃ Z, Pa.skR 10 r1 = Z := ⟨_, rfl⟩
      have e := HV.out
      rw [hsk] at e
      simp at e
      obtain ⟨rfl, rfl⟩ := e
      have hk := skipC g x r1 (ns || big) 10 10 rfl b2 r2 hsk hs1.out hz V.drew HRV.out
      have HK : Hid (∀ w7, V.drew.grownBy w7 (some g) → Bo w7 w.heap.size 69 #[.int .u8 0, .slice none 0 0] ∧ Bo w7 W1.heap.size 69 #[.int .u8 (st : Nat), .slice kp ks.length kc]) := fun w7 hg => ⟨(Bo.dr HBV.out).kept hg (by have := HA.out; simp; omega), (Bo.dr HCV.out).kept hg (by have := HA.out; simp; omega)⟩
      have BB := HBV.out
      have CC := HCV.out
      have b0 := BB.cell 0 (v := .int .u8 0) rfl
      have b1 := BB.cell 1 (v := .slice none 0 0) rfl
      have bf0 := BB.frozen 0
      have bf1 := BB.frozen 1
      have c0 := CC.cell 0 (v := .int .u8 (st : Nat)) rfl
      have c1 := CC.cell 1 (v := .slice kp ks.length kc) rfl
      clear hsk
      go_region_with (first | (go_at_call 75; refine hk.mono ?_; rintro e w7 ⟨rfl, hR7, hG7⟩; have B7 := (HK.out w7 hG7).1; have C7 := (HK.out w7 hG7).2; have p0 := B7.cell 0 (v := .int .u8 0) rfl; have p1 := B7.cell 1 (v := .slice none 0 0) rfl; have pf0 := B7.frozen 0; have pf1 := B7.frozen 1; have q0 := C7.cell 0 (v := .int .u8 (st : Nat)) rfl; have q1 := C7.cell 1 (v := .slice kp ks.length kc) rfl))
      all_goals
        go_wp2
        have hG7 : V.grownBy w7 (some g) := ⟨hG7.os, hG7.tape, hG7.output, hG7.size, hG7.block⟩
        have own7 := own_g HOV.out hG7 (by have := HA.out; omega)
        refine ret_c2 (g := w.heap.size) (t := 69) (cs := #[.int .u8 (st : Nat), .slice kp ks.length kc]) rfl HF.out infoBr rfl ((B7.set 0 _).set 1 _) rfl ⟨kp, kc, rfl, ?_, ?_, ?_⟩
        · exact Joins.ownsRow_le (own7.kept (gb_set (gb_set (World.grownBy.refl w7 (some w.heap.size)) _ _) _ _) (.inr fun e => by have := (own7.lt _ e).1; have := HA.out; omega)) HNE.out.2.2.2.2
        · exact (hR7.set2 HNE.out.2.1).set2 HNE.out.2.1
        · exact gb_new (gb_new (gb_one HGV.out hG7) (Nat.le_refl _) _) (Nat.le_refl _) _
end Rr
end Go.Proofs.YteaionmjbkildabDoor
namespace Go.Proofs.YteaionmjbkildabDoor
open Go.RowKit
set_option linter.unusedVariables false
set_option linter.unusedSimpArgs false
set_option maxRecDepth 100000
namespace Rr
/-- Four numbers as cells. -/
def arr4 (l : List Nat) : Array Value := #[.int .i64 (l.getD 0 0 : Nat), .int .i64 (l.getD 1 0 : Nat), .int .i64 (l.getD 2 0 : Nat), .int .i64 (l.getD 3 0 : Nat)]
theorem arr4_set {l : List Nat} {k n : Nat} (h : l.length = k) (hk : k < 4) : (arr4 l).setIfInBounds k (.int .i64 (n : Nat)) = arr4 (l ++ [n]) := by
  match l, h with
  | [], h => subst h; rfl
  | [a], h => subst h; rfl
  | [a, b], h => subst h; rfl
  | [a, b, c], h => subst h; rfl
  | a :: b :: c :: d :: l, h => simp at h; omega
/-- What the head's loop knows. -/
def Hs (Z : List Nat × Bool × List UInt8) (ok : Bool) (acc : List Nat) (rr : List UInt8) : Prop := acc.length ≤ 4 ∧ (ok = true ∧ Pa.hsR (4 - acc.length) acc rr = Z ∨ ok = false ∧ Z = (acc, false, rr))
theorem Hs.step {Z : List Nat × Bool × List UInt8} {acc : List Nat} {rr r2 : List UInt8} {n1 : Nat} {b1 : Bool} (h : Hs Z true acc rr) (hl : acc.length < 4) (hn : Pa.hnR acc.length rr = (n1, b1, r2)) : Hs Z b1 (acc ++ [n1]) r2 := by
  obtain ⟨_, ⟨_, h2⟩ | ⟨h2, _⟩⟩ := h
  · have e : 4 - acc.length = (4 - (acc ++ [n1]).length) + 1 := by rw [List.length_append, List.length_singleton]; omega
    rw [e] at h2
    unfold Pa.hsR at h2
    rw [hn] at h2
    refine ⟨by rw [List.length_append, List.length_singleton]; omega, ?_⟩
    cases b1 with
    | true => exact .inl ⟨rfl, h2⟩
    | false => exact .inr ⟨rfl, h2.symm⟩
  · cases h2
theorem Hs.done {Z : List Nat × Bool × List UInt8} {ok : Bool} {acc : List Nat} {rr : List UInt8} (h : Hs Z ok acc rr) (hl : ok = true → acc.length = 4) : Z = (acc, ok, rr) := by
  obtain ⟨_, ⟨h1, h2⟩ | ⟨h2, h3⟩⟩ := h
  · subst h1
    rw [hl rfl] at h2
    rw [← h2]; rfl
  · subst h2; exact h3
set_option maxHeartbeats 4000000 in
theorem headC (g : Nat) (x : ByteArray) (r : List UInt8) (ns : Bool) (l : List Nat) (B : Bool) (r' : List UInt8) (hN : Hid (Pa.hdR r = (l, B, r'))) (hs : Pa.Suf x r) (hz : x.size ≤ 1048576) (w : World) (h : Rd w g x r ns) :
    Calls Tryd.prog 62 #[.pointer (some ⟨g, 0, none⟩)] w fun e w' => e = .returned (.tuple #[.agg (arr4 l), .bool B]) ∧ Rd w' g x r' ns ∧ w.grownBy w' (some g) := by
  obtain ⟨W1, hW1, sz1, g1, B1⟩ := boxn w #[.int .i64 0, .int .i64 0, .int .i64 0, .int .i64 0] 70
  obtain ⟨W2, hW2, sz2, g2, B2⟩ := boxn W1 #[.int .i64 0, .int .i64 0, .int .i64 0, .int .i64 0] 70
  have hg0 : g < w.heap.size := h.lt
  have HA : Hid (w.heap.size < W1.heap.size ∧ W1.heap.size < W2.heap.size ∧ g < w.heap.size) := ⟨by have := sz1.out; omega, by have := sz2.out; omega, hg0⟩
  have HG2 : Hid (w.grownBy W2 none) := gb_trans g1 g2
  have HX2 : Hid (Bo W2 w.heap.size 70 #[.int .i64 0, .int .i64 0, .int .i64 0, .int .i64 0]) := B1.kept g2 (by simp)
  have HY2 : Hid (Bo W2 W1.heap.size 70 #[.int .i64 0, .int .i64 0, .int .i64 0, .int .i64 0]) := B2
  have R2 : Rd W2 g x r ns := h.kept HG2.out (by simp)
  obtain ⟨⟨b0, r0⟩, hwd⟩ : ∃ Z, Pa.wrdR [116, 114, 101, 101] r = Z := ⟨_, rfl⟩
  have hw2 := wordC g x r ns ⟨#[116, 114, 101, 101]⟩ (by decide) b0 r0 hwd hs hz W2 R2
  have hs0 : Hid (Pa.Suf x r0) := by have := Pa.wrdR_suf [116, 114, 101, 101] r; rw [hwd] at this; exact hs.of this
  obtain ⟨Z, hZ⟩ : ∃ Z, (if b0 then Pa.hsR 4 [] r0 else ([], false, r0)) = Z := ⟨_, rfl⟩
  have HH : Hid (Hs Z b0 [] r0) := by
    refine ⟨by simp, ?_⟩
    cases b0 with
    | true => exact .inl ⟨rfl, hZ⟩
    | false => exact .inr ⟨rfl, hZ.symm⟩
  have HV0 : Hid ((if Z.2.1 then (Z.1, (Pa.skR 10 Z.2.2).1, (Pa.skR 10 Z.2.2).2) else Z) = (l, B, r')) := by
    have e := hN.out
    unfold Pa.hdR at e
    rw [hwd] at e
    unfold Hid
    rw [← e, ← hZ]
    cases b0 <;> rfl
  clear h hs sz1 sz2 g1 g2 B1 B2 hg0 hwd R2 hN hZ
  go_enter Tryd.func62, Tryd.ntmps62
  go_wp2_with (first | (go_at_call 73; refine hw2.mono ?_; rintro e w3 ⟨rfl, hR3, hG3⟩))
  have HX3 : Hid (Bo w3 w.heap.size 70 #[.int .i64 0, .int .i64 0, .int .i64 0, .int .i64 0]) := HX2.out.kept hG3 (by have := HA.out; simp; omega)
  have HY3 : Hid (Bo w3 W1.heap.size 70 #[.int .i64 0, .int .i64 0, .int .i64 0, .int .i64 0]) := HY2.out.kept hG3 (by have := HA.out; simp; omega)
  have HR3 : Hid (Rd w3 g x r0 ns) := hR3
  have HG3 : Hid (w.grownBy w3 (some g)) := gb_trans' HG2.out hG3
  clear hR3 hG3 hw2
  go_loopw [5, 6] (fun v5 v6 wr => ∃ (ok : Bool) (acc : List Nat) (rr : List UInt8), v5 = .bool ok ∧ v6 = .int .i64 (acc.length : Nat) ∧ Hid (Pa.Suf x rr) ∧ Hid (Hs Z ok acc rr) ∧ Hid (Rd wr g x rr ns) ∧ Hid (Bo wr w.heap.size 70 #[.int .i64 0, .int .i64 0, .int .i64 0, .int .i64 0]) ∧ Hid (Bo wr W1.heap.size 70 (arr4 acc)) ∧ Hid (w.grownBy wr (some g))) (fun _ v6 _ => 4 - (intOf v6).toNat)
  case atStart => exact ⟨b0, [], r0, rfl, rfl, hs0.out, HH.out, HR3.out, HX3.out, HY3.out, HG3.out⟩
  case round =>
    obtain ⟨ok, acc, rr, rfl, rfl, hsx, hst, HR, HX, HY, HG⟩ := hrel
    clear HX3 HY3 HR3 HG3 HH HX2 HY2 HG2
    by_cases hc : ok = true ∧ acc.length < 4
    · obtain ⟨rfl, hl4⟩ := hc
      obtain ⟨⟨n1, b1, r2⟩, hnn⟩ : ∃ Z, Pa.hnR acc.length rr = Z := ⟨_, rfl⟩
      have hst2 : Hid (Hs Z b1 (acc ++ [n1]) r2) := hst.out.step hl4 hnn
      have hsx2 : Hid (Pa.Suf x r2) := by have := Pa.hnR_suf acc.length rr; rw [hnn] at this; exact hsx.out.of this
      have hk4 : acc.length = 0 ∨ acc.length = 1 ∨ acc.length = 2 ∨ acc.length = 3 := by omega
      clear hst hl4
      rcases hk4 with hk | hk | hk | hk
      · have e0 : ((acc.length : Nat) : Int) = 0 := by omega
        have hh : Calls Tryd.prog 74 #[.pointer (some ⟨g, 0, none⟩), .int .i64 0] wr fun e w' => e = .returned (.tuple #[.int .i64 (n1 : Nat), .bool b1]) ∧ Rd w' g x r2 ns ∧ wr.grownBy w' (some g) := headNumberC g x rr ns 0 (by decide) n1 b1 r2 (by rw [← hk]; exact hnn) hsx.out hz wr HR.out
        rw [e0]
        have HE : Hid (acc.length = 0) := hk
        have HK : Hid (∀ w1, wr.grownBy w1 (some g) → Bo w1 W1.heap.size 70 (arr4 acc)) := fun w1 hg => HY.out.kept hg (by have := HA.out; simp; omega)
        clear hk e0
        go_wp2_with (first | (go_at_call 74; refine hh.mono ?_; rintro e w1 ⟨rfl, hR1, hG1⟩; have CC := HK.out w1 hG1; have cc := CC.cell 0 (v := .int .i64 (acc.getD 0 0 : Nat)) rfl; have cf := CC.frozen 0))
        go_roundw
        case rel =>
          refine ⟨b1, acc ++ [n1], r2, rfl, by rw [List.length_append, HE.out]; rfl, ?_, ?_, ?_, ?_, ?_, ?_⟩
          · exact hsx2
          · exact hst2
          · exact hR1.set2 (by have := HA.out; omega)
          · exact (HX.out.kept hG1 (by have := HA.out; simp; omega)).set2 (by have := HA.out; omega)
          · have := CC.set 0 (.int .i64 (n1 : Nat))
            rw [arr4_set HE.out (by decide)] at this
            exact this
          · exact gb_new (gb_one HG.out hG1) (Nat.le_of_lt HA.out.1) _
        case measure => simp [intOf]
      · have e0 : ((acc.length : Nat) : Int) = 1 := by omega
        have hh : Calls Tryd.prog 74 #[.pointer (some ⟨g, 0, none⟩), .int .i64 1] wr fun e w' => e = .returned (.tuple #[.int .i64 (n1 : Nat), .bool b1]) ∧ Rd w' g x r2 ns ∧ wr.grownBy w' (some g) := headNumberC g x rr ns 1 (by decide) n1 b1 r2 (by rw [← hk]; exact hnn) hsx.out hz wr HR.out
        rw [e0]
        have HE : Hid (acc.length = 1) := hk
        have HK : Hid (∀ w1, wr.grownBy w1 (some g) → Bo w1 W1.heap.size 70 (arr4 acc)) := fun w1 hg => HY.out.kept hg (by have := HA.out; simp; omega)
        clear hk e0
        go_wp2_with (first | (go_at_call 74; refine hh.mono ?_; rintro e w1 ⟨rfl, hR1, hG1⟩; have CC := HK.out w1 hG1; have cc := CC.cell 1 (v := .int .i64 (acc.getD 1 0 : Nat)) rfl; have cf := CC.frozen 1))
        go_roundw
        case rel =>
          refine ⟨b1, acc ++ [n1], r2, rfl, by rw [List.length_append, HE.out]; rfl, ?_, ?_, ?_, ?_, ?_, ?_⟩
          · exact hsx2
          · exact hst2
          · exact hR1.set2 (by have := HA.out; omega)
          · exact (HX.out.kept hG1 (by have := HA.out; simp; omega)).set2 (by have := HA.out; omega)
          · have := CC.set 1 (.int .i64 (n1 : Nat))
            rw [arr4_set HE.out (by decide)] at this
            exact this
          · exact gb_new (gb_one HG.out hG1) (Nat.le_of_lt HA.out.1) _
        case measure => simp [intOf]
      · have e0 : ((acc.length : Nat) : Int) = 2 := by omega
        have hh : Calls Tryd.prog 74 #[.pointer (some ⟨g, 0, none⟩), .int .i64 2] wr fun e w' => e = .returned (.tuple #[.int .i64 (n1 : Nat), .bool b1]) ∧ Rd w' g x r2 ns ∧ wr.grownBy w' (some g) := headNumberC g x rr ns 2 (by decide) n1 b1 r2 (by rw [← hk]; exact hnn) hsx.out hz wr HR.out
        rw [e0]
        have HE : Hid (acc.length = 2) := hk
        have HK : Hid (∀ w1, wr.grownBy w1 (some g) → Bo w1 W1.heap.size 70 (arr4 acc)) := fun w1 hg => HY.out.kept hg (by have := HA.out; simp; omega)
        clear hk e0
        go_wp2_with (first | (go_at_call 74; refine hh.mono ?_; rintro e w1 ⟨rfl, hR1, hG1⟩; have CC := HK.out w1 hG1; have cc := CC.cell 2 (v := .int .i64 (acc.getD 2 0 : Nat)) rfl; have cf := CC.frozen 2))
        go_roundw
        case rel =>
          refine ⟨b1, acc ++ [n1], r2, rfl, by rw [List.length_append, HE.out]; rfl, ?_, ?_, ?_, ?_, ?_, ?_⟩
          · exact hsx2
          · exact hst2
          · exact hR1.set2 (by have := HA.out; omega)
          · exact (HX.out.kept hG1 (by have := HA.out; simp; omega)).set2 (by have := HA.out; omega)
          · have := CC.set 2 (.int .i64 (n1 : Nat))
            rw [arr4_set HE.out (by decide)] at this
            exact this
          · exact gb_new (gb_one HG.out hG1) (Nat.le_of_lt HA.out.1) _
        case measure => simp [intOf]
      · have e0 : ((acc.length : Nat) : Int) = 3 := by omega
        have hh : Calls Tryd.prog 74 #[.pointer (some ⟨g, 0, none⟩), .int .i64 3] wr fun e w' => e = .returned (.tuple #[.int .i64 (n1 : Nat), .bool b1]) ∧ Rd w' g x r2 ns ∧ wr.grownBy w' (some g) := headNumberC g x rr ns 3 (by decide) n1 b1 r2 (by rw [← hk]; exact hnn) hsx.out hz wr HR.out
        rw [e0]
        have HE : Hid (acc.length = 3) := hk
        have HK : Hid (∀ w1, wr.grownBy w1 (some g) → Bo w1 W1.heap.size 70 (arr4 acc)) := fun w1 hg => HY.out.kept hg (by have := HA.out; simp; omega)
        clear hk e0
        go_wp2_with (first | (go_at_call 74; refine hh.mono ?_; rintro e w1 ⟨rfl, hR1, hG1⟩; have CC := HK.out w1 hG1; have cc := CC.cell 3 (v := .int .i64 (acc.getD 3 0 : Nat)) rfl; have cf := CC.frozen 3))
        go_roundw
        case rel =>
          refine ⟨b1, acc ++ [n1], r2, rfl, by rw [List.length_append, HE.out]; rfl, ?_, ?_, ?_, ?_, ?_, ?_⟩
          · exact hsx2
          · exact hst2
          · exact hR1.set2 (by have := HA.out; omega)
          · exact (HX.out.kept hG1 (by have := HA.out; simp; omega)).set2 (by have := HA.out; omega)
          · have := CC.set 3 (.int .i64 (n1 : Nat))
            rw [arr4_set HE.out (by decide)] at this
            exact this
          · exact gb_new (gb_one HG.out hG1) (Nat.le_of_lt HA.out.1) _
        case measure => simp [intOf]
    · have HZ := hst.out.done (fun e => by have := hst.out.1; rcases Nat.lt_or_ge acc.length 4 with q | q; exact absurd ⟨e, q⟩ hc; omega)
      rw [HZ] at HV0
      have HV : Hid ((if ok = true then (acc, (Pa.skR 10 rr).1, (Pa.skR 10 rr).2) else (acc, ok, rr)) = (l, B, r')) := HV0
      have hlx : ok = true → ¬ ((acc.length : Nat) : Int) < 4 := fun e => by
        intro q
        exact hc ⟨e, by omega⟩
      have HLX : Hid (ok = true → ¬ ((acc.length : Nat) : Int) < 4) := hlx
      clear hlx hc HZ HV0
      have CC := HY.out
      have BB := HX.out
      have cc0 := CC.cell 0 (v := .int .i64 ((acc).getD 0 0 : Nat)) rfl
      have cc1 := CC.cell 1 (v := .int .i64 ((acc).getD 1 0 : Nat)) rfl
      have cc2 := CC.cell 2 (v := .int .i64 ((acc).getD 2 0 : Nat)) rfl
      have cc3 := CC.cell 3 (v := .int .i64 ((acc).getD 3 0 : Nat)) rfl
      have bb0 := BB.cell 0 (v := .int .i64 0) rfl
      have bb1 := BB.cell 1 (v := .int .i64 0) rfl
      have bb2 := BB.cell 2 (v := .int .i64 0) rfl
      have bb3 := BB.cell 3 (v := .int .i64 0) rfl
      have bbf0 := BB.frozen 0
      have bbf1 := BB.frozen 1
      have bbf2 := BB.frozen 2
      have bbf3 := BB.frozen 3
      have HNE : Hid (w.heap.size ≠ g) := by have := HA.out; unfold Hid; omega
      cases ok with
      | false =>
        have e := HV.out
        simp only [Bool.false_eq_true, if_false, Prod.mk.injEq] at e
        obtain ⟨rfl, rfl, rfl⟩ := e
        go_wp2
        go_region
        all_goals
          go_wp2
          refine ret_a2 (g := w.heap.size) (t := 70) (cs := arr4 acc) (el := 3) (n := 4) rfl (by kernel_rfl) (by kernel_rfl) rfl ((((BB.set 0 _).set 1 _).set 2 _).set 3 _) rfl ⟨rfl, ?_, ?_⟩
          · exact (((HR.out.set2 HNE.out).set2 HNE.out).set2 HNE.out).set2 HNE.out
          · exact gb_drew (gb_new (gb_new (gb_new (gb_new HG.out (Nat.le_refl _) _) (Nat.le_refl _) _) (Nat.le_refl _) _) (Nat.le_refl _) _)
      | true =>
        have hlx := HLX.out rfl
        obtain ⟨⟨b2, r2⟩, hsk⟩ : ∃ Z, Pa.skR 10 rr = Z := ⟨_, rfl⟩
        have e := HV.out
        rw [hsk] at e
        simp only [if_true, Prod.mk.injEq] at e
        obtain ⟨rfl, rfl, rfl⟩ := e
        have hk := skipC g x rr ns 10 10 rfl b2 r2 hsk hsx.out hz wr.drew HR.out
        have HK : Hid (∀ w7, wr.drew.grownBy w7 (some g) → Bo w7 w.heap.size 70 #[.int .i64 0, .int .i64 0, .int .i64 0, .int .i64 0] ∧ Bo w7 W1.heap.size 70 (arr4 acc)) := fun w7 hg => ⟨(Bo.dr HX.out).kept hg (by have := HA.out; simp; omega), (Bo.dr HY.out).kept hg (by have := HA.out; simp; omega)⟩
        clear hsk
        go_wp2
        go_region_with (first | (go_at_call 75; refine hk.mono ?_; rintro e w7 ⟨rfl, hR7, hG7⟩; have B7 := (HK.out w7 hG7).1; have C7 := (HK.out w7 hG7).2; have p0 := B7.cell 0 (v := .int .i64 0) rfl; have p1 := B7.cell 1 (v := .int .i64 0) rfl; have p2 := B7.cell 2 (v := .int .i64 0) rfl; have p3 := B7.cell 3 (v := .int .i64 0) rfl; have pf0 := B7.frozen 0; have pf1 := B7.frozen 1; have pf2 := B7.frozen 2; have pf3 := B7.frozen 3; have q0 := C7.cell 0 (v := .int .i64 ((acc).getD 0 0 : Nat)) rfl; have q1 := C7.cell 1 (v := .int .i64 ((acc).getD 1 0 : Nat)) rfl; have q2 := C7.cell 2 (v := .int .i64 ((acc).getD 2 0 : Nat)) rfl; have q3 := C7.cell 3 (v := .int .i64 ((acc).getD 3 0 : Nat)) rfl))
        all_goals
          go_wp2
          have hG7 : wr.grownBy w7 (some g) := ⟨hG7.os, hG7.tape, hG7.output, hG7.size, hG7.block⟩
          refine ret_a2 (g := w.heap.size) (t := 70) (cs := arr4 acc) (el := 3) (n := 4) rfl (by kernel_rfl) (by kernel_rfl) rfl ((((B7.set 0 _).set 1 _).set 2 _).set 3 _) rfl ⟨rfl, ?_, ?_⟩
          · exact (((hR7.set2 HNE.out).set2 HNE.out).set2 HNE.out).set2 HNE.out
          · exact gb_new (gb_new (gb_new (gb_new (gb_one HG.out hG7) (Nat.le_refl _) _) (Nat.le_refl _) _) (Nat.le_refl _) _) (Nat.le_refl _) _
end Rr
end Go.Proofs.YteaionmjbkildabDoor
namespace Go.Proofs.YteaionmjbkildabDoor
open Go.RowKit
set_option linter.unusedVariables false
set_option linter.unusedSimpArgs false
set_option maxRecDepth 100000
namespace Rr
/-- The nodes as cells. -/
def ndW (t : Nat → TN) : Nat → List Value
  | 0 => []
  | j + 1 => ndW t j ++ [.int .u8 ((t j).st : Nat), .slice (t j).kp (t j).kn (t j).kc]
theorem ndW_congr {t t' : Nat → TN} : ∀ {j : Nat}, (∀ k, k < j → t k = t' k) → ndW t j = ndW t' j
  | 0, _ => rfl
  | j + 1, h => by rw [ndW, ndW, ndW_congr (fun k hk => h k (by omega)), h j (by omega)]
/-- Nodes as they were read. -/
def As (t : Nat → TN) (xs : List (Nat × List Nat)) : Prop := ∀ i, i < xs.length → (t i).st = (xs.getD i (0, [])).1 ∧ (t i).kn = (xs.getD i (0, [])).2.length ∧ (t i).kf = lf (xs.getD i (0, [])).2
/-- The kids' lists are their own. -/
def Ks (w : World) (B : Nat) (t : Nat → TN) (n : Nat) : Prop := ∀ i, i < n → w.ownsRow B 3 1 (.slice (t i).kp (t i).kn (t i).kc) (t i).kn (kidsV (t i).kf (t i).kn)
theorem Ks.kept {w w' : World} {B n : Nat} {t : Nat → TN} {r : Option Nat} (h : Ks w B t n) (hg : w.grownBy w' r) (hr : ∀ b, r = some b → b < B) : Ks w' B t n := fun i hi => (h i hi).kept hg (by
  by_cases e : (Value.slice (t i).kp (t i).kn (t i).kc).ownBlock = r
  · refine .inl ?_
    cases hr' : r with
    | none => rw [e, hr']
    | some b =>
      have h1 := hr b hr'
      have h2 := ((h i hi).lt b (by rw [e, hr'])).1
      omega
  · exact .inr e)
/-- A row of nodes and a row of kids are not one. -/
theorem own_two {w : World} {B B' m n m' : Nat} {v u : Value} {xs ys : List Value} (h : w.ownsRow B 69 2 v m xs) (k : w.ownsRow B' 3 1 u m' ys) : u.ownBlock = none ∨ u.ownBlock ≠ v.ownBlock := by
  rcases k.2 with ⟨rfl, _⟩ | ⟨g2, cap2, cur2, rfl, _, h2, _⟩
  · exact .inl rfl
  · refine .inr ?_
    rcases h.2 with ⟨rfl, _⟩ | ⟨g1, cap, cur, rfl, _, h1, _⟩
    · simp [Value.ownBlock]
    · intro e
      simp only [Value.ownBlock, Option.some.injEq] at e
      subst e
      rw [h1] at h2
      simp at h2
theorem Ks.push {w w' : World} {B B' m n : Nat} {t : Nat → TN} {v : Value} {xs : List Value} (h : Ks w B t n) (own : w.ownsRow B' 69 2 v m xs) (hg : w.grownBy w' v.ownBlock) : Ks w' B t n := fun i hi => (h i hi).kept hg (own_two (n := 0) own (h i hi))
/-- What the reading of a tree leaves. -/
def TreePost (w : World) (g : Nat) (x : ByteArray) (hd : List Nat) (xs : List (Nat × List Nat)) (big B : Bool) (r' : List UInt8) (e : Ending) (w' : World) : Prop := ∃ (a b d : Int) (sp : Option Addr) (n c : Nat), e = .returned (.tuple #[.agg #[.int .i64 a, .int .i64 b, .slice sp n c, .int .i64 d], .bool B]) ∧ Rd w' g x r' big ∧ w.grownBy w' (some g) ∧ (B = true → ∃ S I R t, hd = [S, I, n, R] ∧ a = (S : Nat) ∧ b = (I : Nat) ∧ d = (R : Nat) ∧ n = xs.length ∧ As t xs ∧ w'.ownsRow w.heap.size 69 2 (.slice sp n c) n (ndW t n) ∧ Ks w' w.heap.size t n)
theorem underTr : ∃ fs, Tryd.prog.underlying 24 = some (.struct fs) := ⟨_, Tryd.underlying24⟩
theorem infoTr : (Tryd.prog.info? 24).map (·.size) = some 4 := by kernel_rfl
set_option maxHeartbeats 8000000 in
theorem treeC (g : Nat) (x : ByteArray) (r : List UInt8) (hd : List Nat) (xs0 : List (Nat × List Nat)) (big0 B : Bool) (r' : List UInt8) (hN : Hid (Pa.trR r = (hd, xs0, big0, B, r'))) (hs : Pa.Suf x r) (hz : x.size ≤ 1048576) (w : World) (h : Rd w g x r false) :
    Calls Tryd.prog 41 #[.pointer (some ⟨g, 0, none⟩)] w (TreePost w g x hd xs0 big0 B r') := by
  obtain ⟨fs, hfs⟩ := underTr
  have HF : Hid (Tryd.prog.underlying 24 = some (.struct fs)) := hfs
  clear hfs
  obtain ⟨ib, HB⟩ : ∃ i, Hid (Tryd.prog.info? 69 = some i ∧ i.zero = some (.agg #[.int .u8 0, .slice none 0 0]) ∧ i.size = 2 ∧ i.bytes = 32) := by
    obtain ⟨i, h1, h2, h3, h4⟩ := info_parts infoB
    exact ⟨i, h1, h2, h3, h4⟩
  obtain ⟨W1, hW1, sz1, g1, B1⟩ := boxn w #[.int .i64 0, .int .i64 0, .slice none 0 0, .int .i64 0] 24
  have hg0 : g < w.heap.size := h.lt
  have HNE : Hid (w.heap.size ≠ g) := by unfold Hid; omega
  have HA : Hid (w.heap.size < W1.heap.size ∧ g < w.heap.size) := ⟨by have := sz1.out; omega, hg0⟩
  have R1 : Rd W1 g x r false := h.kept g1 (by simp)
  obtain ⟨⟨l, b0, r0⟩, hhd⟩ : ∃ Z, Pa.hdR r = Z := ⟨_, rfl⟩
  have hh := headC g x r false l b0 r0 hhd hs hz W1 R1
  have hs0 : Hid (Pa.Suf x r0) := by have := Pa.hdR_suf r; rw [hhd] at this; exact hs.of this
  have HX1 : Hid (Bo W1 w.heap.size 24 #[.int .i64 0, .int .i64 0, .slice none 0 0, .int .i64 0]) := B1
  have HG1 : Hid (w.grownBy W1 none) := g1
  have e0 := hN.out
  unfold Pa.trR at e0
  rw [hhd] at e0
  cases b0 with
  | false =>
    simp only [Bool.false_eq_true, if_false, Prod.mk.injEq] at e0
    obtain ⟨rfl, rfl, rfl, rfl, rfl⟩ := e0
    clear h hs sz1 g1 B1 hg0 hhd R1 hN
    go_enter Tryd.func41, Tryd.ntmps41
    go_wp2_with (first | (go_at_call 62; refine hh.mono ?_; rintro e w2 ⟨rfl, hR2, hG2⟩; refine Hid.out ?_))
    refine Lib.hid ?_
    clear hh
    have BB2 := HX1.out.kept hG2 (by have := HA.out; simp; omega)
    have G2 := gb_trans' HG1.out hG2
    have ha4 : ∃ a0 a1 a2 a3 : Nat, arr4 l = #[.int .i64 (a0 : Nat), .int .i64 (a1 : Nat), .int .i64 (a2 : Nat), .int .i64 (a3 : Nat)] := ⟨_, _, _, _, rfl⟩
    obtain ⟨a0, a1, a2, a3, ha4⟩ := ha4
    rw [ha4]
    clear ha4
    obtain ⟨W3, hW3, sz3, g3, B3⟩ := boxn w2 #[.int .i64 (a0 : Nat), .int .i64 (a1 : Nat), .int .i64 (a2 : Nat), .int .i64 (a3 : Nat)] 70
    have BB := BB2.kept g3 (by simp)
    have hR3 := hR2.kept g3 (by simp)
    have G3 := gb_none G2 g3
    have b0 := BB.cell 0 (v := .int .i64 0) rfl
    have b1 := BB.cell 1 (v := .int .i64 0) rfl
    have b2 := BB.cell 2 (v := .slice none 0 0) rfl
    have b3 := BB.cell 3 (v := .int .i64 0) rfl
    have bf0 := BB.frozen 0
    have bf1 := BB.frozen 1
    have bf2 := BB.frozen 2
    have bf3 := BB.frozen 3
    go_wp2
    refine ret_c2 (g := w.heap.size) (t := 24) (cs := #[.int .i64 0, .int .i64 0, .slice none 0 0, .int .i64 0]) rfl HF.out infoTr rfl (by first | exact (((BB.set 0 _).set 1 _).set 2 _).set 3 _ | exact BB) rfl ⟨0, 0, 0, none, 0, 0, rfl, ?_, ?_, fun q => absurd q (by simp)⟩
    · exact (((hR3.set2 HNE.out).set2 HNE.out).set2 HNE.out).set2 HNE.out
    · exact gb_new (gb_new (gb_new (gb_new G3 (Nat.le_refl _) _) (Nat.le_refl _) _) (Nat.le_refl _) _) (Nat.le_refl _) _
  | true =>
    have hw := Pa.hdR_was (r := r) (by rw [hhd])
    rw [hhd] at hw
    obtain ⟨S, I, n, R, hS, hI, hn, hR, rfl, -⟩ := hw
    obtain ⟨⟨xz, bz, Bz, rz⟩, hzz⟩ : ∃ Z, Pa.nsR n [] false r0 = Z := ⟨_, rfl⟩
    have en : ([S, I, n, R] : List Nat).getD 2 0 = n := rfl
    simp only [if_true, en, hzz, Prod.mk.injEq] at e0
    obtain ⟨rfl, rfl, rfl, hBB, rfl⟩ := e0
    have HBB : Hid ((Bz && rz.isEmpty) = B) := hBB
    have HZ : Hid (Pa.nsR n [] false r0 = (xz, bz, Bz, rz)) := hzz
    clear h hs sz1 g1 B1 hg0 hhd R1 hN hBB hzz en
    go_enter Tryd.func41, Tryd.ntmps41
    go_wp2_with (first | (go_at_call 62; refine hh.mono ?_; rintro e w2 ⟨rfl, hR2, hG2⟩; refine Hid.out ?_))
    refine Lib.hid ?_
    clear hh
    have BB2 := HX1.out.kept hG2 (by have := HA.out; simp; omega)
    have G2 := gb_trans' HG1.out hG2
    unfold arr4
    obtain ⟨W3, hW3, sz3, g3, B3⟩ := boxn w2 #[.int .i64 (S : Nat), .int .i64 (I : Nat), .int .i64 (n : Nat), .int .i64 (R : Nat)] 70
    obtain ⟨W4, hW4, sz4, g4, B4⟩ := boxn W3 #[.int .i64 (S : Nat), .int .i64 (I : Nat), .slice none 0 0, .int .i64 (R : Nat)] 24
    have g34 := gb_trans g3 g4
    have HX4 : Hid (Bo W4 w.heap.size 24 #[.int .i64 0, .int .i64 0, .slice none 0 0, .int .i64 0]) := BB2.kept g34 (by simp)
    have HR4 : Hid (Rd W4 g x r0 false) := hR2.kept g34 (by simp)
    have HG4 : Hid (w.grownBy W4 (some g)) := gb_none G2 g34
    have HY4 : Hid (Bo W4 W3.heap.size 24 #[.int .i64 (S : Nat), .int .i64 (I : Nat), .slice none 0 0, .int .i64 (R : Nat)]) := B4
    have HA2 : Hid (w.heap.size < W3.heap.size ∧ W3.heap.size < W4.heap.size ∧ g < w.heap.size) := by have := HA.out; have := hG2.size; have := sz3.out; have := sz4.out; unfold Hid; omega
    have D3 := B3.kept g4 (by simp)
    have c0 := B3.cell 0 (v := .int .i64 (S : Nat)) rfl; have d0 := D3.cell 0 (v := .int .i64 (S : Nat)) rfl
    have c1 := B3.cell 1 (v := .int .i64 (I : Nat)) rfl; have d1 := D3.cell 1 (v := .int .i64 (I : Nat)) rfl
    have c2 := B3.cell 2 (v := .int .i64 (n : Nat)) rfl; have d2 := D3.cell 2 (v := .int .i64 (n : Nat)) rfl
    have c3 := B3.cell 3 (v := .int .i64 (R : Nat)) rfl; have d3 := D3.cell 3 (v := .int .i64 (R : Nat)) rfl
    clear BB2 hR2 G2 hG2 sz3 sz4 g3 g4 g34 B3 B4 D3 HX1 HG1
    go_wp2
    clear c0 c1 c2 c3 d0 d1 d2 d3 hW3 hW4
    go_loopw [26] (fun v wr => ∃ (xs : List (Nat × List Nat)) (ns : Bool) (rr : List UInt8) (np : Option Addr) (nc : Nat) (t : Nat → TN), v = .int .i64 (xs.length : Nat) ∧ Hid (xs.length ≤ n ∧ Pa.nsR (n - xs.length) xs ns rr = (xz, bz, Bz, rz)) ∧ Hid (Pa.Suf x rr) ∧ Hid (Rd wr g x rr ns) ∧ Hid (Bo wr w.heap.size 24 #[.int .i64 0, .int .i64 0, .slice none 0 0, .int .i64 0]) ∧ Hid (Bo wr W3.heap.size 24 #[.int .i64 (S : Nat), .int .i64 (I : Nat), .slice np xs.length nc, .int .i64 (R : Nat)]) ∧ Hid (As t xs) ∧ Hid (wr.ownsRow W4.heap.size 69 2 (.slice np xs.length nc) xs.length (ndW t xs.length)) ∧ Hid (Ks wr W4.heap.size t xs.length) ∧ Hid (w.grownBy wr (some g)) ∧ Hid (W4.heap.size ≤ wr.heap.size)) (fun v _ => n - (intOf v).toNat)
    case atStart => exact ⟨[], false, r0, none, 0, fun _ => ⟨0, none, 0, 0, fun _ => 0⟩, rfl, ⟨Nat.zero_le _, HZ.out⟩, hs0.out, HR4.out, HX4.out, HY4.out, fun i hi => absurd hi (Nat.not_lt_zero _), World.ownsRow_nil _ _ _ _, fun i hi => absurd hi (Nat.not_lt_zero _), HG4.out, Nat.le_refl _⟩
    case round =>
      obtain ⟨xs, ns, rr, np, nc, t, rfl, hst, hsx, HR, HX, HY, hAs, own, hKs, HG, hsz⟩ := hrel
      clear HX4 HR4 HG4 HY4
      by_cases hlt : xs.length < n
      · have hlt' : ((xs.length : Nat) : Int) < (n : Int) := by omega
        obtain ⟨⟨⟨st, ks⟩, bg, b1, r1⟩, hnd⟩ : ∃ Z, Pa.ndR rr = Z := ⟨_, rfl⟩
        have hk := nodeC g x rr ns st ks bg b1 r1 hnd hsx.out hz wr HR.out
        have hs1 : Hid (Pa.Suf x r1) := by have := Pa.ndR_suf rr; rw [hnd] at this; exact hsx.out.of this
        have HE := hst.out.2
        rw [show n - xs.length = (n - (xs.length + 1)) + 1 by omega] at HE
        unfold Pa.nsR at HE
        rw [hnd] at HE
        clear hnd
        have BX5 : Hid (∀ w5, wr.grownBy w5 (some g) → Bo w5 w.heap.size 24 #[.int .i64 0, .int .i64 0, .slice none 0 0, .int .i64 0]) := fun w5 hg => HX.out.kept hg (by have := HA2.out; simp; omega)
        go_wp2_with (first | (go_at_call 63; refine hk.mono ?_; rintro e w5 ⟨kp, kc, rfl, ownk, hR5, hG5⟩; refine Hid.out ?_))
        refine Lib.hid ?_
        clear hk
        obtain ⟨W6, hW6, sz6, g6, B6⟩ := boxn w5 #[.int .u8 (st : Nat), .slice kp ks.length kc] 69
        have g56 : wr.grownBy W6 (some g) := gb_none hG5 g6
        have hR6 := hR5.kept g6 (by simp)
        have G6 := gb_one HG.out g56
        have BB := BX5.out W6 g56
        cases b1 with
        | false =>
          simp only [Bool.false_eq_true, if_false, Prod.mk.injEq] at HE
          obtain ⟨rfl, rfl, rfl, rfl⟩ := HE
          obtain rfl : B = false := by rw [← HBB.out]; rfl
          have b0 := BB.cell 0 (v := .int .i64 0) rfl
          have b1 := BB.cell 1 (v := .int .i64 0) rfl
          have b2 := BB.cell 2 (v := .slice none 0 0) rfl
          have b3 := BB.cell 3 (v := .int .i64 0) rfl
          have bf0 := BB.frozen 0
          have bf1 := BB.frozen 1
          have bf2 := BB.frozen 2
          have bf3 := BB.frozen 3
          go_wp2
          refine ret_c2 (g := w.heap.size) (t := 24) (cs := #[.int .i64 0, .int .i64 0, .slice none 0 0, .int .i64 0]) rfl HF.out infoTr rfl (by first | exact (((BB.set 0 _).set 1 _).set 2 _).set 3 _ | exact BB) rfl ⟨0, 0, 0, none, 0, 0, rfl, ?_, ?_, fun q => absurd q (by simp)⟩
          · exact (((hR6.set2 HNE.out).set2 HNE.out).set2 HNE.out).set2 HNE.out
          · exact gb_new (gb_new (gb_new (gb_new G6 (Nat.le_refl _) _) (Nat.le_refl _) _) (Nat.le_refl _) _) (Nat.le_refl _) _
        | true =>
          simp only [if_true] at HE
          have HE : Hid (Pa.nsR (n - (xs.length + 1)) (xs ++ [(st, ks)]) (ns || bg) r1 = (xz, bz, Bz, rz)) := HE
          have YY := HY.out.kept g56 (by have := HA2.out; simp; omega)
          have own6 := own_g own.out g56 (by have := HA2.out; omega)
          have K6 := hKs.out.kept g56 (by intro b hb; cases hb; have := HA2.out; omega)
          have ownk6 : W6.ownsRow W4.heap.size 3 1 (.slice kp ks.length kc) ks.length (kidsV (lf ks) ks.length) := Joins.ownsRow_le (ownk.kept g6 (Classical.em _)) hsz.out
          obtain ⟨W7, hW7, sz7, g7, B7⟩ := boxn W6 #[.int .u8 (st : Nat), .slice kp ks.length kc] 69
          have own7 := own6.kept g7 (Classical.em _)
          have K7 := K6.kept g7 (by simp)
          have ownk7 := ownk6.kept g7 (Classical.em _)
          have y62 := YY.cell 2 (v := .slice np xs.length nc) rfl
          have c60 := B6.cell 0 (v := .int .u8 (st : Nat)) rfl
          have c61 := B6.cell 1 (v := .slice kp ks.length kc) rfl
          have nw : ∀ l u, [Value.int .u8 (st : Nat), .slice kp ks.length kc][l]? = some u → W7.cell? ((⟨W6.heap.size, 0, none⟩ : Addr).add l) = some u := World.news_of_block (cs := #[.int .u8 (st : Nat), .slice kp ks.length kc]) B7
          have sz47 : W4.heap.size ≤ W7.heap.size := Nat.le_trans hsz.out (Nat.le_trans g56.size g7.size)
          have hxl : xs.length < 65536 := by omega
          go_wp2_with (first | (at_builtin; refine wpList_append_lies _ rfl _ _ 22 rfl W4.heap.size 69 ib (.agg #[.int .u8 0, .slice none 0 0]) 2 32 underBS HB.out.1 HB.out.2.1 HB.out.2.2.1 HB.out.2.2.2 rfl (by decide) _ xs.length _ rfl own7 ⟨W6.heap.size, 0, none⟩ 1 1 [.int .u8 (st : Nat), .slice kp ks.length kc] rfl rfl nw (by intro u hu; simp at hu; rcases hu with rfl | rfl <;> rfl) (by decide) (by unfold maxLen; omega) (by omega) sz47 _ rfl ?_; intro g8 q8 w8 own8 gk8 at8 lt8; refine Hid.out ?_))
          refine Lib.hid ?_
          have hob : ∀ b, (Value.slice np xs.length nc).ownBlock = some b → W4.heap.size ≤ b := fun b hb => (own7.lt b hb).1
          have X8 := (BB.kept g7 (by simp)).kept gk8 (fun e => by have := hob _ e.symm; have := HA2.out; omega)
          have Y8 := (YY.kept g7 (by simp)).kept gk8 (fun e => by have := hob _ e.symm; have := HA2.out; omega)
          have R8 := (hR6.kept g7 (by simp)).kept gk8 (fun e => by have := hob _ e.symm; have := HA2.out; omega)
          have K8 := K7.push own7 gk8
          have ownk8 := ownk7.kept gk8 (own_two (n := 0) own7 ownk7)
          have G8 : w.grownBy w8 (some g) := (gb_none G6 g7).andThen gk8 (fun b hb => .inl (by have := hob b hb; have := HA2.out; omega))
          have y8 := Y8.cell 2 (v := .slice np xs.length nc) rfl
          have f8 := Y8.frozen 2
          obtain ⟨W9, hW9⟩ : ∃ W9, w8.setCell ⟨W3.heap.size, 2, none⟩ (.slice (some ⟨g8, 0, none⟩) (xs.length + 1) q8) = W9 := ⟨_, rfl⟩
          have g89 : w8.grownBy W9 (some W3.heap.size) := hW9 ▸ gb_set (World.grownBy.refl w8 _) _ _
          have el : (xs ++ [(st, ks)]).length = xs.length + 1 := by simp
          have HEL : Hid ((xs ++ [(st, ks)]).length = xs.length + 1) := el
          have HR9 : Hid (Rd W9 g x r1 (ns || bg)) := hW9 ▸ R8.set2 (by have := HA2.out; omega)
          have HX9 : Hid (Bo W9 w.heap.size 24 #[.int .i64 0, .int .i64 0, .slice none 0 0, .int .i64 0]) := hW9 ▸ X8.set2 (by have := HA2.out; omega)
          have HY9 : Hid (Bo W9 W3.heap.size 24 #[.int .i64 (S : Nat), .int .i64 (I : Nat), .slice (some ⟨g8, 0, none⟩) (xs.length + 1) q8, .int .i64 (R : Nat)]) := hW9 ▸ Y8.set 2 _
          have HO9 : Hid (W9.ownsRow W4.heap.size 69 2 (.slice (some ⟨g8, 0, none⟩) (xs.length + 1) q8) (xs.length + 1) (ndW t xs.length ++ [.int .u8 (st : Nat), .slice kp ks.length kc])) := own8.kept g89 (.inr fun e => by have := (own8.lt _ e).1; have := HA2.out; omega)
          have HK9 : Hid (Ks W9 W4.heap.size t xs.length) := K8.kept g89 (by intro b hb; cases hb; have := HA2.out; omega)
          have HQ9 : Hid (W9.ownsRow W4.heap.size 3 1 (.slice kp ks.length kc) ks.length (kidsV (lf ks) ks.length)) := ownk8.kept g89 (by
            by_cases e : (Value.slice kp ks.length kc).ownBlock = some W3.heap.size
            · have := (ownk8.lt _ e).1; have := HA2.out; omega
            · exact .inr e)
          have HG9 : Hid (w.grownBy W9 (some g)) := hW9 ▸ gb_new G8 (Nat.le_of_lt HA2.out.1) _
          have HZ9 : Hid (W4.heap.size ≤ W9.heap.size) := Nat.le_trans sz47 (Nat.le_trans gk8.size g89.size)
          clear X8 Y8 R8 K8 ownk8 G8 own8 g89 el own7 own6 K6 K7 ownk6 ownk7 ownk B6 B7 nw g7 g6 g56 hR6 hR5 hG5 G6 BB YY gk8 hob y62 c60 c61 sz47 hW6 hW7 at8 lt8 sz6 sz7
          go_wp2
          refine ⟨?_, ?measure⟩
          (repeat apply Exists.intro)
          refine ⟨?rel, rfl⟩
          case rel =>
            let t' : Nat → TN := fun k => if k = xs.length then ⟨st, kp, ks.length, kc, lf ks⟩ else t k
            have ht : ∀ k, k < xs.length → t k = t' k := fun k hk => by simp [t', show k ≠ xs.length by omega]
            have ht2 : t' xs.length = ⟨st, kp, ks.length, kc, lf ks⟩ := by simp [t']
            refine ⟨xs ++ [(st, ks)], ns || bg, r1, some ⟨g8, 0, none⟩, q8, t', ?_, ⟨?_, ?_⟩, hs1.out, HR9.out, HX9.out, ?_, ?_, ?_, ?_, HG9.out, HZ9.out⟩
            · rw [HEL.out]; go_num
            · rw [HEL.out]; exact hlt
            · rw [HEL.out]; exact HE.out
            · rw [HEL.out]; exact HY9.out
            · intro i hi
              rw [HEL.out] at hi
              by_cases e : i = xs.length
              · subst e
                rw [ht2]
                have : (xs ++ [(st, ks)]).getD xs.length (0, []) = (st, ks) := by simp
                rw [this]
                exact ⟨rfl, rfl, rfl⟩
              · have hi' : i < xs.length := by omega
                rw [← ht i hi']
                have : (xs ++ [(st, ks)]).getD i (0, []) = xs.getD i (0, []) := by rw [List.getD_eq_getElem?_getD, List.getElem?_append_left hi', ← List.getD_eq_getElem?_getD]
                rw [this]
                exact hAs.out i hi'
            · rw [HEL.out, ndW, ← ndW_congr ht, ht2]
              exact HO9.out
            · intro i hi
              rw [HEL.out] at hi
              by_cases e : i = xs.length
              · subst e
                rw [ht2]
                exact HQ9.out
              · rw [← ht i (by omega)]
                exact HK9.out i (by omega)
          case measure => simp [intOf]; omega
      · have hn2 : xs.length = n := by have := hst.out.1; omega
        have hlt' : ¬ ((xs.length : Nat) : Int) < (n : Int) := by omega
        have HE := hst.out.2
        rw [show n - xs.length = 0 by omega] at HE
        have HE2 : (xs, ns, true, rr) = (xz, bz, Bz, rz) := HE
        simp only [Prod.mk.injEq] at HE2
        obtain ⟨rfl, rfl, rfl, rfl⟩ := HE2
        have hB : ((((Pa.po x rr : Nat) : Int)) == ((x.size : Nat) : Int)) = B := by
          rw [← HBB.out]
          have h1 := Pa.po_eq hsx.out hsx.out
          cases rr with
          | nil => rw [Pa.po_nil]; simp
          | cons c q =>
            have h2 : ¬ Pa.po x (c :: q) = x.size := fun e => by cases h1.1 e
            simp
            omega
        have HN2 : Hid (xs.length = n) := hn2
        have BB := HX.out
        have CC := HY.out
        have x0 := HR.out.c0
        have x1 := HR.out.c1
        have b0 := BB.cell 0 (v := .int .i64 0) rfl
        have b1 := BB.cell 1 (v := .int .i64 0) rfl
        have b2 := BB.cell 2 (v := .slice none 0 0) rfl
        have b3 := BB.cell 3 (v := .int .i64 0) rfl
        have bf0 := BB.frozen 0
        have bf1 := BB.frozen 1
        have bf2 := BB.frozen 2
        have bf3 := BB.frozen 3
        have c0 := CC.cell 0 (v := .int .i64 (S : Nat)) rfl
        have c1 := CC.cell 1 (v := .int .i64 (I : Nat)) rfl
        have c2 := CC.cell 2 (v := .slice np xs.length nc) rfl
        have c3 := CC.cell 3 (v := .int .i64 (R : Nat)) rfl
        clear HE hn2 hst
        have ne1 : w.heap.size ≠ g := HNE.out
        have ne2 := ne1.symm
        have ne3 : w.heap.size ≠ W3.heap.size := by have := HA2.out; omega
        have ne4 := ne3.symm
        go_wp2
        go_region
        all_goals
          go_wp2
          refine ret_c2 (g := w.heap.size) (t := 24) (cs := #[.int .i64 (S : Nat), .int .i64 (I : Nat), .slice np xs.length nc, .int .i64 (R : Nat)]) rfl HF.out infoTr rfl ((((BB.set 0 _).set 1 _).set 2 _).set 3 _) rfl ⟨_, _, _, np, xs.length, nc, rfl, ?_, ?_, fun _ => ⟨S, I, R, t, by rw [HN2.out], rfl, rfl, rfl, rfl, hAs.out, ?_, ?_⟩⟩
          · exact (((HR.out.set2 HNE.out).set2 HNE.out).set2 HNE.out).set2 HNE.out
          · exact gb_drew (gb_new (gb_new (gb_new (gb_new HG.out (Nat.le_refl _) _) (Nat.le_refl _) _) (Nat.le_refl _) _) (Nat.le_refl _) _)
          · exact Joins.ownsRow_le (own.out.kept (gb_drew (gb_set (gb_set (gb_set (gb_set (World.grownBy.refl wr (some w.heap.size)) _ _) _ _) _ _) _ _)) (.inr fun e => by have := (own.out.lt _ e).1; have := HA2.out; omega)) (by have := HA2.out; omega)
          · intro i hi
            exact Joins.ownsRow_le ((hKs.out.kept (gb_drew (gb_set (gb_set (gb_set (gb_set (World.grownBy.refl wr (some w.heap.size)) _ _) _ _) _ _) _ _)) (by intro b hb; cases hb; have := HA2.out; omega)) i hi) (by have := HA2.out; omega)
end Rr
end Go.Proofs.YteaionmjbkildabDoor
