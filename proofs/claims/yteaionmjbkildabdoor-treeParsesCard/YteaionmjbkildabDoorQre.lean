/- The reader of a tree's text: a node. -/
import Derived.Test.YteaionmjbkildabDoorQrd
import Derived.Deep.RegionWith
import Derived.BigRegion
namespace Go.Proofs.YteaionmjbkildabDoor
open Go.RowKit
set_option linter.unusedVariables false
set_option linter.unusedSimpArgs false
set_option maxRecDepth 100000
namespace Rr
/-- A line of either kind. -/
def LinePost (w : World) (g : Nat) (x : ByteArray) (ns : Bool) (st : Nat) (ks : List Nat) (big B : Bool) (r' : List UInt8) (e : Ending) (w' : World) : Prop := ∃ kp kc, e = .returned (.tuple #[.agg #[.int .u8 (st : Nat), .slice kp ks.length kc], .bool B]) ∧ w'.ownsRow w.heap.size 3 1 (.slice kp ks.length kc) ks.length (kidsV (lf ks) ks.length) ∧ Rd w' g x r' (ns || big) ∧ w.grownBy w' (some g)
theorem branchL (g : Nat) (x : ByteArray) (r : List UInt8) (ns : Bool) (hd : ¬ r.head? = some 61) (st : Nat) (ks : List Nat) (big B : Bool) (r' : List UInt8) (hN : Hid (Pa.lnR r = ((st, ks), big, B, r'))) (hs : Pa.Suf x r) (hz : x.size ≤ 1048576) (w : World) (h : Rd w g x r ns) : Calls Tryd.prog 78 #[.pointer (some ⟨g, 0, none⟩)] w (LinePost w g x ns st ks big B r') := by
  have e := hN.out
  unfold Pa.lnR at e
  rw [if_neg hd] at e
  simp only [Prod.mk.injEq] at e
  obtain ⟨⟨rfl, e1⟩, rfl, e2, e3⟩ := e
  refine (branchC g x r ns ks B r' (Prod.ext e1 (Prod.ext e2 e3)) hs hz w h).mono ?_
  rintro e w' ⟨kp, kc, he, h1, h2, h3⟩
  exact ⟨kp, kc, he, h1, by rw [Bool.or_false]; exact h2, h3⟩
theorem leafL (g : Nat) (x : ByteArray) (r : List UInt8) (ns : Bool) (hd : r.head? = some 61) (st : Nat) (ks : List Nat) (big B : Bool) (r' : List UInt8) (hN : Hid (Pa.lnR r = ((st, ks), big, B, r'))) (hs : Pa.Suf x r) (hz : x.size ≤ 1048576) (w : World) (h : Rd w g x r ns) : Calls Tryd.prog 77 #[.pointer (some ⟨g, 0, none⟩)] w (LinePost w g x ns st ks big B r') := by
  refine (leafC g x r ns hd st ks big B r' hN hs hz w h).mono ?_
  rintro e w' ⟨rfl, he, h2, h3⟩
  exact ⟨none, 0, he, World.ownsRow_nil _ _ _ _, h2, h3⟩
set_option maxHeartbeats 4000000 in
theorem nodeC (g : Nat) (x : ByteArray) (r : List UInt8) (ns : Bool) (st0 : Nat) (ks0 : List Nat) (big0 B : Bool) (r' : List UInt8) (hN : Hid (Pa.ndR r = ((st0, ks0), big0, B, r'))) (hs : Pa.Suf x r) (hz : x.size ≤ 1048576) (w : World) (h : Rd w g x r ns) :
    Calls Tryd.prog 63 #[.pointer (some ⟨g, 0, none⟩)] w fun e w' => ∃ kp kc, e = .returned (.tuple #[.agg #[.int .u8 (st0 : Nat), .slice kp ks0.length kc], .bool B]) ∧ w'.ownsRow w.heap.size 3 1 (.slice kp ks0.length kc) ks0.length (kidsV (lf ks0) ks0.length) ∧ Rd w' g x r' (ns || big0) ∧ w.grownBy w' (some g) := by
  obtain ⟨fs, hfs⟩ := underBr
  have HF : Hid (Tryd.prog.underlying 69 = some (.struct fs)) := hfs
  clear hfs
  obtain ⟨W1, hW1, sz1, g1, B1⟩ := boxn w #[.int .u8 0, .slice none 0 0] 69
  obtain ⟨W2, hW2, sz2, g2, B2⟩ := boxn W1 #[.int .u8 0, .slice none 0 0] 69
  have hg0 : g < w.heap.size := h.lt
  have HA : Hid (w.heap.size < W1.heap.size ∧ W1.heap.size < W2.heap.size ∧ g < w.heap.size) := ⟨by have := sz1.out; omega, by have := sz2.out; omega, hg0⟩
  have HG2 : Hid (w.grownBy W2 none) := gb_trans g1 g2
  have HX2 : Hid (Bo W2 w.heap.size 69 #[.int .u8 0, .slice none 0 0]) := B1.kept g2 (by simp)
  have HY2 : Hid (Bo W2 W1.heap.size 69 #[.int .u8 0, .slice none 0 0]) := B2
  have R2 : Rd W2 g x r ns := h.kept HG2.out (by simp)
  obtain ⟨⟨⟨st, ks⟩, big, b1, r1⟩, hln⟩ : ∃ Z, Pa.lnR r = Z := ⟨_, rfl⟩
  have hs1 : Hid (Pa.Suf x r1) := by have := Pa.lnR_suf r; rw [hln] at this; exact hs.of this
  have HV0 := hN.out
  unfold Pa.ndR at HV0
  rw [hln] at HV0
  have HV : Hid ((if b1 = true then ((st, ks), big, (Pa.skR 10 r1).1, (Pa.skR 10 r1).2) else ((st, ks), big, b1, r1)) = ((st0, ks0), big0, B, r')) := HV0
  clear HV0
  have e0 : st = st0 ∧ ks = ks0 ∧ big = big0 := by
    have := HV.out
    cases b1 <;> simp at this <;> exact ⟨this.1.1, this.1.2, this.2.1⟩
  obtain ⟨rfl, rfl, rfl⟩ := e0
  by_cases hd : r.head? = some 61
  · have ha := aheadC g x r ns 61 61 rfl true (by simp [hd]) hs hz W2 R2
    have hl := fun w3 hR => leafL g x r ns hd st ks big b1 r1 hln hs hz w3 hR
    have HR2 : Hid (Rd W2 g x r ns) := R2
    clear h hs sz1 sz2 g1 g2 B1 B2 hg0 hln hd R2 hN
    go_enter Tryd.func63, Tryd.ntmps63
    go_wp2_with (first | (go_at_call 76; refine ha.mono ?_; rintro e w2 ⟨rfl, kk, rfl⟩) | (go_at_call 77; refine (hl _ (Rd.drew HR2.out)).mono ?_; rintro e w3 ⟨kp, kc, rfl, own3, hR3, hG3⟩; refine Hid.out ?_))
    refine Lib.hid ?_
    have hG3 : W2.grownBy w3 (some g) := ⟨hG3.os, hG3.tape, hG3.output, hG3.size, hG3.block⟩
    have own3 : w3.ownsRow W2.heap.size 3 1 (.slice kp ks.length kc) ks.length (kidsV (lf ks) ks.length) := own3
    clear hl ha
    have C3 := HY2.out.kept hG3 (by have := HA.out; simp; omega)
    have B3 := HX2.out.kept hG3 (by have := HA.out; simp; omega)
    have c0 := C3.cell 0 (v := .int .u8 0) rfl
    have c1 := C3.cell 1 (v := .slice none 0 0) rfl
    have f0 := C3.frozen 0
    have f1 := C3.frozen 1
    obtain ⟨V, hV⟩ : ∃ V, (w3.setCell ⟨W1.heap.size, 0, none⟩ (.int .u8 (st : Nat))).setCell ⟨W1.heap.size, 1, none⟩ (.slice kp ks.length kc) = V := ⟨_, rfl⟩
    have HNE : Hid (W1.heap.size ≠ g ∧ w.heap.size ≠ g ∧ w.heap.size ≠ W1.heap.size ∧ w.heap.size ≤ W1.heap.size ∧ w.heap.size ≤ W2.heap.size) := by have := HA.out; unfold Hid; omega
    have g3V : w3.grownBy V (some W1.heap.size) := hV ▸ gb_set (gb_set (World.grownBy.refl w3 _) _ _) _ _
    have HRV : Hid (Rd V g x r1 (ns || big)) := hV ▸ (hR3.set2 HNE.out.1).set2 HNE.out.1
    have HCV : Hid (Bo V W1.heap.size 69 #[.int .u8 (st : Nat), .slice kp ks.length kc]) := hV ▸ (C3.set 0 _).set 1 _
    have HBV : Hid (Bo V w.heap.size 69 #[.int .u8 0, .slice none 0 0]) := B3.kept g3V (by have := HA.out; simp; omega)
    have HOV : Hid (V.ownsRow W2.heap.size 3 1 (.slice kp ks.length kc) ks.length (kidsV (lf ks) ks.length)) := own3.kept g3V (.inr fun e => by have := (own3.lt _ e).1; have := HA.out; omega)
    have HGV : Hid (w.grownBy V (some g)) := (gb_trans' HG2.out hG3).andThen g3V (fun b hb => .inl (by have := HA.out; cases hb; omega))
    go_wp2
    try rw [hV]
    clear hV hR3 own3 c0 c1 f0 f1 C3 B3 g3V hG3
    cases b1 with
    | false =>
      have e := HV.out
      simp [-ite_eq_left_iff] at e
      obtain ⟨rfl, rfl⟩ := e
      have BB := HBV.out
      have CC := HCV.out
      have b0 := BB.cell 0 (v := .int .u8 0) rfl
      have b1 := BB.cell 1 (v := .slice none 0 0) rfl
      have bf0 := BB.frozen 0
      have bf1 := BB.frozen 1
      have c0 := CC.cell 0 (v := .int .u8 (st : Nat)) rfl
      have c1 := CC.cell 1 (v := .slice kp ks.length kc) rfl
      go_region
      all_goals
        go_wp2
        refine ret_c2 (g := w.heap.size) (t := 69) (cs := #[.int .u8 (st : Nat), .slice kp ks.length kc]) rfl HF.out infoBr rfl ((BB.set 0 _).set 1 _) rfl ⟨kp, kc, rfl, ?_, ?_, ?_⟩
        · exact Joins.ownsRow_le (HOV.out.kept (gb_drew (gb_set (gb_set (World.grownBy.refl V (some w.heap.size)) _ _) _ _)) (.inr fun e => by have := (HOV.out.lt _ e).1; have := HA.out; omega)) HNE.out.2.2.2.2
        · exact (HRV.out.set2 HNE.out.2.1).set2 HNE.out.2.1
        · exact gb_drew (gb_new (gb_new HGV.out (Nat.le_refl _) _) (Nat.le_refl _) _)
    | true =>
      obtain ⟨⟨b2, r2⟩, hsk⟩ : ∃ Z, Pa.skR 10 r1 = Z := ⟨_, rfl⟩
      have e := HV.out
      rw [hsk] at e
      simp at e
      obtain ⟨rfl, rfl⟩ := e
      have hk := skipC g x r1 (ns || big) 10 10 rfl b2 r2 hsk hs1.out hz V.drew HRV.out
      have HK : Hid (∀ w7, V.drew.grownBy w7 (some g) → Bo w7 w.heap.size 69 #[.int .u8 0, .slice none 0 0] ∧ Bo w7 W1.heap.size 69 #[.int .u8 (st : Nat), .slice kp ks.length kc]) := fun w7 hg => ⟨(Bo.dr HBV.out).kept hg (by have := HA.out; simp; omega), (Bo.dr HCV.out).kept hg (by have := HA.out; simp; omega)⟩
      have BB := HBV.out
      have CC := HCV.out
      have b0 := BB.cell 0 (v := .int .u8 0) rfl
      have b1 := BB.cell 1 (v := .slice none 0 0) rfl
      have bf0 := BB.frozen 0
      have bf1 := BB.frozen 1
      have c0 := CC.cell 0 (v := .int .u8 (st : Nat)) rfl
      have c1 := CC.cell 1 (v := .slice kp ks.length kc) rfl
      clear hsk
      go_region_with (first | (go_at_call 75; refine hk.mono ?_; rintro e w7 ⟨rfl, hR7, hG7⟩; have B7 := (HK.out w7 hG7).1; have C7 := (HK.out w7 hG7).2; have p0 := B7.cell 0 (v := .int .u8 0) rfl; have p1 := B7.cell 1 (v := .slice none 0 0) rfl; have pf0 := B7.frozen 0; have pf1 := B7.frozen 1; have q0 := C7.cell 0 (v := .int .u8 (st : Nat)) rfl; have q1 := C7.cell 1 (v := .slice kp ks.length kc) rfl))
      all_goals
        go_wp2
        have hG7 : V.grownBy w7 (some g) := ⟨hG7.os, hG7.tape, hG7.output, hG7.size, hG7.block⟩
        have own7 := own_g HOV.out hG7 (by have := HA.out; omega)
        refine ret_c2 (g := w.heap.size) (t := 69) (cs := #[.int .u8 (st : Nat), .slice kp ks.length kc]) rfl HF.out infoBr rfl ((B7.set 0 _).set 1 _) rfl ⟨kp, kc, rfl, ?_, ?_, ?_⟩
        · exact Joins.ownsRow_le (own7.kept (gb_set (gb_set (World.grownBy.refl w7 (some w.heap.size)) _ _) _ _) (.inr fun e => by have := (own7.lt _ e).1; have := HA.out; omega)) HNE.out.2.2.2.2
        · exact (hR7.set2 HNE.out.2.1).set2 HNE.out.2.1
        · exact gb_new (gb_new (gb_one HGV.out hG7) (Nat.le_refl _) _) (Nat.le_refl _) _
  · have ha := aheadC g x r ns 61 61 rfl false (by simp [hd]) hs hz W2 R2
    have hl := fun w3 hR => branchL g x r ns hd st ks big b1 r1 hln hs hz w3 hR
    have HR2 : Hid (Rd W2 g x r ns) := R2
    clear h hs sz1 sz2 g1 g2 B1 B2 hg0 hln hd R2 hN
    go_enter Tryd.func63, Tryd.ntmps63
    go_wp2_with (first | (go_at_call 76; refine ha.mono ?_; rintro e w2 ⟨rfl, kk, rfl⟩) | (go_at_call 78; refine (hl _ (Rd.drew HR2.out)).mono ?_; rintro e w3 ⟨kp, kc, rfl, own3, hR3, hG3⟩; refine Hid.out ?_))
    refine Lib.hid ?_
    have hG3 : W2.grownBy w3 (some g) := ⟨hG3.os, hG3.tape, hG3.output, hG3.size, hG3.block⟩
    have own3 : w3.ownsRow W2.heap.size 3 1 (.slice kp ks.length kc) ks.length (kidsV (lf ks) ks.length) := own3
    clear hl ha
    have C3 := HY2.out.kept hG3 (by have := HA.out; simp; omega)
    have B3 := HX2.out.kept hG3 (by have := HA.out; simp; omega)
    have c0 := C3.cell 0 (v := .int .u8 0) rfl
    have c1 := C3.cell 1 (v := .slice none 0 0) rfl
    have f0 := C3.frozen 0
    have f1 := C3.frozen 1
    obtain ⟨V, hV⟩ : ∃ V, (w3.setCell ⟨W1.heap.size, 0, none⟩ (.int .u8 (st : Nat))).setCell ⟨W1.heap.size, 1, none⟩ (.slice kp ks.length kc) = V := ⟨_, rfl⟩
    have HNE : Hid (W1.heap.size ≠ g ∧ w.heap.size ≠ g ∧ w.heap.size ≠ W1.heap.size ∧ w.heap.size ≤ W1.heap.size ∧ w.heap.size ≤ W2.heap.size) := by have := HA.out; unfold Hid; omega
    have g3V : w3.grownBy V (some W1.heap.size) := hV ▸ gb_set (gb_set (World.grownBy.refl w3 _) _ _) _ _
    have HRV : Hid (Rd V g x r1 (ns || big)) := hV ▸ (hR3.set2 HNE.out.1).set2 HNE.out.1
    have HCV : Hid (Bo V W1.heap.size 69 #[.int .u8 (st : Nat), .slice kp ks.length kc]) := hV ▸ (C3.set 0 _).set 1 _
    have HBV : Hid (Bo V w.heap.size 69 #[.int .u8 0, .slice none 0 0]) := B3.kept g3V (by have := HA.out; simp; omega)
    have HOV : Hid (V.ownsRow W2.heap.size 3 1 (.slice kp ks.length kc) ks.length (kidsV (lf ks) ks.length)) := own3.kept g3V (.inr fun e => by have := (own3.lt _ e).1; have := HA.out; omega)
    have HGV : Hid (w.grownBy V (some g)) := (gb_trans' HG2.out hG3).andThen g3V (fun b hb => .inl (by have := HA.out; cases hb; omega))
    go_wp2
    try rw [hV]
    clear hV hR3 own3 c0 c1 f0 f1 C3 B3 g3V hG3
    cases b1 with
    | false =>
      have e := HV.out
      simp [-ite_eq_left_iff] at e
      obtain ⟨rfl, rfl⟩ := e
      have BB := HBV.out
      have CC := HCV.out
      have b0 := BB.cell 0 (v := .int .u8 0) rfl
      have b1 := BB.cell 1 (v := .slice none 0 0) rfl
      have bf0 := BB.frozen 0
      have bf1 := BB.frozen 1
      have c0 := CC.cell 0 (v := .int .u8 (st : Nat)) rfl
      have c1 := CC.cell 1 (v := .slice kp ks.length kc) rfl
      go_region
      all_goals
        go_wp2
        refine ret_c2 (g := w.heap.size) (t := 69) (cs := #[.int .u8 (st : Nat), .slice kp ks.length kc]) rfl HF.out infoBr rfl ((BB.set 0 _).set 1 _) rfl ⟨kp, kc, rfl, ?_, ?_, ?_⟩
        · exact Joins.ownsRow_le (HOV.out.kept (gb_drew (gb_set (gb_set (World.grownBy.refl V (some w.heap.size)) _ _) _ _)) (.inr fun e => by have := (HOV.out.lt _ e).1; have := HA.out; omega)) HNE.out.2.2.2.2
        · exact (HRV.out.set2 HNE.out.2.1).set2 HNE.out.2.1
        · exact gb_drew (gb_new (gb_new HGV.out (Nat.le_refl _) _) (Nat.le_refl _) _)
    | true =>
      obtain ⟨⟨b2, r2⟩, hsk⟩ : ∃ Z, Pa.skR 10 r1 = Z := ⟨_, rfl⟩
      have e := HV.out
      rw [hsk] at e
      simp at e
      obtain ⟨rfl, rfl⟩ := e
      have hk := skipC g x r1 (ns || big) 10 10 rfl b2 r2 hsk hs1.out hz V.drew HRV.out
      have HK : Hid (∀ w7, V.drew.grownBy w7 (some g) → Bo w7 w.heap.size 69 #[.int .u8 0, .slice none 0 0] ∧ Bo w7 W1.heap.size 69 #[.int .u8 (st : Nat), .slice kp ks.length kc]) := fun w7 hg => ⟨(Bo.dr HBV.out).kept hg (by have := HA.out; simp; omega), (Bo.dr HCV.out).kept hg (by have := HA.out; simp; omega)⟩
      have BB := HBV.out
      have CC := HCV.out
      have b0 := BB.cell 0 (v := .int .u8 0) rfl
      have b1 := BB.cell 1 (v := .slice none 0 0) rfl
      have bf0 := BB.frozen 0
      have bf1 := BB.frozen 1
      have c0 := CC.cell 0 (v := .int .u8 (st : Nat)) rfl
      have c1 := CC.cell 1 (v := .slice kp ks.length kc) rfl
      clear hsk
      go_region_with (first | (go_at_call 75; refine hk.mono ?_; rintro e w7 ⟨rfl, hR7, hG7⟩; have B7 := (HK.out w7 hG7).1; have C7 := (HK.out w7 hG7).2; have p0 := B7.cell 0 (v := .int .u8 0) rfl; have p1 := B7.cell 1 (v := .slice none 0 0) rfl; have pf0 := B7.frozen 0; have pf1 := B7.frozen 1; have q0 := C7.cell 0 (v := .int .u8 (st : Nat)) rfl; have q1 := C7.cell 1 (v := .slice kp ks.length kc) rfl))
      all_goals
        go_wp2
        have hG7 : V.grownBy w7 (some g) := ⟨hG7.os, hG7.tape, hG7.output, hG7.size, hG7.block⟩
        have own7 := own_g HOV.out hG7 (by have := HA.out; omega)
        refine ret_c2 (g := w.heap.size) (t := 69) (cs := #[.int .u8 (st : Nat), .slice kp ks.length kc]) rfl HF.out infoBr rfl ((B7.set 0 _).set 1 _) rfl ⟨kp, kc, rfl, ?_, ?_, ?_⟩
        · exact Joins.ownsRow_le (own7.kept (gb_set (gb_set (World.grownBy.refl w7 (some w.heap.size)) _ _) _ _) (.inr fun e => by have := (own7.lt _ e).1; have := HA.out; omega)) HNE.out.2.2.2.2
        · exact (hR7.set2 HNE.out.2.1).set2 HNE.out.2.1
        · exact gb_new (gb_new (gb_one HGV.out hG7) (Nat.le_refl _) _) (Nat.le_refl _) _
end Rr
end Go.Proofs.YteaionmjbkildabDoor
