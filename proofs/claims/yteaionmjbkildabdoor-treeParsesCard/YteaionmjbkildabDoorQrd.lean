/- The reader of a tree's text: a branch. -/
import Derived.Test.YteaionmjbkildabDoorQrc
import Derived.Test.YteaionmjbkildabDoorQ36
namespace Go.Proofs.YteaionmjbkildabDoor
open Go.RowKit
set_option linter.unusedVariables false
set_option linter.unusedSimpArgs false
set_option maxRecDepth 100000
namespace Pa
theorem brR_no {f : Nat} {acc : List Nat} {r r1 : List UInt8} {n1 : Nat} (hf : r.length ≤ f) (hn : numR 9 0 r = (n1, r1)) (h : ¬ r1.length < r.length) : brR f acc r = ([], false, r1) := by
  cases f with
  | zero =>
    have : r = [] := List.length_eq_zero_iff.1 (by omega)
    subst this
    have e : numR 9 0 [] = (0, []) := rfl
    rw [e] at hn
    obtain ⟨rfl, rfl⟩ := Prod.mk.inj hn
    rfl
  | succ f =>
    unfold brR
    rw [hn, if_neg h]
theorem brR_yes {f : Nat} {acc : List Nat} {r r1 r2 : List UInt8} {n1 : Nat} {b : Bool} (hf : r.length ≤ f) (hn : numR 9 0 r = (n1, r1)) (h : r1.length < r.length) (hs : skR 32 r1 = (b, r2)) : brR f acc r = if b then brR (f - 1) (acc ++ [n1]) r2 else (acc ++ [n1], true, r2) := by
  cases f with
  | zero => omega
  | succ f =>
    conv => lhs; unfold brR
    rw [hn, if_pos h]
    simp only [hs, Nat.add_sub_cancel]
theorem suf_len {r r' : List UInt8} (h : ∃ a, r = a ++ r') : r'.length ≤ r.length := by
  obtain ⟨a, rfl⟩ := h
  simp
end Pa
namespace Rr
theorem kids_snoc (acc : List Nat) (n : Nat) : kidsV (lf (acc ++ [n])) (acc ++ [n]).length = kidsV (lf acc) acc.length ++ [.int .i64 (n : Nat)] := by
  have h : ∀ k, k ≤ acc.length → kidsV (lf (acc ++ [n])) k = kidsV (lf acc) k := by
    intro k hk
    unfold kidsV
    refine List.map_congr_left fun i hi => ?_
    have hi := List.mem_range.1 hi
    unfold lf
    rw [List.getD_eq_getElem?_getD, List.getElem?_append_left (by omega), ← List.getD_eq_getElem?_getD]
  rw [List.length_append, List.length_singleton]
  have e : kidsV (lf (acc ++ [n])) (acc.length + 1) = kidsV (lf (acc ++ [n])) acc.length ++ [.int .i64 (lf (acc ++ [n]) acc.length)] := by
    unfold kidsV
    rw [List.range_succ, List.map_append]
    rfl
  rw [e, h _ (Nat.le_refl _)]
  congr 3
  unfold lf
  simp
theorem own_g {w w' : World} {B g e s n : Nat} {v : Value} {xs : List Value} (h : w.ownsRow B e s v n xs) (hg : w.grownBy w' (some g)) (hB : g < B) : w'.ownsRow B e s v n xs :=
  h.kept hg (.inr fun e => by have := (h.lt g e).1; omega)
/-- Where the reader of the block g stands ahead of its text's end. -/
def lft (x : ByteArray) (g : Nat) (w : World) : Nat := match w.cell? ⟨g, 1, none⟩ with
  | some (.int _ p) => x.size - p.toNat
  | _ => 0
theorem Rd.lft {w : World} {g : Nat} {x : ByteArray} {r : List UInt8} {ns : Bool} (h : Rd w g x r ns) (hs : Pa.Suf x r) : Rr.lft x g w = r.length := by
  unfold Rr.lft
  rw [h.c1]
  have := hs.le
  unfold Pa.po
  simp
  omega
/-- What a branch's loop knows. -/
structure Br (x : ByteArray) (r : List UInt8) (Z : List Nat × Bool × List UInt8) (f : Nat) (acc : List Nat) (rr : List UInt8) : Prop where
  suf : Pa.Suf x rr
  fuel : rr.length ≤ f
  val : Pa.brR f acc rr = Z
  len : acc.length + rr.length ≤ r.length
set_option maxHeartbeats 4000000 in
theorem branchC (g : Nat) (x : ByteArray) (r : List UInt8) (ns : Bool) (ks : List Nat) (B : Bool) (r' : List UInt8) (hN : Hid (Pa.brR r.length [] r = (ks, B, r'))) (hs : Pa.Suf x r) (hz : x.size ≤ 1048576) (w : World) (h : Rd w g x r ns) :
    Calls Tryd.prog 78 #[.pointer (some ⟨g, 0, none⟩)] w fun e w' => ∃ kp kc, e = .returned (.tuple #[.agg #[.int .u8 0, .slice kp ks.length kc], .bool B]) ∧ w'.ownsRow w.heap.size 3 1 (.slice kp ks.length kc) ks.length (kidsV (lf ks) ks.length) ∧ Rd w' g x r' ns ∧ w.grownBy w' (some g) := by
  obtain ⟨fs, hfs⟩ := underBr
  have HF : Hid (Tryd.prog.underlying 69 = some (.struct fs)) := hfs
  clear hfs
  obtain ⟨i0, HI⟩ : ∃ i, Hid (Tryd.prog.info? 3 = some i ∧ i.zero = some (.int .i64 0) ∧ i.size = 1 ∧ i.bytes = 8) := by
    obtain ⟨i, h1, h2, h3, h4⟩ := info_parts infoI
    exact ⟨i, h1, h2, h3, h4⟩
  obtain ⟨W1, hW1, sz1, g1, B1⟩ := boxn w #[.int .u8 0, .slice none 0 0] 69
  obtain ⟨W2, hW2, sz2, g2, B2⟩ := boxn W1 #[.int .u8 0, .slice none 0 0] 69
  have hg0 : g < w.heap.size := h.lt
  have HA : Hid (w.heap.size < W1.heap.size ∧ W1.heap.size < W2.heap.size ∧ g < w.heap.size) := ⟨by have := sz1.out; omega, by have := sz2.out; omega, hg0⟩
  have G2 := gb_trans g1 g2
  have HG0 : Hid (w.grownBy W2 (some g)) := gb_trans' G2 (World.grownBy.refl _ _)
  have HB1 : Hid (Bo W2 w.heap.size 69 #[.int .u8 0, .slice none 0 0]) := B1.kept g2 (by simp)
  have HB2 : Hid (Bo W2 W1.heap.size 69 #[.int .u8 0, .slice none 0 0]) := B2
  have HR0 : Hid (Rd W2 g x r ns) := h.kept G2 (by simp)
  have HS : Hid (Pa.Suf x r) := hs
  clear h hs sz1 sz2 g1 g2 G2 B1 B2 hg0
  go_enter Tryd.func78, Tryd.ntmps78
  go_wp2
  go_loopw [] (fun wr => ∃ (f : Nat) (acc : List Nat) (rr : List UInt8) (kp : Option Addr) (kc : Nat), Hid (Br x r (ks, B, r') f acc rr) ∧ Hid (Rd wr g x rr ns) ∧ Hid (Bo wr w.heap.size 69 #[.int .u8 0, .slice none 0 0]) ∧ Hid (Bo wr W1.heap.size 69 #[.int .u8 0, .slice kp acc.length kc]) ∧ Hid (wr.ownsRow W2.heap.size 3 1 (.slice kp acc.length kc) acc.length (kidsV (lf acc) acc.length)) ∧ Hid (w.grownBy wr (some g)) ∧ Hid (W2.heap.size ≤ wr.heap.size)) (fun wr => Rr.lft x g wr)
  case atStart => exact ⟨r.length, [], r, none, 0, ⟨HS.out, Nat.le_refl _, hN.out, by simp⟩, HR0.out, HB1.out, HB2.out, World.ownsRow_nil _ _ _ _, HG0.out, Nat.le_refl _⟩
  case round =>
    obtain ⟨f, acc, rr, kp, kc, hbr, HR, HX, HY, own, HG, hsz⟩ := hrel
    obtain ⟨⟨n1, r1⟩, hnu⟩ : ∃ Z, Pa.numR 9 0 rr = Z := ⟨_, rfl⟩
    obtain ⟨b1, hb1⟩ : ∃ b, decide (r1.length < rr.length) = b := ⟨_, rfl⟩
    have hn := numberC g x rr ns n1 r1 hnu b1 hb1 hbr.out.suf hz wr HR.out
    have HNU : Hid (Pa.numR 9 0 rr = (n1, r1)) := hnu
    have hs1 : Hid (Pa.Suf x r1) := by have := Pa.numR_suf 9 0 rr; rw [hnu] at this; exact hbr.out.suf.of this
    clear hnu
    cases b1 with
    | false =>
      have e := hbr.out.val
      rw [Pa.brR_no hbr.out.fuel HNU.out (by simpa using hb1)] at e
      simp only [Prod.mk.injEq] at e
      obtain ⟨rfl, rfl, rfl⟩ := e
      have HK : Hid (∀ w1, wr.grownBy w1 (some g) → Bo w1 w.heap.size 69 #[.int .u8 0, .slice none 0 0]) := fun w1 hg => HX.out.kept hg (by have := HA.out; simp; omega)
      clear hb1
      go_wp2_with (first | (go_at_call 84; refine hn.mono ?_; rintro e w1 ⟨rfl, hR1, hG1⟩; have BB := HK.out w1 hG1; have bc0 := BB.cell 0 (v := .int .u8 0) rfl; have bc1 := BB.cell 1 (v := .slice none 0 0) rfl; have bf0 := BB.frozen 0; have bf1 := BB.frozen 1))
      have le : w.heap.size ≤ w.heap.size := Nat.le_refl _
      have hne : w.heap.size ≠ g := by have := HA.out; omega
      have hGG := gb_one HG.out hG1
      refine ret_c2 (g := w.heap.size) (t := 69) (cs := #[.int .u8 0, .slice none 0 0]) rfl HF.out infoBr rfl (by first | exact (BB.set 0 _).set 1 _ | exact BB) rfl ⟨none, 0, rfl, World.ownsRow_nil _ _ _ _, ?_, ?_⟩
      · exact (hR1.set2 hne).set2 hne
      · exact gb_new (gb_new hGG le _) le _
    | true =>
      have hb2 : r1.length < rr.length := of_decide_eq_true hb1
      have hb1 : Hid (r1.length < rr.length) := hb2
      clear hb2
      obtain ⟨⟨b2, r2⟩, hsk⟩ : ∃ Z, Pa.skR 32 r1 = Z := ⟨_, rfl⟩
      have hk := fun w4 hR => skipC g x r1 ns 32 32 rfl b2 r2 hsk hs1.out hz w4 hR
      have HSK : Hid (Pa.skR 32 r1 = (b2, r2)) := hsk
      have HV := hbr.out.val
      rw [Pa.brR_yes hbr.out.fuel HNU.out hb1.out hsk] at HV
      have HV : Hid ((if b2 then Pa.brR (f - 1) (acc ++ [n1]) r2 else (acc ++ [n1], true, r2)) = (ks, B, r')) := HV
      have hlen : Hid (acc.length + 1 + r1.length ≤ r.length ∧ r1.length + 1 ≤ rr.length) := by
        have h1 := hbr.out.len
        have h2 := hb1.out
        exact ⟨by omega, by omega⟩
      have hacc : acc.length ≤ 1048576 := by
        have h1 := hbr.out.len
        have h2 := HS.out.le
        omega
      have HACC : Hid (acc.length ≤ 1048576) := hacc
      clear hsk hacc
      go_wp2_with (first | (go_at_call 84; refine hn.mono ?_; rintro e w1 ⟨rfl, hR1, hG1⟩; refine Hid.out ?_))
      refine Lib.hid ?_
      clear hn
      have X1 := HX.out.kept hG1 (by have := HA.out; simp; omega)
      have Y1 := HY.out.kept hG1 (by have := HA.out; simp; omega)
      have own1 := own_g own.out hG1 (by have := HA.out; omega)
      have y1 := Y1.cell 1 (v := .slice kp acc.length kc) rfl
      obtain ⟨W3, hW3, sz3, g3, B3⟩ := boxn w1 #[.int .i64 (n1 : Nat)] 3
      have own3 := own1.kept g3 (Classical.em _)
      have nw : ∀ l u, [Value.int .i64 (n1 : Nat)][l]? = some u → W3.cell? ((⟨w1.heap.size, 0, none⟩ : Addr).add l) = some u := World.news_of_block (cs := #[.int .i64 (n1 : Nat)]) B3
      have sz23 : W2.heap.size ≤ W3.heap.size := Nat.le_trans hsz.out (Nat.le_trans hG1.size g3.size)
      have hacc := HACC.out
      go_wp2_with (first | (at_builtin; refine wpList_append_lies _ rfl _ _ 63 rfl W2.heap.size 3 i0 (.int .i64 0) 1 8 underIS HI.out.1 HI.out.2.1 HI.out.2.2.1 HI.out.2.2.2 rfl (by decide) _ acc.length _ rfl own3 ⟨w1.heap.size, 0, none⟩ 1 1 [.int .i64 (n1 : Nat)] rfl rfl nw (by intro u hu; simp at hu; rcases hu with rfl; rfl) (by decide) (by unfold maxLen; omega) (by omega) sz23 _ rfl ?_; intro g4 q4 w4 own4 gk4 at4 lt4; refine Hid.out ?_))
      refine Lib.hid ?_
      clear hacc y1
      have hob : ∀ b, (Value.slice kp acc.length kc).ownBlock = some b → W2.heap.size ≤ b := fun b hb => (own3.lt b hb).1
      have X4 := (X1.kept g3 (by simp)).kept gk4 (fun e => by have := hob _ e.symm; have := HA.out; omega)
      have Y4 := (Y1.kept g3 (by simp)).kept gk4 (fun e => by have := hob _ e.symm; have := HA.out; omega)
      have R4 := (hR1.kept g3 (by simp)).kept gk4 (fun e => by have := hob _ e.symm; have := HA.out; omega)
      have G4 : w.grownBy w4 (some g) := (gb_none (gb_one HG.out hG1) g3).andThen gk4 (fun b hb => .inl (by have := hob b hb; have := HA.out; omega))
      have y4 := Y4.cell 1 (v := .slice kp acc.length kc) rfl
      have f4 := Y4.frozen 1
      obtain ⟨W5, hW5⟩ : ∃ W5, w4.setCell ⟨W1.heap.size, 1, none⟩ (.slice (some ⟨g4, 0, none⟩) (acc.length + 1) q4) = W5 := ⟨_, rfl⟩
      have hxy : w.heap.size ≠ W1.heap.size ∧ W1.heap.size ≠ g ∧ w.heap.size ≠ g ∧ w.heap.size ≤ W1.heap.size ∧ w.heap.size ≤ W2.heap.size := by have := HA.out; omega
      have HXY : Hid (w.heap.size ≠ W1.heap.size ∧ W1.heap.size ≠ g ∧ w.heap.size ≠ g ∧ w.heap.size ≤ W1.heap.size ∧ w.heap.size ≤ W2.heap.size) := hxy
      have g45 : w4.grownBy W5 (some W1.heap.size) := hW5 ▸ gb_set (World.grownBy.refl w4 _) _ _
      have el : (acc ++ [n1]).length = acc.length + 1 := by simp
      have HR5 : Hid (Rd W5 g x r1 ns) := hW5 ▸ R4.set2 hxy.2.1
      have HX5 : Hid (Bo W5 w.heap.size 69 #[.int .u8 0, .slice none 0 0]) := hW5 ▸ X4.set2 (Ne.symm hxy.1)
      have HY5 : Hid (Bo W5 W1.heap.size 69 #[.int .u8 0, .slice (some ⟨g4, 0, none⟩) (acc.length + 1) q4]) := hW5 ▸ Y4.set 1 _
      have HO5 : Hid (W5.ownsRow W2.heap.size 3 1 (.slice (some ⟨g4, 0, none⟩) (acc.length + 1) q4) (acc.length + 1) (kidsV (lf acc) acc.length ++ [.int .i64 (n1 : Nat)])) := own4.kept g45 (.inr fun e => by have := (own4.lt _ e).1; have := HA.out; omega)
      have HG5 : Hid (w.grownBy W5 (some g)) := hW5 ▸ gb_new G4 hxy.2.2.2.1 _
      have HZ5 : Hid (W2.heap.size ≤ W5.heap.size) := Nat.le_trans sz23 (Nat.le_trans gk4.size g45.size)
      have hk5 := hk W5 HR5.out
      clear X4 Y4 R4 G4 own4 g45 hk own3 own1 X1 Y1 B3 nw g3 hR1 hG1 gk4 hob sz23 sz3 hW3 at4 lt4 hxy
      cases b2 with
      | false =>
        have e := HV.out
        simp only [Bool.false_eq_true, if_false, Prod.mk.injEq] at e
        obtain ⟨rfl, rfl, rfl⟩ := e
        have HEL : Hid ((acc ++ [n1]).length = acc.length + 1) := el
        clear el
        have HK : Hid (∀ w1, W5.grownBy w1 (some g) → Bo w1 w.heap.size 69 #[.int .u8 0, .slice none 0 0] ∧ Bo w1 W1.heap.size 69 #[.int .u8 0, .slice (some ⟨g4, 0, none⟩) (acc.length + 1) q4]) := fun w1 hg => ⟨HX5.out.kept hg (by have := HA.out; simp; omega), HY5.out.kept hg (by have := HA.out; simp; omega)⟩
        go_wp2_with (first | (go_at_call 75; refine hk5.mono ?_; rintro e w6 ⟨rfl, hR6, hG6⟩; have BB := (HK.out w6 hG6).1; have CC := (HK.out w6 hG6).2; have bc0 := BB.cell 0 (v := .int .u8 0) rfl; have bc1 := BB.cell 1 (v := .slice none 0 0) rfl; have bf0 := BB.frozen 0; have bf1 := BB.frozen 1; have cc0 := CC.cell 0 (v := .int .u8 0) rfl; have cc1 := CC.cell 1 (v := .slice (some ⟨g4, 0, none⟩) (acc.length + 1) q4) rfl))
        have le : w.heap.size ≤ w.heap.size := Nat.le_refl _
        have hne := HXY.out.2.2.1
        have hGG := gb_one HG5.out hG6
        have own6 := own_g HO5.out hG6 (by have := HA.out; omega)
        have sw : ∀ X : World, w6.grownBy X (some w.heap.size) → X.ownsRow w.heap.size 3 1 (.slice (some ⟨g4, 0, none⟩) (acc.length + 1) q4) (acc.length + 1) (kidsV (lf acc) acc.length ++ [.int .i64 (n1 : Nat)]) := fun X hX => Joins.ownsRow_le (own6.kept hX (.inr fun e => by have := (own6.lt _ e).1; have := HA.out; omega)) HXY.out.2.2.2.2
        rw [kids_snoc, HEL.out]
        refine ret_c2 (g := w.heap.size) (t := 69) (cs := #[.int .u8 0, .slice (some ⟨g4, 0, none⟩) (acc.length + 1) q4]) rfl HF.out infoBr rfl ((BB.set 0 _).set 1 _) rfl ⟨some ⟨g4, 0, none⟩, q4, rfl, sw _ (gb_set (gb_set (World.grownBy.refl w6 _) _ _) _ _), ?_, ?_⟩
        · exact (hR6.set2 hne).set2 hne
        · exact gb_new (gb_new hGG le _) le _
      | true =>
        have HEL : Hid ((acc ++ [n1]).length = acc.length + 1) := el
        clear el
        go_wp2_with (first | (go_at_call 75; refine hk5.mono ?_; rintro e w6 ⟨rfl, hR6, hG6⟩))
        have s2 : Pa.Suf x r2 := by have := Pa.skR_suf 32 r1; rw [HSK.out] at this; exact hs1.out.of this
        have l2 : r2.length ≤ r1.length := by have := Pa.suf_len (Pa.skR_suf 32 r1); rw [HSK.out] at this; exact this
        go_roundw
        case rel =>
          refine ⟨f - 1, acc ++ [n1], r2, some ⟨g4, 0, none⟩, q4, ⟨s2, by have := hbr.out.fuel; have := hlen.out; omega, by have := HV.out; simpa using this, by rw [HEL.out]; have := hlen.out; omega⟩, hR6, HX5.out.kept hG6 (by have := HA.out; simp; omega), ?_, ?_, gb_one HG5.out hG6, Nat.le_trans HZ5.out hG6.size⟩
          · rw [HEL.out]
            exact HY5.out.kept hG6 (by have := HA.out; simp; omega)
          · rw [kids_snoc, HEL.out]
            exact own_g HO5.out hG6 (by have := HA.out; omega)
        case measure =>
          show Rr.lft x g w6 < Rr.lft x g wr
          rw [hR6.lft s2, HR.out.lft hbr.out.suf]
          have := hlen.out
          omega
end Rr
end Go.Proofs.YteaionmjbkildabDoor
