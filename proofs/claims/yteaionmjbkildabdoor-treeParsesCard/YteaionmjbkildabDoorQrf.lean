/- The reader of a tree's text: the head. -/
import Derived.Test.YteaionmjbkildabDoorQre
namespace Go.Proofs.YteaionmjbkildabDoor
open Go.RowKit
set_option linter.unusedVariables false
set_option linter.unusedSimpArgs false
set_option maxRecDepth 100000
namespace Rr
/-- Four numbers as cells. -/
def arr4 (l : List Nat) : Array Value := #[.int .i64 (l.getD 0 0 : Nat), .int .i64 (l.getD 1 0 : Nat), .int .i64 (l.getD 2 0 : Nat), .int .i64 (l.getD 3 0 : Nat)]
theorem arr4_set {l : List Nat} {k n : Nat} (h : l.length = k) (hk : k < 4) : (arr4 l).setIfInBounds k (.int .i64 (n : Nat)) = arr4 (l ++ [n]) := by
  match l, h with
  | [], h => subst h; rfl
  | [a], h => subst h; rfl
  | [a, b], h => subst h; rfl
  | [a, b, c], h => subst h; rfl
  | a :: b :: c :: d :: l, h => simp at h; omega
/-- What the head's loop knows. -/
def Hs (Z : List Nat × Bool × List UInt8) (ok : Bool) (acc : List Nat) (rr : List UInt8) : Prop := acc.length ≤ 4 ∧ (ok = true ∧ Pa.hsR (4 - acc.length) acc rr = Z ∨ ok = false ∧ Z = (acc, false, rr))
theorem Hs.step {Z : List Nat × Bool × List UInt8} {acc : List Nat} {rr r2 : List UInt8} {n1 : Nat} {b1 : Bool} (h : Hs Z true acc rr) (hl : acc.length < 4) (hn : Pa.hnR acc.length rr = (n1, b1, r2)) : Hs Z b1 (acc ++ [n1]) r2 := by
  obtain ⟨_, ⟨_, h2⟩ | ⟨h2, _⟩⟩ := h
  · have e : 4 - acc.length = (4 - (acc ++ [n1]).length) + 1 := by rw [List.length_append, List.length_singleton]; omega
    rw [e] at h2
    unfold Pa.hsR at h2
    rw [hn] at h2
    refine ⟨by rw [List.length_append, List.length_singleton]; omega, ?_⟩
    cases b1 with
    | true => exact .inl ⟨rfl, h2⟩
    | false => exact .inr ⟨rfl, h2.symm⟩
  · cases h2
theorem Hs.done {Z : List Nat × Bool × List UInt8} {ok : Bool} {acc : List Nat} {rr : List UInt8} (h : Hs Z ok acc rr) (hl : ok = true → acc.length = 4) : Z = (acc, ok, rr) := by
  obtain ⟨_, ⟨h1, h2⟩ | ⟨h2, h3⟩⟩ := h
  · subst h1
    rw [hl rfl] at h2
    rw [← h2]; rfl
  · subst h2; exact h3
set_option maxHeartbeats 4000000 in
theorem headC (g : Nat) (x : ByteArray) (r : List UInt8) (ns : Bool) (l : List Nat) (B : Bool) (r' : List UInt8) (hN : Hid (Pa.hdR r = (l, B, r'))) (hs : Pa.Suf x r) (hz : x.size ≤ 1048576) (w : World) (h : Rd w g x r ns) :
    Calls Tryd.prog 62 #[.pointer (some ⟨g, 0, none⟩)] w fun e w' => e = .returned (.tuple #[.agg (arr4 l), .bool B]) ∧ Rd w' g x r' ns ∧ w.grownBy w' (some g) := by
  obtain ⟨W1, hW1, sz1, g1, B1⟩ := boxn w #[.int .i64 0, .int .i64 0, .int .i64 0, .int .i64 0] 70
  obtain ⟨W2, hW2, sz2, g2, B2⟩ := boxn W1 #[.int .i64 0, .int .i64 0, .int .i64 0, .int .i64 0] 70
  have hg0 : g < w.heap.size := h.lt
  have HA : Hid (w.heap.size < W1.heap.size ∧ W1.heap.size < W2.heap.size ∧ g < w.heap.size) := ⟨by have := sz1.out; omega, by have := sz2.out; omega, hg0⟩
  have HG2 : Hid (w.grownBy W2 none) := gb_trans g1 g2
  have HX2 : Hid (Bo W2 w.heap.size 70 #[.int .i64 0, .int .i64 0, .int .i64 0, .int .i64 0]) := B1.kept g2 (by simp)
  have HY2 : Hid (Bo W2 W1.heap.size 70 #[.int .i64 0, .int .i64 0, .int .i64 0, .int .i64 0]) := B2
  have R2 : Rd W2 g x r ns := h.kept HG2.out (by simp)
  obtain ⟨⟨b0, r0⟩, hwd⟩ : ∃ Z, Pa.wrdR [116, 114, 101, 101] r = Z := ⟨_, rfl⟩
  have hw2 := wordC g x r ns ⟨#[116, 114, 101, 101]⟩ (by decide) b0 r0 hwd hs hz W2 R2
  have hs0 : Hid (Pa.Suf x r0) := by have := Pa.wrdR_suf [116, 114, 101, 101] r; rw [hwd] at this; exact hs.of this
  obtain ⟨Z, hZ⟩ : ∃ Z, (if b0 then Pa.hsR 4 [] r0 else ([], false, r0)) = Z := ⟨_, rfl⟩
  have HH : Hid (Hs Z b0 [] r0) := by
    refine ⟨by simp, ?_⟩
    cases b0 with
    | true => exact .inl ⟨rfl, hZ⟩
    | false => exact .inr ⟨rfl, hZ.symm⟩
  have HV0 : Hid ((if Z.2.1 then (Z.1, (Pa.skR 10 Z.2.2).1, (Pa.skR 10 Z.2.2).2) else Z) = (l, B, r')) := by
    have e := hN.out
    unfold Pa.hdR at e
    rw [hwd] at e
    unfold Hid
    rw [← e, ← hZ]
    cases b0 <;> rfl
  clear h hs sz1 sz2 g1 g2 B1 B2 hg0 hwd R2 hN hZ
  go_enter Tryd.func62, Tryd.ntmps62
  go_wp2_with (first | (go_at_call 73; refine hw2.mono ?_; rintro e w3 ⟨rfl, hR3, hG3⟩))
  have HX3 : Hid (Bo w3 w.heap.size 70 #[.int .i64 0, .int .i64 0, .int .i64 0, .int .i64 0]) := HX2.out.kept hG3 (by have := HA.out; simp; omega)
  have HY3 : Hid (Bo w3 W1.heap.size 70 #[.int .i64 0, .int .i64 0, .int .i64 0, .int .i64 0]) := HY2.out.kept hG3 (by have := HA.out; simp; omega)
  have HR3 : Hid (Rd w3 g x r0 ns) := hR3
  have HG3 : Hid (w.grownBy w3 (some g)) := gb_trans' HG2.out hG3
  clear hR3 hG3 hw2
  go_loopw [5, 6] (fun v5 v6 wr => ∃ (ok : Bool) (acc : List Nat) (rr : List UInt8), v5 = .bool ok ∧ v6 = .int .i64 (acc.length : Nat) ∧ Hid (Pa.Suf x rr) ∧ Hid (Hs Z ok acc rr) ∧ Hid (Rd wr g x rr ns) ∧ Hid (Bo wr w.heap.size 70 #[.int .i64 0, .int .i64 0, .int .i64 0, .int .i64 0]) ∧ Hid (Bo wr W1.heap.size 70 (arr4 acc)) ∧ Hid (w.grownBy wr (some g))) (fun _ v6 _ => 4 - (intOf v6).toNat)
  case atStart => exact ⟨b0, [], r0, rfl, rfl, hs0.out, HH.out, HR3.out, HX3.out, HY3.out, HG3.out⟩
  case round =>
    obtain ⟨ok, acc, rr, rfl, rfl, hsx, hst, HR, HX, HY, HG⟩ := hrel
    clear HX3 HY3 HR3 HG3 HH HX2 HY2 HG2
    by_cases hc : ok = true ∧ acc.length < 4
    · obtain ⟨rfl, hl4⟩ := hc
      obtain ⟨⟨n1, b1, r2⟩, hnn⟩ : ∃ Z, Pa.hnR acc.length rr = Z := ⟨_, rfl⟩
      have hst2 : Hid (Hs Z b1 (acc ++ [n1]) r2) := hst.out.step hl4 hnn
      have hsx2 : Hid (Pa.Suf x r2) := by have := Pa.hnR_suf acc.length rr; rw [hnn] at this; exact hsx.out.of this
      have hk4 : acc.length = 0 ∨ acc.length = 1 ∨ acc.length = 2 ∨ acc.length = 3 := by omega
      clear hst hl4
      rcases hk4 with hk | hk | hk | hk
      · have e0 : ((acc.length : Nat) : Int) = 0 := by omega
        have hh : Calls Tryd.prog 74 #[.pointer (some ⟨g, 0, none⟩), .int .i64 0] wr fun e w' => e = .returned (.tuple #[.int .i64 (n1 : Nat), .bool b1]) ∧ Rd w' g x r2 ns ∧ wr.grownBy w' (some g) := headNumberC g x rr ns 0 (by decide) n1 b1 r2 (by rw [← hk]; exact hnn) hsx.out hz wr HR.out
        rw [e0]
        have HE : Hid (acc.length = 0) := hk
        have HK : Hid (∀ w1, wr.grownBy w1 (some g) → Bo w1 W1.heap.size 70 (arr4 acc)) := fun w1 hg => HY.out.kept hg (by have := HA.out; simp; omega)
        clear hk e0
        go_wp2_with (first | (go_at_call 74; refine hh.mono ?_; rintro e w1 ⟨rfl, hR1, hG1⟩; have CC := HK.out w1 hG1; have cc := CC.cell 0 (v := .int .i64 (acc.getD 0 0 : Nat)) rfl; have cf := CC.frozen 0))
        go_roundw
        case rel =>
          refine ⟨b1, acc ++ [n1], r2, rfl, by rw [List.length_append, HE.out]; rfl, ?_, ?_, ?_, ?_, ?_, ?_⟩
          · exact hsx2
          · exact hst2
          · exact hR1.set2 (by have := HA.out; omega)
          · exact (HX.out.kept hG1 (by have := HA.out; simp; omega)).set2 (by have := HA.out; omega)
          · have := CC.set 0 (.int .i64 (n1 : Nat))
            rw [arr4_set HE.out (by decide)] at this
            exact this
          · exact gb_new (gb_one HG.out hG1) (Nat.le_of_lt HA.out.1) _
        case measure => simp [intOf]
      · have e0 : ((acc.length : Nat) : Int) = 1 := by omega
        have hh : Calls Tryd.prog 74 #[.pointer (some ⟨g, 0, none⟩), .int .i64 1] wr fun e w' => e = .returned (.tuple #[.int .i64 (n1 : Nat), .bool b1]) ∧ Rd w' g x r2 ns ∧ wr.grownBy w' (some g) := headNumberC g x rr ns 1 (by decide) n1 b1 r2 (by rw [← hk]; exact hnn) hsx.out hz wr HR.out
        rw [e0]
        have HE : Hid (acc.length = 1) := hk
        have HK : Hid (∀ w1, wr.grownBy w1 (some g) → Bo w1 W1.heap.size 70 (arr4 acc)) := fun w1 hg => HY.out.kept hg (by have := HA.out; simp; omega)
        clear hk e0
        go_wp2_with (first | (go_at_call 74; refine hh.mono ?_; rintro e w1 ⟨rfl, hR1, hG1⟩; have CC := HK.out w1 hG1; have cc := CC.cell 1 (v := .int .i64 (acc.getD 1 0 : Nat)) rfl; have cf := CC.frozen 1))
        go_roundw
        case rel =>
          refine ⟨b1, acc ++ [n1], r2, rfl, by rw [List.length_append, HE.out]; rfl, ?_, ?_, ?_, ?_, ?_, ?_⟩
          · exact hsx2
          · exact hst2
          · exact hR1.set2 (by have := HA.out; omega)
          · exact (HX.out.kept hG1 (by have := HA.out; simp; omega)).set2 (by have := HA.out; omega)
          · have := CC.set 1 (.int .i64 (n1 : Nat))
            rw [arr4_set HE.out (by decide)] at this
            exact this
          · exact gb_new (gb_one HG.out hG1) (Nat.le_of_lt HA.out.1) _
        case measure => simp [intOf]
      · have e0 : ((acc.length : Nat) : Int) = 2 := by omega
        have hh : Calls Tryd.prog 74 #[.pointer (some ⟨g, 0, none⟩), .int .i64 2] wr fun e w' => e = .returned (.tuple #[.int .i64 (n1 : Nat), .bool b1]) ∧ Rd w' g x r2 ns ∧ wr.grownBy w' (some g) := headNumberC g x rr ns 2 (by decide) n1 b1 r2 (by rw [← hk]; exact hnn) hsx.out hz wr HR.out
        rw [e0]
        have HE : Hid (acc.length = 2) := hk
        have HK : Hid (∀ w1, wr.grownBy w1 (some g) → Bo w1 W1.heap.size 70 (arr4 acc)) := fun w1 hg => HY.out.kept hg (by have := HA.out; simp; omega)
        clear hk e0
        go_wp2_with (first | (go_at_call 74; refine hh.mono ?_; rintro e w1 ⟨rfl, hR1, hG1⟩; have CC := HK.out w1 hG1; have cc := CC.cell 2 (v := .int .i64 (acc.getD 2 0 : Nat)) rfl; have cf := CC.frozen 2))
        go_roundw
        case rel =>
          refine ⟨b1, acc ++ [n1], r2, rfl, by rw [List.length_append, HE.out]; rfl, ?_, ?_, ?_, ?_, ?_, ?_⟩
          · exact hsx2
          · exact hst2
          · exact hR1.set2 (by have := HA.out; omega)
          · exact (HX.out.kept hG1 (by have := HA.out; simp; omega)).set2 (by have := HA.out; omega)
          · have := CC.set 2 (.int .i64 (n1 : Nat))
            rw [arr4_set HE.out (by decide)] at this
            exact this
          · exact gb_new (gb_one HG.out hG1) (Nat.le_of_lt HA.out.1) _
        case measure => simp [intOf]
      · have e0 : ((acc.length : Nat) : Int) = 3 := by omega
        have hh : Calls Tryd.prog 74 #[.pointer (some ⟨g, 0, none⟩), .int .i64 3] wr fun e w' => e = .returned (.tuple #[.int .i64 (n1 : Nat), .bool b1]) ∧ Rd w' g x r2 ns ∧ wr.grownBy w' (some g) := headNumberC g x rr ns 3 (by decide) n1 b1 r2 (by rw [← hk]; exact hnn) hsx.out hz wr HR.out
        rw [e0]
        have HE : Hid (acc.length = 3) := hk
        have HK : Hid (∀ w1, wr.grownBy w1 (some g) → Bo w1 W1.heap.size 70 (arr4 acc)) := fun w1 hg => HY.out.kept hg (by have := HA.out; simp; omega)
        clear hk e0
        go_wp2_with (first | (go_at_call 74; refine hh.mono ?_; rintro e w1 ⟨rfl, hR1, hG1⟩; have CC := HK.out w1 hG1; have cc := CC.cell 3 (v := .int .i64 (acc.getD 3 0 : Nat)) rfl; have cf := CC.frozen 3))
        go_roundw
        case rel =>
          refine ⟨b1, acc ++ [n1], r2, rfl, by rw [List.length_append, HE.out]; rfl, ?_, ?_, ?_, ?_, ?_, ?_⟩
          · exact hsx2
          · exact hst2
          · exact hR1.set2 (by have := HA.out; omega)
          · exact (HX.out.kept hG1 (by have := HA.out; simp; omega)).set2 (by have := HA.out; omega)
          · have := CC.set 3 (.int .i64 (n1 : Nat))
            rw [arr4_set HE.out (by decide)] at this
            exact this
          · exact gb_new (gb_one HG.out hG1) (Nat.le_of_lt HA.out.1) _
        case measure => simp [intOf]
    · have HZ := hst.out.done (fun e => by have := hst.out.1; rcases Nat.lt_or_ge acc.length 4 with q | q; exact absurd ⟨e, q⟩ hc; omega)
      rw [HZ] at HV0
      have HV : Hid ((if ok = true then (acc, (Pa.skR 10 rr).1, (Pa.skR 10 rr).2) else (acc, ok, rr)) = (l, B, r')) := HV0
      have hlx : ok = true → ¬ ((acc.length : Nat) : Int) < 4 := fun e => by
        intro q
        exact hc ⟨e, by omega⟩
      have HLX : Hid (ok = true → ¬ ((acc.length : Nat) : Int) < 4) := hlx
      clear hlx hc HZ HV0
      have CC := HY.out
      have BB := HX.out
      have cc0 := CC.cell 0 (v := .int .i64 ((acc).getD 0 0 : Nat)) rfl
      have cc1 := CC.cell 1 (v := .int .i64 ((acc).getD 1 0 : Nat)) rfl
      have cc2 := CC.cell 2 (v := .int .i64 ((acc).getD 2 0 : Nat)) rfl
      have cc3 := CC.cell 3 (v := .int .i64 ((acc).getD 3 0 : Nat)) rfl
      have bb0 := BB.cell 0 (v := .int .i64 0) rfl
      have bb1 := BB.cell 1 (v := .int .i64 0) rfl
      have bb2 := BB.cell 2 (v := .int .i64 0) rfl
      have bb3 := BB.cell 3 (v := .int .i64 0) rfl
      have bbf0 := BB.frozen 0
      have bbf1 := BB.frozen 1
      have bbf2 := BB.frozen 2
      have bbf3 := BB.frozen 3
      have HNE : Hid (w.heap.size ≠ g) := by have := HA.out; unfold Hid; omega
      cases ok with
      | false =>
        have e := HV.out
        simp only [Bool.false_eq_true, if_false, Prod.mk.injEq] at e
        obtain ⟨rfl, rfl, rfl⟩ := e
        go_wp2
        go_region
        all_goals
          go_wp2
          refine ret_a2 (g := w.heap.size) (t := 70) (cs := arr4 acc) (el := 3) (n := 4) rfl (by kernel_rfl) (by kernel_rfl) rfl ((((BB.set 0 _).set 1 _).set 2 _).set 3 _) rfl ⟨rfl, ?_, ?_⟩
          · exact (((HR.out.set2 HNE.out).set2 HNE.out).set2 HNE.out).set2 HNE.out
          · exact gb_drew (gb_new (gb_new (gb_new (gb_new HG.out (Nat.le_refl _) _) (Nat.le_refl _) _) (Nat.le_refl _) _) (Nat.le_refl _) _)
      | true =>
        have hlx := HLX.out rfl
        obtain ⟨⟨b2, r2⟩, hsk⟩ : ∃ Z, Pa.skR 10 rr = Z := ⟨_, rfl⟩
        have e := HV.out
        rw [hsk] at e
        simp only [if_true, Prod.mk.injEq] at e
        obtain ⟨rfl, rfl, rfl⟩ := e
        have hk := skipC g x rr ns 10 10 rfl b2 r2 hsk hsx.out hz wr.drew HR.out
        have HK : Hid (∀ w7, wr.drew.grownBy w7 (some g) → Bo w7 w.heap.size 70 #[.int .i64 0, .int .i64 0, .int .i64 0, .int .i64 0] ∧ Bo w7 W1.heap.size 70 (arr4 acc)) := fun w7 hg => ⟨(Bo.dr HX.out).kept hg (by have := HA.out; simp; omega), (Bo.dr HY.out).kept hg (by have := HA.out; simp; omega)⟩
        clear hsk
        go_wp2
        go_region_with (first | (go_at_call 75; refine hk.mono ?_; rintro e w7 ⟨rfl, hR7, hG7⟩; have B7 := (HK.out w7 hG7).1; have C7 := (HK.out w7 hG7).2; have p0 := B7.cell 0 (v := .int .i64 0) rfl; have p1 := B7.cell 1 (v := .int .i64 0) rfl; have p2 := B7.cell 2 (v := .int .i64 0) rfl; have p3 := B7.cell 3 (v := .int .i64 0) rfl; have pf0 := B7.frozen 0; have pf1 := B7.frozen 1; have pf2 := B7.frozen 2; have pf3 := B7.frozen 3; have q0 := C7.cell 0 (v := .int .i64 ((acc).getD 0 0 : Nat)) rfl; have q1 := C7.cell 1 (v := .int .i64 ((acc).getD 1 0 : Nat)) rfl; have q2 := C7.cell 2 (v := .int .i64 ((acc).getD 2 0 : Nat)) rfl; have q3 := C7.cell 3 (v := .int .i64 ((acc).getD 3 0 : Nat)) rfl))
        all_goals
          go_wp2
          have hG7 : wr.grownBy w7 (some g) := ⟨hG7.os, hG7.tape, hG7.output, hG7.size, hG7.block⟩
          refine ret_a2 (g := w.heap.size) (t := 70) (cs := arr4 acc) (el := 3) (n := 4) rfl (by kernel_rfl) (by kernel_rfl) rfl ((((B7.set 0 _).set 1 _).set 2 _).set 3 _) rfl ⟨rfl, ?_, ?_⟩
          · exact (((hR7.set2 HNE.out).set2 HNE.out).set2 HNE.out).set2 HNE.out
          · exact gb_new (gb_new (gb_new (gb_new (gb_one HG.out hG7) (Nat.le_refl _) _) (Nat.le_refl _) _) (Nat.le_refl _) _) (Nat.le_refl _) _
end Rr
end Go.Proofs.YteaionmjbkildabDoor
