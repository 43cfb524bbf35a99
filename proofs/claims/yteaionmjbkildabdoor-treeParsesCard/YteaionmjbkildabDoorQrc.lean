/- The reader of a tree's text: words, a number of the head, a leaf. -/
import Derived.Test.YteaionmjbkildabDoorQrb
import Derived.Test.YteaionmjbkildabDoorQ14
namespace Go.Proofs.YteaionmjbkildabDoor
open Go.RowKit
set_option linter.unusedVariables false
set_option linter.unusedSimpArgs false
set_option maxRecDepth 100000
namespace Rr

theorem Rd.set2 {w : World} {g : Nat} {x : ByteArray} {r : List UInt8} {ns : Bool} (h : Rd w g x r ns) {b i : Nat} {v : Value} (hb : b ≠ g) : Rd (w.setCell ⟨b, i, none⟩ v) g x r ns := Bo.set2 h hb
theorem gb_trans' {w w1 w2 : World} {r : Option Nat} (h : w.grownBy w1 none) (k : w1.grownBy w2 r) : w.grownBy w2 r := gb_trans (⟨h.os, h.tape, h.output, h.size, fun b hb _ => h.block b hb (by simp)⟩ : w.grownBy w1 r) k
theorem gb_one {w w1 w2 : World} {r : Option Nat} (h : w.grownBy w1 r) (k : w1.grownBy w2 r) : w.grownBy w2 r := h.andThen k (fun b hb => .inr hb)
set_option maxHeartbeats 1000000 in
theorem wordC (g : Nat) (x : ByteArray) (r : List UInt8) (ns : Bool) (y : ByteArray) (hy : y.size ≤ 1000) (B : Bool) (r' : List UInt8) (hW : Hid (Pa.wrdR y.data.toList r = (B, r'))) (hs : Pa.Suf x r) (hz : x.size ≤ 1048576) (w : World) (h : Rd w g x r ns) :
    Calls Tryd.prog 73 #[.pointer (some ⟨g, 0, none⟩), .string y] w fun e w' => e = .returned (.bool B) ∧ Rd w' g x r' ns ∧ w.grownBy w' (some g) := by
  have H0 : Hid (Rd w g x r ns) := h
  have HS : Hid (Pa.Suf x r) := hs
  clear h hs
  go_enter Tryd.func73, Tryd.ntmps73
  go_wp2
  go_loopw [8] (fun v wr => ∃ (ws rr : List UInt8), v = .int .i64 (Pa.po y ws : Nat) ∧ Hid (Pa.Suf y ws) ∧ Hid (Pa.Suf x rr) ∧ Hid (Pa.wrdR ws rr = (B, r')) ∧ Hid (Rd wr g x rr ns) ∧ Hid (w.grownBy wr (some g))) (fun v _ => y.size - (intOf v).toNat)
  case atStart => exact ⟨y.data.toList, r, by rw [Pa.po_all]; rfl, Pa.Suf.all y, HS.out, hW.out, H0.out, World.grownBy.refl _ _⟩
  case round =>
    obtain ⟨ws, rr, rfl, hsy, hsx, hw, HR, HG⟩ := hrel
    cases ws with
    | nil =>
      have e : (true, rr) = (B, r') := hw.out
      obtain ⟨rfl, rfl⟩ := Prod.mk.inj e
      clear e
      rw [Pa.po_nil]
      go_wp2
      go_ret
      exact ⟨rfl, HR.out, HG.out⟩
    | cons c ws =>
      obtain ⟨h1, h2⟩ := Pa.po_cons hsy.out
      have hb := Pa.po_at hsy.out h1
      obtain ⟨⟨b1, r1⟩, hsk⟩ : ∃ Z, Pa.skR c rr = Z := ⟨_, rfl⟩
      have hk := fun bn hbn => skipC g x rr ns c bn hbn b1 r1 hsk hsx.out hz wr HR.out
      obtain ⟨p, hp⟩ : ∃ p, Pa.po y (c :: ws) = p := ⟨_, rfl⟩
      have h3 : p < y.size := hp ▸ h1
      have hb2 : (y[p]'h3).toNat = c.toNat := by rw [← hb]; congr 1; simp [hp]
      have h4 : (p : Int) < (y.size : Int) := by omega
      have hk := hk (c.toNat : Int) rfl
      rw [hp] at h2 ⊢
      have HQ : Hid (Pa.po y ws = p + 1) := h2
      have HSK : Hid (Pa.skR c rr = (b1, r1)) := hsk
      have HY : Hid (y.size ≤ 1000) := hy
      clear hb hp h1 h2 hsk
      obtain ⟨cn, hcn⟩ : ∃ cn, c.toNat = cn := ⟨_, rfl⟩
      rw [hcn] at hb2 hk
      clear hcn
      have hw1 : IntKind.i64.wrap ((p : Int) + 1) = ((p + 1 : Nat) : Int) := by rw [IntKind.wrap_i64]; have := HY.out; omega
      cases b1 with
      | false =>
        have e : (false, r1) = (B, r') := by rw [← hw.out, Pa.wrdR, HSK.out]; rfl
        obtain ⟨rfl, rfl⟩ := Prod.mk.inj e
        clear e
        go_wp2_with (first | (go_at_call 75; refine hk.mono ?_; rintro e w1 ⟨rfl, hR1, hG1⟩))
        go_ret
        exact ⟨rfl, hR1, gb_one HG.out hG1⟩
      | true =>
        have e : Hid (Pa.wrdR ws r1 = (B, r')) := by have := hw.out; rw [Pa.wrdR, HSK.out] at this; exact this
        go_wp2_with (first | (go_at_call 75; refine hk.mono ?_; rintro e w1 ⟨rfl, hR1, hG1⟩))
        go_roundw
        case rel =>
          refine ⟨ws, r1, ?_, hsy.out.tail, ?_, e, hR1, gb_one HG.out hG1⟩
          · rw [HQ.out]; go_num
          · have := Pa.skR_suf c rr
            rw [HSK.out] at this
            exact hsx.out.of this
        case measure => simp [intOf]; omega

set_option maxHeartbeats 1000000 in
theorem headNumberC (g : Nat) (x : ByteArray) (r : List UInt8) (ns : Bool) (k : Nat) (hk : k < 4) (n' : Nat) (B : Bool) (r' : List UInt8) (hN : Hid (Pa.hnR k r = (n', B, r'))) (hs : Pa.Suf x r) (hz : x.size ≤ 1048576) (w : World) (h : Rd w g x r ns) :
    Calls Tryd.prog 74 #[.pointer (some ⟨g, 0, none⟩), .int .i64 (k : Nat)] w fun e w' => e = .returned (.tuple #[.int .i64 (n' : Nat), .bool B]) ∧ Rd w' g x r' ns ∧ w.grownBy w' (some g) := by
  obtain ⟨⟨b1, r1⟩, hsk⟩ : ∃ Z, Pa.skR 32 r = Z := ⟨_, rfl⟩
  have hsk1 := skipC g x r ns 32 32 rfl b1 r1 hsk hs hz w h
  have hs1 : Pa.Suf x r1 := by have := Pa.skR_suf 32 r; rw [hsk] at this; exact hs.of this
  have HN := hN.out
  unfold Pa.hnR at HN
  rw [hsk] at HN
  simp only at HN
  clear h hN hsk
  cases b1 with
  | false =>
    simp at HN
    obtain ⟨rfl, rfl, rfl⟩ := HN
    go_enter Tryd.func74, Tryd.ntmps74
    go_wp2_with (first | (go_at_call 75; refine hsk1.mono ?_; rintro e w1 ⟨rfl, hR1, hG1⟩))
    go_ret2
    exact ⟨rfl, hR1, hG1⟩
  | true =>
    simp only [if_true] at HN
    obtain ⟨⟨n1, r2⟩, hnu⟩ : ∃ Z, Pa.numR 9 0 r1 = Z := ⟨_, rfl⟩
    obtain ⟨B1, hB1⟩ : ∃ B1, decide (r2.length < r1.length) = B1 := ⟨_, rfl⟩
    have hn := fun w1 hR => numberC g x r1 ns n1 r2 hnu B1 hB1 hs1 hz w1 hR
    rw [hnu] at HN
    simp only at HN
    have HN2 : (if B1 = true ∧ k = 2 ∧ 65536 < n1 then (n1, false, r1) else (n1, B1, r2)) = (n', B, r') := by
      rw [← HN, ← hB1]
      by_cases e : r2.length < r1.length <;> simp [e]
    clear HN hnu hs hs1 hB1
    have HH : Hid ((if B1 = true ∧ k = 2 ∧ 65536 < n1 then (n1, false, r1) else (n1, B1, r2)) = (n', B, r')) := HN2
    clear HN2
    have ARM : True := trivial
    by_cases c1 : B1 = true
    · subst c1
      by_cases c2 : k = 2
      · subst c2
        by_cases c3 : 65536 < n1
        · have c3' : (65536 : Int) < (n1 : Int) := by omega
          have e := HH.out
          rw [if_pos ⟨rfl, rfl, c3⟩] at e
          simp only [Prod.mk.injEq] at e
          obtain ⟨rfl, rfl, rfl⟩ := e
          clear HH c3
          go_enter Tryd.func74, Tryd.ntmps74
          go_wp2_with (first | (go_at_call 75; refine hsk1.mono ?_; rintro e w1 ⟨rfl, hR1, hG1⟩; have rc1 := hR1.c1) | (go_at_call 84; refine (hn _ hR1).mono ?_; rintro e w2 ⟨rfl, hR2, hG2⟩; have ry1 := hR2.c1; have rz1 := hR2.fz 1))
          go_ret2
          exact ⟨rfl, hR2.set r1, gb_set (gb_one hG1 hG2) _ _⟩
        · have c3' : ¬ (65536 : Int) < (n1 : Int) := by omega
          have e := HH.out
          rw [if_neg (fun q => c3 q.2.2)] at e
          simp only [Prod.mk.injEq] at e
          obtain ⟨rfl, rfl, rfl⟩ := e
          clear HH c3
          go_enter Tryd.func74, Tryd.ntmps74
          go_wp2_with (first | (go_at_call 75; refine hsk1.mono ?_; rintro e w1 ⟨rfl, hR1, hG1⟩; have rc1 := hR1.c1) | (go_at_call 84; refine (hn _ hR1).mono ?_; rintro e w2 ⟨rfl, hR2, hG2⟩))
          go_ret2
          exact ⟨rfl, hR2, gb_one hG1 hG2⟩
      · have c2' : ((k : Int) == 2) = false := by simp; omega
        have e := HH.out
        rw [if_neg (fun q => c2 q.2.1)] at e
        simp only [Prod.mk.injEq] at e
        obtain ⟨rfl, rfl, rfl⟩ := e
        clear HH c2
        go_enter Tryd.func74, Tryd.ntmps74
        go_wp2_with (first | (go_at_call 75; refine hsk1.mono ?_; rintro e w1 ⟨rfl, hR1, hG1⟩; have rc1 := hR1.c1) | (go_at_call 84; refine (hn _ hR1).mono ?_; rintro e w2 ⟨rfl, hR2, hG2⟩))
        go_ret2
        exact ⟨rfl, hR2, gb_one hG1 hG2⟩
    · obtain rfl : B1 = false := by simpa using c1
      have e := HH.out
      rw [if_neg (fun q => c1 q.1)] at e
      simp only [Prod.mk.injEq] at e
      obtain ⟨rfl, rfl, rfl⟩ := e
      clear HH c1
      go_enter Tryd.func74, Tryd.ntmps74
      go_wp2_with (first | (go_at_call 75; refine hsk1.mono ?_; rintro e w1 ⟨rfl, hR1, hG1⟩; have rc1 := hR1.c1) | (go_at_call 84; refine (hn _ hR1).mono ?_; rintro e w2 ⟨rfl, hR2, hG2⟩))
      go_ret2
      exact ⟨rfl, hR2, gb_one hG1 hG2⟩

theorem underBr : ∃ fs, Tryd.prog.underlying 69 = some (.struct fs) := ⟨_, Tryd.underlying69⟩
theorem infoBr : (Tryd.prog.info? 69).map (·.size) = some 2 := by kernel_rfl
set_option maxHeartbeats 1000000 in
theorem leafC (g : Nat) (x : ByteArray) (r : List UInt8) (ns : Bool) (hd : Hid (r.head? = some 61)) (st : Nat) (ks : List Nat) (big B : Bool) (r' : List UInt8) (hN : Hid (Pa.lnR r = ((st, ks), big, B, r'))) (hs : Pa.Suf x r) (hz : x.size ≤ 1048576) (w : World) (h : Rd w g x r ns) :
    Calls Tryd.prog 77 #[.pointer (some ⟨g, 0, none⟩)] w fun e w' => ks = [] ∧ e = .returned (.tuple #[.agg #[.int .u8 (st : Nat), .slice none 0 0], .bool B]) ∧ Rd w' g x r' (ns || big) ∧ w.grownBy w' (some g) := by
  obtain ⟨⟨b1, r1⟩, hsk⟩ : ∃ Z, Pa.wrdR [61, 32] r = Z := ⟨_, rfl⟩
  obtain ⟨fs, hfs⟩ := underBr
  have HF : Hid (Tryd.prog.underlying 69 = some (.struct fs)) := hfs
  clear hfs
  obtain ⟨W1, hW1, sz1, g1, B1⟩ := boxn w #[.int .u8 0, .slice none 0 0] 69
  have hne : g ≠ w.heap.size := Nat.ne_of_lt h.lt
  have hw1 := wordC g x r ns ⟨#[61, 32]⟩ (by decide) b1 r1 hsk hs hz W1 (h.kept g1 (by simp))
  have hs1 : Pa.Suf x r1 := by have := Pa.wrdR_suf [61, 32] r; rw [hsk] at this; exact hs.of this
  have HN := hN.out
  unfold Pa.lnR at HN
  rw [if_pos hd.out, hsk] at HN
  simp only at HN
  have c0 := B1.cell 0 (v := .int .u8 0) rfl
  have c1 := B1.cell 1 (v := .slice none 0 0) rfl
  have f0 := B1.frozen 0
  have f1 := B1.frozen 1
  clear h hN hsk hd
  cases b1 with
  | false =>
    simp at HN
    obtain ⟨⟨rfl, rfl⟩, rfl, rfl, rfl⟩ := HN
    rw [Bool.or_false]
    have HB1 : Hid (Bo W1 w.heap.size 69 #[.int .u8 0, .slice none 0 0]) := B1
    have HG1 : Hid (w.grownBy W1 none) := g1
    clear B1 g1
    go_enter Tryd.func77, Tryd.ntmps77
    go_wp2_with (first | (go_at_call 73; refine hw1.mono ?_; rintro e w2 ⟨rfl, hR1, hG2⟩; have BB := HB1.out.kept hG2 (by simp; exact fun e => hne e.symm); have bc0 := BB.cell 0 (v := .int .u8 0) rfl; have bc1 := BB.cell 1 (v := .slice none 0 0) rfl; have bf0 := BB.frozen 0; have bf1 := BB.frozen 1))
    have le : w.heap.size ≤ w.heap.size := Nat.le_refl _
    have hG1 := gb_trans' HG1.out hG2
    refine ret_c2 (g := w.heap.size) (t := 69) (cs := #[.int .u8 0, .slice none 0 0]) rfl HF.out infoBr rfl (by first | exact (BB.set 0 _).set 1 _ | exact BB) rfl ⟨by trivial, rfl, ?_, ?_⟩
    · exact (hR1.set2 (Ne.symm hne)).set2 (Ne.symm hne)
    · exact gb_new (gb_new hG1 le _) le _
  | true =>
    simp only [if_true] at HN
    obtain ⟨⟨n1, r2⟩, hnu⟩ : ∃ Z, Pa.numR 9 0 r1 = Z := ⟨_, rfl⟩
    obtain ⟨B2, hB2⟩ : ∃ B2, decide (r2.length < r1.length) = B2 := ⟨_, rfl⟩
    have hn := fun w1 hR => numberC g x r1 ns n1 r2 hnu B2 hB2 hs1 hz w1 hR
    rw [hnu] at HN
    simp only [hB2, Prod.mk.injEq] at HN
    obtain ⟨⟨rfl, rfl⟩, hbig, rfl, rfl⟩ := HN
    clear hnu hs hs1 hB2
    have HB1 : Hid (Bo W1 w.heap.size 69 #[.int .u8 0, .slice none 0 0]) := B1
    have HG1 : Hid (w.grownBy W1 none) := g1
    have m1 : IntKind.u8.wrap (n1 : Int) = ((n1 % 256 : Nat) : Int) := by rw [IntKind.wrap_u8]; omega
    have HM : Hid (n1 % 256 < 256) := Nat.mod_lt _ (by decide)
    obtain ⟨nm, hnm⟩ : ∃ nm, n1 % 256 = nm := ⟨_, rfl⟩
    rw [hnm] at m1 HM ⊢
    clear hnm B1 g1
    by_cases c5 : 256 ≤ n1
    · have c5' : (256 : Int) ≤ (n1 : Int) := by omega
      obtain rfl : big = true := by rw [← hbig]; exact decide_eq_true c5
      rw [Bool.or_true]
      clear hbig c5
      go_enter Tryd.func77, Tryd.ntmps77
      go_wp2_with (first | (go_at_call 73; refine hw1.mono ?_; rintro e w2 ⟨rfl, hR1, hG2⟩) | (go_at_call 84; refine (hn _ hR1).mono ?_; rintro e w3 ⟨rfl, hR2, hG3⟩; have BB := (HB1.out.kept hG2 (by simp; exact fun e => hne e.symm)).kept hG3 (by simp; exact fun e => hne e.symm); have bc0 := BB.cell 0 (v := .int .u8 0) rfl; have bc1 := BB.cell 1 (v := .slice none 0 0) rfl; have bf0 := BB.frozen 0; have bf1 := BB.frozen 1; have rm2 := hR2.c2; have rf2 := hR2.fz 2; have hne2 := hne; have hne3 := Ne.symm hne))
      have le : w.heap.size ≤ w.heap.size := Nat.le_refl _
      have hG1 := gb_one (gb_trans' HG1.out hG2) hG3
      refine ret_c2 (g := w.heap.size) (t := 69) (cs := #[.int .u8 (nm : Nat), .slice none 0 0]) rfl HF.out infoBr rfl (((BB.set2 hne).set 0 _).set 1 _) rfl ⟨by trivial, rfl, ?_, ?_⟩
      · exact ((Rd.mark hR2).set2 (Ne.symm hne)).set2 (Ne.symm hne)
      · exact gb_new (gb_new (gb_set hG1 _ _) le _) le _
    · have c5' : ¬ (256 : Int) ≤ (n1 : Int) := by omega
      obtain rfl : big = false := by rw [← hbig]; exact decide_eq_false c5
      rw [Bool.or_false]
      clear hbig c5
      go_enter Tryd.func77, Tryd.ntmps77
      go_wp2_with (first | (go_at_call 73; refine hw1.mono ?_; rintro e w2 ⟨rfl, hR1, hG2⟩) | (go_at_call 84; refine (hn _ hR1).mono ?_; rintro e w3 ⟨rfl, hR2, hG3⟩; have BB := (HB1.out.kept hG2 (by simp; exact fun e => hne e.symm)).kept hG3 (by simp; exact fun e => hne e.symm); have bc0 := BB.cell 0 (v := .int .u8 0) rfl; have bc1 := BB.cell 1 (v := .slice none 0 0) rfl; have bf0 := BB.frozen 0; have bf1 := BB.frozen 1))
      have le : w.heap.size ≤ w.heap.size := Nat.le_refl _
      have hG1 := gb_one (gb_trans' HG1.out hG2) hG3
      refine ret_c2 (g := w.heap.size) (t := 69) (cs := #[.int .u8 (nm : Nat), .slice none 0 0]) rfl HF.out infoBr rfl ((BB.set 0 _).set 1 _) rfl ⟨by trivial, rfl, ?_, ?_⟩
      · exact (hR2.set2 (Ne.symm hne)).set2 (Ne.symm hne)
      · exact gb_new (gb_new hG1 le _) le _
end Rr
end Go.Proofs.YteaionmjbkildabDoor
