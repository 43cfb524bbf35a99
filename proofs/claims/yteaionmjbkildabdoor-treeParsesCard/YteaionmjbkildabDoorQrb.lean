/- The reader of a tree's text: numbers, words. -/
import Derived.Test.YteaionmjbkildabDoorQra
namespace Go.Proofs.YteaionmjbkildabDoor
open Go.RowKit
set_option linter.unusedVariables false
set_option linter.unusedSimpArgs false
set_option maxRecDepth 100000
namespace Rr

/-- What a number's loop knows. -/
structure Nu (x : ByteArray) (r : List UInt8) (Z : Nat × List UInt8) (k n : Nat) (rr : List UInt8) : Prop where
  le : k ≤ 9
  suf : Pa.Suf x rr
  po : Pa.po x rr = Pa.po x r + k
  val : Pa.numR (9 - k) n rr = Z
  lt : n < 10 ^ k
theorem Nu.start {x : ByteArray} {r : List UInt8} (h : Pa.Suf x r) : Nu x r (Pa.numR 9 0 r) 0 0 r := ⟨by omega, h, rfl, rfl, by decide⟩
theorem pow9 {k n : Nat} (h : k ≤ 9) (hn : n < 10 ^ k) : n < 1000000000 := Nat.lt_of_lt_of_le hn (Nat.pow_le_pow_right (n := 10) (by decide) h)
theorem Nu.stop {x : ByteArray} {r rr : List UInt8} {Z : Nat × List UInt8} {k n : Nat} (h : Nu x r Z k n rr) (hd : Pa.hasD rr = false) : Z = (n, rr) := by
  rw [← h.val]; exact Pa.numR_stop hd _ _
theorem Nu.full {x : ByteArray} {r rr : List UInt8} {Z : Nat × List UInt8} {n : Nat} (h : Nu x r Z 9 n rr) : Z = (n, rr) := by
  rw [← h.val]; rfl
theorem Nu.next {x : ByteArray} {r rr : List UInt8} {Z : Nat × List UInt8} {c : UInt8} {k n : Nat} (h : Nu x r Z k n (c :: rr)) (hd : Pa.dgB c = true) (hk : k < 9) (h0 : 10 * n + (c.toNat - 48) ≠ 0) : Nu x r Z (k + 1) (10 * n + (c.toNat - 48)) rr := by
  have hp := Pa.po_cons h.suf
  refine ⟨hk, h.suf.tail, by rw [hp.2, h.po]; omega, ?_, ?_⟩
  · rw [← h.val]
    have e : 9 - k = (9 - (k + 1)) + 1 := by omega
    rw [e, Pa.numR_more _ _ _ _ hd h0]
  · have := h.lt
    have hd' : 48 ≤ c.toNat ∧ c.toNat ≤ 57 := by simpa [Pa.dgB] using hd
    rw [Nat.pow_succ]
    omega
theorem Nu.zero {x : ByteArray} {r rr : List UInt8} {Z : Nat × List UInt8} {c : UInt8} {k n : Nat} (h : Nu x r Z k n (c :: rr)) (hd : Pa.dgB c = true) (hk : k < 9) (h0 : 10 * n + (c.toNat - 48) = 0) : Z = (0, rr) := by
  rw [← h.val]
  have e : 9 - k = (8 - k) + 1 := by omega
  rw [e, Pa.numR_zero _ _ _ _ hd h0]
set_option maxHeartbeats 2000000 in
theorem numberC (g : Nat) (x : ByteArray) (r : List UInt8) (ns : Bool) (n' : Nat) (r' : List UInt8) (hN : Hid (Pa.numR 9 0 r = (n', r'))) (B : Bool) (hB : Hid (decide (r'.length < r.length) = B)) (hs : Pa.Suf x r) (hz : x.size ≤ 1048576) (w : World) (h : Rd w g x r ns) :
    Calls Tryd.prog 84 #[.pointer (some ⟨g, 0, none⟩)] w fun e w' => e = .returned (.tuple #[.int .i64 (n' : Nat), .bool B]) ∧ Rd w' g x r' ns ∧ w.grownBy w' (some g) := by
  have x1 := h.c1
  have H0 : Hid (Rd w g x r ns) := h
  have hnu : Nu x r (n', r') 0 0 r := hN.out ▸ Nu.start hs
  clear h
  go_enter Tryd.func84, Tryd.ntmps84
  go_wp2
  clear x1
  go_loopw [5] (fun v wr => ∃ (k n : Nat) (rr : List UInt8), v = .int .i64 (n : Nat) ∧ Nu x r (n', r') k n rr ∧ Rd wr g x rr ns ∧ w.grownBy wr (some g) ∧ Hid (k = 9 - (9 - k))) (fun v _ => 1000000000 - (intOf v).toNat)
  case atStart => exact ⟨0, 0, r, rfl, hnu, H0.out, World.grownBy.refl _ _, rfl⟩
  case round =>
    clear hnu
    obtain ⟨k, n, rr, rfl, hu, HR, HG, -⟩ := hrel
    have x0 := HR.c0
    have x1 := HR.c1
    have hda := fun B hB => digitC g x rr ns B hB hu.suf hz wr HR
    cases hd : Pa.hasD rr with
    | false =>
      have hdg := hda false hd
      clear hda
      obtain ⟨rfl, rfl⟩ := Prod.mk.inj (hu.stop hd)
      have hsf := hu.suf
      clear hd hu x0
      go_wp2_with (first | (go_at_call 90; refine hdg.mono ?_; rintro e w1 ⟨rfl, kk, rfl⟩))
      have HR := Rd.drew (k := kk) HR
      have HG := gb_drewN HG kk
      have HT : Hid (decide (Pa.po x r < Pa.po x r') = B) := by
        rw [← hB.out]
        exact decide_eq_decide.2 (Pa.po_inj hs hsf)
      clear hs
      have HRR : Hid (Rd _ g x _ ns) := HR
      have HGG : Hid (w.grownBy _ (some g)) := HG
      clear HR HG
      generalize hpr : Pa.po x r = p0 at *
      generalize hpq : Pa.po x r' = p1 at *
      go_wp2
      go_quiet (fail)
      go_wp2
      go_ret2
      refine ⟨?_, Rd.drew HRR.out, gb_drewN HGG.out _⟩
      rw [← HT.out]
      first
        | rfl
        | simp
    | true =>
      have hdg := hda true hd
      clear hda
      cases rr with
      | nil => cases hd
      | cons c r2 =>
        have hc : Pa.dgB c = true := hd
        have hp := hu.po
        have hlt := Pa.po_cons hu.suf
        have hw1 : IntKind.i64.wrap (((Pa.po x (c :: r2) : Nat) : Int) - ((Pa.po x r : Nat) : Int)) = ((k : Nat) : Int) := by
          rw [IntKind.wrap_i64]; omega
        by_cases h9 : k = 9
        · subst h9
          obtain ⟨rfl, rfl⟩ := Prod.mk.inj hu.full
          have hsf := hu.suf
          clear hd hu x0 hp hlt hc
          go_wp2_with (first | (go_at_call 90; refine hdg.mono ?_; rintro e w1 ⟨rfl, kk, rfl⟩))
          have HR := Rd.drew (k := kk) HR
          have HG := gb_drewN HG kk
          clear hw1 hdg
          have HT : Hid (decide (Pa.po x r < Pa.po x (c :: r2)) = B) := by
            rw [← hB.out]
            exact decide_eq_decide.2 (Pa.po_inj hs hsf)
          clear hs
          have HRR : Hid (Rd _ g x _ ns) := HR
          have HGG : Hid (w.grownBy _ (some g)) := HG
          clear HR HG
          generalize hpr : Pa.po x r = p0 at *
          generalize hpq : Pa.po x (c :: r2) = p1 at *
          go_wp2
          go_quiet (fail)
          go_wp2
          go_ret2
          refine ⟨?_, Rd.drew HRR.out, gb_drewN HGG.out _⟩
          rw [← HT.out]
          first
            | rfl
            | simp
        · have hk9 : k < 9 := by have := hu.le; omega
          have hk9' : (k : Int) < 9 := by omega
          have hn := pow9 hu.le hu.lt
          have hc' : 48 ≤ c.toNat ∧ c.toNat ≤ 57 := by simpa [Pa.dgB] using hc
          have hb := Pa.po_at hu.suf hlt.1
          have hw2 : IntKind.i64.wrap (((Pa.po x (c :: r2) : Nat) : Int) + 1) = ((Pa.po x r2 : Nat) : Int) := by
            rw [IntKind.wrap_i64]; omega
          have hlt1 := hlt.1
          have HLT : Hid (Pa.po x (c :: r2) < x.size ∧ Pa.po x r2 = Pa.po x (c :: r2) + 1) := hlt
          have y1 := HR.fz 1
          have HRH : Hid (Rd wr g x (c :: r2) ns) := HR
          have HGH : Hid (w.grownBy wr (some g)) := HG
          have HU : Hid (Nu x r (n', r') k n (c :: r2)) := hu
          have HS : Hid (Pa.Suf x r) := hs
          have HC : Hid (Pa.dgB c = true) := hc
          have HK : Hid (k < 9) := hk9
          obtain ⟨cn, hcn⟩ : ∃ cn, c.toNat = cn := ⟨_, rfl⟩
          have HCN : Hid (c.toNat = cn) := hcn
          rw [hcn] at hb hc'
          obtain ⟨p, hp2⟩ : ∃ p, Pa.po x (c :: r2) = p := ⟨_, rfl⟩
          obtain ⟨q, hq2⟩ : ∃ q, Pa.po x r2 = q := ⟨_, rfl⟩
          have HP : Hid (Pa.po x (c :: r2) = p ∧ Pa.po x r2 = q) := ⟨hp2, hq2⟩
          have h2 : p < x.size := hp2 ▸ hlt1
          have hb2 : (x[p]'h2).toNat = cn := by rw [← hb]; congr 1; simp [hp2]
          have h3 : (p : Int) < (x.size : Int) := by omega
          rw [hp2] at x1 hw1 hw2
          rw [hq2] at hw2
          clear hb hlt hlt1 hp hd hu hc hk9 hs HR HG hcn hp2 hq2
          obtain ⟨d, hd⟩ : ∃ d, cn - 48 = d := ⟨_, rfl⟩
          obtain ⟨t, ht⟩ : ∃ t, 10 * n = t := ⟨_, rfl⟩
          have m1 : IntKind.i64.wrap (10 * (n : Int)) = ((t : Nat) : Int) := by rw [IntKind.wrap_i64]; omega
          have m2 : IntKind.u8.wrap ((cn : Int) - 48) = ((d : Nat) : Int) := by rw [IntKind.wrap_u8]; omega
          have m3 : IntKind.i64.wrap ((d : Nat) : Int) = ((d : Nat) : Int) := by rw [IntKind.wrap_i64]; omega
          have m4 : IntKind.i64.wrap (((t : Nat) : Int) + ((d : Nat) : Int)) = (((t + d : Nat)) : Int) := by rw [IntKind.wrap_i64]; omega
          have HV : Hid (10 * n + (c.toNat - 48) = t + d) := by have := HCN.out; unfold Hid; omega
          clear hc' hd ht
          obtain ⟨u, hu⟩ : ∃ u, t + d = u := ⟨_, rfl⟩
          rw [hu] at m4
          have HV2 : Hid (10 * n + (c.toNat - 48) = u) := by rw [← hu]; exact HV
          clear HV hu
          cases h0 : ((u : Int) == 0) with
          | true =>
            obtain rfl : u = 0 := by simpa using h0
            obtain ⟨rfl, rfl⟩ := Prod.mk.inj (HU.out.zero HC.out HK.out HV2.out)
            have hq : Pa.po x r' = q := HP.out.2
            have HT : Hid (decide (Pa.po x r < q) = B) := by
              rw [← hB.out, ← hq]
              exact decide_eq_decide.2 (Pa.po_inj HS.out HU.out.suf.tail)
            clear h0 hq
            generalize hpr : Pa.po x r = p0 at *
            go_wp2_with (first | (go_at_call 90; refine hdg.mono ?_; rintro e w1 ⟨rfl, kk, rfl⟩))
            go_quiet (fail)
            go_wp2
            obtain ⟨W1, hW1⟩ : ∃ W1, (wr.drewN (kk + nq)).setCell ⟨g, 1, none⟩ (.int .i64 (q : Nat)) = W1 := ⟨_, rfl⟩
            rw [hW1]
            have R1 : Rd W1 g x r' ns := by
              rw [← hW1, ← HP.out.2]
              exact Rd.set (w := wr.drewN (kk + nq)) (Rd.drew HRH.out) r'
            have z1 := R1.c1
            rw [HP.out.2] at z1
            have HG1 : Hid (w.grownBy W1 (some g)) := hW1 ▸ gb_set (gb_drewN HGH.out _) _ _
            have HR1 : Hid (Rd W1 g x r' ns) := R1
            clear hW1 R1 x0 x1 y1
            go_quiet (fail)
            go_wp2
            go_ret2
            refine ⟨?_, Rd.drew HR1.out, gb_drewN HG1.out _⟩
            rw [← HT.out]
            first
              | rfl
              | simp
          | false =>
            go_wp2_with (first | (go_at_call 90; refine hdg.mono ?_; rintro e w1 ⟨rfl, kk, rfl⟩))
            go_quiet (fail)
            go_wp2
            go_roundw
            case rel =>
              have h00 : u ≠ 0 := by intro e; subst e; simp at h0
              have hx := Nu.next HU.out HC.out HK.out (by rw [HV2.out]; exact h00)
              rw [HV2.out] at hx
              refine ⟨k + 1, u, r2, rfl, hx, ?_, ?_, by unfold Hid; have := HK.out; omega⟩
              · rw [← HP.out.2]
                exact Rd.set (w := wr.drewN (kk + nq)) (Rd.drew HRH.out) r2
              · exact gb_set (gb_drewN HGH.out _) _ _
            case measure =>
              have h00 : u ≠ 0 := by intro e; subst e; simp at h0
              have hx := Nu.next HU.out HC.out HK.out (by rw [HV2.out]; exact h00)
              have h1 := pow9 hx.le hx.lt
              have h2 := HV2.out
              rw [h2] at h1
              simp [intOf]
              omega
end Rr
end Go.Proofs.YteaionmjbkildabDoor
