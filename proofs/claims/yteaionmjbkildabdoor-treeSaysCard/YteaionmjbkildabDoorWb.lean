/- The reader of a tree's text: small functions. -/
import Derived.Test.YteaionmjbkildabDoorWa
import Derived.Test.YteaionmjbkildabDoorBo
import Derived.Test.YteaionmjbkildabDoorMem
import Derived.Test.YteaionmjbkildabDoorQ1
import Derived.Lib.Hide
import Derived.Deep.QuietTactic
import Derived.BigQuiet
import Derived.Test.YteaionmjbkildabDoorQ14
namespace Go.Proofs.YteaionmjbkildabDoor
open Go.RowKit
set_option linter.unusedVariables false
set_option linter.unusedSimpArgs false
set_option maxRecDepth 100000
namespace Rr

/-- A quiet walk, shut: so that nothing looks ahead through operations that are passed over. -/
structure Wq (P : Program) (ops : Array Oper) (C : World → Prop) (Q : Act → Prop) (l : List Oper) (a : Act) : Prop where
  out : wpQuiet P ops C Q l a
theorem Wq.step {P : Program} {ops : Array Oper} {C : World → Prop} {Q : Act → Prop} {a : Act} {o : Oper} {rest : List Oper} (h : ∀ K : Act → Prop, (∀ a, Wq P ops C Q rest a → K a) → if Region.wanted o (yielded ops a.tmps) then o.quiet P a C K else K (a.put o.dst undef)) : Wq P ops C Q (o :: rest) a :=
  ⟨wpQuiet_step (fun K hK => h K (fun a ha => hK a ha.out))⟩
theorem Wq.nil {P : Program} {ops : Array Oper} {C : World → Prop} {Q : Act → Prop} {a : Act} (h : Q a) : Wq P ops C Q [] a := ⟨wpQuiet_nil h⟩

/-- A reader of the text x that has r ahead. -/
def Rd (w : World) (g : Nat) (x : ByteArray) (r : List UInt8) (ns : Bool) : Prop := Bo w g 83 #[.string x, .int .i64 (Pa.po x r : Nat), .bool ns]
theorem Rd.lt {w : World} {g : Nat} {x : ByteArray} {r : List UInt8} {ns : Bool} (h : Rd w g x r ns) : g < w.heap.size := Bo.lt h
theorem Rd.kept {w w' : World} {g : Nat} {x : ByteArray} {r : List UInt8} {ns : Bool} {b : Option Nat} (h : Rd w g x r ns) (hg : w.grownBy w' b) (hne : some g ≠ b) : Rd w' g x r ns := Bo.kept h hg hne
theorem Rd.drew {w : World} {g k : Nat} {x : ByteArray} {r : List UInt8} {ns : Bool} (h : Rd w g x r ns) : Rd (w.drewN k) g x r ns := h
theorem Rd.c0 {w : World} {g : Nat} {x : ByteArray} {r : List UInt8} {ns : Bool} (h : Rd w g x r ns) : w.cell? ⟨g, 0, none⟩ = some (.string x) := Bo.cell h 0 rfl
theorem Rd.c1 {w : World} {g : Nat} {x : ByteArray} {r : List UInt8} {ns : Bool} (h : Rd w g x r ns) : w.cell? ⟨g, 1, none⟩ = some (.int .i64 (Pa.po x r : Nat)) := Bo.cell h 1 rfl
theorem Rd.c2 {w : World} {g : Nat} {x : ByteArray} {r : List UInt8} {ns : Bool} (h : Rd w g x r ns) : w.cell? ⟨g, 2, none⟩ = some (.bool ns) := Bo.cell h 2 rfl
theorem Rd.fz {w : World} {g : Nat} {x : ByteArray} {r : List UInt8} {ns : Bool} (h : Rd w g x r ns) (i : Nat) : w.frozen? ⟨g, i, none⟩ = false := Bo.frozen h i
theorem Rd.set {w : World} {g : Nat} {x : ByteArray} {r : List UInt8} {ns : Bool} (h : Rd w g x r ns) (r' : List UInt8) : Rd (w.setCell ⟨g, 1, none⟩ (.int .i64 (Pa.po x r' : Nat))) g x r' ns := Bo.set h 1 _
theorem Rd.mark {w : World} {g : Nat} {x : ByteArray} {r : List UInt8} {ns : Bool} (h : Rd w g x r ns) : Rd (w.setCell ⟨g, 2, none⟩ (.bool true)) g x r true := Bo.set h 2 _

set_option maxHeartbeats 1000000 in
theorem aheadC (g : Nat) (x : ByteArray) (r : List UInt8) (ns : Bool) (b : UInt8) (bn : Int) (hbn : bn = b.toNat) (B : Bool) (hB : decide (r.head? = some b) = B) (hs : Pa.Suf x r) (hz : x.size ≤ 1048576) (w : World) (h : Rd w g x r ns) :
    Calls Tryd.prog 76 #[.pointer (some ⟨g, 0, none⟩), .int .u8 bn] w fun e w' => e = .returned (.bool B) ∧ ∃ k, w' = w.drewN k := by
  have x0 := h.c0
  have x1 := h.c1
  cases r with
  | nil =>
    obtain rfl : B = false := by rw [← hB]; rfl
    rw [Pa.po_nil] at x1
    clear hB h hs
    go_enter Tryd.func76, Tryd.ntmps76
    go_wp2
    refine wp_region_quiet_lit (by kernel_rfl) (by kernel_rfl) (Wq.out ?_)
    iterate 24 (refine Wq.step (fun K hK => ?_); go_simp; (first | refine hK _ ?_ | (split; (exfalso; omega); refine hK _ ?_)); clear hK K)
    refine Wq.nil ?_
    intro _ hwq
    obtain ⟨nq, hw2⟩ := hwq
    subst hw2
    go_wp2
    go_ret
    exact ⟨rfl, _, rfl⟩
  | cons c r =>
    have h1 := (Pa.po_cons hs).1
    have hb := Pa.po_at hs h1
    obtain ⟨p, hp⟩ : ∃ p, Pa.po x (c :: r) = p := ⟨_, rfl⟩
    have h2 : p < x.size := hp ▸ h1
    have hb2 : (x[p]'h2).toNat = c.toNat := by rw [← hb]; congr 1; simp [hp]
    rw [hp] at x1
    have h3 : (p : Int) < (x.size : Int) := by omega
    have hb3 : ((c.toNat : Int) == bn) = B := by
      rw [← hB, hbn]
      by_cases e : c = b
      · simp [e]
      · have : c.toNat ≠ b.toNat := fun k => e (UInt8.toNat_inj.1 k)
        simp [e]
        omega
    clear hB h hs hb h1 hp hbn
    generalize c.toNat = cn at *
    go_enter Tryd.func76, Tryd.ntmps76
    go_wp2
    refine wp_region_quiet_lit (by kernel_rfl) (by kernel_rfl) (Wq.out ?_)
    iterate 24 (refine Wq.step (fun K hK => ?_); go_simp; (first | refine hK _ ?_ | (split; (exfalso; omega); refine hK _ ?_)); clear hK K)
    refine Wq.nil ?_
    intro _ hwq
    obtain ⟨nq, hw2⟩ := hwq
    subst hw2
    go_wp2
    go_ret
    exact ⟨rfl, _, rfl⟩
set_option maxHeartbeats 1000000 in
theorem digitC (g : Nat) (x : ByteArray) (r : List UInt8) (ns : Bool) (B : Bool) (hB : Pa.hasD r = B) (hs : Pa.Suf x r) (hz : x.size ≤ 1048576) (w : World) (h : Rd w g x r ns) :
    Calls Tryd.prog 90 #[.pointer (some ⟨g, 0, none⟩)] w fun e w' => e = .returned (.bool B) ∧ ∃ k, w' = w.drewN k := by
  have x0 := h.c0
  have x1 := h.c1
  cases r with
  | nil =>
    obtain rfl : B = false := by rw [← hB]; rfl
    rw [Pa.po_nil] at x1
    clear hB h hs
    go_enter Tryd.func90, Tryd.ntmps90
    go_wp2
    refine wp_region_quiet_lit (by kernel_rfl) (by kernel_rfl) (Wq.out ?_)
    iterate 35 (refine Wq.step (fun K hK => ?_); go_simp; (first | refine hK _ ?_ | (split; (exfalso; omega); refine hK _ ?_)); clear hK K)
    refine Wq.nil ?_
    intro _ hwq
    obtain ⟨nq, hw2⟩ := hwq
    subst hw2
    go_wp2
    go_ret
    exact ⟨rfl, _, rfl⟩
  | cons c r =>
    have h1 := (Pa.po_cons hs).1
    have hb := Pa.po_at hs h1
    obtain ⟨p, hp⟩ : ∃ p, Pa.po x (c :: r) = p := ⟨_, rfl⟩
    have h2 : p < x.size := hp ▸ h1
    have hb2 : (x[p]'h2).toNat = c.toNat := by rw [← hb]; congr 1; simp [hp]
    rw [hp] at x1
    have h3 : (p : Int) < (x.size : Int) := by omega
    have hB' : decide (48 ≤ c.toNat ∧ c.toNat ≤ 57) = B := hB
    clear hB h hs hb h1 hp
    generalize c.toNat = cn at *
    by_cases c1 : 48 ≤ cn
    · have d1 : (48 : Int) ≤ (cn : Int) := by omega
      by_cases c2 : cn ≤ 57
      · have d2 : (cn : Int) ≤ 57 := by omega
        obtain rfl : B = true := by rw [← hB']; exact decide_eq_true ⟨c1, c2⟩
        clear hB'
        go_enter Tryd.func90, Tryd.ntmps90
        go_wp2
        refine wp_region_quiet_lit (by kernel_rfl) (by kernel_rfl) (Wq.out ?_)
        iterate 35 (refine Wq.step (fun K hK => ?_); go_simp; (first | refine hK _ ?_ | (split; (exfalso; omega); refine hK _ ?_)); clear hK K)
        refine Wq.nil ?_
        intro _ hwq
        obtain ⟨nq, hw2⟩ := hwq
        subst hw2
        go_wp2
        go_ret
        exact ⟨rfl, _, rfl⟩
      · have d2 : ¬ (cn : Int) ≤ 57 := by omega
        obtain rfl : B = false := by rw [← hB']; exact decide_eq_false (fun k => c2 k.2)
        clear hB'
        go_enter Tryd.func90, Tryd.ntmps90
        go_wp2
        refine wp_region_quiet_lit (by kernel_rfl) (by kernel_rfl) (Wq.out ?_)
        iterate 35 (refine Wq.step (fun K hK => ?_); go_simp; (first | refine hK _ ?_ | (split; (exfalso; omega); refine hK _ ?_)); clear hK K)
        refine Wq.nil ?_
        intro _ hwq
        obtain ⟨nq, hw2⟩ := hwq
        subst hw2
        go_wp2
        go_ret
        rw [show decide ((cn : Int) ≤ 57) = false by simp; omega]
        exact ⟨rfl, _, rfl⟩
    · have d1 : ¬ (48 : Int) ≤ (cn : Int) := by omega
      obtain rfl : B = false := by rw [← hB']; exact decide_eq_false (fun k => c1 k.1)
      clear hB'
      go_enter Tryd.func90, Tryd.ntmps90
      go_wp2
      refine wp_region_quiet_lit (by kernel_rfl) (by kernel_rfl) (Wq.out ?_)
      iterate 35 (refine Wq.step (fun K hK => ?_); go_simp; (first | refine hK _ ?_ | (split; (exfalso; omega); refine hK _ ?_)); clear hK K)
      refine Wq.nil ?_
      intro _ hwq
      obtain ⟨nq, hw2⟩ := hwq
      subst hw2
      go_wp2
      go_ret
      exact ⟨rfl, _, rfl⟩
theorem skipC (g : Nat) (x : ByteArray) (r : List UInt8) (ns : Bool) (b : UInt8) (bn : Int) (hbn : bn = b.toNat) (B : Bool) (r' : List UInt8) (hB : Pa.skR b r = (B, r')) (hs : Pa.Suf x r) (hz : x.size ≤ 1048576) (w : World) (h : Rd w g x r ns) :
    Calls Tryd.prog 75 #[.pointer (some ⟨g, 0, none⟩), .int .u8 bn] w fun e w' => e = .returned (.bool B) ∧ Rd w' g x r' ns ∧ w.grownBy w' (some g) := by
  have ha := fun B hB => aheadC g x r ns b bn hbn B hB hs hz w h
  cases r with
  | nil =>
    have e1 : (false, ([] : List UInt8)) = (B, r') := hB
    obtain ⟨rfl, rfl⟩ := Prod.mk.inj e1
    have ha := ha false rfl
    have HD : Hid (Rd w g x [] ns) := h
    clear h hB hs hbn e1 hz
    go_enter Tryd.func75, Tryd.ntmps75
    go_wp2_with (first | (go_at_call 76; refine ha.mono ?_; rintro e w1 ⟨rfl, k, rfl⟩))
    go_ret
    exact ⟨rfl, Rd.drew HD.out, gb_drewN (World.grownBy.refl w (some g)) k⟩
  | cons c r =>
    by_cases hc : c = b
    · have e1 : (true, r) = (B, r') := by rw [← hB]; simp [Pa.skR, hc]
      obtain ⟨rfl, rfl⟩ := Prod.mk.inj e1
      have ha := ha true (by simp [hc])
      obtain ⟨h1, h2⟩ := Pa.po_cons hs
      have x1 := h.c1
      have y1 := h.fz 1
      have hw : IntKind.i64.wrap ((Pa.po x (c :: r) : Nat) + 1 : Int) = ((Pa.po x r : Nat) : Int) := by rw [IntKind.wrap_i64]; omega
      have HD : Hid (Rd w g x (c :: r) ns) := h
      clear h hB hs h1 h2 hbn e1
      generalize hp : Pa.po x (c :: r) = p at *
      go_enter Tryd.func75, Tryd.ntmps75
      go_wp2_with (first | (go_at_call 76; refine ha.mono ?_; rintro e w1 ⟨rfl, k, rfl⟩))
      go_ret
      exact ⟨rfl, Rd.set (w := w.drewN k) HD.out r, gb_set (gb_drewN (World.grownBy.refl w (some g)) k) _ _⟩
    · have e1 : (false, c :: r) = (B, r') := by rw [← hB]; simp [Pa.skR, hc]
      obtain ⟨rfl, rfl⟩ := Prod.mk.inj e1
      have ha := ha false (by simp [hc])
      have HD : Hid (Rd w g x (c :: r) ns) := h
      clear h hB hs hbn e1 hz hc
      go_enter Tryd.func75, Tryd.ntmps75
      go_wp2_with (first | (go_at_call 76; refine ha.mono ?_; rintro e w1 ⟨rfl, k, rfl⟩))
      go_ret
      exact ⟨rfl, Rd.drew HD.out, gb_drewN (World.grownBy.refl w (some g)) k⟩
end Rr
end Go.Proofs.YteaionmjbkildabDoor
namespace Go.Proofs.YteaionmjbkildabDoor
open Go.RowKit
set_option linter.unusedVariables false
set_option linter.unusedSimpArgs false
set_option maxRecDepth 100000
namespace Rr

/-- What a number's loop knows. -/
structure Nu (x : ByteArray) (r : List UInt8) (Z : Nat × List UInt8) (k n : Nat) (rr : List UInt8) : Prop where
  le : k ≤ 9
  suf : Pa.Suf x rr
  po : Pa.po x rr = Pa.po x r + k
  val : Pa.numR (9 - k) n rr = Z
  lt : n < 10 ^ k
theorem Nu.start {x : ByteArray} {r : List UInt8} (h : Pa.Suf x r) : Nu x r (Pa.numR 9 0 r) 0 0 r := ⟨by omega, h, rfl, rfl, by decide⟩
theorem pow9 {k n : Nat} (h : k ≤ 9) (hn : n < 10 ^ k) : n < 1000000000 := Nat.lt_of_lt_of_le hn (Nat.pow_le_pow_right (n := 10) (by decide) h)
theorem Nu.stop {x : ByteArray} {r rr : List UInt8} {Z : Nat × List UInt8} {k n : Nat} (h : Nu x r Z k n rr) (hd : Pa.hasD rr = false) : Z = (n, rr) := by
  rw [← h.val]; exact Pa.numR_stop hd _ _
theorem Nu.full {x : ByteArray} {r rr : List UInt8} {Z : Nat × List UInt8} {n : Nat} (h : Nu x r Z 9 n rr) : Z = (n, rr) := by
  rw [← h.val]; rfl
theorem Nu.next {x : ByteArray} {r rr : List UInt8} {Z : Nat × List UInt8} {c : UInt8} {k n : Nat} (h : Nu x r Z k n (c :: rr)) (hd : Pa.dgB c = true) (hk : k < 9) (h0 : 10 * n + (c.toNat - 48) ≠ 0) : Nu x r Z (k + 1) (10 * n + (c.toNat - 48)) rr := by
  have hp := Pa.po_cons h.suf
  refine ⟨hk, h.suf.tail, by rw [hp.2, h.po]; omega, ?_, ?_⟩
  · rw [← h.val]
    have e : 9 - k = (9 - (k + 1)) + 1 := by omega
    rw [e, Pa.numR_more _ _ _ _ hd h0]
  · have := h.lt
    have hd' : 48 ≤ c.toNat ∧ c.toNat ≤ 57 := by simpa [Pa.dgB] using hd
    rw [Nat.pow_succ]
    omega
theorem Nu.zero {x : ByteArray} {r rr : List UInt8} {Z : Nat × List UInt8} {c : UInt8} {k n : Nat} (h : Nu x r Z k n (c :: rr)) (hd : Pa.dgB c = true) (hk : k < 9) (h0 : 10 * n + (c.toNat - 48) = 0) : Z = (0, rr) := by
  rw [← h.val]
  have e : 9 - k = (8 - k) + 1 := by omega
  rw [e, Pa.numR_zero _ _ _ _ hd h0]
set_option maxHeartbeats 2000000 in
theorem numberC (g : Nat) (x : ByteArray) (r : List UInt8) (ns : Bool) (n' : Nat) (r' : List UInt8) (hN : Hid (Pa.numR 9 0 r = (n', r'))) (B : Bool) (hB : Hid (decide (r'.length < r.length) = B)) (hs : Pa.Suf x r) (hz : x.size ≤ 1048576) (w : World) (h : Rd w g x r ns) :
    Calls Tryd.prog 84 #[.pointer (some ⟨g, 0, none⟩)] w fun e w' => e = .returned (.tuple #[.int .i64 (n' : Nat), .bool B]) ∧ Rd w' g x r' ns ∧ w.grownBy w' (some g) := by
  have x1 := h.c1
  have H0 : Hid (Rd w g x r ns) := h
  have hnu : Nu x r (n', r') 0 0 r := hN.out ▸ Nu.start hs
  clear h
  go_enter Tryd.func84, Tryd.ntmps84
  go_wp2
  clear x1
  go_loopw [5] (fun v wr => ∃ (k n : Nat) (rr : List UInt8), v = .int .i64 (n : Nat) ∧ Nu x r (n', r') k n rr ∧ Rd wr g x rr ns ∧ w.grownBy wr (some g) ∧ Hid (k = 9 - (9 - k))) (fun v _ => 1000000000 - (intOf v).toNat)
  case atStart => exact ⟨0, 0, r, rfl, hnu, H0.out, World.grownBy.refl _ _, rfl⟩
  case round =>
    clear hnu
    obtain ⟨k, n, rr, rfl, hu, HR, HG, -⟩ := hrel
    have x0 := HR.c0
    have x1 := HR.c1
    have hda := fun B hB => digitC g x rr ns B hB hu.suf hz wr HR
    cases hd : Pa.hasD rr with
    | false =>
      have hdg := hda false hd
      clear hda
      obtain ⟨rfl, rfl⟩ := Prod.mk.inj (hu.stop hd)
      have hsf := hu.suf
      clear hd hu x0
      go_wp2_with (first | (go_at_call 90; refine hdg.mono ?_; rintro e w1 ⟨rfl, kk, rfl⟩))
      have HR := Rd.drew (k := kk) HR
      have HG := gb_drewN HG kk
      have HT : Hid (decide (Pa.po x r < Pa.po x r') = B) := by
        rw [← hB.out]
        exact decide_eq_decide.2 (Pa.po_inj hs hsf)
      clear hs
      have HRR : Hid (Rd _ g x _ ns) := HR
      have HGG : Hid (w.grownBy _ (some g)) := HG
      clear HR HG
      generalize hpr : Pa.po x r = p0 at *
      generalize hpq : Pa.po x r' = p1 at *
      go_wp2
      go_quiet (fail)
      go_wp2
      go_ret2
      refine ⟨?_, Rd.drew HRR.out, gb_drewN HGG.out _⟩
      rw [← HT.out]
      first
        | rfl
        | simp
    | true =>
      have hdg := hda true hd
      clear hda
      cases rr with
      | nil => cases hd
      | cons c r2 =>
        have hc : Pa.dgB c = true := hd
        have hp := hu.po
        have hlt := Pa.po_cons hu.suf
        have hw1 : IntKind.i64.wrap (((Pa.po x (c :: r2) : Nat) : Int) - ((Pa.po x r : Nat) : Int)) = ((k : Nat) : Int) := by
          rw [IntKind.wrap_i64]; omega
        by_cases h9 : k = 9
        · subst h9
          obtain ⟨rfl, rfl⟩ := Prod.mk.inj hu.full
          have hsf := hu.suf
          clear hd hu x0 hp hlt hc
          go_wp2_with (first | (go_at_call 90; refine hdg.mono ?_; rintro e w1 ⟨rfl, kk, rfl⟩))
          have HR := Rd.drew (k := kk) HR
          have HG := gb_drewN HG kk
          clear hw1 hdg
          have HT : Hid (decide (Pa.po x r < Pa.po x (c :: r2)) = B) := by
            rw [← hB.out]
            exact decide_eq_decide.2 (Pa.po_inj hs hsf)
          clear hs
          have HRR : Hid (Rd _ g x _ ns) := HR
          have HGG : Hid (w.grownBy _ (some g)) := HG
          clear HR HG
          generalize hpr : Pa.po x r = p0 at *
          generalize hpq : Pa.po x (c :: r2) = p1 at *
          go_wp2
          go_quiet (fail)
          go_wp2
          go_ret2
          refine ⟨?_, Rd.drew HRR.out, gb_drewN HGG.out _⟩
          rw [← HT.out]
          first
            | rfl
            | simp
        · have hk9 : k < 9 := by have := hu.le; omega
          have hk9' : (k : Int) < 9 := by omega
          have hn := pow9 hu.le hu.lt
          have hc' : 48 ≤ c.toNat ∧ c.toNat ≤ 57 := by simpa [Pa.dgB] using hc
          have hb := Pa.po_at hu.suf hlt.1
          have hw2 : IntKind.i64.wrap (((Pa.po x (c :: r2) : Nat) : Int) + 1) = ((Pa.po x r2 : Nat) : Int) := by
            rw [IntKind.wrap_i64]; omega
          have hlt1 := hlt.1
          have HLT : Hid (Pa.po x (c :: r2) < x.size ∧ Pa.po x r2 = Pa.po x (c :: r2) + 1) := hlt
          have y1 := HR.fz 1
          have HRH : Hid (Rd wr g x (c :: r2) ns) := HR
          have HGH : Hid (w.grownBy wr (some g)) := HG
          have HU : Hid (Nu x r (n', r') k n (c :: r2)) := hu
          have HS : Hid (Pa.Suf x r) := hs
          have HC : Hid (Pa.dgB c = true) := hc
          have HK : Hid (k < 9) := hk9
          obtain ⟨cn, hcn⟩ : ∃ cn, c.toNat = cn := ⟨_, rfl⟩
          have HCN : Hid (c.toNat = cn) := hcn
          rw [hcn] at hb hc'
          obtain ⟨p, hp2⟩ : ∃ p, Pa.po x (c :: r2) = p := ⟨_, rfl⟩
          obtain ⟨q, hq2⟩ : ∃ q, Pa.po x r2 = q := ⟨_, rfl⟩
          have HP : Hid (Pa.po x (c :: r2) = p ∧ Pa.po x r2 = q) := ⟨hp2, hq2⟩
          have h2 : p < x.size := hp2 ▸ hlt1
          have hb2 : (x[p]'h2).toNat = cn := by rw [← hb]; congr 1; simp [hp2]
          have h3 : (p : Int) < (x.size : Int) := by omega
          rw [hp2] at x1 hw1 hw2
          rw [hq2] at hw2
          clear hb hlt hlt1 hp hd hu hc hk9 hs HR HG hcn hp2 hq2
          obtain ⟨d, hd⟩ : ∃ d, cn - 48 = d := ⟨_, rfl⟩
          obtain ⟨t, ht⟩ : ∃ t, 10 * n = t := ⟨_, rfl⟩
          have m1 : IntKind.i64.wrap (10 * (n : Int)) = ((t : Nat) : Int) := by rw [IntKind.wrap_i64]; omega
          have m2 : IntKind.u8.wrap ((cn : Int) - 48) = ((d : Nat) : Int) := by rw [IntKind.wrap_u8]; omega
          have m3 : IntKind.i64.wrap ((d : Nat) : Int) = ((d : Nat) : Int) := by rw [IntKind.wrap_i64]; omega
          have m4 : IntKind.i64.wrap (((t : Nat) : Int) + ((d : Nat) : Int)) = (((t + d : Nat)) : Int) := by rw [IntKind.wrap_i64]; omega
          have HV : Hid (10 * n + (c.toNat - 48) = t + d) := by have := HCN.out; unfold Hid; omega
          clear hc' hd ht
          obtain ⟨u, hu⟩ : ∃ u, t + d = u := ⟨_, rfl⟩
          rw [hu] at m4
          have HV2 : Hid (10 * n + (c.toNat - 48) = u) := by rw [← hu]; exact HV
          clear HV hu
          cases h0 : ((u : Int) == 0) with
          | true =>
            obtain rfl : u = 0 := by simpa using h0
            obtain ⟨rfl, rfl⟩ := Prod.mk.inj (HU.out.zero HC.out HK.out HV2.out)
            have hq : Pa.po x r' = q := HP.out.2
            have HT : Hid (decide (Pa.po x r < q) = B) := by
              rw [← hB.out, ← hq]
              exact decide_eq_decide.2 (Pa.po_inj HS.out HU.out.suf.tail)
            clear h0 hq
            generalize hpr : Pa.po x r = p0 at *
            go_wp2_with (first | (go_at_call 90; refine hdg.mono ?_; rintro e w1 ⟨rfl, kk, rfl⟩))
            go_quiet (fail)
            go_wp2
            obtain ⟨W1, hW1⟩ : ∃ W1, (wr.drewN (kk + nq)).setCell ⟨g, 1, none⟩ (.int .i64 (q : Nat)) = W1 := ⟨_, rfl⟩
            rw [hW1]
            have R1 : Rd W1 g x r' ns := by
              rw [← hW1, ← HP.out.2]
              exact Rd.set (w := wr.drewN (kk + nq)) (Rd.drew HRH.out) r'
            have z1 := R1.c1
            rw [HP.out.2] at z1
            have HG1 : Hid (w.grownBy W1 (some g)) := hW1 ▸ gb_set (gb_drewN HGH.out _) _ _
            have HR1 : Hid (Rd W1 g x r' ns) := R1
            clear hW1 R1 x0 x1 y1
            go_quiet (fail)
            go_wp2
            go_ret2
            refine ⟨?_, Rd.drew HR1.out, gb_drewN HG1.out _⟩
            rw [← HT.out]
            first
              | rfl
              | simp
          | false =>
            go_wp2_with (first | (go_at_call 90; refine hdg.mono ?_; rintro e w1 ⟨rfl, kk, rfl⟩))
            go_quiet (fail)
            go_wp2
            go_roundw
            case rel =>
              have h00 : u ≠ 0 := by intro e; subst e; simp at h0
              have hx := Nu.next HU.out HC.out HK.out (by rw [HV2.out]; exact h00)
              rw [HV2.out] at hx
              refine ⟨k + 1, u, r2, rfl, hx, ?_, ?_, by unfold Hid; have := HK.out; omega⟩
              · rw [← HP.out.2]
                exact Rd.set (w := wr.drewN (kk + nq)) (Rd.drew HRH.out) r2
              · exact gb_set (gb_drewN HGH.out _) _ _
            case measure =>
              have h00 : u ≠ 0 := by intro e; subst e; simp at h0
              have hx := Nu.next HU.out HC.out HK.out (by rw [HV2.out]; exact h00)
              have h1 := pow9 hx.le hx.lt
              have h2 := HV2.out
              rw [h2] at h1
              simp [intOf]
              omega
end Rr
end Go.Proofs.YteaionmjbkildabDoor
namespace Go.Proofs.YteaionmjbkildabDoor
open Go.RowKit
set_option linter.unusedVariables false
set_option linter.unusedSimpArgs false
set_option maxRecDepth 100000
namespace Rr

theorem Rd.set2 {w : World} {g : Nat} {x : ByteArray} {r : List UInt8} {ns : Bool} (h : Rd w g x r ns) {b i : Nat} {v : Value} (hb : b ≠ g) : Rd (w.setCell ⟨b, i, none⟩ v) g x r ns := Bo.set2 h hb
theorem gb_trans' {w w1 w2 : World} {r : Option Nat} (h : w.grownBy w1 none) (k : w1.grownBy w2 r) : w.grownBy w2 r := gb_trans (⟨h.os, h.tape, h.output, h.size, fun b hb _ => h.block b hb (by simp)⟩ : w.grownBy w1 r) k
theorem gb_one {w w1 w2 : World} {r : Option Nat} (h : w.grownBy w1 r) (k : w1.grownBy w2 r) : w.grownBy w2 r := h.andThen k (fun b hb => .inr hb)
set_option maxHeartbeats 1000000 in
theorem wordC (g : Nat) (x : ByteArray) (r : List UInt8) (ns : Bool) (y : ByteArray) (hy : y.size ≤ 1000) (B : Bool) (r' : List UInt8) (hW : Hid (Pa.wrdR y.data.toList r = (B, r'))) (hs : Pa.Suf x r) (hz : x.size ≤ 1048576) (w : World) (h : Rd w g x r ns) :
    Calls Tryd.prog 73 #[.pointer (some ⟨g, 0, none⟩), .string y] w fun e w' => e = .returned (.bool B) ∧ Rd w' g x r' ns ∧ w.grownBy w' (some g) := by
  have H0 : Hid (Rd w g x r ns) := h
  have HS : Hid (Pa.Suf x r) := hs
  clear h hs
  go_enter Tryd.func73, Tryd.ntmps73
  go_wp2
  go_loopw [8] (fun v wr => ∃ (ws rr : List UInt8), v = .int .i64 (Pa.po y ws : Nat) ∧ Hid (Pa.Suf y ws) ∧ Hid (Pa.Suf x rr) ∧ Hid (Pa.wrdR ws rr = (B, r')) ∧ Hid (Rd wr g x rr ns) ∧ Hid (w.grownBy wr (some g))) (fun v _ => y.size - (intOf v).toNat)
  case atStart => exact ⟨y.data.toList, r, by rw [Pa.po_all]; rfl, Pa.Suf.all y, HS.out, hW.out, H0.out, World.grownBy.refl _ _⟩
  case round =>
    obtain ⟨ws, rr, rfl, hsy, hsx, hw, HR, HG⟩ := hrel
    cases ws with
    | nil =>
      have e : (true, rr) = (B, r') := hw.out
      obtain ⟨rfl, rfl⟩ := Prod.mk.inj e
      clear e
      rw [Pa.po_nil]
      go_wp2
      go_ret
      exact ⟨rfl, HR.out, HG.out⟩
    | cons c ws =>
      obtain ⟨h1, h2⟩ := Pa.po_cons hsy.out
      have hb := Pa.po_at hsy.out h1
      obtain ⟨⟨b1, r1⟩, hsk⟩ : ∃ Z, Pa.skR c rr = Z := ⟨_, rfl⟩
      have hk := fun bn hbn => skipC g x rr ns c bn hbn b1 r1 hsk hsx.out hz wr HR.out
      obtain ⟨p, hp⟩ : ∃ p, Pa.po y (c :: ws) = p := ⟨_, rfl⟩
      have h3 : p < y.size := hp ▸ h1
      have hb2 : (y[p]'h3).toNat = c.toNat := by rw [← hb]; congr 1; simp [hp]
      have h4 : (p : Int) < (y.size : Int) := by omega
      have hk := hk (c.toNat : Int) rfl
      rw [hp] at h2 ⊢
      have HQ : Hid (Pa.po y ws = p + 1) := h2
      have HSK : Hid (Pa.skR c rr = (b1, r1)) := hsk
      have HY : Hid (y.size ≤ 1000) := hy
      clear hb hp h1 h2 hsk
      obtain ⟨cn, hcn⟩ : ∃ cn, c.toNat = cn := ⟨_, rfl⟩
      rw [hcn] at hb2 hk
      clear hcn
      have hw1 : IntKind.i64.wrap ((p : Int) + 1) = ((p + 1 : Nat) : Int) := by rw [IntKind.wrap_i64]; have := HY.out; omega
      cases b1 with
      | false =>
        have e : (false, r1) = (B, r') := by rw [← hw.out, Pa.wrdR, HSK.out]; rfl
        obtain ⟨rfl, rfl⟩ := Prod.mk.inj e
        clear e
        go_wp2_with (first | (go_at_call 75; refine hk.mono ?_; rintro e w1 ⟨rfl, hR1, hG1⟩))
        go_ret
        exact ⟨rfl, hR1, gb_one HG.out hG1⟩
      | true =>
        have e : Hid (Pa.wrdR ws r1 = (B, r')) := by have := hw.out; rw [Pa.wrdR, HSK.out] at this; exact this
        go_wp2_with (first | (go_at_call 75; refine hk.mono ?_; rintro e w1 ⟨rfl, hR1, hG1⟩))
        go_roundw
        case rel =>
          refine ⟨ws, r1, ?_, hsy.out.tail, ?_, e, hR1, gb_one HG.out hG1⟩
          · rw [HQ.out]; go_num
          · have := Pa.skR_suf c rr
            rw [HSK.out] at this
            exact hsx.out.of this
        case measure => simp [intOf]; omega

set_option maxHeartbeats 1000000 in
theorem headNumberC (g : Nat) (x : ByteArray) (r : List UInt8) (ns : Bool) (k : Nat) (hk : k < 4) (n' : Nat) (B : Bool) (r' : List UInt8) (hN : Hid (Pa.hnR k r = (n', B, r'))) (hs : Pa.Suf x r) (hz : x.size ≤ 1048576) (w : World) (h : Rd w g x r ns) :
    Calls Tryd.prog 74 #[.pointer (some ⟨g, 0, none⟩), .int .i64 (k : Nat)] w fun e w' => e = .returned (.tuple #[.int .i64 (n' : Nat), .bool B]) ∧ Rd w' g x r' ns ∧ w.grownBy w' (some g) := by
  obtain ⟨⟨b1, r1⟩, hsk⟩ : ∃ Z, Pa.skR 32 r = Z := ⟨_, rfl⟩
  have hsk1 := skipC g x r ns 32 32 rfl b1 r1 hsk hs hz w h
  have hs1 : Pa.Suf x r1 := by have := Pa.skR_suf 32 r; rw [hsk] at this; exact hs.of this
  have HN := hN.out
  unfold Pa.hnR at HN
  rw [hsk] at HN
  simp only at HN
  clear h hN hsk
  cases b1 with
  | false =>
    simp at HN
    obtain ⟨rfl, rfl, rfl⟩ := HN
    go_enter Tryd.func74, Tryd.ntmps74
    go_wp2_with (first | (go_at_call 75; refine hsk1.mono ?_; rintro e w1 ⟨rfl, hR1, hG1⟩))
    go_ret2
    exact ⟨rfl, hR1, hG1⟩
  | true =>
    simp only [if_true] at HN
    obtain ⟨⟨n1, r2⟩, hnu⟩ : ∃ Z, Pa.numR 9 0 r1 = Z := ⟨_, rfl⟩
    obtain ⟨B1, hB1⟩ : ∃ B1, decide (r2.length < r1.length) = B1 := ⟨_, rfl⟩
    have hn := fun w1 hR => numberC g x r1 ns n1 r2 hnu B1 hB1 hs1 hz w1 hR
    rw [hnu] at HN
    simp only at HN
    have HN2 : (if B1 = true ∧ k = 2 ∧ 65536 < n1 then (n1, false, r1) else (n1, B1, r2)) = (n', B, r') := by
      rw [← HN, ← hB1]
      by_cases e : r2.length < r1.length <;> simp [e]
    clear HN hnu hs hs1 hB1
    have HH : Hid ((if B1 = true ∧ k = 2 ∧ 65536 < n1 then (n1, false, r1) else (n1, B1, r2)) = (n', B, r')) := HN2
    clear HN2
    have ARM : True := trivial
    by_cases c1 : B1 = true
    · subst c1
      by_cases c2 : k = 2
      · subst c2
        by_cases c3 : 65536 < n1
        · have c3' : (65536 : Int) < (n1 : Int) := by omega
          have e := HH.out
          rw [if_pos ⟨rfl, rfl, c3⟩] at e
          simp only [Prod.mk.injEq] at e
          obtain ⟨rfl, rfl, rfl⟩ := e
          clear HH c3
          go_enter Tryd.func74, Tryd.ntmps74
          go_wp2_with (first | (go_at_call 75; refine hsk1.mono ?_; rintro e w1 ⟨rfl, hR1, hG1⟩; have rc1 := hR1.c1) | (go_at_call 84; refine (hn _ hR1).mono ?_; rintro e w2 ⟨rfl, hR2, hG2⟩; have ry1 := hR2.c1; have rz1 := hR2.fz 1))
          go_ret2
          exact ⟨rfl, hR2.set r1, gb_set (gb_one hG1 hG2) _ _⟩
        · have c3' : ¬ (65536 : Int) < (n1 : Int) := by omega
          have e := HH.out
          rw [if_neg (fun q => c3 q.2.2)] at e
          simp only [Prod.mk.injEq] at e
          obtain ⟨rfl, rfl, rfl⟩ := e
          clear HH c3
          go_enter Tryd.func74, Tryd.ntmps74
          go_wp2_with (first | (go_at_call 75; refine hsk1.mono ?_; rintro e w1 ⟨rfl, hR1, hG1⟩; have rc1 := hR1.c1) | (go_at_call 84; refine (hn _ hR1).mono ?_; rintro e w2 ⟨rfl, hR2, hG2⟩))
          go_ret2
          exact ⟨rfl, hR2, gb_one hG1 hG2⟩
      · have c2' : ((k : Int) == 2) = false := by simp; omega
        have e := HH.out
        rw [if_neg (fun q => c2 q.2.1)] at e
        simp only [Prod.mk.injEq] at e
        obtain ⟨rfl, rfl, rfl⟩ := e
        clear HH c2
        go_enter Tryd.func74, Tryd.ntmps74
        go_wp2_with (first | (go_at_call 75; refine hsk1.mono ?_; rintro e w1 ⟨rfl, hR1, hG1⟩; have rc1 := hR1.c1) | (go_at_call 84; refine (hn _ hR1).mono ?_; rintro e w2 ⟨rfl, hR2, hG2⟩))
        go_ret2
        exact ⟨rfl, hR2, gb_one hG1 hG2⟩
    · obtain rfl : B1 = false := by simpa using c1
      have e := HH.out
      rw [if_neg (fun q => c1 q.1)] at e
      simp only [Prod.mk.injEq] at e
      obtain ⟨rfl, rfl, rfl⟩ := e
      clear HH c1
      go_enter Tryd.func74, Tryd.ntmps74
      go_wp2_with (first | (go_at_call 75; refine hsk1.mono ?_; rintro e w1 ⟨rfl, hR1, hG1⟩; have rc1 := hR1.c1) | (go_at_call 84; refine (hn _ hR1).mono ?_; rintro e w2 ⟨rfl, hR2, hG2⟩))
      go_ret2
      exact ⟨rfl, hR2, gb_one hG1 hG2⟩

theorem underBr : ∃ fs, Tryd.prog.underlying 69 = some (.struct fs) := ⟨_, Tryd.underlying69⟩
theorem infoBr : (Tryd.prog.info? 69).map (·.size) = some 2 := by kernel_rfl
set_option maxHeartbeats 1000000 in
theorem leafC (g : Nat) (x : ByteArray) (r : List UInt8) (ns : Bool) (hd : Hid (r.head? = some 61)) (st : Nat) (ks : List Nat) (big B : Bool) (r' : List UInt8) (hN : Hid (Pa.lnR r = ((st, ks), big, B, r'))) (hs : Pa.Suf x r) (hz : x.size ≤ 1048576) (w : World) (h : Rd w g x r ns) :
    Calls Tryd.prog 77 #[.pointer (some ⟨g, 0, none⟩)] w fun e w' => ks = [] ∧ e = .returned (.tuple #[.agg #[.int .u8 (st : Nat), .slice none 0 0], .bool B]) ∧ Rd w' g x r' (ns || big) ∧ w.grownBy w' (some g) := by
  obtain ⟨⟨b1, r1⟩, hsk⟩ : ∃ Z, Pa.wrdR [61, 32] r = Z := ⟨_, rfl⟩
  obtain ⟨fs, hfs⟩ := underBr
  have HF : Hid (Tryd.prog.underlying 69 = some (.struct fs)) := hfs
  clear hfs
  obtain ⟨W1, hW1, sz1, g1, B1⟩ := boxn w #[.int .u8 0, .slice none 0 0] 69
  have hne : g ≠ w.heap.size := Nat.ne_of_lt h.lt
  have hw1 := wordC g x r ns ⟨#[61, 32]⟩ (by decide) b1 r1 hsk hs hz W1 (h.kept g1 (by simp))
  have hs1 : Pa.Suf x r1 := by have := Pa.wrdR_suf [61, 32] r; rw [hsk] at this; exact hs.of this
  have HN := hN.out
  unfold Pa.lnR at HN
  rw [if_pos hd.out, hsk] at HN
  simp only at HN
  have c0 := B1.cell 0 (v := .int .u8 0) rfl
  have c1 := B1.cell 1 (v := .slice none 0 0) rfl
  have f0 := B1.frozen 0
  have f1 := B1.frozen 1
  clear h hN hsk hd
  cases b1 with
  | false =>
    simp at HN
    obtain ⟨⟨rfl, rfl⟩, rfl, rfl, rfl⟩ := HN
    rw [Bool.or_false]
    have HB1 : Hid (Bo W1 w.heap.size 69 #[.int .u8 0, .slice none 0 0]) := B1
    have HG1 : Hid (w.grownBy W1 none) := g1
    clear B1 g1
    go_enter Tryd.func77, Tryd.ntmps77
    go_wp2_with (first | (go_at_call 73; refine hw1.mono ?_; rintro e w2 ⟨rfl, hR1, hG2⟩; have BB := HB1.out.kept hG2 (by simp; exact fun e => hne e.symm); have bc0 := BB.cell 0 (v := .int .u8 0) rfl; have bc1 := BB.cell 1 (v := .slice none 0 0) rfl; have bf0 := BB.frozen 0; have bf1 := BB.frozen 1))
    have le : w.heap.size ≤ w.heap.size := Nat.le_refl _
    have hG1 := gb_trans' HG1.out hG2
    refine ret_c2 (g := w.heap.size) (t := 69) (cs := #[.int .u8 0, .slice none 0 0]) rfl HF.out infoBr rfl (by first | exact (BB.set 0 _).set 1 _ | exact BB) rfl ⟨by trivial, rfl, ?_, ?_⟩
    · exact (hR1.set2 (Ne.symm hne)).set2 (Ne.symm hne)
    · exact gb_new (gb_new hG1 le _) le _
  | true =>
    simp only [if_true] at HN
    obtain ⟨⟨n1, r2⟩, hnu⟩ : ∃ Z, Pa.numR 9 0 r1 = Z := ⟨_, rfl⟩
    obtain ⟨B2, hB2⟩ : ∃ B2, decide (r2.length < r1.length) = B2 := ⟨_, rfl⟩
    have hn := fun w1 hR => numberC g x r1 ns n1 r2 hnu B2 hB2 hs1 hz w1 hR
    rw [hnu] at HN
    simp only [hB2, Prod.mk.injEq] at HN
    obtain ⟨⟨rfl, rfl⟩, hbig, rfl, rfl⟩ := HN
    clear hnu hs hs1 hB2
    have HB1 : Hid (Bo W1 w.heap.size 69 #[.int .u8 0, .slice none 0 0]) := B1
    have HG1 : Hid (w.grownBy W1 none) := g1
    have m1 : IntKind.u8.wrap (n1 : Int) = ((n1 % 256 : Nat) : Int) := by rw [IntKind.wrap_u8]; omega
    have HM : Hid (n1 % 256 < 256) := Nat.mod_lt _ (by decide)
    obtain ⟨nm, hnm⟩ : ∃ nm, n1 % 256 = nm := ⟨_, rfl⟩
    rw [hnm] at m1 HM ⊢
    clear hnm B1 g1
    by_cases c5 : 256 ≤ n1
    · have c5' : (256 : Int) ≤ (n1 : Int) := by omega
      obtain rfl : big = true := by rw [← hbig]; exact decide_eq_true c5
      rw [Bool.or_true]
      clear hbig c5
      go_enter Tryd.func77, Tryd.ntmps77
      go_wp2_with (first | (go_at_call 73; refine hw1.mono ?_; rintro e w2 ⟨rfl, hR1, hG2⟩) | (go_at_call 84; refine (hn _ hR1).mono ?_; rintro e w3 ⟨rfl, hR2, hG3⟩; have BB := (HB1.out.kept hG2 (by simp; exact fun e => hne e.symm)).kept hG3 (by simp; exact fun e => hne e.symm); have bc0 := BB.cell 0 (v := .int .u8 0) rfl; have bc1 := BB.cell 1 (v := .slice none 0 0) rfl; have bf0 := BB.frozen 0; have bf1 := BB.frozen 1; have rm2 := hR2.c2; have rf2 := hR2.fz 2; have hne2 := hne; have hne3 := Ne.symm hne))
      have le : w.heap.size ≤ w.heap.size := Nat.le_refl _
      have hG1 := gb_one (gb_trans' HG1.out hG2) hG3
      refine ret_c2 (g := w.heap.size) (t := 69) (cs := #[.int .u8 (nm : Nat), .slice none 0 0]) rfl HF.out infoBr rfl (((BB.set2 hne).set 0 _).set 1 _) rfl ⟨by trivial, rfl, ?_, ?_⟩
      · exact ((Rd.mark hR2).set2 (Ne.symm hne)).set2 (Ne.symm hne)
      · exact gb_new (gb_new (gb_set hG1 _ _) le _) le _
    · have c5' : ¬ (256 : Int) ≤ (n1 : Int) := by omega
      obtain rfl : big = false := by rw [← hbig]; exact decide_eq_false c5
      rw [Bool.or_false]
      clear hbig c5
      go_enter Tryd.func77, Tryd.ntmps77
      go_wp2_with (first | (go_at_call 73; refine hw1.mono ?_; rintro e w2 ⟨rfl, hR1, hG2⟩) | (go_at_call 84; refine (hn _ hR1).mono ?_; rintro e w3 ⟨rfl, hR2, hG3⟩; have BB := (HB1.out.kept hG2 (by simp; exact fun e => hne e.symm)).kept hG3 (by simp; exact fun e => hne e.symm); have bc0 := BB.cell 0 (v := .int .u8 0) rfl; have bc1 := BB.cell 1 (v := .slice none 0 0) rfl; have bf0 := BB.frozen 0; have bf1 := BB.frozen 1))
      have le : w.heap.size ≤ w.heap.size := Nat.le_refl _
      have hG1 := gb_one (gb_trans' HG1.out hG2) hG3
      refine ret_c2 (g := w.heap.size) (t := 69) (cs := #[.int .u8 (nm : Nat), .slice none 0 0]) rfl HF.out infoBr rfl ((BB.set 0 _).set 1 _) rfl ⟨by trivial, rfl, ?_, ?_⟩
      · exact (hR2.set2 (Ne.symm hne)).set2 (Ne.symm hne)
      · exact gb_new (gb_new hG1 le _) le _
end Rr
end Go.Proofs.YteaionmjbkildabDoor
