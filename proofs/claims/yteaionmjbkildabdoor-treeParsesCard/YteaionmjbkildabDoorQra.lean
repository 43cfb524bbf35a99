/- The reader of a tree's text: small functions. -/
import Derived.Test.YteaionmjbkildabDoorQps
import Derived.Test.YteaionmjbkildabDoorBo
import Derived.Test.YteaionmjbkildabDoorMem
import Derived.Test.YteaionmjbkildabDoorQ1
import Derived.Lib.Hide
import Derived.Deep.QuietTactic
import Derived.BigQuiet
namespace Go.Proofs.YteaionmjbkildabDoor
open Go.RowKit
set_option linter.unusedVariables false
set_option linter.unusedSimpArgs false
set_option maxRecDepth 100000
namespace Rr

/-- A quiet walk, shut: so that nothing looks ahead through operations that are passed over. -/
structure Wq (P : Program) (ops : Array Oper) (C : World → Prop) (Q : Act → Prop) (l : List Oper) (a : Act) : Prop where
  out : wpQuiet P ops C Q l a
theorem Wq.step {P : Program} {ops : Array Oper} {C : World → Prop} {Q : Act → Prop} {a : Act} {o : Oper} {rest : List Oper} (h : ∀ K : Act → Prop, (∀ a, Wq P ops C Q rest a → K a) → if Region.wanted o (yielded ops a.tmps) then o.quiet P a C K else K (a.put o.dst undef)) : Wq P ops C Q (o :: rest) a :=
  ⟨wpQuiet_step (fun K hK => h K (fun a ha => hK a ha.out))⟩
theorem Wq.nil {P : Program} {ops : Array Oper} {C : World → Prop} {Q : Act → Prop} {a : Act} (h : Q a) : Wq P ops C Q [] a := ⟨wpQuiet_nil h⟩

/-- A reader of the text x that has r ahead. -/
def Rd (w : World) (g : Nat) (x : ByteArray) (r : List UInt8) (ns : Bool) : Prop := Bo w g 83 #[.string x, .int .i64 (Pa.po x r : Nat), .bool ns]
theorem Rd.lt {w : World} {g : Nat} {x : ByteArray} {r : List UInt8} {ns : Bool} (h : Rd w g x r ns) : g < w.heap.size := Bo.lt h
theorem Rd.kept {w w' : World} {g : Nat} {x : ByteArray} {r : List UInt8} {ns : Bool} {b : Option Nat} (h : Rd w g x r ns) (hg : w.grownBy w' b) (hne : some g ≠ b) : Rd w' g x r ns := Bo.kept h hg hne
theorem Rd.drew {w : World} {g k : Nat} {x : ByteArray} {r : List UInt8} {ns : Bool} (h : Rd w g x r ns) : Rd (w.drewN k) g x r ns := h
theorem Rd.c0 {w : World} {g : Nat} {x : ByteArray} {r : List UInt8} {ns : Bool} (h : Rd w g x r ns) : w.cell? ⟨g, 0, none⟩ = some (.string x) := Bo.cell h 0 rfl
theorem Rd.c1 {w : World} {g : Nat} {x : ByteArray} {r : List UInt8} {ns : Bool} (h : Rd w g x r ns) : w.cell? ⟨g, 1, none⟩ = some (.int .i64 (Pa.po x r : Nat)) := Bo.cell h 1 rfl
theorem Rd.c2 {w : World} {g : Nat} {x : ByteArray} {r : List UInt8} {ns : Bool} (h : Rd w g x r ns) : w.cell? ⟨g, 2, none⟩ = some (.bool ns) := Bo.cell h 2 rfl
theorem Rd.fz {w : World} {g : Nat} {x : ByteArray} {r : List UInt8} {ns : Bool} (h : Rd w g x r ns) (i : Nat) : w.frozen? ⟨g, i, none⟩ = false := Bo.frozen h i
theorem Rd.set {w : World} {g : Nat} {x : ByteArray} {r : List UInt8} {ns : Bool} (h : Rd w g x r ns) (r' : List UInt8) : Rd (w.setCell ⟨g, 1, none⟩ (.int .i64 (Pa.po x r' : Nat))) g x r' ns := Bo.set h 1 _
theorem Rd.mark {w : World} {g : Nat} {x : ByteArray} {r : List UInt8} {ns : Bool} (h : Rd w g x r ns) : Rd (w.setCell ⟨g, 2, none⟩ (.bool true)) g x r true := Bo.set h 2 _

set_option maxHeartbeats 1000000 in
theorem aheadC (g : Nat) (x : ByteArray) (r : List UInt8) (ns : Bool) (b : UInt8) (bn : Int) (hbn : bn = b.toNat) (B : Bool) (hB : decide (r.head? = some b) = B) (hs : Pa.Suf x r) (hz : x.size ≤ 1048576) (w : World) (h : Rd w g x r ns) :
    Calls Tryd.prog 76 #[.pointer (some ⟨g, 0, none⟩), .int .u8 bn] w fun e w' => e = .returned (.bool B) ∧ ∃ k, w' = w.drewN k := by
  have x0 := h.c0
  have x1 := h.c1
  cases r with
  | nil =>
    obtain rfl : B = false := by rw [← hB]; rfl
    rw [Pa.po_nil] at x1
    clear hB h hs
    go_enter Tryd.func76, Tryd.ntmps76
    go_wp2
    refine wp_region_quiet_lit (by kernel_rfl) (by kernel_rfl) (Wq.out ?_)
    iterate 24 (refine Wq.step (fun K hK => ?_); go_simp; (first | refine hK _ ?_ | (split; (exfalso; omega); refine hK _ ?_)); clear hK K)
    refine Wq.nil ?_
    intro _ hwq
    obtain ⟨nq, hw2⟩ := hwq
    subst hw2
    go_wp2
    go_ret
    exact ⟨rfl, _, rfl⟩
  | cons c r =>
    have h1 := (Pa.po_cons hs).1
    have hb := Pa.po_at hs h1
    obtain ⟨p, hp⟩ : ∃ p, Pa.po x (c :: r) = p := ⟨_, rfl⟩
    have h2 : p < x.size := hp ▸ h1
    have hb2 : (x[p]'h2).toNat = c.toNat := by rw [← hb]; congr 1; simp [hp]
    rw [hp] at x1
    have h3 : (p : Int) < (x.size : Int) := by omega
    have hb3 : ((c.toNat : Int) == bn) = B := by
      rw [← hB, hbn]
      by_cases e : c = b
      · simp [e]
      · have : c.toNat ≠ b.toNat := fun k => e (UInt8.toNat_inj.1 k)
        simp [e]
        omega
    clear hB h hs hb h1 hp hbn
    generalize c.toNat = cn at *
    go_enter Tryd.func76, Tryd.ntmps76
    go_wp2
    refine wp_region_quiet_lit (by kernel_rfl) (by kernel_rfl) (Wq.out ?_)
    iterate 24 (refine Wq.step (fun K hK => ?_); go_simp; (first | refine hK _ ?_ | (split; (exfalso; omega); refine hK _ ?_)); clear hK K)
    refine Wq.nil ?_
    intro _ hwq
    obtain ⟨nq, hw2⟩ := hwq
    subst hw2
    go_wp2
    go_ret
    exact ⟨rfl, _, rfl⟩
set_option maxHeartbeats 1000000 in
theorem digitC (g : Nat) (x : ByteArray) (r : List UInt8) (ns : Bool) (B : Bool) (hB : Pa.hasD r = B) (hs : Pa.Suf x r) (hz : x.size ≤ 1048576) (w : World) (h : Rd w g x r ns) :
    Calls Tryd.prog 90 #[.pointer (some ⟨g, 0, none⟩)] w fun e w' => e = .returned (.bool B) ∧ ∃ k, w' = w.drewN k := by
  have x0 := h.c0
  have x1 := h.c1
  cases r with
  | nil =>
    obtain rfl : B = false := by rw [← hB]; rfl
    rw [Pa.po_nil] at x1
    clear hB h hs
    go_enter Tryd.func90, Tryd.ntmps90
    go_wp2
    refine wp_region_quiet_lit (by kernel_rfl) (by kernel_rfl) (Wq.out ?_)
    iterate 35 (refine Wq.step (fun K hK => ?_); go_simp; (first | refine hK _ ?_ | (split; (exfalso; omega); refine hK _ ?_)); clear hK K)
    refine Wq.nil ?_
    intro _ hwq
    obtain ⟨nq, hw2⟩ := hwq
    subst hw2
    go_wp2
    go_ret
    exact ⟨rfl, _, rfl⟩
  | cons c r =>
    have h1 := (Pa.po_cons hs).1
    have hb := Pa.po_at hs h1
    obtain ⟨p, hp⟩ : ∃ p, Pa.po x (c :: r) = p := ⟨_, rfl⟩
    have h2 : p < x.size := hp ▸ h1
    have hb2 : (x[p]'h2).toNat = c.toNat := by rw [← hb]; congr 1; simp [hp]
    rw [hp] at x1
    have h3 : (p : Int) < (x.size : Int) := by omega
    have hB' : decide (48 ≤ c.toNat ∧ c.toNat ≤ 57) = B := hB
    clear hB h hs hb h1 hp
    generalize c.toNat = cn at *
    by_cases c1 : 48 ≤ cn
    · have d1 : (48 : Int) ≤ (cn : Int) := by omega
      by_cases c2 : cn ≤ 57
      · have d2 : (cn : Int) ≤ 57 := by omega
        obtain rfl : B = true := by rw [← hB']; exact decide_eq_true ⟨c1, c2⟩
        clear hB'
        go_enter Tryd.func90, Tryd.ntmps90
        go_wp2
        refine wp_region_quiet_lit (by kernel_rfl) (by kernel_rfl) (Wq.out ?_)
        iterate 35 (refine Wq.step (fun K hK => ?_); go_simp; (first | refine hK _ ?_ | (split; (exfalso; omega); refine hK _ ?_)); clear hK K)
        refine Wq.nil ?_
        intro _ hwq
        obtain ⟨nq, hw2⟩ := hwq
        subst hw2
        go_wp2
        go_ret
        exact ⟨rfl, _, rfl⟩
      · have d2 : ¬ (cn : Int) ≤ 57 := by omega
        obtain rfl : B = false := by rw [← hB']; exact decide_eq_false (fun k => c2 k.2)
        clear hB'
        go_enter Tryd.func90, Tryd.ntmps90
        go_wp2
        refine wp_region_quiet_lit (by kernel_rfl) (by kernel_rfl) (Wq.out ?_)
        iterate 35 (refine Wq.step (fun K hK => ?_); go_simp; (first | refine hK _ ?_ | (split; (exfalso; omega); refine hK _ ?_)); clear hK K)
        refine Wq.nil ?_
        intro _ hwq
        obtain ⟨nq, hw2⟩ := hwq
        subst hw2
        go_wp2
        go_ret
        rw [show decide ((cn : Int) ≤ 57) = false by simp; omega]
        exact ⟨rfl, _, rfl⟩
    · have d1 : ¬ (48 : Int) ≤ (cn : Int) := by omega
      obtain rfl : B = false := by rw [← hB']; exact decide_eq_false (fun k => c1 k.1)
      clear hB'
      go_enter Tryd.func90, Tryd.ntmps90
      go_wp2
      refine wp_region_quiet_lit (by kernel_rfl) (by kernel_rfl) (Wq.out ?_)
      iterate 35 (refine Wq.step (fun K hK => ?_); go_simp; (first | refine hK _ ?_ | (split; (exfalso; omega); refine hK _ ?_)); clear hK K)
      refine Wq.nil ?_
      intro _ hwq
      obtain ⟨nq, hw2⟩ := hwq
      subst hw2
      go_wp2
      go_ret
      exact ⟨rfl, _, rfl⟩
theorem skipC (g : Nat) (x : ByteArray) (r : List UInt8) (ns : Bool) (b : UInt8) (bn : Int) (hbn : bn = b.toNat) (B : Bool) (r' : List UInt8) (hB : Pa.skR b r = (B, r')) (hs : Pa.Suf x r) (hz : x.size ≤ 1048576) (w : World) (h : Rd w g x r ns) :
    Calls Tryd.prog 75 #[.pointer (some ⟨g, 0, none⟩), .int .u8 bn] w fun e w' => e = .returned (.bool B) ∧ Rd w' g x r' ns ∧ w.grownBy w' (some g) := by
  have ha := fun B hB => aheadC g x r ns b bn hbn B hB hs hz w h
  cases r with
  | nil =>
    have e1 : (false, ([] : List UInt8)) = (B, r') := hB
    obtain ⟨rfl, rfl⟩ := Prod.mk.inj e1
    have ha := ha false rfl
    have HD : Hid (Rd w g x [] ns) := h
    clear h hB hs hbn e1 hz
    go_enter Tryd.func75, Tryd.ntmps75
    go_wp2_with (first | (go_at_call 76; refine ha.mono ?_; rintro e w1 ⟨rfl, k, rfl⟩))
    go_ret
    exact ⟨rfl, Rd.drew HD.out, gb_drewN (World.grownBy.refl w (some g)) k⟩
  | cons c r =>
    by_cases hc : c = b
    · have e1 : (true, r) = (B, r') := by rw [← hB]; simp [Pa.skR, hc]
      obtain ⟨rfl, rfl⟩ := Prod.mk.inj e1
      have ha := ha true (by simp [hc])
      obtain ⟨h1, h2⟩ := Pa.po_cons hs
      have x1 := h.c1
      have y1 := h.fz 1
      have hw : IntKind.i64.wrap ((Pa.po x (c :: r) : Nat) + 1 : Int) = ((Pa.po x r : Nat) : Int) := by rw [IntKind.wrap_i64]; omega
      have HD : Hid (Rd w g x (c :: r) ns) := h
      clear h hB hs h1 h2 hbn e1
      generalize hp : Pa.po x (c :: r) = p at *
      go_enter Tryd.func75, Tryd.ntmps75
      go_wp2_with (first | (go_at_call 76; refine ha.mono ?_; rintro e w1 ⟨rfl, k, rfl⟩))
      go_ret
      exact ⟨rfl, Rd.set (w := w.drewN k) HD.out r, gb_set (gb_drewN (World.grownBy.refl w (some g)) k) _ _⟩
    · have e1 : (false, c :: r) = (B, r') := by rw [← hB]; simp [Pa.skR, hc]
      obtain ⟨rfl, rfl⟩ := Prod.mk.inj e1
      have ha := ha false (by simp [hc])
      have HD : Hid (Rd w g x (c :: r) ns) := h
      clear h hB hs hbn e1 hz hc
      go_enter Tryd.func75, Tryd.ntmps75
      go_wp2_with (first | (go_at_call 76; refine ha.mono ?_; rintro e w1 ⟨rfl, k, rfl⟩))
      go_ret
      exact ⟨rfl, Rd.drew HD.out, gb_drewN (World.grownBy.refl w (some g)) k⟩
end Rr
end Go.Proofs.YteaionmjbkildabDoor
