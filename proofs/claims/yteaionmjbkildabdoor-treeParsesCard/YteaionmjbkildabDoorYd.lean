/- The document's reader of a tree's text: takes, number. -/
import Derived.Test.YteaionmjbkildabDoorQrh
import Derived.Laws.OwnMore
namespace Go.Proofs.YteaionmjbkildabDoor
open Go.RowKit
set_option linter.unusedVariables false
set_option linter.unusedSimpArgs false
set_option maxRecDepth 100000
namespace Rr
/-- A reader of the text x that has r ahead; is it bad? -/
def Dd (w : World) (g : Nat) (x : ByteArray) (r : List UInt8) (b : Bool) : Prop := Bo w g 77 #[.string x, .int .i64 (Pa.po x r : Nat), .bool b]
theorem Dd.lt {w : World} {g : Nat} {x : ByteArray} {r : List UInt8} {b : Bool} (h : Dd w g x r b) : g < w.heap.size := Bo.lt h
theorem Dd.kept {w : World} {g : Nat} {x : ByteArray} {r : List UInt8} {b : Bool} {w' : World} {q : Option Nat} (h : Dd w g x r b) (hg : w.grownBy w' q) (hne : some g ≠ q) : Dd w' g x r b := Bo.kept h hg hne
theorem Dd.drew {w : World} {g : Nat} {x : ByteArray} {r : List UInt8} {b : Bool} {k : Nat} (h : Dd w g x r b) : Dd (w.drewN k) g x r b := h
theorem Dd.c0 {w : World} {g : Nat} {x : ByteArray} {r : List UInt8} {b : Bool} (h : Dd w g x r b) : w.cell? ⟨g, 0, none⟩ = some (.string x) := Bo.cell h 0 rfl
theorem Dd.c1 {w : World} {g : Nat} {x : ByteArray} {r : List UInt8} {b : Bool} (h : Dd w g x r b) : w.cell? ⟨g, 1, none⟩ = some (.int .i64 (Pa.po x r : Nat)) := Bo.cell h 1 rfl
theorem Dd.c2 {w : World} {g : Nat} {x : ByteArray} {r : List UInt8} {b : Bool} (h : Dd w g x r b) : w.cell? ⟨g, 2, none⟩ = some (.bool b) := Bo.cell h 2 rfl
theorem Dd.fz {w : World} {g : Nat} {x : ByteArray} {r : List UInt8} {b : Bool} (h : Dd w g x r b) (i : Nat) : w.frozen? ⟨g, i, none⟩ = false := Bo.frozen h i
theorem Dd.set {w : World} {g : Nat} {x : ByteArray} {r : List UInt8} {b : Bool} (h : Dd w g x r b) (r' : List UInt8) : Dd (w.setCell ⟨g, 1, none⟩ (.int .i64 (Pa.po x r' : Nat))) g x r' b := Bo.set h 1 _
theorem Dd.mark {w : World} {g : Nat} {x : ByteArray} {r : List UInt8} {b : Bool} (h : Dd w g x r b) : Dd (w.setCell ⟨g, 2, none⟩ (.bool true)) g x r true := Bo.set h 2 _
theorem Dd.set2 {w : World} {g : Nat} {x : ByteArray} {r : List UInt8} {b : Bool} (h : Dd w g x r b) {q i : Nat} {v : Value} (hb : q ≠ g) : Dd (w.setCell ⟨q, i, none⟩ v) g x r b := Bo.set2 h hb
theorem dtakesB (g : Nat) (x : ByteArray) (r : List UInt8) (y : ByteArray) (w : World) (h : Dd w g x r true) :
    Calls Tryd.prog 38 #[.pointer (some ⟨g, 0, none⟩), .string y] w fun e w' => e = .returned (.tuple #[]) ∧ Dd w' g x r true ∧ w.grownBy w' (some g) := by
  have x2 := h.c2
  have HD : Hid (Dd w g x r true) := h
  clear h
  go_enter Tryd.func38, Tryd.ntmps38
  go_wp2
  go_loopw [4] (fun v wr => v = .int .i64 0 ∧ wr = w) (fun _ _ => 0)
  case atStart => exact ⟨rfl, rfl⟩
  case round =>
    obtain ⟨rfl, rfl⟩ := hrel
    cases hz : decide ((0 : Int) < (y.size : Int)) with
    | true =>
      have hz' : (0 : Int) < (y.size : Int) := of_decide_eq_true hz
      clear hz
      go_wp2
      (first | (refine bodyPost_ret (results_none rfl _ _ _) rfl ?_) | (refine bodyPost_end (results_none rfl _ _ _) rfl ?_))
      exact ⟨rfl, HD.out, World.grownBy.refl _ _⟩
    | false =>
      have hz' : ¬ (0 : Int) < (y.size : Int) := of_decide_eq_false hz
      clear hz
      go_wp2
      (first | (refine bodyPost_ret (results_none rfl _ _ _) rfl ?_) | (refine bodyPost_end (results_none rfl _ _ _) rfl ?_))
      exact ⟨rfl, HD.out, World.grownBy.refl _ _⟩

set_option maxHeartbeats 2000000 in
theorem dtakesC (g : Nat) (x : ByteArray) (r : List UInt8) (y : ByteArray) (hy : y.size ≤ 1000) (B : Bool) (r' : List UInt8) (hW : Hid (Pa.wrdR y.data.toList r = (B, r'))) (hs : Pa.Suf x r) (hz : x.size ≤ 1048576) (w : World) (h : Dd w g x r false) :
    Calls Tryd.prog 38 #[.pointer (some ⟨g, 0, none⟩), .string y] w fun e w' => e = .returned (.tuple #[]) ∧ Dd w' g x r' (!B) ∧ w.grownBy w' (some g) := by
  have H0 : Hid (Dd w g x r false) := h
  have HS : Hid (Pa.Suf x r) := hs
  clear h hs
  go_enter Tryd.func38, Tryd.ntmps38
  go_wp2
  go_loopw [4] (fun v wr => ∃ (ws rr : List UInt8), v = .int .i64 (Pa.po y ws : Nat) ∧ Hid (Pa.Suf y ws) ∧ Hid (Pa.Suf x rr) ∧ Hid (Pa.wrdR ws rr = (B, r')) ∧ Hid (Dd wr g x rr false) ∧ Hid (w.grownBy wr (some g))) (fun v _ => y.size - (intOf v).toNat)
  case atStart => exact ⟨y.data.toList, r, by rw [Pa.po_all]; rfl, Pa.Suf.all y, HS.out, hW.out, H0.out, World.grownBy.refl _ _⟩
  case round =>
    obtain ⟨ws, rr, rfl, hsy, hsx, hw, HR, HG⟩ := hrel
    have x0 := HR.out.c0
    have x1 := HR.out.c1
    have x2 := HR.out.c2
    cases ws with
    | nil =>
      have e : (true, rr) = (B, r') := hw.out
      obtain ⟨rfl, rfl⟩ := Prod.mk.inj e
      clear e
      rw [Pa.po_nil]
      go_wp2
      (first | (refine bodyPost_ret (results_none rfl _ _ _) rfl ?_) | (refine bodyPost_end (results_none rfl _ _ _) rfl ?_))
      exact ⟨rfl, HR.out, HG.out⟩
    | cons c ws =>
      obtain ⟨h1, h2⟩ := Pa.po_cons hsy.out
      have hb := Pa.po_at hsy.out h1
      obtain ⟨p, hp⟩ : ∃ p, Pa.po y (c :: ws) = p := ⟨_, rfl⟩
      have h3 : p < y.size := hp ▸ h1
      have hb2 : (y[p]'h3).toNat = c.toNat := by rw [← hb]; congr 1; simp [hp]
      have h4 : (p : Int) < (y.size : Int) := by omega
      rw [hp] at h2 ⊢
      have HQ : Hid (Pa.po y ws = p + 1) := h2
      have HY : Hid (y.size ≤ 1000) := hy
      have f2 := HR.out.fz 2
      have f1 := HR.out.fz 1
      have hw1 : IntKind.i64.wrap ((p : Int) + 1) = ((p + 1 : Nat) : Int) := by rw [IntKind.wrap_i64]; have := HY.out; omega
      clear hb hp h1 h2
      cases rr with
      | nil =>
        have e : (false, ([] : List UInt8)) = (B, r') := by rw [← hw.out]; rfl
        obtain ⟨rfl, rfl⟩ := Prod.mk.inj e
        clear e
        rw [Pa.po_nil] at x1
        go_wp2
        refine wp_region_quiet_lit (by kernel_rfl) (by kernel_rfl) (Wq.out ?_)
        iterate 25 (refine Wq.step (fun K hK => ?_); go_simp; (first | refine hK _ ?_ | (split; (exfalso; omega); refine hK _ ?_)); clear hK K)
        refine Wq.nil ?_
        intro _ hwq
        obtain ⟨nq, hw2⟩ := hwq
        subst hw2
        go_wp2
        (first | (refine bodyPost_ret (results_none rfl _ _ _) rfl ?_) | (refine bodyPost_end (results_none rfl _ _ _) rfl ?_))
        exact ⟨rfl, Dd.mark (w := wr.drewN nq) HR.out, gb_set (gb_drewN HG.out _) _ _⟩
      | cons d rr =>
        obtain ⟨j1, j2⟩ := Pa.po_cons hsx.out
        have jb := Pa.po_at hsx.out j1
        obtain ⟨q, hq⟩ : ∃ q, Pa.po x (d :: rr) = q := ⟨_, rfl⟩
        have j3 : q < x.size := hq ▸ j1
        have jb2 : (x[q]'j3).toNat = d.toNat := by rw [← jb]; congr 1; simp [hq]
        have j4 : ¬ (x.size : Int) ≤ (q : Int) := by omega
        have j5 : (q : Int) < (x.size : Int) := by omega
        have hw2 : IntKind.i64.wrap ((q : Int) + 1) = ((Pa.po x rr : Nat) : Int) := by rw [IntKind.wrap_i64]; rw [j2]; omega
        rw [hq] at x1
        clear jb j1 j2 hq
        by_cases ed : d = c
        · have e1 : ((d.toNat : Int) != (c.toNat : Int)) = false := by subst ed; simp
          have e : Hid (Pa.wrdR ws rr = (B, r')) := by have := hw.out; rw [Pa.wrdR, show Pa.skR c (d :: rr) = (true, rr) by simp [Pa.skR, ed]] at this; exact this
          generalize d.toNat = dn at *
          generalize c.toNat = cn at *
          clear ed
          go_wp2
          refine wp_region_quiet_lit (by kernel_rfl) (by kernel_rfl) (Wq.out ?_)
          iterate 25 (refine Wq.step (fun K hK => ?_); go_simp; (first | refine hK _ ?_ | (split; (exfalso; omega); refine hK _ ?_)); clear hK K)
          refine Wq.nil ?_
          intro _ hwq
          obtain ⟨nq, hw2⟩ := hwq
          subst hw2
          go_wp2
          go_roundw
          case rel =>
            refine ⟨ws, rr, ?_, hsy.out.tail, hsx.out.tail, e, Dd.set (w := wr.drewN nq) HR.out rr, gb_set (gb_drewN HG.out _) _ _⟩
            rw [HQ.out]; go_num
          case measure => simp [intOf]; omega
        · have e1 : ((d.toNat : Int) != (c.toNat : Int)) = true := by
            have : d.toNat ≠ c.toNat := fun k => ed (UInt8.toNat_inj.1 k)
            simp; omega
          have e : (false, d :: rr) = (B, r') := by rw [← hw.out, Pa.wrdR, show Pa.skR c (d :: rr) = (false, d :: rr) by simp [Pa.skR, ed]]; rfl
          obtain ⟨rfl, rfl⟩ := Prod.mk.inj e
          generalize d.toNat = dn at *
          generalize c.toNat = cn at *
          clear ed e
          go_wp2
          refine wp_region_quiet_lit (by kernel_rfl) (by kernel_rfl) (Wq.out ?_)
          iterate 25 (refine Wq.step (fun K hK => ?_); go_simp; (first | refine hK _ ?_ | (split; (exfalso; omega); refine hK _ ?_)); clear hK K)
          refine Wq.nil ?_
          intro _ hwq
          obtain ⟨nq, hw2⟩ := hwq
          subst hw2
          go_wp2
          (first | (refine bodyPost_ret (results_none rfl _ _ _) rfl ?_) | (refine bodyPost_end (results_none rfl _ _ _) rfl ?_))
          exact ⟨rfl, Dd.mark (w := wr.drewN nq) HR.out, gb_set (gb_drewN HG.out _) _ _⟩
end Rr
end Go.Proofs.YteaionmjbkildabDoor
namespace Go.Proofs.YteaionmjbkildabDoor
open Go.RowKit
set_option linter.unusedVariables false
set_option linter.unusedSimpArgs false
set_option maxRecDepth 100000
namespace Rr
set_option maxHeartbeats 1000000 in
theorem dnumberB (g : Nat) (x : ByteArray) (r : List UInt8) (w : World) (h : Dd w g x r true) :
    Calls Tryd.prog 39 #[.pointer (some ⟨g, 0, none⟩)] w fun e w' => e = .returned (.int .i64 0) ∧ Dd w' g x r true ∧ w.grownBy w' (some g) := by
  have x2 := h.c2
  have f2 := h.fz 2
  have HD : Hid (Dd w g x r true) := h
  clear h
  go_enter Tryd.func39, Tryd.ntmps39
  go_wp2
  go_loopw [3, 4] (fun v u wr => v = .int .i64 0 ∧ u = .int .i64 0 ∧ wr = w) (fun _ _ _ => 0)
  case atStart => exact ⟨rfl, rfl, rfl⟩
  case round =>
    obtain ⟨rfl, rfl, rfl⟩ := hrel
    go_wp2
    refine wp_region_quiet_lit (by kernel_rfl) (by kernel_rfl) (Wq.out ?_)
    iterate 53 (refine Wq.step (fun K hK => ?_); go_simp; (first | refine hK _ ?_ | (split; (exfalso; omega); refine hK _ ?_)); clear hK K)
    refine Wq.nil ?_
    intro _ hwq
    obtain ⟨nq, hw2⟩ := hwq
    subst hw2
    go_wp2
    go_ret
    exact ⟨rfl, Dd.mark (w := wr.drewN nq) HD.out, gb_set (gb_drewN (World.grownBy.refl wr (some g)) _) _ _⟩
set_option maxHeartbeats 4000000 in
theorem dnumberC (g : Nat) (x : ByteArray) (r : List UInt8) (n' : Nat) (r' : List UInt8) (hN : Hid (Pa.numR 9 0 r = (n', r'))) (B : Bool) (hB : Hid (decide (r'.length < r.length) = B)) (hs : Pa.Suf x r) (hz : x.size ≤ 1048576) (w : World) (h : Dd w g x r false) :
    Calls Tryd.prog 39 #[.pointer (some ⟨g, 0, none⟩)] w fun e w' => e = .returned (.int .i64 (n' : Nat)) ∧ Dd w' g x r' (!B) ∧ w.grownBy w' (some g) := by
  have H0 : Hid (Dd w g x r false) := h
  have hnu : Nu x r (n', r') 0 0 r := hN.out ▸ Nu.start hs
  have HS : Hid (Pa.Suf x r) := hs
  have HZ : Hid (x.size ≤ 1048576) := hz
  clear h hs hz
  go_enter Tryd.func39, Tryd.ntmps39
  go_wp2
  go_loopw [3, 4] (fun v v4 wr => ∃ (k n : Nat) (rr : List UInt8), v = .int .i64 (n : Nat) ∧ v4 = .int .i64 (k : Nat) ∧ Hid ((Nu x r (n', r') k n rr ∧ (0 < k → 0 < n)) ∨ (0 < k ∧ n = 0 ∧ (n', r') = (0, rr))) ∧ Hid (Pa.Suf x rr) ∧ Hid (Pa.po x rr = Pa.po x r + k ∧ k ≤ 9) ∧ Hid (Dd wr g x rr false) ∧ Hid (w.grownBy wr (some g))) (fun _ v4 _ => 9 - (intOf v4).toNat)
  case atStart => exact ⟨0, 0, r, rfl, rfl, .inl ⟨hnu, fun q => by omega⟩, HS.out, ⟨rfl, by omega⟩, H0.out, World.grownBy.refl _ _⟩
  case round =>
    clear hnu H0
    obtain ⟨k, n, rr, rfl, rfl, hst, hsx, hpo, HR, HG⟩ := hrel
    have x0 := HR.out.c0
    have x1 := HR.out.c1
    have x2 := HR.out.c2
    have f2 := HR.out.fz 2
    cases rr with
    | nil =>
      have hZ : Hid ((n', r') = (n, [])) := by
        rcases hst.out with ⟨h, _⟩ | ⟨_, rfl, h⟩
        · exact h.stop rfl
        · exact h
      rw [Pa.po_nil] at x1
      clear hst
      obtain ⟨rfl, rfl⟩ := Prod.mk.inj hZ.out
      go_wp2
      refine wp_region_quiet_lit (by kernel_rfl) (by kernel_rfl) (Wq.out ?_)
      iterate 53 (refine Wq.step (fun K hK => ?_); go_simp; (first | refine hK _ ?_ | (split; (exfalso; omega); refine hK _ ?_)); clear hK K)
      refine Wq.nil ?_
      intro _ hwq
      obtain ⟨nq, hw2⟩ := hwq
      subst hw2
      by_cases hk0 : k = 0
      · subst hk0
        have hBf : B = false := by rw [← hB.out]; exact decide_eq_false (fun q => by have := (Pa.po_inj HS.out hsx.out).2 q; have := hpo.out; omega)
        subst hBf
        go_wp2
        go_ret
        exact ⟨rfl, Dd.mark (w := wr.drewN nq) HR.out, gb_set (gb_drewN HG.out _) _ _⟩
      · have hk1 : (((k : Nat) : Int) == 0) = false := by simp; omega
        have hBt : B = true := by rw [← hB.out]; exact decide_eq_true ((Pa.po_inj HS.out hsx.out).1 (by have := hpo.out; omega))
        subst hBt
        go_wp2
        go_ret
        exact ⟨rfl, Dd.drew HR.out, gb_drewN HG.out _⟩
    | cons c r2 =>
      have hlt := Pa.po_cons hsx.out
      have hb := Pa.po_at hsx.out hlt.1
      have hlt1 := hlt.1
      obtain ⟨cn, hcn⟩ : ∃ cn, c.toNat = cn := ⟨_, rfl⟩
      have HCN : Hid (c.toNat = cn) := hcn
      rw [hcn] at hb
      obtain ⟨p, hp2⟩ : ∃ p, Pa.po x (c :: r2) = p := ⟨_, rfl⟩
      have HP : Hid (Pa.po x (c :: r2) = p) := hp2
      have h2 : p < x.size := hp2 ▸ hlt1
      have hb2 : (x[p]'h2).toNat = cn := by rw [← hb]; congr 1; simp [hp2]
      have h3 : (p : Int) < (x.size : Int) := by omega
      have hpb : Hid (p < 1048576) := by have := HZ.out; unfold Hid; omega
      rw [hp2] at x1
      have hdc : Pa.dgB c = decide (48 ≤ cn ∧ cn ≤ 57) := by unfold Pa.dgB; rw [hcn]
      clear hb hlt hlt1 hcn hp2
      by_cases c1 : 48 ≤ cn
      · have d1 : (48 : Int) ≤ (cn : Int) := by omega
        by_cases c2 : cn ≤ 57
        · have d2 : (cn : Int) ≤ 57 := by omega
          have HC : Hid (Pa.dgB c = true) := by unfold Hid; rw [hdc]; exact decide_eq_true ⟨c1, c2⟩
          clear hdc
          by_cases hk9 : k < 9
          · have k9 : ((k : Nat) : Int) < 9 := by omega
            by_cases hk0 : k = 0
            · have hA : Nu x r (n', r') k n (c :: r2) := by
                rcases hst.out with ⟨h, _⟩ | ⟨h, _⟩
                · exact h
                · omega
              have k0 : (((k : Nat) : Int) == 0) = true := by subst hk0; rfl
              clear hst hk0
              have hAA : Hid (Nu x r (n', r') k n (c :: r2)) := hA
              have hlt := Pa.po_cons hsx.out
              have hw2 : IntKind.i64.wrap ((p : Int) + 1) = ((Pa.po x r2 : Nat) : Int) := by rw [IntKind.wrap_i64, hlt.2, HP.out]; have := hpb.out; omega
              have hn9 := pow9 hA.le hA.lt
              obtain ⟨d, hd⟩ : ∃ d, cn - 48 = d := ⟨_, rfl⟩
              obtain ⟨t, ht⟩ : ∃ t, 10 * n = t := ⟨_, rfl⟩
              have m1 : IntKind.i64.wrap (10 * (n : Int)) = ((t : Nat) : Int) := by rw [IntKind.wrap_i64]; omega
              have m2 : IntKind.u8.wrap ((cn : Int) - 48) = ((d : Nat) : Int) := by rw [IntKind.wrap_u8]; omega
              have m3 : IntKind.i64.wrap ((d : Nat) : Int) = ((d : Nat) : Int) := by rw [IntKind.wrap_i64]; omega
              have m4 : IntKind.i64.wrap (((t : Nat) : Int) + ((d : Nat) : Int)) = (((t + d : Nat)) : Int) := by rw [IntKind.wrap_i64]; omega
              have m5 : IntKind.i64.wrap (((k : Nat) : Int) + 1) = ((k + 1 : Nat) : Int) := by rw [IntKind.wrap_i64]; omega
              have HV : Hid (10 * n + (c.toNat - 48) = t + d) := by have := HCN.out; unfold Hid; omega
              clear hd ht hn9
              obtain ⟨u, hu⟩ : ∃ u, t + d = u := ⟨_, rfl⟩
              rw [hu] at m4
              have HV2 : Hid (10 * n + (c.toNat - 48) = u) := by rw [← hu]; exact HV
              obtain ⟨q, hq2⟩ : ∃ q, Pa.po x r2 = q := ⟨_, rfl⟩
              have HQ : Hid (Pa.po x r2 = q) := hq2
              rw [hq2] at hw2
              have HL2 : Hid (Pa.po x r2 = Pa.po x (c :: r2) + 1) := hlt.2
              have HK9 : Hid (k < 9) := hk9
              have f1 := HR.out.fz 1
              clear HV hu hq2 hlt hA hk9
              go_wp2
              refine wp_region_quiet_lit (by kernel_rfl) (by kernel_rfl) (Wq.out ?_)
              iterate 53 (refine Wq.step (fun K hK => ?_); go_simp; (first | refine hK _ ?_ | (split; (exfalso; omega); refine hK _ ?_)); clear hK K)
              refine Wq.nil ?_
              intro _ hwq
              obtain ⟨nq, hw2⟩ := hwq
              subst hw2
              go_wp2
              go_quiet (fail)
              go_wp2
              go_roundw
              case rel =>
                refine ⟨k + 1, u, r2, rfl, rfl, ?_, hsx.out.tail, ?_, ?_, ?_⟩
                · by_cases h00 : u = 0
                  · refine .inr ⟨by omega, h00, hAA.out.zero HC.out HK9.out (by rw [HV2.out]; exact h00)⟩
                  · have hx := hAA.out.next HC.out HK9.out (by rw [HV2.out]; exact h00)
                    rw [HV2.out] at hx
                    exact .inl ⟨hx, fun _ => by omega⟩
                · have h1 := hpo.out
                  have h2 := HL2.out
                  have h3 := HK9.out
                  unfold Hid
                  omega
                · show Dd _ g x r2 false
                  rw [← HQ.out]
                  first
                    | exact Dd.set (w := wr.drewN _) HR.out r2
                    | exact Dd.set (w := (wr.drewN _).drewN _) HR.out r2
                · first
                    | exact gb_set (gb_drewN HG.out _) _ _
                    | exact gb_set (gb_drewN (gb_drewN HG.out _) _) _ _
              case measure => simp [intOf]; have := HK9.out; omega
            · have k0 : (((k : Nat) : Int) == 0) = false := by simp; omega
              by_cases hn : 0 < n
              · have hA : Nu x r (n', r') k n (c :: r2) := by
                  rcases hst.out with ⟨h, _⟩ | ⟨_, h, _⟩
                  · exact h
                  · omega
                have n0 : (0 : Int) < (n : Int) := by omega
                clear hst hk0
                have hAA : Hid (Nu x r (n', r') k n (c :: r2)) := hA
                have hlt := Pa.po_cons hsx.out
                have hw2 : IntKind.i64.wrap ((p : Int) + 1) = ((Pa.po x r2 : Nat) : Int) := by rw [IntKind.wrap_i64, hlt.2, HP.out]; have := hpb.out; omega
                have hn9 := pow9 hA.le hA.lt
                obtain ⟨d, hd⟩ : ∃ d, cn - 48 = d := ⟨_, rfl⟩
                obtain ⟨t, ht⟩ : ∃ t, 10 * n = t := ⟨_, rfl⟩
                have m1 : IntKind.i64.wrap (10 * (n : Int)) = ((t : Nat) : Int) := by rw [IntKind.wrap_i64]; omega
                have m2 : IntKind.u8.wrap ((cn : Int) - 48) = ((d : Nat) : Int) := by rw [IntKind.wrap_u8]; omega
                have m3 : IntKind.i64.wrap ((d : Nat) : Int) = ((d : Nat) : Int) := by rw [IntKind.wrap_i64]; omega
                have m4 : IntKind.i64.wrap (((t : Nat) : Int) + ((d : Nat) : Int)) = (((t + d : Nat)) : Int) := by rw [IntKind.wrap_i64]; omega
                have m5 : IntKind.i64.wrap (((k : Nat) : Int) + 1) = ((k + 1 : Nat) : Int) := by rw [IntKind.wrap_i64]; omega
                have HV : Hid (10 * n + (c.toNat - 48) = t + d) := by have := HCN.out; unfold Hid; omega
                clear hd ht hn9
                obtain ⟨u, hu⟩ : ∃ u, t + d = u := ⟨_, rfl⟩
                rw [hu] at m4
                have HV2 : Hid (10 * n + (c.toNat - 48) = u) := by rw [← hu]; exact HV
                obtain ⟨q, hq2⟩ : ∃ q, Pa.po x r2 = q := ⟨_, rfl⟩
                have HQ : Hid (Pa.po x r2 = q) := hq2
                rw [hq2] at hw2
                have HL2 : Hid (Pa.po x r2 = Pa.po x (c :: r2) + 1) := hlt.2
                have HK9 : Hid (k < 9) := hk9
                have f1 := HR.out.fz 1
                clear HV hu hq2 hlt hA hk9
                go_wp2
                refine wp_region_quiet_lit (by kernel_rfl) (by kernel_rfl) (Wq.out ?_)
                iterate 53 (refine Wq.step (fun K hK => ?_); go_simp; (first | refine hK _ ?_ | (split; (exfalso; omega); refine hK _ ?_)); clear hK K)
                refine Wq.nil ?_
                intro _ hwq
                obtain ⟨nq, hw2⟩ := hwq
                subst hw2
                go_wp2
                go_quiet (fail)
                go_wp2
                go_roundw
                case rel =>
                  refine ⟨k + 1, u, r2, rfl, rfl, ?_, hsx.out.tail, ?_, ?_, ?_⟩
                  · by_cases h00 : u = 0
                    · refine .inr ⟨by omega, h00, hAA.out.zero HC.out HK9.out (by rw [HV2.out]; exact h00)⟩
                    · have hx := hAA.out.next HC.out HK9.out (by rw [HV2.out]; exact h00)
                      rw [HV2.out] at hx
                      exact .inl ⟨hx, fun _ => by omega⟩
                  · have h1 := hpo.out
                    have h2 := HL2.out
                    have h3 := HK9.out
                    unfold Hid
                    omega
                  · show Dd _ g x r2 false
                    rw [← HQ.out]
                    first
                      | exact Dd.set (w := wr.drewN _) HR.out r2
                      | exact Dd.set (w := (wr.drewN _).drewN _) HR.out r2
                  · first
                      | exact gb_set (gb_drewN HG.out _) _ _
                      | exact gb_set (gb_drewN (gb_drewN HG.out _) _) _ _
                case measure => simp [intOf]; have := HK9.out; omega
              · have n0 : ¬ (0 : Int) < (n : Int) := by omega
                have hZ : Hid ((n', r') = (n, c :: r2)) := by
                  rcases hst.out with ⟨_, h⟩ | ⟨_, rfl, h⟩
                  · exact absurd (h (by omega)) hn
                  · exact h
                clear hst hk0
                obtain ⟨rfl, rfl⟩ := Prod.mk.inj hZ.out
                go_wp2
                refine wp_region_quiet_lit (by kernel_rfl) (by kernel_rfl) (Wq.out ?_)
                iterate 53 (refine Wq.step (fun K hK => ?_); go_simp; (first | refine hK _ ?_ | (split; (exfalso; omega); refine hK _ ?_)); clear hK K)
                refine Wq.nil ?_
                intro _ hwq
                obtain ⟨nq, hw2⟩ := hwq
                subst hw2
                by_cases hk0 : k = 0
                · subst hk0
                  have hBf : B = false := by rw [← hB.out]; exact decide_eq_false (fun q => by have := (Pa.po_inj HS.out hsx.out).2 q; have := hpo.out; omega)
                  subst hBf
                  go_wp2
                  go_ret
                  exact ⟨rfl, Dd.mark (w := wr.drewN nq) HR.out, gb_set (gb_drewN HG.out _) _ _⟩
                · have hk1 : (((k : Nat) : Int) == 0) = false := by simp; omega
                  have hBt : B = true := by rw [← hB.out]; exact decide_eq_true ((Pa.po_inj HS.out hsx.out).1 (by have := hpo.out; omega))
                  subst hBt
                  go_wp2
                  go_ret
                  exact ⟨rfl, Dd.drew HR.out, gb_drewN HG.out _⟩
          · have k9 : ¬ ((k : Nat) : Int) < 9 := by omega
            have hZ : Hid ((n', r') = (n, c :: r2)) := by
              rcases hst.out with ⟨h, _⟩ | ⟨_, rfl, h⟩
              · have e : k = 9 := by have := h.le; omega
                subst e
                exact h.full
              · exact h
            clear hst
            obtain ⟨rfl, rfl⟩ := Prod.mk.inj hZ.out
            go_wp2
            refine wp_region_quiet_lit (by kernel_rfl) (by kernel_rfl) (Wq.out ?_)
            iterate 53 (refine Wq.step (fun K hK => ?_); go_simp; (first | refine hK _ ?_ | (split; (exfalso; omega); refine hK _ ?_)); clear hK K)
            refine Wq.nil ?_
            intro _ hwq
            obtain ⟨nq, hw2⟩ := hwq
            subst hw2
            by_cases hk0 : k = 0
            · exfalso; omega
            · have hk1 : (((k : Nat) : Int) == 0) = false := by simp; omega
              have hBt : B = true := by rw [← hB.out]; exact decide_eq_true ((Pa.po_inj HS.out hsx.out).1 (by have := hpo.out; omega))
              subst hBt
              go_wp2
              go_ret
              exact ⟨rfl, Dd.drew HR.out, gb_drewN HG.out _⟩
        · have d2 : ¬ (cn : Int) ≤ 57 := by omega
          have hZ : Hid ((n', r') = (n, c :: r2)) := by
            rcases hst.out with ⟨h, _⟩ | ⟨_, rfl, h⟩
            · exact h.stop (by show Pa.dgB c = false; rw [hdc]; exact decide_eq_false (fun q => c2 q.2))
            · exact h
          clear hst hdc
          obtain ⟨rfl, rfl⟩ := Prod.mk.inj hZ.out
          go_wp2
          refine wp_region_quiet_lit (by kernel_rfl) (by kernel_rfl) (Wq.out ?_)
          iterate 53 (refine Wq.step (fun K hK => ?_); go_simp; (first | refine hK _ ?_ | (split; (exfalso; omega); refine hK _ ?_)); clear hK K)
          refine Wq.nil ?_
          intro _ hwq
          obtain ⟨nq, hw2⟩ := hwq
          subst hw2
          by_cases hk0 : k = 0
          · subst hk0
            have hBf : B = false := by rw [← hB.out]; exact decide_eq_false (fun q => by have := (Pa.po_inj HS.out hsx.out).2 q; have := hpo.out; omega)
            subst hBf
            go_wp2
            go_ret
            exact ⟨rfl, Dd.mark (w := wr.drewN nq) HR.out, gb_set (gb_drewN HG.out _) _ _⟩
          · have hk1 : (((k : Nat) : Int) == 0) = false := by simp; omega
            have hBt : B = true := by rw [← hB.out]; exact decide_eq_true ((Pa.po_inj HS.out hsx.out).1 (by have := hpo.out; omega))
            subst hBt
            go_wp2
            go_ret
            exact ⟨rfl, Dd.drew HR.out, gb_drewN HG.out _⟩
      · have d1 : ¬ (48 : Int) ≤ (cn : Int) := by omega
        have hZ : Hid ((n', r') = (n, c :: r2)) := by
          rcases hst.out with ⟨h, _⟩ | ⟨_, rfl, h⟩
          · exact h.stop (by show Pa.dgB c = false; rw [hdc]; exact decide_eq_false (fun q => c1 q.1))
          · exact h
        clear hst hdc
        obtain ⟨rfl, rfl⟩ := Prod.mk.inj hZ.out
        go_wp2
        refine wp_region_quiet_lit (by kernel_rfl) (by kernel_rfl) (Wq.out ?_)
        iterate 53 (refine Wq.step (fun K hK => ?_); go_simp; (first | refine hK _ ?_ | (split; (exfalso; omega); refine hK _ ?_)); clear hK K)
        refine Wq.nil ?_
        intro _ hwq
        obtain ⟨nq, hw2⟩ := hwq
        subst hw2
        by_cases hk0 : k = 0
        · subst hk0
          have hBf : B = false := by rw [← hB.out]; exact decide_eq_false (fun q => by have := (Pa.po_inj HS.out hsx.out).2 q; have := hpo.out; omega)
          subst hBf
          go_wp2
          go_ret
          exact ⟨rfl, Dd.mark (w := wr.drewN nq) HR.out, gb_set (gb_drewN HG.out _) _ _⟩
        · have hk1 : (((k : Nat) : Int) == 0) = false := by simp; omega
          have hBt : B = true := by rw [← hB.out]; exact decide_eq_true ((Pa.po_inj HS.out hsx.out).1 (by have := hpo.out; omega))
          subst hBt
          go_wp2
          go_ret
          exact ⟨rfl, Dd.drew HR.out, gb_drewN HG.out _⟩
end Rr
end Go.Proofs.YteaionmjbkildabDoor
namespace Go.Proofs.YteaionmjbkildabDoor
open Go.RowKit
set_option linter.unusedVariables false
set_option linter.unusedSimpArgs false
set_option maxRecDepth 100000
namespace Rr
def tkR (bad : Bool) (y r : List UInt8) : Bool × List UInt8 := if bad then (false, r) else Pa.wrdR y r
def nbR (bad : Bool) (r : List UInt8) : Nat × Bool × List UInt8 := if bad then (0, false, r) else ((Pa.numR 9 0 r).1, decide ((Pa.numR 9 0 r).2.length < r.length), (Pa.numR 9 0 r).2)
theorem tkR_suf (bad : Bool) (y r : List UInt8) : ∃ a, r = a ++ (tkR bad y r).2 := by
  cases bad with
  | true => exact ⟨[], rfl⟩
  | false => exact Pa.wrdR_suf y r
theorem nbR_suf (bad : Bool) (r : List UInt8) : ∃ a, r = a ++ (nbR bad r).2.2 := by
  cases bad with
  | true => exact ⟨[], rfl⟩
  | false => exact Pa.numR_suf 9 0 r
theorem wrd1 (b : UInt8) (r : List UInt8) : Pa.wrdR [b] r = Pa.skR b r := by
  cases r with
  | nil => rfl
  | cons c r =>
    by_cases e : c = b
    · simp [Pa.wrdR, Pa.skR, e]
    · simp [Pa.wrdR, Pa.skR, e]
theorem dtakesX (g : Nat) (x : ByteArray) (r : List UInt8) (bad : Bool) (y : ByteArray) (hy : y.size ≤ 1000) (B : Bool) (r' : List UInt8) (hW : Hid (tkR bad y.data.toList r = (B, r'))) (hs : Pa.Suf x r) (hz : x.size ≤ 1048576) (w : World) (h : Dd w g x r bad) :
    Calls Tryd.prog 38 #[.pointer (some ⟨g, 0, none⟩), .string y] w fun e w' => e = .returned (.tuple #[]) ∧ Dd w' g x r' (!B) ∧ w.grownBy w' (some g) := by
  cases bad with
  | true =>
    have e : (false, r) = (B, r') := hW.out
    obtain ⟨rfl, rfl⟩ := Prod.mk.inj e
    exact dtakesB g x r y w h
  | false => exact dtakesC g x r y hy B r' hW.out hs hz w h
theorem dnumberX (g : Nat) (x : ByteArray) (r : List UInt8) (bad : Bool) (n' : Nat) (B : Bool) (r' : List UInt8) (hN : Hid (nbR bad r = (n', B, r'))) (hs : Pa.Suf x r) (hz : x.size ≤ 1048576) (w : World) (h : Dd w g x r bad) :
    Calls Tryd.prog 39 #[.pointer (some ⟨g, 0, none⟩)] w fun e w' => e = .returned (.int .i64 (n' : Nat)) ∧ Dd w' g x r' (!B) ∧ w.grownBy w' (some g) := by
  cases bad with
  | true =>
    have e : (0, false, r) = (n', B, r') := hN.out
    simp only [Prod.mk.injEq] at e
    obtain ⟨rfl, rfl, rfl⟩ := e
    exact dnumberB g x r w h
  | false =>
    have e : ((Pa.numR 9 0 r).1, decide ((Pa.numR 9 0 r).2.length < r.length), (Pa.numR 9 0 r).2) = (n', B, r') := hN.out
    simp only [Prod.mk.injEq] at e
    obtain ⟨e1, e2, e3⟩ := e
    exact dnumberC g x r n' r' (Prod.ext e1 e3) B (by rw [← e3]; exact e2) hs hz w h
/-- A leaf's line, in the document's steps. -/
theorem leaf_steps {r : List UInt8} (hd : r.head? = some 61) {st : Nat} {ks : List Nat} {big B : Bool} {r' : List UInt8} (h : Pa.ndR r = ((st, ks), big, B, r')) {b1 : Bool} {r1 : List UInt8} (h1 : tkR false [61, 32] r = (b1, r1)) {n : Nat} {b2 : Bool} {r2 : List UInt8} (h2 : nbR (!b1) r1 = (n, b2, r2)) {b3 : Bool} {r3 : List UInt8} (h3 : tkR (!b2) [10] r2 = (b3, r3)) : b3 = B ∧ r3 = r' ∧ (B = true → n % 256 = st ∧ decide (256 ≤ n) = big ∧ ks = []) := by
  have e1 : Pa.wrdR [61, 32] r = (b1, r1) := h1
  have hl : Pa.lnR r = if b1 then ((((Pa.numR 9 0 r1).1 % 256, []), decide (256 ≤ (Pa.numR 9 0 r1).1), decide ((Pa.numR 9 0 r1).2.length < r1.length), (Pa.numR 9 0 r1).2) : (Nat × List Nat) × Bool × Bool × List UInt8) else ((0, []), false, false, r1) := by
    unfold Pa.lnR
    rw [if_pos hd, e1]
  cases b1 with
  | false =>
    have e2 : (0, false, r1) = (n, b2, r2) := h2
    simp only [Prod.mk.injEq] at e2
    obtain ⟨rfl, rfl, rfl⟩ := e2
    have e3 : (false, r1) = (b3, r3) := h3
    simp only [Prod.mk.injEq] at e3
    obtain ⟨rfl, rfl⟩ := e3
    unfold Pa.ndR at h
    rw [hl] at h
    simp at h
    obtain ⟨_, _, h4, h5⟩ := h
    subst h4
    exact ⟨rfl, h5, fun q => by cases q⟩
  | true =>
    have e2 : ((Pa.numR 9 0 r1).1, decide ((Pa.numR 9 0 r1).2.length < r1.length), (Pa.numR 9 0 r1).2) = (n, b2, r2) := h2
    simp only [Prod.mk.injEq] at e2
    obtain ⟨e4, e5, e6⟩ := e2
    rw [e4, e5, e6] at hl
    unfold Pa.ndR at h
    rw [hl] at h
    cases b2 with
    | false =>
      have e3 : (false, r2) = (b3, r3) := h3
      simp only [Prod.mk.injEq] at e3
      obtain ⟨rfl, rfl⟩ := e3
      simp at h
      obtain ⟨_, _, h4, h5⟩ := h
      subst h4
      exact ⟨rfl, h5, fun q => by cases q⟩
    | true =>
      have e3 : Pa.wrdR [10] r2 = (b3, r3) := h3
      rw [wrd1] at e3
      rw [if_pos rfl] at h
      simp only [if_true] at h
      rw [e3] at h
      simp only [Prod.mk.injEq] at h
      obtain ⟨⟨h4, h5⟩, h6, h7, h8⟩ := h
      exact ⟨h7, h8, fun _ => ⟨h4, h6, h5.symm⟩⟩
/-- What a branch's loop knows in the document. -/
def Bd2 (Z : List Nat × Bool × List UInt8) (bad : Bool) (acc : List Nat) (rr : List UInt8) : Prop := if bad then Z = ([], false, rr) else ∃ f, rr.length ≤ f ∧ (if (Pa.skR 32 rr).1 then Pa.brR f acc (Pa.skR 32 rr).2 else (acc, true, (Pa.skR 32 rr).2)) = Z
theorem Bd2.start {r : List UInt8} {n : Nat} {b : Bool} {r1 : List UInt8} (h : nbR false r = (n, b, r1)) : Bd2 (Pa.brR r.length [] r) (!b) [n] r1 := by
  have e2 : ((Pa.numR 9 0 r).1, decide ((Pa.numR 9 0 r).2.length < r.length), (Pa.numR 9 0 r).2) = (n, b, r1) := h
  simp only [Prod.mk.injEq] at e2
  obtain ⟨e4, e5, e6⟩ := e2
  have hn : Pa.numR 9 0 r = (n, r1) := Prod.ext e4 e6
  rw [e6] at e5
  cases b with
  | false => exact Pa.brR_no (Nat.le_refl _) hn (of_decide_eq_false e5)
  | true =>
    have e5 := of_decide_eq_true e5
    refine ⟨r.length - 1, by omega, ?_⟩
    rw [Pa.brR_yes (b := (Pa.skR 32 r1).1) (r2 := (Pa.skR 32 r1).2) (Nat.le_refl _) hn e5 rfl]
    rfl
theorem Bd2.step {Z : List Nat × Bool × List UInt8} {acc : List Nat} {r2 : List UInt8} (h : Bd2 Z false acc (32 :: r2)) {n : Nat} {b : Bool} {r3 : List UInt8} (hn : nbR false r2 = (n, b, r3)) : Bd2 Z (!b) (acc ++ [n]) r3 := by
  obtain ⟨f, hf, hz⟩ := h
  have es : Pa.skR 32 (32 :: r2) = (true, r2) := by simp [Pa.skR]
  rw [es, if_pos rfl] at hz
  have e2 : ((Pa.numR 9 0 r2).1, decide ((Pa.numR 9 0 r2).2.length < r2.length), (Pa.numR 9 0 r2).2) = (n, b, r3) := hn
  simp only [Prod.mk.injEq] at e2
  obtain ⟨e4, e5, e6⟩ := e2
  have hn2 : Pa.numR 9 0 r2 = (n, r3) := Prod.ext e4 e6
  rw [e6] at e5
  rw [List.length_cons] at hf
  cases b with
  | false =>
    rw [Pa.brR_no (by omega) hn2 (of_decide_eq_false e5)] at hz
    exact hz.symm
  | true =>
    have e5 := of_decide_eq_true e5
    rw [Pa.brR_yes (b := (Pa.skR 32 r3).1) (r2 := (Pa.skR 32 r3).2) (by omega) hn2 e5 rfl] at hz
    exact ⟨f - 1, by omega, hz⟩
theorem Bd2.stop {Z : List Nat × Bool × List UInt8} {acc : List Nat} {rr : List UInt8} (h : Bd2 Z false acc rr) (hd : ¬ rr.head? = some 32) : Z = (acc, true, rr) := by
  obtain ⟨f, hf, hz⟩ := h
  have es : Pa.skR 32 rr = (false, rr) := by
    cases rr with
    | nil => rfl
    | cons c r =>
      have : c ≠ 32 := fun e => hd (by rw [e]; rfl)
      simp [Pa.skR, this]
  rw [es] at hz
  exact hz.symm
theorem br_steps {r : List UInt8} (hd : ¬ r.head? = some 61) {st : Nat} {ks : List Nat} {big B : Bool} {r' : List UInt8} (h : Pa.ndR r = ((st, ks), big, B, r')) {b2 : Bool} {acc : List Nat} {r2 : List UInt8} (h2 : Pa.brR r.length [] r = ((if b2 then acc else []), b2, r2)) {b3 : Bool} {r3 : List UInt8} (h3 : tkR (!b2) [10] r2 = (b3, r3)) : b3 = B ∧ r3 = r' ∧ (B = true → st = 0 ∧ big = false ∧ ks = acc) := by
  have hl : Pa.lnR r = ((0, (if b2 then acc else [])), false, b2, r2) := by
    unfold Pa.lnR
    rw [if_neg hd, h2]
  unfold Pa.ndR at h
  rw [hl] at h
  cases b2 with
  | false =>
    have e3 : (false, r2) = (b3, r3) := h3
    simp only [Prod.mk.injEq] at e3
    obtain ⟨rfl, rfl⟩ := e3
    simp at h
    obtain ⟨_, _, h4, h5⟩ := h
    subst h4
    exact ⟨rfl, h5, fun q => by cases q⟩
  | true =>
    have e3 : Pa.wrdR [10] r2 = (b3, r3) := h3
    rw [wrd1] at e3
    simp only [if_true] at h
    rw [e3] at h
    simp only [Prod.mk.injEq] at h
    obtain ⟨⟨h4, h5⟩, h6, h7, h8⟩ := h
    exact ⟨h7, h8, fun _ => ⟨h4.symm, h6.symm, h5.symm⟩⟩
end Rr
end Go.Proofs.YteaionmjbkildabDoor
namespace Go.Proofs.YteaionmjbkildabDoor
set_option linter.unusedVariables false
set_option linter.unusedSimpArgs false
set_option maxRecDepth 100000
namespace Rr
/-- What the document knows in its head's loop. -/
def HsD (Z : List Nat × Bool × List UInt8) (bad : Bool) (acc : List Nat) (rr : List UInt8) : Prop := acc.length ≤ 4 ∧ (bad = false → Pa.hsR (4 - acc.length) acc rr = Z) ∧ (bad = true → Z.2.1 = false ∧ Z.2.2 = rr)
theorem nb_false {r : List UInt8} {n : Nat} {b : Bool} {r1 : List UInt8} (h : nbR false r = (n, b, r1)) : Pa.numR 9 0 r = (n, r1) ∧ decide (r1.length < r.length) = b := by
  have e2 : ((Pa.numR 9 0 r).1, decide ((Pa.numR 9 0 r).2.length < r.length), (Pa.numR 9 0 r).2) = (n, b, r1) := h
  simp only [Prod.mk.injEq] at e2
  obtain ⟨e4, e5, e6⟩ := e2
  exact ⟨Prod.ext e4 e6, by rw [← e6]; exact e5⟩
theorem HsD.cut {Z : List Nat × Bool × List UInt8} {acc : List Nat} {rr : List UInt8} (h : HsD Z false acc rr) (hl : acc.length < 4) : (if (Pa.hnR acc.length rr).2.1 then Pa.hsR (4 - (acc ++ [(Pa.hnR acc.length rr).1]).length) (acc ++ [(Pa.hnR acc.length rr).1]) (Pa.hnR acc.length rr).2.2 else (acc ++ [(Pa.hnR acc.length rr).1], false, (Pa.hnR acc.length rr).2.2)) = Z := by
  have h2 := h.2.1 rfl
  have e : 4 - acc.length = (4 - (acc ++ [(Pa.hnR acc.length rr).1]).length) + 1 := by rw [List.length_append, List.length_singleton]; omega
  rw [e] at h2
  unfold Pa.hsR at h2
  exact h2
theorem HsD.step {Z : List Nat × Bool × List UInt8} {bad : Bool} {acc : List Nat} {rr : List UInt8} (h : HsD Z bad acc rr) (hl : acc.length < 4) {b1 : Bool} {r1 : List UInt8} (h1 : tkR bad [32] rr = (b1, r1)) {n : Nat} {b2 : Bool} {r2 : List UInt8} (h2 : nbR (!b1) r1 = (n, b2, r2)) :
    (¬ (acc.length = 2 ∧ b2 = true ∧ 65536 < n) → HsD Z (!b2) (acc ++ [n]) r2) ∧ ((acc.length = 2 ∧ b2 = true ∧ 65536 < n) → Z.2.1 = false ∧ Z.2.2 = r1) := by
  have hle : (acc ++ [n]).length ≤ 4 := by rw [List.length_append, List.length_singleton]; omega
  cases bad with
  | true =>
    obtain ⟨z1, z2⟩ := h.2.2 rfl
    have e1 : (false, rr) = (b1, r1) := h1
    obtain ⟨rfl, rfl⟩ := Prod.mk.inj e1
    have e2 : (0, false, rr) = (n, b2, r2) := h2
    simp only [Prod.mk.injEq] at e2
    obtain ⟨rfl, rfl, rfl⟩ := e2
    exact ⟨fun _ => ⟨hle, fun q => absurd q (by decide), fun _ => ⟨z1, z2⟩⟩, fun q => absurd q.2.1 (by decide)⟩
  | false =>
    have hc := h.cut hl
    have e1 : Pa.wrdR [32] rr = (b1, r1) := h1
    rw [wrd1] at e1
    cases b1 with
    | false =>
      have e2 : (0, false, r1) = (n, b2, r2) := h2
      simp only [Prod.mk.injEq] at e2
      obtain ⟨rfl, rfl, rfl⟩ := e2
      have hn : Pa.hnR acc.length rr = (0, false, r1) := by unfold Pa.hnR; rw [e1]; rfl
      rw [hn] at hc
      refine ⟨fun _ => ⟨hle, fun q => absurd q (by decide), fun _ => ?_⟩, fun q => absurd q.2.1 (by decide)⟩
      rw [← hc]
      exact ⟨rfl, rfl⟩
    | true =>
      obtain ⟨e3, e4⟩ := nb_false h2
      by_cases hb : acc.length = 2 ∧ b2 = true ∧ 65536 < n
      · refine ⟨fun q => absurd hb q, fun _ => ?_⟩
        obtain ⟨k1, k2, k3⟩ := hb
        subst k2
        have hn : Pa.hnR acc.length rr = (n, false, r1) := by
          unfold Pa.hnR
          rw [e1]
          simp only [if_true]
          rw [e3, if_pos ⟨of_decide_eq_true e4, k1, k3⟩]
        rw [hn] at hc
        rw [← hc]
        exact ⟨rfl, rfl⟩
      · refine ⟨fun _ => ?_, fun q => absurd q hb⟩
        have hn : Pa.hnR acc.length rr = (n, b2, r2) := by
          unfold Pa.hnR
          rw [e1]
          simp only [if_true]
          rw [e3, if_neg (fun q => hb ⟨q.2.1, by rw [← e4]; exact decide_eq_true q.1, q.2.2⟩)]
          simp only [e4]
        rw [hn] at hc
        cases b2 with
        | true =>
          rw [if_pos rfl] at hc
          exact ⟨hle, fun _ => hc, fun q => absurd q (by decide)⟩
        | false =>
          simp only [Bool.false_eq_true, if_false] at hc
          exact ⟨hle, fun q => absurd q (by decide), fun _ => by rw [← hc]; exact ⟨rfl, rfl⟩⟩
theorem HsD.start {r : List UInt8} {b0 : Bool} {r0 : List UInt8} (h : tkR false [116, 114, 101, 101] r = (b0, r0)) : ∃ Z, HsD Z (!b0) [] r0 ∧ Pa.hdR r = (if Z.2.1 then (Z.1, (Pa.skR 10 Z.2.2).1, (Pa.skR 10 Z.2.2).2) else Z) := by
  have e1 : Pa.wrdR [116, 114, 101, 101] r = (b0, r0) := h
  refine ⟨if b0 then Pa.hsR 4 [] r0 else ([], false, r0), ⟨by simp, ?_, ?_⟩, ?_⟩
  · intro q
    have : b0 = true := by simpa using q
    subst this; rfl
  · intro q
    have : b0 = false := by simpa using q
    subst this; exact ⟨rfl, rfl⟩
  · unfold Pa.hdR
    rw [e1]
    cases b0 <;> rfl
theorem HsD.end {Z : List Nat × Bool × List UInt8} {bad : Bool} {acc : List Nat} {rr r : List UInt8} (h : HsD Z bad acc rr) (hl : acc.length = 4) (hd : Pa.hdR r = (if Z.2.1 then (Z.1, (Pa.skR 10 Z.2.2).1, (Pa.skR 10 Z.2.2).2) else Z)) {b : Bool} {r3 : List UInt8} (h3 : tkR bad [10] rr = (b, r3)) : (Pa.hdR r).2.1 = b ∧ (Pa.hdR r).2.2 = r3 ∧ (b = true → (Pa.hdR r).1 = acc) := by
  cases bad with
  | true =>
    obtain ⟨z1, z2⟩ := h.2.2 rfl
    have e1 : (false, rr) = (b, r3) := h3
    obtain ⟨rfl, rfl⟩ := Prod.mk.inj e1
    rw [hd, z1]
    exact ⟨z1, z2, fun q => absurd q (by decide)⟩
  | false =>
    have z := h.2.1 rfl
    rw [hl, Nat.sub_self] at z
    have z' : (acc, true, rr) = Z := z
    subst z'
    have e1 : Pa.wrdR [10] rr = (b, r3) := h3
    rw [wrd1] at e1
    rw [hd]
    simp only [if_true]
    rw [e1]
    exact ⟨rfl, rfl, by simp⟩
/-- What the document knows in its nodes' loop. -/
def NsD (Z : List (Nat × List Nat) × Bool × Bool × List UInt8) (n : Nat) (bad : Bool) (xs : List (Nat × List Nat)) (ns : Bool) (rr : List UInt8) : Prop := (bad = false → xs.length ≤ n ∧ Pa.nsR (n - xs.length) xs ns rr = Z) ∧ (bad = true → Z.2.2.1 = false ∧ Z.2.2.2 = rr)
theorem NsD.step {Z : List (Nat × List Nat) × Bool × Bool × List UInt8} {n : Nat} {xs : List (Nat × List Nat)} {ns : Bool} {rr : List UInt8} (h : NsD Z n false xs ns rr) (hl : xs.length < n) {nd : Nat × List Nat} {big B : Bool} {r1 : List UInt8} (hn : Pa.ndR rr = (nd, big, B, r1)) : NsD Z n (!B) (xs ++ [nd]) (ns || big) r1 := by
  obtain ⟨h1, h2⟩ := h.1 rfl
  have e : n - xs.length = (n - (xs ++ [nd]).length) + 1 := by rw [List.length_append, List.length_singleton]; omega
  rw [e] at h2
  unfold Pa.nsR at h2
  rw [hn] at h2
  cases B with
  | true =>
    rw [if_pos rfl] at h2
    exact ⟨fun _ => ⟨by rw [List.length_append, List.length_singleton]; omega, h2⟩, fun q => absurd q (by decide)⟩
  | false =>
    simp only [Bool.false_eq_true, if_false] at h2
    exact ⟨fun q => absurd q (by decide), fun _ => by rw [← h2]; exact ⟨rfl, rfl⟩⟩
theorem NsD.done {Z : List (Nat × List Nat) × Bool × Bool × List UInt8} {n : Nat} {xs : List (Nat × List Nat)} {ns : Bool} {rr : List UInt8} (h : NsD Z n false xs ns rr) (hl : xs.length = n) : Z = (xs, ns, true, rr) := by
  obtain ⟨h1, h2⟩ := h.1 rfl
  rw [← h2, show n - xs.length = 0 by omega]
  rfl
end Rr
end Go.Proofs.YteaionmjbkildabDoor
namespace Go.Proofs.YteaionmjbkildabDoor
open Go.RowKit
set_option linter.unusedVariables false
set_option linter.unusedSimpArgs false
set_option maxRecDepth 100000
namespace Rr
theorem Dd.lft {w : World} {g : Nat} {x : ByteArray} {r : List UInt8} {b : Bool} (h : Dd w g x r b) (hs : Pa.Suf x r) : Rr.lft x g w = r.length := by
  unfold Rr.lft
  rw [h.c1]
  have := hs.le
  unfold Pa.po
  simp
  omega
set_option maxHeartbeats 8000000 in
theorem dbranchC (g : Nat) (x : ByteArray) (r : List UInt8) (st : Nat) (ks : List Nat) (big B : Bool) (r' : List UInt8) (hN : Hid (Pa.ndR r = ((st, ks), big, B, r'))) (hs : Pa.Suf x r) (hz : x.size ≤ 1048576) (w : World) (h : Dd w g x r false) :
    Calls Tryd.prog 40 #[.pointer (some ⟨g, 0, none⟩)] w fun e w' => ∃ (n : Nat) (kp : Option Addr) (kn kc : Nat), e = .returned (.tuple #[.int .i64 (n : Nat), .slice kp kn kc]) ∧ Dd w' g x r' (!B) ∧ w.grownBy w' (some g) ∧ (B = true → n % 256 = st ∧ decide (256 ≤ n) = big ∧ kn = ks.length ∧ w'.ownsRow w.heap.size 3 1 (.slice kp kn kc) kn (kidsV (lf ks) kn)) := by
  obtain ⟨i0, HI⟩ : ∃ i, Hid (Tryd.prog.info? 3 = some i ∧ i.zero = some (.int .i64 0) ∧ i.size = 1 ∧ i.bytes = 8) := by
    obtain ⟨i, h1, h2, h3, h4⟩ := info_parts infoI
    exact ⟨i, h1, h2, h3, h4⟩
  have x0 := h.c0
  have x1 := h.c1
  have x2 := h.c2
  have HR0 : Hid (Dd w g x r false) := h
  have HS : Hid (Pa.Suf x r) := hs
  have HZ : Hid (x.size ≤ 1048576) := hz
  clear h hs hz
  go_enter Tryd.func40, Tryd.ntmps40
  go_wp2
  cases r with
  | nil =>
    have hd : Hid (¬ ([] : List UInt8).head? = some 61) := by unfold Hid; simp
    rw [Pa.po_nil] at x1
    refine wp_region_quiet_lit (by kernel_rfl) (by kernel_rfl) (Wq.out ?_)
    iterate 29 (refine Wq.step (fun K hK => ?_); go_simp; (first | refine hK _ ?_ | (split; (exfalso; omega); refine hK _ ?_)); clear hK K)
    refine Wq.nil ?_
    intro _ hwq
    obtain ⟨nq, hw2⟩ := hwq
    subst hw2
    clear x0 x1 x2
    obtain ⟨r, hr⟩ : ∃ r : List UInt8, [] = r := ⟨_, rfl⟩
    rw [hr] at hN HR0 HS hd
    clear hr
    obtain ⟨⟨n1, b1, r1⟩, hnb⟩ : ∃ Z, nbR false r = Z := ⟨_, rfl⟩
    have kn := fun w2 hR => dnumberX g x r false n1 b1 r1 hnb HS.out HZ.out w2 hR
    have HBD : Hid (Bd2 (Pa.brR r.length [] r) (!b1) [n1] r1) := Bd2.start hnb
    have hs1 : Hid (Pa.Suf x r1) := by have := nbR_suf false r; rw [hnb] at this; exact HS.out.of this
    have hl1 : Hid (r1.length ≤ r.length) := by have := Pa.suf_len (nbR_suf false r); rw [hnb] at this; exact this
    clear hnb
    go_wp2_with (first | (go_at_call 39; refine (kn _ (Dd.drew HR0.out)).mono ?_; rintro e w2 ⟨rfl, hR2, hG2⟩; refine Hid.out ?_))
    refine Lib.hid ?_
    clear kn
    have G2 : w.grownBy w2 (some g) := ⟨hG2.os, hG2.tape, hG2.output, hG2.size, hG2.block⟩
    obtain ⟨W3, hW3, sz3, g3, B3⟩ := boxn w2 #[.int .i64 (n1 : Nat)] 3
    have HA : Hid (g < w.heap.size ∧ w.heap.size ≤ w2.heap.size ∧ W3.heap.size = w2.heap.size + 1) := ⟨HR0.out.lt, G2.size, sz3.out⟩
    go_wp2
    have HO3 : Hid (W3.ownsRow w2.heap.size 3 1 (.slice (some ⟨w2.heap.size, 0, none⟩) 1 1) 1 [.int .i64 (n1 : Nat)]) := hW3 ▸ World.ownsRow_lit w2 #[.int .i64 (n1 : Nat)] 1 (Nat.le_refl _) (by unfold maxLen; omega) rfl
    have HR3 : Hid (Dd W3 g x r1 (!b1)) := hR2.kept g3 (by simp)
    have HG3 : Hid (w.grownBy W3 (some g)) := gb_none G2 g3
    clear hR2 hG2 G2 g3 B3 sz3
    go_loopw [5] (fun v wr => ∃ (bad : Bool) (acc : List Nat) (rr : List UInt8) (kp : Option Addr) (kc : Nat), v = .slice kp acc.length kc ∧ Hid (Bd2 (Pa.brR r.length [] r) bad acc rr) ∧ Hid (Pa.Suf x rr) ∧ Hid (acc.length + rr.length ≤ r.length + 1) ∧ Hid (Dd wr g x rr bad) ∧ Hid (wr.ownsRow w2.heap.size 3 1 (.slice kp acc.length kc) acc.length (kidsV (lf acc) acc.length)) ∧ Hid (w.grownBy wr (some g)) ∧ Hid (w2.heap.size ≤ wr.heap.size)) (fun _ wr => Rr.lft x g wr)
    case atStart => exact ⟨!b1, [n1], r1, some ⟨w2.heap.size, 0, none⟩, 1, rfl, HBD.out, hs1.out, by have := hl1.out; show [n1].length + r1.length ≤ r.length + 1; simp; omega, HR3.out, HO3.out, HG3.out, by have := HA.out; unfold Hid; omega⟩
    case round =>
      obtain ⟨bad, acc, rr, kp, kc, rfl, hbd, hsx, hlen, HR, own, HG, hsz⟩ := hrel
      clear HBD hs1 hl1 HO3 HR3 HG3 hW3
      have x0 := HR.out.c0
      have x1 := HR.out.c1
      have x2 := HR.out.c2
      cases bad with
      | true =>
        go_wp2
        refine wp_region_quiet_lit (by kernel_rfl) (by kernel_rfl) (Wq.out ?_)
        iterate 29 (refine Wq.step (fun K hK => ?_); go_simp; (first | refine hK _ ?_ | (split; (exfalso; omega); refine hK _ ?_)); clear hK K)
        refine Wq.nil ?_
        intro _ hwq
        obtain ⟨nq, hw2⟩ := hwq
        subst hw2
        obtain ⟨bad, hbad⟩ : ∃ b, b = true := ⟨_, rfl⟩
        have hZ2 : Pa.brR r.length [] r = ((if (!bad) then acc else []), !bad, rr) := by rw [hbad]; exact hbd.out
        have HR : Hid (Dd wr g x rr bad) := by rw [hbad]; exact HR
        clear hbad hbd x0 x1 x2
        have HZ2 : Hid (Pa.brR r.length [] r = ((if (!bad) then acc else []), !bad, rr)) := hZ2
        obtain ⟨⟨b3, r3⟩, htk⟩ : ∃ Z, tkR bad [10] rr = Z := ⟨_, rfl⟩
        have kt := fun w8 hR => dtakesX g x rr bad ⟨#[10]⟩ (by decide) b3 r3 htk hsx.out HZ.out w8 hR
        obtain ⟨rfl, rfl, HP⟩ := br_steps (b3 := b3) (r3 := r3) hd.out hN.out HZ2.out (by rw [Bool.not_not]; exact htk)
        have HPP : Hid (b3 = true → st = 0 ∧ big = false ∧ ks = acc) := HP
        clear HP htk hZ2
        go_wp2_with (first | (go_at_call 38; refine (kt _ (Dd.drew HR.out)).mono ?_; rintro e w8 ⟨rfl, hR8, hG8⟩))
        go_ret2
        have hG9 : wr.grownBy w8 (some g) := ⟨hG8.os, hG8.tape, hG8.output, hG8.size, hG8.block⟩
        refine ⟨0, kp, acc.length, kc, rfl, hR8, gb_one HG.out hG9, fun hb => ?_⟩
        obtain ⟨rfl, rfl, rfl⟩ := HPP.out hb
        exact ⟨rfl, rfl, rfl, Joins.ownsRow_le (own_g own.out hG9 (by have := HA.out; omega)) (by have := HA.out; omega)⟩
      | false =>
        cases rr with
        | nil =>
          rw [Pa.po_nil] at x1
          go_wp2
          refine wp_region_quiet_lit (by kernel_rfl) (by kernel_rfl) (Wq.out ?_)
          iterate 29 (refine Wq.step (fun K hK => ?_); go_simp; (first | refine hK _ ?_ | (split; (exfalso; omega); refine hK _ ?_)); clear hK K)
          refine Wq.nil ?_
          intro _ hwq
          obtain ⟨nq, hw2⟩ := hwq
          subst hw2
          obtain ⟨bad, hbad⟩ : ∃ b, b = false := ⟨_, rfl⟩
          obtain ⟨rr, hrr⟩ : ∃ r : List UInt8, r = [] := ⟨_, rfl⟩
          have hZ2 : Pa.brR r.length [] r = ((if (!bad) then acc else []), !bad, rr) := by rw [hbad, hrr]; exact hbd.out.stop (by simp)
          have HR : Hid (Dd wr g x rr bad) := by rw [hbad, hrr]; exact HR
          have hsx : Hid (Pa.Suf x rr) := by rw [hrr]; exact hsx
          clear hbad hrr hbd hlen x0 x1 x2
          have HZ2 : Hid (Pa.brR r.length [] r = ((if (!bad) then acc else []), !bad, rr)) := hZ2
          obtain ⟨⟨b3, r3⟩, htk⟩ : ∃ Z, tkR bad [10] rr = Z := ⟨_, rfl⟩
          have kt := fun w8 hR => dtakesX g x rr bad ⟨#[10]⟩ (by decide) b3 r3 htk hsx.out HZ.out w8 hR
          obtain ⟨rfl, rfl, HP⟩ := br_steps (b3 := b3) (r3 := r3) hd.out hN.out HZ2.out (by rw [Bool.not_not]; exact htk)
          have HPP : Hid (b3 = true → st = 0 ∧ big = false ∧ ks = acc) := HP
          clear HP htk hZ2
          go_wp2_with (first | (go_at_call 38; refine (kt _ (Dd.drew HR.out)).mono ?_; rintro e w8 ⟨rfl, hR8, hG8⟩))
          go_ret2
          have hG9 : wr.grownBy w8 (some g) := ⟨hG8.os, hG8.tape, hG8.output, hG8.size, hG8.block⟩
          refine ⟨0, kp, acc.length, kc, rfl, hR8, gb_one HG.out hG9, fun hb => ?_⟩
          obtain ⟨rfl, rfl, rfl⟩ := HPP.out hb
          exact ⟨rfl, rfl, rfl, Joins.ownsRow_le (own_g own.out hG9 (by have := HA.out; omega)) (by have := HA.out; omega)⟩
        | cons c r2 =>
          have hlt := Pa.po_cons hsx.out
          have hb := Pa.po_at hsx.out hlt.1
          have hlt1 := hlt.1
          obtain ⟨p, hp2⟩ : ∃ p, Pa.po x (c :: r2) = p := ⟨_, rfl⟩
          have h2 : p < x.size := hp2 ▸ hlt1
          have hb2 : (x[p]'h2).toNat = c.toNat := by rw [← hb]; congr 1; simp [hp2]
          have h3 : (p : Int) < (x.size : Int) := by omega
          rw [hp2] at x1
          clear hb hlt hlt1 hp2
          by_cases hc : c = 32
          · subst hc
            have hb3 : (x[p]'h2).toNat = 32 := hb2
            clear hb2
            go_wp2
            refine wp_region_quiet_lit (by kernel_rfl) (by kernel_rfl) (Wq.out ?_)
            iterate 29 (refine Wq.step (fun K hK => ?_); go_simp; (first | refine hK _ ?_ | (split; (exfalso; omega); refine hK _ ?_)); clear hK K)
            refine Wq.nil ?_
            intro _ hwq
            obtain ⟨nq, hw2⟩ := hwq
            subst hw2
            clear x0 x1 x2 hb3
            obtain ⟨⟨n2, b2, r4⟩, hnb⟩ : ∃ Z, nbR false r2 = Z := ⟨_, rfl⟩
            have hs2 : Hid (Pa.Suf x r2) := hsx.out.tail
            have kt := fun w4 hR => dtakesX g x (32 :: r2) false ⟨#[32]⟩ (by decide) true r2 (show tkR false [32] (32 :: r2) = (true, r2) from (wrd1 32 (32 :: r2)).trans (by simp [Pa.skR])) hsx.out HZ.out w4 hR
            have kn := fun w5 hR => dnumberX g x r2 false n2 b2 r4 hnb hs2.out HZ.out w5 hR
            have HBD : Hid (Bd2 (Pa.brR r.length [] r) (!b2) (acc ++ [n2]) r4) := hbd.out.step hnb
            have hl4 : Hid (r4.length ≤ r2.length) := by have := Pa.suf_len (nbR_suf false r2); rw [hnb] at this; exact this
            have hs4 : Hid (Pa.Suf x r4) := by have := nbR_suf false r2; rw [hnb] at this; exact hs2.out.of this
            have hacc : acc.length ≤ 1048577 := by have h1 := hlen.out; have h2 := HS.out.le; have h3 := HZ.out; omega
            have HACC : Hid (acc.length ≤ 1048577) := hacc
            clear hnb hacc hbd
            go_wp2_with (first | (go_at_call 38; refine (kt _ (Dd.drew HR.out)).mono ?_; rintro e w4 ⟨rfl, hR4, hG4⟩) | (go_at_call 39; refine (kn _ hR4).mono ?_; rintro e w5 ⟨rfl, hR5, hG5⟩; refine Hid.out ?_))
            refine Lib.hid ?_
            clear kt kn
            have hG4 : wr.grownBy w4 (some g) := ⟨hG4.os, hG4.tape, hG4.output, hG4.size, hG4.block⟩
            have G45 := gb_one hG4 hG5
            obtain ⟨W6, hW6, sz6, g6, B6⟩ := boxn w5 #[.int .i64 (n2 : Nat)] 3
            have own6 := (own_g own.out G45 (by have := HA.out; omega)).kept g6 (Classical.em _)
            have nw : ∀ l u, [Value.int .i64 (n2 : Nat)][l]? = some u → W6.cell? ((⟨w5.heap.size, 0, none⟩ : Addr).add l) = some u := World.news_of_block (cs := #[.int .i64 (n2 : Nat)]) B6
            have sz36 : w2.heap.size ≤ W6.heap.size := Nat.le_trans hsz.out (Nat.le_trans G45.size g6.size)
            have hacc := HACC.out
            go_wp2_with (first | (at_builtin; refine wpList_append_lies _ rfl _ _ 63 rfl w2.heap.size 3 i0 (.int .i64 0) 1 8 underIS HI.out.1 HI.out.2.1 HI.out.2.2.1 HI.out.2.2.2 rfl (by decide) _ acc.length _ rfl own6 ⟨w5.heap.size, 0, none⟩ 1 1 [.int .i64 (n2 : Nat)] rfl rfl nw (by intro u hu; simp at hu; rcases hu with rfl; rfl) (by decide) (by unfold maxLen; omega) (by omega) sz36 _ rfl ?_; intro g7 q7 w7 own7 gk7 at7 lt7; refine Hid.out ?_))
            refine Lib.hid ?_
            clear hacc
            have hob : ∀ b, (Value.slice kp acc.length kc).ownBlock = some b → w2.heap.size ≤ b := fun b hb => (own6.lt b hb).1
            have R7 := (hR5.kept g6 (by simp)).kept gk7 (fun e => by have := hob _ e.symm; have := HA.out; omega)
            have G7 : w.grownBy w7 (some g) := (gb_none (gb_one HG.out G45) g6).andThen gk7 (fun b hb => .inl (by have := hob b hb; have := HA.out; omega))
            have el : (acc ++ [n2]).length = acc.length + 1 := by simp
            have hZ7 : w2.heap.size ≤ w7.heap.size := Nat.le_trans sz36 gk7.size
            clear own6 nw B6 sz36 gk7 hob G45 g6 hG4 hG5 hR4 hR5 at7 lt7 sz6 hW6
            go_wp2
            go_roundw
            case rel =>
              refine ⟨!b2, acc ++ [n2], r4, some ⟨g7, 0, none⟩, q7, ?_, HBD.out, hs4.out, ?_, R7, ?_, G7, hZ7⟩
              · rw [el]
              · have h1 := hlen.out
                have h2 := hl4.out
                rw [List.length_cons] at h1
                show (acc ++ [n2]).length + r4.length ≤ r.length + 1
                rw [el]
                omega
              · show World.ownsRow _ _ _ _ _ _ _
                rw [kids_snoc, el]
                exact own7
            case measure =>
              show Rr.lft x g w7 < Rr.lft x g wr
              rw [R7.lft hs4.out, HR.out.lft hsx.out, List.length_cons]
              have := hl4.out
              omega
          · have HZ9 : Hid (Pa.brR r.length [] r = ((if (!false) then acc else []), !false, c :: r2)) := hbd.out.stop (by simp [hc])
            have e1 : ((c.toNat : Int) == 32) = false := by
              have : c.toNat ≠ 32 := fun k => hc (UInt8.toNat_inj.1 k)
              simp; omega
            obtain ⟨cn, hcn⟩ : ∃ cn, c.toNat = cn := ⟨_, rfl⟩
            rw [hcn] at hb2 e1
            clear hcn
            go_wp2
            refine wp_region_quiet_lit (by kernel_rfl) (by kernel_rfl) (Wq.out ?_)
            iterate 29 (refine Wq.step (fun K hK => ?_); go_simp; (first | refine hK _ ?_ | (split; (exfalso; omega); refine hK _ ?_)); clear hK K)
            refine Wq.nil ?_
            intro _ hwq
            obtain ⟨nq, hw2⟩ := hwq
            subst hw2
            obtain ⟨bad, hbad⟩ : ∃ b, b = false := ⟨_, rfl⟩
            obtain ⟨rr, hrr⟩ : ∃ r : List UInt8, r = c :: r2 := ⟨_, rfl⟩
            have hZ2 : Pa.brR r.length [] r = ((if (!bad) then acc else []), !bad, rr) := by rw [hbad, hrr]; exact HZ9.out
            have HR : Hid (Dd wr g x rr bad) := by rw [hbad, hrr]; exact HR
            have hsx : Hid (Pa.Suf x rr) := by rw [hrr]; exact hsx
            clear hbad hrr hbd hlen x0 x1 x2 hb2 e1 HZ9
            have HZ2 : Hid (Pa.brR r.length [] r = ((if (!bad) then acc else []), !bad, rr)) := hZ2
            obtain ⟨⟨b3, r3⟩, htk⟩ : ∃ Z, tkR bad [10] rr = Z := ⟨_, rfl⟩
            have kt := fun w8 hR => dtakesX g x rr bad ⟨#[10]⟩ (by decide) b3 r3 htk hsx.out HZ.out w8 hR
            obtain ⟨rfl, rfl, HP⟩ := br_steps (b3 := b3) (r3 := r3) hd.out hN.out HZ2.out (by rw [Bool.not_not]; exact htk)
            have HPP : Hid (b3 = true → st = 0 ∧ big = false ∧ ks = acc) := HP
            clear HP htk hZ2
            go_wp2_with (first | (go_at_call 38; refine (kt _ (Dd.drew HR.out)).mono ?_; rintro e w8 ⟨rfl, hR8, hG8⟩))
            go_ret2
            have hG9 : wr.grownBy w8 (some g) := ⟨hG8.os, hG8.tape, hG8.output, hG8.size, hG8.block⟩
            refine ⟨0, kp, acc.length, kc, rfl, hR8, gb_one HG.out hG9, fun hb => ?_⟩
            obtain ⟨rfl, rfl, rfl⟩ := HPP.out hb
            exact ⟨rfl, rfl, rfl, Joins.ownsRow_le (own_g own.out hG9 (by have := HA.out; omega)) (by have := HA.out; omega)⟩
  | cons c q0 =>
    have hlt := Pa.po_cons HS.out
    have hb := Pa.po_at HS.out hlt.1
    have hlt1 := hlt.1
    obtain ⟨p, hp2⟩ : ∃ p, Pa.po x (c :: q0) = p := ⟨_, rfl⟩
    have h2 : p < x.size := hp2 ▸ hlt1
    have hb2 : (x[p]'h2).toNat = c.toNat := by rw [← hb]; congr 1; simp [hp2]
    have h3 : (p : Int) < (x.size : Int) := by omega
    rw [hp2] at x1
    clear hb hlt hlt1 hp2
    by_cases hc : c = 61
    · have hd : (c :: q0).head? = some 61 := by rw [hc]; rfl
      have hb3 : (x[p]'h2).toNat = 61 := by rw [hb2, hc]; rfl
      clear hb2
      refine wp_region_quiet_lit (by kernel_rfl) (by kernel_rfl) (Wq.out ?_)
      iterate 29 (refine Wq.step (fun K hK => ?_); go_simp; (first | refine hK _ ?_ | (split; (exfalso; omega); refine hK _ ?_)); clear hK K)
      refine Wq.nil ?_
      intro _ hwq
      obtain ⟨nq, hw2⟩ := hwq
      subst hw2
      clear x0 x1 x2 hb3
      obtain ⟨r, hr⟩ : ∃ r : List UInt8, c :: q0 = r := ⟨_, rfl⟩
      rw [hr] at hN HR0 HS hd
      clear hr
      obtain ⟨⟨b1, r1⟩, h1⟩ : ∃ Z, tkR false [61, 32] r = Z := ⟨_, rfl⟩
      obtain ⟨⟨n1, b2, r2⟩, h2⟩ : ∃ Z, nbR (!b1) r1 = Z := ⟨_, rfl⟩
      obtain ⟨⟨b3, r3⟩, h3⟩ : ∃ Z, tkR (!b2) [10] r2 = Z := ⟨_, rfl⟩
      obtain ⟨rfl, rfl, HP⟩ := leaf_steps hd hN.out h1 h2 h3
      have s1 : Pa.Suf x r1 := by have := tkR_suf false [61, 32] r; rw [h1] at this; exact HS.out.of this
      have s2 : Pa.Suf x r2 := by have := nbR_suf (!b1) r1; rw [h2] at this; exact s1.of this
      have k1 := fun w2 hR => dtakesX g x r false ⟨#[61, 32]⟩ (by decide) b1 r1 h1 HS.out HZ.out w2 hR
      have k2 := fun w3 hR => dnumberX g x r1 (!b1) n1 b2 r2 h2 s1 HZ.out w3 hR
      have k3 := fun w4 hR => dtakesX g x r2 (!b2) ⟨#[10]⟩ (by decide) b3 r3 h3 s2 HZ.out w4 hR
      have HPP : Hid (b3 = true → n1 % 256 = st ∧ decide (256 ≤ n1) = big ∧ ks = []) := HP
      clear h1 h2 h3 s1 s2 HP hd
      go_wp2_with (first | (go_at_call 38; (fail_if_success (guard_hyp hG2)); refine (k1 _ (Dd.drew HR0.out)).mono ?_; rintro e w2 ⟨rfl, hR2, hG2⟩) | (go_at_call 39; refine (k2 _ hR2).mono ?_; rintro e w3 ⟨rfl, hR3, hG3⟩) | (go_at_call 38; guard_hyp hG3; refine (k3 _ hR3).mono ?_; rintro e w4 ⟨rfl, hR4, hG4⟩))
      go_ret2
      have G2 : w.grownBy w2 (some g) := ⟨hG2.os, hG2.tape, hG2.output, hG2.size, hG2.block⟩
      refine ⟨n1, none, 0, 0, rfl, hR4, gb_one (gb_one G2 hG3) hG4, fun hb => ?_⟩
      obtain ⟨e1, e2, rfl⟩ := HPP.out hb
      exact ⟨e1, e2, rfl, World.ownsRow_nil _ _ _ _⟩
    · have hd : Hid (¬ (c :: q0).head? = some 61) := by unfold Hid; simp [hc]
      have e1 : ((c.toNat : Int) == 61) = false := by
        have : c.toNat ≠ 61 := fun k => hc (UInt8.toNat_inj.1 k)
        simp; omega
      obtain ⟨cn, hcn⟩ : ∃ cn, c.toNat = cn := ⟨_, rfl⟩
      rw [hcn] at hb2 e1
      clear hcn
      refine wp_region_quiet_lit (by kernel_rfl) (by kernel_rfl) (Wq.out ?_)
      iterate 29 (refine Wq.step (fun K hK => ?_); go_simp; (first | refine hK _ ?_ | (split; (exfalso; omega); refine hK _ ?_)); clear hK K)
      refine Wq.nil ?_
      intro _ hwq
      obtain ⟨nq, hw2⟩ := hwq
      subst hw2
      clear x0 x1 x2 hb2 e1
      obtain ⟨r, hr⟩ : ∃ r : List UInt8, c :: q0 = r := ⟨_, rfl⟩
      rw [hr] at hN HR0 HS hd
      clear hr
      obtain ⟨⟨n1, b1, r1⟩, hnb⟩ : ∃ Z, nbR false r = Z := ⟨_, rfl⟩
      have kn := fun w2 hR => dnumberX g x r false n1 b1 r1 hnb HS.out HZ.out w2 hR
      have HBD : Hid (Bd2 (Pa.brR r.length [] r) (!b1) [n1] r1) := Bd2.start hnb
      have hs1 : Hid (Pa.Suf x r1) := by have := nbR_suf false r; rw [hnb] at this; exact HS.out.of this
      have hl1 : Hid (r1.length ≤ r.length) := by have := Pa.suf_len (nbR_suf false r); rw [hnb] at this; exact this
      clear hnb
      go_wp2_with (first | (go_at_call 39; refine (kn _ (Dd.drew HR0.out)).mono ?_; rintro e w2 ⟨rfl, hR2, hG2⟩; refine Hid.out ?_))
      refine Lib.hid ?_
      clear kn
      have G2 : w.grownBy w2 (some g) := ⟨hG2.os, hG2.tape, hG2.output, hG2.size, hG2.block⟩
      obtain ⟨W3, hW3, sz3, g3, B3⟩ := boxn w2 #[.int .i64 (n1 : Nat)] 3
      have HA : Hid (g < w.heap.size ∧ w.heap.size ≤ w2.heap.size ∧ W3.heap.size = w2.heap.size + 1) := ⟨HR0.out.lt, G2.size, sz3.out⟩
      go_wp2
      have HO3 : Hid (W3.ownsRow w2.heap.size 3 1 (.slice (some ⟨w2.heap.size, 0, none⟩) 1 1) 1 [.int .i64 (n1 : Nat)]) := hW3 ▸ World.ownsRow_lit w2 #[.int .i64 (n1 : Nat)] 1 (Nat.le_refl _) (by unfold maxLen; omega) rfl
      have HR3 : Hid (Dd W3 g x r1 (!b1)) := hR2.kept g3 (by simp)
      have HG3 : Hid (w.grownBy W3 (some g)) := gb_none G2 g3
      clear hR2 hG2 G2 g3 B3 sz3
      go_loopw [5] (fun v wr => ∃ (bad : Bool) (acc : List Nat) (rr : List UInt8) (kp : Option Addr) (kc : Nat), v = .slice kp acc.length kc ∧ Hid (Bd2 (Pa.brR r.length [] r) bad acc rr) ∧ Hid (Pa.Suf x rr) ∧ Hid (acc.length + rr.length ≤ r.length + 1) ∧ Hid (Dd wr g x rr bad) ∧ Hid (wr.ownsRow w2.heap.size 3 1 (.slice kp acc.length kc) acc.length (kidsV (lf acc) acc.length)) ∧ Hid (w.grownBy wr (some g)) ∧ Hid (w2.heap.size ≤ wr.heap.size)) (fun _ wr => Rr.lft x g wr)
      case atStart => exact ⟨!b1, [n1], r1, some ⟨w2.heap.size, 0, none⟩, 1, rfl, HBD.out, hs1.out, by have := hl1.out; show [n1].length + r1.length ≤ r.length + 1; simp; omega, HR3.out, HO3.out, HG3.out, by have := HA.out; unfold Hid; omega⟩
      case round =>
        obtain ⟨bad, acc, rr, kp, kc, rfl, hbd, hsx, hlen, HR, own, HG, hsz⟩ := hrel
        clear HBD hs1 hl1 HO3 HR3 HG3 hW3
        have x0 := HR.out.c0
        have x1 := HR.out.c1
        have x2 := HR.out.c2
        cases bad with
        | true =>
          go_wp2
          refine wp_region_quiet_lit (by kernel_rfl) (by kernel_rfl) (Wq.out ?_)
          iterate 29 (refine Wq.step (fun K hK => ?_); go_simp; (first | refine hK _ ?_ | (split; (exfalso; omega); refine hK _ ?_)); clear hK K)
          refine Wq.nil ?_
          intro _ hwq
          obtain ⟨nq, hw2⟩ := hwq
          subst hw2
          obtain ⟨bad, hbad⟩ : ∃ b, b = true := ⟨_, rfl⟩
          have hZ2 : Pa.brR r.length [] r = ((if (!bad) then acc else []), !bad, rr) := by rw [hbad]; exact hbd.out
          have HR : Hid (Dd wr g x rr bad) := by rw [hbad]; exact HR
          clear hbad hbd x0 x1 x2
          have HZ2 : Hid (Pa.brR r.length [] r = ((if (!bad) then acc else []), !bad, rr)) := hZ2
          obtain ⟨⟨b3, r3⟩, htk⟩ : ∃ Z, tkR bad [10] rr = Z := ⟨_, rfl⟩
          have kt := fun w8 hR => dtakesX g x rr bad ⟨#[10]⟩ (by decide) b3 r3 htk hsx.out HZ.out w8 hR
          obtain ⟨rfl, rfl, HP⟩ := br_steps (b3 := b3) (r3 := r3) hd.out hN.out HZ2.out (by rw [Bool.not_not]; exact htk)
          have HPP : Hid (b3 = true → st = 0 ∧ big = false ∧ ks = acc) := HP
          clear HP htk hZ2
          go_wp2_with (first | (go_at_call 38; refine (kt _ (Dd.drew HR.out)).mono ?_; rintro e w8 ⟨rfl, hR8, hG8⟩))
          go_ret2
          have hG9 : wr.grownBy w8 (some g) := ⟨hG8.os, hG8.tape, hG8.output, hG8.size, hG8.block⟩
          refine ⟨0, kp, acc.length, kc, rfl, hR8, gb_one HG.out hG9, fun hb => ?_⟩
          obtain ⟨rfl, rfl, rfl⟩ := HPP.out hb
          exact ⟨rfl, rfl, rfl, Joins.ownsRow_le (own_g own.out hG9 (by have := HA.out; omega)) (by have := HA.out; omega)⟩
        | false =>
          cases rr with
          | nil =>
            rw [Pa.po_nil] at x1
            go_wp2
            refine wp_region_quiet_lit (by kernel_rfl) (by kernel_rfl) (Wq.out ?_)
            iterate 29 (refine Wq.step (fun K hK => ?_); go_simp; (first | refine hK _ ?_ | (split; (exfalso; omega); refine hK _ ?_)); clear hK K)
            refine Wq.nil ?_
            intro _ hwq
            obtain ⟨nq, hw2⟩ := hwq
            subst hw2
            obtain ⟨bad, hbad⟩ : ∃ b, b = false := ⟨_, rfl⟩
            obtain ⟨rr, hrr⟩ : ∃ r : List UInt8, r = [] := ⟨_, rfl⟩
            have hZ2 : Pa.brR r.length [] r = ((if (!bad) then acc else []), !bad, rr) := by rw [hbad, hrr]; exact hbd.out.stop (by simp)
            have HR : Hid (Dd wr g x rr bad) := by rw [hbad, hrr]; exact HR
            have hsx : Hid (Pa.Suf x rr) := by rw [hrr]; exact hsx
            clear hbad hrr hbd hlen x0 x1 x2
            have HZ2 : Hid (Pa.brR r.length [] r = ((if (!bad) then acc else []), !bad, rr)) := hZ2
            obtain ⟨⟨b3, r3⟩, htk⟩ : ∃ Z, tkR bad [10] rr = Z := ⟨_, rfl⟩
            have kt := fun w8 hR => dtakesX g x rr bad ⟨#[10]⟩ (by decide) b3 r3 htk hsx.out HZ.out w8 hR
            obtain ⟨rfl, rfl, HP⟩ := br_steps (b3 := b3) (r3 := r3) hd.out hN.out HZ2.out (by rw [Bool.not_not]; exact htk)
            have HPP : Hid (b3 = true → st = 0 ∧ big = false ∧ ks = acc) := HP
            clear HP htk hZ2
            go_wp2_with (first | (go_at_call 38; refine (kt _ (Dd.drew HR.out)).mono ?_; rintro e w8 ⟨rfl, hR8, hG8⟩))
            go_ret2
            have hG9 : wr.grownBy w8 (some g) := ⟨hG8.os, hG8.tape, hG8.output, hG8.size, hG8.block⟩
            refine ⟨0, kp, acc.length, kc, rfl, hR8, gb_one HG.out hG9, fun hb => ?_⟩
            obtain ⟨rfl, rfl, rfl⟩ := HPP.out hb
            exact ⟨rfl, rfl, rfl, Joins.ownsRow_le (own_g own.out hG9 (by have := HA.out; omega)) (by have := HA.out; omega)⟩
          | cons c r2 =>
            have hlt := Pa.po_cons hsx.out
            have hb := Pa.po_at hsx.out hlt.1
            have hlt1 := hlt.1
            obtain ⟨p, hp2⟩ : ∃ p, Pa.po x (c :: r2) = p := ⟨_, rfl⟩
            have h2 : p < x.size := hp2 ▸ hlt1
            have hb2 : (x[p]'h2).toNat = c.toNat := by rw [← hb]; congr 1; simp [hp2]
            have h3 : (p : Int) < (x.size : Int) := by omega
            rw [hp2] at x1
            clear hb hlt hlt1 hp2
            by_cases hc : c = 32
            · subst hc
              have hb3 : (x[p]'h2).toNat = 32 := hb2
              clear hb2
              go_wp2
              refine wp_region_quiet_lit (by kernel_rfl) (by kernel_rfl) (Wq.out ?_)
              iterate 29 (refine Wq.step (fun K hK => ?_); go_simp; (first | refine hK _ ?_ | (split; (exfalso; omega); refine hK _ ?_)); clear hK K)
              refine Wq.nil ?_
              intro _ hwq
              obtain ⟨nq, hw2⟩ := hwq
              subst hw2
              clear x0 x1 x2 hb3
              obtain ⟨⟨n2, b2, r4⟩, hnb⟩ : ∃ Z, nbR false r2 = Z := ⟨_, rfl⟩
              have hs2 : Hid (Pa.Suf x r2) := hsx.out.tail
              have kt := fun w4 hR => dtakesX g x (32 :: r2) false ⟨#[32]⟩ (by decide) true r2 (show tkR false [32] (32 :: r2) = (true, r2) from (wrd1 32 (32 :: r2)).trans (by simp [Pa.skR])) hsx.out HZ.out w4 hR
              have kn := fun w5 hR => dnumberX g x r2 false n2 b2 r4 hnb hs2.out HZ.out w5 hR
              have HBD : Hid (Bd2 (Pa.brR r.length [] r) (!b2) (acc ++ [n2]) r4) := hbd.out.step hnb
              have hl4 : Hid (r4.length ≤ r2.length) := by have := Pa.suf_len (nbR_suf false r2); rw [hnb] at this; exact this
              have hs4 : Hid (Pa.Suf x r4) := by have := nbR_suf false r2; rw [hnb] at this; exact hs2.out.of this
              have hacc : acc.length ≤ 1048577 := by have h1 := hlen.out; have h2 := HS.out.le; have h3 := HZ.out; omega
              have HACC : Hid (acc.length ≤ 1048577) := hacc
              clear hnb hacc hbd
              go_wp2_with (first | (go_at_call 38; refine (kt _ (Dd.drew HR.out)).mono ?_; rintro e w4 ⟨rfl, hR4, hG4⟩) | (go_at_call 39; refine (kn _ hR4).mono ?_; rintro e w5 ⟨rfl, hR5, hG5⟩; refine Hid.out ?_))
              refine Lib.hid ?_
              clear kt kn
              have hG4 : wr.grownBy w4 (some g) := ⟨hG4.os, hG4.tape, hG4.output, hG4.size, hG4.block⟩
              have G45 := gb_one hG4 hG5
              obtain ⟨W6, hW6, sz6, g6, B6⟩ := boxn w5 #[.int .i64 (n2 : Nat)] 3
              have own6 := (own_g own.out G45 (by have := HA.out; omega)).kept g6 (Classical.em _)
              have nw : ∀ l u, [Value.int .i64 (n2 : Nat)][l]? = some u → W6.cell? ((⟨w5.heap.size, 0, none⟩ : Addr).add l) = some u := World.news_of_block (cs := #[.int .i64 (n2 : Nat)]) B6
              have sz36 : w2.heap.size ≤ W6.heap.size := Nat.le_trans hsz.out (Nat.le_trans G45.size g6.size)
              have hacc := HACC.out
              go_wp2_with (first | (at_builtin; refine wpList_append_lies _ rfl _ _ 63 rfl w2.heap.size 3 i0 (.int .i64 0) 1 8 underIS HI.out.1 HI.out.2.1 HI.out.2.2.1 HI.out.2.2.2 rfl (by decide) _ acc.length _ rfl own6 ⟨w5.heap.size, 0, none⟩ 1 1 [.int .i64 (n2 : Nat)] rfl rfl nw (by intro u hu; simp at hu; rcases hu with rfl; rfl) (by decide) (by unfold maxLen; omega) (by omega) sz36 _ rfl ?_; intro g7 q7 w7 own7 gk7 at7 lt7; refine Hid.out ?_))
              refine Lib.hid ?_
              clear hacc
              have hob : ∀ b, (Value.slice kp acc.length kc).ownBlock = some b → w2.heap.size ≤ b := fun b hb => (own6.lt b hb).1
              have R7 := (hR5.kept g6 (by simp)).kept gk7 (fun e => by have := hob _ e.symm; have := HA.out; omega)
              have G7 : w.grownBy w7 (some g) := (gb_none (gb_one HG.out G45) g6).andThen gk7 (fun b hb => .inl (by have := hob b hb; have := HA.out; omega))
              have el : (acc ++ [n2]).length = acc.length + 1 := by simp
              have hZ7 : w2.heap.size ≤ w7.heap.size := Nat.le_trans sz36 gk7.size
              clear own6 nw B6 sz36 gk7 hob G45 g6 hG4 hG5 hR4 hR5 at7 lt7 sz6 hW6
              go_wp2
              go_roundw
              case rel =>
                refine ⟨!b2, acc ++ [n2], r4, some ⟨g7, 0, none⟩, q7, ?_, HBD.out, hs4.out, ?_, R7, ?_, G7, hZ7⟩
                · rw [el]
                · have h1 := hlen.out
                  have h2 := hl4.out
                  rw [List.length_cons] at h1
                  show (acc ++ [n2]).length + r4.length ≤ r.length + 1
                  rw [el]
                  omega
                · show World.ownsRow _ _ _ _ _ _ _
                  rw [kids_snoc, el]
                  exact own7
              case measure =>
                show Rr.lft x g w7 < Rr.lft x g wr
                rw [R7.lft hs4.out, HR.out.lft hsx.out, List.length_cons]
                have := hl4.out
                omega
            · have HZ9 : Hid (Pa.brR r.length [] r = ((if (!false) then acc else []), !false, c :: r2)) := hbd.out.stop (by simp [hc])
              have e1 : ((c.toNat : Int) == 32) = false := by
                have : c.toNat ≠ 32 := fun k => hc (UInt8.toNat_inj.1 k)
                simp; omega
              obtain ⟨cn, hcn⟩ : ∃ cn, c.toNat = cn := ⟨_, rfl⟩
              rw [hcn] at hb2 e1
              clear hcn
              go_wp2
              refine wp_region_quiet_lit (by kernel_rfl) (by kernel_rfl) (Wq.out ?_)
              iterate 29 (refine Wq.step (fun K hK => ?_); go_simp; (first | refine hK _ ?_ | (split; (exfalso; omega); refine hK _ ?_)); clear hK K)
              refine Wq.nil ?_
              intro _ hwq
              obtain ⟨nq, hw2⟩ := hwq
              subst hw2
              obtain ⟨bad, hbad⟩ : ∃ b, b = false := ⟨_, rfl⟩
              obtain ⟨rr, hrr⟩ : ∃ r : List UInt8, r = c :: r2 := ⟨_, rfl⟩
              have hZ2 : Pa.brR r.length [] r = ((if (!bad) then acc else []), !bad, rr) := by rw [hbad, hrr]; exact HZ9.out
              have HR : Hid (Dd wr g x rr bad) := by rw [hbad, hrr]; exact HR
              have hsx : Hid (Pa.Suf x rr) := by rw [hrr]; exact hsx
              clear hbad hrr hbd hlen x0 x1 x2 hb2 e1 HZ9
              have HZ2 : Hid (Pa.brR r.length [] r = ((if (!bad) then acc else []), !bad, rr)) := hZ2
              obtain ⟨⟨b3, r3⟩, htk⟩ : ∃ Z, tkR bad [10] rr = Z := ⟨_, rfl⟩
              have kt := fun w8 hR => dtakesX g x rr bad ⟨#[10]⟩ (by decide) b3 r3 htk hsx.out HZ.out w8 hR
              obtain ⟨rfl, rfl, HP⟩ := br_steps (b3 := b3) (r3 := r3) hd.out hN.out HZ2.out (by rw [Bool.not_not]; exact htk)
              have HPP : Hid (b3 = true → st = 0 ∧ big = false ∧ ks = acc) := HP
              clear HP htk hZ2
              go_wp2_with (first | (go_at_call 38; refine (kt _ (Dd.drew HR.out)).mono ?_; rintro e w8 ⟨rfl, hR8, hG8⟩))
              go_ret2
              have hG9 : wr.grownBy w8 (some g) := ⟨hG8.os, hG8.tape, hG8.output, hG8.size, hG8.block⟩
              refine ⟨0, kp, acc.length, kc, rfl, hR8, gb_one HG.out hG9, fun hb => ?_⟩
              obtain ⟨rfl, rfl, rfl⟩ := HPP.out hb
              exact ⟨rfl, rfl, rfl, Joins.ownsRow_le (own_g own.out hG9 (by have := HA.out; omega)) (by have := HA.out; omega)⟩
end Rr
end Go.Proofs.YteaionmjbkildabDoor
