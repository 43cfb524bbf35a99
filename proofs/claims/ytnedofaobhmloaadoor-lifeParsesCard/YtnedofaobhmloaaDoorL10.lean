/- What alive of the statements answers. -/
import Derived.Test.YtnedofaobhmloaaDoorL9
namespace Go.Proofs.YtnedofaobhmloaaDoor
open Go.RowKit
set_option linter.unusedVariables false
set_option linter.unusedSimpArgs false
set_option maxRecDepth 100000

theorem pa1 : Lf.parseR ⟨#[98, 51, 47, 115, 51, 50]⟩ = ⟨1, 8, 12, 0, 0⟩ := by kernel_rfl
theorem pa2 : Lf.parseR ⟨#[66, 51, 53, 47, 83, 50, 86]⟩ = ⟨0, 0, 0, 2, 82⟩ := by kernel_rfl
theorem pp1 : Lf.pr 1 8 12 = ⟨#[66, 51, 47, 83, 50, 51]⟩ := by kernel_rfl
theorem ck1 : Lf.ck 1 8 12 = 0 := by decide +kernel
theorem nx1 : Lf.nxV 1 8 12 0 3 = 1 ∧ Lf.nxE 1 8 12 0 3 = 0 := by decide +kernel
theorem aParse1 (w : World) (hv : Hid (Hv w)) : Calls Tryd.prog 10 #[.string ⟨#[98, 51, 47, 115, 51, 50]⟩] w fun e w' => e = .returned (.tuple #[.agg #[.int .u8 1, .int .u16 8, .int .u16 12], .int .i64 0, .int .i64 0]) ∧ w.grownBy w' none := by
  have := parseC ⟨#[98, 51, 47, 115, 51, 50]⟩ w hv
  rw [pa1] at this
  exact this
theorem aParse2 (w : World) (hv : Hid (Hv w)) : Calls Tryd.prog 10 #[.string ⟨#[66, 51, 53, 47, 83, 50, 86]⟩] w fun e w' => e = .returned (.tuple #[.agg #[.int .u8 0, .int .u16 0, .int .u16 0], .int .i64 2, .int .i64 82]) ∧ w.grownBy w' none := by
  have := parseC ⟨#[66, 51, 53, 47, 83, 50, 86]⟩ w hv
  rw [pa2] at this
  exact this
theorem aPrint (w : World) (hv : Hid (Hv w)) : Calls Tryd.prog 12 #[.agg #[.int .u8 1, .int .u16 8, .int .u16 12]] w fun e w' => e = .returned (.tuple #[.string ⟨#[66, 51, 47, 83, 50, 51]⟩, .int .i64 0]) ∧ w.grownBy w' none := by
  have := printC 1 8 12 (by decide) (by decide) (by decide) w hv
  rw [pp1, ck1] at this
  exact this
theorem aNext (w : World) (hv : Hid (Hv w)) : Calls Tryd.prog 18 #[.agg #[.int .u8 1, .int .u16 8, .int .u16 12], .int .u8 0, .int .i64 3] w fun e w' => e = .returned (.tuple #[.int .u8 1, .int .i64 0]) ∧ w.grownBy w' none := by
  have := nextC 1 8 12 (by decide) (by decide) (by decide) 0 3 w hv
  rw [nx1.1, nx1.2] at this
  exact this
theorem Bo.same {w : World} {g : Nat} {t : TypeId} {cs : Array Value} (h : Bo w g t cs) (i : Nat) {v : Value} (hi : cs[i]? = some v) : w.setCell ⟨g, i, none⟩ v = w := by
  have hcs : cs.setIfInBounds i v = cs := by
    obtain ⟨h1, h2⟩ := Array.getElem?_eq_some_iff.1 hi
    subst h2
    apply Array.ext
    · simp
    · intro j h3 h4
      rw [Array.getElem_setIfInBounds]
      split
      · subst_vars; rfl
      · rfl
  have h2 := h.set i v
  rw [hcs] at h2
  have hh : (w.setCell ⟨g, i, none⟩ v).heap = w.heap := by
    apply Array.ext_getElem?
    intro j
    by_cases hj : j = g
    · subst hj; rw [show (w.setCell ⟨j, i, none⟩ v).heap[j]? = _ from h2, show w.heap[j]? = _ from h]
    · simp [World.setCell, Array.getElem?_modify, Ne.symm hj]
  show { w with heap := _ } = w
  exact congrArg (fun x => { w with heap := x }) hh
set_option maxHeartbeats 2000000 in
theorem aliveC (w : World) (hv : Hid (Hv w)) : Calls Tryd.prog 9 #[] w fun e w' => e = .returned (.bool true) ∧ w.grownBy w' none := by
  go_enter Tryd.func9, Tryd.ntmps9
  go_wp2_with (first | (go_at_call 10; (fail_if_success (guard_hyp g1)); refine (aParse1 _ hv).mono ?_; rintro e w1 ⟨rfl, g1⟩; have hv1 := hvK hv g1; obtain ⟨W2, hW2, sz2, g2, B2⟩ := boxn w1 #[.int .u8 1, .int .u16 8, .int .u16 12] 26; have G2 := gb_trans g1 g2; have hv2 := hvK hv G2; have b2_2_0 := B2.cell 0 (v := .int .u8 1) rfl; have b2_2_1 := B2.cell 1 (v := .int .u16 8) rfl; have b2_2_2 := B2.cell 2 (v := .int .u16 12) rfl) | (go_at_call 12; (fail_if_success (guard_hyp g3)); refine (aPrint _ hv2).mono ?_; rintro e w3 ⟨rfl, g3⟩; have G3 := gb_trans G2 g3; have hv3 := hvK hv G3; have B2x := B2.kept g3 (by simp); clear b2_2_0 b2_2_1 b2_2_2; have b2_3_0 := B2x.cell 0 (v := .int .u8 1) rfl; have b2_3_1 := B2x.cell 1 (v := .int .u16 8) rfl; have b2_3_2 := B2x.cell 2 (v := .int .u16 12) rfl) | (go_at_call 10; (fail_if_success (guard_hyp g4)); refine (aParse2 _ hv3).mono ?_; rintro e w4 ⟨rfl, g4⟩; have G4 := gb_trans G3 g4; have hv4 := hvK hv G4; have B2xx := B2x.kept g4 (by simp); obtain ⟨W5, hW5, sz5, g5, B5⟩ := boxn w4 #[.int .u8 0, .int .u16 0, .int .u16 0] 26; have G5 := gb_trans G4 g5; have hv5 := hvK hv G5; have B2xxx := B2xx.kept g5 (by simp); have sm5_0 := Bo.same B5 0 (v := .int .u8 0) rfl; have sm5_1 := Bo.same B5 1 (v := .int .u16 0) rfl; have sm5_2 := Bo.same B5 2 (v := .int .u16 0) rfl; have fz5_0 := B5.frozen 0; have fz5_1 := B5.frozen 1; have fz5_2 := B5.frozen 2; clear b2_3_0 b2_3_1 b2_3_2; have b2_5_0 := B2xxx.cell 0 (v := .int .u8 1) rfl; have b2_5_1 := B2xxx.cell 1 (v := .int .u16 8) rfl; have b2_5_2 := B2xxx.cell 2 (v := .int .u16 12) rfl; have b5_5_0 := B5.cell 0 (v := .int .u8 0) rfl; have b5_5_1 := B5.cell 1 (v := .int .u16 0) rfl; have b5_5_2 := B5.cell 2 (v := .int .u16 0) rfl) | (go_at_call 18; (fail_if_success (guard_hyp g6)); refine (aNext _ hv5).mono ?_; rintro e w6 ⟨rfl, g6⟩; have G6 := gb_trans G5 g6; have hv6 := hvK hv G6; have B2xxxx := B2xxx.kept g6 (by simp); have B5x := B5.kept g6 (by simp); clear b2_5_0 b2_5_1 b2_5_2 b5_5_0 b5_5_1 b5_5_2; have b2_6_0 := B2xxxx.cell 0 (v := .int .u8 1) rfl; have b2_6_1 := B2xxxx.cell 1 (v := .int .u16 8) rfl; have b2_6_2 := B2xxxx.cell 2 (v := .int .u16 12) rfl; have b5_6_0 := B5x.cell 0 (v := .int .u8 0) rfl; have b5_6_1 := B5x.cell 1 (v := .int .u16 0) rfl; have b5_6_2 := B5x.cell 2 (v := .int .u16 0) rfl))
  go_ret
  exact ⟨rfl, G6⟩
end Go.Proofs.YtnedofaobhmloaaDoor
