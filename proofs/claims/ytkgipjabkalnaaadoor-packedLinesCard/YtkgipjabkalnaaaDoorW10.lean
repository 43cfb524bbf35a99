/- New of package words, of every number; Of, where there are too many bits. -/
import Derived.Test.YtkgipjabkalnaaaDoorW4
namespace Go.Proofs.YtkgipjabkalnaaaDoor.Wo
open Go.RowKit
set_option linter.unusedVariables false

theorem newC (m : Nat) (h1 : m ≤ 65538) (w : World) :
    Calls Tryd.prog 30 #[.int .i64 m] w fun e w' => ∃ b, e = .returned (.tuple #[.agg #[.int .i64 m, .slice (some ⟨b, 0, none⟩) ((m + 63) / 64) ((m + 63) / 64)], .int .i64 0]) ∧ Row w' 33 b ((m + 63) / 64) (fun _ => false) ∧ w.grownBy w' none ∧ w.heap.size ≤ b := by
  have hbl := blankC m h1
  generalize (m + 63) / 64 = c at hbl ⊢
  obtain ⟨W1, hW, c0, c1, sz, hg, hB⟩ := box2 w (.int .i64 0) (.slice none 0 0) 27
  have g0 : decide ((m : Int) < 0) = false := by simp
  have g1 : decide ((65538 : Int) < (m : Int)) = false := by simp; omega
  go_enter Tryd.func30, Tryd.ntmps30
  go_wp2_with (first | (go_at_call 37; refine (hbl W1).mono ?_; rintro e w2 ⟨b, rfl, hr, g2, hlt, hlt2⟩; have hB2 := hB.kept g2 (by simp); have x0 := hB2.cell0; have x1 := hB2.cell1; have x2 := hB2.free0; have x3 := hB2.free1))
  have hs := sz.out
  obtain ⟨fs, hfs⟩ := underR
  refine ret_box2 (g := w.heap.size) (t := 27) rfl hfs infoR rfl (hB2.set _ _) rfl ?_
  have hne : b ≠ w.heap.size := by omega
  exact ⟨b, rfl, World.rowIs.setOther (World.rowIs.setOther hr hne _) hne _, gb_new (gb_new (gb_trans hg g2) (Nat.le_refl _) _) (Nat.le_refl _) _, by omega⟩

theorem newBad (n : Int) (h : n < 0 ∨ 65538 < n) (w : World) :
    Calls Tryd.prog 30 #[.int .i64 n] w fun e w' => e = .returned (.tuple #[.agg #[.int .i64 0, .slice none 0 0], .int .i64 2]) ∧ w.grownBy w' none := by
  obtain ⟨W1, hW, c0, c1, sz, hg, hB⟩ := box2 w (.int .i64 0) (.slice none 0 0) 27
  have x2 := hB.free0
  have x3 := hB.free1
  obtain ⟨fs, hfs⟩ := underR
  by_cases h0 : n < 0
  · go_enter Tryd.func30, Tryd.ntmps30
    go_wp2
    refine ret_box2 (g := w.heap.size) (t := 27) rfl hfs infoR rfl (hB.set _ _) rfl ?_
    exact ⟨rfl, gb_new (gb_new hg (Nat.le_refl _) _) (Nat.le_refl _) _⟩
  · have h1 : 65538 < n := by omega
    have g0 : decide (n < 0) = false := by simp; omega
    go_enter Tryd.func30, Tryd.ntmps30
    go_wp2
    refine ret_box2 (g := w.heap.size) (t := 27) rfl hfs infoR rfl (hB.set _ _) rfl ?_
    exact ⟨rfl, gb_new (gb_new hg (Nat.le_refl _) _) (Nat.le_refl _) _⟩

end Go.Proofs.YtkgipjabkalnaaaDoor.Wo
