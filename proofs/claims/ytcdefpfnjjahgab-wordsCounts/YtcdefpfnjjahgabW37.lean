/- kept and wipe: a row that was lent is as it was; it is written over. -/
import Derived.Test.YtcdefpfnjjahgabW36
namespace Go.Proofs.Ytcdefpfnjjahgab
open Go.RowKit
set_option linter.unusedVariables false
set_option linter.unusedSimpArgs false

/-- A row that was lent: its words, and the marks behind them. -/
structure Lent (w : World) (b n c : Nat) (f : Nat → Nat) : Prop where
  row : ∃ F, w.rowIs b 22 c F ∧ (∀ k, k < n → F k = .int .u64 (f k)) ∧ (∀ i, i < 70 → F (n + i) = .int .u64 (7777 + (i : Int)))
  le : n + 70 ≤ c
theorem Lent.kept {w w' : World} {b n c : Nat} {f : Nat → Nat} {r : Option Nat} (h : Lent w b n c f) (hg : w.grownBy w' r) (hne : some b ≠ r) : Lent w' b n c f := by
  obtain ⟨F, h1, h2⟩ := h.row
  exact ⟨⟨F, rowIs_kept h1 hg hne, h2⟩, h.le⟩
theorem Lent.nr {w w' : World} {b n c : Nat} {f : Nat → Nat} (h : Lent w b n c f) (hg : Nr w w') : Lent w' b n c f := by
  obtain ⟨F, h1, h2⟩ := h.row
  exact ⟨⟨F, hg.row h1 (by decide) (by decide), h2⟩, h.le⟩
theorem Lent.wd {w : World} {b n c : Nat} {f : Nat → Nat} (h : Lent w b n c f) : Wd w (some ⟨b, 0, none⟩) n f := fun k hk => by
  obtain ⟨F, h1, h2, _⟩ := h.row
  exact ⟨_, rfl, by rw [add_mid, Nat.zero_add, h1.cell (i := k) (by have := h.le; omega), h2 k hk]⟩
theorem Lent.mark {w : World} {b n c : Nat} {f : Nat → Nat} (h : Lent w b n c f) {i : Nat} (hi : i < 70) : w.cell? ⟨b, n + i, none⟩ = some (.int .u64 (7777 + (i : Int))) := by
  obtain ⟨F, h1, _, h3⟩ := h.row
  rw [h1.cell (i := n + i) (by have := h.le; omega), h3 i hi]
set_option maxRecDepth 100000 in
set_option maxHeartbeats 4000000 in
theorem keptC (N : Int) (n b c cr : Nat) (sr : Option Addr) (f : Nat → Nat) (hn : n ≤ 17592186043904) (w : World) (hx : Lent w b n c f) (hr : Wd w sr n f) :
    Calls Try.prog 15 #[.agg #[.int .i64 N, .slice (some ⟨b, 0, none⟩) n c], .agg #[.int .i64 N, .slice sr n cr]] w fun e w' => e = .returned (.bool true) ∧ w.grownBy w' none := by
  obtain ⟨W0, hW0, c0, c1, sz0, g0, B0⟩ := box2 w (.int .i64 N) (.slice (some ⟨b, 0, none⟩) n c) 31
  obtain ⟨W1, hW1, d0, d1, sz1, g1, B1⟩ := box2 W0 (.int .i64 N) (.slice sr n cr) 31
  have gg := gb_trans g0 g1
  have B01 := B0.kept g1 (by simp)
  have x0 := B01.cell0
  have x1 := B01.cell1
  have hx1 := hx.kept gg (by simp)
  have hS := sameYes N n c cr (some ⟨b, 0, none⟩) sr f (by omega) W1 hx1.wd (hr.kept gg (by simp))
  have hle := hx.le
  have hw1 : IntKind.i64.wrap ((n : Int) + 70) = (n : Int) + 70 := by rw [IntKind.wrap_i64]; omega
  have hi1 : (n : Int) + 70 ≤ (c : Int) := by omega
  go_enter Try.func15, Try.ntmps15
  go_wp2_with (go_at_call 38; refine hS.mono ?_; rintro e w2 ⟨rfl, g2⟩; have B02 := B01.kept g2 (by simp); have B12 := B1.kept g2 (by simp); have y0 := B02.cell0; have y1 := B02.cell1; have y2 := B12.cell0; have y3 := B12.cell1)
  have hx2 := hx1.kept g2 (by simp)
  go_loopw [8] (fun v wr => ∃ i : Nat, i ≤ 70 ∧ v = .int .i64 i ∧ w2.grownBy wr none) (fun v _ => 70 - (intOf v).toNat)
  case atStart => exact ⟨0, Nat.zero_le _, rfl, World.grownBy.refl _ _⟩
  case round =>
    obtain ⟨i, hi, rfl, hg⟩ := hrel
    by_cases hlt : i < 70
    · have hlt' : (i : Int) < 70 := by omega
      have hwi : IntKind.i64.wrap ((n : Int) + (i : Int)) = ((n + i : Nat) : Int) := by rw [IntKind.wrap_i64]; omega
      have hwm : IntKind.i64.wrap (7777 + (i : Int)) = 7777 + (i : Int) := by rw [IntKind.wrap_i64]; omega
      have hwu : IntKind.u64.wrap (7777 + (i : Int)) = 7777 + (i : Int) := by rw [IntKind.wrap_u64]; omega
      have hli : (n : Int) + (i : Int) < (n : Int) + 70 := by omega
      have xm := (hx2.kept hg (by simp)).mark hlt
      go_wp2
      refine ⟨⟨i + 1, by omega, by go_num, hg⟩, ?_⟩
      simp [intOf]; omega
    · have hlt' : ¬ (i : Int) < 70 := by omega
      go_wp2
      go_ret
      exact ⟨rfl, gb_trans gg (gb_trans g2 hg)⟩
theorem gb_then {a b c : World} {r : Option Nat} (h : a.grownBy b none) (k : b.grownBy c r) : a.grownBy c r := ⟨k.os.trans h.os, k.tape.trans h.tape, k.output.trans h.output, Nat.le_trans h.size k.size, fun i hi hn => (k.block i (Nat.lt_of_lt_of_le hi h.size) hn).trans (h.block i hi (by simp))⟩
def xk (f : Nat → Nat) : Nat → Nat := fun k => f k ^^^ 6148914691236517205
set_option maxRecDepth 100000 in
set_option maxHeartbeats 4000000 in
theorem wipeC (N : Int) (n b c : Nat) (f : Nat → Nat) (hn : n ≤ 17592186043904) (hf : ∀ k, k < n → f k < 18446744073709551616) (w : World) (hx : Lent w b n c f) :
    Calls Try.prog 16 #[.agg #[.int .i64 N, .slice (some ⟨b, 0, none⟩) n c]] w fun e w' => (∃ v, e = .returned v) ∧ Lent w' b n c (xk f) ∧ w.grownBy w' (some b) := by
  obtain ⟨W0, hW0, c0, c1, sz0, g0, B0⟩ := box2 w (.int .i64 N) (.slice (some ⟨b, 0, none⟩) n c) 31
  obtain ⟨F0, hF0, hq0, hm0⟩ := hx.row
  have hle := hx.le
  have lb := hF0.lt
  have hR0 := rowIs_kept hF0 g0 (by simp)
  go_enter Try.func16, Try.ntmps16
  go_wp2
  go_loopw [2] (fun v wr => ∃ k : Nat, k ≤ n ∧ v = .int .i64 k ∧ (∃ F, wr.rowIs b 22 c F ∧ Hid (∀ j, j < n → F j = .int .u64 ((if j < k then xk f j else f j : Nat) : Int)) ∧ Hid (∀ i, i < 70 → F (n + i) = .int .u64 (7777 + (i : Int)))) ∧ W0.grownBy wr (some b)) (fun v _ => n - (intOf v).toNat)
  case atStart => exact ⟨0, Nat.zero_le _, rfl, ⟨F0, hR0, fun j hj => by rw [if_neg (Nat.not_lt_zero _)]; exact hq0 j hj, hm0⟩, World.grownBy.refl _ _⟩
  case round =>
    obtain ⟨k, hk, rfl, ⟨F, hR, HF, HM⟩, hg⟩ := hrel
    have hBk := B0.kept hg (fun e => by cases e; omega)
    have y0 := hBk.cell0
    have y1 := hBk.cell1
    by_cases hlt : k < n
    · have hlt' : (k : Int) < (n : Int) := by omega
      have u0 := hR.cell (i := k) (by omega)
      rw [HF.out k hlt, if_neg (Nat.lt_irrefl _)] at u0
      have u1 := hR.frozen k
      have hfk := hf k hlt
      go_wp2
      refine region_tail 10 mixed (by kernel_rfl) ?_
      simp only [List.take_succ_cons, List.take_zero, List.drop_succ_cons, List.drop_zero]
      repeat still_step
      refine wpStill_nil ?_
      have hX : bits .xor .u64 (f k : Int) 6148914691236517205 = ((f k ^^^ 6148914691236517205 : Nat) : Int) := bits_xor_u64_nat (f k) 6148914691236517205 hfk (by decide)
      have HX : Hid (bits .xor .u64 (f k : Int) 6148914691236517205 = ((f k ^^^ 6148914691236517205 : Nat) : Int)) := hX
      clear hX
      go_wp2
      refine ⟨⟨k + 1, by omega, by go_num, ⟨_, World.rowIs.set hR k _, fun j hj => ?_, fun i hi => ?_⟩, gb_drew (gb_set hg _ _)⟩, ?_⟩
      · by_cases e : j = k
        · rw [if_pos e, if_pos (by omega), e, HX.out]; rfl
        · rw [if_neg e, HF.out j hj]
          by_cases e2 : j < k
          · rw [if_pos e2, if_pos (by omega)]
          · rw [if_neg e2, if_neg (by omega)]
      · rw [if_neg (by omega)]; exact HM.out i hi
      · simp [intOf]; omega
    · have hlt' : ¬ (k : Int) < (n : Int) := by omega
      go_wp2
      go_end0
      exact ⟨⟨_, rfl⟩, ⟨⟨F, hR, fun j hj => by rw [HF.out j hj, if_pos (by omega)], HM.out⟩, hle⟩, gb_then g0 hg⟩
end Go.Proofs.Ytcdefpfnjjahgab
