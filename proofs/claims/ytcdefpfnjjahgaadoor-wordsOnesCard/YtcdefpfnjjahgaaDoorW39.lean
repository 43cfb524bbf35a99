/- The document's Bits, Set, Get. -/
import Derived.Test.YtcdefpfnjjahgaaDoorW34
import Derived.Test.YtcdefpfnjjahgaaDoorW38
namespace Go.Proofs.YtcdefpfnjjahgaaDoor
open Go.RowKit
set_option linter.unusedVariables false
set_option linter.unusedSimpArgs false

set_option maxRecDepth 100000 in
set_option maxHeartbeats 4000000 in
theorem refBitsC (m n cap : Nat) (sp : Option Addr) (f : Nat → Nat) (hf : ∀ k, k < n → f k < 18446744073709551616) (hm : m ≤ 65538) (hn : n = (m + 63) / 64) (w : World) (hc : Wd w sp n f) :
    Calls Tryd.prog 38 #[.agg #[.int .i64 m, .slice sp n cap]] w fun e w' => ∃ b, e = .returned (.slice (some ⟨b, 0, none⟩) m m) ∧ w'.rowIs b 4 m (fun i => .bool (Pk.bitAt f i)) ∧ w.heap.size ≤ b ∧ w.grownBy w' none := by
  obtain ⟨W1, hW, c0, c1, sz, hg, hB⟩ := box2 w (.int .i64 m) (.slice sp n cap) 24
  obtain ⟨mc, hmk, hmc⟩ := madeB m (by omega)
  obtain ⟨W2, hW2⟩ : ∃ W2, W1.alloc (.cells mc 4) = W2 := ⟨_, rfl⟩
  have g2 : W1.grownBy W2 none := by rw [← hW2]; exact World.grownBy_alloc _ _ _
  have hr2 : W2.rowIs W1.heap.size 4 m (fun _ => .bool false) := by rw [← hW2]; exact hmc W1
  have hs : w.heap.size < W1.heap.size := by have := sz.out; omega
  have hB2 := hB.kept g2 (by simp)
  have hnl : n ≤ 1025 := by omega
  have hmn : m ≤ 64 * n := by omega
  have hbit := fun i hi w h => refBitC (m : Int) i n cap sp f hf hi hnl w h
  clear hn hf
  have lr := hr2.lt
  go_enter Tryd.func38, Tryd.ntmps38
  go_wp2
  go_loopw [4] (fun v wr => ∃ k : Nat, k ≤ m ∧ v = .int .i64 k ∧ (∃ F, wr.rowIs W1.heap.size 4 m F ∧ Hid (∀ j, j < k → F j = .bool (Pk.bitAt f j))) ∧ W2.grownBy wr (some W1.heap.size)) (fun v _ => m - (intOf v).toNat)
  case atStart => exact ⟨0, Nat.zero_le _, rfl, ⟨_, hr2, fun j hj => absurd hj (Nat.not_lt_zero _)⟩, World.grownBy.refl _ _⟩
  case round =>
    obtain ⟨k, hk, rfl, ⟨F, hR, HF⟩, hgk⟩ := hrel
    have hBk := hB2.kept hgk (fun e => by have := Option.some.inj e; omega)
    have y0 := hBk.cell0
    have y1 := hBk.cell1
    by_cases hlt : k < m
    · have hlt' : (k : Int) < (m : Int) := by omega
      have hwd : Wd wr sp n f := (hc.kept (gb_trans hg g2) (by simp)).kept hgk (fun a e h => by
        have h' := Option.some.inj h
        obtain ⟨a', e1, e2⟩ := hc 0 (by omega)
        rw [e] at e1; cases e1
        have := cell_lt e2
        have e3 : (a.add 0).block = a.block := by obtain ⟨b, o, sp⟩ := a; cases sp <;> rfl
        omega)
      have hb9 := hbit k (by omega) wr hwd
      go_wp2_with (go_at_call 30; refine hb9.mono ?_; rintro e w3 ⟨rfl, g3⟩; have hR3 := rowIs_kept hR g3 (by simp); have u0 := hR3.cell (i := k) hlt; have u1 := hR3.frozen k)
      refine ⟨⟨k + 1, by omega, by go_num, ⟨_, World.rowIs.set hR3 k _, fun j hj => ?_⟩, gb_set (gb_none hgk g3) _ _⟩, ?_⟩
      · by_cases e : j = k
        · rw [if_pos e, e]
        · rw [if_neg e]; exact HF.out j (by omega)
      · simp [intOf]; omega
    · have hlt' : ¬ (k : Int) < (m : Int) := by omega
      go_wp2
      go_ret
      exact ⟨_, rfl, hR.congr fun i hi => HF.out i (by omega), by omega, gb_past (gb_trans hg g2) hgk (by omega)⟩
theorem bd_set {w : World} {b m : Nat} {q : Nat → Bool} (h : w.rowIs b 4 m (fun i => .bool (q i))) (j : Nat) (on : Bool) : Bd (w.setCell ⟨b, j, none⟩ (.bool on)) (some ⟨b, 0, none⟩) m (fun i => if i = j then on else q i) := fun k hk => ⟨_, rfl, by
  rw [add_mid, Nat.zero_add, (World.rowIs.set h j (.bool on)).cell (i := k) hk]
  by_cases e : k = j
  · simp [e]
  · simp [e]⟩
theorem Bx.setFar {w : World} {g b j : Nat} {t : TypeId} {x y : Value} (h : Bx w g t x y) (hne : g ≠ b) (v : Value) : Bx (w.setCell ⟨b, j, none⟩ v) g t x y := (Below.heap_setCell _ _ _ _ hne).trans h
end Go.Proofs.YtcdefpfnjjahgaaDoor
