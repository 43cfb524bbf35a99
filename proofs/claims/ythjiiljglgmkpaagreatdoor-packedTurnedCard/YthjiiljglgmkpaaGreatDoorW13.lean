/- What Not, And, Or and Xor of package words answer, of rows that may be. -/
import Derived.Test.YthjiiljglgmkpaaGreatDoorWd
namespace Go.Proofs.YthjiiljglgmkpaaGreatDoor.Wo
open Go.RowKit
set_option linter.unusedVariables false

theorem box4 (w : World) (x0 x1 x2 x3 : Value) (t : TypeId) : ∃ W1, w.alloc (.cells #[x0, x1, x2, x3] t) = W1 ∧ W1.cell? ⟨w.heap.size, 0, none⟩ = some x0 ∧ W1.cell? ⟨w.heap.size, 1, none⟩ = some x1 ∧ W1.cell? ⟨w.heap.size, 2, none⟩ = some x2 ∧ W1.cell? ⟨w.heap.size, 3, none⟩ = some x3 ∧ w.grownBy W1 none :=
  ⟨_, rfl, by simp [World.cell?_alloc_at], by simp [World.cell?_alloc_at], by simp [World.cell?_alloc_at], by simp [World.cell?_alloc_at], World.grownBy_alloc _ _ _⟩


def notQ (m : Nat) (p : Nat → Bool) (j : Nat) : Bool := decide (j < m) && !p j
theorem notC (m n cap : Nat) (sp : Option Addr) (p : Nat → Bool) (M : MayBe m n p) (w : World) (hc : Wd w sp n (Pk.pack p)) :
    Calls Tryz.prog 22 #[.agg #[.int .i64 m, .slice sp n cap]] w fun e w' => ∃ b, e = .returned (.tuple #[.agg #[.int .i64 m, .slice (some ⟨b, 0, none⟩) n n], .int .i64 0]) ∧ Row w' 37 b n (notQ m p) ∧ w.grownBy w' none ∧ w.heap.size ≤ b := by
  obtain ⟨W1, hW, c0, c1, sz, hg1, hB⟩ := box2 w (.int .i64 m) (.slice sp n cap) 33
  obtain ⟨W2, hW2, d0, d1, sz2, hg2, hD⟩ := box2 W1 (.int .i64 0) (.slice none 0 0) 33
  have hc2 := (hc.kept hg1 (by simp)).kept hg2 (by simp)
  have hB2 := hB.kept hg2 (by simp)
  have e0 := hB2.cell0
  have e1 := hB2.cell1
  have hnl := (MayBe.len M)
  have ml := M.le
  have mw : Hid (n = (m + 63) / 64) := M.words
  go_enter Tryz.func22, Tryz.ntmps22
  go_wp2_with (first | (go_at_call 24; refine (validP m n cap sp p M W2 hc2).mono ?_; rintro e w3 ⟨rfl, g3⟩; have hB3 := hB2.kept g3 (by simp); have x0 := hB3.cell0; have x1 := hB3.cell1; have hc3 := hc2.kept g3 (by simp)) | (go_at_call 50; refine (copiedC m n cap sp p ml mw.out w3 hc3).mono ?_; rintro e w4 ⟨b, rfl, hr, g4, hlt, hlt2⟩; obtain ⟨W5, hW5, y0, y1, sz5, g5, hU⟩ := box2 w4 (.int .i64 m) (.slice (some ⟨b, 0, none⟩) n n) 33; have g45 := gb_trans g4 g5))
  have hr5 := hr.kept g5 (by simp)
  have hD5 := (hD.kept g3 (by simp)).kept g45 (by simp)
  have q1 : w.heap.size < W1.heap.size := by have := sz.out; omega
  have q2 : W1.heap.size < W2.heap.size := by have := sz2.out; omega
  have q3 := g3.size
  have q4 := hlt2.out
  have q5 := g4.size
  go_loopw [15] (fun i wr => ∃ k : Nat, k ≤ n ∧ i = .int .i64 k ∧ Row wr 37 b n (fun j => if j < 64 * k then !p j else p j) ∧ W5.grownBy wr (some b)) (fun i _ => n - (intOf i).toNat)
  case atStart => exact ⟨0, Nat.zero_le _, rfl, hr5.congr fun j hj => by simp, World.grownBy.refl _ _⟩
  case round =>
    obtain ⟨k, hk, rfl, hrk, hgk⟩ := hrel
    have hUk := hU.kept hgk (by simp; omega)
    have u0 := hUk.cell0
    have u1 := hUk.cell1
    by_cases hlt' : k < n
    · have hek : Pk.pack (fun j => if j < 64 * k then !p j else p j) k = Pk.pack p k := Pk.pack_congr fun j hj => by rw [if_neg (by omega)]
      have hkc := World.rowIs.cell hrk hlt'
      have hkf := World.rowIs.frozen hrk k
      simp only [hek] at hkc
      have hkl : (k : Int) < (n : Int) := by omega
      have hx : bits .xor .u64 (Pk.pack p k : Int) 18446744073709551615 = ((Pk.pack p k ^^^ 18446744073709551615 : Nat) : Int) := bits_xor_u64_nat (Pk.pack p k) 18446744073709551615 (Pk.pack_lt _ _) (by decide)
      rw [Pk.pack_not] at hx
      go_wp2
      go_roundw
      case rel => exact ⟨k + 1, by omega, by go_num, hrk.set (Pk.pack_congr fun j hj => by rw [if_pos (by omega)]) (fun i hi hne => by
        by_cases h : i < 64 * k
        · rw [if_pos h, if_pos (by omega)]
        · rw [if_neg h, if_neg (by omega)]), gb_set hgk _ _⟩
      case measure => simp [intOf]; omega
    · have hkn : k = n := by omega
      have hlt'' : ¬ (k : Int) < (n : Int) := by omega
      have hrn : Row wr 37 b n (fun j => !p j) := hrk.congr fun j hj => by rw [if_pos (by omega)]
      have hcr := cutC m b n n (fun j => !p j) ml mw.out wr hrn
      have hDr := hD5.kept hgk (by simp; omega)
      clear hkn
      go_wp2_with (first | (go_at_call 51; refine hcr.mono ?_; rintro e w6 ⟨rfl, hr6, g6⟩; have hU6 := hUk.kept g6 (by simp; omega); have s0 := hU6.cell0; have s1 := hU6.cell1; have hD6 := hDr.kept g6 (by simp; omega); have r2 := hD6.cell0; have r3 := hD6.cell1; have r4 := hD6.free0; have r5 := hD6.free1))
      obtain ⟨fs, hfs⟩ := underR
      refine ret_box2 (g := W1.heap.size) (t := 33) rfl hfs infoR rfl (hD6.set _ _) rfl ?_
      have hwb : w.heap.size ≤ b := by omega
      have hG5 : w.grownBy W5 none := gb_trans hg1 (gb_trans hg2 (gb_trans g3 g45))
      have hG6 : w.grownBy w6 none := gb_past (gb_past hG5 hgk hwb) g6 hwb
      have hbD : b ≠ W1.heap.size := by omega
      exact ⟨b, rfl, Row.congr (World.rowIs.setOther (World.rowIs.setOther hr6 hbD _) hbD _) (fun j hj => by unfold notQ; rw [Bool.and_comm]), gb_new (gb_new hG6 (Nat.le_of_lt q1) _) (Nat.le_of_lt q1) _, hwb⟩

end Go.Proofs.YthjiiljglgmkpaaGreatDoor.Wo
