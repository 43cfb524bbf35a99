/- The document's Perm and Row. -/
import Derived.Test.YteaionmjbkildaaDoorQ42
namespace Go.Proofs.YteaionmjbkildaaDoor
open Go.RowKit
set_option linter.unusedVariables false
set_option linter.unusedSimpArgs false
set_option maxRecDepth 100000

theorem permL (sp : Option Addr) (m c : Nat) (n : Int) (hn : (m : Int) ≠ n) (w : World) : Calls Tryd.prog 55 #[.slice sp m c, .int .i64 n] w fun e w' => e = .returned (.bool false) ∧ w.grownBy w' none := by
  have y : ((m : Int) != n) = true := by simp [hn]
  go_enter Tryd.func55, Tryd.ntmps55
  go_wp2
  go_ret
  exact ⟨rfl, World.grownBy.refl _ _⟩
set_option maxHeartbeats 1000000 in
theorem permC (sp : Option Addr) (n c : Nat) (p : Nat → Int) (hn : n ≤ 16) (b : Bool) (hp : (Ord p n ∧ b = true) ∨ (¬ Ord p n ∧ b = false)) (w : World) (hI : In w sp n p) : Calls Tryd.prog 55 #[.slice sp n c, .int .i64 (n : Nat)] w fun e w' => e = .returned (.bool b) ∧ w.grownBy w' none := by
  have hmk := run_make_row' (P := Tryd.prog) 106 4 (.bool false) 1 underBoS infoBo rfl .i64 .i64 n (by omega) (by omega)
  obtain ⟨W1, hW1⟩ : ∃ W1, w.alloc (.cells (madeCells #[.bool false] n) 4) = W1 := ⟨_, rfl⟩
  have g1 : w.grownBy W1 none := (by rw [← hW1]; exact World.grownBy_alloc _ _ _)
  have R1 : W1.rowIs w.heap.size 4 n (fun x => .bool (met p 0 x)) := (by rw [← hW1]; exact World.rowIs_made w (.bool false) n 4)
  have HP : Hid ((Ord p n ∧ b = true) ∨ (¬ Ord p n ∧ b = false)) := hp
  clear hp
  have hee : ((n : Int) != (n : Int)) = false := by simp
  go_enter Tryd.func55, Tryd.ntmps55
  go_wp2
  go_loopw [6] (fun i wr => ∃ k : Nat, k ≤ n ∧ i = .int .i64 k ∧ wr.rowIs w.heap.size 4 n (fun x => .bool (met p k x)) ∧ w.grownBy wr none ∧ ∀ i, i < k → Ok1 p n i) (fun i _ => n - (intOf i).toNat)
  case atStart => exact ⟨0, Nat.zero_le _, rfl, R1, g1, fun i hi => absurd hi (Nat.not_lt_zero _)⟩
  case round =>
    obtain ⟨k, hk, rfl, Rk, Gk, hok⟩ := hrel
    by_cases hlt : k < n
    · have hlt' : (k : Int) < (n : Int) := by omega
      obtain ⟨a, rfl⟩ := hI.some (by omega)
      have ak := (hI.kept Gk (by simp)).at hlt
      obtain ⟨z, hz⟩ : ∃ z, p k = z := ⟨_, rfl⟩
      have HZ : Hid (p k = z) := hz
      have HB : Hid (¬ Ok1 p n k → b = false) := fun h => by
        rcases HP.out with ⟨h1, _⟩ | ⟨_, h1⟩
        · exact absurd (h1 k hlt) h
        · exact h1
      rw [hz] at ak
      clear hz
      by_cases h0 : z < 0
      · obtain rfl := HB.out (fun h => by have := h.1; rw [HZ.out] at this; omega)
        have y1 : decide (z < 0) = true := by simp [h0]
        clear hok
        go_wp2
        go_ret
        exact ⟨rfl, Gk⟩
      · obtain ⟨x, rfl⟩ := Int.eq_ofNat_of_zero_le (show 0 ≤ z by omega)
        have y1 : decide ((x : Int) < 0) = false := by simp
        clear h0
        by_cases h1 : x < n
        · have y2 : decide (n ≤ x) = false := by simp; omega
          have r0 := World.rowIs.cell Rk (i := x) h1
          have r1 := World.rowIs.frozen Rk x
          have y3 : (x : Int) < (n : Int) := by omega
          by_cases h2 : ∀ j, j < k → p j ≠ (x : Int)
          · rw [met_not h2] at r0
            have HO : Hid (∀ i, i < k + 1 → Ok1 p n i) := fun i hi => by
              by_cases e : i = k
              · subst e
                exact ⟨by rw [HZ.out]; omega, by rw [HZ.out]; omega, fun j hj => by rw [HZ.out]; exact h2 j hj⟩
              · exact hok i (by omega)
            clear hok h2
            go_wp2
            go_roundw
            case rel => exact ⟨k + 1, hlt, by go_num, World.rowIs.congr (World.rowIs.set Rk x (.bool true)) (fun i hi => by
              rw [met_succ, HZ.out]
              by_cases e : i = x
              · subst e; simp
              · simp [e]; omega), gb_new Gk (Nat.le_refl _) _, HO.out⟩
            case measure => simp [intOf]; omega
          · obtain rfl := HB.out (fun h => h2 (fun j hj => by have := h.2.2 j hj; rw [HZ.out] at this; exact this))
            rw [met_yes h2] at r0
            clear hok h2
            go_wp2
            go_ret
            exact ⟨rfl, Gk⟩
        · obtain rfl := HB.out (fun h => by have := h.2.1; rw [HZ.out] at this; omega)
          have y2 : decide (n ≤ x) = true := by simp; omega
          clear hok
          go_wp2
          go_ret
          exact ⟨rfl, Gk⟩
    · have hkn : ¬ ((k : Int) < (n : Int)) := by omega
      obtain rfl : b = true := by
        rcases HP.out with ⟨_, h1⟩ | ⟨h1, _⟩
        · exact h1
        · exact absurd (fun i hi => hok i (by omega)) h1
      clear hok
      go_wp2
      go_ret
      exact ⟨rfl, Gk⟩

/-- The i-th input of row number k. -/
def dgN (S I k i : Nat) : Nat := k / S ^ (I - 1 - i) % S
set_option maxHeartbeats 1000000 in
theorem rowC (S I k : Nat) (h1 : 1 ≤ S) (hS : S ≤ 256) (hI : I ≤ 16) (hk : k ≤ 1048576) (w : World) : Calls Tryd.prog 56 #[.int .i64 (S : Nat), .int .i64 (I : Nat), .int .i64 (k : Nat)] w fun e w' => e = .returned (.slice (some ⟨w.heap.size, 0, none⟩) I I) ∧ w'.rowIs w.heap.size 5 I (fun i => .int .u8 (dgN S I k i : Nat)) ∧ w.grownBy w' none := by
  have hmk := run_make_row' (P := Tryd.prog) 31 5 (.int .u8 0) 1 under8S info8 rfl .i64 .i64 I (by omega) (by omega)
  obtain ⟨W1, hW1⟩ : ∃ W1, w.alloc (.cells (madeCells #[.int .u8 0] I) 5) = W1 := ⟨_, rfl⟩
  have g1 : w.grownBy W1 none := (by rw [← hW1]; exact World.grownBy_alloc _ _ _)
  have R1 : W1.rowIs w.heap.size 5 I (fun _ => .int .u8 0) := (by rw [← hW1]; exact World.rowIs_made w (.int .u8 0) I 5)
  go_enter Tryd.func56, Tryd.ntmps56
  go_wp2
  go_loopw [8, 2] (fun i v wr => ∃ d : Nat, d ≤ I ∧ i = .int .i64 ((I : Int) - 1 - (d : Int)) ∧ v = .int .i64 (k / S ^ d : Nat) ∧ wr.rowIs w.heap.size 5 I (fun i => .int .u8 ((if I - 1 - i < d then dgN S I k i else 0 : Nat))) ∧ w.grownBy wr none) (fun i _ _ => (intOf i + 1).toNat)
  case atStart => exact ⟨0, Nat.zero_le _, by simp, by simp, R1, g1⟩
  case round =>
    obtain ⟨d, hd, rfl, rfl, Rd, Gd⟩ := hrel
    by_cases hlt : d < I
    · obtain ⟨e, he⟩ : ∃ e : Nat, I = d + 1 + e := ⟨I - d - 1, by omega⟩
      have hi : (I : Int) - 1 - (d : Int) = (e : Int) := by omega
      obtain ⟨x, hx⟩ : ∃ x : Nat, k / S ^ d = x := ⟨_, rfl⟩
      have HX : Hid (k / S ^ d = x) := hx
      have hxk : x ≤ 1048576 := by rw [← hx]; exact Nat.le_trans (Nat.div_le_self _ _) hk
      rw [hi, hx]
      have r0 := World.rowIs.cell Rd (i := e) (by omega)
      have r1 := World.rowIs.frozen Rd e
      have y1 : (e : Int) < (I : Int) := by omega
      have y2 : (0 : Int) ≤ (e : Int) := by omega
      have y3 : (S : Int) ≠ 0 := by omega
      have y4 : (x : Int) % (S : Int) % 256 = (x : Int) % (S : Int) := by
        have := Int.emod_nonneg (x : Int) y3
        have := Int.emod_lt_of_pos (x : Int) (show (0 : Int) < (S : Int) by omega)
        omega
      have HE : Hid (I = d + 1 + e) := he
      clear hx hi he
      go_wp2
      go_roundw
      case rel =>
        have hq : (x : Int) / (S : Int) = ((x / S : Nat) : Int) := by simp
        have hle : x / S ≤ x := Nat.div_le_self _ _
        refine ⟨d + 1, hlt, ?_, ?_, World.rowIs.congr (World.rowIs.set Rd e (.int .u8 ((x : Int) % (S : Int)))) (fun i hi => ?_), gb_new Gd (Nat.le_refl _) _⟩
        · have := HE.out
          congr 1
          omega
        · rw [hq, show S ^ (d + 1) = S ^ d * S from Nat.pow_succ S d, ← Nat.div_div_eq_div_mul, HX.out]
          obtain ⟨y, hy⟩ : ∃ y, x / S = y := ⟨_, rfl⟩
          rw [hy] at hle ⊢
          rw [show wrap64 (y : Int) = (y : Int) by unfold wrap64; omega]
        · have hE := HE.out
          by_cases e1 : i = e
          · subst e1
            have e2 : I - 1 - i = d := by omega
            simp [e2, dgN, HX.out]
          · by_cases e2 : I - 1 - i < d
            · simp [e1, e2, show I - 1 - i < d + 1 by omega]
            · simp [e1, e2, show ¬ I - 1 - i < d + 1 by omega]
      case measure => simp [intOf]
    · have hdI : d = I := by omega
      subst hdI
      have hi : (d : Int) - 1 - (d : Int) = -1 := by omega
      rw [hi]
      clear hi
      have RF : wr.rowIs w.heap.size 5 d (fun i => .int .u8 (dgN S d k i : Nat)) := World.rowIs.congr Rd (fun i hi => by simp [show d - 1 - i < d by omega])
      go_wp2
      go_ret
      exact ⟨rfl, RF, Gd⟩
end Go.Proofs.YteaionmjbkildaaDoor
