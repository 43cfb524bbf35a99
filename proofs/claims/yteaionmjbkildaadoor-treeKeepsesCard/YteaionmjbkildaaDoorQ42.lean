/- isOrder of every list. -/
import Derived.Test.YteaionmjbkildaaDoorQ22
import Derived.Test.YteaionmjbkildaaDoorQ30
namespace Go.Proofs.YteaionmjbkildaaDoor
open Go.RowKit
set_option linter.unusedVariables false
set_option linter.unusedSimpArgs false
set_option maxRecDepth 100000

/-- The number at place i may stand there. -/
def Ok1 (p : Nat → Int) (n i : Nat) : Prop := 0 ≤ p i ∧ p i < (n : Int) ∧ ∀ j, j < i → p j ≠ p i
theorem met_yes {p : Nat → Int} {k x : Nat} (h : ¬ ∀ j, j < k → p j ≠ (x : Int)) : met p k x = true := by
  unfold met
  rw [List.any_eq_true]
  have : ∃ j, j < k ∧ p j = (x : Int) := Classical.byContradiction fun hn => h (fun j hj e => hn ⟨j, hj, e⟩)
  obtain ⟨j, hj, e⟩ := this
  exact ⟨j, List.mem_range.2 hj, by simp [e]⟩
theorem met_not {p : Nat → Int} {k x : Nat} (h : ∀ j, j < k → p j ≠ (x : Int)) : met p k x = false := by
  unfold met
  rw [List.any_eq_false]
  intro j hj
  simp [h j (List.mem_range.1 hj)]
theorem isOrderL (sp : Option Addr) (m c : Nat) (n : Int) (hn : (m : Int) ≠ n) (w : World) : Calls Tryd.prog 53 #[.slice sp m c, .int .i64 n] w fun e w' => e = .returned (.bool false) ∧ w.grownBy w' none := by
  have y : ((m : Int) != n) = true := by simp [hn]
  go_enter Tryd.func53, Tryd.ntmps53
  go_wp2
  go_ret
  exact ⟨rfl, World.grownBy.refl _ _⟩
set_option maxHeartbeats 1000000 in
theorem isOrderN (sp : Option Addr) (n c : Nat) (p : Nat → Int) (hn : n ≤ 16) (hp : ¬ Ord p n) (w : World) (hI : In w sp n p) : Calls Tryd.prog 53 #[.slice sp n c, .int .i64 (n : Nat)] w fun e w' => e = .returned (.bool false) ∧ w.grownBy w' none := by
  have hmk := run_make_row' (P := Tryd.prog) 106 4 (.bool false) 1 underBoS infoBo rfl .i64 .i64 n (by omega) (by omega)
  obtain ⟨W1, hW1⟩ : ∃ W1, w.alloc (.cells (madeCells #[.bool false] n) 4) = W1 := ⟨_, rfl⟩
  have g1 : w.grownBy W1 none := (by rw [← hW1]; exact World.grownBy_alloc _ _ _)
  have R1 : W1.rowIs w.heap.size 4 n (fun x => .bool (met p 0 x)) := (by rw [← hW1]; exact World.rowIs_made w (.bool false) n 4)
  have HP : Hid (¬ ∀ i, i < n → Ok1 p n i) := fun h => hp h
  clear hp
  go_enter Tryd.func53, Tryd.ntmps53
  go_wp2
  go_loopw [16] (fun i wr => ∃ k : Nat, k ≤ n ∧ i = .int .i64 k ∧ wr.rowIs w.heap.size 4 n (fun x => .bool (met p k x)) ∧ w.grownBy wr none ∧ ∀ i, i < k → Ok1 p n i) (fun i _ => n - (intOf i).toNat)
  case atStart => exact ⟨0, Nat.zero_le _, rfl, R1, g1, fun i hi => absurd hi (Nat.not_lt_zero _)⟩
  case round =>
    obtain ⟨k, hk, rfl, Rk, Gk, hok⟩ := hrel
    by_cases hlt : k < n
    · have hlt' : (k : Int) < (n : Int) := by omega
      obtain ⟨a, rfl⟩ := hI.some (by omega)
      have ak := (hI.kept Gk (by simp)).at hlt
      obtain ⟨z, hz⟩ : ∃ z, p k = z := ⟨_, rfl⟩
      have HZ : Hid (p k = z) := hz
      rw [hz] at ak
      clear hz
      by_cases h0 : z < 0
      · have y1 : decide (z < 0) = true := by simp [h0]
        clear hok
        go_wp2
        first | (go_ret; exact ⟨rfl, Gk⟩) | (go_quiet (fail); go_wp2; go_ret; exact ⟨rfl, gb_drewN Gk _⟩)
      · obtain ⟨x, rfl⟩ := Int.eq_ofNat_of_zero_le (show 0 ≤ z by omega)
        have y1 : decide ((x : Int) < 0) = false := by simp
        clear h0
        by_cases h1 : x < n
        · have y2 : decide (n ≤ x) = false := by simp; omega
          have r0 := World.rowIs.cell Rk (i := x) h1
          have r1 := World.rowIs.frozen Rk x
          have y3 : (x : Int) < (n : Int) := by omega
          by_cases h2 : ∀ j, j < k → p j ≠ (x : Int)
          · rw [met_not h2] at r0
            have HO : Hid (∀ i, i < k + 1 → Ok1 p n i) := fun i hi => by
              by_cases e : i = k
              · subst e
                exact ⟨by rw [HZ.out]; omega, by rw [HZ.out]; omega, fun j hj => by rw [HZ.out]; exact h2 j hj⟩
              · exact hok i (by omega)
            clear hok h2
            go_wp2
            go_roundw
            case rel => exact ⟨k + 1, hlt, by go_num, World.rowIs.congr (World.rowIs.set Rk x (.bool true)) (fun i hi => by
              rw [met_succ, HZ.out]
              by_cases e : i = x
              · subst e; simp
              · simp [e]; omega), gb_new Gk (Nat.le_refl _) _, HO.out⟩
            case measure => simp [intOf]; omega
          · rw [met_yes h2] at r0
            clear hok h2
            go_wp2
            first | (go_ret; exact ⟨rfl, Gk⟩) | (go_quiet (fail); go_wp2; go_ret; exact ⟨rfl, gb_drewN Gk _⟩)
        · have y2 : decide (n ≤ x) = true := by simp; omega
          clear hok
          go_wp2
          first | (go_ret; exact ⟨rfl, Gk⟩) | (go_quiet (fail); go_wp2; go_ret; exact ⟨rfl, gb_drewN Gk _⟩)
    · have hkn : k = n := by omega
      subst hkn
      exact absurd hok HP.out
end Go.Proofs.YteaionmjbkildaaDoor
