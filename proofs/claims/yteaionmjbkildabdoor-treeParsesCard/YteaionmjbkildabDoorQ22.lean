/- Whether a list is an order. -/
import Derived.Test.YteaionmjbkildabDoorQ21
namespace Go.Proofs.YteaionmjbkildabDoor
open Go.RowKit
set_option linter.unusedVariables false
set_option linter.unusedSimpArgs false
set_option maxRecDepth 100000

/-- The first n numbers of p are the numbers below n, each once. -/
def Ord (p : Nat → Int) (n : Nat) : Prop := ∀ i, i < n → 0 ≤ p i ∧ p i < (n : Int) ∧ ∀ j, j < i → p j ≠ p i
theorem infoBo : (Tryd.prog.info? 4).map (fun i => (i.zero, i.size, i.bytes)) = some (some (.bool false), 1, 1) := by kernel_rfl
theorem underBoS : Tryd.prog.underlying 118 = some (.slice 4) := by kernel_rfl
/-- Whether the number x is among the first k. -/
def met (p : Nat → Int) (k x : Nat) : Bool := (List.range k).any fun i => decide (p i = (x : Int))
theorem met_succ (p : Nat → Int) (k x : Nat) : met p (k + 1) x = (met p k x || decide (p k = (x : Int))) := by simp [met, List.range_succ]
theorem met_no {p : Nat → Int} {n k x : Nat} (h : Ord p n) (hk : k < n) (hx : p k = (x : Int)) : met p k x = false := by
  unfold met
  rw [List.any_eq_false]
  intro i hi
  have := (h k hk).2.2 i (List.mem_range.1 hi)
  simp; omega

set_option maxHeartbeats 1000000 in
theorem isOrderY (sp : Option Addr) (n c : Nat) (p : Nat → Int) (hn : n ≤ 16) (hp : Ord p n) (w : World) (hI : In w sp n p) : Calls Tryd.prog 56 #[.slice sp n c, .int .i64 (n : Nat)] w fun e w' => e = .returned (.bool true) ∧ w.grownBy w' none := by
  have hmk := run_make_row' (P := Tryd.prog) 118 4 (.bool false) 1 underBoS infoBo rfl .i64 .i64 n (by omega) (by omega)
  obtain ⟨W1, hW1⟩ : ∃ W1, w.alloc (.cells (madeCells #[.bool false] n) 4) = W1 := ⟨_, rfl⟩
  have g1 : w.grownBy W1 none := (by rw [← hW1]; exact World.grownBy_alloc _ _ _)
  have R1 : W1.rowIs w.heap.size 4 n (fun x => .bool (met p 0 x)) := (by rw [← hW1]; exact World.rowIs_made w (.bool false) n 4)
  go_enter Tryd.func56, Tryd.ntmps56
  go_wp2
  go_loopw [16] (fun i wr => ∃ k : Nat, k ≤ n ∧ i = .int .i64 k ∧ wr.rowIs w.heap.size 4 n (fun x => .bool (met p k x)) ∧ w.grownBy wr none) (fun i _ => n - (intOf i).toNat)
  case atStart => exact ⟨0, Nat.zero_le _, rfl, R1, g1⟩
  case round =>
    obtain ⟨k, hk, rfl, Rk, Gk⟩ := hrel
    by_cases hlt : k < n
    · have hlt' : (k : Int) < (n : Int) := by omega
      obtain ⟨a, rfl⟩ := hI.some (by omega)
      obtain ⟨h0, h1, _⟩ := hp k hlt
      obtain ⟨x, hx⟩ := Int.eq_ofNat_of_zero_le h0
      have ak := (hI.kept Gk (by simp)).at hlt
      have hxn : x < n := by omega
      have hm := met_no hp hlt hx
      have HX : Hid (p k = (x : Int)) := hx
      rw [hx] at ak
      have r0 := World.rowIs.cell Rk (i := x) hxn
      rw [hm] at r0
      have r1 := World.rowIs.frozen Rk x
      clear h0 h1 hx hm
      go_wp2
      go_roundw
      case rel => exact ⟨k + 1, hlt, by go_num, World.rowIs.congr (World.rowIs.set Rk x (.bool true)) (fun i hi => by
        rw [met_succ, HX.out]
        by_cases e : i = x
        · subst e; simp
        · simp [e]; omega), gb_new Gk (Nat.le_refl _) _⟩
      case measure => simp [intOf]; omega
    · have hkn : k = n := by omega
      subst hkn
      go_wp2
      go_ret
      exact ⟨rfl, Gk⟩
end Go.Proofs.YteaionmjbkildabDoor
