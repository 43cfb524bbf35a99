/- Of how many rows of inputs there are; which may be asked. -/
import Derived.Test.YteaionmjbkildabDoorBo
import Derived.Test.YteaionmjbkildabDoorProg
import Derived.WalkKit
namespace Go.Proofs.YteaionmjbkildabDoor
open Go.RowKit
set_option linter.unusedVariables false
set_option linter.unusedSimpArgs false
set_option maxRecDepth 100000

/-- May so many states and inputs be? -/
def maB (s n : Int) : Bool := decide (1 ≤ s) && (decide (s ≤ 256) && (decide (0 ≤ n) && decide (n ≤ 16)))
theorem ma1 (s n : Int) (h1 : ¬ 1 ≤ s) (w : World) : Calls Tryd.prog 46 #[.int .i64 s, .int .i64 n] w fun e w' => e = .returned (.bool false) ∧ w' = w := by
  go_enter Tryd.func46, Tryd.ntmps46
  go_wp2
  go_ret
  exact ⟨rfl, rfl⟩
theorem ma2 (s n : Int) (h1 : 1 ≤ s) (h2 : ¬ s ≤ 256) (w : World) : Calls Tryd.prog 46 #[.int .i64 s, .int .i64 n] w fun e w' => e = .returned (.bool false) ∧ w' = w := by
  go_enter Tryd.func46, Tryd.ntmps46
  go_wp2
  go_ret
  exact ⟨rfl, rfl⟩
theorem ma3 (s n : Int) (h1 : 1 ≤ s) (h2 : s ≤ 256) (h3 : ¬ 0 ≤ n) (w : World) : Calls Tryd.prog 46 #[.int .i64 s, .int .i64 n] w fun e w' => e = .returned (.bool false) ∧ w' = w := by
  go_enter Tryd.func46, Tryd.ntmps46
  go_wp2
  go_ret
  exact ⟨rfl, rfl⟩
theorem ma4 (s n : Int) (h1 : 1 ≤ s) (h2 : s ≤ 256) (h3 : 0 ≤ n) (h4 : ¬ n ≤ 16) (w : World) : Calls Tryd.prog 46 #[.int .i64 s, .int .i64 n] w fun e w' => e = .returned (.bool false) ∧ w' = w := by
  go_enter Tryd.func46, Tryd.ntmps46
  go_wp2
  go_ret
  exact ⟨rfl, rfl⟩
theorem ma5 (s n : Int) (h1 : 1 ≤ s) (h2 : s ≤ 256) (h3 : 0 ≤ n) (h4 : n ≤ 16) (w : World) : Calls Tryd.prog 46 #[.int .i64 s, .int .i64 n] w fun e w' => e = .returned (.bool true) ∧ w' = w := by
  go_enter Tryd.func46, Tryd.ntmps46
  go_wp2
  go_ret
  exact ⟨rfl, rfl⟩
theorem mayAskC (s n : Int) (w : World) : Calls Tryd.prog 46 #[.int .i64 s, .int .i64 n] w fun e w' => e = .returned (.bool (maB s n)) ∧ w' = w := by
  unfold maB
  by_cases h1 : 1 ≤ s
  · by_cases h2 : s ≤ 256
    · by_cases h3 : 0 ≤ n
      · by_cases h4 : n ≤ 16
        · rw [decide_eq_true h1, decide_eq_true h2, decide_eq_true h3, decide_eq_true h4]; exact ma5 s n h1 h2 h3 h4 w
        · rw [decide_eq_true h1, decide_eq_true h2, decide_eq_true h3, decide_eq_false h4]; exact ma4 s n h1 h2 h3 h4 w
      · rw [decide_eq_true h1, decide_eq_true h2, decide_eq_false h3]; exact ma3 s n h1 h2 h3 w
    · rw [decide_eq_true h1, decide_eq_false h2]; exact ma2 s n h1 h2 w
  · rw [decide_eq_false h1]; exact ma1 s n h1 w
theorem pow_up {s i n : Nat} (h1 : 1 ≤ s) (h : i ≤ n) : s ^ i ≤ s ^ n := Nat.pow_le_pow_right h1 h
set_option maxHeartbeats 400000 in
theorem canGoC (s n : Nat) (h1 : 1 ≤ s) (h2 : s ≤ 256) (hn : n ≤ 16) (w : World) : Calls Tryd.prog 52 #[.int .i64 s, .int .i64 n] w fun e w' => e = .returned (.bool (decide (s ^ n ≤ 1048576))) ∧ w' = w := by
  go_enter Tryd.func52, Tryd.ntmps52
  go_wp2
  go_loopw [5, 7] (fun c v wr => ∃ i p : Nat, i ≤ n ∧ Hid (p = s ^ i) ∧ Hid (p ≤ 1048576) ∧ c = .int .i64 p ∧ v = .int .i64 i ∧ w = wr) (fun _ v _ => n - (intOf v).toNat)
  case atStart => exact ⟨0, 1, by omega, rfl, (by decide : (1 : Nat) ≤ 1048576), rfl, rfl, rfl⟩
  case round =>
    obtain ⟨i, p, hi, hp, hb, rfl, rfl, rfl⟩ := hrel
    by_cases hlt : i < n
    · have hlt' : (i : Int) < (n : Int) := by omega
      have hb' := hb.out
      have hm : p * s ≤ 1048576 * 256 := Nat.mul_le_mul hb' h2
      have wm : IntKind.i64.wrap ((p : Int) * (s : Int)) = ((p * s : Nat) : Int) := by rw [show (p : Int) * (s : Int) = ((p * s : Nat) : Int) by simp, IntKind.wrap_i64]; omega
      have hps : Hid (p * s = s ^ (i + 1)) := by unfold Hid; rw [Nat.pow_succ, ← hp.out]
      generalize hq : p * s = q at *
      by_cases hc : q ≤ 1048576
      · have hc' : ¬ (1048576 : Int) < (q : Int) := by omega
        go_wp2
        first
          | (refine ⟨⟨i + 1, q, by omega, hps, hc, rfl, by go_num, by first | rfl | trivial⟩, ?_⟩; simp [intOf]; omega)
          | (go_roundw; (case rel => exact ⟨i + 1, q, by omega, hps, hc, rfl, by go_num, by first | rfl | trivial⟩); (case measure => (simp [intOf]; omega)))
      · have hc' : (1048576 : Int) < (q : Int) := by omega
        have hf : decide (s ^ n ≤ 1048576) = false := decide_eq_false (fun z => hc (by have := pow_up h1 (show i + 1 ≤ n by omega); rw [← hps.out] at this; omega))
        go_wp2
        go_ret
        exact ⟨by first | rfl | (rw [hf]; rfl), rfl⟩
    · have hlt' : ¬ (i : Int) < (n : Int) := by omega
      have e : i = n := by omega
      have hf : decide (s ^ n ≤ 1048576) = true := decide_eq_true (by rw [← e, ← hp.out]; exact hb.out)
      go_wp2
      go_ret
      exact ⟨by first | rfl | (rw [hf]; rfl), rfl⟩
/-- The document's Asks: the rows, or more than may be asked. -/
def askN (s : Nat) : Nat → Nat → Nat
  | 0, c => c
  | k + 1, c => if c ≤ 1048576 then askN s k (c * s) else c
theorem askN_stop (s : Nat) : ∀ k c, ¬ c ≤ 1048576 → askN s k c = c
  | 0, _, _ => rfl
  | k + 1, c, h => if_neg h
theorem askN_pow (s : Nat) (h1 : 1 ≤ s) : ∀ k c, 1 ≤ c → (askN s k c ≤ 1048576 ↔ c * s ^ k ≤ 1048576)
  | 0, c, _ => by simp [askN]
  | k + 1, c, hc => by
    unfold askN
    have hp : 1 ≤ s ^ k := Nat.one_le_pow _ _ h1
    split
    · rw [askN_pow s h1 k (c * s) (Nat.mul_pos hc h1), Nat.pow_succ, Nat.mul_assoc, Nat.mul_comm s (s ^ k)]
    · rename_i h
      have : c * 1 ≤ c * s ^ (k + 1) := Nat.mul_le_mul_left c (Nat.one_le_pow _ _ h1)
      omega
end Go.Proofs.YteaionmjbkildabDoor

