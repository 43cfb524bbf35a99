/- WordsEach, of every list of rows. -/
import Derived.Test.YtcdefpfnjjahgacW20
import Derived.Test.YtcdefpfnjjahgacW21
namespace Go.Proofs.Ytcdefpfnjjahgac
open Go.RowKit
set_option linter.unusedVariables false

theorem cn0 (P : Nat → Nat → Bool) : MayBe 0 0 (dgF P 0 0) := ⟨by decide, by decide, fun i hi => by unfold dgF; rw [cn]; simp⟩

set_option maxRecDepth 100000 in
set_option maxHeartbeats 4000000 in
theorem walkEach0 (cap : Nat) (sp : Option Addr) (w : World) :
    Calls Try.prog 3 #[.slice sp 0 cap] w fun e w' => e = .returned (.bool true) ∧ Below w.heap.size w w' := by
  have hcn := fun W => countC (fun _ _ => false) 0 0 0 0 0 none (fun _ => 0) (fun _ => none) (fun h => absurd h (Nat.not_lt_zero _)) (by decide) (by decide) (by decide) (fun _ => rfl) (fun j hj => absurd hj (Nat.not_lt_zero _)) W (fun j hj => absurd hj (Nat.not_lt_zero _))
  have hmk : ∀ w, (Instr.makeSlice 35 (.int .i64 0) (.int .i64 0)).run Try.prog w = .ok (.slice (some ⟨w.heap.size, 0, none⟩) 0 0) (w.alloc (.cells (madeCells #[.int .i64 0] 0) 3)) := fun w =>
    run_make_row' (P := Try.prog) 35 3 (.int .i64 0) 8 underIS infoI rfl .i64 .i64 0 (by decide) (by decide) w
  have MD : ∀ d, MayBe 0 0 (dgF (fun _ _ => false) 0 d) := fun d => ⟨by decide, by decide, fun i hi => by show (0 : Nat).testBit d = false; simp⟩
  have HMD : Hid (∀ d, MayBe 0 0 (dgF (fun _ _ => false) 0 d)) := MD
  clear MD
  go_enter Try.func3, Try.ntmps3
  go_wp2_with (first | (go_at_call 5; refine (aliveC w).mono ?_; rintro e w1 ⟨rfl, g1⟩))
  refine wp_loop_rounds 1 ?_
  rw [rounds_succ]
  go_wp2
  refine wp_loop_rounds 1 ?_
  rw [rounds_succ]
  go_wp2_with (first | (go_at_call 7; refine (hcn w1).mono ?_; rintro e w2 ⟨b0, b1, b2, b3, rfl, r0, r1, r2, r3, g2, _, _, _, _⟩; obtain ⟨W3, hW3, hC3, sz3, g3⟩ := box8 w2 32 (.int .i64 0) (.slice (some ⟨b0, 0, none⟩) 0 0) (.int .i64 0) (.slice (some ⟨b1, 0, none⟩) 0 0) (.int .i64 0) (.slice (some ⟨b2, 0, none⟩) 0 0) (.int .i64 0) (.slice (some ⟨b3, 0, none⟩) 0 0); obtain ⟨W4, hW4⟩ : ∃ W4, W3.alloc (.cells (madeCells #[.int .i64 0] 0) 3) = W4 := ⟨_, rfl⟩; have g4 : W3.grownBy W4 none := (by rw [← hW4]; exact World.grownBy_alloc _ _ _)))
  have G4 : w.grownBy W4 none := gb_trans g1 (gb_trans g2 (gb_trans g3 g4))
  have C4 := hC3.kept g4
  have R0 := (r0.kept g3 (by simp)).kept g4 (by simp)
  have R1 := (r1.kept g3 (by simp)).kept g4 (by simp)
  have R2 := (r2.kept g3 (by simp)).kept g4 (by simp)
  have R3 := (r3.kept g3 (by simp)).kept g4 (by simp)
  go_loopw [13] (fun x wr' => ∃ v : Nat, v ≤ 16 ∧ x = .int .i64 v ∧ W4.grownBy wr' none) (fun x _ => 16 - (intOf x).toNat)
  case atStart => exact ⟨0, by omega, rfl, World.grownBy.refl _ _⟩
  case round =>
    obtain ⟨v, hv, rfl, hgv⟩ := hrel
    by_cases hvl : v < 16
    · have v1 : (v : Int) < 16 := by omega
      have v2 : v ≤ 15 := by omega
      have C5 := C4.kept hgv
      have c0 := C5.c0
      have c1 := C5.c1
      have c2 := C5.c2
      have c3 := C5.c3
      have c4 := C5.c4
      have c5 := C5.c5
      have c6 := C5.c6
      have c7 := C5.c7
      have S0 := R0.kept hgv (by simp)
      have S1 := R1.kept hgv (by simp)
      have S2 := R2.kept hgv (by simp)
      have S3 := R3.kept hgv (by simp)
      have his := isC 0 0 v (fun _ => 0) (fun d => match d with | 0 => some ⟨b0, 0, none⟩ | 1 => some ⟨b1, 0, none⟩ | 2 => some ⟨b2, 0, none⟩ | _ => some ⟨b3, 0, none⟩) (dgF (fun _ _ => false) 0) (fun d _ => HMD.out d) v2 wr (fun d hd => by
        rcases (show d = 0 ∨ d = 1 ∨ d = 2 ∨ d = 3 by omega) with rfl | rfl | rfl | rfl
        · exact S0.wd
        · exact S1.wd
        · exact S2.wd
        · exact S3.wd)
      have MI : MayBe 0 0 (fun t => isN (dgF (fun _ _ => false) 0) v 4 t && decide (t < 0)) := ⟨by decide, by decide, fun i hi => by rw [decide_eq_false (by omega), Bool.and_false]⟩
      clear S0 S1 S2 S3
      go_wp2_with (first | (go_at_call 8; refine his.mono ?_; rintro e w5 ⟨bI, rfl, rI, g5, lI⟩; obtain ⟨W6, hW6, y0, y1, sz6, g6, hI6⟩ := box2 w5 (.int .i64 0) (.slice (some ⟨bI, 0, none⟩) 0 0) 28; have rI6 := Row.kept rI g6 (by simp)) | (go_at_call 9; refine (validP 0 0 0 (some ⟨bI, 0, none⟩) _ MI W6 rI6.wd).mono ?_; rintro e w7 ⟨rfl, g7⟩))
      refine wp_loop_rounds 1 ?_
      rw [rounds_succ]
      go_wp2
      go_roundw
      case rel => exact ⟨v + 1, by omega, by go_num, gb_trans hgv (gb_trans g5 (gb_trans g6 g7))⟩
      case measure => simp [intOf]; omega
    · have v1 : ¬ (v : Int) < 16 := by omega
      go_wp2
      refine wp_loop_rounds 1 ?_
      rw [rounds_succ]
      go_wp2
      go_ret
      exact ⟨rfl, gb_below (gb_trans G4 hgv)⟩

theorem walkEach (K cap : Nat) (sp : Option Addr) (AA : Nat → Option Addr) (L C : Nat → Nat) (BB : Nat → Nat → Bool) (hK : K ≤ cap ∧ cap ≤ 9223372036854775807) (w : World) (gd : Gd w sp K AA L C BB) :
    Calls Try.prog 3 #[.slice sp K cap] w fun e w' => e = .returned (.bool true) ∧ Below w.heap.size w w' := by
  by_cases h0 : K = 0
  · subst h0
    exact walkEach0 cap sp w
  · by_cases h1 : K ≤ 15
    · exact walkEachA K cap sp AA L C BB hK w gd ⟨by omega, h1⟩
    · exact walkEachB K cap sp AA L C BB hK w gd (by omega)

end Go.Proofs.Ytcdefpfnjjahgac
