/- The walk of PlainReads. -/
import Derived.Test.YtjacoifhjfipaaaAl
import Derived.Test.YtjacoifhjfipaaaRf
import Derived.Test.YtjacoifhjfipaaaAp
namespace Go.Proofs.Ytjacoifhjfipaaa
open Go.RowKit Ln
set_option linter.unusedVariables false
set_option linter.unusedSimpArgs false
set_option maxRecDepth 100000

theorem lnF_len (s : ByteArray) : ∀ (f i : Nat), i ≤ s.size → (lnF f s i).length ≤ s.size - i
  | 0, i, _ => by rw [lnF]; exact Nat.zero_le _
  | f + 1, i, hi => by
    rw [lnF]
    by_cases h : i < s.size
    · rw [if_pos h, List.length_cons]
      have hb := lx_bd h
      have := lnF_len s f (lx s i) (by omega)
      omega
    · rw [if_neg h]; exact Nat.zero_le _
theorem rdC_len (s : ByteArray) : (rdC s).length ≤ 1099512676352 := by
  unfold rdC
  split
  · exact Nat.zero_le _
  · rename_i hs
    split
    · exact Nat.zero_le _
    · have hl := lnF_len s
      have h1 := (rdF_len s (lns s).length (lns s) rfl).1
      have h2 : (lns s).length ≤ s.size := by have := hl (s.size + 1) 0 (Nat.zero_le _); unfold lns; omega
      have h3 : (lns s).length * s.size ≤ 1048576 * 1048576 := Nat.mul_le_mul (by omega) (by omega)
      show (rdF s (lns s)).2.1.length ≤ _
      omega
set_option maxHeartbeats 4000000 in
theorem reads_walk (s : ByteArray) (hs : s.size ≤ 9223372036854775807) (w : World) : Calls Try.prog 5 #[.string s] w fun e w' => e = .returned (.bool true) ∧ Below w.heap.size w w' := by
  have hlen := rdC_len s
  have r1 := refReadC s
  have r2 := readAll s
  unfold LeftR at r1 r2
  obtain ⟨l, hl⟩ : ∃ l, rdC s = l := ⟨_, rfl⟩
  obtain ⟨E, hE⟩ : ∃ E, rdE s = E := ⟨_, rfl⟩
  obtain ⟨p, hp⟩ : ∃ p, rdP s = p := ⟨_, rfl⟩
  simp only [hl, hE, hp] at r1 r2 hlen
  clear hl hE hp
  go_enter Try.func5, Try.ntmps5
  go_wp2_with (first
    | (go_at_call 9; refine (aliveC w).mono ?_; rintro e w1 ⟨rfl, g1⟩)
    | (go_at_call 17; refine (r1 w1).mono ?_; rintro e w2 ⟨v2, rfl, o2, g2⟩; obtain ⟨sp2, cp2, rfl, ce2, _⟩ := ce_of o2; have G2 := gb_trans g1 g2; clear o2)
    | (go_at_call 10; (fail_if_success (guard_hyp m1)); refine (r2 w2).mono ?_; rintro e w3 ⟨v3, rfl, o3, g3⟩; obtain ⟨sp3, cp3, rfl, ce3, hb3⟩ := ce_of o3; have G3 := gb_trans G2 g3; have m1 : True := trivial)
    | (go_at_call 10; guard_hyp m1; refine (r2 w3).mono ?_; rintro e w4 ⟨v4, rfl, o4, g4⟩; obtain ⟨sp4, cp4, rfl, ce4, hb4⟩ := ce_of o4; have G4 := gb_trans G3 g4)
    | (go_at_call 18; (fail_if_success (guard_hyp m2)); refine (sameC sp3 sp2 cp3 cp2 l l (by omega) (by omega) w4 (ce3.kept g4 (by simp)) (ce2.kept (gb_trans g3 g4) (by simp))).mono ?_; rintro e w5 ⟨he, g5⟩; rw [decide_eq_true rfl] at he; subst he; have G5 := gb_trans G4 g5; have m2 : True := trivial)
    | (go_at_call 18; guard_hyp m2; refine (sameC sp4 sp2 cp4 cp2 l l (by omega) (by omega) w5 (ce4.kept g5 (by simp)) (ce2.kept (gb_trans g3 (gb_trans g4 g5)) (by simp))).mono ?_; rintro e w6 ⟨he, g6⟩; rw [decide_eq_true rfl] at he; subst he; have G6 := gb_trans G5 g6)
    | (go_at_call 19; refine (apartC w.heap.size sp3 cp3 sp4 cp4 l l (by omega) (by omega) w6 (G6.size) (row_mono (o3.kept (gb_trans g4 (gb_trans g5 g6)) (Classical.em _)) (G2.size)) (row_mono (o4.kept (gb_trans g5 g6) (Classical.em _)) (G3.size)) (fun g e1 e2 => by have h1 := (o3.lt g e1).2; have h2 := (o4.lt g e2).1; omega)).mono ?_; rintro e w7 ⟨rfl, bel7⟩)
    | go_in)
  go_ret
  exact ⟨rfl, (gb_below G6).trans bel7⟩
end Go.Proofs.Ytjacoifhjfipaaa
