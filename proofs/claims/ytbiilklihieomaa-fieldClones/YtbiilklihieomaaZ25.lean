/- Same of fields of bytes. -/
import Derived.Test.YtbiilklihieomaaZ24
namespace Go.Proofs.Ytbiilklihieomaa
open Go.RowKit Go.Lib
set_option linter.unusedVariables false
set_option linter.unusedSimpArgs false
set_option maxRecDepth 100000

theorem made5 {V4 V5 : World} {C : Nat} (h : V4.alloc (.cells (madeCells #[.int .u8 0] C) 5) = V5) : V5.rowIs V4.heap.size 5 C (fun _ => .int .u8 0) := h ▸ World.rowIs_made V4 (.int .u8 0) C 5
theorem Sb.qlt' {w : World} {s q C R S : Nat} {g : Nat → Nat} (h : Sb w s q C R S g) : q < w.heap.size := by
  obtain ⟨K, _, _, f0, ⟨c, hc, _⟩, _⟩ := h.cap
  exact (Array.getElem?_eq_some_iff.1 hc).1
theorem Fb.keptN {w w' : World} {b s q C R S : Nat} {g : Nat → Nat} {r : Option Nat} (h : Fb w b s q C R S g) (hg : w.grownBy w' r) (hr : ∀ i, r = some i → b < i ∧ s < i ∧ q < i) : Fb w' b s q C R S g := by
  refine ⟨h.fld.kept hg (fun e => by have := hr _ e.symm; omega), ?_⟩
  obtain ⟨K, k1, k2, f0, k3, k4⟩ := h.st.cap
  exact ⟨K, k1.kept hg (fun e => by have := hr _ e.symm; omega), k2, f0, rowIs_kept k3 hg (fun e => by have := hr _ e.symm; omega), k4⟩
theorem by_row' {w : World} {d n : Nat} {f : Nat → Nat} (h : w.rowIs d 5 n (fun x => .int .u8 (f x : Nat))) : By w (some ⟨d, 0, none⟩) n f := fun k hk => ⟨_, rfl, by rw [add_mid, Nat.zero_add]; exact h.cell hk⟩
theorem region_cut {c : Code} {P : Program} {K : Act → World → Prop} {Q : Exit → Act → World → Prop} {a : Act} {w : World} (X : Act → World → Prop) (h : c.wp P (Exit.then X (fun _ _ _ => False)) a w) (hX : ∀ a w, X a w → K a w) : c.wp P (Exit.then K Q) a w := by
  refine Code.wp_mono ?_ h
  intro e a w he
  cases e <;> first | exact hX _ _ he | exact he.elim

set_option maxHeartbeats 2000000 in
theorem fSame (b s q b2 s2 q2 C R S : Nat) (g g2 : Nat → Nat) (hz : Sz C R S) (w : World) (h : Fb w b s q C R S g) (h2 : Fb w b2 s2 q2 C R S g2) (r : Bool) (hr : r = decide (∀ k, k < C * R → g k = g2 k)) : Calls Try.prog 30 #[.pointer (some ⟨b, 0, none⟩), .pointer (some ⟨b2, 0, none⟩)] w fun e w' => e = .returned (.bool r) ∧ w.grownBy w' none := by
  have HR : Hid (r = decide (∀ k, k < C * R → g k = g2 k)) := hr
  clear hr
  have h0 := h.cell
  have h20 := h2.cell
  have hl1 := lacksN b s q C R S g w.drew ⟨h.fld, ⟨h.st.cap⟩⟩
  have hl2 := lacksN b2 s2 q2 C R S g2 w.drew ⟨h2.fld, ⟨h2.st.cap⟩⟩
  have hd : Fb w.drew b s q C R S g := ⟨h.fld, ⟨h.st.cap⟩⟩
  have hd2 : Fb w.drew b2 s2 q2 C R S g2 := ⟨h2.fld, ⟨h2.st.cap⟩⟩
  have hm1 := m_measure hd.st
  have hm2 := m_measure hd2.st
  have qz : ∀ w : World, (binOp .neq 78 (.agg #[.int .i64 (C : Nat), .int .i64 (R : Nat), .int .i64 (S : Nat)]) (.agg #[.int .i64 (C : Nat), .int .i64 (R : Nat), .int .i64 (S : Nat)])).run Try.prog w = .ok (.bool false) w := fun w => by go_simp
  go_enter Try.func30, Try.ntmps30
  go_wp2
  refine region_cut (fun a' w' => a' = { tmps := #[.pointer (some ⟨b, 0, none⟩), .pointer (some ⟨b2, 0, none⟩), undef, undef, .bool false, undef, undef, undef, .pointer (some ⟨b, 0, none⟩), .bool false, .bool false, .pointer (some ⟨b2, 0, none⟩), .bool false, .bool false, .bool false, .pointer (some ⟨b, 0, none⟩), .pointer (some ⟨b, 0, none⟩), .pointer (some ⟨b, 0, none⟩), .iface 108 (.pointer (some ⟨s, 0, none⟩)), .agg #[.int .i64 (C : Nat), .int .i64 (R : Nat), .int .i64 (S : Nat)], .pointer (some ⟨b2, 0, none⟩), .pointer (some ⟨b2, 0, none⟩), .pointer (some ⟨b2, 0, none⟩), .iface 108 (.pointer (some ⟨s2, 0, none⟩)), .agg #[.int .i64 (C : Nat), .int .i64 (R : Nat), .int .i64 (S : Nat)], .bool false, .bool false, undef, undef, undef, undef, undef, undef, undef, undef, undef, undef, undef, undef, undef, undef, undef, undef, undef, undef, undef, undef, undef, undef, undef, undef, undef, undef, undef, undef, undef, undef], defers := [] } ∧ w.grownBy w' none) ?_ ?_
  case refine_2 =>
    rintro a' W3 ⟨rfl, g3⟩
    have hF3 := h.kept g3
    have hG3 := h2.kept g3
    have hc1 := hz.c1
    have hmk := run_make_row' (P := Try.prog) 39 5 (.int .u8 0) 1 under8S info8 rfl .i64 .i64 C (by omega) (by omega)
    have hW3 := fW b s q C R S g W3.drew ⟨hF3.fld, ⟨hF3.st.cap⟩⟩
    have hD3 : Fb W3.drew b s q C R S g := ⟨hF3.fld, ⟨hF3.st.cap⟩⟩
    go_wp2
    refine region_cut (fun a' w' => ∃ d1 d2, a' = { tmps := #[.pointer (some ⟨b, 0, none⟩), .pointer (some ⟨b2, 0, none⟩), undef, undef, .bool false, .slice (some ⟨d1, 0, none⟩) C C, .slice (some ⟨d2, 0, none⟩) C C, undef, .pointer (some ⟨b, 0, none⟩), .bool false, .bool false, .pointer (some ⟨b2, 0, none⟩), .bool false, .bool false, .bool false, .pointer (some ⟨b, 0, none⟩), .pointer (some ⟨b, 0, none⟩), .pointer (some ⟨b, 0, none⟩), .iface 108 (.pointer (some ⟨s, 0, none⟩)), .agg #[.int .i64 (C : Nat), .int .i64 (R : Nat), .int .i64 (S : Nat)], .pointer (some ⟨b2, 0, none⟩), .pointer (some ⟨b2, 0, none⟩), .pointer (some ⟨b2, 0, none⟩), .iface 108 (.pointer (some ⟨s2, 0, none⟩)), .agg #[.int .i64 (C : Nat), .int .i64 (R : Nat), .int .i64 (S : Nat)], .bool false, .bool false, .pointer (some ⟨b, 0, none⟩), .int .i64 (C : Nat), .slice (some ⟨d1, 0, none⟩) C C, .pointer (some ⟨b, 0, none⟩), .int .i64 (C : Nat), .slice (some ⟨d2, 0, none⟩) C C, undef, undef, undef, undef, undef, undef, undef, undef, undef, undef, undef, undef, undef, undef, undef, undef, undef, undef, undef, undef, undef, undef, undef, undef], defers := [] } ∧ d1 ≠ d2 ∧ W3.heap.size ≤ d1 ∧ W3.heap.size ≤ d2 ∧ w'.rowIs d1 5 C (fun _ => .int .u8 0) ∧ w'.rowIs d2 5 C (fun _ => .int .u8 0) ∧ W3.grownBy w' none) ?_ ?_
    case refine_2 =>
      rintro a' W4 ⟨d1, d2, rfl, hne, ld1, ld2, r1, r2, g4⟩
      have hF4 := hF3.kept g4
      have hG4 := hG3.kept g4
      go_wp2_with (go_at_call 25; refine (fH b s q C R S g W4 hF4).mono ?_; rintro e W5 ⟨rfl, g5⟩)
      have hrd := fun w => m_read s w
      have hrd2 := fun w => m_read s2 w
      have lb := hF3.fld.lt
      have ls := hF3.st.slt
      have lq := hF3.st.qlt'
      have lb2 := hG3.fld.lt
      have ls2 := hG3.st.slt
      have lq2 := hG3.st.qlt'
      go_loopw [35] (fun i wr => ∃ k : Nat, k ≤ R ∧ i = .int .i64 k ∧ (∀ j, j < k * C → g j = g2 j) ∧ W3.grownBy wr none ∧ (∃ f1, wr.rowIs d1 5 C f1) ∧ ∃ f2, wr.rowIs d2 5 C f2) (fun i _ => R - (intOf i).toNat)
      case atStart => exact ⟨0, Nat.zero_le _, rfl, fun j hj => absurd hj (by omega), gb_trans g4 g5, ⟨_, rowIs_kept r1 g5 (by simp)⟩, ⟨_, rowIs_kept r2 g5 (by simp)⟩⟩
      case round =>
        obtain ⟨k, hk, rfl, hall, Gk, ⟨f1, q1⟩, ⟨f2, q2r⟩⟩ := hrel
        have hr1 := hz.r1
        by_cases hlt : k < R
        · have hlt' : (k : Int) < (R : Int) := by omega
          have hFk := hF3.kept Gk
          have hGk := hG3.kept Gk
          have v0 := hFk.cell
          have hrc := readC s q C R S g hz k hlt d1 C f1 wr hFk.st q1
          obtain ⟨rr, hrr⟩ : ∃ rr, rr = decide (∀ x, x < C → (fun x => g (k * C + x)) x = (fun x => g2 (k * C + x)) x) := ⟨_, rfl⟩
          have heq := fun w ha hb => equalT C hc1 (some ⟨d1, 0, none⟩) (some ⟨d2, 0, none⟩) C C (fun x => g (k * C + x)) (fun x => g2 (k * C + x)) w ha hb rr hrr
          have HRR : Hid (rr = decide (∀ x, x < C → (fun x => g (k * C + x)) x = (fun x => g2 (k * C + x)) x)) := hrr
          have hrow := row_le (C := C) hlt
          clear hrr
          cases rr with
          | false =>
            have hr0 : r = false := by
              rw [HR.out]
              refine decide_eq_false (fun h => ?_)
              have h1 := of_decide_eq_false HRR.out.symm
              exact h1 (fun x hx => h (k * C + x) (by omega))
            subst hr0
            go_wp2_with (first | ((fail_if_success (guard_hyp ga)); go_at_call 117; refine hrc.mono ?_; rintro e A1 ⟨rfl, ra, ga⟩; have hGa := hGk.keptN ga (fun i e => by cases e; omega); have va := hGa.cell; have rb := rowIs_kept q2r ga (by simp; omega)) | (guard_hyp ga; go_at_call 117; refine (readC s2 q2 C R S g2 hz k hlt d2 C f2 A1 hGa.st rb).mono ?_; rintro e A2 ⟨rfl, rc, gb⟩; have rd := rowIs_kept ra gb (by simp; omega)) | (go_at_call 51; refine (heq A2 (by_row' rd) (by_row' rc)).mono ?_; rintro e A3 ⟨rfl, m, hm⟩))
            go_ret
            refine ⟨rfl, ?_⟩
            have hh := gb_past (gb_past Gk ga ld1) gb ld2
            exact gb_trans g3 (gb_drewN hh m)
          | true =>
            have hall2 : Hid (∀ j, j < (k + 1) * C → g j = g2 j) := fun j hj => by
              have h1 := of_decide_eq_true HRR.out.symm
              by_cases hjk : j < k * C
              · exact hall j hjk
              · rw [Nat.add_mul, Nat.one_mul] at hj
                have := h1 (j - k * C) (by omega)
                dsimp only at this
                rwa [show k * C + (j - k * C) = j by omega] at this
            go_wp2_with (first | ((fail_if_success (guard_hyp ga)); go_at_call 117; refine hrc.mono ?_; rintro e A1 ⟨rfl, ra, ga⟩; have hGa := hGk.keptN ga (fun i e => by cases e; omega); have va := hGa.cell; have rb := rowIs_kept q2r ga (by simp; omega)) | (guard_hyp ga; go_at_call 117; refine (readC s2 q2 C R S g2 hz k hlt d2 C f2 A1 hGa.st rb).mono ?_; rintro e A2 ⟨rfl, rc, gb⟩; have rd := rowIs_kept ra gb (by simp; omega)) | (go_at_call 51; refine (heq A2 (by_row' rd) (by_row' rc)).mono ?_; rintro e A3 ⟨rfl, m, hm⟩))
            have hh := gb_past (gb_past Gk ga ld1) gb ld2
            refine ⟨⟨k + 1, hlt, by go_num, hall2.out, gb_drewN hh m, ⟨_, rd⟩, ⟨_, rc⟩⟩, by simp [intOf]; omega⟩
        · have hkn : ¬ ((k : Int) < (R : Int)) := by omega
          obtain rfl : R = k := by omega
          have hr0 : r = true := by rw [HR.out]; exact decide_eq_true (fun j hj => hall j (by rw [Nat.mul_comm]; exact hj))
          subst hr0
          go_wp2
          go_ret
          exact ⟨rfl, gb_trans g3 Gk⟩
    go_region_with (first | (go_at_call 24; (fail_if_success (guard_hyp g4)); refine hW3.mono ?_; rintro e V4 ⟨rfl, g4⟩; have hF4 := hD3.kept g4; obtain ⟨V5, hV5, sz5, g5, B5⟩ := boxn V4 (madeCells #[.int .u8 0] C) 5; have hF5 := hF4.kept g5) | (go_at_call 24; guard_hyp g4; refine (fW b s q C R S g _ (by first | exact hF4 | exact hF5)).mono ?_; rintro e V6 ⟨rfl, g6⟩))
    all_goals have gd : W3.grownBy V4 none := gb_trans (gb_drew (World.grownBy.refl _ _)) g4
    all_goals have l4 := gd.size
    all_goals have l6 := g6.size
    all_goals have l5 := g5.size
    all_goals have rm := World.rowIs_made V6 (.int .u8 0) C 5
    all_goals have rn := World.rowIs_made (V6.alloc (.cells (madeCells #[.int .u8 0] C) 5)) (.int .u8 0) C 5
    all_goals rw [World.size_alloc] at rn
    all_goals have ro := rowIs_kept rm (World.grownBy_alloc (V6.alloc (.cells (madeCells #[.int .u8 0] C) 5)) (.cells (madeCells #[.int .u8 0] C) 5) none) (by simp)
    all_goals first
      | exact ⟨V6.heap.size, V6.heap.size + 1, rfl, by omega, by omega, by omega, ro, rn, gb_alloc (gb_alloc (gb_trans gd g6) _) _⟩
      | exact ⟨V6.heap.size + 1, V6.heap.size, rfl, by omega, by omega, by omega, rn, ro, gb_alloc (gb_alloc (gb_trans gd g6) _) _⟩
      | exact ⟨V4.heap.size, V6.heap.size, rfl, by have := (B5.kept g6 (by simp)).lt; omega, by omega, by omega, rowIs_kept (rowIs_kept (made5 hV5) g6 (by simp)) (World.grownBy_alloc _ _ none) (by simp), rm, gb_alloc (gb_trans gd (gb_trans g5 g6)) _⟩
  go_region_with (first | (go_at_call 46; (fail_if_success (guard_hyp mk1)); refine hl1.mono ?_; rintro e V ⟨rfl, hV⟩; subst V; have mk1 : True := trivial) | (go_at_call 46; guard_hyp mk1; refine hl2.mono ?_; rintro e V ⟨rfl, hV⟩; subst V) | (go_at_call 83; (fail_if_success (guard_hyp gV)); refine (measureC C R S w.drew).mono ?_; rintro e V ⟨rfl, gV⟩; have hF1 := hd2.kept gV; have v20 := hF1.cell; have hm3 := m_measure hF1.st) | (go_at_call 83; guard_hyp gV; refine (measureC C R S V).mono ?_; rintro e V2 ⟨rfl, gV2⟩))
  all_goals exact ⟨rfl, gb_trans (gb_drew (World.grownBy.refl _ _)) (gb_trans gV gV2)⟩
end Go.Proofs.Ytbiilklihieomaa
