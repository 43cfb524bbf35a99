/- Runs of package scan: what it answers. -/
import Derived.Test.YtimknahfgpafaaaDoorS6
import Derived.Deep.LoopGhost
import Derived.WalkMore
namespace Go.Proofs.YtimknahfgpafaaaDoor
open Go.RowKit
set_option linter.unusedVariables false
set_option linter.unusedSimpArgs false

abbrev Rn := Nat × ByteArray × Nat
/-- The runs' cells. -/
def rcs (l : List Rn) : List Value := l.flatMap fun r => [.int .i64 (r.1 : Nat), .string r.2.1, .int .i64 (r.2.2 : Nat)]
theorem rcs_nil : rcs [] = [] := rfl
theorem rcs_snoc (l : List Rn) (r : Rn) : rcs (l ++ [r]) = rcs l ++ [.int .i64 (r.1 : Nat), .string r.2.1, .int .i64 (r.2.2 : Nat)] := by
  unfold rcs; rw [List.flatMap_append]; rfl
theorem rcs_len (l : List Rn) : (rcs l).length = l.length * 3 := by
  induction l with
  | nil => rfl
  | cons r l ih => unfold rcs at ih ⊢; rw [List.flatMap_cons, List.length_append, ih, List.length_cons]; simp only [List.length_cons, List.length_nil]; omega
/-- The body of a pattern from i on, behind the runs l: the runs, or none; the place; the error. -/
def runsF : Nat → ByteArray → Nat → List Rn → Option (List Rn) × Nat × Nat
  | 0, s, _, _ => (none, s.size, 30)
  | f + 1, s, i, l =>
    if s.size ≤ i then (none, s.size, 30)
    else if Sc.whiteB (Sc.bt s i) = true then runsF f s (i + 1) l
    else if Sc.bt s i = 33 then (some l, i + 1, 0)
    else if cnB s i = false then (none, i, 11)
    else if s.size < dg s i + tl s (dg s i) then (none, s.size, 30)
    else if tgB s (dg s i) = false then (none, dg s i, 31)
    else runsF f s (dg s i + tl s (dg s i)) (l ++ [(cnV s i, tagAt s (dg s i), i)])
/-- The fuel does not matter. -/
theorem runsF_fuel (s : ByteArray) : ∀ (f k i : Nat) (l : List Rn), s.size < i + f → s.size < i + k → runsF f s i l = runsF k s i l
  | 0, 0, i, l, _, _ => rfl
  | 0, k + 1, i, l, h, h' => by rw [runsF, runsF, if_pos (by omega)]
  | f + 1, 0, i, l, h, h' => by rw [runsF, runsF, if_pos (by omega)]
  | f + 1, k + 1, i, l, h, h' => by
    rw [runsF, runsF]
    by_cases h0 : s.size ≤ i
    · rw [if_pos h0, if_pos h0]
    · have h1 := dg_ge (s := s) (i := i) (by omega)
      have h2 := tl_pos s (dg s i)
      rw [runsF_fuel s f k (i + 1) l (by omega) (by omega), runsF_fuel s f k (dg s i + tl s (dg s i)) _ (by omega) (by omega)]
def runsR (s : ByteArray) : Option (List Rn) × Nat × Nat := if 1048576 < s.size then (none, 0, 3) else runsF (s.size + 1) s 0 []

theorem info_parts {P : Program} {t : TypeId} {z : Value} {a b : Nat} (h : (P.info? t).map (fun i => (i.zero, i.size, i.bytes)) = some (some z, a, b)) : ∃ i, P.info? t = some i ∧ i.zero = some z ∧ i.size = a ∧ i.bytes = b := by
  obtain ⟨i, h1, h2⟩ := Option.map_eq_some_iff.1 h
  simp only [Prod.mk.injEq] at h2
  exact ⟨i, h1, h2⟩
theorem infoR3 : (Tryd.prog.info? 48).map (fun i => (i.zero, i.size, i.bytes)) = some (some (.agg #[.int .i64 0, .string ⟨#[]⟩, .int .i64 0]), 3, 32) := by kernel_rfl
theorem underRunS : Tryd.prog.underlying 42 = some (.slice 48) := by kernel_rfl
theorem new3 (w : World) (x y z : Value) (t : TypeId) : ∀ j u, [x, y, z][j]? = some u → (w.alloc (.cells #[x, y, z] t)).cell? ((⟨w.heap.size, 0, none⟩ : Addr).add j) = some u :=
  World.news_of_block (cs := #[x, y, z]) (heap_alloc_new w _)
theorem gb_row {a b c : World} {r : Option Nat} (h : a.grownBy b none) (k : b.grownBy c r) (hr : ∀ i, r = some i → a.heap.size ≤ i) : a.grownBy c none :=
  ⟨k.os.trans h.os, k.tape.trans h.tape, k.output.trans h.output, Nat.le_trans h.size k.size, fun i hi hne => (k.block i (Nat.lt_of_lt_of_le hi h.size) (fun e => by have := hr i e.symm; omega)).trans (h.block i hi hne)⟩
theorem Cu.ne {w : World} {b base n i k : Nat} {s : ByteArray} {v : Value} {xs : List Value} (h : Cu w b s i) (ho : w.ownsRow base 48 k v n xs) : some b ≠ v.ownBlock := by
  rcases ho.2 with ⟨rfl, _⟩ | ⟨g, cap, cur, rfl, _, hg, _⟩
  · simp [Value.ownBlock]
  · intro e
    simp only [Value.ownBlock, Option.some.injEq] at e
    subst e
    rw [h] at hg
    simp at hg
theorem own_drew {w : World} {base e size n k : Nat} {v : Value} {xs : List Value} (h : w.ownsRow base e size v n xs) : (w.drewN k).ownsRow base e size v n xs := h

theorem runsLong (s : ByteArray) (w : World) (hs : 1048576 < s.size) : Calls Tryd.prog 20 #[.string s] w fun e w' => e = .returned (.tuple #[.slice none 0 0, .int .i64 0, .int .i64 3]) ∧ w' = w := by
  have hs' : (1048576 : Int) < (s.size : Int) := by omega
  go_enter Tryd.func20, Tryd.ntmps20
  go_wp2
  go_step3
  go_wp2
  try rw [Exit.noGoto_ret]
  refine bodyPost_ret (results_tmp3 rfl _ _ _) rfl ?_
  exact ⟨rfl, rfl⟩

def Left (w : World) (R : Option (List Rn) × Nat × Nat) (e : Ending) (w' : World) : Prop :=
  ∃ v, e = .returned (.tuple #[v, .int .i64 (R.2.1 : Nat), .int .i64 (R.2.2 : Nat)]) ∧ w'.ownsRow w.heap.size 48 3 v (R.1.getD []).length (rcs (R.1.getD [])) ∧ w.grownBy w' none
theorem Left.none {w w' : World} {R : Option (List Rn) × Nat × Nat} {a b : Nat} (h : Hid (R = (.none, a, b))) (hg : w.grownBy w' .none) : Left w R (.returned (.tuple #[.slice .none 0 0, .int .i64 a, .int .i64 b])) w' := by
  unfold Left; rw [h.out]
  exact ⟨_, rfl, World.ownsRow_nil _ _ _ _, hg⟩

set_option maxRecDepth 100000 in
set_option maxHeartbeats 4000000 in
theorem runsShort (s : ByteArray) (w : World) (hs : s.size ≤ 1048576) (tp : TypeId) (p : Value) (hE : Hid (Er tp p w)) (hG : 4 < w.heap.size) : Calls Tryd.prog 20 #[.string s] w (Left w (runsF (s.size + 1) s 0 [])) := by
  have hs' : ¬ (1048576 : Int) < (s.size : Int) := by omega
  have hsm : s.size ≤ maxLen := by unfold maxLen; omega
  obtain ⟨i0, hi⟩ := info_parts infoR3
  have HI : Hid (Tryd.prog.info? 48 = some i0 ∧ i0.zero = some (.agg #[.int .i64 0, .string ⟨#[]⟩, .int .i64 0]) ∧ i0.size = 3 ∧ i0.bytes = 32) := hi
  clear hi
  go_enter Tryd.func20, Tryd.ntmps20
  go_wp2
  go_step3
  go_wp2_with (go_at_call 14; refine (newC _ _).mono ?_; rintro e w1 ⟨rfl, h1, g1⟩)
  go_step3
  go_wp2
  go_loopg [5] s.size (fun g v wr => ∃ (i : Nat) (l : List Rn), i + g = s.size ∧ Cu wr w.heap.size s i ∧ wr.ownsRow w.heap.size 48 3 v l.length (rcs l) ∧ l.length ≤ i ∧ Hid (runsF (g + 1) s i l = runsF (s.size + 1) s 0 []) ∧ w.grownBy wr none)
  case atStart => exact ⟨0, [], by omega, h1, World.ownsRow_nil _ _ _ _, Nat.zero_le _, rfl, g1⟩
  case round =>
    obtain ⟨i, l, hig, hC, hown, hll, HF, hg⟩ := hrel
    have HR : Hid (runsF (s.size + 1) s 0 [] = runsF (gk + 1) s i l) := HF.out.symm
    have hEr : Hid (Er tp p wr) := Er.below hE.out (gb_below hg) hG
    have hGr : 4 < wr.heap.size := Nat.lt_of_lt_of_le hG hg.size
    clear HF
    by_cases hlt : i < s.size
    · have hd : ((i : Int) == (s.size : Int)) = false := by simp; omega
      have hrow0 := hC.ne hown
      by_cases c32 : Sc.bt s i = 32
      · have e32 : ((Sc.bt s i : Int) == 32) = true := by simp; omega
        have HW : Hid (runsF (gk + 1) s i l = runsF gk s (i + 1) l) := by
          unfold Hid; rw [runsF, if_neg (by omega), if_pos (by unfold Sc.whiteB Sc.eqB; rw [c32]; rfl)]
        clear c32
        obtain ⟨q, rfl⟩ : ∃ q, gk = q + 1 := ⟨gk - 1, by omega⟩
        go_wp2_with (go_at_call 33; refine (doneC _ _ _ _ hC).mono ?_; rintro e w' ⟨rfl, k1, rfl⟩)
        refine wp_loop_rounds 5 ?_
        rw [rounds_succ]
        go_wp2_with (go_at_call 37; refine (takeYes _ _ s i _ (Cu.drew hC) hlt (by assumption) hsm).mono ?_; rintro e w2 ⟨rfl, h2, g2⟩)
        have G2 := gb_row (gb_drewN hg _) g2 (fun i e => by cases e; exact Nat.le_refl _)
        go_roundg q
        case rel => exact ⟨i + 1, l, by omega, h2, (own_drew hown).kept g2 (.inr (fun e => hrow0 e.symm)), by omega, by unfold Hid; rw [HR.out, HW.out], G2⟩
        case measure => omega
      have e32 : ((Sc.bt s i : Int) == 32) = false := by simp; omega
      by_cases c9 : Sc.bt s i = 9
      · have e9 : ((Sc.bt s i : Int) == 9) = true := by simp; omega
        have HW : Hid (runsF (gk + 1) s i l = runsF gk s (i + 1) l) := by
          unfold Hid; rw [runsF, if_neg (by omega), if_pos (by unfold Sc.whiteB Sc.eqB; rw [c9]; rfl)]
        clear c9
        obtain ⟨q, rfl⟩ : ∃ q, gk = q + 1 := ⟨gk - 1, by omega⟩
        go_wp2_with (go_at_call 33; refine (doneC _ _ _ _ hC).mono ?_; rintro e w' ⟨rfl, k1, rfl⟩)
        refine wp_loop_rounds 5 ?_
        rw [rounds_succ]
        go_wp2_with (go_at_call 37; refine (takeNo _ _ s i _ (Cu.drew hC) hlt (by assumption)).mono ?_; rintro e w' ⟨rfl, k2, rfl⟩)
        rw [rounds_succ]
        go_wp2_with (go_at_call 37; refine (takeYes _ _ s i _ (Cu.drew hC) hlt (by assumption) hsm).mono ?_; rintro e w2 ⟨rfl, h2, g2⟩)
        have G2 := gb_row (gb_drewN hg _) g2 (fun i e => by cases e; exact Nat.le_refl _)
        go_roundg q
        case rel => exact ⟨i + 1, l, by omega, h2, (own_drew hown).kept g2 (.inr (fun e => hrow0 e.symm)), by omega, by unfold Hid; rw [HR.out, HW.out], G2⟩
        case measure => omega
      have e9 : ((Sc.bt s i : Int) == 9) = false := by simp; omega
      by_cases c10 : Sc.bt s i = 10
      · have e10 : ((Sc.bt s i : Int) == 10) = true := by simp; omega
        have HW : Hid (runsF (gk + 1) s i l = runsF gk s (i + 1) l) := by
          unfold Hid; rw [runsF, if_neg (by omega), if_pos (by unfold Sc.whiteB Sc.eqB; rw [c10]; rfl)]
        clear c10
        obtain ⟨q, rfl⟩ : ∃ q, gk = q + 1 := ⟨gk - 1, by omega⟩
        go_wp2_with (go_at_call 33; refine (doneC _ _ _ _ hC).mono ?_; rintro e w' ⟨rfl, k1, rfl⟩)
        refine wp_loop_rounds 5 ?_
        rw [rounds_succ]
        go_wp2_with (go_at_call 37; refine (takeNo _ _ s i _ (Cu.drew hC) hlt (by assumption)).mono ?_; rintro e w' ⟨rfl, k2, rfl⟩)
        rw [rounds_succ]
        go_wp2_with (go_at_call 37; refine (takeNo _ _ s i _ (Cu.drew hC) hlt (by assumption)).mono ?_; rintro e w' ⟨rfl, k2, rfl⟩)
        rw [rounds_succ]
        go_wp2_with (go_at_call 37; refine (takeYes _ _ s i _ (Cu.drew hC) hlt (by assumption) hsm).mono ?_; rintro e w2 ⟨rfl, h2, g2⟩)
        have G2 := gb_row (gb_drewN hg _) g2 (fun i e => by cases e; exact Nat.le_refl _)
        go_roundg q
        case rel => exact ⟨i + 1, l, by omega, h2, (own_drew hown).kept g2 (.inr (fun e => hrow0 e.symm)), by omega, by unfold Hid; rw [HR.out, HW.out], G2⟩
        case measure => omega
      have e10 : ((Sc.bt s i : Int) == 10) = false := by simp; omega
      by_cases c13 : Sc.bt s i = 13
      · have e13 : ((Sc.bt s i : Int) == 13) = true := by simp; omega
        have HW : Hid (runsF (gk + 1) s i l = runsF gk s (i + 1) l) := by
          unfold Hid; rw [runsF, if_neg (by omega), if_pos (by unfold Sc.whiteB Sc.eqB; rw [c13]; rfl)]
        clear c13
        obtain ⟨q, rfl⟩ : ∃ q, gk = q + 1 := ⟨gk - 1, by omega⟩
        go_wp2_with (go_at_call 33; refine (doneC _ _ _ _ hC).mono ?_; rintro e w' ⟨rfl, k1, rfl⟩)
        refine wp_loop_rounds 5 ?_
        rw [rounds_succ]
        go_wp2_with (go_at_call 37; refine (takeNo _ _ s i _ (Cu.drew hC) hlt (by assumption)).mono ?_; rintro e w' ⟨rfl, k2, rfl⟩)
        rw [rounds_succ]
        go_wp2_with (go_at_call 37; refine (takeNo _ _ s i _ (Cu.drew hC) hlt (by assumption)).mono ?_; rintro e w' ⟨rfl, k2, rfl⟩)
        rw [rounds_succ]
        go_wp2_with (go_at_call 37; refine (takeNo _ _ s i _ (Cu.drew hC) hlt (by assumption)).mono ?_; rintro e w' ⟨rfl, k2, rfl⟩)
        rw [rounds_succ]
        go_wp2_with (go_at_call 37; refine (takeYes _ _ s i _ (Cu.drew hC) hlt (by assumption) hsm).mono ?_; rintro e w2 ⟨rfl, h2, g2⟩)
        have G2 := gb_row (gb_drewN hg _) g2 (fun i e => by cases e; exact Nat.le_refl _)
        go_roundg q
        case rel => exact ⟨i + 1, l, by omega, h2, (own_drew hown).kept g2 (.inr (fun e => hrow0 e.symm)), by omega, by unfold Hid; rw [HR.out, HW.out], G2⟩
        case measure => omega
      have e13 : ((Sc.bt s i : Int) == 13) = false := by simp; omega
      have HN : Hid (Sc.whiteB (Sc.bt s i) = false) := by unfold Hid Sc.whiteB Sc.eqB; rw [e32, e9, e10, e13]; rfl
      by_cases c33 : Sc.bt s i = 33
      · have e33 : ((Sc.bt s i : Int) == 33) = true := by simp; omega
        have HX : Hid (runsF (s.size + 1) s 0 [] = (some l, i + 1, 0)) := by unfold Hid; rw [HR.out, runsF, if_neg (by omega), if_neg (by rw [HN.out]; simp), if_pos c33]
        clear c33
        go_wp2_with (go_at_call 33; refine (doneC _ _ _ _ hC).mono ?_; rintro e w' ⟨rfl, k1, rfl⟩)
        refine wp_loop_rounds 5 ?_
        rw [rounds_succ]
        go_wp2_with (go_at_call 37; refine (takeNo _ _ s i _ (Cu.drew hC) hlt (by assumption)).mono ?_; rintro e w' ⟨rfl, k2, rfl⟩)
        rw [rounds_succ]
        go_wp2_with (go_at_call 37; refine (takeNo _ _ s i _ (Cu.drew hC) hlt (by assumption)).mono ?_; rintro e w' ⟨rfl, k2, rfl⟩)
        rw [rounds_succ]
        go_wp2_with (go_at_call 37; refine (takeNo _ _ s i _ (Cu.drew hC) hlt (by assumption)).mono ?_; rintro e w' ⟨rfl, k2, rfl⟩)
        rw [rounds_succ]
        go_wp2_with (go_at_call 37; refine (takeNo _ _ s i _ (Cu.drew hC) hlt (by assumption)).mono ?_; rintro e w' ⟨rfl, k2, rfl⟩)
        rw [rounds_succ]
        go_wp2_with (first | (go_at_call 37; refine (takeYes _ _ s i _ (Cu.drew hC) hlt (by assumption) hsm).mono ?_; rintro e w2 ⟨rfl, h2, g2⟩) | (go_at_call 17; refine (atC _ _ _ _ h2).mono ?_; rintro e w' ⟨rfl, rfl⟩))
        have G2 := gb_row (gb_drewN hg _) g2 (fun i e => by cases e; exact Nat.le_refl _)
        try rw [Exit.noGoto_ret]
        refine bodyPost_ret (results_tmp3 rfl _ _ _) rfl ?_
        unfold Left
        rw [HX.out]
        exact ⟨_, rfl, (own_drew hown).kept g2 (.inr (fun e => hrow0 e.symm)), G2⟩
      have e33 : ((Sc.bt s i : Int) == 33) = false := by simp; omega
      have HS : Hid (runsF (s.size + 1) s 0 [] = if cnB s i = false then (none, i, 11) else if s.size < dg s i + tl s (dg s i) then (none, s.size, 30) else if tgB s (dg s i) = false then (none, dg s i, 31) else runsF gk s (dg s i + tl s (dg s i)) (l ++ [(cnV s i, tagAt s (dg s i), i)])) := by
        unfold Hid; rw [HR.out, runsF, if_neg (by omega), if_neg (by rw [HN.out]; simp), if_neg c33]
      clear c32 c9 c10 c13 c33 HR
      have hgd := dg_ge (s := s) (i := i) (by omega)
      have htp := tl_pos s (dg s i)
      have hi' : i ≤ s.size := by omega
      cases hcn : cnB s i with
      | false =>
        have HX : Hid (runsF (s.size + 1) s 0 [] = (none, i, 11)) := by unfold Hid; rw [HS.out, if_pos hcn]
        have hcn' : Hid (cnB s i = false) := hcn
        clear hcn HS
        go_wp2_with (go_at_call 33; refine (doneC _ _ _ _ hC).mono ?_; rintro e w' ⟨rfl, k1, rfl⟩)
        refine wp_loop_rounds 5 ?_
        rw [rounds_succ]
        go_wp2_with (go_at_call 37; refine (takeNo _ _ s i _ (Cu.drew hC) hlt (by assumption)).mono ?_; rintro e w' ⟨rfl, k2, rfl⟩)
        rw [rounds_succ]
        go_wp2_with (go_at_call 37; refine (takeNo _ _ s i _ (Cu.drew hC) hlt (by assumption)).mono ?_; rintro e w' ⟨rfl, k2, rfl⟩)
        rw [rounds_succ]
        go_wp2_with (go_at_call 37; refine (takeNo _ _ s i _ (Cu.drew hC) hlt (by assumption)).mono ?_; rintro e w' ⟨rfl, k2, rfl⟩)
        rw [rounds_succ]
        go_wp2_with (go_at_call 37; refine (takeNo _ _ s i _ (Cu.drew hC) hlt (by assumption)).mono ?_; rintro e w' ⟨rfl, k2, rfl⟩)
        rw [rounds_succ]
        go_wp2_with (first | (go_at_call 37; refine (takeNo _ _ s i _ (Cu.drew hC) hlt (by assumption)).mono ?_; rintro e w' ⟨rfl, k2, rfl⟩) | (go_at_call 47; refine (runNoCount _ _ _ _ (Cu.drew hC) hsm hi' hcn' tp p (Er.hd hEr) hGr).mono ?_; rintro e w2 ⟨rfl, g2⟩))
        have G2 := gb_row (gb_drewN hg _) g2 (fun i e => by cases e; exact Nat.le_refl _)
        rw [Exit.noGoto_ret]
        refine bodyPost_ret (results_tmp3 rfl _ _ _) rfl ?_
        exact Left.none HX (gb_alloc G2 _)
      | true =>
        have hcn' : Hid (cnB s i = true) := hcn
        by_cases hj : s.size < dg s i + tl s (dg s i)
        · have HX : Hid (runsF (s.size + 1) s 0 [] = (none, s.size, 30)) := by unfold Hid; rw [HS.out, if_neg (by rw [hcn]; simp), if_pos hj]
          have hj' : Hid (s.size < dg s i + tl s (dg s i)) := hj
          clear hcn HS hj
          go_wp2_with (go_at_call 33; refine (doneC _ _ _ _ hC).mono ?_; rintro e w' ⟨rfl, k1, rfl⟩)
          refine wp_loop_rounds 5 ?_
          rw [rounds_succ]
          go_wp2_with (go_at_call 37; refine (takeNo _ _ s i _ (Cu.drew hC) hlt (by assumption)).mono ?_; rintro e w' ⟨rfl, k2, rfl⟩)
          rw [rounds_succ]
          go_wp2_with (go_at_call 37; refine (takeNo _ _ s i _ (Cu.drew hC) hlt (by assumption)).mono ?_; rintro e w' ⟨rfl, k2, rfl⟩)
          rw [rounds_succ]
          go_wp2_with (go_at_call 37; refine (takeNo _ _ s i _ (Cu.drew hC) hlt (by assumption)).mono ?_; rintro e w' ⟨rfl, k2, rfl⟩)
          rw [rounds_succ]
          go_wp2_with (go_at_call 37; refine (takeNo _ _ s i _ (Cu.drew hC) hlt (by assumption)).mono ?_; rintro e w' ⟨rfl, k2, rfl⟩)
          rw [rounds_succ]
          go_wp2_with (first | (go_at_call 37; refine (takeNo _ _ s i _ (Cu.drew hC) hlt (by assumption)).mono ?_; rintro e w' ⟨rfl, k2, rfl⟩) | (go_at_call 47; refine (runEarly _ _ _ _ (Cu.drew hC) hsm hi' hcn' hj' tp p (Er.hd hEr) hGr).mono ?_; rintro e w2 ⟨rfl, g2⟩))
          have G2 := gb_row (gb_drewN hg _) g2 (fun i e => by cases e; exact Nat.le_refl _)
          rw [Exit.noGoto_ret]
          refine bodyPost_ret (results_tmp3 rfl _ _ _) rfl ?_
          exact Left.none HX (gb_alloc G2 _)
        · have hj2 : dg s i + tl s (dg s i) ≤ s.size := by omega
          cases htg : tgB s (dg s i) with
          | false =>
            have HX : Hid (runsF (s.size + 1) s 0 [] = (none, dg s i, 31)) := by unfold Hid; rw [HS.out, if_neg (by rw [hcn]; simp), if_neg hj, if_pos htg]
            have htg' : Hid (tgB s (dg s i) = false) := htg
            clear hcn HS hj htg
            go_wp2_with (go_at_call 33; refine (doneC _ _ _ _ hC).mono ?_; rintro e w' ⟨rfl, k1, rfl⟩)
            refine wp_loop_rounds 5 ?_
            rw [rounds_succ]
            go_wp2_with (go_at_call 37; refine (takeNo _ _ s i _ (Cu.drew hC) hlt (by assumption)).mono ?_; rintro e w' ⟨rfl, k2, rfl⟩)
            rw [rounds_succ]
            go_wp2_with (go_at_call 37; refine (takeNo _ _ s i _ (Cu.drew hC) hlt (by assumption)).mono ?_; rintro e w' ⟨rfl, k2, rfl⟩)
            rw [rounds_succ]
            go_wp2_with (go_at_call 37; refine (takeNo _ _ s i _ (Cu.drew hC) hlt (by assumption)).mono ?_; rintro e w' ⟨rfl, k2, rfl⟩)
            rw [rounds_succ]
            go_wp2_with (go_at_call 37; refine (takeNo _ _ s i _ (Cu.drew hC) hlt (by assumption)).mono ?_; rintro e w' ⟨rfl, k2, rfl⟩)
            rw [rounds_succ]
            go_wp2_with (first | (go_at_call 37; refine (takeNo _ _ s i _ (Cu.drew hC) hlt (by assumption)).mono ?_; rintro e w' ⟨rfl, k2, rfl⟩) | (go_at_call 47; refine (runNoTag _ _ _ _ (Cu.drew hC) hsm hi' hcn' hj2 htg' tp p (Er.hd hEr) hGr).mono ?_; rintro e w2 ⟨rfl, g2⟩))
            have G2 := gb_row (gb_drewN hg _) g2 (fun i e => by cases e; exact Nat.le_refl _)
            rw [Exit.noGoto_ret]
            refine bodyPost_ret (results_tmp3 rfl _ _ _) rfl ?_
            exact Left.none HX (gb_alloc G2 _)
          | true =>
            have HX : Hid (runsF (s.size - (dg s i + tl s (dg s i)) + 1) s (dg s i + tl s (dg s i)) (l ++ [(cnV s i, tagAt s (dg s i), i)]) = runsF (s.size + 1) s 0 []) := by
              unfold Hid; rw [HS.out, if_neg (by rw [hcn]; simp), if_neg hj, if_neg (by rw [htg]; simp)]
              exact runsF_fuel s _ _ _ _ (by omega) (by omega)
            have htg' : Hid (tgB s (dg s i) = true) := htg
            clear hcn HS hj htg
            have hsz := hg.size
            go_wp2_with (go_at_call 33; refine (doneC _ _ _ _ hC).mono ?_; rintro e w' ⟨rfl, k1, rfl⟩)
            refine wp_loop_rounds 5 ?_
            rw [rounds_succ]
            go_wp2_with (go_at_call 37; refine (takeNo _ _ s i _ (Cu.drew hC) hlt (by assumption)).mono ?_; rintro e w' ⟨rfl, k2, rfl⟩)
            rw [rounds_succ]
            go_wp2_with (go_at_call 37; refine (takeNo _ _ s i _ (Cu.drew hC) hlt (by assumption)).mono ?_; rintro e w' ⟨rfl, k2, rfl⟩)
            rw [rounds_succ]
            go_wp2_with (go_at_call 37; refine (takeNo _ _ s i _ (Cu.drew hC) hlt (by assumption)).mono ?_; rintro e w' ⟨rfl, k2, rfl⟩)
            rw [rounds_succ]
            go_wp2_with (go_at_call 37; refine (takeNo _ _ s i _ (Cu.drew hC) hlt (by assumption)).mono ?_; rintro e w' ⟨rfl, k2, rfl⟩)
            rw [rounds_succ]
            go_wp2_with (first | (go_at_call 37; refine (takeNo _ _ s i _ (Cu.drew hC) hlt (by assumption)).mono ?_; rintro e w' ⟨rfl, k2, rfl⟩) | (go_at_call 47; refine (runOk _ _ _ _ (Cu.drew hC) hsm hi' hcn' hj2 htg' tp p (Er.hd hEr) hGr).mono ?_; rintro e w2 ⟨rfl, h2, g2⟩; have hown2 := (own_drew hown).kept g2 (.inr (fun e => hrow0 e.symm)); obtain ⟨W3, hW3, sz3, g3, hB3⟩ := box3 w2 (.int .i64 (cnV s i : Nat)) (.string (tagAt s (dg s i))) (.int .i64 i) 48; have hown3 := hown2.kept g3 (Classical.em _); have h3 := h2.kept g3 (by simp); have z0 := hB3.c0; have z1 := hB3.c1; have z2 := hB3.c2; have hb3 := Nat.le_trans hsz (Nat.le_trans g2.size g3.size)) | (at_builtin; refine wpList_append_own _ rfl _ _ 42 rfl w.heap.size 48 i0 (.agg #[.int .i64 0, .string ⟨#[]⟩, .int .i64 0]) 3 32 underRunS HI.out.1 HI.out.2.1 HI.out.2.2.1 HI.out.2.2.2 rfl (by decide) _ _ _ rfl (hown3.alloc _) ⟨W3.heap.size, 0, none⟩ 1 1 [.int .i64 (cnV s i : Nat), .string (tagAt s (dg s i)), .int .i64 i] rfl rfl (new3 _ _ _ _ _) ?_ ?_ ?_ ?_ ?_; rotate_right; intro v4 w4 hown4 hgrow4 hnil4))
            · have HA := hown3.alloc (.cells #[.int .i64 (cnV s i : Nat), .string (tagAt s (dg s i)), .int .i64 i] 48)
              have h3a := h3.kept (World.grownBy_alloc W3 (.cells #[.int .i64 (cnV s i : Nat), .string (tagAt s (dg s i)), .int .i64 i] 48) none) (by simp)
              have h4 := h3a.kept hgrow4 (h3a.ne HA)
              have G4 := gb_row (gb_alloc (gb_trans (gb_row (gb_drewN hg _) g2 (fun i e => by cases e; exact Nat.le_refl _)) g3) _) hgrow4 (fun i e => (HA.lt i e).1)
              go_wp2
              go_roundg (s.size - (dg s i + tl s (dg s i)))
              case rel =>
                refine ⟨dg s i + tl s (dg s i), l ++ [(cnV s i, tagAt s (dg s i), i)], by omega, h4, ?_, ?_, HX, G4⟩
                · rw [rcs_snoc, List.length_append]; exact hown4
                · rw [List.length_append]; simp only [List.length_cons, List.length_nil]; omega
              case measure => omega
            · intro u hu
              simp at hu
              rcases hu with rfl | rfl | rfl <;> rfl
            · unfold maxLen; omega
            · omega
            · simp; omega

    · have hd : ((i : Int) == (s.size : Int)) = true := by simp; omega
      have HX : Hid (runsF (s.size + 1) s 0 [] = (none, s.size, 30)) := by unfold Hid; rw [HR.out, runsF, if_pos (by omega)]
      go_wp2_with (go_at_call 33; refine (doneC _ _ _ _ hC).mono ?_; rintro e w' ⟨rfl, k1, rfl⟩)
      try rw [Exit.noGoto_ret]
      refine bodyPost_ret (results_tmp3 rfl _ _ _) rfl ?_
      exact Left.none HX (gb_drewN hg _)
end Go.Proofs.YtimknahfgpafaaaDoor
